/-
  Layer 5: contracts of the document's answers: refectoryref02.Is, .Fold; refectoryref05.letters, .asked.
-/
import Derived.Test.YtfligggojiboeaaDoorGlobD
import Derived.Test.YtfligggojiboeaaDoorRefU2
namespace Go.Proofs.YtfligggojiboeaaDoor
open Go.RowKit

theorem intsB_len (l : List UInt8) : (intsB l).length = l.length := by simp [intsB]
theorem intsB_bytes (l : List UInt8) : Bytes (intsB l) := fun x hx => by
  obtain ⟨b, _, rfl⟩ := List.mem_map.1 hx
  have := b.toNat_lt
  omega
theorem strOf_intsB (l : List UInt8) : strOfNums (intsB l) = ⟨l.toArray⟩ := by
  unfold strOfNums intsB
  rw [List.map_map]
  congr 2
  have e : l.map (((fun n : Int => UInt8.ofNat n.toNat)) ∘ fun b : UInt8 => (b.toNat : Int)) = l.map id := by
    apply List.map_congr_left
    intro b _
    simp
  exact e.trans (List.map_id l)

/-- one of the bytes of a text -/
theorem wpList_index_txt {ops : Array Oper} {rest : List Oper} {o : Oper} {a : Act} {w : World} {Q : Exit → Act → World → Prop} (hg : o.guard = none) (x y : Operand) (ho : o.op = .index 9 x y) (s : ByteArray) (hx : a.eval x = .string s) (i : Nat) (hy : a.eval y = .int .i64 i) (hi : i < s.size)
    (h : wpList Tryd.prog ops Q rest (a.put o.dst (.int .u8 ((intsB s.data.toList).getD i 0))) w) : wpList Tryd.prog ops Q (o :: rest) a w := by
  refine wpList_plain hg fun K hK => ?_
  unfold Oper.wp execOp
  have hv : (intsB s.data.toList).getD i 0 = (s[i]'hi).toNat := by
    have hi' : i < s.data.size := hi
    unfold intsB
    simp only [List.getD_eq_getElem?_getD, List.getElem?_map, Array.getElem?_toList, Array.getElem?_eq_getElem hi']
    rfl
  have hr : (Instr.index 9 (.string s) (.int .i64 i)).run Tryd.prog w = .ok (.int .u8 ((intsB s.data.toList).getD i 0)) w := by
    rw [run_index_string w 9 s .i64 i Tryd.underlying9, dif_pos ⟨by omega, by omega⟩, hv]
    rfl
  simp only [ho, hx, hy, hr, Sem.run_bind, Sem.run_pure, Result.andThen_ok]
  exact hK _ _ h

set_option maxHeartbeats 400000 in
theorem RIs_any (s : ByteArray) (w : World) (hs : s.size ≤ 4398046511104) :
    Calls Tryd.prog 21 #[.string s] w fun e w' => e = .returned (.bool (isText s.data.toList)) ∧ Below w.heap.size w w' := by
  have c1 := Letters_any s w hs
  unfold LettersPost at c1
  obtain ⟨t, ht⟩ : ∃ t, t = isText s.data.toList := ⟨_, rfl⟩
  rw [← ht] at c1 ⊢
  have C1 := Lib.hid c1
  clear c1 ht
  go_enter Tryd.func21, Tryd.ntmps21
  go_wp2_with fail
  refine C1.out.mono ?_
  rintro e w1 ⟨v, rfl, _, hb1⟩
  go_wp2
  go_ret
  exact ⟨rfl, hb1⟩

def lowI (c : Int) : Int := if 65 ≤ c ∧ c ≤ 90 then c + 32 else c
theorem intsB_low (l : List UInt8) : intsB (foldB l) = (intsB l).map lowI := by
  unfold intsB foldB
  rw [List.map_map, List.map_map]
  apply List.map_congr_left
  intro b _
  simp only [Function.comp, lowB_toNat]
  unfold lowI lowN
  split <;> split <;> omega

set_option maxRecDepth 100000 in
set_option maxHeartbeats 2000000 in
theorem RFold_any (s : ByteArray) (w : World) (hs : s.size ≤ 4398046511104) :
    Calls Tryd.prog 44 #[.string s] w fun e w' => e = .returned (.string ⟨(foldB s.data.toList).toArray⟩) ∧ Below w.heap.size w w' := by
  have hX := intsB_len s.data.toList
  rw [← Lib.size_eq] at hX
  have hby := intsB_bytes s.data.toList
  have hlo := intsB_low s.data.toList
  have hst := strOf_intsB (foldB s.data.toList)
  obtain ⟨X, hXX⟩ : ∃ X, X = intsB s.data.toList := ⟨_, rfl⟩
  obtain ⟨R, hR⟩ : ∃ R : ByteArray, R = ⟨(foldB s.data.toList).toArray⟩ := ⟨_, rfl⟩
  rw [← hXX] at hX hby hlo
  rw [hlo, ← hR] at hst
  rw [← hR]
  have HX := Lib.hid hX
  have HXX := Lib.hid hXX
  have HBY := Lib.hid hby
  have HST := Lib.hid hst
  clear hX hXX hby hlo hst hR
  go_enter Tryd.func44, Tryd.ntmps44
  go_wp2
  go_loopw [3, 4, 5] (fun v i _ wr => ∃ k : Nat, i = .int .i64 k ∧ k ≤ s.size ∧ Hid (OwnK .u8 5 wr w.heap.size v ((X.take k).map lowI)) ∧ Hid (Below w.heap.size w wr)) (fun _ i _ _ => s.size - (intOf i).toNat)
  case atStart => exact ⟨0, rfl, Nat.zero_le _, OwnK.nil _ _ _ _, Below.refl _ _⟩
  case round =>
    obtain ⟨k, rfl, hk, HO, HB⟩ := hrel
    have hbs := HB.out.size
    by_cases hlt : k < s.size
    · have hc := HBY.out.getD k
      obtain ⟨c, hcc⟩ : ∃ c, c = X.getD k 0 := ⟨_, rfl⟩
      rw [← hcc] at hc
      obtain ⟨hc0, hc1⟩ := hc
      have htk : (X.take (k + 1)).map lowI = (X.take k).map lowI ++ [lowI c] := by
        have := HX.out
        rw [List.take_succ_eq_append_getElem (by omega), List.map_append, hcc]
        simp [show k < X.length by omega]
      have hidx : (intsB s.data.toList).getD k 0 = c := by rw [hcc, HXX.out]
      have hlen : ((X.take k).map lowI).length ≤ k := by rw [List.length_map, List.length_take]; omega
      have HI := Lib.hid hidx
      clear hcc hidx
      by_cases hl : 65 ≤ c ∧ c ≤ 90
      · have e : lowI c = c + 32 := if_pos hl
        rw [e] at htk
        have HT := Lib.hid htk
        obtain ⟨hl0, hl1⟩ := hl
        clear htk e
        go_wp2_with (first
          | ((with_reducible show wpList _ _ _ (⟨some 14, _, _, _, _, _⟩ :: _) _ _); refine wpList_index_txt rfl (.tmp 12) (.tmp 13) rfl s rfl k rfl hlt ?_; rw [HI.out])
          | (at_builtin; go_loud (refine wpList_append_lit rfl (.tmp 23) (.tmp 25) .u8 43 5 1 Tryd.underlying43 info_u8 rfl w.heap.size _ _ [c + 32] _ rfl 1 1 rfl rfl rfl HO.out (by omega) (by omega) hbs ?_; intro v1 w1 ho1 hg1))
          | fail)
        have hb1 := Lib.hid (HB.out.trans (hg1.out.below HO.out hbs))
        rw [← HT.out] at ho1
        clear hg1
        go_roundw
        case rel => exact ⟨k + 1, by go_num, hlt, ho1, hb1⟩
        case measure => simp [intOf]; omega
      · have e : lowI c = c := if_neg hl
        rw [e] at htk
        have HT := Lib.hid htk
        have hl' : c < 65 ∨ 90 < c := by omega
        clear htk e hl
        rcases hl' with hl | hl
        all_goals
          go_wp2_with (first
            | ((with_reducible show wpList _ _ _ (⟨some 14, _, _, _, _, _⟩ :: _) _ _); refine wpList_index_txt rfl (.tmp 12) (.tmp 13) rfl s rfl k rfl hlt ?_; rw [HI.out])
            | (at_builtin; go_loud (refine wpList_append_lit rfl (.tmp 23) (.tmp 25) .u8 43 5 1 Tryd.underlying43 info_u8 rfl w.heap.size _ _ [c] _ rfl 1 1 rfl rfl rfl HO.out (by omega) (by omega) hbs ?_; intro v1 w1 ho1 hg1))
            | fail)
          have hb1 := Lib.hid (HB.out.trans (hg1.out.below HO.out hbs))
          rw [← HT.out] at ho1
          clear hg1
          go_roundw
          case rel => exact ⟨k + 1, by go_num, hlt, ho1, hb1⟩
          case measure => simp [intOf]; omega
    · have hcv := run_string_own (P := Tryd.prog) (src := 43) Tryd.underlying43 Tryd.underlying5 HO.out
      rw [List.take_of_length_le (by have := HX.out; omega), HST.out] at hcv
      have hkn : ¬ k < s.size := hlt
      clear HO
      go_wp2
      go_ret
      exact ⟨rfl, HB.out⟩

/-- what letters answers -/
def RLettersPost (w : World) (l : List UInt8) (e : Ending) (w' : World) : Prop :=
  ∃ v, e = .returned (.tuple #[v, .bool (isText l)]) ∧ OwnK .i64 3 w' w.heap.size v (foldedOf l) ∧ Below w.heap.size w w'

set_option maxHeartbeats 1000000 in
theorem RLetters_any (s : ByteArray) (w : World) (hs : s.size ≤ 4398046511104) :
    Calls Tryd.prog 36 #[.string s] w (RLettersPost w s.data.toList) := by
  have c1 := Lib.hid (RFold_any s w hs)
  have hxs : (⟨(foldB s.data.toList).toArray⟩ : ByteArray).size ≤ 4398046511104 := by rw [txt_size, foldB_length, ← Lib.size_eq]; exact hs
  have c2 := fun w => Letters_any ⟨(foldB s.data.toList).toArray⟩ w hxs
  have e1 : isText (⟨(foldB s.data.toList).toArray⟩ : ByteArray).data.toList = isText s.data.toList := isText_fold _
  have e2 : letters (⟨(foldB s.data.toList).toArray⟩ : ByteArray).data.toList = foldedOf s.data.toList := (foldedOf_eq _).symm
  unfold LettersPost at c2
  rw [e1, e2] at c2
  have hq : ∀ e w', (∃ v, e = .returned (.tuple #[v, .bool (isText s.data.toList)]) ∧ OwnK .i64 3 w' w.heap.size v (foldedOf s.data.toList) ∧ Below w.heap.size w w') → RLettersPost w s.data.toList e w' := fun _ _ h => h
  obtain ⟨X, hX⟩ : ∃ X : ByteArray, X = ⟨(foldB s.data.toList).toArray⟩ := ⟨_, rfl⟩
  obtain ⟨t, ht⟩ : ∃ t, t = isText s.data.toList := ⟨_, rfl⟩
  obtain ⟨L, hL⟩ : ∃ L, L = foldedOf s.data.toList := ⟨_, rfl⟩
  rw [← hX] at c1 c2
  rw [← ht, ← hL] at c2 hq
  have C2 := Lib.hid c2
  have HQ := Lib.hid hq
  clear c2 e1 e2 hxs hX ht hL hq
  go_enter Tryd.func36, Tryd.ntmps36
  go_wp2_with fail
  refine c1.out.mono ?_
  rintro e w1 ⟨rfl, hb1⟩
  go_wp2_with fail
  refine (C2.out _).mono ?_
  rintro e w2 ⟨v, rfl, ho2, hb2⟩
  have HO := Lib.hid ho2
  clear ho2
  go_wp2
  go_ret2
  exact HQ.out _ _ ⟨v, rfl, HO.out.mono hb1.size, step hb1 hb2⟩

/-- what asked answers -/
def AskedPost (w : World) (p t : List UInt8) (e : Ending) (w' : World) : Prop :=
  ∃ v u, e = .returned (.tuple #[v, u, .int .i64 (patErr p t)]) ∧ (patErr p t = 0 → OwnK .i64 3 w' w.heap.size v (foldedOf p) ∧ OwnK .i64 3 w' w.heap.size u (foldedOf t)) ∧ Below w.heap.size w w'

set_option maxHeartbeats 2000000 in
theorem asked_any (p s : ByteArray) (w : World) (hp : p.size ≤ 4398046511104) (hs : s.size ≤ 4398046511104) :
    Calls Tryd.prog 25 #[.string p, .string s] w (AskedPost w p.data.toList s.data.toList) := by
  have c1 := fun w => Lib.hid (RLetters_any p w hp)
  have c2 := fun w => Lib.hid (RLetters_any s w hs)
  unfold RLettersPost at c1 c2
  have lp := foldedOf_length p.data.toList
  have ls := foldedOf_length s.data.toList
  have hq : ∀ n, patErr p.data.toList s.data.toList = n → ∀ e w', (∃ v u, e = .returned (.tuple #[v, u, .int .i64 n]) ∧ (n = 0 → OwnK .i64 3 w' w.heap.size v (foldedOf p.data.toList) ∧ OwnK .i64 3 w' w.heap.size u (foldedOf s.data.toList)) ∧ Below w.heap.size w w') → AskedPost w p.data.toList s.data.toList e w' := fun n hn e w' h => by
    unfold AskedPost
    rw [hn]
    exact h
  by_cases tp' : isText p.data.toList = false
  · have HQ := Lib.hid (hq _ (patErr_form (.inl tp')))
    rw [tp'] at c1
    obtain ⟨t, ht⟩ : ∃ t, t = isText s.data.toList := ⟨_, rfl⟩
    rw [← ht] at c2
    clear hq tp' lp ls ht
    cases t
    all_goals
      go_enter Tryd.func25, Tryd.ntmps25
      go_wp2_with fail
      refine (c1 _).out.mono ?_
      rintro e w1 ⟨v, rfl, ho1, hb1⟩
      obtain ⟨A1, n1, k1, rfl, hn1, _, hm1, _, _⟩ := ho1.open
      have HO1 := Lib.hid ho1
      clear ho1
      go_wp2_with fail
      refine (c2 _).out.mono ?_
      rintro e w2 ⟨u, rfl, ho2, hb2⟩
      obtain ⟨A2, n2, k2, rfl, hn2, _, hm2, _, _⟩ := ho2.open
      have HO2 := Lib.hid ho2
      have HN1 := Lib.hid hn1
      have HN2 := Lib.hid hn2
      clear ho2 hn1 hn2
      go_wp2
      go_ret3
      exact HQ.out _ _ ⟨_, _, rfl, (fun h => absurd h (by decide)), step hb1 hb2⟩
  have tp : isText p.data.toList = true := by simpa using tp'
  rw [tp] at c1
  by_cases ts' : isText s.data.toList = false
  · have HQ := Lib.hid (hq _ (patErr_form (.inr ts')))
    rw [ts'] at c2
    clear hq tp tp' ts' lp ls
    go_enter Tryd.func25, Tryd.ntmps25
    go_wp2_with fail
    refine (c1 _).out.mono ?_
    rintro e w1 ⟨v, rfl, ho1, hb1⟩
    obtain ⟨A1, n1, k1, rfl, hn1, _, hm1, _, _⟩ := ho1.open
    have HO1 := Lib.hid ho1
    clear ho1
    go_wp2_with fail
    refine (c2 _).out.mono ?_
    rintro e w2 ⟨u, rfl, ho2, hb2⟩
    obtain ⟨A2, n2, k2, rfl, hn2, _, hm2, _, _⟩ := ho2.open
    have HO2 := Lib.hid ho2
    have HN1 := Lib.hid hn1
    have HN2 := Lib.hid hn2
    clear ho2 hn1 hn2
    go_wp2
    go_ret3
    exact HQ.out _ _ ⟨_, _, rfl, (fun h => absurd h (by decide)), step hb1 hb2⟩
  have ts : isText s.data.toList = true := by simpa using ts'
  rw [ts] at c2
  clear tp' ts'
  by_cases l1 : 64 < (letters p.data.toList).length
  · have HQ := Lib.hid (hq _ (patErr_limit tp ts (.inl l1)))
    rw [← lp] at l1
    have HL1 := Lib.hid l1
    clear hq tp ts lp ls l1
    go_enter Tryd.func25, Tryd.ntmps25
    go_wp2_with fail
    refine (c1 _).out.mono ?_
    rintro e w1 ⟨v, rfl, ho1, hb1⟩
    obtain ⟨A1, n1, k1, rfl, hn1, _, hm1, _, _⟩ := ho1.open
    have HO1 := Lib.hid ho1
    clear ho1
    go_wp2_with fail
    refine (c2 _).out.mono ?_
    rintro e w2 ⟨u, rfl, ho2, hb2⟩
    obtain ⟨A2, n2, k2, rfl, hn2, _, hm2, _, _⟩ := ho2.open
    have HO2 := Lib.hid ho2
    have HN1 := Lib.hid hn1
    have HN2 := Lib.hid hn2
    clear ho2 hn1 hn2
    have hgt : (64 : Int) < (n1 : Int) := by have := HL1.out; have := HN1.out; omega
    go_wp2
    go_ret3
    exact HQ.out _ _ ⟨_, _, rfl, (fun h => absurd h (by decide)), step hb1 hb2⟩
  by_cases l2 : 256 < (letters s.data.toList).length
  · have HQ := Lib.hid (hq _ (patErr_limit tp ts (.inr l2)))
    rw [← lp] at l1
    rw [← ls] at l2
    have HL1 := Lib.hid l1
    have HL2 := Lib.hid l2
    clear hq tp ts lp ls l1 l2
    go_enter Tryd.func25, Tryd.ntmps25
    go_wp2_with fail
    refine (c1 _).out.mono ?_
    rintro e w1 ⟨v, rfl, ho1, hb1⟩
    obtain ⟨A1, n1, k1, rfl, hn1, _, hm1, _, _⟩ := ho1.open
    have HO1 := Lib.hid ho1
    clear ho1
    go_wp2_with fail
    refine (c2 _).out.mono ?_
    rintro e w2 ⟨u, rfl, ho2, hb2⟩
    obtain ⟨A2, n2, k2, rfl, hn2, _, hm2, _, _⟩ := ho2.open
    have HO2 := Lib.hid ho2
    have HN1 := Lib.hid hn1
    have HN2 := Lib.hid hn2
    clear ho2 hn1 hn2
    have hle : (n1 : Int) ≤ 64 := by have := HL1.out; have := HN1.out; omega
    have hgt : (256 : Int) < (n2 : Int) := by have := HL2.out; have := HN2.out; omega
    go_wp2
    go_ret3
    exact HQ.out _ _ ⟨_, _, rfl, (fun h => absurd h (by decide)), step hb1 hb2⟩
  · have HQ := Lib.hid (hq _ (patErr_ok.2 ⟨tp, ts, by omega, by omega⟩))
    rw [← lp] at l1
    rw [← ls] at l2
    have HL1 := Lib.hid l1
    have HL2 := Lib.hid l2
    clear hq tp ts lp ls l1 l2
    go_enter Tryd.func25, Tryd.ntmps25
    go_wp2_with fail
    refine (c1 _).out.mono ?_
    rintro e w1 ⟨v, rfl, ho1, hb1⟩
    obtain ⟨A1, n1, k1, rfl, hn1, _, hm1, _, _⟩ := ho1.open
    have HO1 := Lib.hid ho1
    clear ho1
    go_wp2_with fail
    refine (c2 _).out.mono ?_
    rintro e w2 ⟨u, rfl, ho2, hb2⟩
    obtain ⟨A2, n2, k2, rfl, hn2, _, hm2, _, _⟩ := ho2.open
    have HO2 := Lib.hid ho2
    have HN1 := Lib.hid hn1
    have HN2 := Lib.hid hn2
    clear ho2 hn1 hn2
    have hle : (n1 : Int) ≤ 64 := by have := HL1.out; have := HN1.out; omega
    have hle2 : (n2 : Int) ≤ 256 := by have := HL2.out; have := HN2.out; omega
    go_wp2
    go_ret3
    exact HQ.out _ _ ⟨_, _, rfl, (fun _ => ⟨HO1.out.below hb2, HO2.out.mono hb1.size⟩), step hb1 hb2⟩
end Go.Proofs.YtfligggojiboeaaDoor
