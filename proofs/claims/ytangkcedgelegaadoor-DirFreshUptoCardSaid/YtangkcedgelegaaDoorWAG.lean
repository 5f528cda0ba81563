import Derived.WalkKit
import Derived.Deep.Draws
import Derived.Laws.Rows
import Derived.Laws.OwnMore
import Derived.Lib.RuneBytes
import Derived.Lib.ValidLaws
import Derived.Test.YtangkcedgelegaaDoorRows
import Derived.Laws.CopyOwn
import Derived.Laws.AppendOwnNone
import Derived.Lib.Hide
import Derived.Laws.AppendOwn
import Derived.OwnWalk
import Derived.Lib.OthersKept
import Derived.Laws.BytesArg
import Derived.Shelf.Utf8.AppendRunePlain
import Derived.Shelf.Utf8.RuneCount
import Derived.Shelf.LaysM
import Derived.Shelf.Strconv.Clone
import Derived.Shelf.Unicode.DecodeSlow
import Derived.Shelf.Unicode.DecodeAny
import Derived.Shelf.Slices.Turned
import Derived.Shelf.Unicode.ValidAny
import Derived.Test.YtangkcedgelegaaDoorProg
import Derived.WalkSpells
import Derived.WalkLawsBesides
import Derived.Deep.QuietTactic
import Derived.BigQuiet
import Derived.Laws.Bits64
import Derived.Laws.BitsAllLaws
import Derived.Laws.Tables
import Derived.Laws.NewFold
import Derived.Deep.WholeRow
import Derived.Deep.DeepCutAuto
import Derived.Laws.IdiomStrings
import Derived.Laws.Cover4
import Derived.Lib.RuneCount
import Derived.Lib.IndexLaws
import Derived.OneCell
import Derived.StillTailTactics
import Derived.WalkMore
import Derived.Deep.RegionLaw
import Derived.Deep.CutBlock
import Derived.ProofKit
import Derived.OpenShut
import Derived.ShutString
import Derived.SizedLaws
import Derived.ChangeOld
import Derived.Deep.Strs
import Derived.Lib.Join
import Derived.Deep.MidRow
import Derived.Lib.AppendZeros
import Derived.Deep.RegionWith
import Derived.Great.Walk
import Derived.Deep.Slices
import Derived.Lib.SliceRun
import Derived.Maps.AppendAt
import Derived.Lib.Overlaps
import Derived.OrdersHeld
import Derived.Laws.StructEq
import Derived.ChangeKeysEq
import Derived.Test.YtangkcedgelegaaDoorWAC
import Derived.Test.YtangkcedgelegaaDoorWAD
namespace Go.Proofs.YtangkcedgelegaaDoor
set_option linter.all false
open Go.Lib
/-- the bytes as numbers -/
def intsB (l : List UInt8) : List Int := l.map fun b => (b.toNat : Int)
end Go.Proofs.YtangkcedgelegaaDoor

namespace Go.Proofs.YtangkcedgelegaaDoor
set_option linter.all false
open Go.RowKit
theorem intsB_len (l : List UInt8) : (intsB l).length = l.length := by simp [intsB]
theorem intsB_bytes (l : List UInt8) : Bytes (intsB l) := fun x hx => by
  obtain ⟨b, _, rfl⟩ := List.mem_map.1 hx
  have := b.toNat_lt
  omega
theorem strOf_intsB (l : List UInt8) : strOfNums (intsB l) = ⟨l.toArray⟩ := by
  unfold strOfNums intsB
  rw [List.map_map]
  congr 2
  have e : l.map (((fun n : Int => UInt8.ofNat n.toNat)) ∘ fun b : UInt8 => (b.toNat : Int)) = l.map id := by
    apply List.map_congr_left
    intro b _
    simp
  exact e.trans (List.map_id l)
/-- one of the bytes of a text -/
theorem wpList_index_txt {ops : Array Oper} {rest : List Oper} {o : Oper} {a : Act} {w : World} {Q : Exit → Act → World → Prop} (hg : o.guard = none) (x y : Operand) (ho : o.op = .index 9 x y) (s : ByteArray) (hx : a.eval x = .string s) (i : Nat) (hy : a.eval y = .int .i64 i) (hi : i < s.size)
    (h : wpList Tryd.prog ops Q rest (a.put o.dst (.int .u8 ((intsB s.data.toList).getD i 0))) w) : wpList Tryd.prog ops Q (o :: rest) a w := by
  refine wpList_plain hg fun K hK => ?_
  unfold Oper.wp execOp
  have hv : (intsB s.data.toList).getD i 0 = (s[i]'hi).toNat := by
    have hi' : i < s.data.size := hi
    unfold intsB
    simp only [List.getD_eq_getElem?_getD, List.getElem?_map, Array.getElem?_toList, Array.getElem?_eq_getElem hi']
    rfl
  have hr : (Instr.index 9 (.string s) (.int .i64 i)).run Tryd.prog w = .ok (.int .u8 ((intsB s.data.toList).getD i 0)) w := by
    rw [run_index_string w 9 s .i64 i Tryd.underlying9, dif_pos ⟨by omega, by omega⟩, hv]
    rfl
  simp only [ho, hx, hy, hr, Sem.run_bind, Sem.run_pure, Result.andThen_ok]
  exact hK _ _ h
def lowI (c : Int) : Int := if 65 ≤ c ∧ c ≤ 90 then c + 32 else c
theorem intsB_low (l : List UInt8) : intsB (foldB l) = (intsB l).map lowI := by
  unfold intsB foldB
  rw [List.map_map, List.map_map]
  apply List.map_congr_left
  intro b _
  simp only [Function.comp, lowB_toNat]
  unfold lowI lowN
  split <;> split <;> omega
set_option maxRecDepth 100000 in
set_option maxHeartbeats 2000000 in
theorem RFold_any (s : ByteArray) (w : World) (hs : s.size ≤ 4398046511104) :
    Calls Tryd.prog 78 #[.string s] w fun e w' => e = .returned (.string ⟨(foldB s.data.toList).toArray⟩) ∧ Below w.heap.size w w' := by
  have hX := intsB_len s.data.toList
  rw [← Lib.size_eq] at hX
  have hby := intsB_bytes s.data.toList
  have hlo := intsB_low s.data.toList
  have hst := strOf_intsB (foldB s.data.toList)
  obtain ⟨X, hXX⟩ : ∃ X, X = intsB s.data.toList := ⟨_, rfl⟩
  obtain ⟨R, hR⟩ : ∃ R : ByteArray, R = ⟨(foldB s.data.toList).toArray⟩ := ⟨_, rfl⟩
  rw [← hXX] at hX hby hlo
  rw [hlo, ← hR] at hst
  rw [← hR]
  have HX := Lib.hid hX
  have HXX := Lib.hid hXX
  have HBY := Lib.hid hby
  have HST := Lib.hid hst
  clear hX hXX hby hlo hst hR
  go_enter Tryd.func78, Tryd.ntmps78
  go_wp2
  go_loopw [3, 4, 5] (fun v i _ wr => ∃ k : Nat, i = .int .i64 k ∧ k ≤ s.size ∧ Hid (OwnK .u8 5 wr w.heap.size v ((X.take k).map lowI)) ∧ Hid (Below w.heap.size w wr)) (fun _ i _ _ => s.size - (intOf i).toNat)
  case atStart => exact ⟨0, rfl, Nat.zero_le _, OwnK.nil _ _ _ _, Below.refl _ _⟩
  case round =>
    obtain ⟨k, rfl, hk, HO, HBl⟩ := hrel
    have hbs := HBl.out.size
    by_cases hlt : k < s.size
    · have hc := HBY.out.getD k
      obtain ⟨c, hcc⟩ : ∃ c, c = X.getD k 0 := ⟨_, rfl⟩
      rw [← hcc] at hc
      obtain ⟨hc0, hc1⟩ := hc
      have htk : (X.take (k + 1)).map lowI = (X.take k).map lowI ++ [lowI c] := by
        have := HX.out
        rw [List.take_succ_eq_append_getElem (by omega), List.map_append, hcc]
        simp [show k < X.length by omega]
      have hidx : (intsB s.data.toList).getD k 0 = c := by rw [hcc, HXX.out]
      have hlen : ((X.take k).map lowI).length ≤ k := by rw [List.length_map, List.length_take]; omega
      have HI := Lib.hid hidx
      clear hcc hidx
      by_cases hl : 65 ≤ c ∧ c ≤ 90
      · have e : lowI c = c + 32 := if_pos hl
        rw [e] at htk
        have HT := Lib.hid htk
        obtain ⟨hl0, hl1⟩ := hl
        clear htk e
        go_wp2_with (first
          | ((with_reducible show wpList _ _ _ (⟨some 14, _, _, _, _, _⟩ :: _) _ _); refine wpList_index_txt rfl (.tmp 12) (.tmp 13) rfl s rfl k rfl hlt ?_; rw [HI.out])
          | (at_builtin; go_loud (refine wpList_append_lit rfl (.tmp 23) (.tmp 25) .u8 70 5 1 Tryd.underlying70 info_u8 rfl w.heap.size _ _ [c + 32] _ rfl 1 1 rfl rfl rfl HO.out (by omega) (by omega) hbs ?_; intro v1 w1 ho1 hg1))
          | fail)
        have hb1 := Lib.hid (HBl.out.trans (hg1.out.below HO.out hbs))
        rw [← HT.out] at ho1
        clear hg1
        go_roundw
        case rel => exact ⟨k + 1, by go_num, hlt, ho1, hb1⟩
        case measure => simp [intOf]; omega
      · have e : lowI c = c := if_neg hl
        rw [e] at htk
        have HT := Lib.hid htk
        have hl' : c < 65 ∨ 90 < c := by omega
        clear htk e hl
        rcases hl' with hl | hl
        all_goals
          go_wp2_with (first
            | ((with_reducible show wpList _ _ _ (⟨some 14, _, _, _, _, _⟩ :: _) _ _); refine wpList_index_txt rfl (.tmp 12) (.tmp 13) rfl s rfl k rfl hlt ?_; rw [HI.out])
            | (at_builtin; go_loud (refine wpList_append_lit rfl (.tmp 23) (.tmp 25) .u8 70 5 1 Tryd.underlying70 info_u8 rfl w.heap.size _ _ [c] _ rfl 1 1 rfl rfl rfl HO.out (by omega) (by omega) hbs ?_; intro v1 w1 ho1 hg1))
            | fail)
          have hb1 := Lib.hid (HBl.out.trans (hg1.out.below HO.out hbs))
          rw [← HT.out] at ho1
          clear hg1
          go_roundw
          case rel => exact ⟨k + 1, by go_num, hlt, ho1, hb1⟩
          case measure => simp [intOf]; omega
    · have hcv := run_string_own (P := Tryd.prog) (src := 70) Tryd.underlying70 Tryd.underlying5 HO.out
      rw [List.take_of_length_le (by have := HX.out; omega), HST.out] at hcv
      have hkn : ¬ k < s.size := hlt
      clear HO
      go_wp2
      go_ret
      exact ⟨rfl, HBl.out⟩
/-- what letters answers -/
def RLettersPost (w : World) (l : List UInt8) (e : Ending) (w' : World) : Prop :=
  ∃ v, e = .returned (.tuple #[v, .bool (isText l)]) ∧ OwnK .i64 3 w' w.heap.size v (foldedOf l) ∧ Below w.heap.size w w'
set_option maxHeartbeats 1000000 in
theorem RLetters_any (s : ByteArray) (w : World) (hs : s.size ≤ 4398046511104) :
    Calls Tryd.prog 67 #[.string s] w (RLettersPost w s.data.toList) := by
  have c1 := Lib.hid (RFold_any s w hs)
  have hxs : (⟨(foldB s.data.toList).toArray⟩ : ByteArray).size ≤ 4398046511104 := by rw [txt_size, foldB_length, ← Lib.size_eq]; exact hs
  have c2 := fun w => Letters_any ⟨(foldB s.data.toList).toArray⟩ w hxs
  have e1 : isText (⟨(foldB s.data.toList).toArray⟩ : ByteArray).data.toList = isText s.data.toList := isText_fold _
  have e2 : letters (⟨(foldB s.data.toList).toArray⟩ : ByteArray).data.toList = foldedOf s.data.toList := (foldedOf_eq _).symm
  unfold LettersPost at c2
  rw [e1, e2] at c2
  have hq : ∀ e w', (∃ v, e = .returned (.tuple #[v, .bool (isText s.data.toList)]) ∧ OwnK .i64 3 w' w.heap.size v (foldedOf s.data.toList) ∧ Below w.heap.size w w') → RLettersPost w s.data.toList e w' := fun _ _ h => h
  obtain ⟨X, hX⟩ : ∃ X : ByteArray, X = ⟨(foldB s.data.toList).toArray⟩ := ⟨_, rfl⟩
  obtain ⟨t, ht⟩ : ∃ t, t = isText s.data.toList := ⟨_, rfl⟩
  obtain ⟨L, hL⟩ : ∃ L, L = foldedOf s.data.toList := ⟨_, rfl⟩
  rw [← hX] at c1 c2
  rw [← ht, ← hL] at c2 hq
  have C2 := Lib.hid c2
  have HQ := Lib.hid hq
  clear c2 e1 e2 hxs hX ht hL hq
  go_enter Tryd.func67, Tryd.ntmps67
  go_wp2_with fail
  refine c1.out.mono ?_
  rintro e w1 ⟨rfl, hb1⟩
  go_wp2_with fail
  refine (C2.out _).mono ?_
  rintro e w2 ⟨v, rfl, ho2, hb2⟩
  have HO := Lib.hid ho2
  clear ho2
  go_wp2
  go_ret2
  exact HQ.out _ _ ⟨v, rfl, HO.out.mono hb1.size, step hb1 hb2⟩
/-- what asked answers -/
def AskedPost (w : World) (p t : List UInt8) (e : Ending) (w' : World) : Prop :=
  ∃ v u, e = .returned (.tuple #[v, u, .int .i64 (patErr p t)]) ∧ (patErr p t = 0 → OwnK .i64 3 w' w.heap.size v (foldedOf p) ∧ OwnK .i64 3 w' w.heap.size u (foldedOf t)) ∧ Below w.heap.size w w'
set_option maxHeartbeats 2000000 in
theorem asked_any (p s : ByteArray) (w : World) (hp : p.size ≤ 4398046511104) (hs : s.size ≤ 4398046511104) :
    Calls Tryd.prog 51 #[.string p, .string s] w (AskedPost w p.data.toList s.data.toList) := by
  have c1 := fun w => Lib.hid (RLetters_any p w hp)
  have c2 := fun w => Lib.hid (RLetters_any s w hs)
  unfold RLettersPost at c1 c2
  have lp := foldedOf_length p.data.toList
  have ls := foldedOf_length s.data.toList
  have hq : ∀ n, patErr p.data.toList s.data.toList = n → ∀ e w', (∃ v u, e = .returned (.tuple #[v, u, .int .i64 n]) ∧ (n = 0 → OwnK .i64 3 w' w.heap.size v (foldedOf p.data.toList) ∧ OwnK .i64 3 w' w.heap.size u (foldedOf s.data.toList)) ∧ Below w.heap.size w w') → AskedPost w p.data.toList s.data.toList e w' := fun n hn e w' h => by
    unfold AskedPost
    rw [hn]
    exact h
  by_cases tp' : isText p.data.toList = false
  · have HQ := Lib.hid (hq _ (patErr_form (.inl tp')))
    rw [tp'] at c1
    obtain ⟨t, ht⟩ : ∃ t, t = isText s.data.toList := ⟨_, rfl⟩
    rw [← ht] at c2
    clear hq tp' lp ls ht
    cases t
    all_goals
      go_enter Tryd.func51, Tryd.ntmps51
      go_wp2_with fail
      refine (c1 _).out.mono ?_
      rintro e w1 ⟨v, rfl, ho1, hb1⟩
      obtain ⟨A1, n1, k1, rfl, hn1, _, hm1, _, _⟩ := ho1.open
      have HO1 := Lib.hid ho1
      clear ho1
      go_wp2_with fail
      refine (c2 _).out.mono ?_
      rintro e w2 ⟨u, rfl, ho2, hb2⟩
      obtain ⟨A2, n2, k2, rfl, hn2, _, hm2, _, _⟩ := ho2.open
      have HO2 := Lib.hid ho2
      have HN1 := Lib.hid hn1
      have HN2 := Lib.hid hn2
      clear ho2 hn1 hn2
      go_wp2
      go_ret3
      exact HQ.out _ _ ⟨_, _, rfl, (fun h => absurd h (by decide)), step hb1 hb2⟩
  have tp : isText p.data.toList = true := by simpa using tp'
  rw [tp] at c1
  by_cases ts' : isText s.data.toList = false
  · have HQ := Lib.hid (hq _ (patErr_form (.inr ts')))
    rw [ts'] at c2
    clear hq tp tp' ts' lp ls
    go_enter Tryd.func51, Tryd.ntmps51
    go_wp2_with fail
    refine (c1 _).out.mono ?_
    rintro e w1 ⟨v, rfl, ho1, hb1⟩
    obtain ⟨A1, n1, k1, rfl, hn1, _, hm1, _, _⟩ := ho1.open
    have HO1 := Lib.hid ho1
    clear ho1
    go_wp2_with fail
    refine (c2 _).out.mono ?_
    rintro e w2 ⟨u, rfl, ho2, hb2⟩
    obtain ⟨A2, n2, k2, rfl, hn2, _, hm2, _, _⟩ := ho2.open
    have HO2 := Lib.hid ho2
    have HN1 := Lib.hid hn1
    have HN2 := Lib.hid hn2
    clear ho2 hn1 hn2
    go_wp2
    go_ret3
    exact HQ.out _ _ ⟨_, _, rfl, (fun h => absurd h (by decide)), step hb1 hb2⟩
  have ts : isText s.data.toList = true := by simpa using ts'
  rw [ts] at c2
  clear tp' ts'
  by_cases l1 : 64 < (letters p.data.toList).length
  · have HQ := Lib.hid (hq _ (patErr_limit tp ts (.inl l1)))
    rw [← lp] at l1
    have HL1 := Lib.hid l1
    clear hq tp ts lp ls l1
    go_enter Tryd.func51, Tryd.ntmps51
    go_wp2_with fail
    refine (c1 _).out.mono ?_
    rintro e w1 ⟨v, rfl, ho1, hb1⟩
    obtain ⟨A1, n1, k1, rfl, hn1, _, hm1, _, _⟩ := ho1.open
    have HO1 := Lib.hid ho1
    clear ho1
    go_wp2_with fail
    refine (c2 _).out.mono ?_
    rintro e w2 ⟨u, rfl, ho2, hb2⟩
    obtain ⟨A2, n2, k2, rfl, hn2, _, hm2, _, _⟩ := ho2.open
    have HO2 := Lib.hid ho2
    have HN1 := Lib.hid hn1
    have HN2 := Lib.hid hn2
    clear ho2 hn1 hn2
    have hgt : (64 : Int) < (n1 : Int) := by have := HL1.out; have := HN1.out; omega
    go_wp2
    go_ret3
    exact HQ.out _ _ ⟨_, _, rfl, (fun h => absurd h (by decide)), step hb1 hb2⟩
  by_cases l2 : 256 < (letters s.data.toList).length
  · have HQ := Lib.hid (hq _ (patErr_limit tp ts (.inr l2)))
    rw [← lp] at l1
    rw [← ls] at l2
    have HL1 := Lib.hid l1
    have HL2 := Lib.hid l2
    clear hq tp ts lp ls l1 l2
    go_enter Tryd.func51, Tryd.ntmps51
    go_wp2_with fail
    refine (c1 _).out.mono ?_
    rintro e w1 ⟨v, rfl, ho1, hb1⟩
    obtain ⟨A1, n1, k1, rfl, hn1, _, hm1, _, _⟩ := ho1.open
    have HO1 := Lib.hid ho1
    clear ho1
    go_wp2_with fail
    refine (c2 _).out.mono ?_
    rintro e w2 ⟨u, rfl, ho2, hb2⟩
    obtain ⟨A2, n2, k2, rfl, hn2, _, hm2, _, _⟩ := ho2.open
    have HO2 := Lib.hid ho2
    have HN1 := Lib.hid hn1
    have HN2 := Lib.hid hn2
    clear ho2 hn1 hn2
    have hle : (n1 : Int) ≤ 64 := by have := HL1.out; have := HN1.out; omega
    have hgt : (256 : Int) < (n2 : Int) := by have := HL2.out; have := HN2.out; omega
    go_wp2
    go_ret3
    exact HQ.out _ _ ⟨_, _, rfl, (fun h => absurd h (by decide)), step hb1 hb2⟩
  · have HQ := Lib.hid (hq _ (patErr_ok.2 ⟨tp, ts, by omega, by omega⟩))
    rw [← lp] at l1
    rw [← ls] at l2
    have HL1 := Lib.hid l1
    have HL2 := Lib.hid l2
    clear hq tp ts lp ls l1 l2
    go_enter Tryd.func51, Tryd.ntmps51
    go_wp2_with fail
    refine (c1 _).out.mono ?_
    rintro e w1 ⟨v, rfl, ho1, hb1⟩
    obtain ⟨A1, n1, k1, rfl, hn1, _, hm1, _, _⟩ := ho1.open
    have HO1 := Lib.hid ho1
    clear ho1
    go_wp2_with fail
    refine (c2 _).out.mono ?_
    rintro e w2 ⟨u, rfl, ho2, hb2⟩
    obtain ⟨A2, n2, k2, rfl, hn2, _, hm2, _, _⟩ := ho2.open
    have HO2 := Lib.hid ho2
    have HN1 := Lib.hid hn1
    have HN2 := Lib.hid hn2
    clear ho2 hn1 hn2
    have hle : (n1 : Int) ≤ 64 := by have := HL1.out; have := HN1.out; omega
    have hle2 : (n2 : Int) ≤ 256 := by have := HL2.out; have := HN2.out; omega
    go_wp2
    go_ret3
    exact HQ.out _ _ ⟨_, _, rfl, (fun _ => ⟨HO1.out.below hb2, HO2.out.mono hb1.size⟩), step hb1 hb2⟩
end Go.Proofs.YtangkcedgelegaaDoor

namespace Go.Proofs.YtangkcedgelegaaDoor
set_option linter.all false
open Go.RowKit
theorem info_bool3 : (Tryd.prog.info? 4).map (fun i => (i.zero, i.size, i.bytes)) = some (some (.bool false), 1, 1) := by kernel_rfl
section
variable {w w' : World} {g g' B : Nat} {bs cs : List Bool}
/-- make([]bool, n) -/
theorem wpList_make_bools {ops : Array Oper} {rest : List Oper} {o : Oper} {a : Act} {Q : Exit → Act → World → Prop}
    (hg : o.guard = none) (l c : Operand) (hop : o.op = Op.makeSlice 93 l c) (L C : Int) (n : Nat) (hl : a.eval l = .int .i64 L) (hc : a.eval c = .int .i64 C) (hL : L = (n : Int)) (hC : C = (n : Int)) (hn : n ≤ 281474976710656)
    (hK : ∀ w', Hid (BRow w' w.heap.size (List.replicate n false)) → Hid (Below w.heap.size w w') → wpList Tryd.prog ops Q rest (a.put o.dst (.slice (some ⟨w.heap.size, 0, none⟩) n n)) w') :
    wpList Tryd.prog ops Q (o :: rest) a w := by
  obtain ⟨i0, hi, hz0, hz1, hz2⟩ := info_parts info_bool3
  refine wpList_make_full w hg l c 93 hop w.heap.size 4 i0 (.bool false) 1 Tryd.underlying93 hi hz0 hz1 .i64 .i64 L C n hl hc hL hC (by rw [hz2]; omega) (by unfold maxLen; omega) (Nat.le_refl _) ?_
  intro w' hown hgr
  refine hK w' ?_ ((Below.refl _ _).grown hgr (Nat.le_refl _) (fun k hk => by cases hk))
  rcases hown.2 with ⟨h0, _⟩ | ⟨g, cap, cur, hv, _, hh, _, _, hcs, htk⟩
  · cases h0
  · simp only [Value.slice.injEq, Option.some.injEq, Addr.mk.injEq, and_true, true_and] at hv
    obtain ⟨rfl, rfl⟩ := hv
    show w'.heap[_]? = _
    rw [hh]
    have e : cur.toList = List.replicate n (.bool false) := by
      have h1 : cur.toList.take (n * 1) = cur.toList := List.take_of_length_le (by simp [hcs])
      rw [← h1, htk]
      rw [Nat.mul_one]
      exact toList_madeCells_one (.bool false) n
    rw [List.map_replicate, ← e]
/-- a store into such a row -/
theorem wpList_store_bool {ops : Array Oper} {rest : List Oper} {o : Oper} {a : Act} {Q : Exit → Act → World → Prop} (hgd : o.guard = none) (x y : Operand) (ho : o.op = .store 4 x y) (g i : Nat) (hx : a.eval x = .pointer (some ⟨g, i, none⟩))
    (b : Bool) (hy : a.eval y = .bool b) (hB : BRow w g bs) (hi : i < bs.length)
    (h : ∀ w', Hid (BRow w' g (bs.set i b)) → Hid (Only g w w') → wpList Tryd.prog ops Q rest a w') (hd : o.dst = none := by rfl) : wpList Tryd.prog ops Q (o :: rest) a w := by
  have hp : a.put o.dst undef = a := by rw [hd]; rfl
  obtain ⟨i0, hi0, _, hz1, _⟩ := info_parts info_bool3
  have hrun : (storeVar 4 ⟨g, i, none⟩ (.bool b)).run Tryd.prog w = .ok () (w.setCell ⟨g, i, none⟩ (.bool b)) := by
    have hc := hB.cell hi
    have hf := hB.frozen i
    have ha : (⟨g, i, none⟩ : Addr).add 0 = ⟨g, i, none⟩ := by simp [Addr.add]
    simp [storeVar, sizeOf, typeInfo, hi0, hz1, Value.cells, storeCells, run_store_bool, stored]
    rw [ha, hc, hf]
    rfl
  refine wpList_plain hgd fun K hK => ?_
  unfold Oper.wp execOp
  simp only [ho, hx, hy, Instr.storeAt, Instr.sureAddr, Sem.run_bind, Sem.run_pure, Result.andThen_ok, hrun]
  show K (a.put o.dst undef) _
  rw [hp]
  refine hK _ _ (h _ ?_ ((Only.refl g w).setCell i _))
  have h1 := heap_setCell_same w g i _ 4 (.bool b) hB
  unfold BRow
  show _ = _
  rw [h1]
  simp [List.map_set]
end
/-! ### the rows -/

noncomputable def rowB (p t : List Int) : List Bool := (List.range (p.length + 1)).map fun j => fitAt p j t
def firstB (n k : Nat) : List Bool := (List.range (n + 1)).map fun j => decide (j ≤ k)
noncomputable def nextB (p t : List Int) (k : Nat) : List Bool := (List.range (p.length + 1)).map fun j => decide (j ≤ k) && fitAt p j t
theorem rowB_len (p t : List Int) : (rowB p t).length = p.length + 1 := by simp [rowB]
theorem firstB_len (n k : Nat) : (firstB n k).length = n + 1 := by simp [firstB]
theorem nextB_len (p t : List Int) (k : Nat) : (nextB p t k).length = p.length + 1 := by simp [nextB]
theorem rowB_at (p t : List Int) (j : Nat) (hj : j ≤ p.length) : (rowB p t).getD j false = fitAt p j t := by
  simp [rowB, List.getD_eq_getElem?_getD, show j < p.length + 1 by omega]
theorem nextB_at (p t : List Int) (k j : Nat) (hj : j ≤ p.length) (hk : j ≤ k) : (nextB p t k).getD j false = fitAt p j t := by
  simp [nextB, List.getD_eq_getElem?_getD, show j < p.length + 1 by omega, hk]
theorem firstB_zero (n : Nat) : (List.replicate (n + 1) false).set 0 true = firstB n 0 := by
  apply List.ext_getElem
  · simp [firstB]
  · intro i h1 h2
    simp only [firstB, List.getElem_map, List.getElem_range, List.getElem_set, List.getElem_replicate]
    by_cases h : i = 0
    · subst h; simp
    · rw [if_neg (by omega)]; simp; omega
theorem firstB_set (n k : Nat) : (firstB n k).set (k + 1) true = firstB n (k + 1) := by
  apply List.ext_getElem
  · simp [firstB]
  · intro i h1 h2
    simp only [firstB, List.getElem_map, List.getElem_range, List.getElem_set]
    by_cases h : k + 1 = i
    · rw [if_pos h]; simp; omega
    · rw [if_neg h]
      exact decide_eq_decide.2 (by omega)
theorem fitAt_first (p : List Int) (k : Nat) (hk : k ≤ p.length) (hs : ∀ j, j < k → p.getD j 0 = 42) (he : k = p.length ∨ p.getD k 0 ≠ 42) (j : Nat) (hj : j ≤ p.length) : fitAt p j [] = decide (j ≤ k) := by
  induction j with
  | zero => rw [fitAt_zero]; simp
  | succ j ih =>
    have ih := ih (by omega)
    by_cases hc : p.getD j 0 = 42
    · rw [fitAt_nil_star p j (by omega) hc, ih]
      refine decide_eq_decide.2 ?_
      rcases he with he | he
      · omega
      · by_cases h : j = k
        · subst h; exact absurd hc he
        · omega
    · rw [fitAt_nil_other p j (by omega) hc]
      by_cases h : j < k
      · exact absurd (hs j h) hc
      · exact (decide_eq_false (by omega)).symm
theorem firstB_done (p : List Int) (k : Nat) (hk : k ≤ p.length) (hs : ∀ j, j < k → p.getD j 0 = 42) (he : k = p.length ∨ p.getD k 0 ≠ 42) : firstB p.length k = rowB p [] := by
  unfold firstB rowB
  apply List.map_congr_left
  intro j hj
  exact (fitAt_first p k hk hs he j (by have := List.mem_range.1 hj; omega)).symm
theorem nextB_zero (p t : List Int) (x : Int) : List.replicate (p.length + 1) false = nextB p (t ++ [x]) 0 := by
  apply List.ext_getElem
  · simp [nextB]
  · intro i h1 h2
    simp only [nextB, List.getElem_map, List.getElem_range, List.getElem_replicate]
    by_cases h : i = 0
    · subst h; rw [fitAt_none]; rfl
    · rw [decide_eq_false (by omega)]; rfl
theorem nextB_set (p t : List Int) (k : Nat) : (nextB p t k).set (k + 1) (fitAt p (k + 1) t) = nextB p t (k + 1) := by
  apply List.ext_getElem
  · simp [nextB]
  · intro i h1 h2
    simp only [nextB, List.getElem_map, List.getElem_range, List.getElem_set]
    by_cases h : k + 1 = i
    · rw [if_pos h, h]; simp
    · rw [if_neg h]
      congr 1
      exact decide_eq_decide.2 (by omega)
theorem nextB_same (p t : List Int) (k : Nat) (h : fitAt p (k + 1) t = false) : nextB p t k = nextB p t (k + 1) := by
  unfold nextB
  apply List.map_congr_left
  intro j _
  by_cases hj : j = k + 1
  · subst hj; rw [h, Bool.and_false, Bool.and_false]
  · congr 1
    exact decide_eq_decide.2 (by omega)
theorem nextB_done (p t : List Int) : nextB p t p.length = rowB p t := by
  unfold nextB rowB
  apply List.map_congr_left
  intro j hj
  rw [decide_eq_true (by have := List.mem_range.1 hj; omega), Bool.true_and]
set_option maxRecDepth 100000 in
set_option maxHeartbeats 4000000 in
theorem rfits_any (w : World) (base base' : Nat) (v u : Value) (p t : List Int) (hp : OwnK .i64 3 w base v p) (ht : OwnK .i64 3 w base' u t) (hpl : p.length ≤ 1000) (htl : t.length ≤ 1000) :
    Calls Tryd.prog 52 #[v, u] w fun e w' => e = .returned (.bool (fitAt p p.length t)) ∧ Below w.heap.size w w' := by
  obtain ⟨Ap, np, cp, rfl, hnp, _, _, _, hcp⟩ := hp.open
  obtain ⟨At, nt, ct, rfl, hnt, _, _, _, hct⟩ := ht.open
  have HNP := Lib.hid hnp
  have HNT := Lib.hid hnt
  have HK : Hid (RK w w base base' (.slice Ap np cp) (.slice At nt ct) p t) := ⟨hp, ht, Below.refl _ _⟩
  have hpl' : np ≤ 1000 := by omega
  have htl' : nt ≤ 1000 := by omega
  clear hnp hnt hp ht hpl htl
  go_enter Tryd.func52, Tryd.ntmps52
  go_upto_block 0 with (first
    | ((with_reducible show wpList _ _ _ (⟨some 13, _, _, _, _, _⟩ :: _) _ _); refine wpList_make_bools rfl (.tmp 12) (.tmp 12) rfl _ _ (np + 1) rfl rfl (by omega) (by omega) (by omega) ?_; intro w1 R1 b1)
    | ((with_reducible show wpList _ _ _ (⟨none, _, _, _, _, _⟩ :: _) _ _); refine wpList_store_bool rfl (.tmp 15) _ rfl w.heap.size 0 rfl true rfl R1.out (by simp) ?_; intro w2 R2 O2)
    | fail)
  rw [firstB_zero] at R2
  have K2 : Hid (RK w w2 base base' (.slice Ap np cp) (.slice At nt ct) p t) := (HK.out.over b1.out).only R1.out (Nat.le_refl _) O2.out
  clear R1 b1 O2 HK
  go_cut [6] (fun _ wx => Hid (BRow wx w.heap.size (rowB p [])) ∧ Hid (RK w wx base base' (.slice Ap np cp) (.slice At nt ct) p t))
  case first =>
    go_wp2_with fail
    go_loopw [6] (fun i wr => ∃ k : Nat, i = .int .i64 k ∧ k ≤ np ∧ Hid (∀ j, j < k → p.getD j 0 = 42) ∧ Hid (BRow wr w.heap.size (firstB np k)) ∧ Hid (RK w wr base base' (.slice Ap np cp) (.slice At nt ct) p t)) (fun i _ => np - (intOf i).toNat)
    case atStart => exact ⟨0, rfl, Nat.zero_le _, fun j hj => absurd hj (Nat.not_lt_zero _), R2, K2⟩
    case round =>
      clear R2 K2
      obtain ⟨k, rfl, hk, HS, R2, K2⟩ := hrel
      by_cases hlt : k < np
      · obtain ⟨gp, rfl, _, _, _⟩ := hcp (by omega)
        have gk := K2.out.pat.at hlt
        obtain ⟨c, hc⟩ : ∃ c, c = p.getD k 0 := ⟨_, rfl⟩
        rw [← hc] at gk
        by_cases h42 : c = 42
        · have HS' : Hid (∀ j, j < k + 1 → p.getD j 0 = 42) := fun j hj => by
            by_cases h : j = k
            · rw [h, ← hc, h42]
            · exact HS.out j (by omega)
          have ht : (c == 42) = true := by simpa using h42
          clear hc h42 hcp hct HS
          go_wp2_with (first
            | ((with_reducible show wpList _ _ _ (⟨none, _, _, _, _, _⟩ :: _) _ _); go_loud (refine wpList_store_bool rfl (.tmp 32) _ rfl w.heap.size (k + 1) rfl true rfl R2.out (by rw [firstB_len]; omega) ?_; intro w3 R3 O3))
            | fail)
          have K3 := Lib.hid (K2.out.only R2.out (Nat.le_refl _) O3.out)
          rw [firstB_set] at R3
          go_roundw
          case rel => exact ⟨k + 1, by go_num, hlt, HS', R3, K3⟩
          case measure => simp [intOf]; omega
        · have hd := firstB_done p k (by have := HNP.out; omega) HS.out (.inr (by rw [← hc]; exact h42))
          rw [HNP.out] at hd
          rw [hd] at R2
          have ht : (c == 42) = false := by simpa using h42
          clear hc h42 hcp hct HS hd
          go_wp2_with fail
          go_meet
          exact ⟨R2, K2⟩
      · have hd := firstB_done p k (by have := HNP.out; omega) HS.out (.inl (by have := HNP.out; omega))
        rw [HNP.out] at hd
        rw [hd] at R2
        clear hcp hct HS hd
        go_wp2_with fail
        go_meet
        exact ⟨R2, K2⟩
  case rest =>
    clear R2 K2
    obtain ⟨R2, K2⟩ := hcut
    go_wp2_with fail
    have hw0 : w.heap.size ≤ w.heap.size := Nat.le_refl _
    go_loopw [5, 7] (fun a i wr => ∃ (j g : Nat), i = .int .i64 j ∧ j ≤ nt ∧ a = .slice (some ⟨g, 0, none⟩) (np + 1) (np + 1) ∧ w.heap.size ≤ g ∧ Hid (BRow wr g (rowB p (t.take j))) ∧ Hid (RK w wr base base' (.slice Ap np cp) (.slice At nt ct) p t)) (fun _ i _ => nt - (intOf i).toNat)
    case atStart => exact ⟨0, _, rfl, Nat.zero_le _, rfl, hw0, by simpa using R2, K2⟩
    case round =>
      clear R2 K2 hw0
      obtain ⟨j, g1, rfl, hj, rfl, hg1, R1, K1⟩ := hrel
      by_cases hlt : j < nt
      · obtain ⟨gt, rfl, _, _, _⟩ := hct (by omega)
        obtain ⟨x, hxx⟩ : ∃ x, x = t.getD j 0 := ⟨_, rfl⟩
        obtain ⟨T, hTT⟩ : ∃ T, T = t.take j := ⟨_, rfl⟩
        have hTn : t.take (j + 1) = T ++ [x] := by
          have := HNT.out
          rw [List.take_succ_eq_append_getElem (by omega), hTT, hxx]
          simp [show j < t.length by omega]
        rw [← hTT] at R1
        have HTN := Lib.hid hTn
        have HX := Lib.hid hxx
        have hlt1 := R1.out.lt
        have hnz := nextB_zero p T x
        rw [HNP.out] at hnz
        have HNZ := Lib.hid hnz
        clear hTT hTn hxx hct hnz
        go_wp2_with (first
          | ((with_reducible show wpList _ _ _ (⟨some 42, _, _, _, _, _⟩ :: _) _ _); refine wpList_make_bools rfl (.tmp 41) (.tmp 41) rfl _ _ (np + 1) rfl rfl (by omega) (by omega) (by omega) ?_; intro w3 R3 b3)
          | fail)
        have K3 := Lib.hid (K1.out.over b3.out)
        have R1' := Lib.hid (R1.out.below b3.out)
        obtain ⟨g2, hg2⟩ : ∃ g, g = wr.heap.size := ⟨_, rfl⟩
        rw [← hg2] at R3 ⊢
        have hg12 : g1 ≠ g2 := by omega
        have hwg2 : w.heap.size ≤ g2 := by omega
        rw [HNZ.out] at R3
        clear R1 K1 b3 hg2 hlt1 HNZ
        go_loopw [9] (fun i wr => ∃ k : Nat, i = .int .i64 k ∧ k ≤ np ∧ Hid (BRow wr g2 (nextB p (T ++ [x]) k)) ∧ Hid (BRow wr g1 (rowB p T)) ∧ Hid (RK w wr base base' (.slice Ap np cp) (.slice (some ⟨gt, 0, none⟩) nt ct) p t)) (fun i _ => np - (intOf i).toNat)
        case atStart => exact ⟨0, rfl, Nat.zero_le _, R3, R1', K3⟩
        case round =>
          clear R3 R1' K3
          obtain ⟨k, rfl, hk, S2, S1, KK⟩ := hrel
          by_cases hlk : k < np
          · obtain ⟨gp, rfl, _, _, _⟩ := hcp (by omega)
            have gk := KK.out.pat.at hlk
            have gx := KK.out.text.at hlt
            rw [← HX.out] at gx
            have gS := nextB_set p (T ++ [x]) k
            have hlp : k < p.length := by have := HNP.out; omega
            have a0c := S1.out.cell (i := k) (by rw [rowB_len]; omega)
            have a1c := S1.out.cell (i := k + 1) (by rw [rowB_len]; omega)
            have n0c := S2.out.cell (i := k) (by rw [nextB_len]; omega)
            rw [rowB_at p T k (by omega)] at a0c
            rw [rowB_at p T (k + 1) (by omega)] at a1c
            rw [nextB_at p (T ++ [x]) k k (by omega) (Nat.le_refl _)] at n0c
            have hst := fitAt_star p T x k hlp
            have hon := fitAt_one p T x k hlp
            have hot := fitAt_other p T x k hlp
            have hsame := nextB_same p (T ++ [x]) k
            obtain ⟨c, hc⟩ : ∃ c, c = p.getD k 0 := ⟨_, rfl⟩
            rw [← hc] at gk hst hon hot
            obtain ⟨a0, ha0⟩ : ∃ b, b = fitAt p k T := ⟨_, rfl⟩
            obtain ⟨a1, ha1⟩ : ∃ b, b = fitAt p (k + 1) T := ⟨_, rfl⟩
            obtain ⟨n0, hn0⟩ : ∃ b, b = fitAt p k (T ++ [x]) := ⟨_, rfl⟩
            obtain ⟨n1, hn1⟩ : ∃ b, b = fitAt p (k + 1) (T ++ [x]) := ⟨_, rfl⟩
            rw [← ha0, ← ha1, ← hn0, ← hn1] at hst
            rw [← ha0, ← hn1] at hon
            rw [← hn1] at hot hsame gS
            rw [← ha0] at a0c
            rw [← ha1] at a1c
            rw [← hn0] at n0c
            clear hc ha0 ha1 hn0 hn1 hlp
            by_cases h42 : c = 42
            · have hcb : (c == 42) = true := by simpa using h42
              have hst := hst h42
              cases a1
              · cases a0
                · have hn1 : n1 = n0 := by rw [hst]; simp
                  rw [hn1] at gS
                  have HSET := Lib.hid gS
                  clear gS hst hon hot hsame h42 hn1 hcp
                  go_wp2_with (first
                    | ((with_reducible show wpList _ _ _ (⟨none, _, _, _, _, _⟩ :: _) _ _); go_loud (refine wpList_store_bool rfl (.tmp 75) _ rfl g2 (k + 1) rfl _ rfl S2.out (by rw [nextB_len, HNP.out]; omega) ?_; intro w4 S4 O4))
                    | fail)
                  have K4 := Lib.hid (KK.out.only S2.out (by omega) O4.out)
                  have S1' := Lib.hid (S1.out.only O4.out hg12)
                  rw [HSET.out] at S4
                  go_roundw
                  case rel => exact ⟨k + 1, by go_num, hlk, S4, S1', K4⟩
                  case measure => simp [intOf]; omega
                · have hn1 : n1 = true := by rw [hst]; simp
                  rw [hn1] at gS
                  have HSET := Lib.hid gS
                  clear gS hst hon hot hsame h42 hn1 hcp
                  go_wp2_with (first
                    | ((with_reducible show wpList _ _ _ (⟨none, _, _, _, _, _⟩ :: _) _ _); go_loud (refine wpList_store_bool rfl (.tmp 75) _ rfl g2 (k + 1) rfl _ rfl S2.out (by rw [nextB_len, HNP.out]; omega) ?_; intro w4 S4 O4))
                    | fail)
                  have K4 := Lib.hid (KK.out.only S2.out (by omega) O4.out)
                  have S1' := Lib.hid (S1.out.only O4.out hg12)
                  rw [HSET.out] at S4
                  go_roundw
                  case rel => exact ⟨k + 1, by go_num, hlk, S4, S1', K4⟩
                  case measure => simp [intOf]; omega
              · have hn1 : n1 = true := by rw [hst]; simp
                rw [hn1] at gS
                have HSET := Lib.hid gS
                clear gS hst hon hot hsame h42 hn1 hcp
                go_wp2_with (first
                    | ((with_reducible show wpList _ _ _ (⟨none, _, _, _, _, _⟩ :: _) _ _); go_loud (refine wpList_store_bool rfl (.tmp 75) _ rfl g2 (k + 1) rfl _ rfl S2.out (by rw [nextB_len, HNP.out]; omega) ?_; intro w4 S4 O4))
                    | fail)
                have K4 := Lib.hid (KK.out.only S2.out (by omega) O4.out)
                have S1' := Lib.hid (S1.out.only O4.out hg12)
                rw [HSET.out] at S4
                go_roundw
                case rel => exact ⟨k + 1, by go_num, hlk, S4, S1', K4⟩
                case measure => simp [intOf]; omega
            · have hcb : (c == 42) = false := by simpa using h42
              obtain ⟨wq, hwq⟩ : ∃ x, x = wr := ⟨_, rfl⟩
              rw [← hwq] at S1 S2 KK gk gx a0c a1c n0c ⊢
              by_cases h63 : c = 63
              · have hcb2 : (c == 63) = true := by simpa using h63
                have hn1 : n1 = a0 := hon h42 (.inl h63)
                rw [hn1] at gS
                have HSET := Lib.hid gS
                clear gS hst hon hot hsame h42 h63 hn1 hcp hwq
                go_wp2
                go_quiet (fail)
                obtain ⟨wz, hwz⟩ : ∃ x, x = wq.drewN nq := ⟨_, rfl⟩
                have Z1 : Hid (BRow wz g1 (rowB p T)) := by rw [hwz]; exact S1.out.drewN nq
                have Z2 : Hid (BRow wz g2 (nextB p (T ++ [x]) k)) := by rw [hwz]; exact S2.out.drewN nq
                have ZK : Hid (RK w wz base base' (.slice (some ⟨gp, 0, none⟩) np cp) (.slice (some ⟨gt, 0, none⟩) nt ct) p t) := by rw [hwz]; exact KK.out.drewN nq
                have z0c : wz.cell? ⟨g1, k, none⟩ = some (.bool a0) := by rw [hwz]; exact a0c
                rw [← hwz]
                clear S1 S2 KK a0c a1c n0c gk gx hwz
                go_wp2_with (first
                  | ((with_reducible show wpList _ _ _ (⟨none, _, _, _, _, _⟩ :: _) _ _); go_loud (refine wpList_store_bool rfl (.tmp 100) _ rfl g2 (k + 1) rfl _ rfl Z2.out (by rw [nextB_len, HNP.out]; omega) ?_; intro w4 S4 O4))
                  | fail)
                have K4 := Lib.hid (ZK.out.only Z2.out (by omega) O4.out)
                have S1' := Lib.hid (Z1.out.only O4.out hg12)
                rw [HSET.out] at S4
                go_roundw
                case rel => exact ⟨k + 1, by go_num, hlk, S4, S1', K4⟩
                case measure => simp [intOf]; omega
              · have hcb2 : (c == 63) = false := by simpa using h63
                by_cases hcx : c = x
                · have hcb3 : (c == x) = true := by simpa using hcx
                  have hn1 : n1 = a0 := hon h42 (.inr hcx)
                  rw [hn1] at gS
                  have HSET := Lib.hid gS
                  clear gS hst hon hot hsame h42 h63 hcx hn1 hcp hwq
                  go_wp2
                  go_quiet (fail)
                  obtain ⟨wz, hwz⟩ : ∃ x, x = wq.drewN nq := ⟨_, rfl⟩
                  have Z1 : Hid (BRow wz g1 (rowB p T)) := by rw [hwz]; exact S1.out.drewN nq
                  have Z2 : Hid (BRow wz g2 (nextB p (T ++ [x]) k)) := by rw [hwz]; exact S2.out.drewN nq
                  have ZK : Hid (RK w wz base base' (.slice (some ⟨gp, 0, none⟩) np cp) (.slice (some ⟨gt, 0, none⟩) nt ct) p t) := by rw [hwz]; exact KK.out.drewN nq
                  have z0c : wz.cell? ⟨g1, k, none⟩ = some (.bool a0) := by rw [hwz]; exact a0c
                  rw [← hwz]
                  clear S1 S2 KK a0c a1c n0c gk gx hwz
                  go_wp2_with (first
                    | ((with_reducible show wpList _ _ _ (⟨none, _, _, _, _, _⟩ :: _) _ _); go_loud (refine wpList_store_bool rfl (.tmp 100) _ rfl g2 (k + 1) rfl _ rfl Z2.out (by rw [nextB_len, HNP.out]; omega) ?_; intro w4 S4 O4))
                    | fail)
                  have K4 := Lib.hid (ZK.out.only Z2.out (by omega) O4.out)
                  have S1' := Lib.hid (Z1.out.only O4.out hg12)
                  rw [HSET.out] at S4
                  go_roundw
                  case rel => exact ⟨k + 1, by go_num, hlk, S4, S1', K4⟩
                  case measure => simp [intOf]; omega
                · have hcb3 : (c == x) = false := by simpa using hcx
                  have hn1 : n1 = false := hot h42 (by rintro (h | h) <;> contradiction)
                  have hsame := hsame hn1
                  have HSAME := Lib.hid hsame
                  clear gS hst hon hot hsame h42 h63 hcx hn1 hcp hwq
                  go_wp2
                  go_quiet (fail)
                  obtain ⟨wz, hwz⟩ : ∃ x, x = wq.drewN nq := ⟨_, rfl⟩
                  have Z1 : Hid (BRow wz g1 (rowB p T)) := by rw [hwz]; exact S1.out.drewN nq
                  have Z2 : Hid (BRow wz g2 (nextB p (T ++ [x]) (k + 1))) := by rw [hwz, ← HSAME.out]; exact S2.out.drewN nq
                  have ZK : Hid (RK w wz base base' (.slice (some ⟨gp, 0, none⟩) np cp) (.slice (some ⟨gt, 0, none⟩) nt ct) p t) := by rw [hwz]; exact KK.out.drewN nq
                  rw [← hwz]
                  clear S1 S2 KK a0c a1c n0c gk gx hwz
                  go_wp2
                  go_roundw
                  case rel => exact ⟨k + 1, by go_num, hlk, Z2, Z1, ZK⟩
                  case measure => simp [intOf]; omega
          · have hd := nextB_done p (T ++ [x])
            rw [HNP.out] at hd
            obtain rfl : k = np := by omega
            rw [hd, ← HTN.out] at S2
            clear hd hcp
            go_wp2
            go_roundw
            case rel => exact ⟨j + 1, g2, by go_num, hlt, rfl, hwg2, S2, KK⟩
            case measure => simp [intOf]; omega
      · obtain rfl : j = nt := by omega
        rw [List.take_of_length_le (by have := HNT.out; omega)] at R1
        have ge := R1.out.cell (i := np) (by rw [rowB_len, HNP.out]; omega)
        rw [rowB_at p t np (by rw [HNP.out]; exact Nat.le_refl _)] at ge
        have HG : Hid (fitAt p p.length t = fitAt p np t) := by show _ = _; rw [HNP.out]
        obtain ⟨R, hR⟩ : ∃ R, R = fitAt p np t := ⟨_, rfl⟩
        rw [← hR] at ge HG
        have HBl := Lib.hid K1.out.below
        clear R1 K1 hR hct hcp
        go_wp2
        go_ret
        exact ⟨ret_bool HG.out.symm, HBl.out⟩
end Go.Proofs.YtangkcedgelegaaDoor

namespace Go.Proofs.YtangkcedgelegaaDoor
set_option linter.all false
open Go.RowKit
set_option maxHeartbeats 2000000 in
theorem RFits_any (p s : ByteArray) (w : World) (hp : p.size ≤ 4398046511104) (hs : s.size ≤ 4398046511104) :
    Calls Tryd.prog 30 #[.string p, .string s] w (FitsPost w p.data.toList s.data.toList) := by
  have c1 := asked_any p s w hp hs
  unfold AskedPost at c1
  have hq : ∀ (b : Bool) (n : Int), fitsOf p.data.toList s.data.toList = b → patErr p.data.toList s.data.toList = n → ∀ e w', e = .returned (.tuple #[.bool b, .int .i64 n]) ∧ Below w.heap.size w w' → FitsPost w p.data.toList s.data.toList e w' := fun b n hb hn e w' h => by
    unfold FitsPost
    rw [hb, hn]
    exact h
  by_cases he : patErr p.data.toList s.data.toList = 0
  · have hf : fitsOf p.data.toList s.data.toList = fitAt (foldedOf p.data.toList) (foldedOf p.data.toList).length (foldedOf s.data.toList) := if_pos he
    obtain ⟨_, _, l1, l2⟩ := patErr_ok.1 he
    have HQ := Lib.hid (hq _ _ hf he)
    have c2 := fun w base base' v u h1 h2 => Lib.hid (rfits_any w base base' v u (foldedOf p.data.toList) (foldedOf s.data.toList) h1 h2 (by rw [foldedOf_length]; omega) (by rw [foldedOf_length]; omega))
    rw [he] at c1
    obtain ⟨L, hL⟩ : ∃ L, L = foldedOf p.data.toList := ⟨_, rfl⟩
    obtain ⟨M, hM⟩ : ∃ L, L = foldedOf s.data.toList := ⟨_, rfl⟩
    rw [← hL, ← hM] at c1 c2 HQ
    have C1 := Lib.hid c1
    clear c1 hq he hf hL hM l1 l2
    go_enter Tryd.func30, Tryd.ntmps30
    go_wp2_with fail
    refine C1.out.mono ?_
    rintro e w1 ⟨v, u, rfl, ho, hb1⟩
    obtain ⟨ho1, ho2⟩ := ho (by trivial)
    have HO1 := Lib.hid ho1
    have HO2 := Lib.hid ho2
    clear ho ho1 ho2
    go_wp2_with fail
    refine (c2 _ _ _ _ _ HO1.out HO2.out).out.mono ?_
    rintro e w2 ⟨rfl, hb2⟩
    go_wp2
    go_ret2
    exact HQ.out _ _ ⟨rfl, step hb1 hb2⟩
  · obtain ⟨E, hE⟩ : ∃ E, E = patErr p.data.toList s.data.toList := ⟨_, rfl⟩
    have HQ := Lib.hid (hq _ _ (fitsOf_bad he) hE.symm)
    rw [← hE] at c1 he
    have C1 := Lib.hid c1
    have hne : (E != 0) = true := by simpa using he
    clear c1 hq he hE
    go_enter Tryd.func30, Tryd.ntmps30
    go_wp2_with fail
    refine C1.out.mono ?_
    rintro e w1 ⟨v, u, rfl, _, hb1⟩
    go_wp2
    go_ret2
    exact HQ.out _ _ ⟨rfl, hb1⟩
end Go.Proofs.YtangkcedgelegaaDoor

namespace Go.Proofs.YtangkcedgelegaaDoor
set_option linter.all false
set_option maxRecDepth 100000
open Go.RowKit
set_option linter.unusedVariables false
section
variable {L : List DItem} {p a : ByteArray} {i : Nat} {m : Int}
theorem dNames_not (h : i < L.length) (ht : dTold p a L[i] = false) : dNames (L.take (i + 1)) p a = dNames (L.take i) p a := by
  have hn : ¬ dTold p a L[i] = true := by rw [ht]; decide
  unfold dTold at hn
  unfold dNames
  rw [take_snocD h, List.filter_append, List.map_append, List.filter_cons, if_neg hn]
  exact List.append_nil _
theorem dNames_all (hm : ((dNames L p a).length : Int) ≤ m) : (dNames L p a).take m.toNat = dNames L p a ∧ decide (m < ((dNames L p a).length : Int)) = false :=
  ⟨List.take_of_length_le (by omega), decide_eq_false (by omega)⟩
theorem dPatE_at (h : i < L.length) (hn : ∀ j (hj : j < L.length), j < i → patErr p.data.toList L[j].1.data.toList = 0) (he : patErr p.data.toList L[i].1.data.toList ≠ 0) : dPatE L p = patErr p.data.toList L[i].1.data.toList := by
  have hf : L.find? (fun y => decide (patErr p.data.toList y.1.data.toList ≠ 0)) = some L[i] := by
    rw [List.find?_eq_some_iff_getElem]
    refine ⟨decide_eq_true he, i, h, rfl, fun j hj => ?_⟩
    rw [hn j (by omega) hj]
    rfl
  unfold dPatE
  rw [hf]
theorem dPatE_none (hn : ∀ j (hj : j < L.length), patErr p.data.toList L[j].1.data.toList = 0) : dPatE L p = 0 := by
  have hf : L.find? (fun y => decide (patErr p.data.toList y.1.data.toList ≠ 0)) = none := by
    rw [List.find?_eq_none]
    intro x hx
    obtain ⟨j, hj, rfl⟩ := List.mem_iff_getElem.1 hx
    rw [hn j hj]
    decide
  unfold dPatE
  rw [hf]
end
set_option maxHeartbeats 8000000 in
theorem RList_any (w : World) (base g : Nat) (v : Value) (L : List DItem) (d : RDr w base g v L) (p a : ByteArray) (hp : p.size ≤ 4398046511104) (ha : a.size ≤ 4398046511104) (m : Int) :
    Calls Tryd.prog 13 #[.pointer (some ⟨g, 0, none⟩), .string p, .string a, .int .i64 m] w (LsPost w (dListN L p a m) (dListM L p a m) (dListE L p a m)) := by
  have hE : dListE L p a m = if m < 0 then 2 else if patErr p.data.toList [] ≠ 0 then patErr p.data.toList [] else if dPatE L p ≠ 0 then dPatE L p else if isText a.data.toList = true then 0 else 5 := rfl
  have hq : ∀ n, n ≠ 0 → dListE L p a m = n → ∀ w', Below w.heap.size w w' → LsPost w (dListN L p a m) (dListM L p a m) (dListE L p a m) (.returned (.tuple #[.slice none 0 0, .bool false, .int .i64 n])) w' := fun n h1 h2 w' h3 => by
    have e1 : dListN L p a m = [] := by unfold dListN; rw [if_neg (by rw [h2]; exact h1)]
    have e2 : dListM L p a m = false := by unfold dListM; rw [if_neg (by rw [h2]; exact h1)]
    rw [e1, e2, h2]
    exact LsPost.err h3
  by_cases hm : m < 0
  · rw [if_pos hm] at hE
    have HF := Lib.hid (hq 2 (by decide) hE)
    have hmd : decide (m < 0) = true := decide_eq_true hm
    clear hE hq d
    go_enter Tryd.func13, Tryd.ntmps13
    go_wp2_with fail
    go_ret3
    exact HF.out _ (Below.refl _ _)
  rw [if_neg hm] at hE
  have hmd : decide (m < 0) = false := decide_eq_false hm
  have CF : Hid (∀ (s : ByteArray), s.size ≤ 4398046511104 → ∀ w', Calls Tryd.prog 30 #[.string p, .string s] w' fun e w2 => e = .returned (.tuple #[.bool (fitsOf p.data.toList s.data.toList), .int .i64 (patErr p.data.toList s.data.toList)]) ∧ Below w'.heap.size w' w2) := fun s hs w' => RFits_any p s w' hp hs
  have CE : Hid (Calls Tryd.prog 30 #[.string p, .string ⟨#[]⟩] w fun e w2 => e = .returned (.tuple #[.bool (fitsOf p.data.toList []), .int .i64 (patErr p.data.toList [])]) ∧ Below w.heap.size w w2) := RFits_any p ⟨#[]⟩ w hp (by decide)
  obtain ⟨E, hEe⟩ : ∃ E, E = patErr p.data.toList [] := ⟨_, rfl⟩
  obtain ⟨F0, hF0⟩ : ∃ E, E = fitsOf p.data.toList [] := ⟨_, rfl⟩
  rw [← hEe, ← hF0] at CE
  rw [← hEe] at hE
  by_cases he0 : E = 0
  case neg =>
    rw [if_pos he0] at hE
    have HF := Lib.hid (hq _ he0 hE)
    have hne : (E != 0) = true := by simpa using he0
    have hne2 : (E == 0) = false := by simpa using he0
    clear hE hq d hEe hF0
    go_enter Tryd.func13, Tryd.ntmps13
    go_wp2_with fail
    refine CE.out.mono ?_
    rintro e w1 ⟨rfl, l1⟩
    have L1 := Lib.hid l1
    clear l1 CE
    go_wp2_with fail
    go_ret3
    exact HF.out _ L1.out
  subst he0
  rw [if_neg (by decide)] at hE
  have HQ := Lib.hid hq
  have CI : Hid (∀ w', Calls Tryd.prog 31 #[.string a] w' fun e w2 => e = .returned (.bool (isText a.data.toList)) ∧ Below w'.heap.size w' w2) := fun w' => RIs_any a w' ha
  have CA : Hid (∀ (s : ByteArray), s.size ≤ 4398046511104 → ∀ w', Calls Tryd.prog 32 #[.string a, .string s] w' fun e w2 => e = .returned (.bool (ahd a s)) ∧ Below w'.heap.size w' w2) := fun s hs w' => RAhead2_any a s w' ha hs
  obtain ⟨A, c, rfl⟩ := d.len
  have k0 : w.cell? ⟨g, 0, none⟩ = some (.slice A L.length c) := d.blk.cell 0
  have D := Lib.hid d
  obtain ⟨n, hn⟩ : ∃ n, n = L.length := ⟨_, rfl⟩
  have hsm := d.small
  rw [← hn] at k0 hsm
  have HN := Lib.hid hn
  have HE1 := Lib.hid hE
  clear d hn hE hq hEe hF0
  go_enter Tryd.func13, Tryd.ntmps13
  go_wp2_with fail
  refine CE.out.mono ?_
  rintro e w1 ⟨rfl, l1⟩
  have L1 := Lib.hid l1
  clear l1 CE
  go_wp2_with fail
  go_loopw [13] (fun I wr => ∃ i : Nat, i ≤ n ∧ I = .int .i64 (i : Nat) ∧ Hid (∀ j (hj : j < L.length), j < i → patErr p.data.toList L[j].1.data.toList = 0) ∧ Hid (Below w.heap.size w wr)) (fun I _ => n - (intOf I).toNat)
  case atStart => exact ⟨0, Nat.zero_le _, rfl, (fun j _ h => absurd h (Nat.not_lt_zero _)), L1⟩
  case round =>
    obtain ⟨i, hi, rfl, NO, LR⟩ := hrel
    clear L1
    have j0 : wr.cell? ⟨g, 0, none⟩ = some (.slice A n c) := (LR.out.cell (lt_of_cellD k0)).trans k0
    by_cases hlt : i < n
    · have hil : i < L.length := by have := HN.out; omega
      obtain ⟨q, c', e, hnc, hcm, k1, _⟩ := D.out.at hil
      injection e with e1 e2 e3
      subst e1 e3
      have j1 : wr.cell? ⟨q, i * 2, none⟩ = some (.string L[i].1) := (LR.out.cell (lt_of_cellD k1)).trans k1
      have C1 := Lib.hid (CF.out L[i].1 (D.out.text _ (List.getElem_mem hil)) wr)
      obtain ⟨z, hz⟩ : ∃ z, z = patErr p.data.toList L[i].1.data.toList := ⟨_, rfl⟩
      obtain ⟨f, hf⟩ : ∃ z, z = fitsOf p.data.toList L[i].1.data.toList := ⟨_, rfl⟩
      obtain ⟨x, hx⟩ : ∃ x, x = L[i].1 := ⟨_, rfl⟩
      rw [← hz, ← hf] at C1
      rw [← hx] at j1 C1
      have HZ := Lib.hid hz
      clear hz hf e2 k1 hx
      by_cases hz0 : z = 0
      · subst hz0
        go_wp2_with fail
        refine C1.out.mono ?_
        rintro e w2 ⟨rfl, l2⟩
        have L2 := Lib.hid (LR.out.trans (l2.mono LR.out.size))
        clear l2 C1
        go_wp2_with fail
        go_roundw
        case rel => exact ⟨i + 1, by omega, by go_num, (fun j hj hji => by
          rcases Nat.lt_or_ge j i with h | h
          · exact NO.out j hj h
          · obtain rfl : j = i := by omega
            exact HZ.out.symm), L2.out⟩
        case measure => simp [intOf]; omega
      · have hpe := dPatE_at hil NO.out (by rw [← HZ.out]; exact hz0)
        have hEE : dListE L p a m = z := by
          rw [HE1.out, hpe, ← HZ.out, if_pos hz0]
        have HF := Lib.hid (HQ.out _ hz0 hEE)
        have hne : (z != 0) = true := by simpa using hz0
        have hne2 : (z == 0) = false := by simpa using hz0
        clear hpe hEE
        go_wp2_with fail
        refine C1.out.mono ?_
        rintro e w2 ⟨rfl, l2⟩
        have L2 := Lib.hid (LR.out.trans (l2.mono LR.out.size))
        clear l2 C1
        go_wp2_with fail
        go_ret3
        exact HF.out _ L2.out
    · obtain rfl : i = n := by omega
      have HP : Hid (∀ j (hj : j < L.length), patErr p.data.toList L[j].1.data.toList = 0) := fun j hj => NO.out j hj (by have := HN.out; omega)
      have hE2 := HE1.out
      rw [dPatE_none HP.out, if_neg (by decide)] at hE2
      clear NO HE1
      have C2 := Lib.hid (CI.out wr)
      obtain ⟨b, hb⟩ : ∃ b, b = isText a.data.toList := ⟨_, rfl⟩
      rw [← hb] at C2 hE2
      clear hb CI
      cases b with
      | false =>
        rw [if_neg (by decide)] at hE2
        have HF := Lib.hid (HQ.out 5 (by decide) hE2)
        clear hE2
        go_wp2_with fail
        refine C2.out.mono ?_
        rintro e w2 ⟨rfl, l2⟩
        have L2 := Lib.hid (LR.out.trans (l2.mono LR.out.size))
        clear l2 C2
        go_wp2_with fail
        go_ret3
        exact HF.out _ L2.out
      | true =>
        rw [if_pos rfl] at hE2
        have HE := Lib.hid hE2
        have hm0 : 0 ≤ m := by omega
        clear hE2 HQ
        go_wp2_with fail
        refine C2.out.mono ?_
        rintro e w2 ⟨rfl, l2⟩
        have L2 := Lib.hid (LR.out.trans (l2.mono LR.out.size))
        clear l2 C2
        go_wp2_with fail
        have h0 : (a.toList == []) = decide (a.size = 0) := empty_beq
        have h1 : a.toList.isEmpty = decide (a.size = 0) := empty_isEmpty
        obtain ⟨n, hnn⟩ : ∃ n, n = i := ⟨_, rfl⟩
        rw [← hnn] at HN k0 hsm ⊢
        clear hnn hi hlt j0 LR
        go_loopw [16, 17] (fun O I wr => ∃ k : Nat, k ≤ n ∧ I = .int .i64 (k : Nat) ∧ Hid (OwnS txtCells 1 9 wr w.heap.size O (dNames (L.take k) p a)) ∧ Hid (((dNames (L.take k) p a).length : Int) ≤ m) ∧ Hid (Below w.heap.size w wr)) (fun _ I _ => n - (intOf I).toNat)
        case atStart => exact ⟨0, Nat.zero_le _, rfl, OwnS.nil _ _ _ _ _, (by show ((dNames [] p a).length : Int) ≤ m; exact hm0), L2⟩
        case round =>
          obtain ⟨i, hi, rfl, OR, LE, LR⟩ := hrel
          clear L2
          have j0 : wr.cell? ⟨g, 0, none⟩ = some (.slice A n c) := (LR.out.cell (lt_of_cellD k0)).trans k0
          obtain ⟨A8, n8, c8, e8, hh8⟩ := OR.out.holds (by decide) txtCells_len
          subst e8
          have HN8 : Hid (n8 = (dNames (L.take i) p a).length) := hh8.len.symm
          clear hh8
          by_cases hlt : i < n
          · have hil : i < L.length := by have := HN.out; omega
            obtain ⟨q, c', e, hnc, hcm, k1, _⟩ := D.out.at hil
            injection e with e1 e2 e3
            subst e1 e3
            have j1 : wr.cell? ⟨q, i * 2, none⟩ = some (.string L[i].1) := (LR.out.cell (lt_of_cellD k1)).trans k1
            have hx0 := D.out.text _ (List.getElem_mem hil)
            have C1 := Lib.hid (CF.out L[i].1 hx0 wr)
            rw [HP.out i hil] at C1
            obtain ⟨f, hf⟩ : ∃ z, z = fitsOf p.data.toList L[i].1.data.toList := ⟨_, rfl⟩
            obtain ⟨x1, hx⟩ : ∃ x, x = L[i].1 := ⟨_, rfl⟩
            have HX1 := Lib.hid hx
            have HF1 := Lib.hid hf
            rw [← hf] at C1
            rw [← hx] at j1 C1 hx0
            have K0 : Hid (∀ w', Below w.heap.size w w' → w'.cell? ⟨g, 0, none⟩ = some (.slice (some ⟨q, 0, none⟩) n c)) := fun w' h => (h.cell (lt_of_cellD k0)).trans k0
            have K1 : Hid (∀ w', Below w.heap.size w w' → w'.cell? ⟨q, i * 2, none⟩ = some (.string x1)) := fun w' h => by rw [HX1.out]; exact (h.cell (lt_of_cellD k1)).trans k1
            clear hf e2 k1 hx
            cases f with
            | false =>
              have NX : Hid (dNames (L.take (i + 1)) p a = dNames (L.take i) p a) := dNames_not hil (by unfold dTold; rw [← HF1.out]; rfl)
              go_wp2_with fail
              refine C1.out.mono ?_
              rintro e wc ⟨rfl, l2⟩
              have LC := Lib.hid (LR.out.trans (l2.mono LR.out.size))
              have OC := Lib.hid (OR.out.below l2)
              clear l2 C1
              go_wp2_with fail
              go_roundw
              case rel => exact ⟨i + 1, by omega, by go_num, NX.out ▸ OC.out, by rw [NX.out]; exact LE.out, LC.out⟩
              case measure => simp [intOf]; omega
            | true =>
              by_cases ha0 : a.size = 0
              · rw [decide_eq_true ha0] at h0 h1
                have TD : Hid (dTold p a L[i] = true) := by show _ = _; unfold dTold; rw [← HF1.out, decide_eq_true ha0]; rfl
                go_wp2_with fail
                refine C1.out.mono ?_
                rintro e wc ⟨rfl, l2⟩
                have LC := Lib.hid (LR.out.trans (l2.mono LR.out.size))
                have OC := Lib.hid (OR.out.below l2)
                have j0 := K0.out _ LC.out
                have j1 := K1.out _ LC.out
                clear l2 C1
                by_cases hlm : ((dNames (L.take i) p a).length : Int) = m
                · have hq := dNames_more hil TD.out hlm
                  have ANS : Hid (LsPost w (dNames (L.take i) p a) true 0 (.returned (.tuple #[.slice A8 n8 c8, .bool true, .int .i64 0])) wc) := ⟨_, rfl, OC.out, LC.out⟩
                  have FIN : Hid (∀ e w', LsPost w (dNames (L.take i) p a) true 0 e w' → LsPost w (dListN L p a m) (dListM L p a m) (dListE L p a m) e w') := fun e w' h => by
                    have e1 : dListN L p a m = dNames (L.take i) p a := by unfold dListN; rw [HE.out, if_pos rfl]; exact hq.1
                    have e2 : dListM L p a m = true := by unfold dListM; rw [HE.out, if_pos rfl]; exact hq.2
                    rw [e1, e2, HE.out]
                    exact h
                  have hmq : ((n8 : Int) == m) = true := by rw [← hlm, HN8.out]; simp
                  clear hq
                  go_wp2_with fail
                  go_ret3
                  exact FIN.out _ _ ANS.out
                · have hmq : ((n8 : Int) == m) = false := by rw [HN8.out]; simpa using hlm
                  have LE2 : Hid (((dNames (L.take i) p a).length : Int) + 1 ≤ m) := by have := LE.out; show _ ≤ _; omega
                  have HBl : Hid (((dNames (L.take i) p a).length + [x1].length) * 16 ≤ 140737488355328 ∧ (dNames (L.take i) p a).length + [x1].length ≤ 9223372036854775807) := by have := dNames_le (L := L) (p := p) (a := a) i; show _ ∧ _; simp only [List.length_cons, List.length_nil]; omega
                  have NX : Hid (dNames (L.take (i + 1)) p a = dNames (L.take i) p a ++ [x1]) := by rw [HX1.out]; exact dNames_told hil TD.out
                  clear hlm
                  go_wp2_with (first
                    | ((with_reducible show wpList _ _ _ (⟨some 113, _, _, _, _, _⟩ :: _) _ _); go_loud (refine wpList_slice_blk rfl _ _ _ _ rfl Tryd.underlying29 [.string x1] (by kernel_rfl) ?_); intro gq w7 hq1 hq2 V7 L7; have O7 := Lib.hid (OC.out.below L7.out); have LC7 := Lib.hid (LC.out.trans (L7.out.mono LC.out.size)))
                    | (at_builtin; go_loud (refine wpList_append_holdSW rfl (.tmp 104) (.tmp 113) txtCells 1 (by decide) txtCells_len txtCells_one (.string ⟨#[]⟩) rfl 29 9 16 Tryd.underlying29 info_str rfl w.heap.size _ (dNames (L.take i) p a) rfl O7.out gq 0 1 1 [x1] rfl rfl (lit_cell1 x1 _ gq V7.out) HBl.out.1 HBl.out.2 LC7.out.size ?_); intro v8 w8 O8 S8 W8)
                    | fail)
                  have L8 : Hid (Below w.heap.size w w8) := LC7.out.trans (S8.out.below (fun j hj => (O7.out.block hj).1) LC7.out.size)
                  have LE3 : Hid (((dNames (L.take i) p a ++ [x1]).length : Int) ≤ m) := by have := LE2.out; show _ ≤ _; simp only [List.length_append, List.length_cons, List.length_nil]; omega
                  go_roundw
                  case rel => exact ⟨i + 1, by omega, by go_num, NX.out ▸ O8.out, by rw [NX.out]; exact LE3.out, L8.out⟩
                  case measure => simp [intOf]; omega
              · rw [decide_eq_false ha0] at h0 h1
                have C3 := Lib.hid (CA.out x1 hx0)
                obtain ⟨z, hz⟩ : ∃ z, z = ahd a x1 := ⟨_, rfl⟩
                rw [← hz] at C3
                have TZ : Hid (dTold p a L[i] = z) := by show _ = _; unfold dTold; rw [← HF1.out, decide_eq_false ha0, ← HX1.out, ← hz]; rfl
                clear hz
                go_wp2_with fail
                refine C1.out.mono ?_
                rintro e wb ⟨rfl, l2⟩
                have LB := Lib.hid (LR.out.trans (l2.mono LR.out.size))
                have OB := Lib.hid (OR.out.below l2)
                have j0 := K0.out _ LB.out
                have j1 := K1.out _ LB.out
                clear l2 C1
                go_wp2_with fail
                refine (C3.out _).mono ?_
                rintro e wc ⟨rfl, l3⟩
                have LC := Lib.hid (LB.out.trans (l3.mono LB.out.size))
                have OC := Lib.hid (OB.out.below l3)
                have j0 := K0.out _ LC.out
                have j1 := K1.out _ LC.out
                clear l3 C3
                cases z with
                | false =>
                  have NX : Hid (dNames (L.take (i + 1)) p a = dNames (L.take i) p a) := dNames_not hil TZ.out
                  go_wp2_with fail
                  go_roundw
                  case rel => exact ⟨i + 1, by omega, by go_num, NX.out ▸ OC.out, by rw [NX.out]; exact LE.out, LC.out⟩
                  case measure => simp [intOf]; omega
                | true =>
                  have TD := Lib.hid TZ.out
                  by_cases hlm : ((dNames (L.take i) p a).length : Int) = m
                  · have hq := dNames_more hil TD.out hlm
                    have ANS : Hid (LsPost w (dNames (L.take i) p a) true 0 (.returned (.tuple #[.slice A8 n8 c8, .bool true, .int .i64 0])) wc) := ⟨_, rfl, OC.out, LC.out⟩
                    have FIN : Hid (∀ e w', LsPost w (dNames (L.take i) p a) true 0 e w' → LsPost w (dListN L p a m) (dListM L p a m) (dListE L p a m) e w') := fun e w' h => by
                      have e1 : dListN L p a m = dNames (L.take i) p a := by unfold dListN; rw [HE.out, if_pos rfl]; exact hq.1
                      have e2 : dListM L p a m = true := by unfold dListM; rw [HE.out, if_pos rfl]; exact hq.2
                      rw [e1, e2, HE.out]
                      exact h
                    have hmq : ((n8 : Int) == m) = true := by rw [← hlm, HN8.out]; simp
                    clear hq
                    go_wp2_with fail
                    go_ret3
                    exact FIN.out _ _ ANS.out
                  · have hmq : ((n8 : Int) == m) = false := by rw [HN8.out]; simpa using hlm
                    have LE2 : Hid (((dNames (L.take i) p a).length : Int) + 1 ≤ m) := by have := LE.out; show _ ≤ _; omega
                    have HBl : Hid (((dNames (L.take i) p a).length + [x1].length) * 16 ≤ 140737488355328 ∧ (dNames (L.take i) p a).length + [x1].length ≤ 9223372036854775807) := by have := dNames_le (L := L) (p := p) (a := a) i; show _ ∧ _; simp only [List.length_cons, List.length_nil]; omega
                    have NX : Hid (dNames (L.take (i + 1)) p a = dNames (L.take i) p a ++ [x1]) := by rw [HX1.out]; exact dNames_told hil TD.out
                    clear hlm
                    go_wp2_with (first
                      | ((with_reducible show wpList _ _ _ (⟨some 113, _, _, _, _, _⟩ :: _) _ _); go_loud (refine wpList_slice_blk rfl _ _ _ _ rfl Tryd.underlying29 [.string x1] (by kernel_rfl) ?_); intro gq w7 hq1 hq2 V7 L7; have O7 := Lib.hid (OC.out.below L7.out); have LC7 := Lib.hid (LC.out.trans (L7.out.mono LC.out.size)))
                      | (at_builtin; go_loud (refine wpList_append_holdSW rfl (.tmp 104) (.tmp 113) txtCells 1 (by decide) txtCells_len txtCells_one (.string ⟨#[]⟩) rfl 29 9 16 Tryd.underlying29 info_str rfl w.heap.size _ (dNames (L.take i) p a) rfl O7.out gq 0 1 1 [x1] rfl rfl (lit_cell1 x1 _ gq V7.out) HBl.out.1 HBl.out.2 LC7.out.size ?_); intro v8 w8 O8 S8 W8)
                      | fail)
                    have L8 : Hid (Below w.heap.size w w8) := LC7.out.trans (S8.out.below (fun j hj => (O7.out.block hj).1) LC7.out.size)
                    have LE3 : Hid (((dNames (L.take i) p a ++ [x1]).length : Int) ≤ m) := by have := LE2.out; show _ ≤ _; simp only [List.length_append, List.length_cons, List.length_nil]; omega
                    go_roundw
                    case rel => exact ⟨i + 1, by omega, by go_num, NX.out ▸ O8.out, by rw [NX.out]; exact LE3.out, L8.out⟩
                    case measure => simp [intOf]; omega
          · obtain rfl : i = n := by omega
            have hall : L.take i = L := List.take_of_length_le (by have := HN.out; omega)
            have ho := OR.out
            have hle := LE.out
            rw [hall] at ho hle
            obtain ⟨q1, q2⟩ := dNames_all hle
            have FIN : Hid (LsPost w (dListN L p a m) (dListM L p a m) (dListE L p a m) (.returned (.tuple #[.slice A8 n8 c8, .bool false, .int .i64 0])) wr) := by
              have e1 : dListN L p a m = dNames L p a := by unfold dListN; rw [HE.out, if_pos rfl]; exact q1
              have e2 : dListM L p a m = false := by unfold dListM; rw [HE.out, if_pos rfl]; exact q2
              rw [e1, e2, HE.out]
              exact ⟨_, rfl, ho, LR.out⟩
            clear ho hle q1 q2 hall
            go_wp2_with fail
            go_ret3
            exact FIN.out
end Go.Proofs.YtangkcedgelegaaDoor

namespace Go.Proofs.YtangkcedgelegaaDoor
set_option linter.all false
set_option maxRecDepth 100000
open Go.RowKit
set_option linter.unusedVariables false
theorem dListN_le {L : List DItem} {p a : ByteArray} {m : Int} : (dListN L p a m).length ≤ L.length := by
  unfold dListN
  split
  · rw [List.length_take]
    have : (dNames L p a).length ≤ L.length := by
      have := dNames_le (L := L) (p := p) (a := a) L.length
      rwa [List.take_length] at this
    omega
  · exact Nat.zero_le _
end Go.Proofs.YtangkcedgelegaaDoor
