/-
  Contracts of the program's layer 2 (utf): loose, folded, Fold, Alike, Ahead; of the library's Compare over runes.
-/
import Derived.Test.YtaggjlobmikagaaDoorUtfC
namespace Go.Proofs.YtaggjlobmikagaaDoor
open Go.RowKit

theorem decodeGo_eq (s : ByteArray) : Lib.decodeGo s = if s.size = 0 then (65533, 0) else Lib.decodeL s.data.toList := by
  unfold Lib.decodeGo
  split
  · rfl
  · have := Lib.decodeL_drop s 0
    rw [List.drop_zero] at this
    rw [this]

set_option maxHeartbeats 400000 in
theorem loose_any (s : ByteArray) (w : World) (hT : Tabs w) :
    Calls Tryd.prog 49 #[.string s] w fun e w' => e = .returned (.bool (((Lib.decodeGo s).2 : Int) == 1)) ∧ Below w.heap.size w w' := by
  have c1 := Tryd.utf8_DecodeRuneInString s w hT
  obtain ⟨r, hr⟩ : ∃ r, r = (Lib.decodeGo s).1 := ⟨_, rfl⟩
  obtain ⟨z, hz⟩ : ∃ z, z = (Lib.decodeGo s).2 := ⟨_, rfl⟩
  rw [← hr, ← hz] at c1
  rw [← hz]
  have C1 := Lib.hid c1
  clear hr hz c1
  go_enter Tryd.func49, Tryd.ntmps49
  go_wp2_with fail
  refine C1.out.mono ?_
  rintro e w' ⟨rfl, hb⟩
  go_wp2
  go_ret
  exact ⟨rfl, hb⟩

/-- what folded answers -/
def FoldedPost (w : World) (l : List UInt8) (e : Ending) (w' : World) : Prop :=
  ∃ v, e = .returned v ∧ OwnK .i32 21 w' w.heap.size v (foldedOf l) ∧ Below w.heap.size w w'

theorem get_drop (s : ByteArray) (pos : Nat) (h : pos < s.size) : (s.data.toList.drop pos).getD 0 0 = s[pos]'h := by
  have e : s.data[pos]? = some (s[pos]'h) := Array.getElem?_eq_getElem h
  rw [List.getD_eq_getElem?_getD, List.getElem?_drop, Nat.add_zero, Array.getElem?_toList, e]
  rfl
theorem extract_drop (s : ByteArray) (pos : Nat) : (s.extract pos s.size).data.toList = s.data.toList.drop pos := by
  rw [Lib.extract_eq]
  exact List.take_of_length_le (by rw [List.length_drop, ← Lib.size_eq]; exact Nat.le_refl _)

/-- the head of what is left, as the walk decides it -/
theorem head_at (s : ByteArray) (pos : Nat) (h : pos < s.size) :
    ((Utf8.decode s pos).1 = 65533 ∧ (Utf8.decode s pos).2 = 1 ∧ headOf (s.data.toList.drop pos) = 1114112 + ((s[pos]'h).toNat : Int)) ∨
    (¬ ((Utf8.decode s pos).1 = 65533 ∧ (Utf8.decode s pos).2 = 1) ∧ headOf (s.data.toList.drop pos) = ((Utf8.decode s pos).1 : Int) ∧ IsLetter ((Utf8.decode s pos).1 : Int)) := by
  have hl : s.data.toList.drop pos ≠ [] := by
    intro e
    have := congrArg List.length e
    rw [List.length_drop, ← Lib.size_eq] at this
    simp at this
    omega
  rcases head_shape _ hl with ⟨h0, h1, h2⟩ | ⟨h0, h1, h2, _⟩
  · rw [Lib.decodeL_drop] at h0 h1 h2
    exact .inr ⟨h0, h1, h2⟩
  · rw [Lib.decodeL_drop] at h0 h1
    rw [get_drop s pos h] at h2
    exact .inl ⟨h0, h1, h2⟩

set_option maxHeartbeats 2000000 in
theorem folded_any (s : ByteArray) (w : World) (hs : s.size ≤ 4398046511104) (hT : Tabs w) :
    Calls Tryd.prog 39 #[.string s] w (FoldedPost w s.data.toList) := by
  have hq : ∀ e w', (∃ v, e = .returned v ∧ OwnK .i32 21 w' w.heap.size v (foldedOf s.data.toList) ∧ Below w.heap.size w w') → FoldedPost w s.data.toList e w' := fun _ _ h => h
  have HQ := Lib.hid hq
  have hb4 : ∀ z : Nat, z ≤ 4 * s.size → z * 4 ≤ 281474976710656 := fun z hz => by omega
  clear hq hb4
  go_enter Tryd.func39, Tryd.ntmps39
  go_wp2_with (at_make; refine wpList_make_own0 rfl .i32 51 21 4 Tryd.underlying51 info_i32 _ _ rfl _ s.size rfl rfl rfl (by omega) (by rw [maxLen_eq]; omega) ?_; intro w1 ho1 hb1)
  have hs1 := hb1.size
  go_loopw [3, 4, 5] (fun v _ _ wr => ∃ (pos : Nat) (zs : List Int), Hid (OwnK .i32 21 wr w.heap.size v zs) ∧ wr.heap[w1.heap.size]? = some (.stringIter s pos) ∧ Below w.heap.size w wr ∧ Hid (zs ++ (letters (s.data.toList.drop pos)).map foldR = foldedOf s.data.toList) ∧ zs.length ≤ pos ∧ pos ≤ s.size) (fun _ _ _ wr => s.size - wr.iterPos w1.heap.size)
  case atStart =>
    refine ⟨0, [], ho1.out.own.alloc _, World.iter_heap w1 s 0, hb1.alloc (by omega) _, ?_, by simp, by omega⟩
    show _ = _
    rw [List.drop_zero, List.nil_append]
    rfl
  case round =>
    obtain ⟨pos, zs, HO, hit, hb, HE, hzl, hps⟩ := hrel
    have hK : w1.heap.size < wr.heap.size := (Array.getElem?_eq_some_iff.1 hit).1
    by_cases hp : pos < s.size
    · have hnx : ∀ ty, (Instr.next (.pointer (some ⟨w1.heap.size, 0, none⟩)) true ty).run Tryd.prog wr = _ := fun ty => Lib.run_next_any_at wr w1.heap.size s pos ty hit hp
      obtain ⟨n1, n2, n3⟩ := next_any s pos hp
      have hh := head_at s pos hp
      obtain ⟨R, hR⟩ : ∃ R : Int, R = ((Utf8.decode s pos).1 : Int) := ⟨_, rfl⟩
      obtain ⟨p', hp'⟩ : ∃ p', p' = pos + (Utf8.decode s pos).2 := ⟨_, rfl⟩
      rw [← hp'] at hnx n1 n3
      rw [← hR] at hnx hh
      have hit2 := Lib.iterAt_heap wr w1.heap.size s pos p' hit
      have hb3 := Lib.below_iterAt hb (k := w1.heap.size) (by omega) s p'
      have HO3 : Hid (OwnK .i32 21 (wr.iterAt w1.heap.size s p') w.heap.size _ zs) := HO.out.iterAt hit p'
      have hs3 := Lib.iterAt_size wr w1.heap.size s p'
      obtain ⟨w3, hw3⟩ : ∃ w3, w3 = wr.iterAt w1.heap.size s p' := ⟨_, rfl⟩
      rw [← hw3] at hnx hit2 hb3 HO3 hs3
      have hpp : pos < p' := by omega
      obtain ⟨h, hh0⟩ : ∃ h, h = headOf (s.data.toList.drop pos) := ⟨_, rfl⟩
      rw [← hh0] at hh n1
      have HN : Hid (zs ++ [foldR h] ++ (letters (s.data.toList.drop p')).map foldR = foldedOf s.data.toList) := by
        show _ = _
        rw [← HE.out, n1]
        simp
      have HI0 := Lib.hid hit
      have HI := Lib.hid hit2
      have HS3 := Lib.hid hs3
      have hTr : Tabs w3 := (hT.below hb3)
      have hce := loose_any (s.extract pos s.size) w3 hTr
      rw [decodeGo_eq, if_neg (by rw [ByteArray.size_extract]; omega), extract_drop, Lib.decodeL_drop] at hce
      obtain ⟨Z, hZ⟩ : ∃ Z, Z = (Utf8.decode s pos).2 := ⟨_, rfl⟩
      rw [← hZ] at hce hh
      have hR' : R = 65533 ↔ (Utf8.decode s pos).1 = 65533 := by rw [hR]; omega
      rw [← hR'] at hh
      have hbyte : 0 ≤ ((s[pos]'hp).toNat : Int) ∧ ((s[pos]'hp).toNat : Int) ≤ 255 := by have := (s[pos]'hp).toNat_lt; omega
      by_cases hA : 65 ≤ R ∧ R ≤ 90
      · obtain ⟨hA1, hA2⟩ := hA
        have HF : Hid (foldR h = R + 32) := by
          rcases hh with ⟨e, _, _⟩ | ⟨_, e, _⟩
          · omega
          · show _ = _; rw [e]; exact if_pos ⟨hA1, hA2⟩
        clear hh hce hbyte
        clear hit hit2 hw3 hs3 hR hp' hh0 n1 n2 hR' hZ HE hTr
        go_wp2_with (at_builtin; refine wpList_append_lit rfl (.tmp 38) (.tmp 40) .i32 51 21 4 Tryd.underlying51 info_i32 rfl w.heap.size _ zs [R + 32] _ rfl 1 1 rfl rfl rfl HO3.out (by omega) (by omega) (by have := HS3.out; have := hpp; omega) ?_; intro v5 w5 ho5 hg5)
        have hb5 := hg5.out.below HO3.out (by have := HS3.out; have := hpp; omega)
        have HI5 := Lib.hid (hg5.out.iter HO3.out HI.out)
        clear hg5
        go_roundw
        case rel =>
          refine ⟨p', _, ho5, HI5.out, hb3.trans hb5, ?_, by simp; omega, n3⟩
          show _ = _
          rw [← HN.out]
          have ef := HF.out
          rw [ef]
        case measure =>
          have h1 := HI5.out
          have h0 := HI0.out
          simp only [World.iterPos, h0, h1]
          omega
      by_cases hB : R = 65533
      · have hBb : (R == 65533) = true := by rw [beq_iff_eq]; exact hB
        by_cases hC : Z = 1
        · have HF : Hid (foldR h = 1114112 + ((s[pos]'hp).toNat : Int)) := by
            rcases hh with ⟨_, _, e⟩ | ⟨e, _, _⟩
            · show _ = _; rw [e]; exact if_neg (by omega)
            · exact absurd ⟨hB, hC⟩ e
          subst hC
          have CE := Lib.hid hce
          subst hB
          clear hh hce hBb hA
          clear hit hit2 hw3 hs3 hR hp' hh0 n1 n2 hR' hZ HE hTr
          go_wp2_with fail
          refine CE.out.mono ?_
          rintro e w4 ⟨rfl, hb4⟩
          have HO4 := Lib.hid (HO3.out.below hb4)
          have HI4 : Hid (w4.heap[w1.heap.size]? = some (.stringIter s p')) := (hb4.block _ (by have := HS3.out; omega)).trans HI.out
          go_wp2_with (at_builtin; refine wpList_append_lit rfl (.tmp 38) (.tmp 40) .i32 51 21 4 Tryd.underlying51 info_i32 rfl w.heap.size _ zs [1114112 + ((s[pos]'hp).toNat : Int)] _ rfl 1 1 rfl rfl rfl HO4.out (by omega) (by omega) (by have := HS3.out; have := hb4.size; omega) ?_; intro v5 w5 ho5 hg5)
          have hb5 := hg5.out.below HO4.out (by have := HS3.out; have := hb4.size; omega)
          have HI5 := Lib.hid (hg5.out.iter HO4.out HI4.out)
          clear hg5
          go_roundw
          case rel =>
            refine ⟨p', _, ho5, HI5.out, (hb3.trans (hb4.mono hb3.size)).trans hb5, ?_, by simp; omega, n3⟩
            show _ = _
            rw [← HN.out]
            have ef := HF.out
            rw [ef]
          case measure =>
            have h1 := HI5.out
            have h0 := HI0.out
            simp only [World.iterPos, h0, h1]
            omega
        · have HF : Hid (foldR h = R) := by
            rcases hh with ⟨_, e, _⟩ | ⟨_, e, _⟩
            · exact absurd e hC
            · show _ = _; rw [e]; exact if_neg hA
          rw [show ((Z : Int) == 1) = false by rw [beq_eq_false_iff_ne]; omega] at hce
          have CE := Lib.hid hce
          subst hB
          clear hh hce hBb hA hC hbyte
          clear hit hit2 hw3 hs3 hR hp' hh0 n1 n2 hR' hZ HE hTr
          go_wp2_with fail
          refine CE.out.mono ?_
          rintro e w4 ⟨rfl, hb4⟩
          have HO4 := Lib.hid (HO3.out.below hb4)
          have HI4 : Hid (w4.heap[w1.heap.size]? = some (.stringIter s p')) := (hb4.block _ (by have := HS3.out; omega)).trans HI.out
          go_wp2_with (at_builtin; refine wpList_append_lit rfl (.tmp 38) (.tmp 40) .i32 51 21 4 Tryd.underlying51 info_i32 rfl w.heap.size _ zs [65533] _ rfl 1 1 rfl rfl rfl HO4.out (by omega) (by omega) (by have := HS3.out; have := hb4.size; omega) ?_; intro v5 w5 ho5 hg5)
          have hb5 := hg5.out.below HO4.out (by have := HS3.out; have := hb4.size; omega)
          have HI5 := Lib.hid (hg5.out.iter HO4.out HI4.out)
          clear hg5
          go_roundw
          case rel =>
            refine ⟨p', _, ho5, HI5.out, (hb3.trans (hb4.mono hb3.size)).trans hb5, ?_, by simp; omega, n3⟩
            show _ = _
            rw [← HN.out]
            have ef := HF.out
            rw [ef]
          case measure =>
            have h1 := HI5.out
            have h0 := HI0.out
            simp only [World.iterPos, h0, h1]
            omega
      have HF : Hid (foldR h = R) := by
        rcases hh with ⟨e, _, _⟩ | ⟨_, e, _⟩
        · exact absurd e hB
        · show _ = _; rw [e]; exact if_neg hA
      have hBb : (R == 65533) = false := by rw [beq_eq_false_iff_ne]; exact hB
      have hRr : 0 ≤ R ∧ R ≤ 1114111 := by
        rcases hh with ⟨e, _, _⟩ | ⟨_, _, e⟩
        · exact absurd e hB
        · exact ⟨e.1, e.2.1⟩
      obtain ⟨hR0, hR1⟩ := hRr
      clear hh hce hbyte
      clear hit hit2 hw3 hs3 hR hp' hh0 n1 n2 hR' hZ HE hTr
      by_cases hA1 : 65 ≤ R
      · have hA2 : 90 < R := by omega
        clear hA
        go_wp2_with (at_builtin; refine wpList_append_lit rfl (.tmp 38) (.tmp 40) .i32 51 21 4 Tryd.underlying51 info_i32 rfl w.heap.size _ zs [R] _ rfl 1 1 rfl rfl rfl HO3.out (by omega) (by omega) (by have := HS3.out; have := hpp; omega) ?_; intro v5 w5 ho5 hg5)
        have hb5 := hg5.out.below HO3.out (by have := HS3.out; have := hpp; omega)
        have HI5 := Lib.hid (hg5.out.iter HO3.out HI.out)
        clear hg5
        go_roundw
        case rel =>
          refine ⟨p', _, ho5, HI5.out, hb3.trans hb5, ?_, by simp; omega, n3⟩
          show _ = _
          rw [← HN.out]
          have ef := HF.out
          rw [ef]
        case measure =>
          have h1 := HI5.out
          have h0 := HI0.out
          simp only [World.iterPos, h0, h1]
          omega
      · clear hA
        go_wp2_with (at_builtin; refine wpList_append_lit rfl (.tmp 38) (.tmp 40) .i32 51 21 4 Tryd.underlying51 info_i32 rfl w.heap.size _ zs [R] _ rfl 1 1 rfl rfl rfl HO3.out (by omega) (by omega) (by have := HS3.out; have := hpp; omega) ?_; intro v5 w5 ho5 hg5)
        have hb5 := hg5.out.below HO3.out (by have := HS3.out; have := hpp; omega)
        have HI5 := Lib.hid (hg5.out.iter HO3.out HI.out)
        clear hg5
        go_roundw
        case rel =>
          refine ⟨p', _, ho5, HI5.out, hb3.trans hb5, ?_, by simp; omega, n3⟩
          show _ = _
          rw [← HN.out]
          have ef := HF.out
          rw [ef]
        case measure =>
          have h1 := HI5.out
          have h0 := HI0.out
          simp only [World.iterPos, h0, h1]
          omega
    · have hnx : ∀ ty, (Instr.next (.pointer (some ⟨w1.heap.size, 0, none⟩)) true ty).run Tryd.prog wr = _ := fun ty => Lib.run_next_end_at wr w1.heap.size s pos ty hit hp
      have HEE : Hid (zs = foldedOf s.data.toList) := by
        have := HE.out
        rw [next_end s pos hp, List.map_nil, List.append_nil] at this
        exact this
      clear HE
      go_wp2
      go_ret
      refine HQ.out _ _ ⟨_, rfl, ?_, hb⟩
      rw [← HEE.out]
      exact HO.out

/-! ### Fold -/

def encZ (r : Int) : List Int := if 1114112 ≤ r then [r - 1114112] else Lib.encodeRuneZ r
theorem encZ_le (r : Int) : (encZ r).length ≤ 4 := by
  unfold encZ
  split
  · simp
  · exact (Lib.encodeRuneZ_length r).2
theorem strOf_encZ (rs : List Int) : strOfNums (rs.flatMap encZ) = ⟨(rs.flatMap enc).toArray⟩ := by
  unfold strOfNums
  have e : (rs.flatMap encZ).map (fun n => UInt8.ofNat n.toNat) = rs.flatMap enc := by
    induction rs with
    | nil => rfl
    | cons r rs ih =>
      rw [List.flatMap_cons, List.map_append, ih, List.flatMap_cons]
      congr 1
      unfold encZ enc
      split <;> rfl
  rw [e]

/-- what Fold answers -/
def FoldPost (w : World) (l : List UInt8) (e : Ending) (w' : World) : Prop := e = .returned (.string ⟨(foldB l).toArray⟩) ∧ Below w.heap.size w w'

set_option maxHeartbeats 2000000 in
theorem Fold_any (s : ByteArray) (w : World) (hs : s.size ≤ 4398046511104) (hT : Tabs w) :
    Calls Tryd.prog 26 #[.string s] w (FoldPost w s.data.toList) := by
  have hq : ∀ e w', (e = .returned (.string ⟨((foldedOf s.data.toList).flatMap enc).toArray⟩) ∧ Below w.heap.size w w') → FoldPost w s.data.toList e w' := fun e w' h => by
    rw [folded_enc] at h
    exact h
  have HQ := Lib.hid hq
  have c1 := fun w hT => Lib.hid (folded_any s w hs hT)
  have hone := foldedOf_one s.data.toList
  have hlen : (foldedOf s.data.toList).length ≤ s.size := by
    unfold foldedOf
    rw [List.length_map, Lib.size_eq]
    exact letters_le _
  obtain ⟨L, hL⟩ : ∃ L, L = foldedOf s.data.toList := ⟨_, rfl⟩
  rw [← hL] at HQ hone hlen
  have HL := Lib.hid hL
  clear hq hL
  go_enter Tryd.func26, Tryd.ntmps26
  go_wp2_with (first
    | (at_make; refine wpList_make_own0 rfl .u8 50 5 1 Tryd.underlying50 info_u8 _ _ rfl _ s.size rfl rfl rfl (by omega) (by rw [maxLen_eq]; omega) ?_; intro w1 ho1 hb1)
    | fail)
  have hT1 := hT.below hb1
  refine (c1 _ hT1).out.mono ?_
  rintro e w2 ⟨v2, rfl, ho2, hb2⟩
  rw [← HL.out] at ho2
  have HV2 := Lib.hid ho2
  obtain ⟨A2, n2, m2, rfl, hn2, hnm, hn63, hA2, _⟩ := ho2.open
  have HN2 := Lib.hid hn2
  have hnS : n2 ≤ s.size := by omega
  clear ho2 hn2 hlen c1
  have HV1 := Lib.hid (ho1.out.own.below hb2)
  have hs1 := hb1.size
  have hs2 := hb2.size
  go_wp2
  go_loopw [3, 5, 12] (fun v _ i wr => ∃ k : Nat, i = .int .i64 k ∧ k ≤ n2 ∧ Hid (OwnK .u8 5 wr w.heap.size v ((L.take k).flatMap encZ)) ∧ Hid (OwnK .i32 21 wr w1.heap.size (.slice A2 n2 m2) L) ∧ Hid (((L.take k).flatMap encZ).length ≤ 4 * k) ∧ Below w.heap.size w wr) (fun _ _ i _ => n2 - (intOf i).toNat)
  case atStart => exact ⟨0, rfl, Nat.zero_le _, HV1, HV2, (by show _ ≤ _; simp), hb1.trans (hb2.mono hs1)⟩
  case round =>
    obtain ⟨k, rfl, hk, HO, HR, HL4, hb⟩ := hrel
    have hbs := hb.size
    by_cases hlt : k < n2
    · obtain ⟨A3, n3, m3, he3, _, _, _, _, hc3⟩ := HR.out.open
      cases he3
      obtain ⟨g, rfl, _, _, hc⟩ := hc3 (by omega)
      have gc := hc k hlt
      have hr := hone (L.getD k 0) (by
        have := HN2.out
        rw [List.getD_eq_getElem?_getD, List.getElem?_eq_getElem (by omega)]
        exact List.getElem_mem _)
      have htk : L.take (k + 1) = L.take k ++ [L.getD k 0] := by
        have := HN2.out
        rw [List.take_succ_eq_append_getElem (by omega)]
        simp [List.getD_eq_getElem?_getD, show k < L.length by omega]
      obtain ⟨r, hrr⟩ : ∃ r, r = L.getD k 0 := ⟨_, rfl⟩
      rw [← hrr] at gc hr htk
      have hfl : (L.take (k + 1)).flatMap encZ = (L.take k).flatMap encZ ++ encZ r := by rw [htk]; simp
      have hbd := hr.bounds
      obtain ⟨hr0, hr1⟩ := hbd
      have hlen4 : ((L.take (k + 1)).flatMap encZ).length ≤ 4 * (k + 1) := by
        have h1 := HL4.out
        have h2 := encZ_le r
        rw [hfl, List.length_append]
        omega
      have HLEN := Lib.hid hlen4
      clear hc hc3 htk hrr hlen4
      by_cases hlo : r < 1114112
      · have hL := hr.letter hlo
        have HF : Hid ((L.take (k + 1)).flatMap encZ = (L.take k).flatMap encZ ++ Lib.encodeRuneZ r) := by
          show _ = _
          rw [hfl]
          unfold encZ
          rw [if_neg (by omega)]
        have c2 := Lib.hid (AppendRune_any wr _ _ _ r hL HO.out (by have := HL4.out; omega) hbs)
        clear hr hfl hL
        go_wp2_with fail
        refine c2.out.mono ?_
        rintro e w5 ⟨v5, rfl, ho5, hg5⟩
        have hb5 := hg5.below HO.out hbs
        have HR5 := Lib.hid (hg5.other HO.out HR.out (by decide))
        have HO5 : Hid (OwnK .u8 5 w5 w.heap.size v5 ((L.take (k + 1)).flatMap encZ)) := by rw [HF.out]; exact ho5
        clear ho5 hg5 c2
        go_wp2
        go_roundw
        case rel => exact ⟨k + 1, by go_num, hlt, HO5, HR5, HLEN, hb.trans hb5⟩
        case measure => simp [intOf]; omega
      · have HF : Hid ((L.take (k + 1)).flatMap encZ = (L.take k).flatMap encZ ++ [r - 1114112]) := by
          show _ = _
          rw [hfl]
          unfold encZ
          rw [if_pos (by omega)]
        clear hr hfl
        go_wp2_with (at_builtin; go_loud (refine wpList_append_lit rfl (.tmp 16) (.tmp 20) .u8 50 5 1 Tryd.underlying50 info_u8 rfl w.heap.size _ _ [r - 1114112] _ rfl 1 1 rfl rfl rfl HO.out (by have := HL4.out; omega) (by have := HL4.out; omega) hbs ?_; intro v5 w5 ho5 hg5))
        have hb5 := hg5.out.below HO.out hbs
        have HR5 := Lib.hid (hg5.out.other HO.out HR.out (by decide))
        have HO5 : Hid (OwnK .u8 5 w5 w.heap.size v5 ((L.take (k + 1)).flatMap encZ)) := by rw [HF.out]; exact ho5
        clear ho5 hg5
        go_roundw
        case rel => exact ⟨k + 1, by go_num, hlt, HO5, HR5, HLEN, hb.trans hb5⟩
        case measure => simp [intOf]; omega
    · obtain rfl : k = n2 := by omega
      have HTK : Hid (L.take k = L) := by
        show _ = _
        exact List.take_of_length_le (by have := HN2.out; omega)
      have hcv := run_string_own (P := Tryd.prog) (src := 50) Tryd.underlying50 Tryd.underlying5 HO.out
      rw [HTK.out, strOf_encZ] at hcv
      obtain ⟨T, hTT⟩ : ∃ T : ByteArray, T = ⟨(L.flatMap enc).toArray⟩ := ⟨_, rfl⟩
      rw [← hTT] at hcv
      have HTT := Lib.hid hTT
      clear hTT
      go_wp2
      go_ret
      refine HQ.out _ _ ⟨?_, hb⟩
      rw [HTT.out]
      rfl

/-! ### Alike, Ahead -/

theorem mk_inj (a b : List UInt8) : ((⟨a.toArray⟩ : ByteArray) = ⟨b.toArray⟩) ↔ a = b := by
  constructor
  · intro h
    have := congrArg ByteArray.data h
    exact List.toArray_inj this
  · intro h; rw [h]

set_option maxHeartbeats 400000 in
theorem Alike_any (s t : ByteArray) (w : World) (hs : s.size ≤ 4398046511104) (ht : t.size ≤ 4398046511104) (hT : Tabs w) :
    Calls Tryd.prog 37 #[.string s, .string t] w fun e w' => e = .returned (.bool (alikeOf s.data.toList t.data.toList)) ∧ Below w.heap.size w w' := by
  have c1 := Lib.hid (Fold_any s w hs hT)
  have c2 := fun w hT => Lib.hid (Fold_any t w ht hT)
  unfold alikeOf
  have hdec : decide (foldB s.data.toList = foldB t.data.toList) = decide ((⟨(foldB s.data.toList).toArray⟩ : ByteArray) = ⟨(foldB t.data.toList).toArray⟩) := decide_eq_decide.2 (mk_inj _ _).symm
  rw [hdec]
  unfold FoldPost at c1 c2
  obtain ⟨X, hX⟩ : ∃ X : ByteArray, X = ⟨(foldB s.data.toList).toArray⟩ := ⟨_, rfl⟩
  obtain ⟨Y, hY⟩ : ∃ Y : ByteArray, Y = ⟨(foldB t.data.toList).toArray⟩ := ⟨_, rfl⟩
  rw [← hX] at c1 ⊢
  rw [← hY] at c2 ⊢
  clear hdec hX hY
  go_enter Tryd.func37, Tryd.ntmps37
  go_wp2_with fail
  refine c1.out.mono ?_
  rintro e w1 ⟨rfl, hb1⟩
  go_wp2_with fail
  refine (c2 _ (hT.below hb1)).out.mono ?_
  rintro e w2 ⟨rfl, hb2⟩
  go_wp2
  go_ret
  refine ⟨ret_bool ?_, step hb1 hb2⟩
  show (X.toList == Y.toList) = decide (X = Y)
  rw [Lib.toList_data, Lib.toList_data, Bool.eq_iff_iff, beq_iff_eq, decide_eq_true_eq]
  exact ⟨fun h => ByteArray.ext (Array.toList_inj.1 h), fun h => by rw [h]⟩

theorem lexc_step {xs ys : List Int} {k : Nat} (h1 : k < xs.length) (h2 : k < ys.length) :
    lexc (xs.drop k) (ys.drop k) = if cmpI (xs.getD k 0) (ys.getD k 0) = 0 then lexc (xs.drop (k + 1)) (ys.drop (k + 1)) else cmpI (xs.getD k 0) (ys.getD k 0) := by
  rw [List.drop_eq_getElem_cons h1, List.drop_eq_getElem_cons h2]
  simp only [List.getD_eq_getElem?_getD, List.getElem?_eq_getElem h1, List.getElem?_eq_getElem h2, Option.getD_some, lexc]
  unfold cmpI
  repeat' split
  all_goals first | rfl | omega
theorem lexc_long {xs ys : List Int} {k : Nat} (h1 : k < xs.length) (h2 : ¬ k < ys.length) : lexc (xs.drop k) (ys.drop k) = 1 := by
  rw [List.drop_eq_getElem_cons h1, List.drop_of_length_le (l := ys) (by omega)]
  rfl
theorem lexc_short {xs ys : List Int} {k : Nat} (h1 : ¬ k < xs.length) : lexc (xs.drop k) (ys.drop k) = if k < ys.length then -1 else 0 := by
  rw [List.drop_of_length_le (l := xs) (by omega)]
  split
  · rw [List.drop_eq_getElem_cons (l := ys) (by omega)]
    rfl
  · rw [List.drop_of_length_le (l := ys) (by omega)]
    rfl

end Go.Proofs.YtaggjlobmikagaaDoor
