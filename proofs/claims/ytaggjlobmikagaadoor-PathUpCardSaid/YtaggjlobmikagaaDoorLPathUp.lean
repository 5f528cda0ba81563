/-
  The walk of the statement PathUp: a path is under its parent's, and all that is under it is.
-/
import Derived.Test.YtaggjlobmikagaaDoorWorksP
import Derived.Test.YtaggjlobmikagaaDoorOwnF2
namespace Go.Proofs.YtaggjlobmikagaaDoor
open Go.RowKit
set_option linter.unusedVariables false

set_option maxRecDepth 100000 in
set_option maxHeartbeats 4000000 in
theorem walk_PathUp (W : World) (hT : Tabs W) (a0 : ByteArray) (r0 : a0.size ≤ 140737488351232) (a1 : ByteArray) (r1 : a1.size ≤ 140737488351232) :
    Calls Tryd.prog 9 #[.string a0, .string a1] W fun e W' => e = .returned (.bool true) ∧ Below W.heap.size W W' := by
  have c1 := Parent_any a0 W (by omega) hT
  have c9 := fun w hT => Lib.hid (works_any w hT)
  unfold ParentPost at c1
  by_cases hE : parentErr a0.data.toList = 0
  · obtain ⟨f1, f2, f3, f4, f5, f6, f7⟩ := parent_facts hE
    have hjoin : joinOf (parseOf (dirOf a0.data.toList) ++ [lastOf a0.data.toList]) = a0.data.toList := (if_pos f6).trans f7
    have h8 := parse_le8 (dirOf a0.data.toList)
    have hnm := parse_names (l := dirOf a0.data.toList)
    have hlb := name_bytes f3
    rw [hE] at c1
    have hds : (dirOf a0.data.toList).length ≤ 4000 := by
      rw [show dirOf a0.data.toList = joinB (parseOf (dirOf a0.data.toList)) from (join_parse f2).2.symm]
      have k3 := joinB_le (parseOf (dirOf a0.data.toList)) 128 fun p hp => name_bytes (hnm p hp)
      have k4 : (parseOf (dirOf a0.data.toList)).length * (128 + 1) ≤ 8 * 129 := Nat.mul_le_mul h8 (Nat.le_refl _)
      omega
    have c2 := fun w hT => Parse_any ⟨(dirOf a0.data.toList).toArray⟩ w (by rw [mk_size]; omega) hT
    unfold ParsePost at c2
    have c3 := fun w hT => Name_any ⟨(lastOf a0.data.toList).toArray⟩ w (by rw [mk_size]; omega) hT
    have c4 := fun w hT => PUnder_any a0 ⟨(dirOf a0.data.toList).toArray⟩ w (by omega) (by rw [mk_size]; omega) hT
    have c5 := fun w hT => PUnder_any a1 a0 w (by omega) (by omega) hT
    have c6 := fun w hT => PUnder_any a1 ⟨(dirOf a0.data.toList).toArray⟩ w (by omega) (by rw [mk_size]; omega) hT
    rw [show (⟨(dirOf a0.data.toList).toArray⟩ : ByteArray).data.toList = dirOf a0.data.toList from rfl] at c2 c4 c6
    rw [show (⟨(lastOf a0.data.toList).toArray⟩ : ByteArray).data.toList = lastOf a0.data.toList from rfl, f3] at c3
    rw [f2] at c2
    rw [f4] at c4
    have hund := f5 a1.data.toList
    have c7 := fun (w : World) A n c (hx : HoldsF strV w w.heap.size A n c (parseOf (dirOf a0.data.toList) ++ [lastOf a0.data.toList])) hT => Join_any w A n c _ hx (fun p hp => by
      have := name_bytes ((namesErr_ok.1 f6).1 p hp)
      omega) hT
    unfold JoinPost at c7
    rw [hjoin, f6, show (⟨a0.data.toList.toArray⟩ : ByteArray) = a0 from rfl] at c7
    obtain ⟨L, hL⟩ : ∃ L, L = parseOf (dirOf a0.data.toList) := ⟨_, rfl⟩
    obtain ⟨Z, hZ⟩ : ∃ L, L = lastOf a0.data.toList := ⟨_, rfl⟩
    obtain ⟨X, hX⟩ : ∃ X : ByteArray, X = ⟨(dirOf a0.data.toList).toArray⟩ := ⟨_, rfl⟩
    obtain ⟨x, hx⟩ : ∃ x, x = underP a1.data.toList a0.data.toList := ⟨_, rfl⟩
    obtain ⟨y, hy⟩ : ∃ x, x = underP a1.data.toList (dirOf a0.data.toList) := ⟨_, rfl⟩
    rw [← hX, ← hZ] at c1
    rw [← hX, ← hL] at c2
    rw [← hZ] at c3
    rw [← hX] at c4 c6
    rw [← hx] at c5 hund
    rw [← hy] at c6 hund
    rw [← hL, ← hZ] at c7
    rw [← hL] at h8
    have C1 := Lib.hid c1
    have C2 := Lib.hid c2
    have C3 := Lib.hid c3
    have C4 := Lib.hid c4
    have C5 := Lib.hid c5
    have C6 := Lib.hid c6
    have C7 := Lib.hid c7
    have HU := Lib.hid hund
    have t1 : (a0.toList == a0.toList) = true := by simp
    have hL1 : (L ++ [Z]).length ≤ 9 := by simp; omega
    have HL1 := Lib.hid hL1
    clear c1 c2 c3 c4 c5 c6 c7 hE f1 f2 f3 f4 f5 f6 f7 hjoin hnm hlb hds hund hL hZ hX hx hy hL1
    cases x
    · clear HU C6
      go_enter Tryd.func9, Tryd.ntmps9
      go_wp2_with fail
      refine C1.out.mono ?_
      rintro e w1 ⟨rfl, hb1⟩
      have hT1 := hT.below hb1
      go_wp2_with fail
      refine (C2.out _ hT1).mono ?_
      rintro e w2 ⟨v, rfl, ho2, hb2⟩
      have hT2 := hT1.below hb2
      have HO2 := Lib.hid ho2
      clear ho2
      go_wp2_with fail
      refine (C3.out _ hT2).mono ?_
      rintro e w3 ⟨rfl, hb3⟩
      have hT3 := hT2.below hb3
      go_wp2_with fail
      refine (C4.out _ hT3).mono ?_
      rintro e w4 ⟨rfl, hb4⟩
      have hT4 := hT3.below hb4
      go_wp2_with fail
      refine (C5.out _ hT4).mono ?_
      rintro e w5 ⟨rfl, hb5⟩
      have hT5 := hT4.below hb5
      have hB5 := Lib.hid (step (step (step (step hb1 hb2) hb3) hb4) hb5)
      obtain ⟨A, n, c, rfl, hh⟩ := (HO2.out.below (step (step hb3 hb4) hb5)).holds
      have HH := Lib.hid hh
      have hs5 := hB5.out.size
      clear HO2 hh hb1 hb2 hb3 hb4 hb5 hT1 hT2 hT3 hT4 C1 C2 C3 C4 C5
      go_wp2_with (first
        | ((with_reducible show wpList _ _ _ (⟨some 61, _, _, _, _, _⟩ :: _) _ _); go_loud (refine wpList_append_holdF rfl (.tmp 59) (.tmp 60) strV strV_one (.string ⟨#[]⟩) rfl 22 9 16 Tryd.underlying22 info_str rfl W.heap.size _ [] rfl (OwnF.nil _ _ _ _) w5.heap.size A n c L rfl HH.out (by simp; omega) (by simp; omega) hs5 ?_; intro v6 w6 ho6 hb6))
        | (at_builtin; go_loud (refine wpList_append_litF rfl (.tmp 62) (.tmp 64) strV strV_one (.string ⟨#[]⟩) rfl 22 9 16 Tryd.underlying22 info_str rfl W.heap.size _ ([] ++ L) [Z] _ rfl 1 1 rfl rfl rfl ho6.out (by simp; omega) (by simp; omega) (Nat.le_trans hs5 (Nat.le_trans (Nat.le_refl _) (by have := (hB5.out.trans hb6.out).size; have := hb6.out.size; omega))) ?_; intro v7 w7 ho7 hg7 hw7))
        | fail)
      have hB6 := hB5.out.trans hb6.out
      have hb7 : Below W.heap.size w6 w7 := Grew.belowF (show Grew w6 w7 v6 from hg7.out) ho6.out hB6.size
      have hB7 := Lib.hid (hB6.trans hb7)
      obtain ⟨A7, n7, k7, rfl, hh7⟩ := ho7.out.holds
      have hn7 := hh7.len
      have D7 := Lib.hid (C7.out w7 A7 n7 k7 hh7 (hT.below hB7.out) (by have := HL1.out; rw [List.nil_append] at hn7; omega))
      clear hg7 hw7 ho6 hb6 hb7 hB6 HH ho7 hh7 hn7 C7 hB5
      refine D7.out.mono ?_
      rintro e w8 ⟨rfl, hb8⟩
      have hB8 := Lib.hid (hB7.out.trans (hb8.mono hB7.out.size))
      clear hb8 hB7
      go_wp2_with fail
      refine (c9 _ (hT.below hB8.out)).out.mono ?_
      rintro e w9 ⟨rfl, hb9⟩
      go_wp2
      go_ret
      exact ⟨rfl, hB8.out.trans (hb9.mono hB8.out.size)⟩
    · have hyt := HU.out rfl
      subst hyt
      clear HU
      go_enter Tryd.func9, Tryd.ntmps9
      go_wp2_with fail
      refine C1.out.mono ?_
      rintro e w1 ⟨rfl, hb1⟩
      have hT1 := hT.below hb1
      go_wp2_with fail
      refine (C2.out _ hT1).mono ?_
      rintro e w2 ⟨v, rfl, ho2, hb2⟩
      have hT2 := hT1.below hb2
      have HO2 := Lib.hid ho2
      clear ho2
      go_wp2_with fail
      refine (C3.out _ hT2).mono ?_
      rintro e w3 ⟨rfl, hb3⟩
      have hT3 := hT2.below hb3
      go_wp2_with fail
      refine (C4.out _ hT3).mono ?_
      rintro e w4 ⟨rfl, hb4⟩
      have hT4 := hT3.below hb4
      go_wp2_with fail
      refine (C5.out _ hT4).mono ?_
      rintro e w5 ⟨rfl, hb5⟩
      have hT5 := hT4.below hb5
      go_wp2_with fail
      refine (C6.out _ hT5).mono ?_
      rintro e w5' ⟨rfl, hb5'⟩
      have hT5' := hT5.below hb5'
      have hB5 := Lib.hid (step (step (step (step (step hb1 hb2) hb3) hb4) hb5) hb5')
      obtain ⟨A, n, c, rfl, hh⟩ := (HO2.out.below (step (step (step hb3 hb4) hb5) hb5')).holds
      have HH := Lib.hid hh
      have hs5 := hB5.out.size
      clear HO2 hh hb1 hb2 hb3 hb4 hb5 hb5' hT1 hT2 hT3 hT4 hT5 C1 C2 C3 C4 C5 C6
      go_wp2_with (first
        | ((with_reducible show wpList _ _ _ (⟨some 61, _, _, _, _, _⟩ :: _) _ _); go_loud (refine wpList_append_holdF rfl (.tmp 59) (.tmp 60) strV strV_one (.string ⟨#[]⟩) rfl 22 9 16 Tryd.underlying22 info_str rfl W.heap.size _ [] rfl (OwnF.nil _ _ _ _) w5'.heap.size A n c L rfl HH.out (by simp; omega) (by simp; omega) hs5 ?_; intro v6 w6 ho6 hb6))
        | (at_builtin; go_loud (refine wpList_append_litF rfl (.tmp 62) (.tmp 64) strV strV_one (.string ⟨#[]⟩) rfl 22 9 16 Tryd.underlying22 info_str rfl W.heap.size _ ([] ++ L) [Z] _ rfl 1 1 rfl rfl rfl ho6.out (by simp; omega) (by simp; omega) (Nat.le_trans hs5 (Nat.le_trans (Nat.le_refl _) (by have := (hB5.out.trans hb6.out).size; have := hb6.out.size; omega))) ?_; intro v7 w7 ho7 hg7 hw7))
        | fail)
      have hB6 := hB5.out.trans hb6.out
      have hb7 : Below W.heap.size w6 w7 := Grew.belowF (show Grew w6 w7 v6 from hg7.out) ho6.out hB6.size
      have hB7 := Lib.hid (hB6.trans hb7)
      obtain ⟨A7, n7, k7, rfl, hh7⟩ := ho7.out.holds
      have hn7 := hh7.len
      have D7 := Lib.hid (C7.out w7 A7 n7 k7 hh7 (hT.below hB7.out) (by have := HL1.out; rw [List.nil_append] at hn7; omega))
      clear hg7 hw7 ho6 hb6 hb7 hB6 HH ho7 hh7 hn7 C7 hB5
      refine D7.out.mono ?_
      rintro e w8 ⟨rfl, hb8⟩
      have hB8 := Lib.hid (hB7.out.trans (hb8.mono hB7.out.size))
      clear hb8 hB7
      go_wp2_with fail
      refine (c9 _ (hT.below hB8.out)).out.mono ?_
      rintro e w9 ⟨rfl, hb9⟩
      go_wp2
      go_ret
      exact ⟨rfl, hB8.out.trans (hb9.mono hB8.out.size)⟩
  · obtain ⟨q1, q2⟩ := parent_bad hE
    rw [q1, q2] at c1
    obtain ⟨E, hEE⟩ : ∃ E, E = parentErr a0.data.toList := ⟨_, rfl⟩
    rw [← hEE] at c1 hE
    have tE : (E != 0) = true := by simpa using hE
    have C1 := Lib.hid c1
    clear c1 hE hEE q1 q2
    go_enter Tryd.func9, Tryd.ntmps9
    go_wp2_with fail
    refine C1.out.mono ?_
    rintro e w1 ⟨rfl, hb1⟩
    have hT1 := hT.below hb1
    go_wp2_with fail
    refine (c9 _ hT1).out.mono ?_
    rintro e w2 ⟨rfl, hb2⟩
    go_wp2
    go_ret
    exact ⟨rfl, step hb1 hb2⟩
end Go.Proofs.YtaggjlobmikagaaDoor
