/-
  The walk of the statement UtfPuts: a text's bytes, and how many units it has, are the document's.
-/
import Derived.Test.YtdidileadiockaaDoorRefU3
namespace Go.Proofs.YtdidileadiockaaDoor
open Go.RowKit
set_option linter.unusedVariables false

set_option maxHeartbeats 1000000 in
theorem walk_UtfPuts (W : World) (hT : Tabs W) (a0 : ByteArray) (r0 : a0.size ≤ 1048576) :
    Calls Tryd.prog 3 #[.string a0] W fun e W' => e = .returned (.bool true) ∧ Below W.heap.size W W' := by
  have c1 := fun w hT => Put_any a0 w (by omega) hT
  have c2 := fun w => RPut_any a0 w (by omega)
  have c3 := fun w hT => Units_any a0 w (by omega) hT
  have c4 := fun w => RUnits_any a0 w (by omega)
  unfold PutPost at c1
  unfold RPutPost at c2
  have hby := putOfL_byte a0.data.toList
  have hpl := putOfL_length a0.data.toList
  have hul := unitsOfL_le a0.data.toList
  rw [← Lib.size_eq] at hul
  obtain ⟨Z, hZ⟩ : ∃ Z, Z = putOfL a0.data.toList := ⟨_, rfl⟩
  obtain ⟨E, hE⟩ : ∃ E, E = textErr a0.data.toList := ⟨_, rfl⟩
  obtain ⟨U, hU⟩ : ∃ U, U = unitsOfL a0.data.toList := ⟨_, rfl⟩
  rw [← hZ, ← hE] at c1 c2
  rw [← hE, ← hU] at c3 c4
  rw [← hZ] at hby hpl
  rw [← hU] at hul hpl
  obtain ⟨z, hz⟩ : ∃ z, z = Z.length := ⟨_, rfl⟩
  rw [← hz] at hpl
  have hzl : z ≤ 4194304 := by omega
  have HZL := Lib.hid hz
  have C1 := Lib.hid c1
  have C2 := Lib.hid c2
  have C3 := Lib.hid c3
  have C4 := Lib.hid c4
  have c5 := fun w B B' A A' n c n' c' h h' => Lib.hid (Same_any w B B' A A' n c n' c' Z Z h h')
  rw [decide_eq_true rfl] at c5
  have c6 := fun w hT => Lib.hid (works_any w hT)
  clear c1 c2 c3 c4 hZ hE hU hz hpl
  go_enter Tryd.func3, Tryd.ntmps3
  go_wp2_with fail
  refine (C1.out _ hT).mono ?_
  rintro e w1 ⟨v1, rfl, ho1, hb1⟩
  obtain ⟨A1, k1, rfl, hh1⟩ := ho1.own.holds hby (by have := HZL.out; omega)
  rw [← HZL.out] at hh1 ⊢
  have hT1 := hT.below hb1
  clear ho1
  go_wp2_with fail
  refine (C2.out _).mono ?_
  rintro e w2 ⟨v2, rfl, ho2, hb2⟩
  obtain ⟨A2, k2, rfl, hh2⟩ := ho2.holds hby (by have := HZL.out; omega)
  rw [← HZL.out] at hh2 ⊢
  have hT2 := hT1.below hb2
  have hh12 := hh1.over hb2
  clear ho2
  go_wp2_with fail
  refine (C3.out _ hT2).mono ?_
  rintro e w3 ⟨rfl, hb3⟩
  have hT3 := hT2.below hb3
  go_wp2_with fail
  refine (C4.out _).mono ?_
  rintro e w4 ⟨rfl, hb4⟩
  have hT4 := hT3.below hb4
  go_wp2_with fail
  refine (c5 _ _ _ _ _ _ _ _ _ ((hh12.over hb3).over hb4) ((hh2.over hb3).over hb4)).out.mono ?_
  rintro e w5 ⟨rfl, j5, rfl⟩
  go_wp2_with fail
  refine (c6 _ (hT4.below (drewed _ j5))).out.mono ?_
  rintro e w6 ⟨rfl, hb6⟩
  go_wp2
  go_ret
  exact ⟨rfl, step (step (step (step (step hb1 hb2) hb3) hb4) (drewed _ j5)) hb6⟩
end Go.Proofs.YtdidileadiockaaDoor
