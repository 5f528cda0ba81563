/-
  The walk of the statement PathParents: a path without its last name, and that, are the document's, or its error.
-/
import Derived.Test.YtaggjlobmikagaaDoorWorksP
namespace Go.Proofs.YtaggjlobmikagaaDoor
open Go.RowKit
set_option linter.unusedVariables false

set_option maxHeartbeats 2000000 in
theorem walk_PathParents (W : World) (hT : Tabs W) (a0 : ByteArray) (r0 : a0.size ≤ 1048576) :
    Calls Tryd.prog 5 #[.string a0] W fun e W' => e = .returned (.bool true) ∧ Below W.heap.size W W' := by
  have c1 := Parent_any a0 W (by omega) hT
  have c2 := fun w => RParent_any a0 w (by omega)
  have c9 := fun w hT => Lib.hid (works_any w hT)
  unfold ParentPost at c1 c2
  obtain ⟨X, hX⟩ : ∃ X : ByteArray, X = ⟨(dirOf a0.data.toList).toArray⟩ := ⟨_, rfl⟩
  obtain ⟨Y, hY⟩ : ∃ X : ByteArray, X = ⟨(lastOf a0.data.toList).toArray⟩ := ⟨_, rfl⟩
  obtain ⟨E, hE⟩ : ∃ E, E = parentErr a0.data.toList := ⟨_, rfl⟩
  rw [← hX, ← hY, ← hE] at c1 c2
  have C1 := Lib.hid c1
  have C2 := Lib.hid c2
  have t1 : (X.toList == X.toList) = true := by simp
  have t2 : (Y.toList == Y.toList) = true := by simp
  have t3 : (E == E) = true := by simp
  clear c1 c2 hX hY hE
  go_enter Tryd.func5, Tryd.ntmps5
  go_wp2_with fail
  refine C1.out.mono ?_
  rintro e w1 ⟨rfl, hb1⟩
  go_wp2_with fail
  refine (C2.out _).mono ?_
  rintro e w2 ⟨rfl, hb2⟩
  have hb12 := step hb1 hb2
  go_wp2_with fail
  refine (c9 _ (hT.below hb12)).out.mono ?_
  rintro e w3 ⟨rfl, hb3⟩
  go_wp2
  go_ret
  exact ⟨rfl, step hb12 hb3⟩
end Go.Proofs.YtaggjlobmikagaaDoor
