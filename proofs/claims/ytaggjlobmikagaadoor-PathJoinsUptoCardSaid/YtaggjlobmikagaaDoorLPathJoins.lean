/-
  The walk of the statement PathJoins: the path of names is the document's, or its error.
-/
import Derived.Test.YtaggjlobmikagaaDoorWorksP
namespace Go.Proofs.YtaggjlobmikagaaDoor
open Go.RowKit
set_option linter.unusedVariables false

set_option maxHeartbeats 2000000 in
theorem walk_PathJoins (W : World) (hT : Tabs W) (A0 : Option Addr) (n0 c0 : Nat) (z0 : List ByteArray) (l0 : n0 ≤ c0) (r0 : sumSize z0 ≤ 1048576) (h0 : HoldsF Value.string W W.heap.size A0 c0 c0 z0) :
    Calls Tryd.prog 4 #[.slice A0 n0 c0] W fun e W' => e = .returned (.bool true) ∧ Below W.heap.size W W' := by
  have hx := h0.texts l0
  have hxl := argL_le (n := n0) r0
  have hzl := sumSize_len z0
  have hz := h0.len
  have c1 := Join_any W A0 n0 c0 _ hx (fun p hp => by have := hxl p hp; omega) hT (by omega)
  have c2 := fun (w : World) (hb : Below W.heap.size W w) => RJoin_any w A0 n0 c0 _ (hx.over hb) (fun p hp => by have := hxl p hp; omega) (by omega)
  have c9 := fun w hT => Lib.hid (works_any w hT)
  unfold JoinPost at c1 c2
  obtain ⟨X, hX⟩ : ∃ X : ByteArray, X = ⟨(joinOf (argL z0 n0)).toArray⟩ := ⟨_, rfl⟩
  obtain ⟨E, hE⟩ : ∃ E, E = namesErr (argL z0 n0) := ⟨_, rfl⟩
  rw [← hX, ← hE] at c1 c2
  have C1 := Lib.hid c1
  have C2 := Lib.hid c2
  have t1 : (X.toList == X.toList) = true := by simp
  have t3 : (E == E) = true := by simp
  clear c1 c2 hX hE hx hxl hzl hz h0
  go_enter Tryd.func4, Tryd.ntmps4
  go_wp2_with fail
  refine C1.out.mono ?_
  rintro e w1 ⟨rfl, hb1⟩
  go_wp2_with fail
  refine (C2.out _ hb1).mono ?_
  rintro e w2 ⟨rfl, hb2⟩
  have hb12 := step hb1 hb2
  go_wp2_with fail
  refine (c9 _ (hT.below hb12)).out.mono ?_
  rintro e w3 ⟨rfl, hb3⟩
  go_wp2
  go_ret
  exact ⟨rfl, step hb12 hb3⟩
end Go.Proofs.YtaggjlobmikagaaDoor
