/-
  The walk of the statement PathOrders: which paths are alike, which is under which, are the document's.
-/
import Derived.Test.YtaggjlobmikagaaDoorWorksP
namespace Go.Proofs.YtaggjlobmikagaaDoor
open Go.RowKit
set_option linter.unusedVariables false

set_option maxHeartbeats 2000000 in
theorem walk_PathOrders (W : World) (hT : Tabs W) (a0 : ByteArray) (r0 : a0.size ≤ 1048576) (a1 : ByteArray) (r1 : a1.size ≤ 1048576) :
    Calls Tryd.prog 6 #[.string a0, .string a1] W fun e W' => e = .returned (.bool true) ∧ Below W.heap.size W W' := by
  have c1 := PAlike_any a0 a1 W (by omega) (by omega) hT
  have c2 := fun w => Lib.hid (RPAlike_any a0 a1 w (by omega) (by omega))
  have c3 := fun w hT => Lib.hid (PUnder_any a0 a1 w (by omega) (by omega) hT)
  have c4 := fun w => Lib.hid (RPUnder_any a0 a1 w (by omega) (by omega))
  have c9 := fun w hT => Lib.hid (works_any w hT)
  obtain ⟨a, ha⟩ : ∃ a, a = alikeP a0.data.toList a1.data.toList := ⟨_, rfl⟩
  obtain ⟨b, hb⟩ : ∃ b, b = underP a0.data.toList a1.data.toList := ⟨_, rfl⟩
  rw [← ha] at c1 c2
  rw [← hb] at c3 c4
  have C1 := Lib.hid c1
  have t1 : (a == a) = true := by simp
  have t3 : (b == b) = true := by simp
  clear c1 ha hb
  go_enter Tryd.func6, Tryd.ntmps6
  go_wp2_with fail
  refine C1.out.mono ?_
  rintro e w1 ⟨rfl, hb1⟩
  go_wp2_with fail
  refine (c2 _).out.mono ?_
  rintro e w2 ⟨rfl, hb2⟩
  have hb12 := step hb1 hb2
  have hT2 := hT.below hb12
  go_wp2_with fail
  refine (c3 _ hT2).out.mono ?_
  rintro e w3 ⟨rfl, hb3⟩
  have hT3 := hT2.below hb3
  go_wp2_with fail
  refine (c4 _).out.mono ?_
  rintro e w4 ⟨rfl, hb4⟩
  have hT4 := hT3.below hb4
  go_wp2_with fail
  refine (c9 _ hT4).out.mono ?_
  rintro e w5 ⟨rfl, hb5⟩
  go_wp2
  go_ret
  exact ⟨rfl, step (step (step hb12 hb3) hb4) hb5⟩
end Go.Proofs.YtaggjlobmikagaaDoor
