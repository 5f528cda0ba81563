/-
  The walk of the statement GlobFits: whether a pattern fits a text is the document's answer, or its error.
-/
import Derived.Test.YtfligggojiboeaaDoorWorksG
namespace Go.Proofs.YtfligggojiboeaaDoor
open Go.RowKit
set_option linter.unusedVariables false

set_option maxHeartbeats 1000000 in
theorem walk_GlobFits (W : World) (hT : Tabs W) (a0 : ByteArray) (r0 : a0.size ≤ 1048576) (a1 : ByteArray) (r1 : a1.size ≤ 1048576) :
    Calls Tryd.prog 3 #[.string a0, .string a1] W fun e W' => e = .returned (.bool true) ∧ Below W.heap.size W W' := by
  have c1 := fun w hT => Fits_any a0 a1 w (by omega) (by omega) hT
  have c2 := fun w => RFits_any a0 a1 w (by omega) (by omega)
  have c3 := fun w hT => Lib.hid (works_any w hT)
  unfold FitsPost at c1 c2
  obtain ⟨b, hb⟩ : ∃ b, b = fitsOf a0.data.toList a1.data.toList := ⟨_, rfl⟩
  obtain ⟨E, hE⟩ : ∃ E, E = patErr a0.data.toList a1.data.toList := ⟨_, rfl⟩
  rw [← hb, ← hE] at c1 c2
  have C1 := Lib.hid c1
  have C2 := Lib.hid c2
  have t1 : (b == b) = true := by simp
  have t2 : (E == E) = true := by simp
  clear c1 c2 hb hE
  go_enter Tryd.func3, Tryd.ntmps3
  go_wp2_with fail
  refine (C1.out _ hT).mono ?_
  rintro e w1 ⟨rfl, hb1⟩
  have hT1 := hT.below hb1
  go_wp2_with fail
  refine (C2.out _).mono ?_
  rintro e w2 ⟨rfl, hb2⟩
  have hT2 := hT1.below hb2
  go_wp2_with fail
  refine (c3 _ hT2).out.mono ?_
  rintro e w3 ⟨rfl, hb3⟩
  go_wp2
  go_ret
  exact ⟨rfl, step (step hb1 hb2) hb3⟩
end Go.Proofs.YtfligggojiboeaaDoor
