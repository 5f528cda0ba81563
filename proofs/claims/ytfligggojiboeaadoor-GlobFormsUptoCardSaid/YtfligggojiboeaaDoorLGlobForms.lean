/-
  The walk of the statement GlobForms: whether a pattern is plain, and its short form, are the document's, or its error.
-/
import Derived.Test.YtfligggojiboeaaDoorWorksG
namespace Go.Proofs.YtfligggojiboeaaDoor
open Go.RowKit
set_option linter.unusedVariables false

set_option maxHeartbeats 1000000 in
theorem walk_GlobForms (W : World) (hT : Tabs W) (a0 : ByteArray) (r0 : a0.size ≤ 1048576) :
    Calls Tryd.prog 4 #[.string a0] W fun e W' => e = .returned (.bool true) ∧ Below W.heap.size W W' := by
  have c1 := fun w hT => Short_any a0 w (by omega) hT
  have c2 := fun w => RShort_any a0 w (by omega)
  have c3 := fun w hT => Plain_any a0 w (by omega) hT
  have c4 := fun w => RPlain_any a0 w (by omega)
  have c5 := fun w hT => Lib.hid (works_any w hT)
  unfold ShortPost at c1 c2
  obtain ⟨X, hX⟩ : ∃ X : ByteArray, X = ⟨(shortO a0.data.toList).toArray⟩ := ⟨_, rfl⟩
  obtain ⟨E, hE⟩ : ∃ E, E = patErr a0.data.toList [] := ⟨_, rfl⟩
  obtain ⟨b, hb⟩ : ∃ b, b = plainOf a0.data.toList := ⟨_, rfl⟩
  rw [← hX, ← hE] at c1 c2
  rw [← hb] at c3 c4
  have C1 := Lib.hid c1
  have C2 := Lib.hid c2
  have C3 := Lib.hid c3
  have C4 := Lib.hid c4
  have t0 : (X.toList == X.toList) = true := by simp
  have t1 : (b == b) = true := by simp
  have t2 : (E == E) = true := by simp
  clear c1 c2 c3 c4 hb hE hX
  go_enter Tryd.func4, Tryd.ntmps4
  go_wp2_with fail
  refine (C1.out _ hT).mono ?_
  rintro e w1 ⟨rfl, hb1⟩
  have hT1 := hT.below hb1
  go_wp2_with fail
  refine (C2.out _).mono ?_
  rintro e w2 ⟨rfl, hb2⟩
  have hT2 := hT1.below hb2
  go_wp2_with fail
  refine (C3.out _ hT2).mono ?_
  rintro e w3 ⟨rfl, hb3⟩
  have hT3 := hT2.below hb3
  go_wp2_with fail
  refine (C4.out _).mono ?_
  rintro e w4 ⟨rfl, hb4⟩
  have hT4 := hT3.below hb4
  go_wp2_with fail
  refine (c5 _ hT4).out.mono ?_
  rintro e w5 ⟨rfl, hb5⟩
  go_wp2
  go_ret
  exact ⟨rfl, step (step (step (step hb1 hb2) hb3) hb4) hb5⟩
end Go.Proofs.YtfligggojiboeaaDoor
