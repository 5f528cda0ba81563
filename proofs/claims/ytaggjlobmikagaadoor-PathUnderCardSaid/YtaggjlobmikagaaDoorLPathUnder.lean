/-
  The walk of the statement PathUnder: what is under one that is under a third is under that; nothing is under itself, or under what is under it.
-/
import Derived.Test.YtaggjlobmikagaaDoorWorksP
namespace Go.Proofs.YtaggjlobmikagaaDoor
open Go.RowKit
set_option linter.unusedVariables false

set_option maxHeartbeats 2000000 in
theorem walk_PathUnder (W : World) (hT : Tabs W) (a0 : ByteArray) (r0 : a0.size ≤ 140737488351232) (a1 : ByteArray) (r1 : a1.size ≤ 140737488351232) (a2 : ByteArray) (r2 : a2.size ≤ 140737488351232) :
    Calls Tryd.prog 8 #[.string a0, .string a1, .string a2] W fun e W' => e = .returned (.bool true) ∧ Below W.heap.size W W' := by
  have c1 := fun w hT => Lib.hid (PUnder_any a0 a1 w (by omega) (by omega) hT)
  have c2 := fun w hT => Lib.hid (PUnder_any a1 a2 w (by omega) (by omega) hT)
  have c3 := fun w hT => Lib.hid (PUnder_any a0 a2 w (by omega) (by omega) hT)
  have c4 := fun w hT => Lib.hid (PUnder_any a0 a0 w (by omega) (by omega) hT)
  have c5 := fun w hT => Lib.hid (PUnder_any a1 a0 w (by omega) (by omega) hT)
  have c6 := fun w hT => Lib.hid (PAlike_any a0 a1 w (by omega) (by omega) hT)
  have c9 := fun w hT => Lib.hid (works_any w hT)
  rw [under_self] at c4
  cases h1 : underP a0.data.toList a1.data.toList
  · rw [h1] at c1
    clear h1 c2 c3 c5 c6
    go_enter Tryd.func8, Tryd.ntmps8
    go_wp2_with fail
    refine (c1 _ hT).out.mono ?_
    rintro e w1 ⟨rfl, hb1⟩
    have hT1 := hT.below hb1
    go_wp2_with fail
    refine (c4 _ hT1).out.mono ?_
    rintro e w2 ⟨rfl, hb2⟩
    have hT2 := hT1.below hb2
    go_wp2_with fail
    refine (c1 _ hT2).out.mono ?_
    rintro e w3 ⟨rfl, hb3⟩
    have hT3 := hT2.below hb3
    go_wp2_with fail
    refine (c1 _ hT3).out.mono ?_
    rintro e w4 ⟨rfl, hb4⟩
    have hT4 := hT3.below hb4
    go_wp2_with fail
    refine (c9 _ hT4).out.mono ?_
    rintro e w5 ⟨rfl, hb5⟩
    go_wp2
    go_ret
    exact ⟨rfl, step (step (step (step hb1 hb2) hb3) hb4) hb5⟩
  · rw [h1] at c1
    rw [under_flip h1] at c5
    rw [under_alike h1] at c6
    cases h2 : underP a1.data.toList a2.data.toList
    · rw [h2] at c2
      clear h1 h2 c3
      go_enter Tryd.func8, Tryd.ntmps8
      go_wp2_with fail
      refine (c1 _ hT).out.mono ?_
      rintro e w1 ⟨rfl, hb1⟩
      have hT1 := hT.below hb1
      go_wp2_with fail
      refine (c2 _ hT1).out.mono ?_
      rintro e w2 ⟨rfl, hb2⟩
      have hT2 := hT1.below hb2
      go_wp2_with fail
      refine (c4 _ hT2).out.mono ?_
      rintro e w3 ⟨rfl, hb3⟩
      have hT3 := hT2.below hb3
      go_wp2_with fail
      refine (c1 _ hT3).out.mono ?_
      rintro e w4 ⟨rfl, hb4⟩
      have hT4 := hT3.below hb4
      go_wp2_with fail
      refine (c5 _ hT4).out.mono ?_
      rintro e w5 ⟨rfl, hb5⟩
      have hT5 := hT4.below hb5
      go_wp2_with fail
      refine (c1 _ hT5).out.mono ?_
      rintro e w6 ⟨rfl, hb6⟩
      have hT6 := hT5.below hb6
      go_wp2_with fail
      refine (c6 _ hT6).out.mono ?_
      rintro e w7 ⟨rfl, hb7⟩
      have hT7 := hT6.below hb7
      go_wp2_with fail
      refine (c9 _ hT7).out.mono ?_
      rintro e w8 ⟨rfl, hb8⟩
      go_wp2
      go_ret
      exact ⟨rfl, step (step (step (step (step (step (step hb1 hb2) hb3) hb4) hb5) hb6) hb7) hb8⟩
    · rw [h2] at c2
      rw [under_trans h1 h2] at c3
      clear h1 h2
      go_enter Tryd.func8, Tryd.ntmps8
      go_wp2_with fail
      refine (c1 _ hT).out.mono ?_
      rintro e w1 ⟨rfl, hb1⟩
      have hT1 := hT.below hb1
      go_wp2_with fail
      refine (c2 _ hT1).out.mono ?_
      rintro e w2 ⟨rfl, hb2⟩
      have hT2 := hT1.below hb2
      go_wp2_with fail
      refine (c3 _ hT2).out.mono ?_
      rintro e w3 ⟨rfl, hb3⟩
      have hT3 := hT2.below hb3
      go_wp2_with fail
      refine (c4 _ hT3).out.mono ?_
      rintro e w4 ⟨rfl, hb4⟩
      have hT4 := hT3.below hb4
      go_wp2_with fail
      refine (c1 _ hT4).out.mono ?_
      rintro e w5 ⟨rfl, hb5⟩
      have hT5 := hT4.below hb5
      go_wp2_with fail
      refine (c5 _ hT5).out.mono ?_
      rintro e w6 ⟨rfl, hb6⟩
      have hT6 := hT5.below hb6
      go_wp2_with fail
      refine (c1 _ hT6).out.mono ?_
      rintro e w7 ⟨rfl, hb7⟩
      have hT7 := hT6.below hb7
      go_wp2_with fail
      refine (c6 _ hT7).out.mono ?_
      rintro e w8 ⟨rfl, hb8⟩
      have hT8 := hT7.below hb8
      go_wp2_with fail
      refine (c9 _ hT8).out.mono ?_
      rintro e w9 ⟨rfl, hb9⟩
      go_wp2
      go_ret
      exact ⟨rfl, step (step (step (step (step (step (step (step hb1 hb2) hb3) hb4) hb5) hb6) hb7) hb8) hb9⟩
end Go.Proofs.YtaggjlobmikagaaDoor
