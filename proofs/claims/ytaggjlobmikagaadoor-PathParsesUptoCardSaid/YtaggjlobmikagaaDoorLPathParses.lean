/-
  The walk of the statement PathParses: what is a name, and the names of a path, are the document's, or its error.
-/
import Derived.Test.YtaggjlobmikagaaDoorWorksP
namespace Go.Proofs.YtaggjlobmikagaaDoor
open Go.RowKit
set_option linter.unusedVariables false

set_option maxHeartbeats 2000000 in
theorem walk_PathParses (W : World) (hT : Tabs W) (a0 : ByteArray) (r0 : a0.size ≤ 1048576) :
    Calls Tryd.prog 3 #[.string a0] W fun e W' => e = .returned (.bool true) ∧ Below W.heap.size W W' := by
  have c1 := Parse_any a0 W (by omega) hT
  have c2 := fun w => RParse_any a0 w (by omega)
  have c3 := fun w hT => Lib.hid (Name_any a0 w (by omega) hT)
  have c4 := fun w => Lib.hid (RName_any a0 w (by omega))
  have c9 := fun w hT => Lib.hid (works_any w hT)
  unfold ParsePost at c1 c2
  have h8 := parse_le8 a0.data.toList
  obtain ⟨L, hL⟩ : ∃ L, L = parseOf a0.data.toList := ⟨_, rfl⟩
  obtain ⟨E, hE⟩ : ∃ E, E = parseErr a0.data.toList := ⟨_, rfl⟩
  obtain ⟨b, hb⟩ : ∃ b, b = nameOf a0.data.toList := ⟨_, rfl⟩
  rw [← hL, ← hE] at c1 c2
  rw [← hL] at h8
  rw [← hb] at c3 c4
  have C1 := Lib.hid c1
  have C2 := Lib.hid c2
  have H8 := Lib.hid h8
  have t1 : (b == b) = true := by simp
  have t3 : (E == E) = true := by simp
  clear c1 c2 hL hE hb h8
  go_enter Tryd.func3, Tryd.ntmps3
  go_wp2_with fail
  refine C1.out.mono ?_
  rintro e w1 ⟨v, rfl, ho1, hb1⟩
  have HO1 := Lib.hid ho1
  clear ho1
  go_wp2_with fail
  refine (C2.out _).mono ?_
  rintro e w2 ⟨u, rfl, ho2, hb2⟩
  obtain ⟨A, n, c, rfl, hh⟩ := (HO1.out.below hb2).holds
  obtain ⟨A', n', c', rfl, hh'⟩ := ho2.holds
  have hn := hh.len
  have hn' := hh'.len
  have d5 := Texts_any w2 _ _ _ _ _ _ _ _ L L hh hh' (by have := H8.out; omega) (by have := H8.out; omega)
  rw [decide_eq_true rfl] at d5
  have D5 := Lib.hid d5
  have hb12 := step hb1 hb2
  clear ho2 hh hh' hn hn' HO1 C1 C2 d5
  go_wp2_with fail
  refine D5.out.mono ?_
  rintro e w3 ⟨rfl, k3, rfl⟩
  have hb3 := step hb12 (drewed w2 k3)
  have hT3 := hT.below hb3
  obtain ⟨w3, hw3⟩ : ∃ w3, w3 = w2.drewN k3 := ⟨_, rfl⟩
  rw [← hw3] at hb3 hT3 ⊢
  clear hw3
  go_wp2_with fail
  refine (c3 _ hT3).out.mono ?_
  rintro e w4 ⟨rfl, hb4⟩
  have hT4 := hT3.below hb4
  go_wp2_with fail
  refine (c4 _).out.mono ?_
  rintro e w5 ⟨rfl, hb5⟩
  have hT5 := hT4.below hb5
  go_wp2_with fail
  refine (c9 _ hT5).out.mono ?_
  rintro e w6 ⟨rfl, hb6⟩
  go_wp2
  go_ret
  exact ⟨rfl, step (step (step hb3 hb4) hb5) hb6⟩
end Go.Proofs.YtaggjlobmikagaaDoor
