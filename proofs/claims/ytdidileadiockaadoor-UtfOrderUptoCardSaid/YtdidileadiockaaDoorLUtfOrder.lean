/-
  The walk of the statement UtfOrder: of two texts just one is ahead, or they are alike; what is ahead of one that is ahead is ahead.
-/
import Derived.Test.YtdidileadiockaaDoorRefU3
import Derived.Test.YtdidileadiockaaDoorOpen
import Derived.Test.YtdidileadiockaaDoorLUtfAgain
namespace Go.Proofs.YtdidileadiockaaDoor
open Go.RowKit
set_option linter.unusedVariables false

theorem ahead_trans {a b c : List UInt8} (h1 : aheadOf a b = true) (h2 : aheadOf b c = true) : aheadOf a c = true := by
  unfold aheadOf at *
  exact decide_eq_true (lexc_trans _ _ _ (of_decide_eq_true h1) (of_decide_eq_true h2))
theorem ahead_tri (a b : List UInt8) : (aheadOf a b = true ∧ aheadOf b a = false ∧ alikeOf a b = false) ∨ (aheadOf a b = false ∧ aheadOf b a = true ∧ alikeOf a b = false) ∨ (aheadOf a b = false ∧ aheadOf b a = false ∧ alikeOf a b = true) := by
  have hf := lexc_flip (foldedOf a) (foldedOf b)
  unfold aheadOf alikeOf
  by_cases h0 : lexc (foldedOf a) (foldedOf b) = 0
  · have he := (alike_iff a b).2 (lexc_zero _ _ h0)
    exact .inr (.inr ⟨decide_eq_false (by omega), decide_eq_false (by omega), decide_eq_true he⟩)
  · have he : ¬ foldB a = foldB b := fun h => h0 (by rw [(alike_iff a b).1 h]; exact lexc_self _)
    by_cases h1 : lexc (foldedOf a) (foldedOf b) < 0
    · exact .inl ⟨decide_eq_true h1, decide_eq_false (by omega), decide_eq_false he⟩
    · exact .inr (.inl ⟨decide_eq_false h1, decide_eq_true (by omega), decide_eq_false he⟩)
theorem ahead_alike {a b : List UInt8} (h : alikeOf a b = true) (c : List UInt8) : aheadOf a c = aheadOf b c := by
  unfold aheadOf
  rw [(alike_iff a b).1 (of_decide_eq_true h)]

set_option maxHeartbeats 2000000 in
theorem walk_UtfOrder (W : World) (hT : Tabs W) (a0 : ByteArray) (r0 : a0.size ≤ 1048576) (a1 : ByteArray) (r1 : a1.size ≤ 1048576) (a2 : ByteArray) (r2 : a2.size ≤ 1048576) :
    Calls Tryd.prog 7 #[.string a0, .string a1, .string a2] W fun e W' => e = .returned (.bool true) ∧ Below W.heap.size W W' := by
  have c1 := fun w hT => Ahead_any a0 a1 w (by omega) (by omega) hT
  have c2 := fun w hT => Ahead_any a1 a0 w (by omega) (by omega) hT
  have c3 := fun w hT => Alike_any a0 a1 w (by omega) (by omega) hT
  have c4 := fun w hT => Ahead_any a1 a2 w (by omega) (by omega) hT
  have c5 := fun w hT => Ahead_any a0 a2 w (by omega) (by omega) hT
  have c6 := fun w hT => Lib.hid (works_any w hT)
  have ht := ahead_tri a0.data.toList a1.data.toList
  have htr := @ahead_trans a0.data.toList a1.data.toList a2.data.toList
  have hal := fun h => @ahead_alike a0.data.toList a1.data.toList h a2.data.toList
  obtain ⟨p, hp⟩ : ∃ p, p = aheadOf a1.data.toList a2.data.toList := ⟨_, rfl⟩
  obtain ⟨q, hq⟩ : ∃ q, q = aheadOf a0.data.toList a2.data.toList := ⟨_, rfl⟩
  rw [← hp] at c4 htr hal
  rw [← hq] at c5 htr hal
  have C4 := Lib.hid c4
  have C5 := Lib.hid c5
  clear hp hq c4 c5
  rcases ht with ⟨t1, t2, t3⟩ | ⟨t1, t2, t3⟩ | ⟨t1, t2, t3⟩
  · rw [t1] at c1
    rw [t2] at c2
    rw [t3] at c3
    have C1 := Lib.hid c1
    have C2 := Lib.hid c2
    have C3 := Lib.hid c3
    have htr' := htr t1
    clear c1 c2 c3 htr hal t1 t2 t3
    go_enter Tryd.func7, Tryd.ntmps7
    go_wp2_with fail
    refine (C1.out _ hT).mono ?_
    rintro e w1 ⟨rfl, hb1⟩
    have hT1 := hT.below hb1
    go_wp2_with fail
    refine (C2.out _ hT1).mono ?_
    rintro e w2 ⟨rfl, hb2⟩
    have hT2 := hT1.below hb2
    go_wp2_with fail
    refine (C3.out _ hT2).mono ?_
    rintro e w3 ⟨rfl, hb3⟩
    have hT3 := hT2.below hb3
    go_wp2_with fail
    refine (C1.out _ hT3).mono ?_
    rintro e w4 ⟨rfl, hb4⟩
    have hT4 := hT3.below hb4
    have hB4 := step (step (step hb1 hb2) hb3) hb4
    cases p
    · go_wp2_with fail
      refine (C4.out _ hT4).mono ?_
      rintro e w5 ⟨rfl, hb5⟩
      have hT5 := hT4.below hb5
      go_wp2_with fail
      refine (C3.out _ hT5).mono ?_
      rintro e w6 ⟨rfl, hb6⟩
      have hT6 := hT5.below hb6
      go_wp2_with fail
      refine (c6 _ hT6).out.mono ?_
      rintro e w7 ⟨rfl, hb7⟩
      go_wp2
      go_ret
      exact ⟨rfl, step (step (step hB4 hb5) hb6) hb7⟩
    · obtain rfl : q = true := htr' rfl
      clear htr'
      go_wp2_with fail
      refine (C4.out _ hT4).mono ?_
      rintro e w5 ⟨rfl, hb5⟩
      have hT5 := hT4.below hb5
      go_wp2_with fail
      refine (C5.out _ hT5).mono ?_
      rintro e w6 ⟨rfl, hb6⟩
      have hT6 := hT5.below hb6
      go_wp2_with fail
      refine (C3.out _ hT6).mono ?_
      rintro e w7 ⟨rfl, hb7⟩
      have hT7 := hT6.below hb7
      go_wp2_with fail
      refine (c6 _ hT7).out.mono ?_
      rintro e w8 ⟨rfl, hb8⟩
      go_wp2
      go_ret
      exact ⟨rfl, step (step (step (step hB4 hb5) hb6) hb7) hb8⟩
  · rw [t1] at c1
    rw [t2] at c2
    rw [t3] at c3
    have C1 := Lib.hid c1
    have C2 := Lib.hid c2
    have C3 := Lib.hid c3
    clear c1 c2 c3 htr hal t1 t2 t3
    go_enter Tryd.func7, Tryd.ntmps7
    go_wp2_with fail
    refine (C1.out _ hT).mono ?_
    rintro e w1 ⟨rfl, hb1⟩
    have hT1 := hT.below hb1
    go_wp2_with fail
    refine (C2.out _ hT1).mono ?_
    rintro e w2 ⟨rfl, hb2⟩
    have hT2 := hT1.below hb2
    go_wp2_with fail
    refine (C3.out _ hT2).mono ?_
    rintro e w3 ⟨rfl, hb3⟩
    have hT3 := hT2.below hb3
    go_wp2_with fail
    refine (C1.out _ hT3).mono ?_
    rintro e w4 ⟨rfl, hb4⟩
    have hT4 := hT3.below hb4
    have hB4 := step (step (step hb1 hb2) hb3) hb4
    go_wp2_with fail
    refine (C3.out _ hT4).mono ?_
    rintro e w6 ⟨rfl, hb6⟩
    have hT6 := hT4.below hb6
    go_wp2_with fail
    refine (c6 _ hT6).out.mono ?_
    rintro e w7 ⟨rfl, hb7⟩
    go_wp2
    go_ret
    exact ⟨rfl, step (step hB4 hb6) hb7⟩
  · have hpq := hal t3
    rw [t1] at c1
    rw [t2] at c2
    rw [t3] at c3
    have C1 := Lib.hid c1
    have C2 := Lib.hid c2
    have C3 := Lib.hid c3
    clear c1 c2 c3 htr hal t1 t2 t3
    subst hpq
    go_enter Tryd.func7, Tryd.ntmps7
    go_wp2_with fail
    refine (C1.out _ hT).mono ?_
    rintro e w1 ⟨rfl, hb1⟩
    have hT1 := hT.below hb1
    go_wp2_with fail
    refine (C2.out _ hT1).mono ?_
    rintro e w2 ⟨rfl, hb2⟩
    have hT2 := hT1.below hb2
    go_wp2_with fail
    refine (C3.out _ hT2).mono ?_
    rintro e w3 ⟨rfl, hb3⟩
    have hT3 := hT2.below hb3
    go_wp2_with fail
    refine (C1.out _ hT3).mono ?_
    rintro e w4 ⟨rfl, hb4⟩
    have hT4 := hT3.below hb4
    have hB4 := step (step (step hb1 hb2) hb3) hb4
    go_wp2_with fail
    refine (C3.out _ hT4).mono ?_
    rintro e w6 ⟨rfl, hb6⟩
    have hT6 := hT4.below hb6
    go_wp2_with fail
    refine (C5.out _ hT6).mono ?_
    rintro e w7 ⟨rfl, hb7⟩
    have hT7 := hT6.below hb7
    go_wp2_with fail
    refine (C4.out _ hT7).mono ?_
    rintro e w8 ⟨rfl, hb8⟩
    have hT8 := hT7.below hb8
    go_wp2_with fail
    refine (c6 _ hT8).out.mono ?_
    rintro e w9 ⟨rfl, hb9⟩
    go_wp2
    go_ret
    exact ⟨rfl, step (step (step (step hB4 hb6) hb7) hb8) hb9⟩
end Go.Proofs.YtdidileadiockaaDoor
