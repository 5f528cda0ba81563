/-
  The walk of the statement PathAlike: paths are alike just if they have the same names, folded; every path is alike to itself and its folded one.
-/
import Derived.Test.YtaggjlobmikagaaDoorWorksP
namespace Go.Proofs.YtaggjlobmikagaaDoor
open Go.RowKit
set_option linter.unusedVariables false

theorem parse_size {s : ByteArray} (h : parseErr s.data.toList = 0) : s.size ≤ 1032 := by
  have h1 := (join_parse h).2
  have k3 := joinB_le (parseOf s.data.toList) 128 fun p hp => name_bytes (parse_names p hp)
  have k4 : (parseOf s.data.toList).length * (128 + 1) ≤ 8 * 129 := Nat.mul_le_mul (parse_len h) (Nat.le_refl _)
  rw [h1, ← Lib.size_eq] at k3
  omega

set_option maxHeartbeats 4000000 in
theorem walk_PathAlike (W : World) (hT : Tabs W) (a0 : ByteArray) (r0 : a0.size ≤ 140737488351232) (a1 : ByteArray) (r1 : a1.size ≤ 140737488351232) :
    Calls Tryd.prog 10 #[.string a0, .string a1] W fun e W' => e = .returned (.bool true) ∧ Below W.heap.size W W' := by
  have c1 := Parse_any a0 W (by omega) hT
  have c2 := fun w hT => Parse_any a1 w (by omega) hT
  have c3 := fun w hT => Lib.hid (PAlike_any a0 a1 w (by omega) (by omega) hT)
  have c4 := fun w hT => Lib.hid (PUnder_any a0 a1 w (by omega) (by omega) hT)
  have c9 := fun w hT => Lib.hid (works_any w hT)
  unfold ParsePost at c1 c2
  by_cases hE : parseErr a0.data.toList = 0
  · by_cases hF : parseErr a1.data.toList = 0
    · have s0 := parse_size hE
      have s1 := parse_size hF
      rw [hE] at c1
      rw [hF] at c2
      have c5 := fun w hT => Lib.hid (PAlike_any a0 a0 w (by omega) (by omega) hT)
      have hxs : (⟨(foldB a0.data.toList).toArray⟩ : ByteArray).size ≤ 140737488355328 := by rw [mk_size, foldB_length, ← Lib.size_eq]; omega
      have c6 := fun w hT => PAlike_any a0 ⟨(foldB a0.data.toList).toArray⟩ w (by omega) hxs hT
      have c7 := fun w hT => Fold_any a0 w (by omega) hT
      have c8 := fun w hT => Fold_any a1 w (by omega) hT
      unfold FoldPost at c7 c8
      rw [show (⟨(foldB a0.data.toList).toArray⟩ : ByteArray).data.toList = foldB a0.data.toList from rfl, alike_fold hE] at c6
      rw [alike_self hE] at c5
      rw [alike_names hE hF] at c3
      have hm := mk_eq (foldB a0.data.toList) (foldB a1.data.toList)
      obtain ⟨X, hX⟩ : ∃ X : ByteArray, X = ⟨(foldB a0.data.toList).toArray⟩ := ⟨_, rfl⟩
      obtain ⟨Y, hY⟩ : ∃ X : ByteArray, X = ⟨(foldB a1.data.toList).toArray⟩ := ⟨_, rfl⟩
      obtain ⟨b, hb⟩ : ∃ b, b = decide (foldB a0.data.toList = foldB a1.data.toList) := ⟨_, rfl⟩
      rw [← hX] at c6 c7 hm
      rw [← hY] at c8 hm
      rw [← hb] at c3 hm
      have C1 := Lib.hid c1
      have C2 := Lib.hid c2
      have C6 := Lib.hid c6
      have C7 := Lib.hid c7
      have C8 := Lib.hid c8
      have t1 : (b == (X.toList == Y.toList)) = true := by rw [hm]; simp
      have t2 : (b == b) = true := by simp
      clear c1 c2 c4 c6 c7 c8 hE hF hxs hX hY hb
      go_enter Tryd.func10, Tryd.ntmps10
      go_wp2_with fail
      refine C1.out.mono ?_
      rintro e w1 ⟨v, rfl, ho1, hb1⟩
      have hT1 := hT.below hb1
      clear ho1
      go_wp2_with fail
      refine (C2.out _ hT1).mono ?_
      rintro e w2 ⟨u, rfl, ho2, hb2⟩
      have hT2 := hT1.below hb2
      have hB2 := step hb1 hb2
      clear ho2
      go_wp2_with fail
      refine (c5 _ hT2).out.mono ?_
      rintro e w3 ⟨rfl, hb3⟩
      have hT3 := hT2.below hb3
      go_wp2_with fail
      refine (C7.out _ hT3).mono ?_
      rintro e w4 ⟨rfl, hb4⟩
      have hT4 := hT3.below hb4
      go_wp2_with fail
      refine (C6.out _ hT4).mono ?_
      rintro e w5 ⟨rfl, hb5⟩
      have hT5 := hT4.below hb5
      go_wp2_with fail
      refine (c3 _ hT5).out.mono ?_
      rintro e w6 ⟨rfl, hb6⟩
      have hT6 := hT5.below hb6
      go_wp2_with fail
      refine (C7.out _ hT6).mono ?_
      rintro e w7 ⟨rfl, hb7⟩
      have hT7 := hT6.below hb7
      go_wp2_with fail
      refine (C8.out _ hT7).mono ?_
      rintro e w8 ⟨rfl, hb8⟩
      have hT8 := hT7.below hb8
      have hB8 := step (step (step (step (step (step hB2 hb3) hb4) hb5) hb6) hb7) hb8
      go_wp2_with fail
      refine (c9 _ hT8).out.mono ?_
      rintro e w9 ⟨rfl, hb9⟩
      go_wp2
      go_ret
      exact ⟨rfl, step hB8 hb9⟩
    · obtain ⟨b1, b2⟩ := alike_bad (a := a0.data.toList) (b := a1.data.toList) (.inr hF)
      rw [hE] at c1
      rw [b1] at c3
      rw [b2] at c4
      obtain ⟨F, hFF⟩ : ∃ F, F = parseErr a1.data.toList := ⟨_, rfl⟩
      rw [← hFF] at c2 hF
      have tF : (F != 0) = true := by simpa using hF
      have C1 := Lib.hid c1
      have C2 := Lib.hid c2
      clear c1 c2 hE hF hFF b1 b2
      go_enter Tryd.func10, Tryd.ntmps10
      go_wp2_with fail
      refine C1.out.mono ?_
      rintro e w1 ⟨v, rfl, ho1, hb1⟩
      have hT1 := hT.below hb1
      clear ho1
      go_wp2_with fail
      refine (C2.out _ hT1).mono ?_
      rintro e w2 ⟨u, rfl, ho2, hb2⟩
      have hT2 := hT1.below hb2
      have hB2 := step hb1 hb2
      clear ho2
      go_wp2_with fail
      refine (c3 _ hT2).out.mono ?_
      rintro e w3 ⟨rfl, hb3⟩
      have hT3 := hT2.below hb3
      go_wp2_with fail
      refine (c4 _ hT3).out.mono ?_
      rintro e w4 ⟨rfl, hb4⟩
      have hT4 := hT3.below hb4
      go_wp2_with fail
      refine (c9 _ hT4).out.mono ?_
      rintro e w5 ⟨rfl, hb5⟩
      go_wp2
      go_ret
      exact ⟨rfl, step (step (step hB2 hb3) hb4) hb5⟩
  · obtain ⟨b1, b2⟩ := alike_bad (a := a0.data.toList) (b := a1.data.toList) (.inl hE)
    rw [b1] at c3
    rw [b2] at c4
    obtain ⟨E, hEE⟩ : ∃ E, E = parseErr a0.data.toList := ⟨_, rfl⟩
    rw [← hEE] at c1 hE
    obtain ⟨F, hFF⟩ : ∃ F, F = parseErr a1.data.toList := ⟨_, rfl⟩
    rw [← hFF] at c2
    have tE : (E != 0) = true := by simpa using hE
    have C1 := Lib.hid c1
    have C2 := Lib.hid c2
    clear c1 c2 hE hEE hFF b1 b2
    go_enter Tryd.func10, Tryd.ntmps10
    go_wp2_with fail
    refine C1.out.mono ?_
    rintro e w1 ⟨v, rfl, ho1, hb1⟩
    have hT1 := hT.below hb1
    clear ho1
    go_wp2_with fail
    refine (C2.out _ hT1).mono ?_
    rintro e w2 ⟨u, rfl, ho2, hb2⟩
    have hT2 := hT1.below hb2
    have hB2 := step hb1 hb2
    clear ho2
    go_wp2_with fail
    refine (c3 _ hT2).out.mono ?_
    rintro e w3 ⟨rfl, hb3⟩
    have hT3 := hT2.below hb3
    go_wp2_with fail
    refine (c4 _ hT3).out.mono ?_
    rintro e w4 ⟨rfl, hb4⟩
    have hT4 := hT3.below hb4
    go_wp2_with fail
    refine (c9 _ hT4).out.mono ?_
    rintro e w5 ⟨rfl, hb5⟩
    go_wp2
    go_ret
    exact ⟨rfl, step (step (step hB2 hb3) hb4) hb5⟩
end Go.Proofs.YtaggjlobmikagaaDoor
