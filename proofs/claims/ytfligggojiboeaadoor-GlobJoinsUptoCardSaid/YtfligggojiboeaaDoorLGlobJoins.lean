/-
  The walk of the statement GlobJoins: a pattern of two, put together, fits what the one and the other fit, put together; with a * between it fits what has anything between.
-/
import Derived.Test.YtfligggojiboeaaDoorLGlobPlain
namespace Go.Proofs.YtfligggojiboeaaDoor
open Go.RowKit
set_option linter.unusedVariables false

theorem letters_star : letters [42] = [42] := by decide +kernel
theorem isText_split {a t : List UInt8} (h : isText a = true) : isText (a ++ t) = isText t := by
  unfold isText at *
  rw [text_append (by unfold isText; exact h), List.all_append, h, Bool.true_and]

/-- what the statement asks, without the program -/
theorem joins_facts {p q s t b : List UInt8} (h1 : shortOf (p ++ q) 60 = true) (h2 : shortOf (s ++ b ++ t) 256 = true) (h3 : shortOf p 64 = true) (h4 : shortOf q 64 = true) (h5 : shortOf s 256 = true) (h6 : shortOf t 256 = true) (h7 : shortOf b 256 = true) :
    patErr (p ++ q) (s ++ t) = 0 ∧ patErr (p ++ [42] ++ q) (s ++ b ++ t) = 0 ∧ (fitsOf p s = true → fitsOf q t = true → fitsOf (p ++ q) (s ++ t) = true ∧ fitsOf (p ++ [42] ++ q) (s ++ b ++ t) = true) := by
  obtain ⟨x1, l1⟩ := shortOf_iff.1 h1
  obtain ⟨x2, l2⟩ := shortOf_iff.1 h2
  obtain ⟨x3, l3⟩ := shortOf_iff.1 h3
  obtain ⟨x4, l4⟩ := shortOf_iff.1 h4
  obtain ⟨x5, l5⟩ := shortOf_iff.1 h5
  obtain ⟨x6, l6⟩ := shortOf_iff.1 h6
  obtain ⟨x7, l7⟩ := shortOf_iff.1 h7
  have xsb : isText (s ++ b) = true := isText_append x5 x7
  have xps : isText (p ++ [42]) = true := isText_append x3 text_star
  rw [text_append x3, List.length_append] at l1
  rw [text_append xsb, text_append x5, List.length_append, List.length_append] at l2
  have e1 : patErr (p ++ q) (s ++ t) = 0 := patErr_ok.2 ⟨x1, isText_append x5 x6, by rw [text_append x3, List.length_append]; omega, by rw [text_append x5, List.length_append]; omega⟩
  have e2 : patErr (p ++ [42] ++ q) (s ++ b ++ t) = 0 := patErr_ok.2 ⟨isText_append xps x4, x2, by rw [text_append xps, text_append x3, List.length_append, List.length_append, letters_star]; simp; omega, by rw [text_append xsb, text_append x5, List.length_append, List.length_append]; omega⟩
  have e3 : patErr p s = 0 := patErr_ok.2 ⟨x3, x5, l3, l5⟩
  have e4 : patErr q t = 0 := patErr_ok.2 ⟨x4, x6, l4, l6⟩
  refine ⟨e1, e2, fun f1 f2 => ?_⟩
  have f1 := (fitsOf_iff e3).1 f1
  have f2 := (fitsOf_iff e4).1 f2
  refine ⟨(fitsOf_iff e1).2 (fitB_join x3 x5 f1 f2), (fitsOf_iff e2).2 ?_⟩
  rw [List.append_assoc, List.append_assoc]
  exact fitB_join_star x3 x5 x7 f1 f2

set_option maxHeartbeats 4000000 in
theorem walk_GlobJoins (W : World) (hT : Tabs W) (a0 : ByteArray) (r0 : a0.size ≤ 1048576) (a1 : ByteArray) (r1 : a1.size ≤ 1048576) (a2 : ByteArray) (r2 : a2.size ≤ 1048576) (a3 : ByteArray) (r3 : a3.size ≤ 1048576) (a4 : ByteArray) (r4 : a4.size ≤ 1048576) :
    Calls Tryd.prog 6 #[.string a0, .string a1, .string a2, .string a3, .string a4] W fun e W' => e = .returned (.bool true) ∧ Below W.heap.size W W' := by
  have z1 : (a0 ++ a1).size ≤ 4398046511104 := by rw [ByteArray.size_append]; omega
  have z2 : (a2 ++ a4 ++ a3).size ≤ 4398046511104 := by rw [ByteArray.size_append, ByteArray.size_append]; omega
  have z3 : (a2 ++ a3).size ≤ 4398046511104 := by rw [ByteArray.size_append]; omega
  have zs : (⟨#[42]⟩ : ByteArray).size = 1 := rfl
  have z4 : (a0 ++ ⟨#[42]⟩ ++ a1).size ≤ 4398046511104 := by rw [ByteArray.size_append, ByteArray.size_append, zs]; omega
  have d1 : (a0 ++ a1).data.toList = a0.data.toList ++ a1.data.toList := by simp [ByteArray.data_append]
  have d2 : (a2 ++ a4 ++ a3).data.toList = a2.data.toList ++ a4.data.toList ++ a3.data.toList := by simp [ByteArray.data_append]
  have d3 : (a2 ++ a3).data.toList = a2.data.toList ++ a3.data.toList := by simp [ByteArray.data_append]
  have d4 : (a0 ++ ⟨#[42]⟩ ++ a1).data.toList = a0.data.toList ++ [42] ++ a1.data.toList := by simp [ByteArray.data_append]
  have c1 := fun w => short_any (a0 ++ a1) 60 w z1 (by omega)
  have c2 := fun w => short_any (a2 ++ a4 ++ a3) 256 w z2 (by omega)
  have c3 := fun w => short_any a0 64 w (by omega) (by omega)
  have c4 := fun w => short_any a1 64 w (by omega) (by omega)
  have c5 := fun w => short_any a2 256 w (by omega) (by omega)
  have c6 := fun w => short_any a3 256 w (by omega) (by omega)
  have c7 := fun w => short_any a4 256 w (by omega) (by omega)
  have cA := fun w hT => Fits_any a0 a2 w (by omega) (by omega) hT
  have cB := fun w hT => Fits_any a1 a3 w (by omega) (by omega) hT
  have cC := fun w hT => Fits_any (a0 ++ a1) (a2 ++ a3) w z1 z3 hT
  have cD := fun w hT => Fits_any (a0 ++ ⟨#[42]⟩ ++ a1) (a2 ++ a4 ++ a3) w z4 z2 hT
  have c9 := fun w hT => Lib.hid (works_any w hT)
  have hf := @joins_facts a0.data.toList a1.data.toList a2.data.toList a3.data.toList a4.data.toList
  unfold FitsPost at cA cB cC cD
  rw [d1] at c1 cC
  rw [d2] at c2 cD
  rw [d3] at cC
  rw [d4] at cD
  obtain ⟨b1, eb1⟩ : ∃ x, x = shortOf (a0.data.toList ++ a1.data.toList) 60 := ⟨_, rfl⟩
  rw [← eb1] at c1 hf
  obtain ⟨b2, eb2⟩ : ∃ x, x = shortOf (a2.data.toList ++ a4.data.toList ++ a3.data.toList) 256 := ⟨_, rfl⟩
  rw [← eb2] at c2 hf
  obtain ⟨b3, eb3⟩ : ∃ x, x = shortOf a0.data.toList 64 := ⟨_, rfl⟩
  rw [← eb3] at c3 hf
  obtain ⟨b4, eb4⟩ : ∃ x, x = shortOf a1.data.toList 64 := ⟨_, rfl⟩
  rw [← eb4] at c4 hf
  obtain ⟨b5, eb5⟩ : ∃ x, x = shortOf a2.data.toList 256 := ⟨_, rfl⟩
  rw [← eb5] at c5 hf
  obtain ⟨b6, eb6⟩ : ∃ x, x = shortOf a3.data.toList 256 := ⟨_, rfl⟩
  rw [← eb6] at c6 hf
  obtain ⟨b7, eb7⟩ : ∃ x, x = shortOf a4.data.toList 256 := ⟨_, rfl⟩
  rw [← eb7] at c7 hf
  obtain ⟨fA, efA⟩ : ∃ x, x = fitsOf a0.data.toList a2.data.toList := ⟨_, rfl⟩
  rw [← efA] at cA hf
  obtain ⟨fB, efB⟩ : ∃ x, x = fitsOf a1.data.toList a3.data.toList := ⟨_, rfl⟩
  rw [← efB] at cB hf
  obtain ⟨fC, efC⟩ : ∃ x, x = fitsOf (a0.data.toList ++ a1.data.toList) (a2.data.toList ++ a3.data.toList) := ⟨_, rfl⟩
  rw [← efC] at cC hf
  obtain ⟨fD, efD⟩ : ∃ x, x = fitsOf (a0.data.toList ++ [42] ++ a1.data.toList) (a2.data.toList ++ a4.data.toList ++ a3.data.toList) := ⟨_, rfl⟩
  rw [← efD] at cD hf
  obtain ⟨EA, eEA⟩ : ∃ x, x = patErr a0.data.toList a2.data.toList := ⟨_, rfl⟩
  rw [← eEA] at cA
  obtain ⟨EB, eEB⟩ : ∃ x, x = patErr a1.data.toList a3.data.toList := ⟨_, rfl⟩
  rw [← eEB] at cB
  obtain ⟨EC, eEC⟩ : ∃ x, x = patErr (a0.data.toList ++ a1.data.toList) (a2.data.toList ++ a3.data.toList) := ⟨_, rfl⟩
  rw [← eEC] at cC hf
  obtain ⟨ED, eED⟩ : ∃ x, x = patErr (a0.data.toList ++ [42] ++ a1.data.toList) (a2.data.toList ++ a4.data.toList ++ a3.data.toList) := ⟨_, rfl⟩
  rw [← eED] at cD hf
  have C1 := Lib.hid c1
  have C2 := Lib.hid c2
  have C3 := Lib.hid c3
  have C4 := Lib.hid c4
  have C5 := Lib.hid c5
  have C6 := Lib.hid c6
  have C7 := Lib.hid c7
  have CA := Lib.hid cA
  have CB := Lib.hid cB
  have CC := Lib.hid cC
  have CD := Lib.hid cD
  have HF := Lib.hid hf
  clear c1 c2 c3 c4 c5 c6 c7 cA cB cC cD hf eb1 eb2 eb3 eb4 eb5 eb6 eb7 efA efB efC efD eEA eEB eEC eED z1 z2 z3 z4 zs d1 d2 d3 d4
  go_enter Tryd.func6, Tryd.ntmps6
  go_wp2_with fail
  refine (C1.out _).mono ?_
  rintro e w1 ⟨rfl, hb1⟩
  have hT1 := hT.below hb1
  cases b1
  · go_wp2_with fail
    refine (c9 _ hT1).out.mono ?_
    rintro e w9 ⟨rfl, hb9⟩
    go_wp2
    go_ret
    exact ⟨rfl, step hb1 hb9⟩
  go_wp2_with fail
  refine (C2.out _).mono ?_
  rintro e w2 ⟨rfl, hb2⟩
  have hT2 := hT1.below hb2
  have hB2 := step hb1 hb2
  cases b2
  · go_wp2_with fail
    refine (c9 _ hT2).out.mono ?_
    rintro e w9 ⟨rfl, hb9⟩
    go_wp2
    go_ret
    exact ⟨rfl, step hB2 hb9⟩
  go_wp2_with fail
  refine (C3.out _).mono ?_
  rintro e w3 ⟨rfl, hb3⟩
  have hT3 := hT2.below hb3
  have hB3 := step hB2 hb3
  cases b3
  · go_wp2_with fail
    refine (c9 _ hT3).out.mono ?_
    rintro e w9 ⟨rfl, hb9⟩
    go_wp2
    go_ret
    exact ⟨rfl, step hB3 hb9⟩
  go_wp2_with fail
  refine (C4.out _).mono ?_
  rintro e w4 ⟨rfl, hb4⟩
  have hT4 := hT3.below hb4
  have hB4 := step hB3 hb4
  cases b4
  · go_wp2_with fail
    refine (c9 _ hT4).out.mono ?_
    rintro e w9 ⟨rfl, hb9⟩
    go_wp2
    go_ret
    exact ⟨rfl, step hB4 hb9⟩
  go_wp2_with fail
  refine (C5.out _).mono ?_
  rintro e w5 ⟨rfl, hb5⟩
  have hT5 := hT4.below hb5
  have hB5 := step hB4 hb5
  cases b5
  · go_wp2_with fail
    refine (c9 _ hT5).out.mono ?_
    rintro e w9 ⟨rfl, hb9⟩
    go_wp2
    go_ret
    exact ⟨rfl, step hB5 hb9⟩
  go_wp2_with fail
  refine (C6.out _).mono ?_
  rintro e w6 ⟨rfl, hb6⟩
  have hT6 := hT5.below hb6
  have hB6 := step hB5 hb6
  cases b6
  · go_wp2_with fail
    refine (c9 _ hT6).out.mono ?_
    rintro e w9 ⟨rfl, hb9⟩
    go_wp2
    go_ret
    exact ⟨rfl, step hB6 hb9⟩
  go_wp2_with fail
  refine (C7.out _).mono ?_
  rintro e w7 ⟨rfl, hb7⟩
  have hT7 := hT6.below hb7
  have hB7 := step hB6 hb7
  cases b7
  · go_wp2_with fail
    refine (c9 _ hT7).out.mono ?_
    rintro e w9 ⟨rfl, hb9⟩
    go_wp2
    go_ret
    exact ⟨rfl, step hB7 hb9⟩
  obtain ⟨h1, h2, h3⟩ := HF.out (by trivial) (by trivial) (by trivial) (by trivial) (by trivial) (by trivial) (by trivial)
  subst h1
  subst h2
  have H3 := Lib.hid h3
  clear h3 HF
  go_wp2_with fail
  refine (CA.out _ hT7).mono ?_
  rintro e w8 ⟨rfl, hb8⟩
  have hT8 := hT7.below hb8
  have hB8 := step hB7 hb8
  go_wp2_with fail
  refine (CB.out _ hT8).mono ?_
  rintro e w9 ⟨rfl, hb9⟩
  have hT9 := hT8.below hb9
  have hB9 := step hB8 hb9
  go_wp2_with fail
  refine (CC.out _ hT9).mono ?_
  rintro e w10 ⟨rfl, hb10⟩
  have hT10 := hT9.below hb10
  have hB10 := step hB9 hb10
  go_wp2_with fail
  refine (CD.out _ hT10).mono ?_
  rintro e w11 ⟨rfl, hb11⟩
  have hT11 := hT10.below hb11
  have hB11 := step hB10 hb11
  cases fA
  · go_wp2_with fail
    refine (c9 _ hT11).out.mono ?_
    rintro e w12 ⟨rfl, hb12⟩
    go_wp2
    go_ret
    exact ⟨rfl, step hB11 hb12⟩
  cases fB
  · go_wp2_with fail
    refine (c9 _ hT11).out.mono ?_
    rintro e w12 ⟨rfl, hb12⟩
    go_wp2
    go_ret
    exact ⟨rfl, step hB11 hb12⟩
  obtain ⟨g1, g2⟩ := H3.out (by trivial) (by trivial)
  subst g1
  subst g2
  go_wp2_with fail
  refine (c9 _ hT11).out.mono ?_
  rintro e w12 ⟨rfl, hb12⟩
  go_wp2
  go_ret
  exact ⟨rfl, step hB11 hb12⟩
end Go.Proofs.YtfligggojiboeaaDoor
