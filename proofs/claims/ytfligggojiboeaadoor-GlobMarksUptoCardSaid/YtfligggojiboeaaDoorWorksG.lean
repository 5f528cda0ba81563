/-
  Layer 5: what all statements of the layer share: works, short.
-/
import Derived.Test.YtfligggojiboeaaDoorGlobH
namespace Go.Proofs.YtfligggojiboeaaDoor
open Go.RowKit

/-- is it a text of at most so many letters -/
def shortOf (l : List UInt8) (m : Nat) : Bool := isText l && decide ((letters l).length ≤ m)
theorem shortOf_iff {l : List UInt8} {m : Nat} : shortOf l m = true ↔ isText l = true ∧ (letters l).length ≤ m := by simp [shortOf]

set_option maxHeartbeats 1000000 in
theorem short_any (s : ByteArray) (m : Nat) (w : World) (hs : s.size ≤ 4398046511104) (_hm : m ≤ 1000) :
    Calls Tryd.prog 17 #[.string s, .int .i64 m] w fun e w' => e = .returned (.bool (shortOf s.data.toList m)) ∧ Below w.heap.size w w' := by
  have c1 := Letters_any s w hs
  unfold LettersPost at c1
  unfold shortOf
  obtain ⟨L, hL⟩ : ∃ L, L = letters s.data.toList := ⟨_, rfl⟩
  obtain ⟨t, ht⟩ : ∃ t, t = isText s.data.toList := ⟨_, rfl⟩
  rw [← hL, ← ht] at c1
  rw [← hL, ← ht]
  have C1 := Lib.hid c1
  clear c1 hL ht
  cases t
  · go_enter Tryd.func17, Tryd.ntmps17
    go_wp2_with fail
    refine C1.out.mono ?_
    rintro e w1 ⟨v, rfl, ho, hb1⟩
    go_wp2
    go_ret
    exact ⟨rfl, hb1⟩
  · go_enter Tryd.func17, Tryd.ntmps17
    go_wp2_with fail
    refine C1.out.mono ?_
    rintro e w1 ⟨v, rfl, ho, hb1⟩
    obtain ⟨A, n, c, rfl, hn, _, _, _, _⟩ := ho.open
    have HN := Lib.hid hn
    clear ho hn
    go_wp2
    go_ret
    refine ⟨ret_bool ?_, hb1⟩
    rw [HN.out]
    simp

theorem works_1 : fitsOf [42, 46, 84, 88, 84] [97, 46, 116, 120, 116] = true ∧ patErr [42, 46, 84, 88, 84] [97, 46, 116, 120, 116] = 0 := by
  have he : patErr [42, 46, 84, 88, 84] [97, 46, 116, 120, 116] = 0 := by decide +kernel
  refine ⟨(fitsOf_iff he).2 ?_, he⟩
  unfold FitB
  rw [show foldedOf [42, 46, 84, 88, 84] = [42, 46, 116, 120, 116] by decide +kernel, show foldedOf [97, 46, 116, 120, 116] = [97, 46, 116, 120, 116] by decide +kernel]
  exact fit_star.2 ⟨[97], [46, 116, 120, 116], rfl, (fit_plain (by decide)).2 rfl⟩
theorem works_2 : fitsOf [97, 63, 99] [97, 99] = false ∧ patErr [97, 63, 99] [97, 99] = 0 := by
  have he : patErr [97, 63, 99] [97, 99] = 0 := by decide +kernel
  refine ⟨?_, he⟩
  rw [Bool.eq_false_iff]
  intro h
  have h := (fitsOf_iff he).1 h
  unfold FitB at h
  rw [show foldedOf [97, 63, 99] = [97, 63, 99] by decide +kernel, show foldedOf [97, 99] = [97, 99] by decide +kernel, fit_cons (by decide)] at h
  obtain ⟨x, r, e, _, h⟩ := h
  cases e
  rw [fit_cons (by decide)] at h
  obtain ⟨x, r, e, _, h⟩ := h
  cases e
  rw [fit_cons (by decide)] at h
  obtain ⟨x, r, e, _, h⟩ := h
  cases e
theorem works_3 : plainOf [97, 46, 98] = true := by decide +kernel
theorem works_4 : plainOf [97, 42] = false := by decide +kernel

set_option maxHeartbeats 1000000 in
theorem works_any (w : World) (hT : Tabs w) : Calls Tryd.prog 12 #[] w fun e w' => e = .returned (.bool true) ∧ Below w.heap.size w w' := by
  have c1 : ∀ w, Tabs w → Calls Tryd.prog 10 #[.string ⟨#[42, 46, 84, 88, 84]⟩, .string ⟨#[97, 46, 116, 120, 116]⟩] w fun e w' => e = .returned (.tuple #[.bool true, .int .i64 0]) ∧ Below w.heap.size w w' := fun w hT => by
    have := Fits_any ⟨#[42, 46, 84, 88, 84]⟩ ⟨#[97, 46, 116, 120, 116]⟩ w (by decide) (by decide) hT
    unfold FitsPost at this
    rw [show (⟨#[42, 46, 84, 88, 84]⟩ : ByteArray).data.toList = [42, 46, 84, 88, 84] from rfl, show (⟨#[97, 46, 116, 120, 116]⟩ : ByteArray).data.toList = [97, 46, 116, 120, 116] from rfl, works_1.1, works_1.2] at this
    exact this
  have c2 : ∀ w, Tabs w → Calls Tryd.prog 10 #[.string ⟨#[97, 63, 99]⟩, .string ⟨#[97, 99]⟩] w fun e w' => e = .returned (.tuple #[.bool false, .int .i64 0]) ∧ Below w.heap.size w w' := fun w hT => by
    have := Fits_any ⟨#[97, 63, 99]⟩ ⟨#[97, 99]⟩ w (by decide) (by decide) hT
    unfold FitsPost at this
    rw [show (⟨#[97, 63, 99]⟩ : ByteArray).data.toList = [97, 63, 99] from rfl, show (⟨#[97, 99]⟩ : ByteArray).data.toList = [97, 99] from rfl, works_2.1, works_2.2] at this
    exact this
  have c3 : ∀ w, Tabs w → Calls Tryd.prog 15 #[.string ⟨#[97, 46, 98]⟩] w fun e w' => e = .returned (.bool true) ∧ Below w.heap.size w w' := fun w hT => by
    have := Plain_any ⟨#[97, 46, 98]⟩ w (by decide) hT
    rw [show (⟨#[97, 46, 98]⟩ : ByteArray).data.toList = [97, 46, 98] from rfl, works_3] at this
    exact this
  have c4 : ∀ w, Tabs w → Calls Tryd.prog 15 #[.string ⟨#[97, 42]⟩] w fun e w' => e = .returned (.bool false) ∧ Below w.heap.size w w' := fun w hT => by
    have := Plain_any ⟨#[97, 42]⟩ w (by decide) hT
    rw [show (⟨#[97, 42]⟩ : ByteArray).data.toList = [97, 42] from rfl, works_4] at this
    exact this
  have C1 := Lib.hid c1
  have C2 := Lib.hid c2
  have C3 := Lib.hid c3
  have C4 := Lib.hid c4
  clear c1 c2 c3 c4
  go_enter Tryd.func12, Tryd.ntmps12
  go_wp2_with fail
  refine (C1.out _ hT).mono ?_
  rintro e w1 ⟨rfl, hb1⟩
  have hT1 := hT.below hb1
  go_wp2_with fail
  refine (C2.out _ hT1).mono ?_
  rintro e w2 ⟨rfl, hb2⟩
  have hT2 := hT1.below hb2
  go_wp2_with fail
  refine (C3.out _ hT2).mono ?_
  rintro e w3 ⟨rfl, hb3⟩
  have hT3 := hT2.below hb3
  go_wp2_with fail
  refine (C4.out _ hT3).mono ?_
  rintro e w4 ⟨rfl, hb4⟩
  go_wp2
  go_ret
  exact ⟨rfl, step (step (step hb1 hb2) hb3) hb4⟩
end Go.Proofs.YtfligggojiboeaaDoor
