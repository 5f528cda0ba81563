/-
  The walk of the statement GlobRefused: of what is no text, or too long, nothing is answered but the error.
-/
import Derived.Test.YtfligggojiboeaaDoorWorksG
namespace Go.Proofs.YtfligggojiboeaaDoor
open Go.RowKit
set_option linter.unusedVariables false

theorem shortOf_text {l : List UInt8} {m : Nat} (h : isText l = false) : shortOf l m = false := by simp [shortOf, h]
theorem shortOf_long {l : List UInt8} {m : Nat} (h : ¬ (letters l).length ≤ m) : shortOf l m = false := by simp [shortOf, h]
theorem empty_mk : (⟨([] : List UInt8).toArray⟩ : ByteArray) = ⟨#[]⟩ := rfl

set_option maxHeartbeats 4000000 in
theorem walk_GlobRefused (W : World) (hT : Tabs W) (a0 : ByteArray) (r0 : a0.size ≤ 1048576) (a1 : ByteArray) (r1 : a1.size ≤ 1048576) :
    Calls Tryd.prog 9 #[.string a0, .string a1] W fun e W' => e = .returned (.bool true) ∧ Below W.heap.size W W' := by
  have c1 := fun w hT => Fits_any a0 a1 w (by omega) (by omega) hT
  have c2 := fun w hT => Short_any a0 w (by omega) hT
  have c3 := fun w => RIs_any a0 w (by omega)
  have c4 := fun w => RIs_any a1 w (by omega)
  have c5 := fun w => short_any a0 64 w (by omega) (by omega)
  have c6 := fun w => short_any a1 256 w (by omega) (by omega)
  have c9 := fun w hT => Lib.hid (works_any w hT)
  unfold FitsPost at c1
  unfold ShortPost at c2
  by_cases tp' : isText a0.data.toList = false
  · have e1 : patErr a0.data.toList a1.data.toList = 5 := patErr_form (.inl tp')
    have e2 : patErr a0.data.toList [] = 5 := patErr_form (.inl tp')
    have e3 : fitsOf a0.data.toList a1.data.toList = false := fitsOf_bad (by rw [e1]; decide)
    have e5 : shortOf a0.data.toList 64 = false := shortOf_text tp'
    have e4 : shortO a0.data.toList = [] := if_neg (by rw [e2]; decide)
    rw [e1, e3] at c1
    rw [e2, e4, empty_mk] at c2
    rw [tp'] at c3
    rw [e5] at c5
    have C1 := Lib.hid c1
    have C2 := Lib.hid c2
    have C3 := Lib.hid c3
    have C4 := Lib.hid c4
    have C5 := Lib.hid c5
    have C6 := Lib.hid c6
    clear c1 c2 c3 c4 c5 c6 e1 e2 e5 e3 e4 tp'
    go_enter Tryd.func9, Tryd.ntmps9
    go_wp2_with fail
    refine (C1.out _ hT).mono ?_
    rintro e w1 ⟨rfl, hb1⟩
    have hT1 := hT.below hb1
    go_wp2_with fail
    refine (C2.out _ hT1).mono ?_
    rintro e w2 ⟨rfl, hb2⟩
    have hT2 := hT1.below hb2
    have hB2 := step hb1 hb2
    go_wp2_with fail
    refine (C3.out _).mono ?_
    rintro e w3 ⟨rfl, hb3⟩
    have hT3 := hT2.below hb3
    have hB3 := step hB2 hb3
    go_wp2_with fail
    refine (C5.out _).mono ?_
    rintro e w4 ⟨rfl, hb4⟩
    have hT4 := hT3.below hb4
    have hB4 := step hB3 hb4
    go_wp2_with fail
    refine (C5.out _).mono ?_
    rintro e w5 ⟨rfl, hb5⟩
    have hT5 := hT4.below hb5
    have hB5 := step hB4 hb5
    go_wp2_with fail
    refine (c9 _ hT5).out.mono ?_
    rintro e w6 ⟨rfl, hb6⟩
    have hT6 := hT5.below hb6
    have hB6 := step hB5 hb6
    go_wp2
    go_ret
    exact ⟨rfl, hB6⟩
  have tp : isText a0.data.toList = true := by simpa using tp'
  clear tp'
  by_cases ts' : isText a1.data.toList = false
  · by_cases l1 : (letters a0.data.toList).length ≤ 64
    · have e1 : patErr a0.data.toList a1.data.toList = 5 := patErr_form (.inr ts')
      have e2 : patErr a0.data.toList [] = 0 := patErr_empty.2 ⟨tp, l1⟩
      have e3 : fitsOf a0.data.toList a1.data.toList = false := fitsOf_bad (by rw [e1]; decide)
      have e5 : shortOf a0.data.toList 64 = true := shortOf_iff.2 ⟨tp, l1⟩
      have e6 : shortOf a1.data.toList 256 = false := shortOf_text ts'
      rw [e1, e3] at c1
      rw [e2] at c2
      rw [tp] at c3
      rw [ts'] at c4
      rw [e5] at c5
      rw [e6] at c6
      obtain ⟨X, hX⟩ : ∃ X : ByteArray, X = ⟨(shortO a0.data.toList).toArray⟩ := ⟨_, rfl⟩
      rw [← hX] at c2
      clear hX
      have C1 := Lib.hid c1
      have C2 := Lib.hid c2
      have C3 := Lib.hid c3
      have C4 := Lib.hid c4
      have C5 := Lib.hid c5
      have C6 := Lib.hid c6
      clear c1 c2 c3 c4 c5 c6 e1 e2 e5 e3 e6 tp ts' l1
      go_enter Tryd.func9, Tryd.ntmps9
      go_wp2_with fail
      refine (C1.out _ hT).mono ?_
      rintro e w1 ⟨rfl, hb1⟩
      have hT1 := hT.below hb1
      go_wp2_with fail
      refine (C2.out _ hT1).mono ?_
      rintro e w2 ⟨rfl, hb2⟩
      have hT2 := hT1.below hb2
      have hB2 := step hb1 hb2
      go_wp2_with fail
      refine (C3.out _).mono ?_
      rintro e w3 ⟨rfl, hb3⟩
      have hT3 := hT2.below hb3
      have hB3 := step hB2 hb3
      go_wp2_with fail
      refine (C4.out _).mono ?_
      rintro e w4 ⟨rfl, hb4⟩
      have hT4 := hT3.below hb4
      have hB4 := step hB3 hb4
      go_wp2_with fail
      refine (C5.out _).mono ?_
      rintro e w5 ⟨rfl, hb5⟩
      have hT5 := hT4.below hb5
      have hB5 := step hB4 hb5
      go_wp2_with fail
      refine (C6.out _).mono ?_
      rintro e w6 ⟨rfl, hb6⟩
      have hT6 := hT5.below hb6
      have hB6 := step hB5 hb6
      go_wp2_with fail
      refine (C5.out _).mono ?_
      rintro e w7 ⟨rfl, hb7⟩
      have hT7 := hT6.below hb7
      have hB7 := step hB6 hb7
      go_wp2_with fail
      refine (c9 _ hT7).out.mono ?_
      rintro e w8 ⟨rfl, hb8⟩
      have hT8 := hT7.below hb8
      have hB8 := step hB7 hb8
      go_wp2
      go_ret
      exact ⟨rfl, hB8⟩
    · have e1 : patErr a0.data.toList a1.data.toList = 5 := patErr_form (.inr ts')
      have e2 : patErr a0.data.toList [] = 3 := patErr_limit tp rfl (.inl (by omega))
      have e3 : fitsOf a0.data.toList a1.data.toList = false := fitsOf_bad (by rw [e1]; decide)
      have e5 : shortOf a0.data.toList 64 = false := shortOf_long l1
      have e4 : shortO a0.data.toList = [] := if_neg (by rw [e2]; decide)
      rw [e1, e3] at c1
      rw [e2, e4, empty_mk] at c2
      rw [tp] at c3
      rw [ts'] at c4
      rw [e5] at c5
      have C1 := Lib.hid c1
      have C2 := Lib.hid c2
      have C3 := Lib.hid c3
      have C4 := Lib.hid c4
      have C5 := Lib.hid c5
      have C6 := Lib.hid c6
      clear c1 c2 c3 c4 c5 c6 e1 e2 e5 e3 e4 tp ts' l1
      go_enter Tryd.func9, Tryd.ntmps9
      go_wp2_with fail
      refine (C1.out _ hT).mono ?_
      rintro e w1 ⟨rfl, hb1⟩
      have hT1 := hT.below hb1
      go_wp2_with fail
      refine (C2.out _ hT1).mono ?_
      rintro e w2 ⟨rfl, hb2⟩
      have hT2 := hT1.below hb2
      have hB2 := step hb1 hb2
      go_wp2_with fail
      refine (C3.out _).mono ?_
      rintro e w3 ⟨rfl, hb3⟩
      have hT3 := hT2.below hb3
      have hB3 := step hB2 hb3
      go_wp2_with fail
      refine (C4.out _).mono ?_
      rintro e w4 ⟨rfl, hb4⟩
      have hT4 := hT3.below hb4
      have hB4 := step hB3 hb4
      go_wp2_with fail
      refine (C5.out _).mono ?_
      rintro e w5 ⟨rfl, hb5⟩
      have hT5 := hT4.below hb5
      have hB5 := step hB4 hb5
      go_wp2_with fail
      refine (C5.out _).mono ?_
      rintro e w6 ⟨rfl, hb6⟩
      have hT6 := hT5.below hb6
      have hB6 := step hB5 hb6
      go_wp2_with fail
      refine (c9 _ hT6).out.mono ?_
      rintro e w7 ⟨rfl, hb7⟩
      have hT7 := hT6.below hb7
      have hB7 := step hB6 hb7
      go_wp2
      go_ret
      exact ⟨rfl, hB7⟩
  have ts : isText a1.data.toList = true := by simpa using ts'
  clear ts'
  by_cases l1 : (letters a0.data.toList).length ≤ 64
  · by_cases l2 : (letters a1.data.toList).length ≤ 256
    · have e1 : patErr a0.data.toList a1.data.toList = 0 := patErr_ok.2 ⟨tp, ts, l1, l2⟩
      have e2 : patErr a0.data.toList [] = 0 := patErr_empty.2 ⟨tp, l1⟩
      have e5 : shortOf a0.data.toList 64 = true := shortOf_iff.2 ⟨tp, l1⟩
      have e6 : shortOf a1.data.toList 256 = true := shortOf_iff.2 ⟨ts, l2⟩
      rw [e1] at c1
      rw [e2] at c2
      rw [tp] at c3
      rw [ts] at c4
      rw [e5] at c5
      rw [e6] at c6
      obtain ⟨b, hb⟩ : ∃ b, b = fitsOf a0.data.toList a1.data.toList := ⟨_, rfl⟩
      rw [← hb] at c1
      clear hb
      obtain ⟨X, hX⟩ : ∃ X : ByteArray, X = ⟨(shortO a0.data.toList).toArray⟩ := ⟨_, rfl⟩
      rw [← hX] at c2
      clear hX
      have C1 := Lib.hid c1
      have C2 := Lib.hid c2
      have C3 := Lib.hid c3
      have C4 := Lib.hid c4
      have C5 := Lib.hid c5
      have C6 := Lib.hid c6
      clear c1 c2 c3 c4 c5 c6 e1 e2 e5 e6 tp ts l1 l2
      go_enter Tryd.func9, Tryd.ntmps9
      go_wp2_with fail
      refine (C1.out _ hT).mono ?_
      rintro e w1 ⟨rfl, hb1⟩
      have hT1 := hT.below hb1
      go_wp2_with fail
      refine (C2.out _ hT1).mono ?_
      rintro e w2 ⟨rfl, hb2⟩
      have hT2 := hT1.below hb2
      have hB2 := step hb1 hb2
      go_wp2_with fail
      refine (C3.out _).mono ?_
      rintro e w3 ⟨rfl, hb3⟩
      have hT3 := hT2.below hb3
      have hB3 := step hB2 hb3
      go_wp2_with fail
      refine (C4.out _).mono ?_
      rintro e w4 ⟨rfl, hb4⟩
      have hT4 := hT3.below hb4
      have hB4 := step hB3 hb4
      go_wp2_with fail
      refine (C5.out _).mono ?_
      rintro e w5 ⟨rfl, hb5⟩
      have hT5 := hT4.below hb5
      have hB5 := step hB4 hb5
      go_wp2_with fail
      refine (C6.out _).mono ?_
      rintro e w6 ⟨rfl, hb6⟩
      have hT6 := hT5.below hb6
      have hB6 := step hB5 hb6
      go_wp2_with fail
      refine (C5.out _).mono ?_
      rintro e w7 ⟨rfl, hb7⟩
      have hT7 := hT6.below hb7
      have hB7 := step hB6 hb7
      go_wp2_with fail
      refine (c9 _ hT7).out.mono ?_
      rintro e w8 ⟨rfl, hb8⟩
      have hT8 := hT7.below hb8
      have hB8 := step hB7 hb8
      go_wp2
      go_ret
      exact ⟨rfl, hB8⟩
    · have e1 : patErr a0.data.toList a1.data.toList = 3 := patErr_limit tp ts (.inr (by omega))
      have e2 : patErr a0.data.toList [] = 0 := patErr_empty.2 ⟨tp, l1⟩
      have e3 : fitsOf a0.data.toList a1.data.toList = false := fitsOf_bad (by rw [e1]; decide)
      have e5 : shortOf a0.data.toList 64 = true := shortOf_iff.2 ⟨tp, l1⟩
      have e6 : shortOf a1.data.toList 256 = false := shortOf_long l2
      rw [e1, e3] at c1
      rw [e2] at c2
      rw [tp] at c3
      rw [ts] at c4
      rw [e5] at c5
      rw [e6] at c6
      obtain ⟨X, hX⟩ : ∃ X : ByteArray, X = ⟨(shortO a0.data.toList).toArray⟩ := ⟨_, rfl⟩
      rw [← hX] at c2
      clear hX
      have C1 := Lib.hid c1
      have C2 := Lib.hid c2
      have C3 := Lib.hid c3
      have C4 := Lib.hid c4
      have C5 := Lib.hid c5
      have C6 := Lib.hid c6
      clear c1 c2 c3 c4 c5 c6 e1 e2 e5 e3 e6 tp ts l1 l2
      go_enter Tryd.func9, Tryd.ntmps9
      go_wp2_with fail
      refine (C1.out _ hT).mono ?_
      rintro e w1 ⟨rfl, hb1⟩
      have hT1 := hT.below hb1
      go_wp2_with fail
      refine (C2.out _ hT1).mono ?_
      rintro e w2 ⟨rfl, hb2⟩
      have hT2 := hT1.below hb2
      have hB2 := step hb1 hb2
      go_wp2_with fail
      refine (C3.out _).mono ?_
      rintro e w3 ⟨rfl, hb3⟩
      have hT3 := hT2.below hb3
      have hB3 := step hB2 hb3
      go_wp2_with fail
      refine (C4.out _).mono ?_
      rintro e w4 ⟨rfl, hb4⟩
      have hT4 := hT3.below hb4
      have hB4 := step hB3 hb4
      go_wp2_with fail
      refine (C5.out _).mono ?_
      rintro e w5 ⟨rfl, hb5⟩
      have hT5 := hT4.below hb5
      have hB5 := step hB4 hb5
      go_wp2_with fail
      refine (C6.out _).mono ?_
      rintro e w6 ⟨rfl, hb6⟩
      have hT6 := hT5.below hb6
      have hB6 := step hB5 hb6
      go_wp2_with fail
      refine (C5.out _).mono ?_
      rintro e w7 ⟨rfl, hb7⟩
      have hT7 := hT6.below hb7
      have hB7 := step hB6 hb7
      go_wp2_with fail
      refine (c9 _ hT7).out.mono ?_
      rintro e w8 ⟨rfl, hb8⟩
      have hT8 := hT7.below hb8
      have hB8 := step hB7 hb8
      go_wp2
      go_ret
      exact ⟨rfl, hB8⟩
  · have e1 : patErr a0.data.toList a1.data.toList = 3 := patErr_limit tp ts (.inl (by omega))
    have e2 : patErr a0.data.toList [] = 3 := patErr_limit tp rfl (.inl (by omega))
    have e3 : fitsOf a0.data.toList a1.data.toList = false := fitsOf_bad (by rw [e1]; decide)
    have e5 : shortOf a0.data.toList 64 = false := shortOf_long l1
    have e4 : shortO a0.data.toList = [] := if_neg (by rw [e2]; decide)
    rw [e1, e3] at c1
    rw [e2, e4, empty_mk] at c2
    rw [tp] at c3
    rw [ts] at c4
    rw [e5] at c5
    have C1 := Lib.hid c1
    have C2 := Lib.hid c2
    have C3 := Lib.hid c3
    have C4 := Lib.hid c4
    have C5 := Lib.hid c5
    have C6 := Lib.hid c6
    clear c1 c2 c3 c4 c5 c6 e1 e2 e5 e3 e4 tp ts l1
    go_enter Tryd.func9, Tryd.ntmps9
    go_wp2_with fail
    refine (C1.out _ hT).mono ?_
    rintro e w1 ⟨rfl, hb1⟩
    have hT1 := hT.below hb1
    go_wp2_with fail
    refine (C2.out _ hT1).mono ?_
    rintro e w2 ⟨rfl, hb2⟩
    have hT2 := hT1.below hb2
    have hB2 := step hb1 hb2
    go_wp2_with fail
    refine (C3.out _).mono ?_
    rintro e w3 ⟨rfl, hb3⟩
    have hT3 := hT2.below hb3
    have hB3 := step hB2 hb3
    go_wp2_with fail
    refine (C4.out _).mono ?_
    rintro e w4 ⟨rfl, hb4⟩
    have hT4 := hT3.below hb4
    have hB4 := step hB3 hb4
    go_wp2_with fail
    refine (C5.out _).mono ?_
    rintro e w5 ⟨rfl, hb5⟩
    have hT5 := hT4.below hb5
    have hB5 := step hB4 hb5
    go_wp2_with fail
    refine (C5.out _).mono ?_
    rintro e w6 ⟨rfl, hb6⟩
    have hT6 := hT5.below hb6
    have hB6 := step hB5 hb6
    go_wp2_with fail
    refine (c9 _ hT6).out.mono ?_
    rintro e w7 ⟨rfl, hb7⟩
    have hT7 := hT6.below hb7
    have hB7 := step hB6 hb7
    go_wp2
    go_ret
    exact ⟨rfl, hB7⟩
end Go.Proofs.YtfligggojiboeaaDoor
