/-
  The walk of the statement GlobShort: the short form of a pattern fits just what it fits, is its own short form, and not longer.
-/
import Derived.Test.YtfligggojiboeaaDoorWorksG
namespace Go.Proofs.YtfligggojiboeaaDoor
open Go.RowKit
set_option linter.unusedVariables false

theorem short_ok {p : List UInt8} (h : patErr p [] = 0) : patErr (shortB p) [] = 0 := by
  obtain ⟨h1, h2⟩ := patErr_empty.1 h
  refine patErr_empty.2 ⟨text_short h1, ?_⟩
  rw [letters_short h1]
  have := shortL_len (letters p)
  omega

set_option maxHeartbeats 2000000 in
theorem walk_GlobShort (W : World) (hT : Tabs W) (a0 : ByteArray) (r0 : a0.size ≤ 1048576) (a1 : ByteArray) (r1 : a1.size ≤ 1048576) :
    Calls Tryd.prog 7 #[.string a0, .string a1] W fun e W' => e = .returned (.bool true) ∧ Below W.heap.size W W' := by
  have c1 := fun w hT => Short_any a0 w (by omega) hT
  have c2 := fun w => Lib.hid (short_any a1 256 w (by omega) (by omega))
  have c9 := fun w hT => Lib.hid (works_any w hT)
  unfold ShortPost at c1
  by_cases he : patErr a0.data.toList [] = 0
  · have hO : shortO a0.data.toList = shortB a0.data.toList := if_pos he
    obtain ⟨tp, lp⟩ := patErr_empty.1 he
    have he2 := short_ok he
    have hO2 : shortO (shortB a0.data.toList) = shortB a0.data.toList := (if_pos he2).trans (short_again tp)
    have hxl : (⟨(shortB a0.data.toList).toArray⟩ : ByteArray).size ≤ a0.size := by
      rw [txt_size, Lib.size_eq]
      exact short_bytes_len _
    have c3 := fun w hT => Short_any ⟨(shortB a0.data.toList).toArray⟩ w (by omega) hT
    unfold ShortPost at c3
    rw [show (⟨(shortB a0.data.toList).toArray⟩ : ByteArray).data.toList = shortB a0.data.toList from rfl, hO2, he2] at c3
    rw [hO, he] at c1
    by_cases s2 : shortOf a1.data.toList 256 = true
    · rw [s2] at c2
      obtain ⟨ts, ls⟩ := shortOf_iff.1 s2
      obtain ⟨tq, lq⟩ := patErr_empty.1 he2
      have e1 : patErr a0.data.toList a1.data.toList = 0 := patErr_ok.2 ⟨tp, ts, lp, ls⟩
      have e2 : patErr (shortB a0.data.toList) a1.data.toList = 0 := patErr_ok.2 ⟨tq, ts, lq, ls⟩
      have hff : fitsOf (shortB a0.data.toList) a1.data.toList = fitsOf a0.data.toList a1.data.toList := by
        rw [Bool.eq_iff_iff, fitsOf_iff e2, fitsOf_iff e1]
        exact fitB_short tp _
      have c4 := fun w hT => Fits_any a0 a1 w (by omega) (by omega) hT
      have c5 := fun w hT => Fits_any ⟨(shortB a0.data.toList).toArray⟩ a1 w (by omega) (by omega) hT
      unfold FitsPost at c4 c5
      rw [show (⟨(shortB a0.data.toList).toArray⟩ : ByteArray).data.toList = shortB a0.data.toList from rfl, hff, e2] at c5
      rw [e1] at c4
      obtain ⟨X, hX⟩ : ∃ X : ByteArray, X = ⟨(shortB a0.data.toList).toArray⟩ := ⟨_, rfl⟩
      obtain ⟨b, hb⟩ : ∃ b, b = fitsOf a0.data.toList a1.data.toList := ⟨_, rfl⟩
      rw [← hX] at c1 c3 c5 hxl
      rw [← hb] at c4 c5
      have C1 := Lib.hid c1
      have C3 := Lib.hid c3
      have C4 := Lib.hid c4
      have C5 := Lib.hid c5
      have t0 : (X.toList == X.toList) = true := by simp
      have t1 : (b == b) = true := by simp
      clear c1 c3 c4 c5 he hO tp lp he2 hO2 s2 ts ls tq lq e1 e2 hff hX hb
      go_enter Tryd.func7, Tryd.ntmps7
      go_wp2_with fail
      refine (C1.out _ hT).mono ?_
      rintro e w1 ⟨rfl, hb1⟩
      have hT1 := hT.below hb1
      go_wp2_with fail
      refine (c2 _).out.mono ?_
      rintro e w2 ⟨rfl, hb2⟩
      have hT2 := hT1.below hb2
      go_wp2_with fail
      refine (C3.out _ hT2).mono ?_
      rintro e w3 ⟨rfl, hb3⟩
      have hT3 := hT2.below hb3
      go_wp2_with fail
      refine (C4.out _ hT3).mono ?_
      rintro e w4 ⟨rfl, hb4⟩
      have hT4 := hT3.below hb4
      go_wp2_with fail
      refine (C5.out _ hT4).mono ?_
      rintro e w5 ⟨rfl, hb5⟩
      have hT5 := hT4.below hb5
      go_wp2_with fail
      refine (c9 _ hT5).out.mono ?_
      rintro e w6 ⟨rfl, hb6⟩
      go_wp2
      go_ret
      exact ⟨rfl, step (step (step (step (step hb1 hb2) hb3) hb4) hb5) hb6⟩
    · have s2' : shortOf a1.data.toList 256 = false := by simpa using s2
      rw [s2'] at c2
      obtain ⟨X, hX⟩ : ∃ X : ByteArray, X = ⟨(shortB a0.data.toList).toArray⟩ := ⟨_, rfl⟩
      rw [← hX] at c1
      have C1 := Lib.hid c1
      clear c1 c3 he hO tp lp he2 hO2 hxl s2 s2' hX
      go_enter Tryd.func7, Tryd.ntmps7
      go_wp2_with fail
      refine (C1.out _ hT).mono ?_
      rintro e w1 ⟨rfl, hb1⟩
      have hT1 := hT.below hb1
      go_wp2_with fail
      refine (c2 _).out.mono ?_
      rintro e w2 ⟨rfl, hb2⟩
      have hT2 := hT1.below hb2
      go_wp2_with fail
      refine (c9 _ hT2).out.mono ?_
      rintro e w6 ⟨rfl, hb6⟩
      go_wp2
      go_ret
      exact ⟨rfl, step (step hb1 hb2) hb6⟩
  · obtain ⟨X, hX⟩ : ∃ X : ByteArray, X = ⟨(shortO a0.data.toList).toArray⟩ := ⟨_, rfl⟩
    obtain ⟨E, hE⟩ : ∃ E, E = patErr a0.data.toList [] := ⟨_, rfl⟩
    rw [← hX, ← hE] at c1
    rw [← hE] at he
    have C1 := Lib.hid c1
    have hne : (E != 0) = true := by simpa using he
    clear c1 c2 hX hE he
    go_enter Tryd.func7, Tryd.ntmps7
    go_wp2_with fail
    refine (C1.out _ hT).mono ?_
    rintro e w1 ⟨rfl, hb1⟩
    have hT1 := hT.below hb1
    go_wp2_with fail
    refine (c9 _ hT1).out.mono ?_
    rintro e w6 ⟨rfl, hb6⟩
    go_wp2
    go_ret
    exact ⟨rfl, step hb1 hb6⟩
end Go.Proofs.YtfligggojiboeaaDoor
