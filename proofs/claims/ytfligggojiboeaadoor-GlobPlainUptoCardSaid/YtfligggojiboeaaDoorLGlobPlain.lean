/-
  The walk of the statement GlobPlain: a plain pattern fits just what is alike; * fits all; a pattern, and a text, and their folded ones are fitted alike.
-/
import Derived.Test.YtfligggojiboeaaDoorWorksG
namespace Go.Proofs.YtfligggojiboeaaDoor
open Go.RowKit
set_option linter.unusedVariables false

theorem text_lit_star : (⟨#[42]⟩ : ByteArray).data.toList = [42] := rfl
theorem patErr_star {t : List UInt8} (h1 : isText t = true) (h2 : (letters t).length ≤ 256) : patErr [42] t = 0 := patErr_ok.2 ⟨text_star, h1, by decide +kernel, h2⟩

set_option maxHeartbeats 2000000 in
theorem walk_GlobPlain (W : World) (hT : Tabs W) (a0 : ByteArray) (r0 : a0.size ≤ 1048576) (a1 : ByteArray) (r1 : a1.size ≤ 1048576) :
    Calls Tryd.prog 5 #[.string a0, .string a1] W fun e W' => e = .returned (.bool true) ∧ Below W.heap.size W W' := by
  have c1 := fun w => Lib.hid (short_any a0 64 w (by omega) (by omega))
  have c2 := fun w => Lib.hid (short_any a1 256 w (by omega) (by omega))
  have c9 := fun w hT => Lib.hid (works_any w hT)
  by_cases s1 : shortOf a0.data.toList 64 = true
  · by_cases s2 : shortOf a1.data.toList 256 = true
    · rw [s1] at c1
      rw [s2] at c2
      obtain ⟨tp, lp⟩ := shortOf_iff.1 s1
      obtain ⟨ts, ls⟩ := shortOf_iff.1 s2
      have he : patErr a0.data.toList a1.data.toList = 0 := patErr_ok.2 ⟨tp, ts, lp, ls⟩
      have c3 := fun w hT => Fits_any a0 a1 w (by omega) (by omega) hT
      have c4 := fun w hT => Fold_any a0 w (by omega) hT
      have c5 := fun w hT => Fold_any a1 w (by omega) hT
      have hx0 : (⟨(foldB a0.data.toList).toArray⟩ : ByteArray).size ≤ 4398046511104 := by rw [txt_size, foldB_length, ← Lib.size_eq]; omega
      have hx1 : (⟨(foldB a1.data.toList).toArray⟩ : ByteArray).size ≤ 4398046511104 := by rw [txt_size, foldB_length, ← Lib.size_eq]; omega
      have c6 := fun w hT => Fits_any ⟨(foldB a0.data.toList).toArray⟩ ⟨(foldB a1.data.toList).toArray⟩ w hx0 hx1 hT
      have c7 := fun w hT => Fits_any ⟨#[42]⟩ a1 w (by decide) (by omega) hT
      have c8 := fun w hT => Plain_any a0 w (by omega) hT
      have c10 := fun w hT => Alike_any a0 a1 w (by omega) (by omega) hT
      have ef : patErr (foldB a0.data.toList) (foldB a1.data.toList) = 0 := (patErr_fold _ _).trans he
      have hff : fitsOf (foldB a0.data.toList) (foldB a1.data.toList) = fitsOf a0.data.toList a1.data.toList := by
        rw [Bool.eq_iff_iff, fitsOf_iff ef, fitsOf_iff he]
        exact fitB_fold _ _
      have es := patErr_star ts ls
      have hfs : fitsOf [42] a1.data.toList = true := (fitsOf_iff es).2 (fitB_any _)
      have hpl : plainOf a0.data.toList = true → fitsOf a0.data.toList a1.data.toList = alikeOf a0.data.toList a1.data.toList := fun h => by
        rw [Bool.eq_iff_iff, fitsOf_iff he, fitB_plain h]
        unfold alikeOf
        exact decide_eq_true_iff.symm
      unfold FitsPost at c3 c6 c7
      unfold FoldPost at c4 c5
      rw [he] at c3
      rw [show (⟨(foldB a0.data.toList).toArray⟩ : ByteArray).data.toList = foldB a0.data.toList from rfl, show (⟨(foldB a1.data.toList).toArray⟩ : ByteArray).data.toList = foldB a1.data.toList from rfl, hff, ef] at c6
      rw [text_lit_star, hfs, es] at c7
      obtain ⟨X, hX⟩ : ∃ X : ByteArray, X = ⟨(foldB a0.data.toList).toArray⟩ := ⟨_, rfl⟩
      obtain ⟨Y, hY⟩ : ∃ X : ByteArray, X = ⟨(foldB a1.data.toList).toArray⟩ := ⟨_, rfl⟩
      obtain ⟨b, hb⟩ : ∃ b, b = fitsOf a0.data.toList a1.data.toList := ⟨_, rfl⟩
      obtain ⟨d, hd⟩ : ∃ b, b = plainOf a0.data.toList := ⟨_, rfl⟩
      obtain ⟨k, hk⟩ : ∃ b, b = alikeOf a0.data.toList a1.data.toList := ⟨_, rfl⟩
      rw [← hX] at c4 c6
      rw [← hY] at c5 c6
      rw [← hb] at c3 c6 hpl
      rw [← hd] at c8 hpl
      rw [← hk] at c10 hpl
      have C3 := Lib.hid c3
      have C4 := Lib.hid c4
      have C5 := Lib.hid c5
      have C6 := Lib.hid c6
      have C7 := Lib.hid c7
      have C8 := Lib.hid c8
      have C10 := Lib.hid c10
      have HPL := Lib.hid hpl
      have t1 : (b != b) = false := by simp
      clear c3 c4 c5 c6 c7 c8 c10 s1 s2 tp lp ts ls he hx0 hx1 ef hff es hfs hpl hX hY hb hd hk
      go_enter Tryd.func5, Tryd.ntmps5
      go_wp2_with fail
      refine (c1 _).out.mono ?_
      rintro e w1 ⟨rfl, hb1⟩
      go_wp2_with fail
      refine (c2 _).out.mono ?_
      rintro e w2 ⟨rfl, hb2⟩
      have hT2 := (hT.below hb1).below hb2
      go_wp2_with fail
      refine (C3.out _ hT2).mono ?_
      rintro e w3 ⟨rfl, hb3⟩
      have hT3 := hT2.below hb3
      go_wp2_with fail
      refine (C4.out _ hT3).mono ?_
      rintro e w4 ⟨rfl, hb4⟩
      have hT4 := hT3.below hb4
      go_wp2_with fail
      refine (C5.out _ hT4).mono ?_
      rintro e w5 ⟨rfl, hb5⟩
      have hT5 := hT4.below hb5
      go_wp2_with fail
      refine (C6.out _ hT5).mono ?_
      rintro e w6 ⟨rfl, hb6⟩
      have hT6 := hT5.below hb6
      go_wp2_with fail
      refine (C7.out _ hT6).mono ?_
      rintro e w7 ⟨rfl, hb7⟩
      have hT7 := hT6.below hb7
      go_wp2_with fail
      refine (C8.out _ hT7).mono ?_
      rintro e w8 ⟨rfl, hb8⟩
      have hT8 := hT7.below hb8
      have hB8 := step (step (step (step (step (step (step hb1 hb2) hb3) hb4) hb5) hb6) hb7) hb8
      cases d
      · go_wp2_with fail
        refine (c9 _ hT8).out.mono ?_
        rintro e w9 ⟨rfl, hb9⟩
        go_wp2
        go_ret
        exact ⟨rfl, step hB8 hb9⟩
      · have hbk := HPL.out rfl
        subst hbk
        have t2 : (b == b) = true := by simp
        go_wp2_with fail
        refine (C10.out _ hT8).mono ?_
        rintro e w9 ⟨rfl, hb9⟩
        have hT9 := hT8.below hb9
        go_wp2_with fail
        refine (c9 _ hT9).out.mono ?_
        rintro e w10 ⟨rfl, hb10⟩
        go_wp2
        go_ret
        exact ⟨rfl, step (step hB8 hb9) hb10⟩
    · have s2' : shortOf a1.data.toList 256 = false := by simpa using s2
      rw [s1] at c1
      rw [s2'] at c2
      clear s1 s2 s2'
      go_enter Tryd.func5, Tryd.ntmps5
      go_wp2_with fail
      refine (c1 _).out.mono ?_
      rintro e w1 ⟨rfl, hb1⟩
      go_wp2_with fail
      refine (c2 _).out.mono ?_
      rintro e w2 ⟨rfl, hb2⟩
      have hT2 := (hT.below hb1).below hb2
      go_wp2_with fail
      refine (c9 _ hT2).out.mono ?_
      rintro e w3 ⟨rfl, hb3⟩
      go_wp2
      go_ret
      exact ⟨rfl, step (step hb1 hb2) hb3⟩
  · have s1' : shortOf a0.data.toList 64 = false := by simpa using s1
    rw [s1'] at c1
    clear s1 s1' c2
    go_enter Tryd.func5, Tryd.ntmps5
    go_wp2_with fail
    refine (c1 _).out.mono ?_
    rintro e w1 ⟨rfl, hb1⟩
    have hT1 := hT.below hb1
    go_wp2_with fail
    refine (c9 _ hT1).out.mono ?_
    rintro e w3 ⟨rfl, hb3⟩
    go_wp2
    go_ret
    exact ⟨rfl, step hb1 hb3⟩
end Go.Proofs.YtfligggojiboeaaDoor
