/-
  Layer 5: the contract of glob.Fits.
-/
import Derived.Test.YtfligggojiboeaaDoorGlobC
namespace Go.Proofs.YtfligggojiboeaaDoor
open Go.RowKit

theorem txt_size (l : List UInt8) : (⟨l.toArray⟩ : ByteArray).size = l.length := by simp [ByteArray.size]
theorem txt_eq (X Y : ByteArray) : (X.toList == Y.toList) = decide (X.data.toList = Y.data.toList) := by
  rw [Lib.toList_data, Lib.toList_data, Bool.eq_iff_iff, beq_iff_eq, decide_eq_true_eq]

/-- does the pattern fit, as Fits answers -/
noncomputable def fitsOf (p t : List UInt8) : Bool := if patErr p t = 0 then fitAt (foldedOf p) (foldedOf p).length (foldedOf t) else false
theorem fitsOf_iff {p t : List UInt8} (h : patErr p t = 0) : fitsOf p t = true ↔ FitB p t := by
  unfold fitsOf
  rw [if_pos h, fitAt_all _ _ _ (Nat.le_refl _)]
  exact Iff.rfl
theorem fitsOf_bad {p t : List UInt8} (h : patErr p t ≠ 0) : fitsOf p t = false := if_neg h

/-- what Fits answers -/
def FitsPost (w : World) (p t : List UInt8) (e : Ending) (w' : World) : Prop := e = .returned (.tuple #[.bool (fitsOf p t), .int .i64 (patErr p t)]) ∧ Below w.heap.size w w'

theorem patErr_form {p t : List UInt8} (h : isText p = false ∨ isText t = false) : patErr p t = 5 := if_pos h
theorem patErr_limit {p t : List UInt8} (h1 : isText p = true) (h2 : isText t = true) (h : 64 < (letters p).length ∨ 256 < (letters t).length) : patErr p t = 3 := by
  unfold patErr
  rw [if_neg (by rw [h1, h2]; simp), if_pos h]

set_option maxHeartbeats 2000000 in
theorem Fits_any (p s : ByteArray) (w : World) (hp : p.size ≤ 4398046511104) (hs : s.size ≤ 4398046511104) (hT : Tabs w) :
    Calls Tryd.prog 10 #[.string p, .string s] w (FitsPost w p.data.toList s.data.toList) := by
  have c1 := fun w hT => Lib.hid (IsText_any p w (by omega) hT)
  have c2 := fun w hT => Lib.hid (IsText_any s w (by omega) hT)
  have c3 := fun w => Lib.hid (longer_any p 64 w (by omega))
  have c4 := fun w => Lib.hid (longer_any s 256 w (by omega))
  have hq : ∀ (b : Bool) (n : Int), fitsOf p.data.toList s.data.toList = b → patErr p.data.toList s.data.toList = n → ∀ e w', e = .returned (.tuple #[.bool b, .int .i64 n]) ∧ Below w.heap.size w w' → FitsPost w p.data.toList s.data.toList e w' := fun b n hb hn e w' h => by
    unfold FitsPost
    rw [hb, hn]
    exact h
  by_cases tp' : isText p.data.toList = false
  · have he := patErr_form (t := s.data.toList) (.inl tp')
    have HQ := Lib.hid (hq _ _ (fitsOf_bad (by omega)) he)
    rw [tp'] at c1
    clear hq he tp' c2 c3 c4
    go_enter Tryd.func10, Tryd.ntmps10
    go_wp2_with fail
    refine (c1 _ hT).out.mono ?_
    rintro e w1 ⟨rfl, hb1⟩
    go_wp2
    go_ret2
    exact HQ.out _ _ ⟨rfl, hb1⟩
  have tp : isText p.data.toList = true := by simpa using tp'
  by_cases ts' : isText s.data.toList = false
  · have he := patErr_form (p := p.data.toList) (.inr ts')
    have HQ := Lib.hid (hq _ _ (fitsOf_bad (by omega)) he)
    rw [tp] at c1
    rw [ts'] at c2
    clear hq he tp tp' ts' c3 c4
    go_enter Tryd.func10, Tryd.ntmps10
    go_wp2_with fail
    refine (c1 _ hT).out.mono ?_
    rintro e w1 ⟨rfl, hb1⟩
    have hT1 := hT.below hb1
    go_wp2_with fail
    refine (c2 _ hT1).out.mono ?_
    rintro e w2 ⟨rfl, hb2⟩
    go_wp2
    go_ret2
    exact HQ.out _ _ ⟨rfl, step hb1 hb2⟩
  have ts : isText s.data.toList = true := by simpa using ts'
  rw [tp] at c1
  rw [ts] at c2
  clear tp' ts'
  by_cases lp : 64 < (letters p.data.toList).length
  · have he := patErr_limit tp ts (.inl lp)
    have HQ := Lib.hid (hq _ _ (fitsOf_bad (by omega)) he)
    rw [decide_eq_true (show (64 : Int) < ((letters p.data.toList).length : Int) by omega)] at c3
    clear hq he tp ts lp c4
    go_enter Tryd.func10, Tryd.ntmps10
    go_wp2_with fail
    refine (c1 _ hT).out.mono ?_
    rintro e w1 ⟨rfl, hb1⟩
    have hT1 := hT.below hb1
    go_wp2_with fail
    refine (c2 _ hT1).out.mono ?_
    rintro e w2 ⟨rfl, hb2⟩
    go_wp2_with fail
    refine (c3 _).out.mono ?_
    rintro e w3 ⟨rfl, hb3⟩
    go_wp2
    go_ret2
    exact HQ.out _ _ ⟨rfl, step (step hb1 hb2) hb3⟩
  rw [decide_eq_false (show ¬ (64 : Int) < ((letters p.data.toList).length : Int) by omega)] at c3
  by_cases ls : 256 < (letters s.data.toList).length
  · have he := patErr_limit tp ts (.inr ls)
    have HQ := Lib.hid (hq _ _ (fitsOf_bad (by omega)) he)
    rw [decide_eq_true (show (256 : Int) < ((letters s.data.toList).length : Int) by omega)] at c4
    clear hq he tp ts lp ls
    go_enter Tryd.func10, Tryd.ntmps10
    go_wp2_with fail
    refine (c1 _ hT).out.mono ?_
    rintro e w1 ⟨rfl, hb1⟩
    have hT1 := hT.below hb1
    go_wp2_with fail
    refine (c2 _ hT1).out.mono ?_
    rintro e w2 ⟨rfl, hb2⟩
    go_wp2_with fail
    refine (c3 _).out.mono ?_
    rintro e w3 ⟨rfl, hb3⟩
    go_wp2_with fail
    refine (c4 _).out.mono ?_
    rintro e w4 ⟨rfl, hb4⟩
    go_wp2
    go_ret2
    exact HQ.out _ _ ⟨rfl, step (step (step hb1 hb2) hb3) hb4⟩
  rw [decide_eq_false (show ¬ (256 : Int) < ((letters s.data.toList).length : Int) by omega)] at c4
  have he : patErr p.data.toList s.data.toList = 0 := patErr_ok.2 ⟨tp, ts, by omega, by omega⟩
  have c5 := fun w hT => Fold_any p w hp hT
  have c6 := fun w hT => Fold_any s w hs hT
  unfold FoldPost at c5 c6
  have xp : isText (⟨(foldB p.data.toList).toArray⟩ : ByteArray).data.toList = true := (isText_fold _).trans tp
  have xs : isText (⟨(foldB s.data.toList).toArray⟩ : ByteArray).data.toList = true := (isText_fold _).trans ts
  have np : (⟨(foldB p.data.toList).toArray⟩ : ByteArray).size ≤ 70368744177664 := by rw [txt_size, foldB_length, ← Lib.size_eq]; omega
  have ns : (⟨(foldB s.data.toList).toArray⟩ : ByteArray).size ≤ 70368744177664 := by rw [txt_size, foldB_length, ← Lib.size_eq]; omega
  have ep : letters (⟨(foldB p.data.toList).toArray⟩ : ByteArray).data.toList = foldedOf p.data.toList := (foldedOf_eq _).symm
  have es : letters (⟨(foldB s.data.toList).toArray⟩ : ByteArray).data.toList = foldedOf s.data.toList := (foldedOf_eq _).symm
  have lp' : (foldedOf p.data.toList).length ≤ 1000 := by rw [foldedOf_length]; omega
  have ls' : (foldedOf s.data.toList).length ≤ 1000 := by rw [foldedOf_length]; omega
  have hf : fitsOf p.data.toList s.data.toList = fitAt (foldedOf p.data.toList) (foldedOf p.data.toList).length (foldedOf s.data.toList) := if_pos he
  have HQ := Lib.hid (hq _ _ hf he)
  have c7 := fun w q t b b' h h' => Lib.hid (fits_any w q t (foldedOf p.data.toList) (foldedOf s.data.toList) b b' h h' lp' ls')
  obtain ⟨X, hX⟩ : ∃ X : ByteArray, X = ⟨(foldB p.data.toList).toArray⟩ := ⟨_, rfl⟩
  obtain ⟨Y, hY⟩ : ∃ Y : ByteArray, Y = ⟨(foldB s.data.toList).toArray⟩ := ⟨_, rfl⟩
  obtain ⟨lP, hlP⟩ : ∃ l, l = foldedOf p.data.toList := ⟨_, rfl⟩
  obtain ⟨lS, hlS⟩ : ∃ l, l = foldedOf s.data.toList := ⟨_, rfl⟩
  rw [← hlP, ← hlS] at HQ c7
  rw [← hX] at c5 xp np ep
  rw [← hY] at c6 xs ns es
  rw [← hlP] at ep
  rw [← hlS] at es
  have C5 := Lib.hid c5
  have C6 := Lib.hid c6
  have C7 := Lib.hid c7
  have XP := Lib.hid xp
  have XS := Lib.hid xs
  have EP := Lib.hid ep
  have ES := Lib.hid es
  clear c5 c6 c7 xp xs ep es hX hY hlP hlS hq he tp ts lp ls lp' ls' hf
  go_enter Tryd.func10, Tryd.ntmps10
  go_wp2_with fail
  refine (c1 _ hT).out.mono ?_
  rintro e w1 ⟨rfl, hb1⟩
  have hT1 := hT.below hb1
  go_wp2_with fail
  refine (c2 _ hT1).out.mono ?_
  rintro e w2 ⟨rfl, hb2⟩
  have hT2 := hT1.below hb2
  go_wp2_with fail
  refine (c3 _).out.mono ?_
  rintro e w3 ⟨rfl, hb3⟩
  have hT3 := hT2.below hb3
  go_wp2_with fail
  refine (c4 _).out.mono ?_
  rintro e w4 ⟨rfl, hb4⟩
  have hT4 := hT3.below hb4
  have hB4 := step (step (step hb1 hb2) hb3) hb4
  clear c1 c2 c3 c4 hb1 hb2 hb3 hb4 hT1 hT2 hT3
  go_wp2_with fail
  refine (C5.out _ hT4).mono ?_
  rintro e w5 ⟨rfl, hb5⟩
  have hT5 := hT4.below hb5
  go_wp2_with (first
    | ((with_reducible show wpList _ _ _ (⟨some 20, _, _, _, _, _⟩ :: _) _ _); refine wpList_runes rfl (.tmp 19) rfl X rfl XP.out np ?_; intro v6 w6 ho6 hb6; have hT6 := hT5.below hb6.out)
    | fail)
  rw [EP.out] at ho6
  refine (C6.out _ hT6).mono ?_
  rintro e w7 ⟨rfl, hb7⟩
  have ho7 := Lib.hid (ho6.below hb7)
  clear ho6
  go_wp2_with (first
    | ((with_reducible show wpList _ _ _ (⟨some 23, _, _, _, _, _⟩ :: _) _ _); refine wpList_runes rfl (.tmp 22) rfl Y rfl XS.out ns ?_; intro v8 w8 ho8 hb8)
    | fail)
  rw [ES.out] at ho8
  refine (C7.out _ _ _ _ _ (ho7.out.below hb8.out) ho8).out.mono ?_
  rintro e w9 ⟨rfl, hb9⟩
  have hBB := step (step (step (step (step hB4 hb5) hb6.out) hb7) hb8.out) hb9
  clear ho7 ho8 hb5 hb6 hb7 hb8 hb9 hB4
  go_wp2
  go_ret2
  exact HQ.out _ _ ⟨rfl, hBB⟩
end Go.Proofs.YtfligggojiboeaaDoor
