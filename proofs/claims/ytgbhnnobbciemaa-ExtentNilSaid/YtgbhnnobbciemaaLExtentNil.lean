/-
  The walk of the statement ExtentNil: of no file, and of a zero one, all is refused, or nothing.
-/
import Derived.Test.YtgbhnnobbciemaaExZ
import Derived.Test.YtgbhnnobbciemaaExW
import Derived.Test.YtgbhnnobbciemaaOpen
namespace Go.Proofs.Ytgbhnnobbciemaa
set_option maxRecDepth 100000
open Go.RowKit
set_option linter.unusedVariables false

/-- a pointer to no file, or to a zero one -/
def NoFile (w : World) (p : Value) : Prop := Calls Try.prog 28 #[p] w fun e w' => e = .returned (.bool true) ∧ w = w'
theorem Read_no (w : World) (p : Value) (h : NoFile w p) (a k : Int) : Calls Try.prog 13 #[p, .int .i64 a, .int .i64 k] w fun e w' => e = .returned (.tuple #[.slice none 0 0, .int .i64 1]) ∧ w = w' := by
  unfold NoFile at h
  have H := Lib.hid h
  clear h
  go_enter Try.func13, Try.ntmps13
  go_wp2_with fail
  refine H.out.mono ?_
  rintro e w1 ⟨rfl, rfl⟩
  go_wp2_with fail
  go_ret2
  exact ⟨rfl, rfl⟩
theorem Write_no (w : World) (p : Value) (h : NoFile w p) (a : Int) (A : Option Addr) (n c : Nat) : Calls Try.prog 16 #[p, .int .i64 a, .slice A n c] w fun e w' => e = .returned (.int .i64 1) ∧ w = w' := by
  unfold NoFile at h
  have H := Lib.hid h
  clear h
  go_enter Try.func16, Try.ntmps16
  go_wp2_with fail
  refine H.out.mono ?_
  rintro e w1 ⟨rfl, rfl⟩
  go_wp2_with fail
  go_ret
  exact ⟨rfl, rfl⟩
theorem Cut_no (w : World) (p : Value) (h : NoFile w p) (s : Int) : Calls Try.prog 19 #[p, .int .i64 s] w fun e w' => e = .returned (.int .i64 1) ∧ w = w' := by
  unfold NoFile at h
  have H := Lib.hid h
  clear h
  go_enter Try.func19, Try.ntmps19
  go_wp2_with fail
  refine H.out.mono ?_
  rintro e w1 ⟨rfl, rfl⟩
  go_wp2_with fail
  go_ret
  exact ⟨rfl, rfl⟩
theorem Copy_no (w : World) (p : Value) (h : NoFile w p) : Calls Try.prog 20 #[p] w fun e w' => e = .returned (.pointer none) ∧ w = w' := by
  unfold NoFile at h
  have H := Lib.hid h
  clear h
  go_enter Try.func20, Try.ntmps20
  go_wp2_with fail
  refine H.out.mono ?_
  rintro e w1 ⟨rfl, rfl⟩
  go_wp2_with fail
  go_ret
  exact ⟨rfl, rfl⟩
theorem Size_nil (w : World) : Calls Try.prog 17 #[.pointer none] w fun e w' => e = .returned (.int .i64 0) ∧ w = w' := by
  go_enter Try.func17, Try.ntmps17
  go_wp2_with fail
  go_ret
  exact ⟨rfl, rfl⟩
theorem Extents_nil (w : World) : Calls Try.prog 18 #[.pointer none] w fun e w' => e = .returned (.slice none 0 0) ∧ w = w' := by
  go_enter Try.func18, Try.ntmps18
  go_wp2_with fail
  go_ret
  exact ⟨rfl, rfl⟩
theorem Extents_zero (w : World) (g : Nat) (h : w.cell? ⟨g, 2, none⟩ = some (.slice none 0 0)) : Calls Try.prog 18 #[.pointer (some ⟨g, 0, none⟩)] w fun e w' => (∃ q, e = .returned (.slice (some ⟨q, 0, none⟩) 0 0)) ∧ Below w.heap.size w w' := by
  have CA := Lib.hid (allCopied_any w none 0 0 [] ⟨HoldsS.nil _ _ _ _, fun x h => by cases h⟩ (Nat.zero_le _) fun x h => by cases h)
  go_enter Try.func18, Try.ntmps18
  go_wp2_with fail
  refine CA.out.mono ?_
  rintro e w' ⟨q, l', rfl, _, _, _, lw⟩
  have LW := Lib.hid lw
  clear lw CA
  go_wp2_with fail
  go_ret
  exact ⟨⟨q, rfl⟩, LW.out⟩

theorem built_zero : Try.prog.built 49 [] = some ([.bool false, .int .i64 0, .slice none 0 0] : List Value).toArray := by kernel_rfl
set_option maxHeartbeats 4000000 in
theorem walk_ExtentNil (W : World) (a0 : Int) (w0 : -9223372036854775808 ≤ a0 ∧ a0 ≤ 9223372036854775807) (a1 : Int) (w1 : -9223372036854775808 ≤ a1 ∧ a1 ≤ 9223372036854775807) (A2 : Option Addr) (n2 c2 : Nat) (z2 : List Int) (l2 : n2 ≤ c2) (r2 : c2 ≤ 140737488351232) (h2 : Holds W W.heap.size A2 c2 c2 z2) (a3 : Bool) :
    Calls Try.prog 10 #[.int .i64 a0, .int .i64 a1, .slice A2 n2 c2, .bool a3] W fun e W' => e = .returned (.bool true) ∧ Below W.heap.size W W' := by
  clear h2
  cases a3
  · have HN : Hid (∀ w, NoFile w (.pointer none)) := fun w => none_nil w
    go_enter Try.func10, Try.ntmps10
    go_wp2_with fail
    refine (Read_no _ _ (HN.out _) _ _).mono ?_
    rintro e w1 ⟨rfl, rfl⟩
    go_wp2_with fail
    refine (Write_no _ _ (HN.out _) _ _ _ _).mono ?_
    rintro e w1 ⟨rfl, rfl⟩
    go_wp2_with fail
    refine (Cut_no _ _ (HN.out _) _).mono ?_
    rintro e w1 ⟨rfl, rfl⟩
    go_wp2_with fail
    refine (Size_nil _).mono ?_
    rintro e w1 ⟨rfl, rfl⟩
    go_wp2_with fail
    refine (Extents_nil _).mono ?_
    rintro e w1 ⟨rfl, rfl⟩
    go_wp2_with fail
    refine (Copy_no _ _ (HN.out _)).mono ?_
    rintro e w1 ⟨rfl, rfl⟩
    go_wp2_with fail
    refine (WorksX_any theExt _).mono ?_
    rintro e w2 ⟨rfl, b2⟩
    have B2 := Lib.hid b2
    clear b2
    go_wp2_with fail
    go_ret
    exact ⟨rfl, B2.out⟩
  · go_enter Try.func10, Try.ntmps10
    go_wp2_with (first
      | ((with_reducible show wpList _ _ _ (⟨some 13, _, _, _, _, _⟩ :: _) _ _); refine wpList_build_none rfl _ rfl [.bool false, .int .i64 0, .slice none 0 0] built_zero ?_)
      | ((with_reducible show wpList _ _ _ (⟨some 14, _, _, _, _, _⟩ :: _) _ _); refine wpList_box_blk rfl _ (.tmp 13) rfl [.bool false, .int .i64 0, .slice none 0 0] rfl ?_; intro g v1 hg1 hg2 B1 L1)
      | fail)
    have HN : Hid (∀ w, v1.cell? ⟨g, 0, none⟩ = w.cell? ⟨g, 0, none⟩ → NoFile w (.pointer (some ⟨g, 0, none⟩))) := fun w h => none_zero w g (by rw [← h]; exact B1.out.cell 0)
    refine (Read_no _ _ (HN.out _ rfl) _ _).mono ?_
    rintro e w1 ⟨rfl, rfl⟩
    go_wp2_with fail
    refine (Write_no _ _ (HN.out _ rfl) _ _ _ _).mono ?_
    rintro e w1 ⟨rfl, rfl⟩
    go_wp2_with fail
    refine (Cut_no _ _ (HN.out _ rfl) _).mono ?_
    rintro e w1 ⟨rfl, rfl⟩
    go_wp2_with fail
    refine (size_any _ g 0 (B1.out.cell 1)).mono ?_
    rintro e w1 ⟨rfl, j, rfl⟩
    go_wp2_with fail
    refine (Extents_zero (v1.drewN j) g (B1.out.cell 2)).mono ?_
    rintro e w3 ⟨⟨q', rfl⟩, l3⟩
    have L3 := Lib.hid (L1.out.trans (((drewed v1 j).trans l3).mono L1.out.size))
    have K3 : Hid (v1.cell? ⟨g, 0, none⟩ = w3.cell? ⟨g, 0, none⟩) := (l3.cell (p := ⟨g, 0, none⟩) hg2).symm
    clear l3
    go_wp2_with fail
    refine (Copy_no _ _ (HN.out _ K3.out)).mono ?_
    rintro e w1 ⟨rfl, rfl⟩
    go_wp2_with fail
    refine (WorksX_any theExt _).mono ?_
    rintro e w4 ⟨rfl, b4⟩
    have B4 := Lib.hid (L3.out.trans (b4.mono L3.out.size))
    clear b4
    go_wp2_with fail
    go_ret
    exact ⟨rfl, B4.out⟩
end Go.Proofs.Ytgbhnnobbciemaa
