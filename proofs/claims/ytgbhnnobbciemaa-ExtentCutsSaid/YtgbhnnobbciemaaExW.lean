/-
  Layer 14 (extent): the file that the document tells ('works').
-/
import Derived.Test.YtgbhnnobbciemaaExK
import Derived.Test.YtgbhnnobbciemaaLitR
namespace Go.Proofs.Ytgbhnnobbciemaa
set_option maxRecDepth 100000
open Go.RowKit
set_option linter.unusedVariables false

set_option maxHeartbeats 4000000 in
theorem WorksX_any (I : ExtI) (w : World) : Calls Try.prog 12 #[] w fun e w' => e = .returned (.bool true) ∧ Below w.heap.size w w' := by
  have e1 : exWrE 2 2 = 0 := by decide
  have e2 : exWr (0 : Int) [] 2 [97, 98] = [0, 0, 97, 98] := by decide
  have e3 : exWr false [] 2 (List.replicate 2 true) = [false, false, true, true] := by decide
  have e4 : exRdE 4 0 9 = 0 := by decide
  have e5 : exRd [0, 0, 97, 98] 0 9 = [0, 0, 97, 98] := by decide
  have e6 : exRdE 4 4 1 = 22 := by decide
  go_enter Try.func12, Try.ntmps12
  go_wp2_with fail
  refine (I.new w).mono ?_
  rintro e w1 ⟨q, S, rfl, x1, l1⟩
  have X1 := Lib.hid x1
  have L1 := Lib.hid l1
  clear x1 l1
  go_wp2_with (first
    | ((with_reducible show wpList _ _ _ (⟨some 9, _, _, _, _, _⟩ :: _) _ _); refine wpList_constRow rfl rfl 2 _ rfl (.tmp 9) rfl (fun _ => rfl) [97, 98] rfl (Bytes.of_all rfl) (by omega) (by kernel_rfl) ?_; intro g1 w2 hg1 H1 b1)
    | fail)
  have hs := b1.out.size
  have ls := L1.out.size
  have X2 := Lib.hid (I.keep X1.out (Spare.of_over (fun _ => False) b1.out) fun _ _ h => h)
  have cw := I.write X2.out (a := 2) (by unfold I64; omega) H1.out (by decide) (fun _ x hx hS => by cases hx; have := (I.ge X1.out _ hS).2; simp only at this; omega) (by omega)
  rw [show ([97, 98] : List Int).length = 2 from rfl, e1, e2, e3] at cw
  have L2 := Lib.hid (L1.out.trans (b1.out.mono ls))
  have CW := Lib.hid cw
  clear cw H1 b1 hg1
  go_wp2_with fail
  refine CW.out.mono ?_
  rintro e w3 ⟨rfl, S3, x3, s3, n3⟩
  have X3 := Lib.hid x3
  have L3 := Lib.hid (L2.out.trans (s3.below (fun j hj => (I.ge X2.out j hj).1) (by omega)))
  clear x3 s3 n3 CW
  have c4 := I.read X3.out (a := 0) (k := 9) (by unfold I64; omega) (by unfold I64; omega)
  rw [show ([0, 0, 97, 98] : List Int).length = 4 from rfl, e4, e5] at c4
  have C4 := Lib.hid c4
  clear c4
  go_wp2_with fail
  refine C4.out.mono ?_
  rintro e w4 ⟨v, rfl, o4, _, l4⟩
  obtain ⟨Av, cv, rfl, y4⟩ := o4.holds (Bytes.of_all rfl) (by decide)
  have Y4 := Lib.hid y4
  have X4 := Lib.hid (I.keep X3.out (Spare.of_over (fun _ => False) l4) fun _ _ h => h)
  have L4 := Lib.hid (L3.out.trans (l4.mono L3.out.size))
  clear o4 y4 l4 C4
  have c5 := I.read X4.out (a := 4) (k := 1) (by unfold I64; omega) (by unfold I64; omega)
  rw [show ([0, 0, 97, 98] : List Int).length = 4 from rfl, e6] at c5
  have C5 := Lib.hid c5
  clear c5
  go_wp2_with fail
  refine C5.out.mono ?_
  rintro e w5 ⟨v, rfl, o5, _, l5⟩
  have X5 := Lib.hid (I.keep X4.out (Spare.of_over (fun _ => False) l5) fun _ _ h => h)
  have Y5 := Lib.hid (Y4.out.over l5)
  have L5 := Lib.hid (L4.out.trans (l5.mono L4.out.size))
  clear o5 l5 C5
  go_wp2_with fail
  have h6 := Holds.lit w5 [0, 0, 97, 98] #[.int .u8 0, .int .u8 0, .int .u8 97, .int .u8 98] _ 4 rfl rfl rfl (Bytes.of_all rfl) (by omega)
  have b6 : Below w5.heap.size w5 (w5.alloc (.cells #[.int .u8 0, .int .u8 0, .int .u8 97, .int .u8 98] 5)) := (Below.refl _ _).alloc (Nat.le_refl _) _
  obtain ⟨w6, hw6⟩ : ∃ x, x = w5.alloc (.cells #[.int .u8 0, .int .u8 0, .int .u8 97, .int .u8 98] 5) := ⟨_, rfl⟩
  rw [← hw6] at h6 b6 ⊢
  clear hw6
  have Y6 := Lib.hid (Y5.out.over b6)
  have X6 := Lib.hid (I.keep X5.out (Spare.of_over (fun _ => False) b6) fun _ _ h => h)
  have L6 := Lib.hid (L5.out.trans (b6.mono L5.out.size))
  have C6 := Lib.hid (Same_any w6 _ _ _ _ _ _ _ _ _ _ Y6.out h6)
  clear h6 b6
  refine C6.out.mono ?_
  rintro e w7 ⟨rfl, j, rfl⟩
  have X7 := Lib.hid (I.keep X6.out (Spare.of_over (fun _ => False) (drewed w6 j)) fun _ _ h => h)
  have c7 := I.size X7.out
  rw [show ([0, 0, 97, 98] : List Int).length = 4 from rfl] at c7
  have C7 := Lib.hid c7
  clear c7 C6
  go_wp2_with fail
  refine C7.out.mono ?_
  rintro e w8 ⟨rfl, k, rfl⟩
  go_wp2_with fail
  go_ret
  exact ⟨rfl, L6.out.trans ((drewed w6 (j + k)).mono L6.out.size)⟩
end Go.Proofs.Ytgbhnnobbciemaa
