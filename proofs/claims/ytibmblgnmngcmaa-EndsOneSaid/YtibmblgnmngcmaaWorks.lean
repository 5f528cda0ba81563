/-
  The statements' own 'works' of layer 1: it answers true.
-/
import Derived.Test.YtibmblgnmngcmaaEnds2
import Derived.Test.YtibmblgnmngcmaaEnds4
import Derived.Test.YtibmblgnmngcmaaSame
namespace Go.Proofs.Ytibmblgnmngcmaa
open Go.RowKit

set_option maxHeartbeats 400000 in
theorem works_any (w : World) : Calls Try.prog 14 #[] w fun e w' => e = .returned (.bool true) ∧ Below w.heap.size w w' := by
  have c1 := Put_any w 258 2 (by omega) (by omega)
  have ep : putOf 258 2 = [2, 1] := by decide
  have ee : putErr 258 2 = 0 := by decide
  unfold PutPost at c1
  rw [ep, ee] at c1
  have C1 := Lib.hid c1
  have c2 := fun (W : World) => Get_any (W.alloc (.cells #[.int .u8 2, .int .u8 1, .int .u8 5] 5)) _ _ _ _ _ 0 2 (Holds.lit W [2, 1, 5] _ W.heap.size 3 rfl rfl rfl (Bytes.of_all rfl) (by decide)) (by omega) (by omega)
  have eg : getOf [2, 1, 5] 0 2 = 258 := by decide
  have eh : getErr 3 0 2 = 0 := by decide
  rw [eg, eh] at c2
  have C2 := Lib.hid c2
  clear c1 ep ee c2 eg eh
  go_enter Try.func14, Try.ntmps14
  go_wp2_with fail
  refine C1.out.mono ?_
  rintro e w1 ⟨A', rfl, hf, hb1⟩
  go_wp2_with fail
  refine (C2.out _).mono ?_
  rintro e w2 ⟨rfl, rfl⟩
  have h1 := hf.holds (n := 2) rfl (Bytes.of_all rfl) (by decide)
  have hb3 : Below w1.heap.size w1 ((w1.alloc (.cells #[.int .u8 2, .int .u8 1, .int .u8 5] 5)).alloc (.cells #[.int .u8 2, .int .u8 1] 5)) := ((Below.refl _ _).alloc (Nat.le_refl _) _).alloc (by simp) _
  have h2 := Holds.lit (w1.alloc (.cells #[.int .u8 2, .int .u8 1, .int .u8 5] 5)) [2, 1] #[.int .u8 2, .int .u8 1] (w1.heap.size + 1) 2 rfl (by simp) rfl (Bytes.of_all rfl) (by decide)
  have c3 := Same_any _ _ _ _ _ _ _ _ _ _ _ (h1.below hb3) h2
  have C3 := Lib.hid c3
  clear c3
  go_wp2_with fail
  refine C3.out.mono ?_
  rintro e w3 ⟨rfl, k, rfl⟩
  go_wp2
  go_ret
  exact ⟨rfl, below_drewN (hb1.trans (hb3.mono hb1.size)) _⟩
end Go.Proofs.Ytibmblgnmngcmaa
