/-
  The walk of the statement ShaSums: the sum of whatever bytes is the document's.
-/
import Derived.Test.YtpeanhnbkoacoaaDoorWorksS
import Derived.Test.YtpeanhnbkoacoaaDoorRefS5
import Derived.Test.YtpeanhnbkoacoaaDoorHeld
import Derived.Test.YtpeanhnbkoacoaaDoorOpen
namespace Go.Proofs.YtpeanhnbkoacoaaDoor
open Go.RowKit
set_option linter.unusedVariables false

set_option maxHeartbeats 2000000 in
theorem walk_ShaSums (W : World) (hT : KTab W) (A0 : Option Addr) (n0 c0 : Nat) (z0 : List Int) (l0 : n0 ≤ c0) (r0 : c0 ≤ 140737488351232) (h0 : Holds W W.heap.size A0 c0 c0 z0) :
    Calls Tryd.prog 5 #[.slice A0 n0 c0] W fun e W' => e = .returned (.bool true) ∧ Below W.heap.size W W' := by
  have h := h0.head l0
  obtain ⟨xs, hxs⟩ : ∃ xs, xs = z0.take n0 := ⟨_, rfl⟩
  rw [← hxs] at h
  have c1 := fun w h hK => Lib.hid (Sum_any w A0 n0 c0 xs (by omega) h hK)
  have c2 := fun w h => Lib.hid (RSum_any w A0 n0 c0 xs (by omega) h)
  have cw := fun w hK => Lib.hid (works_any w hK)
  have q1 := fun w => run_equalIn_arr (P := Tryd.prog) Tryd.underlying34 Tryd.underlying5 one_u8 (sumOf xs) (outOf_len _) 9998 w
  have qg : Tryd.prog.eqGuardType Tryd.prog.depth 34 = false := by kernel_rfl
  obtain ⟨p, hp⟩ : ∃ p, p = sumOf xs := ⟨_, rfl⟩
  rw [← hp] at c1 c2 q1
  have HT := Lib.hid hT
  clear hxs h0 hp hT
  go_enter Tryd.func5, Tryd.ntmps5
  go_wp2_with fail
  refine (c1 _ h HT.out).out.mono ?_
  rintro e w1 ⟨rfl, b1⟩
  go_wp2_with fail
  refine (c2 _ (h.over b1)).out.mono ?_
  rintro e w2 ⟨rfl, b2⟩
  have B2 : Hid (Below W.heap.size W w2) := step b1 b2
  go_wp2_with fail
  refine (cw _ (HT.out.below B2.out)).out.mono ?_
  rintro e w3 ⟨rfl, b3⟩
  go_wp2_with fail
  go_ret
  exact ⟨rfl, step B2.out b3⟩
end Go.Proofs.YtpeanhnbkoacoaaDoor
