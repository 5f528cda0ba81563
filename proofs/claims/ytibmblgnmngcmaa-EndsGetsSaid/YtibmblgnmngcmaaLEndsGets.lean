/-
  The walk of the statement EndsGets: the number at whatever place is the document's.
-/
import Derived.Test.YtibmblgnmngcmaaWorks
import Derived.Test.YtibmblgnmngcmaaRef1
import Derived.Test.YtibmblgnmngcmaaOpen
namespace Go.Proofs.Ytibmblgnmngcmaa
open Go.RowKit
set_option linter.unusedVariables false

set_option maxHeartbeats 400000 in
theorem walk_EndsGets (W : World) (A0 : Option Addr) (n0 c0 : Nat) (z0 : List Int) (l0 : n0 ≤ c0) (r0 : c0 ≤ 140737488351232) (h0 : Holds W W.heap.size A0 c0 c0 z0)
    (a1 : Int) (w1 : -9223372036854775808 ≤ a1 ∧ a1 ≤ 9223372036854775807) (a2 : Int) (w2 : -9223372036854775808 ≤ a2 ∧ a2 ≤ 9223372036854775807) :
    Calls Try.prog 4 #[.slice A0 n0 c0, .int .i64 a1, .int .i64 a2] W fun e W' => e = .returned (.bool true) ∧ Below W.heap.size W W' := by
  have h := h0.head l0
  obtain ⟨xs, hxs⟩ : ∃ xs, xs = z0.take n0 := ⟨_, rfl⟩
  rw [← hxs] at h
  clear hxs h0
  have c1 := Lib.hid (Get_any W _ A0 n0 c0 xs a1 a2 h w1 w2)
  have c2 := Lib.hid (RGet_any W _ A0 n0 c0 xs a1 a2 h w1 w2)
  have c3 := Lib.hid (works_any W)
  go_enter Try.func4, Try.ntmps4
  go_wp2_with fail
  refine c1.out.mono ?_
  rintro e w' ⟨rfl, rfl⟩
  go_wp2_with fail
  refine c2.out.mono ?_
  rintro e w' ⟨rfl, rfl⟩
  go_wp2_with fail
  refine c3.out.mono ?_
  rintro e w' ⟨rfl, hb⟩
  go_wp2
  go_ret
  exact ⟨rfl, hb⟩
end Go.Proofs.Ytibmblgnmngcmaa
