/-
  The walk of the statement EndsPuts: a number's bytes are the document's.
-/
import Derived.Test.YtibmblgnmngcmaaWorks
import Derived.Test.YtibmblgnmngcmaaRef2
import Derived.Test.YtibmblgnmngcmaaOpen
namespace Go.Proofs.Ytibmblgnmngcmaa
open Go.RowKit
set_option linter.unusedVariables false

theorem putOf_bytes (n s : Int) : Bytes (putOf n s) := by
  unfold putOf
  split
  · exact le_bytes _ _
  · exact Bytes.nil
theorem putOf_length (n s : Int) : (putOf n s).length ≤ 8 := by
  unfold putOf
  split
  · rename_i h
    have hz : sizeOk s = true := by unfold putOk at h; simp at h; exact h.1
    rw [le_length]
    rcases sizeOk_cases hz with e | e | e | e <;> rw [e] <;> decide
  · simp

set_option maxHeartbeats 400000 in
theorem walk_EndsPuts (W : World) (a0 : Int) (w0 : 0 ≤ a0 ∧ a0 ≤ 18446744073709551615) (a1 : Int) (w1 : -9223372036854775808 ≤ a1 ∧ a1 ≤ 9223372036854775807) :
    Calls Try.prog 3 #[.int .u64 a0, .int .i64 a1] W fun e W' => e = .returned (.bool true) ∧ Below W.heap.size W W' := by
  have hby := putOf_bytes a0 a1
  have hln := putOf_length a0 a1
  have c1 := Lib.hid (Put_any W a0 a1 w0 w1)
  have c2 := fun w => Lib.hid (RPut_any w a0 a1 w0)
  have c3 := fun w => Lib.hid (works_any w)
  have c4 := fun w B B' A A' n c n' c' xs ys h h' => Lib.hid (Same_any w B B' A A' n c n' c' xs ys h h')
  go_enter Try.func3, Try.ntmps3
  go_wp2_with fail
  refine c1.out.mono ?_
  rintro e w1 ⟨A1, rfl, f1, hb1⟩
  have h1 := f1.holds rfl hby (by omega)
  go_wp2_with fail
  refine (c2 _).out.mono ?_
  rintro e w2 ⟨v2, rfl, o2, hb2⟩
  obtain ⟨A2, k2, rfl, h2⟩ := o2.holds hby (by omega)
  go_wp2_with fail
  refine (c4 _ _ _ _ _ _ _ _ _ _ _ (h1.over hb2) h2).out.mono ?_
  rintro e w3 ⟨rfl, j3, rfl⟩
  go_wp2_with fail
  refine (c3 _).out.mono ?_
  rintro e w4 ⟨rfl, hb4⟩
  go_wp2
  go_ret
  exact ⟨rfl, step (step (step hb1 hb2) (drewed _ j3)) hb4⟩
end Go.Proofs.Ytibmblgnmngcmaa
