/-
  The walk of the statement EndsParts: parts, padded bytes, whether bytes are 0, are the document's.
-/
import Derived.Test.YtibmblgnmngcmaaWorks
import Derived.Test.YtibmblgnmngcmaaRef2
import Derived.Test.YtibmblgnmngcmaaEnds3
import Derived.Test.YtibmblgnmngcmaaOpen
namespace Go.Proofs.Ytibmblgnmngcmaa
open Go.RowKit
set_option linter.unusedVariables false

theorem partOf_bytes {xs : List Int} (h : Bytes xs) (a m : Int) : Bytes (partOf xs a m) := by
  unfold partOf
  split
  · exact (h.drop _).take _
  · exact Bytes.nil
theorem partOf_length (xs : List Int) (a m : Int) : (partOf xs a m).length ≤ xs.length := by
  unfold partOf
  split
  · simp; omega
  · simp
theorem padOf_bytes {xs : List Int} (h : Bytes xs) : Bytes (padOf xs) := h.append (Bytes.zeros _)
theorem padOf_length (xs : List Int) : (padOf xs).length = padLen xs.length := by
  unfold padOf padLen
  simp
  omega

set_option maxHeartbeats 1000000 in
theorem walk_EndsParts (W : World) (A0 : Option Addr) (n0 c0 : Nat) (z0 : List Int) (l0 : n0 ≤ c0) (r0 : c0 ≤ 140737488351232) (h0 : Holds W W.heap.size A0 c0 c0 z0)
    (a1 : Int) (w1 : -9223372036854775808 ≤ a1 ∧ a1 ≤ 9223372036854775807) (a2 : Int) (w2 : -9223372036854775808 ≤ a2 ∧ a2 ≤ 9223372036854775807) :
    Calls Try.prog 5 #[.slice A0 n0 c0, .int .i64 a1, .int .i64 a2] W fun e W' => e = .returned (.bool true) ∧ Below W.heap.size W W' := by
  have h := h0.head l0
  obtain ⟨xs, hxs⟩ : ∃ xs, xs = z0.take n0 := ⟨_, rfl⟩
  rw [← hxs] at h
  clear hxs h0
  have hl := Lib.hid h.len
  have hpb := partOf_bytes h.byte a1 a2
  have hpl : (partOf xs a1 a2).length ≤ 140737488351232 := by have := partOf_length xs a1 a2; have := hl.out; omega
  have hqb := padOf_bytes h.byte
  have hql : (padOf xs).length ≤ 140737488355328 := by rw [padOf_length, hl.out]; unfold padLen; omega
  have hqe := Lib.hid (padOf_length xs)
  have c1 := Lib.hid (Part_any W A0 n0 c0 xs a1 a2 h w1 w2)
  have c2 := fun w h => Lib.hid (RPart_any w A0 n0 c0 xs a1 a2 h (by omega) w1 w2)
  have c3 := fun w h => Lib.hid (Pad_any w A0 n0 c0 xs h (by omega))
  have c4 := fun w h => Lib.hid (RPad_any w A0 n0 c0 xs h (by omega))
  have c5 := fun w B h => Lib.hid (Zero_any w B A0 n0 c0 xs a1 a2 h w1 w2)
  have c6 := fun w h => Lib.hid (RZero_any w A0 n0 c0 xs a1 a2 h (by omega) w1 w2)
  have c7 := fun w => Lib.hid (works_any w)
  have c8 := fun w B B' A A' n c n' c' xs ys h h' => Lib.hid (Same_any w B B' A A' n c n' c' xs ys h h')
  clear r0 l0 w1 w2
  go_enter Try.func5, Try.ntmps5
  go_wp2_with fail
  refine c1.out.mono ?_
  rintro e w1 ⟨A1, rfl, f1, hb1⟩
  have h1 := f1.holds rfl hpb (by omega)
  have g1 := h.over hb1
  go_wp2_with fail
  refine (c2 _ g1).out.mono ?_
  rintro e w2 ⟨v2, rfl, o2, hb2⟩
  obtain ⟨A2, k2, rfl, h2⟩ := o2.holds hpb (by omega)
  have g2 := g1.over hb2
  go_wp2_with fail
  refine (c8 _ _ _ _ _ _ _ _ _ _ _ (h1.over hb2) h2).out.mono ?_
  rintro e w3 ⟨rfl, j3, rfl⟩
  have g3 := g2.drewN j3
  go_wp2_with fail
  refine (c3 _ g3).out.mono ?_
  rintro e w4 ⟨A4, rfl, f4, hb4⟩
  have h4 := f4.holds (n := padLen xs.length) hqe.out hqb (by have := hqe.out; omega)
  have g4 := g3.over hb4
  go_wp2_with fail
  refine (c4 _ g4).out.mono ?_
  rintro e w5 ⟨v5, rfl, o5, hb5⟩
  obtain ⟨A5, k5, rfl, h5⟩ := o5.holds hqb (by omega)
  have g5 := g4.over hb5
  go_wp2_with fail
  refine (c8 _ _ _ _ _ _ _ _ _ _ _ (h4.over hb5) h5).out.mono ?_
  rintro e w6 ⟨rfl, j6, rfl⟩
  have g6 := g5.drewN j6
  go_wp2_with fail
  refine (c5 _ _ g6).out.mono ?_
  rintro e w' ⟨rfl, rfl⟩
  go_wp2_with fail
  refine (c6 _ g6).out.mono ?_
  rintro e w7 ⟨rfl, hb7⟩
  go_wp2_with fail
  refine (c7 _).out.mono ?_
  rintro e w8 ⟨rfl, hb8⟩
  go_wp2
  go_ret
  exact ⟨rfl, step (step (step (step (step (step (step (step hb1 hb2) (drewed _ j3)) hb4) hb5) (drewed _ j6)) hb7) hb8) (Below.refl _ _)⟩
end Go.Proofs.Ytibmblgnmngcmaa
