/-
  The walk of the statement EndsPad: what is padded.
-/
import Derived.Test.YtibmblgnmngcmaaLEndsParts
namespace Go.Proofs.Ytibmblgnmngcmaa
open Go.RowKit
set_option linter.unusedVariables false

theorem padOf_take (xs : List Int) : (padOf xs).take xs.length = xs := by unfold padOf; simp
theorem padOf_again {xs : List Int} (h : xs.length % 8 = 0) : padOf xs = xs := by
  unfold padOf padLen
  rw [show (xs.length + 7) / 8 * 8 - xs.length = 0 from by omega]
  simp
theorem zeroOf_pad (xs : List Int) : zeroOf (padOf xs) xs.length ((padLen xs.length : Int) - xs.length) = true := by
  have hl := padOf_length xs
  have hp : partErr (padOf xs).length xs.length ((padLen xs.length : Int) - xs.length) = 0 := by
    rw [hl]
    unfold partErr
    rw [if_neg (by unfold padLen; omega), if_neg (by omega)]
  unfold zeroOf partOf
  rw [hp, if_pos rfl]
  simp only [decide_true, Bool.true_and]
  rw [show ((xs.length : Int)).toNat = xs.length from rfl]
  unfold padOf
  rw [List.drop_left, List.all_eq_true]
  intro x hx
  have := List.mem_of_mem_take hx
  rw [List.eq_of_mem_replicate this]
  rfl

set_option maxHeartbeats 1000000 in
theorem walk_EndsPad (W : World) (A0 : Option Addr) (n0 c0 : Nat) (z0 : List Int) (l0 : n0 ≤ c0) (r0 : c0 ≤ 140737488351232) (h0 : Holds W W.heap.size A0 c0 c0 z0) :
    Calls Try.prog 8 #[.slice A0 n0 c0] W fun e W' => e = .returned (.bool true) ∧ Below W.heap.size W W' := by
  have h := h0.head l0
  obtain ⟨xs, hxs⟩ : ∃ xs, xs = z0.take n0 := ⟨_, rfl⟩
  rw [← hxs] at h
  clear hxs h0
  have hl := h.len
  have hqb := padOf_bytes h.byte
  have hqe := padOf_length xs
  have hz := zeroOf_pad xs
  have ht := padOf_take xs
  have hpl : padLen xs.length % 8 = 0 ∧ xs.length ≤ padLen xs.length ∧ padLen xs.length < xs.length + 8 := by unfold padLen; omega
  have hag := padOf_again (xs := padOf xs) (by rw [hqe]; exact hpl.1)
  have c1 := Pad_any W A0 n0 c0 xs h (by omega)
  unfold PadPost at c1
  obtain ⟨ys, hys⟩ : ∃ ys, ys = padOf xs := ⟨_, rfl⟩
  obtain ⟨m, hm⟩ : ∃ m, m = padLen xs.length := ⟨_, rfl⟩
  rw [← hm, hl] at hpl
  rw [← hys] at hqb hqe ht hag
  rw [← hm] at hqe
  rw [← hys, ← hm] at c1
  rw [← hys, ← hm, hl] at hz
  rw [hl] at ht
  have HC1 := Lib.hid c1
  have HQE := Lib.hid hqe
  have HZ := Lib.hid hz
  have HT := Lib.hid ht
  have HAG := Lib.hid hag
  have hpm : padLen m = m := by unfold padLen; omega
  have HPM := Lib.hid hpm
  obtain ⟨hm8, hm1, hm2⟩ := hpl
  have b1 : ((m : Int) % 8 == 0) = true := by rw [beq_iff_eq]; omega
  have hm3 : (m : Int) - (n0 : Int) < 8 := by omega
  have hm4 : (n0 : Int) ≤ (m : Int) := by omega
  clear hys hm c1 hqe hz ht hl hag hpm hm8
  have c3 := fun w A c h => Lib.hid (Pad_any w A m c ys h (by omega))
  have c5 := fun w B A n c xs a m h h1 h2 => Lib.hid (Zero_any w B A n c xs a m h h1 h2)
  have c7 := fun w => Lib.hid (works_any w)
  have c8 := fun w B B' A A' n c n' c' xs ys h h' => Lib.hid (Same_any w B B' A A' n c n' c' xs ys h h')
  go_enter Try.func8, Try.ntmps8
  go_wp2_with fail
  refine HC1.out.mono ?_
  rintro e w1 ⟨A1, rfl, f1, hb1⟩
  have h1 := f1.holds HQE.out hqb (by omega)
  have g1 := h.over hb1
  go_wp2_with fail
  have h1' := h1.head hm1
  rw [HT.out] at h1'
  refine (c8 _ _ _ _ _ _ _ _ _ _ _ h1' g1).out.mono ?_
  rintro e w2 ⟨rfl, j2, rfl⟩
  have h2 := h1.drewN j2
  go_wp2_with fail
  refine (c5 _ _ _ _ _ _ _ _ h2 (by omega) (by omega)).out.mono ?_
  rintro e w' ⟨rfl, rfl⟩
  rw [HZ.out]
  go_wp2_with fail
  refine (c3 _ _ _ h2).out.mono ?_
  rintro e w3 ⟨A3, rfl, f3, hb3⟩
  rw [HAG.out] at f3
  rw [HQE.out, HPM.out]
  have h3 := f3.holds HQE.out hqb (by omega)
  have h3' := h2.over hb3
  go_wp2_with fail
  refine (c8 _ _ _ _ _ _ _ _ _ _ _ h3 h3').out.mono ?_
  rintro e w4 ⟨rfl, j4, rfl⟩
  go_wp2_with fail
  refine (c7 _).out.mono ?_
  rintro e w5 ⟨rfl, hb5⟩
  go_wp2
  go_ret
  exact ⟨rfl, step (step (step (step hb1 (drewed _ j2)) hb3) (drewed _ j4)) hb5⟩
end Go.Proofs.Ytibmblgnmngcmaa
