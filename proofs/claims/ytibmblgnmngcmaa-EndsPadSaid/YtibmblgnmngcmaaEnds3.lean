/-
  Contracts of the program's layer 1 (ends): Part, Pad, Zero.
-/
import Derived.Test.YtibmblgnmngcmaaEnds1
import Derived.Test.YtibmblgnmngcmaaRow
import Derived.Test.YtibmblgnmngcmaaBits
namespace Go.Proofs.Ytibmblgnmngcmaa
open Go.RowKit

/-- what Part answers -/
def PartPost (w : World) (xs : List Int) (a m : Int) (e : Ending) (w' : World) : Prop :=
  ∃ A', e = .returned (.tuple #[.slice A' (partOf xs a m).length (partOf xs a m).length, .int .i64 (partErr xs.length a m)]) ∧ Fresh w' w.heap.size A' (partOf xs a m) ∧ Below w.heap.size w w'

set_option maxHeartbeats 400000 in
theorem Part_any (w : World) (A : Option Addr) (n c : Nat) (xs : List Int) (a m : Int) (h : Holds w w.heap.size A n c xs)
    (ha : -9223372036854775808 ≤ a ∧ a ≤ 9223372036854775807) (hm : -9223372036854775808 ≤ m ∧ m ≤ 9223372036854775807) :
    Calls Try.prog 17 #[.slice A n c, .int .i64 a, .int .i64 m] w (PartPost w xs a m) := by
  have hl := Lib.hid h.len
  have c2 := view_any w _ A n c xs a m h ha hm
  have hq : ∀ e w', (∃ A', e = .returned (.tuple #[.slice A' (partOf xs a m).length (partOf xs a m).length, .int .i64 (partErr n a m)]) ∧ Fresh w' w.heap.size A' (partOf xs a m) ∧ Below w.heap.size w w') → PartPost w xs a m e w' := by
    intro e w' hh
    unfold PartPost
    rw [hl.out]
    exact hh
  have HQ := Lib.hid hq
  clear hq
  by_cases hp : partErr n a m = 0
  · rw [hp] at c2 HQ
    have e2 : (partOf xs a m).length = m.toNat ∧ 0 ≤ m := by
      have h1 := hl.out
      unfold partOf
      rw [h1, if_pos hp]
      unfold partErr at hp
      by_cases g1 : a < 0 ∨ (n : Int) < a ∨ m < 0
      · rw [if_pos g1] at hp; omega
      · by_cases g2 : (n : Int) - a < m
        · rw [if_neg g1, if_pos g2] at hp; omega
        · rw [List.length_take, List.length_drop, h1]; omega
    obtain ⟨j, rfl⟩ := Int.eq_ofNat_of_zero_le e2.2
    have e3 : (partOf xs a j).length = j := by rw [e2.1]; rfl
    obtain ⟨ys, hys⟩ : ∃ ys, ys = partOf xs a j := ⟨_, rfl⟩
    rw [← hys] at c2 HQ e3
    rw [e3] at c2 HQ
    have C2 := Lib.hid c2
    have HYS := Lib.hid hys
    clear c2 hp e2 e3 hys
    go_enter Try.func17, Try.ntmps17
    go_wp2_with fail
    refine C2.out.mono ?_
    rintro e w' ⟨A', rfl, hv, rfl⟩
    have hjr := hv.room
    go_wp2_with (first
      | (at_make; refine wpList_make_bytes _ rfl (.tmp 21) (.tmp 21) rfl _ _ j rfl rfl rfl rfl (by omega) ?_; intro w1 hrow hb1)
      | ((with_reducible show wpList _ _ _ (⟨some 25, _, _, _, _, _⟩ :: _) _ _); refine wpList_copy_bytes rfl (.tmp 23) (.tmp 24) rfl w.heap.size j j j j A' rfl rfl _ ys _ hrow (hv.below hb1) (Nat.le_refl _) (by simp) ?_; intro w2 hrow2 hb2))
    go_ret2
    refine HQ.out _ _ ⟨_, rfl, .inr ⟨_, rfl, Nat.le_refl _, ?_⟩, hb1.trans hb2⟩
    have := hrow2.out
    simpa using this
  · have e2 : partOf xs a m = [] := by unfold partOf; rw [hl.out, if_neg hp]
    rw [e2] at c2 HQ
    obtain ⟨er, her⟩ : ∃ er, er = partErr n a m := ⟨_, rfl⟩
    rw [← her] at c2 hp HQ
    have C2 := Lib.hid c2
    have hne : (er != 0) = true := by simpa using hp
    clear c2 hp e2 her
    go_enter Try.func17, Try.ntmps17
    go_wp2_with fail
    refine C2.out.mono ?_
    rintro e w' ⟨A', rfl, hv, rfl⟩
    go_wp2
    go_ret2
    exact HQ.out _ _ ⟨_, rfl, .inl ⟨rfl, rfl⟩, Below.refl _ _⟩

/-- what Pad answers -/
def PadPost (w : World) (xs : List Int) (e : Ending) (w' : World) : Prop :=
  ∃ A', e = .returned (.slice A' (padLen xs.length) (padLen xs.length)) ∧ Fresh w' w.heap.size A' (padOf xs) ∧ Below w.heap.size w w'

set_option maxHeartbeats 400000 in
theorem Pad_any (w : World) (A : Option Addr) (n c : Nat) (xs : List Int) (h : Holds w w.heap.size A n c xs) (hn : n ≤ 281474976710648) :
    Calls Try.prog 19 #[.slice A n c] w (PadPost w xs) := by
  have hl := Lib.hid h.len
  have hb := pad_bits n (by omega)
  obtain ⟨p, hp⟩ : ∃ p, p = padLen n - n := ⟨_, rfl⟩
  have hnp : n + p = padLen n := by unfold padLen at *; omega
  have hp7 : p ≤ 7 := by unfold padLen at *; omega
  rw [← hp] at hb
  have hq : ∀ e w', (∃ A', e = .returned (.slice A' (n + p) (n + p)) ∧ Fresh w' w.heap.size A' (xs ++ List.replicate p 0) ∧ Below w.heap.size w w') → PadPost w xs e w' := by
    intro e w' hh
    unfold PadPost padOf
    rw [hl.out, ← hnp, Nat.add_sub_cancel_left]
    exact hh
  have HQ := Lib.hid hq
  clear hq hp hnp
  go_enter Try.func19, Try.ntmps19
  go_wp2_with (first
    | (at_make; refine wpList_make_bytes _ rfl (.tmp 12) (.tmp 12) rfl _ _ (n + p) rfl rfl (by simp) (by simp) (by omega) ?_; intro w1 hrow hb1)
    | ((with_reducible show wpList _ _ _ (⟨some 16, _, _, _, _, _⟩ :: _) _ _); refine wpList_copy_bytes rfl (.tmp 14) (.tmp 15) rfl w.heap.size (n + p) (n + p) n c A rfl rfl _ xs _ hrow (h.below hb1) (by omega) (by simp) ?_; intro w2 hrow2 hb2))
  go_ret
  refine HQ.out _ _ ⟨_, rfl, .inr ⟨_, rfl, Nat.le_refl _, ?_⟩, hb1.trans hb2⟩
  have := hrow2.out
  simpa using this

set_option maxHeartbeats 400000 in
theorem Zero_any (w : World) (B : Nat) (A : Option Addr) (n c : Nat) (xs : List Int) (a m : Int) (h : Holds w B A n c xs)
    (ha : -9223372036854775808 ≤ a ∧ a ≤ 9223372036854775807) (hm : -9223372036854775808 ≤ m ∧ m ≤ 9223372036854775807) :
    Calls Try.prog 21 #[.slice A n c, .int .i64 a, .int .i64 m] w fun e w' => e = .returned (.bool (zeroOf xs a m)) ∧ w = w' := by
  have hl := Lib.hid h.len
  have c2 := view_any w B A n c xs a m h ha hm
  by_cases hp : partErr n a m = 0
  · have e0 : zeroOf xs a m = (partOf xs a m).all (· == 0) := by unfold zeroOf; rw [hl.out, hp]; simp
    rw [hp] at c2
    obtain ⟨ys, hys⟩ : ∃ ys, ys = partOf xs a m := ⟨_, rfl⟩
    rw [← hys] at c2 e0
    obtain ⟨j, hj⟩ : ∃ j, j = ys.length := ⟨_, rfl⟩
    rw [← hj] at c2
    obtain ⟨z, hz⟩ : ∃ z, z = zeroOf xs a m := ⟨_, rfl⟩
    rw [← hz] at e0 ⊢
    have C2 := Lib.hid c2
    have E0 := Lib.hid e0
    have HJ := Lib.hid hj
    clear c2 hp hys hj hz e0
    go_enter Try.func21, Try.ntmps21
    go_wp2_with fail
    refine C2.out.mono ?_
    rintro e w' ⟨A', rfl, hv, rfl⟩
    have hjr := hv.room
    go_wp2_with fail
    go_loop [10, 22] (fun _ k => ∃ k' : Nat, k' ≤ j ∧ k = .int .i64 k' ∧ Hid ((ys.take k').all (· == 0) = true)) (fun _ k => j - (intOf k).toNat)
    case atStart => exact ⟨0, Nat.zero_le _, rfl, rfl⟩
    case round =>
      obtain ⟨k, hk, rfl, HT⟩ := hrel
      by_cases hlt : k < j
      · obtain ⟨b, off, rfl, hb, hc⟩ := hv.cells (by omega)
        have gc := hc k hlt
        clear hc
        have hky : k < ys.length := by have := HJ.out; omega
        obtain ⟨y, hy⟩ : ∃ y, y = ys.getD k 0 := ⟨_, rfl⟩
        rw [← hy] at gc
        have ey : ys[k] = y := by rw [hy]; simp [List.getD_eq_getElem?_getD, hky]
        by_cases hy0 : y = 0
        · have hS : Hid ((ys.take (k + 1)).all (· == 0) = true) := by
            show _ = _
            rw [List.take_succ_eq_append_getElem hky, List.all_append, HT.out, ey, hy0]; rfl
          clear HT hky ey hy
          subst hy0
          go_wp2
          go_round
          case rel => exact ⟨k + 1, by omega, by go_num, hS⟩
          case measure => simp [intOf]; omega
        · have hS : Hid (z = false) := by
            show _ = _
            rw [E0.out, List.all_eq_false]
            exact ⟨ys[k], List.getElem_mem hky, by rw [ey]; simpa using hy0⟩
          clear HT hky ey hy
          have hne : (y != 0) = true := by simpa using hy0
          clear hy0
          go_wp2
          go_ret
          exact ⟨ret_bool hS.out.symm, rfl⟩
      · have hS : Hid (z = true) := by
          show _ = _
          rw [E0.out, ← HT.out, List.take_of_length_le (by have := HJ.out; omega)]
        clear HT
        go_wp2
        go_ret
        exact ⟨ret_bool hS.out.symm, rfl⟩
  · have e0 : zeroOf xs a m = false := by unfold zeroOf; rw [hl.out]; simp [hp]
    rw [e0]
    obtain ⟨er, her⟩ : ∃ er, er = partErr n a m := ⟨_, rfl⟩
    rw [← her] at c2 hp
    have C2 := Lib.hid c2
    have hne : (er != 0) = true := by simpa using hp
    clear c2 hp e0 her
    go_enter Try.func21, Try.ntmps21
    go_wp2_with fail
    refine C2.out.mono ?_
    rintro e w' ⟨A', rfl, hv, rfl⟩
    go_wp2
    go_ret
    exact ⟨rfl, rfl⟩
end Go.Proofs.Ytibmblgnmngcmaa
