/-
  Contracts of the program's layer 1 (ends): sized, view.
-/
import Derived.Test.YthoddihoccpidaaWords
import Derived.Test.YthoddihoccpidaaRows
import Derived.WalkKit
import Derived.WalkSpells
import Derived.WalkLawsBesides
import Derived.Deep.QuietTactic
import Derived.BigQuiet
import Derived.Lib.Hide
import Derived.Laws.Bits64
import Derived.Laws.BitsAllLaws
namespace Go.Proofs.Ythoddihoccpidaa
open Go.RowKit

set_option maxHeartbeats 400000 in
theorem view_any (w : World) (B : Nat) (A : Option Addr) (n c : Nat) (xs : List Int) (a m : Int) (h : Holds w B A n c xs)
    (ha : -9223372036854775808 ≤ a ∧ a ≤ 9223372036854775807) (hm : -9223372036854775808 ≤ m ∧ m ≤ 9223372036854775807) :
    Calls Try.prog 48 #[.slice A n c, .int .i64 a, .int .i64 m] w fun e w' => ∃ A', e = .returned (.tuple #[.slice A' (partOf xs a m).length (partOf xs a m).length, .int .i64 (partErr n a m)]) ∧
      Holds w B A' (partOf xs a m).length (partOf xs a m).length (partOf xs a m) ∧ w = w' := by
  have hl := h.len
  have hf := h.fit
  have hr := h.room
  by_cases h1 : a < 0
  · have e1 : partErr n a m = 2 := by simp [partErr, h1]
    have e2 : partOf xs a m = [] := by unfold partOf; rw [hl, e1]; rfl
    rw [e1, e2]
    clear e1 e2 hl
    go_enter Try.func48, Try.ntmps48
    go_wp2
    go_ret2
    exact ⟨_, rfl, Holds.nil _ _, rfl⟩
  · by_cases h2 : (n : Int) < a
    · have e1 : partErr n a m = 2 := by simp [partErr, h2]
      have e2 : partOf xs a m = [] := by unfold partOf; rw [hl, e1]; rfl
      rw [e1, e2]
      clear e1 e2 hl
      go_enter Try.func48, Try.ntmps48
      go_wp2
      go_ret2
      exact ⟨_, rfl, Holds.nil _ _, rfl⟩
    · by_cases h3 : m < 0
      · have e1 : partErr n a m = 2 := by simp [partErr, h3]
        have e2 : partOf xs a m = [] := by unfold partOf; rw [hl, e1]; rfl
        rw [e1, e2]
        clear e1 e2 hl
        go_enter Try.func48, Try.ntmps48
        go_wp2
        go_ret2
        exact ⟨_, rfl, Holds.nil _ _, rfl⟩
      · by_cases h4 : (n : Int) - a < m
        · have e1 : partErr n a m = 4 := by unfold partErr; rw [if_neg (by omega), if_pos h4]
          have e2 : partOf xs a m = [] := by unfold partOf; rw [hl, e1]; rfl
          rw [e1, e2]
          clear e1 e2 hl
          go_enter Try.func48, Try.ntmps48
          go_wp2
          go_ret2
          exact ⟨_, rfl, Holds.nil _ _, rfl⟩
        · have e1 : partErr n a m = 0 := by unfold partErr; rw [if_neg (by omega), if_neg h4]
          have e2 : partOf xs a m = (xs.drop a.toNat).take m.toNat := by unfold partOf; rw [hl, e1]; rfl
          obtain ⟨k, rfl⟩ := Int.eq_ofNat_of_zero_le (show 0 ≤ a by omega)
          obtain ⟨j, rfl⟩ := Int.eq_ofNat_of_zero_le (show 0 ≤ m by omega)
          simp only [Int.toNat_natCast] at e2
          have e3 : ((xs.drop k).take j).length = j := by simp; omega
          by_cases hj : j = 0
          · subst hj
            rw [e1, e2, e3]
            clear e1 e2 e3 hl
            go_enter Try.func48, Try.ntmps48
            go_wp2
            go_ret2
            exact ⟨_, rfl, Holds.empty _ _ _ _ (fun _ => rfl), rfl⟩
          · have hc := h.cut (k := k) (m := j) (by omega) (by omega)
            rw [e1, e2, e3]
            clear e1 e2 e3 hl
            go_enter Try.func48, Try.ntmps48
            go_wp2
            go_ret2
            exact ⟨_, rfl, hc, rfl⟩

theorem putOk_at (n : Int) (s : Nat) (M : Int) (hs : sizeOk s = true) (hM : (256 : Int) ^ s = M) (h0 : 0 ≤ n) (hp : 0 < M) : (n / M == 0) = putOk n s := by
  unfold putOk
  rw [hs, Int.toNat_natCast, hM, Bool.true_and, Bool.eq_iff_iff]
  simp only [beq_iff_eq, decide_eq_true_eq]
  constructor
  · intro h
    have := Int.lt_mul_ediv_self_add (x := n) hp
    rw [h] at this
    omega
  · intro h
    exact Int.ediv_eq_zero_of_lt h0 h
theorem putOk_none {n s : Int} (h1 : ¬ s = 1) (h2 : ¬ s = 2) (h4 : ¬ s = 4) (h8 : ¬ s = 8) : putOk n s = false := by simp [putOk, sizeOk, h1, h2, h4, h8]

set_option maxHeartbeats 400000 in
theorem sized_any (w : World) (n s : Int) (hn : 0 ≤ n ∧ n ≤ 18446744073709551615) (hs : -9223372036854775808 ≤ s ∧ s ≤ 9223372036854775807) :
    Calls Try.prog 45 #[.int .u64 n, .int .i64 s] w fun e w' => e = .returned (.bool (putOk n s)) ∧ w = w' := by
  obtain ⟨hn0, hn1⟩ := hn
  by_cases h1 : s = 1
  · subst h1
    go_enter Try.func45, Try.ntmps45
    go_wp2
    go_ret
    exact ⟨ret_bool (putOk_at n 1 256 rfl rfl hn0 (by omega)), rfl⟩
  by_cases h2 : s = 2
  · subst h2
    go_enter Try.func45, Try.ntmps45
    go_wp2
    go_ret
    exact ⟨ret_bool (putOk_at n 2 65536 rfl rfl hn0 (by omega)), rfl⟩
  by_cases h4 : s = 4
  · subst h4
    go_enter Try.func45, Try.ntmps45
    go_wp2
    go_ret
    exact ⟨ret_bool (putOk_at n 4 4294967296 rfl rfl hn0 (by omega)), rfl⟩
  by_cases h8 : s = 8
  · subst h8
    go_enter Try.func45, Try.ntmps45
    go_wp2
    go_ret
    exact ⟨ret_bool (putOk_at n 8 18446744073709551616 rfl rfl hn0 (by omega)), rfl⟩
  · have e := putOk_none (n := n) h1 h2 h4 h8
    rw [e]
    clear e
    go_enter Try.func45, Try.ntmps45
    go_wp2
    go_ret
    exact ⟨rfl, rfl⟩
end Go.Proofs.Ythoddihoccpidaa
