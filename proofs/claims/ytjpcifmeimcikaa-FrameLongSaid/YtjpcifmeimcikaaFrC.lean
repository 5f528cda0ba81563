/-
  Layer 13 (frame): the program's count: how many bytes the first frame has.
-/
import Derived.Test.YtjpcifmeimcikaaFr1
import Derived.Test.YtjpcifmeimcikaaSame
namespace Go.Proofs.Ytjpcifmeimcikaa
set_option maxRecDepth 100000
open Go.RowKit
set_option linter.unusedVariables false

theorem i64_or_nat (a b : Nat) (ha : a < 9223372036854775808) (hb : b < 9223372036854775808) : bits .or .i64 (a : Int) (b : Int) = ((a ||| b : Nat) : Int) := by
  have hx : a ||| b < 2 ^ 63 := Nat.or_lt_two_pow (by omega) (by omega)
  show IntKind.i64.wrap ((BitVec.ofInt 64 (a : Int) ||| BitVec.ofInt 64 (b : Int)).toNat : Int) = _
  rw [BitVec.toNat_or, ofInt_u64 a (by omega), ofInt_u64 b (by omega), IntKind.wrap_i64]
  omega
/-- three bytes put together, the highest first -/
theorem or3_nat (a b c : Nat) (ha : a ≤ 255) (hb : b ≤ 255) (hc : c ≤ 255) :
    bits .or .i64 ((a : Int) * 65536) ((b : Int) * 256) = (a : Int) * 65536 + (b : Int) * 256 ∧ bits .or .i64 ((a : Int) * 65536 + (b : Int) * 256) (c : Int) = ((a * 65536 + b * 256 + c : Nat) : Int) := by
  constructor
  · rw [show (a : Int) * 65536 = ((a * 65536 : Nat) : Int) from by omega, show (b : Int) * 256 = ((b * 256 : Nat) : Int) from by omega, i64_or_nat _ _ (by omega) (by omega), nat_join 16 (a * 65536) (b * 256) (by omega) (by omega)]
    omega
  · rw [show (a : Int) * 65536 + (b : Int) * 256 = ((a * 65536 + b * 256 : Nat) : Int) from by omega, i64_or_nat _ _ (by omega) (by omega), nat_join 8 (a * 65536 + b * 256) c (by omega) (by omega)]

/-- how many bytes the first frame has, as far as that has come and may be -/
def cntN (r : List Int) : Nat := if frE r = 0 then (if 4 ≤ r.length then frN r else 0) else 0

set_option maxHeartbeats 1000000 in
theorem count_any (w : World) (A : Option Addr) (n c : Nat) (xs : List Int) (h : Holds w w.heap.size A n c xs) :
    Calls Try.prog 21 #[.slice A n c] w fun e w' => e = .returned (.tuple #[.int .i64 (cntN xs), .int .i64 (frE xs)]) ∧ ∃ k, w.drewN k = w' := by
  have hl := h.len
  have hr := h.room
  have hf := h.fit
  by_cases h0 : n = 0
  · subst h0
    obtain rfl : xs = [] := List.eq_nil_of_length_eq_zero hl
    have e1 : frE [] = 0 := rfl
    have e2 : cntN [] = 0 := rfl
    rw [e1, e2]
    clear e1 e2 hl h
    go_enter Try.func21, Try.ntmps21
    go_wp2
    go_ret2
    exact ⟨rfl, 0, rfl⟩
  · obtain ⟨b, off, rfl, hb, hc⟩ := h.cells (by omega)
    have hx0 := h.byte.getD 0
    have hx1 := h.byte.getD 1
    have hx2 := h.byte.getD 2
    have hx3 := h.byte.getD 3
    have hne : xs ≠ [] := fun e => by rw [e] at hl; simp at hl; omega
    have c0 := hc 0 (by omega)
    rw [Nat.add_zero] at c0
    by_cases h1 : xs.getD 0 0 = 0
    · rw [h1] at c0
      by_cases h4 : n < 4
      · have e1 : frE xs = 0 := by unfold frE; rw [if_neg hne, if_neg (fun h => h h1), if_pos (by omega)]
        have e2 : cntN xs = 0 := by unfold cntN; rw [if_pos e1, if_neg (by omega)]
        rw [e1, e2]
        clear e1 e2 hl h hc hx0 hx1 hx2 hx3 hne h1
        go_enter Try.func21, Try.ntmps21
        go_wp2
        go_ret2
        exact ⟨rfl, 0, rfl⟩
      · have e1 : frE xs = if frN xs = 0 then 5 else if 65536 < frN xs then 3 else 0 := by unfold frE; rw [if_neg hne, if_neg (fun h => h h1), if_neg (by omega)]
        have c1 := hc 1 (by omega)
        have c2 := hc 2 (by omega)
        have c3 := hc 3 (by omega)
        have e2 : frN xs = (xs.getD 1 0).toNat * 65536 + (xs.getD 2 0).toNat * 256 + (xs.getD 3 0).toNat := rfl
        have e3 : cntN xs = if frE xs = 0 then frN xs else 0 := by unfold cntN; rw [if_pos (show 4 ≤ xs.length by omega)]
        obtain ⟨x1, hy1⟩ := Int.eq_ofNat_of_zero_le hx1.1
        obtain ⟨x2, hy2⟩ := Int.eq_ofNat_of_zero_le hx2.1
        obtain ⟨x3, hy3⟩ := Int.eq_ofNat_of_zero_le hx3.1
        rw [hy1] at c1 hx1
        rw [hy2] at c2 hx2
        rw [hy3] at c3 hx3
        rw [hy1, hy2, hy3, Int.toNat_natCast, Int.toNat_natCast, Int.toNat_natCast] at e2
        obtain ⟨g1, g2⟩ := or3_nat x1 x2 x3 (by omega) (by omega) (by omega)
        rw [e3, e1]
        obtain ⟨m, hm⟩ : ∃ m, m = frN xs := ⟨_, rfl⟩
        rw [← hm] at e2 ⊢
        rw [← e2] at g2
        have hmax : m ≤ 16777215 := by omega
        clear e1 hl h hc hx0 hne h1 hm e2 e3 hy1 hy2 hy3
        obtain ⟨hx10, hx11⟩ := hx1
        obtain ⟨hx20, hx21⟩ := hx2
        obtain ⟨hx30, hx31⟩ := hx3
        by_cases hz : m = 0
        · subst hz
          rw [if_pos rfl, if_neg (by decide)]
          go_enter Try.func21, Try.ntmps21
          go_wp2
          go_quiet (fail)
          go_wp2
          go_ret2
          exact ⟨rfl, _, rfl⟩
        · have hz1 : ((m : Int) == 0) = false := by simpa using hz
          rw [if_neg hz]
          by_cases hbig : 65536 < m
          · rw [if_pos hbig, if_neg (by decide)]
            go_enter Try.func21, Try.ntmps21
            go_wp2
            go_quiet (fail)
            go_wp2
            go_ret2
            exact ⟨rfl, _, rfl⟩
          · rw [if_neg hbig, if_pos rfl]
            go_enter Try.func21, Try.ntmps21
            go_wp2
            go_quiet (fail)
            go_wp2
            go_ret2
            exact ⟨rfl, _, rfl⟩
    · have e1 : frE xs = 5 := by unfold frE; rw [if_neg hne, if_pos h1]
      have e2 : cntN xs = 0 := by unfold cntN; rw [if_neg (by rw [e1]; decide)]
      rw [e1, e2]
      obtain ⟨x0, hy0⟩ : ∃ x, x = xs.getD 0 0 := ⟨_, rfl⟩
      rw [← hy0] at c0 h1 hx0
      have hn0 : (x0 != 0) = true := by simpa using h1
      clear e1 e2 hl h hc hx1 hx2 hx3 hne hy0 h1
      go_enter Try.func21, Try.ntmps21
      go_wp2
      go_ret2
      exact ⟨rfl, 0, rfl⟩
end Go.Proofs.Ytjpcifmeimcikaa
