/-
  Plain facts on bits: a byte laid above what is there.
-/
import Derived.Test.YtgbhnnobbciemaaWords
import Derived.Laws.Bits64
import Derived.Laws.BitsAllLaws
namespace Go.Proofs.Ytgbhnnobbciemaa
open Go.RowKit

theorem pow_256 (k : Nat) : (2 : Nat) ^ (8 * k) = 256 ^ k := by rw [Nat.pow_mul]
theorem pow_256_int (k : Nat) : (2 : Int) ^ (8 * k) = ((256 ^ k : Nat) : Int) := by
  rw [← pow_256, Int.natCast_pow]; rfl

theorem or_step_nat (k z y : Nat) (hk : k < 8) (hz : z < 256 ^ k) (hy : y ≤ 255) : bits .or .u64 (z : Int) (IntKind.u64.wrap ((y : Int) * 2 ^ (8 * k))) = ((z + 256 ^ k * y : Nat) : Int) := by
  have hp : 256 ^ k * y + 256 ^ k ≤ 256 ^ (k + 1) := by
    rw [Nat.pow_succ, ← Nat.mul_succ]; exact Nat.mul_le_mul_left _ (by omega)
  have h8 : (256 : Nat) ^ (k + 1) ≤ 256 ^ 8 := Nat.pow_le_pow_right (by omega) (by omega)
  have e8 : (256 : Nat) ^ 8 = 18446744073709551616 := by decide
  have hw : IntKind.u64.wrap ((y : Int) * 2 ^ (8 * k)) = ((256 ^ k * y : Nat) : Int) := by
    rw [pow_256_int, IntKind.wrap_u64, ← Int.natCast_mul, Nat.mul_comm]
    omega
  rw [hw, u64_or_nat z (256 ^ k * y) (by omega) (by omega), Nat.or_comm, nat_join (8 * k) (256 ^ k * y) z (by rw [pow_256]; exact Nat.mul_mod_right _ _) (by rw [pow_256]; exact hz), Nat.add_comm]

theorem or_step (k : Nat) (z y : Int) (hk : k < 8) (hz0 : 0 ≤ z) (hz : z < 256 ^ k) (hy0 : 0 ≤ y) (hy : y ≤ 255) : bits .or .u64 z (IntKind.u64.wrap (y * 2 ^ (8 * k))) = z + 256 ^ k * y := by
  obtain ⟨a, rfl⟩ := Int.eq_ofNat_of_zero_le hz0
  obtain ⟨b, rfl⟩ := Int.eq_ofNat_of_zero_le hy0
  rw [or_step_nat k a b hk (by have : ((a : Int)) < ((256 ^ k : Nat) : Int) := by rw [Int.natCast_pow]; exact hz
                               omega) (by omega)]
  simp

/-- one byte more of a number -/
theorem num_step {ys : List Int} {k : Nat} {z y : Int} (hb : Bytes ys) (hk : k < ys.length) (h8 : k < 8) (hz : z = num (ys.take k)) (hy : y = ys.getD k 0) :
    bits .or .u64 z (IntKind.u64.wrap (y * 2 ^ (8 * k))) = num (ys.take (k + 1)) := by
  have h1 := num_bounds (ys.take k) (hb.take k)
  have h2 := hb.getD k
  have hl : (ys.take k).length = k := by simp; omega
  rw [hl, ← hz] at h1
  rw [← hy] at h2
  rw [or_step k z y h8 h1.1 h1.2 h2.1 h2.2, List.take_succ_eq_append_getElem hk, num_snoc, hl, ← hz]
  have e : y = ys[k] := by rw [hy]; simp [List.getD_eq_getElem?_getD, hk]
  rw [e]

/-- what lacks to the next multiple of 8, as the program reckons it -/
theorem pad_bits (n : Nat) (hn : n ≤ 281474976710656) : bits .and .i64 (-(n : Int)) 7 = ((padLen n - n : Nat) : Int) := by
  have e1 : (BitVec.ofInt 64 (7 : Int)).toNat = 7 := by decide
  have e2 : (BitVec.ofInt 64 (-(n : Int))).toNat = (18446744073709551616 - n) % 18446744073709551616 := by
    rw [BitVec.toNat_ofInt]
    omega
  show IntKind.i64.wrap ((BitVec.ofInt 64 (-(n : Int)) &&& BitVec.ofInt 64 7).toNat : Int) = _
  rw [BitVec.toNat_and, e1, e2, nat_mask3, IntKind.wrap_i64]
  unfold padLen
  omega
end Go.Proofs.Ytgbhnnobbciemaa
