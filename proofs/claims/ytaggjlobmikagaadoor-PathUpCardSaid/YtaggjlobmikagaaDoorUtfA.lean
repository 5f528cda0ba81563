/-
  Contracts of the program's layer 2 (utf): halfOf, appendUnit.
-/
import Derived.Test.YtaggjlobmikagaaDoorUtf
import Derived.Test.YtaggjlobmikagaaDoorNums
import Derived.Test.YtaggjlobmikagaaDoorShelf
import Derived.WalkKit
import Derived.WalkSpells
import Derived.WalkLawsBesides
import Derived.Deep.QuietTactic
import Derived.BigQuiet
import Derived.Laws.Bits64
import Derived.Laws.BitsAllLaws
namespace Go.Proofs.YtaggjlobmikagaaDoor
open Go.RowKit

theorem info_i32 : (Tryd.prog.info? 21).map (fun i => (i.zero, i.size, i.bytes)) = some (some (.int .i32 0), 1, 4) := by kernel_rfl
theorem info_i64 : (Tryd.prog.info? 3).map (fun i => (i.zero, i.size, i.bytes)) = some (some (.int .i64 0), 1, 8) := by kernel_rfl

theorem and_low_i32 (x : Int) (h0 : 0 ≤ x) (h1 : x ≤ 2147483647) : bits .and .i32 x 1023 = x % 1024 := by
  obtain ⟨n, rfl⟩ := Int.eq_ofNat_of_zero_le h0
  have e1 : (BitVec.ofInt 32 (1023 : Int)).toNat = 2 ^ 10 - 1 := by decide
  have e2 : (BitVec.ofInt 32 (n : Int)).toNat = n := by
    rw [BitVec.toNat_ofInt]
    omega
  show IntKind.i32.wrap ((BitVec.ofInt 32 (n : Int) &&& BitVec.ofInt 32 1023).toNat : Int) = _
  rw [BitVec.toNat_and, e1, e2, Nat.and_two_pow_sub_one_eq_mod]
  simp [IntKind.wrap, IntKind.bits, IntKind.signed]
  omega
theorem and_low_u64 (x : Int) (h0 : 0 ≤ x) (h1 : x ≤ 18446744073709551615) : bits .and .u64 x 1023 = x % 1024 := by
  obtain ⟨n, rfl⟩ := Int.eq_ofNat_of_zero_le h0
  have h := u64_and_nat n 1023 (by omega) (by omega)
  have h2 : n &&& 1023 = n % 1024 := Nat.and_two_pow_sub_one_eq_mod n 10
  rw [h2] at h
  exact h
theorem or_halves_u64 (x y : Int) (h0 : 0 ≤ x) (h1 : x < 1024) (h2 : 0 ≤ y) (h3 : y < 1024) : bits .or .u64 (x * 1024) y = x * 1024 + y := by
  obtain ⟨a, rfl⟩ := Int.eq_ofNat_of_zero_le h0
  obtain ⟨b, rfl⟩ := Int.eq_ofNat_of_zero_le h2
  have := u64_or_nat (a * 1024) b (by omega) (by omega)
  rw [nat_join 10 (a * 1024) b (by omega) (by omega)] at this
  rw [show ((a : Int) * 1024) = ((a * 1024 : Nat) : Int) by omega, this]
  omega

end Go.Proofs.YtaggjlobmikagaaDoor
