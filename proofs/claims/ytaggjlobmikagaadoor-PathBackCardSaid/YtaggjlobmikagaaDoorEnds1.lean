/-
  Contracts of the program's layer 1 (ends): sized, view.
-/
import Derived.Test.YtaggjlobmikagaaDoorWords
import Derived.Test.YtaggjlobmikagaaDoorRows
import Derived.WalkKit
import Derived.WalkSpells
import Derived.WalkLawsBesides
import Derived.Deep.QuietTactic
import Derived.BigQuiet
import Derived.Lib.Hide
import Derived.Laws.Bits64
import Derived.Laws.BitsAllLaws
namespace Go.Proofs.YtaggjlobmikagaaDoor
open Go.RowKit

theorem putOk_at (n : Int) (s : Nat) (M : Int) (hs : sizeOk s = true) (hM : (256 : Int) ^ s = M) (h0 : 0 ≤ n) (hp : 0 < M) : (n / M == 0) = putOk n s := by
  unfold putOk
  rw [hs, Int.toNat_natCast, hM, Bool.true_and, Bool.eq_iff_iff]
  simp only [beq_iff_eq, decide_eq_true_eq]
  constructor
  · intro h
    have := Int.lt_mul_ediv_self_add (x := n) hp
    rw [h] at this
    omega
  · intro h
    exact Int.ediv_eq_zero_of_lt h0 h
theorem putOk_none {n s : Int} (h1 : ¬ s = 1) (h2 : ¬ s = 2) (h4 : ¬ s = 4) (h8 : ¬ s = 8) : putOk n s = false := by simp [putOk, sizeOk, h1, h2, h4, h8]

end Go.Proofs.YtaggjlobmikagaaDoor
