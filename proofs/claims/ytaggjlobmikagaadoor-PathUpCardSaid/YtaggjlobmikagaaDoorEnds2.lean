/-
  Contract of the program's layer 1 (ends): Get.
-/
import Derived.Test.YtaggjlobmikagaaDoorEnds1
import Derived.Test.YtaggjlobmikagaaDoorBits
namespace Go.Proofs.YtaggjlobmikagaaDoor
open Go.RowKit

theorem putOk_zero (s : Int) : putOk 0 s = sizeOk s := by
  unfold putOk
  cases h : sizeOk s with
  | false => rfl
  | true =>
    rcases sizeOk_cases h with rfl | rfl | rfl | rfl <;> rfl

end Go.Proofs.YtaggjlobmikagaaDoor
