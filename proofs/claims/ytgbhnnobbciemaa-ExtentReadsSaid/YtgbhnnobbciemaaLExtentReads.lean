/-
  Layer 14 (extent): the law ExtentReads over the program's own file (written by tools/gen_lext.py).
-/
import Derived.Test.YtgbhnnobbciemaaKExtentReads
import Derived.Test.YtgbhnnobbciemaaExZ
namespace Go.Proofs.Ytgbhnnobbciemaa
open Go.RowKit
theorem walk_ExtentReads (W : World) (A0 : Option Addr) (n0 c0 : Nat) (l0 : List ActV) (h0 : LAct W W.heap.size A0 n0 c0 l0) (r0 : n0 ≤ 140737488355328) (a1 : Int) (w1 : -9223372036854775808 ≤ a1 ∧ a1 ≤ 9223372036854775807) (a2 : Int) (w2 : -9223372036854775808 ≤ a2 ∧ a2 ≤ 9223372036854775807) :
    Calls Try.prog 4 #[.slice A0 n0 c0, .int .i64 a1, .int .i64 a2] W fun e w' => e = .returned (.bool true) ∧ Below W.heap.size W w' := law_ExtentReads theExt W A0 n0 c0 l0 h0 r0 a1 a2 w1 w2
end Go.Proofs.Ytgbhnnobbciemaa
