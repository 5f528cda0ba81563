/-
  Layer 14 (extent): the law ExtentPlays over the program's own file (written by tools/gen_lext.py).
-/
import Derived.Test.YtgbhnnobbciemaaKExtentPlays
import Derived.Test.YtgbhnnobbciemaaExZ
namespace Go.Proofs.Ytgbhnnobbciemaa
open Go.RowKit
theorem walk_ExtentPlays (W : World) (A0 : Option Addr) (n0 c0 : Nat) (l0 : List ActV) (h0 : LAct W W.heap.size A0 n0 c0 l0) (r0 : n0 ≤ 140737488355328) :
    Calls Try.prog 3 #[.slice A0 n0 c0] W fun e w' => e = .returned (.bool true) ∧ Below W.heap.size W w' := law_ExtentPlays theExt W A0 n0 c0 l0 h0 r0
end Go.Proofs.Ytgbhnnobbciemaa
