/-
  Layer 14 (extent): the law ExtentPlays, walked.
-/
import Derived.Test.YtgbhnnobbciemaaExP
import Derived.Test.YtgbhnnobbciemaaExW
namespace Go.Proofs.Ytgbhnnobbciemaa
set_option maxRecDepth 100000
open Go.RowKit
set_option linter.unusedVariables false

set_option maxHeartbeats 2000000 in
theorem law_ExtentPlays (I : ExtI) (W : World) (A : Option Addr) (n c : Nat) (l : List ActV) (h : LAct W W.heap.size A n c l) (hn : n ≤ 140737488355328) :
    Calls Try.prog 3 #[.slice A n c] W fun e w' => e = .returned (.bool true) ∧ Below W.heap.size W w' := by
  have CP := Lib.hid (Played_any I W A n c l h hn)
  unfold PlayPost at CP
  clear h
  go_enter Try.func3, Try.ntmps3
  go_wp2_with fail
  refine CP.out.mono ?_
  rintro e w1 ⟨q, g, S, vB, vZ, rfl, t1, l1⟩
  have L1 := Lib.hid l1
  clear t1 l1 CP
  go_wp2_with fail
  refine (WorksX_any I w1).mono ?_
  rintro e w2 ⟨rfl, l2⟩
  have L2 := Lib.hid (L1.out.trans (l2.mono L1.out.size))
  clear l2
  go_wp2_with fail
  go_ret
  exact ⟨rfl, L2.out⟩
end Go.Proofs.Ytgbhnnobbciemaa
