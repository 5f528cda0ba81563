/-
  The walk of the statement FrameNil: of none all is refused, or nothing.
-/
import Derived.Test.YtjpcifmeimcikaaFrV
import Derived.Test.YtjpcifmeimcikaaOpen
namespace Go.Proofs.Ytjpcifmeimcikaa
set_option maxRecDepth 100000
open Go.RowKit
set_option linter.unusedVariables false

set_option maxHeartbeats 1000000 in
theorem walk_FrameNil (W : World) (A0 : Option Addr) (n0 c0 : Nat) (z0 : List Int) (l0 : n0 ≤ c0) (r0 : c0 ≤ 140737488351232) (h0 : Holds W W.heap.size A0 c0 c0 z0) (a1 : Bool) :
    Calls Try.prog 6 #[.slice A0 n0 c0, .bool a1] W fun e W' => e = .returned (.bool true) ∧ Below W.heap.size W W' := by
  clear h0
  cases a1
  · go_enter Try.func6, Try.ntmps6
    go_wp2_with fail
    refine (TakeF_none W _).mono ?_
    rintro e w1 ⟨rfl, rfl⟩
    go_wp2_with fail
    refine (WaitsF_none _).mono ?_
    rintro e w1 ⟨rfl, rfl⟩
    go_wp2_with fail
    refine (livesF_any _).mono ?_
    rintro e w2 ⟨rfl, b2⟩
    go_wp2
    go_ret
    exact ⟨rfl, b2⟩
  · go_enter Try.func6, Try.ntmps6
    go_wp2_with (first
      | ((with_reducible show wpList _ _ _ (⟨some 10, _, _, _, _, _⟩ :: _) _ _); refine wpList_box_blk rfl _ (.tmp 9) rfl [.bool false, .bool false, .slice none 0 0] rfl ?_; intro g w1 hg1 hg2 B1 L1)
      | fail)
    refine (TakeF_zero w1 g _ _ _ B1.out).mono ?_
    rintro e w2 ⟨rfl, rfl⟩
    go_wp2_with fail
    refine (WaitsF_zero _ g _ _ B1.out).mono ?_
    rintro e w2 ⟨rfl, rfl⟩
    go_wp2_with fail
    refine (livesF_any _).mono ?_
    rintro e w3 ⟨rfl, b3⟩
    go_wp2
    go_ret
    exact ⟨rfl, step L1.out b3⟩
end Go.Proofs.Ytjpcifmeimcikaa
