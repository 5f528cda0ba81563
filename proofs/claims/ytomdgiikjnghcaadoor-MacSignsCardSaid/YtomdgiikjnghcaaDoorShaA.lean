/-
  Contracts of the program's layer 3 (sha): turn, turns; of the document's: turned.
-/
import Derived.Test.YtomdgiikjnghcaaDoorSha0
import Derived.Test.YtomdgiikjnghcaaDoorRows
import Derived.Lib.Hide
import Derived.BigQuiet
import Derived.Deep.QuietTactic
namespace Go.Proofs.YtomdgiikjnghcaaDoor
open Go.RowKit

theorem rot_bounds (x : Int) (n : Nat) : 0 ≤ rot x n ∧ rot x n ≤ 4294967295 := bits32 _ _ _
theorem rots_bounds (x : Int) (i j k : Nat) : 0 ≤ rots x i j k ∧ rots x i j k ≤ 4294967295 := bits32 _ _ _

set_option maxHeartbeats 400000 in
theorem turn_any (w : World) (x : Int) (n : Nat) (h : 0 ≤ x ∧ x ≤ 4294967295) (hn : n ≤ 32) :
    Calls Tryd.prog 51 #[.int .u32 x, .int .u64 n] w fun e w' => e = .returned (.int .u32 (rot x n)) ∧ w = w' := by
  obtain ⟨h0, h1⟩ := h
  go_enter Tryd.func51, Tryd.ntmps51
  go_wp2
  go_ret
  exact ⟨rfl, rfl⟩

set_option maxHeartbeats 400000 in
theorem turned_any (w : World) (x : Int) (n : Nat) (h : 0 ≤ x ∧ x ≤ 4294967295) (hn : n ≤ 32) :
    Calls Tryd.prog 42 #[.int .u32 x, .int .u64 n] w fun e w' => e = .returned (.int .u32 (rot x n)) ∧ w = w' := by
  obtain ⟨h0, h1⟩ := h
  go_enter Tryd.func42, Tryd.ntmps42
  go_wp2
  go_ret
  exact ⟨rfl, rfl⟩

set_option maxHeartbeats 400000 in
theorem turns_any (w : World) (x : Int) (i j k : Nat) (h : 0 ≤ x ∧ x ≤ 4294967295) (hi : i ≤ 32) (hj : j ≤ 32) (hk : k ≤ 32) :
    Calls Tryd.prog 50 #[.int .u32 x, .int .u64 i, .int .u64 j, .int .u64 k] w fun e w' => e = .returned (.int .u32 (rots x i j k)) ∧ w = w' := by
  have c1 := fun w => Lib.hid (turn_any w x i h hi)
  have c2 := fun w => Lib.hid (turn_any w x j h hj)
  have c3 := fun w => Lib.hid (turn_any w x k h hk)
  obtain ⟨h0, h1⟩ := h
  go_enter Tryd.func50, Tryd.ntmps50
  go_wp2_with fail
  refine (c1 _).out.mono ?_
  rintro e w' ⟨rfl, rfl⟩
  go_wp2_with fail
  refine (c2 _).out.mono ?_
  rintro e w' ⟨rfl, rfl⟩
  go_wp2_with fail
  refine (c3 _).out.mono ?_
  rintro e w' ⟨rfl, rfl⟩
  go_wp2
  go_ret
  exact ⟨rfl, rfl⟩
end Go.Proofs.YtomdgiikjnghcaaDoor
