/-
  Spoil over a row of the call's own with noughts behind it: it writes that row alone.
-/
import Derived.Test.YtgbhnnobbciemaaCopyB
import Derived.Test.YtgbhnnobbciemaaHeadM
import Derived.Test.YtgbhnnobbciemaaNums
namespace Go.Proofs.Ytgbhnnobbciemaa
open Go.RowKit
set_option linter.unusedVariables false
set_option maxRecDepth 100000

set_option maxHeartbeats 400000 in
theorem SpoilB_only (w : World) (g n m N : Nat) (xs : List Int) (hn : n = xs.length) (hN : N = xs.length + m) (hm : N ≤ maxLen) (by_ : Int) (h0 : 0 ≤ by_ ∧ by_ ≤ 255) (hr : Row w g (xs ++ List.replicate m 0)) :
    Calls Try.prog 23 #[.slice (some ⟨g, 0, none⟩) n N, .int .u8 by_] w fun e w' => e = .returned (.tuple #[]) ∧ Only g w w' := by
  obtain ⟨h00, h01⟩ := h0
  have hnN : n ≤ N := by omega
  have hm63 : N ≤ 9223372036854775807 := by rw [maxLen_eq] at hm; exact hm
  have HL : Hid ((xs ++ List.replicate m 0).length = N) := by show _ = _; rw [List.length_append, List.length_replicate, hN]
  have HR : Hid (Row w g (xs ++ List.replicate m 0)) := hr
  clear hr hn hN hm
  go_enter Try.func23, Try.ntmps23
  go_wp2
  go_loopw [4] (fun i wr => ∃ k : Nat, k ≤ N ∧ i = .int .i64 k ∧ (∃ ys : List Int, Hid (ys.length = N) ∧ Hid (Row wr g ys)) ∧ Hid (Only g w wr)) (fun i _ => N - (intOf i).toNat)
  case atStart => exact ⟨0, Nat.zero_le _, rfl, ⟨_, HL, HR⟩, Only.refl _ _⟩
  case round =>
    obtain ⟨k, hk, rfl, ⟨ys, HY, hR⟩, hb⟩ := hrel
    by_cases hlt : k < N
    · have hc := hR.out.cell (i := k) (by have := HY.out; omega)
      have hz := hR.out.frozen k
      obtain ⟨old, hold⟩ : ∃ old, old = ys.getD k 0 := ⟨_, rfl⟩
      rw [← hold] at hc
      clear hold
      go_wp2
      go_roundw
      case rel => exact ⟨k + 1, by omega, by go_num, ⟨_, (by show _ = _; rw [List.length_set]; exact HY.out), hR.out.set k _⟩, hb.out.setCell _ _⟩
      case measure => simp [intOf]; omega
    · go_wp2
      go_end0
      exact ⟨rfl, hb.out⟩
set_option maxHeartbeats 400000 in
theorem Spoil_nil (w : World) (by_ : Int) (h0 : 0 ≤ by_ ∧ by_ ≤ 255) :
    Calls Try.prog 23 #[.slice none 0 0, .int .u8 by_] w fun e w' => e = .returned (.tuple #[]) ∧ Below w.heap.size w w' := by
  obtain ⟨h00, h01⟩ := h0
  go_enter Try.func23, Try.ntmps23
  go_wp2
  go_loop [4] (fun i => i = .int .i64 0) (fun _ => 0)
  case atStart => exact rfl
  case round =>
    subst hrel
    go_wp2
    go_end0
    exact ⟨rfl, Below.refl _ _⟩
end Go.Proofs.Ytgbhnnobbciemaa
