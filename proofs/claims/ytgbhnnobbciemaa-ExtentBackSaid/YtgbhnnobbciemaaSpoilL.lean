/-
  Spoil over any row of bytes: it writes that row alone, and leaves it one; so two that may lie in one block can be spoiled one behind the other.
-/
import Derived.Test.YtgbhnnobbciemaaSpoilB
namespace Go.Proofs.Ytgbhnnobbciemaa
open Go.RowKit
set_option linter.unusedVariables false
set_option maxRecDepth 100000

set_option maxHeartbeats 400000 in
theorem SpoilR_any (w : World) (g n N : Nat) (zs : List Int) (hnN : n ≤ N) (hN : zs.length = N) (hm : N ≤ maxLen) (by_ : Int) (h0 : 0 ≤ by_ ∧ by_ ≤ 255) (hr : Row w g zs) :
    Calls Try.prog 23 #[.slice (some ⟨g, 0, none⟩) n N, .int .u8 by_] w fun e w' => e = .returned (.tuple #[]) ∧ Only g w w' ∧ ∃ ys : List Int, ys.length = N ∧ Row w' g ys := by
  obtain ⟨h00, h01⟩ := h0
  have hm63 : N ≤ 9223372036854775807 := by rw [maxLen_eq] at hm; exact hm
  have HL : Hid (zs.length = N) := hN
  have HR : Hid (Row w g zs) := hr
  clear hr hN hm
  go_enter Try.func23, Try.ntmps23
  go_wp2
  go_loopw [4] (fun i wr => ∃ k : Nat, k ≤ N ∧ i = .int .i64 k ∧ (∃ ys : List Int, Hid (ys.length = N) ∧ Hid (Row wr g ys)) ∧ Hid (Only g w wr)) (fun i _ => N - (intOf i).toNat)
  case atStart => exact ⟨0, Nat.zero_le _, rfl, ⟨_, HL, HR⟩, Only.refl _ _⟩
  case round =>
    obtain ⟨k, hk, rfl, ⟨ys, HY, hR⟩, hb⟩ := hrel
    by_cases hlt : k < N
    · have hc := hR.out.cell (i := k) (by have := HY.out; omega)
      have hz := hR.out.frozen k
      obtain ⟨old, hold⟩ : ∃ old, old = ys.getD k 0 := ⟨_, rfl⟩
      rw [← hold] at hc
      clear hold
      go_wp2
      go_roundw
      case rel => exact ⟨k + 1, by omega, by go_num, ⟨_, (by show _ = _; rw [List.length_set]; exact HY.out), hR.out.set k _⟩, hb.out.setCell _ _⟩
      case measure => simp [intOf]; omega
    · go_wp2
      go_end0
      exact ⟨rfl, hb.out, ys, HY.out, hR.out⟩

/-- a slice of bytes, with what lies behind it in its block: none, or in a block from lo on, below hi -/
def Loose (w : World) (lo hi : Nat) (v : Value) : Prop := v = .slice none 0 0 ∨ ∃ (g n N : Nat) (zs : List Int), v = .slice (some ⟨g, 0, none⟩) n N ∧ n ≤ N ∧ N ≤ maxLen ∧ zs.length = N ∧ lo ≤ g ∧ g < hi ∧ Row w g zs
theorem Loose.of {w : World} {lo b : Nat} {v : Value} {xs : List Int} (h : OwnZ .u8 5 w b v xs) (hl : lo ≤ b) : Loose w lo w.heap.size v := by
  rcases h with ⟨rfl, _⟩ | ⟨g, m, rfl, hg, hm, hr⟩
  · exact .inl rfl
  · exact .inr ⟨g, _, _, _, rfl, by omega, hm, by simp, by omega, Row.lt hr, hr⟩
theorem Loose.over {w w' : World} {lo hi : Nat} {v : Value} (h : Loose w lo hi v) (hb : Below w.heap.size w w') : Loose w' lo hi v := by
  rcases h with rfl | ⟨g, n, N, zs, rfl, h1, h2, h3, h4, h5, hr⟩
  · exact .inl rfl
  · exact .inr ⟨g, n, N, zs, rfl, h1, h2, h3, h4, h5, hr.over hb⟩
theorem Loose.only {w w' : World} {lo hi q : Nat} {v : Value} (h : Loose w lo hi v) (hO : Only q w w') (hq : q < lo) : Loose w' lo hi v := by
  rcases h with rfl | ⟨g, n, N, zs, rfl, h1, h2, h3, h4, h5, hr⟩
  · exact .inl rfl
  · exact .inr ⟨g, n, N, zs, rfl, h1, h2, h3, h4, h5, hr.only hO (by omega)⟩
/-- Spoil of one such slice leaves another one such, and all that lies elsewhere -/
theorem SpoilL_any (w : World) (lo hi : Nat) (v u : Value) (hlo : lo ≤ w.heap.size) (hv : Loose w lo hi v) (hu : Loose w lo hi u) (by_ : Int) (h0 : 0 ≤ by_ ∧ by_ ≤ 255) :
    Calls Try.prog 23 #[v, .int .u8 by_] w fun e w' => e = .returned (.tuple #[]) ∧ Loose w' lo hi u ∧ Below lo w w' ∧ ∀ i, hi ≤ i → i < w.heap.size → w'.heap[i]? = w.heap[i]? := by
  rcases hv with rfl | ⟨g, n, N, zs, rfl, h1, h2, h3, h4, h5, hr⟩
  · exact (Spoil_nil w by_ h0).mono fun e w' ⟨q1, q2⟩ => ⟨q1, hu.over q2, q2.mono hlo, fun i _ hi => q2.block i hi⟩
  · refine (SpoilR_any w g n N zs h1 h3 h2 by_ h0 hr).mono fun e w' ⟨q1, q2, ys, q3, q4⟩ => ⟨q1, ?_, q2.below h4, fun i hi _ => q2.rest i (by omega)⟩
    rcases hu with rfl | ⟨g', n', N', zs', rfl, k1, k2, k3, k4, k5, kr⟩
    · exact .inl rfl
    · by_cases hg : g' = g
      · subst hg
        have hl : zs.length = zs'.length := by
          have e := hr.symm.trans kr
          injection e with e
          injection e with e
          have := congrArg Array.size e
          simpa using this
        exact .inr ⟨g', n', N', ys, rfl, k1, k2, by omega, k4, k5, q4⟩
      · exact .inr ⟨g', n', N', zs', rfl, k1, k2, k3, k4, k5, kr.only q2 hg⟩
end Go.Proofs.Ytgbhnnobbciemaa
