/-
  Spoil over a row of bytes leaves a row of bytes.
-/
import Derived.Test.YtjpcifmeimcikaaSpoilL
import Derived.OpenShut
namespace Go.Proofs.Ytjpcifmeimcikaa
open Go.RowKit
set_option linter.unusedVariables false
set_option maxRecDepth 100000

theorem bits8 (op : BinOp) (x y : Int) : 0 ≤ bits op .u8 x y ∧ bits op .u8 x y ≤ 255 := by
  have h := wf_bits op .u8 x y
  simpa [Lit.wf, IntKind.min, IntKind.max, IntKind.signed, IntKind.bits] using h
theorem Bytes.set {xs : List Int} (h : Bytes xs) {i : Nat} {v : Int} (hv : 0 ≤ v ∧ v ≤ 255) : Bytes (xs.set i v) := fun x hx => by
  rcases List.mem_or_eq_of_mem_set hx with h1 | h1
  · exact h x h1
  · rw [h1]; exact hv

set_option maxHeartbeats 400000 in
theorem SpoilY_any (w : World) (g n N : Nat) (zs : List Int) (hnN : n ≤ N) (hN : zs.length = N) (hm : N ≤ maxLen) (hz : Bytes zs) (by_ : Int) (h0 : 0 ≤ by_ ∧ by_ ≤ 255) (hr : Row w g zs) :
    Calls Try.prog 17 #[.slice (some ⟨g, 0, none⟩) n N, .int .u8 by_] w fun e w' => e = .returned (.tuple #[]) ∧ Only g w w' ∧ ∃ ys : List Int, ys.length = N ∧ Row w' g ys ∧ Bytes ys := by
  obtain ⟨h00, h01⟩ := h0
  have hm63 : N ≤ 9223372036854775807 := by rw [maxLen_eq] at hm; exact hm
  have HL : Hid (zs.length = N) := hN
  have HR : Hid (Row w g zs) := hr
  have HZ : Hid (Bytes zs) := hz
  clear hr hN hm hz
  go_enter Try.func17, Try.ntmps17
  go_wp2
  go_loopw [4] (fun i wr => ∃ k : Nat, k ≤ N ∧ i = .int .i64 k ∧ (∃ ys : List Int, Hid (ys.length = N) ∧ Hid (Row wr g ys) ∧ Hid (Bytes ys)) ∧ Hid (Only g w wr)) (fun i _ => N - (intOf i).toNat)
  case atStart => exact ⟨0, Nat.zero_le _, rfl, ⟨_, HL, HR, HZ⟩, Only.refl _ _⟩
  case round =>
    obtain ⟨k, hk, rfl, ⟨ys, HY, hR, HY2⟩, hb⟩ := hrel
    by_cases hlt : k < N
    · have hc := hR.out.cell (i := k) (by have := HY.out; omega)
      have hz := hR.out.frozen k
      obtain ⟨old, hold⟩ : ∃ old, old = ys.getD k 0 := ⟨_, rfl⟩
      rw [← hold] at hc
      clear hold
      go_wp2
      go_roundw
      case rel => exact ⟨k + 1, by omega, by go_num, ⟨_, (by show _ = _; rw [List.length_set]; exact HY.out), hR.out.set k _, HY2.out.set (bits8 _ _ _)⟩, hb.out.setCell _ _⟩
      case measure => simp [intOf]; omega
    · go_wp2
      go_end0
      exact ⟨rfl, hb.out, ys, HY.out, hR.out, HY2.out⟩
end Go.Proofs.Ytjpcifmeimcikaa
