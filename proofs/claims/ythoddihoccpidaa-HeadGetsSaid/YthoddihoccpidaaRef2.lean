/-
  Contracts of the document's answers for layer 1 (refectoryref01): Pad, Put.
-/
import Derived.Test.YthoddihoccpidaaRef1
import Derived.Test.YthoddihoccpidaaEnds4
namespace Go.Proofs.Ythoddihoccpidaa
open Go.RowKit

/-- what the document's Pad answers -/
def RPadPost (w : World) (xs : List Int) (e : Ending) (w' : World) : Prop := ∃ v, e = .returned v ∧ Own w' w.heap.size v (padOf xs) ∧ Below w.heap.size w w'

/-- what the document's Put answers -/
def RPutPost (w : World) (n s : Int) (e : Ending) (w' : World) : Prop := ∃ v, e = .returned (.tuple #[v, .int .i64 (putErr n s)]) ∧ Own w' w.heap.size v (putOf n s) ∧ Below w.heap.size w w'

theorem le_snoc (n : Int) (k : Nat) : le n (k + 1) = le n k ++ [n / 256 ^ k % 256] := by
  have hk : k < (le n (k + 1)).length := by rw [le_length]; omega
  have h1 := List.take_succ_eq_append_getElem hk
  rw [le_getElem n (k + 1) k (by omega) hk, List.take_of_length_le (by rw [le_length]; omega)] at h1
  rw [h1]
  congr 1
  clear h1 hk
  induction k generalizing n with
  | zero => rfl
  | succ k ih => rw [show le n (k + 1 + 1) = n % 256 :: le (n / 256) (k + 1) from rfl, List.take_succ_cons, ih]; rfl

set_option maxHeartbeats 400000 in
theorem RPut_any (w : World) (n s : Int) (hn : 0 ≤ n ∧ n ≤ 18446744073709551615) :
    Calls Try.prog 46 #[.int .u64 n, .int .i64 s] w (RPutPost w n s) := by
  have c1 := RSize_any w s
  obtain ⟨hn0, hn1⟩ := hn
  by_cases hz : sizeOk s = true
  · have hs8 : 1 ≤ s ∧ s ≤ 8 := by rcases sizeOk_cases hz with e | e | e | e <;> omega
    obtain ⟨hs1, hs8⟩ := hs8
    obtain ⟨j, rfl⟩ := Int.eq_ofNat_of_zero_le (show 0 ≤ s by omega)
    have hq0 : n / 256 ^ j = 0 → ∀ e w', (∃ v, e = .returned (.tuple #[v, .int .i64 0]) ∧ Own w' w.heap.size v (le n j) ∧ Below w.heap.size w w') → RPutPost w n j e w' := by
      intro h0 e w' hh
      have hp : putOk n j = true := by
        have := putOk_at n j (256 ^ j) hz rfl hn0 (Int.pow_pos (by omega))
        rw [← this, h0]; rfl
      unfold RPutPost putErr putOf
      rw [if_pos hp, if_pos hp, Int.toNat_natCast]
      exact hh
    have hq1 : 0 < n / 256 ^ j → ∀ e w', (∃ v, e = .returned (.tuple #[v, .int .i64 2]) ∧ Own w' w.heap.size v [] ∧ Below w.heap.size w w') → RPutPost w n j e w' := by
      intro h0 e w' hh
      have hp : ¬ putOk n j = true := by
        have := putOk_at n j (256 ^ j) hz rfl hn0 (Int.pow_pos (by omega))
        rw [← this, beq_iff_eq]; omega
      unfold RPutPost putErr putOf
      rw [if_neg hp, if_neg hp]
      exact hh
    rw [hz] at c1
    have C1 := Lib.hid c1
    have HQ0 := Lib.hid hq0
    have HQ1 := Lib.hid hq1
    clear c1 hz hq0 hq1
    go_enter Try.func46, Try.ntmps46
    go_wp2_with fail
    refine C1.out.mono ?_
    rintro e w' ⟨rfl, rfl⟩
    go_wp2_with fail
    go_loopw [0, 6, 7] (fun nv v i wr => ∃ k : Nat, k ≤ j ∧ i = .int .i64 k ∧ ∃ z, nv = .int .u64 z ∧ Hid (z = n / 256 ^ k) ∧ 0 ≤ z ∧ z ≤ 18446744073709551615 ∧ Hid (Own wr w.heap.size v (le n k)) ∧ Below w.heap.size w wr) (fun _ _ i _ => j - (intOf i).toNat)
    case atStart => exact ⟨0, Nat.zero_le _, rfl, n, rfl, by show n = _; simp, hn0, hn1, Own.nil _ _, Below.refl _ _⟩
    case round =>
      obtain ⟨k, hk, rfl, z, rfl, HZ, hz0, hz1, HO, hb⟩ := hrel
      by_cases hlt : k < j
      · have hm := Int.emod_nonneg z (show (256 : Int) ≠ 0 by omega)
        have hm2 := Int.emod_lt_of_pos z (show (0 : Int) < 256 by omega)
        have hlen : (le n k).length + [z % 256].length ≤ 140737488355328 := by rw [le_length]; simp; omega
        have hbs := hb.size
        have hS1 : Hid (z / 256 = n / 256 ^ (k + 1)) := by
          show _ = _
          rw [HZ.out, Int.pow_succ, Int.ediv_ediv_of_nonneg (Int.le_of_lt (Int.pow_pos (by omega)))]
        have hS2 : Hid (le n k ++ [z % 256] = le n (k + 1)) := by
          show _ = _
          rw [le_snoc, HZ.out]
        go_wp2_with (at_builtin; refine wpList_append_bytes rfl (.tmp 16) (.tmp 20) rfl w.heap.size _ _ rfl (HO.out.alloc _) _ _ 1 1 [z % 256] rfl (Holds.single wr (z % 256) (by omega)) hlen (by simp; omega) ?_; intro v2 w2 ho2 hb2 hgr)
        have ho := ho2.out
        rw [hS2.out] at ho
        go_roundw
        case rel => exact ⟨k + 1, by omega, by go_num, _, rfl, hS1, by omega, by omega, ho, (hb.alloc hb.size _).trans hb2⟩
        case measure => simp [intOf]; omega
      · obtain rfl : k = j := by omega
        by_cases h0 : 0 < z
        · have hS := HQ1.out (by rw [← HZ.out]; exact h0)
          have HS := Lib.hid hS
          clear hS HZ HO
          go_wp2
          go_ret2
          exact HS.out _ _ ⟨_, rfl, Own.nil _ _, hb⟩
        · have hS := HQ0.out (by rw [← HZ.out]; omega)
          have HS := Lib.hid hS
          clear hS HZ
          go_wp2
          go_ret2
          exact HS.out _ _ ⟨_, rfl, HO.out, hb⟩
  · have hz' : sizeOk s = false := by simpa using hz
    have hp : ¬ putOk n s = true := by unfold putOk; rw [hz']; simp
    have hq : ∀ e w', (∃ v, e = .returned (.tuple #[v, .int .i64 2]) ∧ Own w' w.heap.size v [] ∧ Below w.heap.size w w') → RPutPost w n s e w' := by
      intro e w' hh
      unfold RPutPost putErr putOf
      rw [if_neg hp, if_neg hp]
      exact hh
    have HQ := Lib.hid hq
    rw [hz'] at c1
    have C1 := Lib.hid c1
    clear c1 hz hz' hp hq
    go_enter Try.func46, Try.ntmps46
    go_wp2_with fail
    refine C1.out.mono ?_
    rintro e w' ⟨rfl, rfl⟩
    go_wp2
    go_ret2
    exact HQ.out _ _ ⟨_, rfl, Own.nil _ _, Below.refl _ _⟩
end Go.Proofs.Ythoddihoccpidaa
