/-
  Contract of the program's layer 1 (ends): Put.
-/
import Derived.Test.YthoddihoccpidaaEnds1
import Derived.Test.YthoddihoccpidaaRow
import Derived.Test.YthoddihoccpidaaBits
namespace Go.Proofs.Ythoddihoccpidaa
open Go.RowKit

theorem le_getElem (n : Int) (s k : Nat) (h : k < s) (hk : k < (le n s).length) : (le n s)[k] = n / 256 ^ k % 256 := by
  induction s generalizing n k with
  | zero => omega
  | succ s ih =>
    cases k with
    | zero => simp [le]
    | succ k =>
      simp only [le, List.getElem_cons_succ]
      rw [ih (n / 256) k (by omega) (by rw [le_length]; omega), Int.pow_succ, Int.mul_comm, Int.ediv_ediv_of_nonneg (by omega)]

/-- the row that Put fills, behind k rounds -/
def putRow (n : Int) (s k : Nat) : List Int := (le n s).take k ++ List.replicate (s - k) 0
theorem putRow_length (n : Int) (s k : Nat) (hk : k ≤ s) : (putRow n s k).length = s := by simp [putRow, le_length]; omega
theorem putRow_set (n : Int) (s k : Nat) (hk : k < s) (x : Int) (hx : x = n / 256 ^ k % 256) : (putRow n s k).set k x = putRow n s (k + 1) := by
  have hl : ((le n s).take k).length = k := by simp [le_length]; omega
  have hkl : k < (le n s).length := by rw [le_length]; omega
  unfold putRow
  rw [List.set_append_right _ _ (by omega), hl, Nat.sub_self, show s - k = (s - (k + 1)) + 1 from by omega, List.replicate_succ, List.set_cons_zero, List.take_succ_eq_append_getElem hkl, le_getElem n s k hk hkl, hx,
    List.append_assoc]
  rfl
theorem putRow_zero (n : Int) (s : Nat) : putRow n s 0 = List.replicate s 0 := by simp [putRow]
theorem putRow_full (n : Int) (s : Nat) : putRow n s s = le n s := by
  unfold putRow
  rw [List.take_of_length_le (by rw [le_length]; omega)]
  simp

/-- what Put answers -/
def PutPost (w : World) (n s : Int) (e : Ending) (w' : World) : Prop :=
  ∃ A', e = .returned (.tuple #[.slice A' (putOf n s).length (putOf n s).length, .int .i64 (putErr n s)]) ∧ Fresh w' w.heap.size A' (putOf n s) ∧ Below w.heap.size w w'

set_option maxHeartbeats 400000 in
theorem Put_any (w : World) (n s : Int) (hn : 0 ≤ n ∧ n ≤ 18446744073709551615) (hs : -9223372036854775808 ≤ s ∧ s ≤ 9223372036854775807) :
    Calls Try.prog 25 #[.int .u64 n, .int .i64 s] w (PutPost w n s) := by
  have c1 := sized_any w n s hn hs
  obtain ⟨hn0, hn1⟩ := hn
  by_cases hp : putOk n s = true
  · have hz : sizeOk s = true := by unfold putOk at hp; simp at hp; exact hp.1
    have hs8 : 1 ≤ s ∧ s ≤ 8 := by rcases sizeOk_cases hz with e | e | e | e <;> omega
    obtain ⟨hs1, hs8⟩ := hs8
    obtain ⟨j, rfl⟩ := Int.eq_ofNat_of_zero_le (show 0 ≤ s by omega)
    have hq : ∀ e w', (∃ A', e = .returned (.tuple #[.slice A' j j, .int .i64 0]) ∧ Fresh w' w.heap.size A' (le n j) ∧ Below w.heap.size w w') → PutPost w n j e w' := by
      intro e w' hh
      unfold PutPost putOf putErr
      rw [if_pos hp, if_pos hp, Int.toNat_natCast, le_length]
      exact hh
    have HQ := Lib.hid hq
    rw [hp] at c1
    have C1 := Lib.hid c1
    clear c1 hp hz hq
    go_enter Try.func25, Try.ntmps25
    go_wp2_with fail
    refine C1.out.mono ?_
    rintro e w' ⟨rfl, rfl⟩
    go_wp2_with (at_make; refine wpList_make_bytes _ rfl (.tmp 12) (.tmp 12) rfl _ _ j rfl rfl rfl rfl (by omega) ?_; intro w1 hrow hb1)
    go_loopw [7, 16] (fun _ k wr => ∃ k' : Nat, k' ≤ j ∧ k = .int .i64 k' ∧ Hid (Row wr w.heap.size (putRow n j k')) ∧ Below w.heap.size w wr) (fun _ k _ => j - (intOf k).toNat)
    case atStart => exact ⟨0, Nat.zero_le _, rfl, by rw [putRow_zero]; exact hrow, hb1⟩
    case round =>
      obtain ⟨k, hk, rfl, hR, hb⟩ := hrel
      by_cases hlt : k < j
      · have hl := putRow_length n j k hk
        have hc := hR.out.cell (i := k) (by omega)
        have hz := hR.out.frozen k
        obtain ⟨old, hold⟩ : ∃ old, old = (putRow n j k).getD k 0 := ⟨_, rfl⟩
        rw [← hold] at hc
        clear hl hold
        have e := putRow_set n j k hlt (n / 2 ^ (8 * k) % 256) (by rw [pow_256_int, Int.natCast_pow]; rfl)
        have hS : Hid (Row (wr.setCell ⟨w.heap.size, k, none⟩ (.int .u8 (n / 2 ^ (8 * k) % 256))) w.heap.size (putRow n j (k + 1))) := by
          rw [← e]
          exact hR.out.set k _
        clear e hR
        go_wp2
        go_roundw
        case rel => exact ⟨k + 1, by omega, by go_num, hS, hb.setCell (Nat.le_refl _) _⟩
        case measure => simp [intOf]; omega
      · have hS : Hid (Row wr w.heap.size (le n j)) := by
          have := hR.out
          rwa [show k = j from by omega, putRow_full] at this
        clear hR
        go_wp2
        go_ret2
        exact HQ.out _ _ ⟨_, rfl, .inr ⟨_, rfl, Nat.le_refl _, hS⟩, hb⟩
  · have hp' : putOk n s = false := by simpa using hp
    have hq : ∀ e w', (∃ A', e = .returned (.tuple #[.slice A' 0 0, .int .i64 2]) ∧ Fresh w' w.heap.size A' [] ∧ Below w.heap.size w w') → PutPost w n s e w' := by
      intro e w' hh
      unfold PutPost putOf putErr
      rw [if_neg hp, if_neg hp]
      exact hh
    have HQ := Lib.hid hq
    rw [hp'] at c1
    have C1 := Lib.hid c1
    clear c1 hp hp' hq
    go_enter Try.func25, Try.ntmps25
    go_wp2_with fail
    refine C1.out.mono ?_
    rintro e w' ⟨rfl, rfl⟩
    go_wp2
    go_ret2
    exact HQ.out _ _ ⟨_, rfl, .inl ⟨rfl, rfl⟩, Below.refl _ _⟩
end Go.Proofs.Ythoddihoccpidaa
