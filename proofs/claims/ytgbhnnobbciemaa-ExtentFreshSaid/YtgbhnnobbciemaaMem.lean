/-
  Contracts of what the statements share (refectoryref00): Wide, Spoil, Left.
-/
import Derived.Test.YtgbhnnobbciemaaRow
import Derived.Test.YtgbhnnobbciemaaSame
import Derived.Test.YtgbhnnobbciemaaBits
namespace Go.Proofs.Ytgbhnnobbciemaa
open Go.RowKit

/-- what Wide answers: the head of a made row, three bytes 7 behind it -/
def WidePost (w : World) (xs : List Int) (e : Ending) (w' : World) : Prop :=
  e = .returned (.slice (some ⟨w.heap.size, 0, none⟩) xs.length (xs.length + 3)) ∧ Row w' w.heap.size (xs ++ [7, 7, 7]) ∧ Below w.heap.size w w'

/-- the row that Wide fills, behind k of its three rounds -/
def wideRow (xs : List Int) (k : Nat) : List Int := xs ++ (List.replicate k 7 ++ List.replicate (3 - k) 0)
theorem wideRow_length (xs : List Int) (k : Nat) (hk : k ≤ 3) : (wideRow xs k).length = xs.length + 3 := by simp [wideRow]; omega
theorem wideRow_set (xs : List Int) (k : Nat) (hk : k < 3) : (wideRow xs k).set (xs.length + k) 7 = wideRow xs (k + 1) := by
  unfold wideRow
  rw [List.set_append_right _ _ (by omega), Nat.add_sub_cancel_left, List.set_append_right _ _ (by simp), List.length_replicate, Nat.sub_self, show 3 - k = (3 - (k + 1)) + 1 from by omega, List.replicate_succ, List.set_cons_zero,
    List.replicate_succ', List.append_assoc]
  rfl

set_option maxHeartbeats 400000 in
theorem Wide_any (w : World) (A : Option Addr) (n c : Nat) (xs : List Int) (h : Holds w w.heap.size A n c xs) (hn : n ≤ 281474976710653) :
    Calls Try.prog 22 #[.slice A n c] w (WidePost w xs) := by
  have hl := Lib.hid h.len
  have hq : ∀ e w', (e = .returned (.slice (some ⟨w.heap.size, 0, none⟩) n (n + 3)) ∧ Row w' w.heap.size (wideRow xs 3) ∧ Below w.heap.size w w') → WidePost w xs e w' := by
    intro e w' hh
    unfold WidePost
    rw [hl.out]
    exact hh
  have HQ := Lib.hid hq
  clear hq
  go_enter Try.func22, Try.ntmps22
  go_wp2_with (first
    | (at_make; refine wpList_make_bytes _ rfl (.tmp 8) (.tmp 8) rfl _ _ (n + 3) rfl rfl (by simp) (by simp) (by omega) ?_; intro w1 hrow hb1)
    | ((with_reducible show wpList _ _ _ (⟨some 12, _, _, _, _, _⟩ :: _) _ _); refine wpList_copy_bytes rfl (.tmp 10) (.tmp 11) rfl w.heap.size (n + 3) (n + 3) n c A rfl rfl _ xs _ hrow (h.below hb1) (by omega) (by simp) ?_; intro w2 hrow2 hb2))
  go_loopw [5] (fun i wr => ∃ k : Nat, k ≤ 3 ∧ i = .int .i64 (n + k : Nat) ∧ Hid (Row wr w.heap.size (wideRow xs k)) ∧ Below w.heap.size w wr) (fun i _ => n + 3 - (intOf i).toNat)
  case atStart =>
    refine ⟨0, by omega, rfl, ?_, hb1.trans hb2⟩
    have := hrow2.out
    show Row _ _ _
    simpa [wideRow] using this
  case round =>
    obtain ⟨k, hk, rfl, hR, hb⟩ := hrel
    have hll := wideRow_length xs k hk
    by_cases hlt : k < 3
    · have hc := hR.out.cell (i := n + k) (by rw [hll, hl.out]; omega)
      have hz := hR.out.frozen (n + k)
      have e := wideRow_set xs k hlt
      rw [hl.out] at e
      have hS : Hid (Row (wr.setCell ⟨w.heap.size, n + k, none⟩ (.int .u8 7)) w.heap.size (wideRow xs (k + 1))) := by
        rw [← e]
        exact hR.out.set _ _
      obtain ⟨old, hold⟩ : ∃ old, old = (wideRow xs k).getD (n + k) 0 := ⟨_, rfl⟩
      rw [← hold] at hc
      clear e hold hll hR
      go_wp2
      go_roundw
      case rel => exact ⟨k + 1, by omega, by go_num, hS, hb.setCell (Nat.le_refl _) _⟩
      case measure => simp [intOf]; omega
    · obtain rfl : k = 3 := by omega
      clear hll
      go_wp2
      go_ret
      exact HQ.out _ _ ⟨rfl, hR.out, hb⟩

set_option maxHeartbeats 400000 in
/-- Spoil over a fresh row: it writes nothing below 'base' -/
theorem Spoil_any (w : World) (base : Nat) (A : Option Addr) (xs : List Int) (n : Nat) (hn : xs.length = n) (hx : Bytes xs) (hn2 : n ≤ 281474976710656) (by_ : Int) (h0 : 0 ≤ by_ ∧ by_ ≤ 255) (h : Fresh w base A xs) :
    Calls Try.prog 23 #[.slice A n n, .int .u8 by_] w fun e w' => e = .returned (.tuple #[]) ∧ Below base w w' := by
  obtain ⟨h00, h01⟩ := h0
  rcases h with ⟨rfl, rfl⟩ | ⟨g, rfl, hg, hr⟩
  · obtain rfl : n = 0 := by simpa using hn.symm
    clear hn
    go_enter Try.func23, Try.ntmps23
    go_wp2
    go_loop [4] (fun i => i = .int .i64 0) (fun _ => 0)
    case atStart => exact rfl
    case round =>
      subst hrel
      go_wp2
      go_end0
      exact ⟨rfl, Below.refl _ _⟩
  · have HN := Lib.hid hn
    clear hn
    go_enter Try.func23, Try.ntmps23
    go_wp2
    go_loopw [4] (fun i wr => ∃ k : Nat, k ≤ n ∧ i = .int .i64 k ∧ (∃ ys : List Int, Hid (ys.length = n) ∧ Hid (Row wr g ys)) ∧ Below base w wr) (fun i _ => n - (intOf i).toNat)
    case atStart => exact ⟨0, Nat.zero_le _, rfl, ⟨xs, HN, hr⟩, Below.refl _ _⟩
    case round =>
      obtain ⟨k, hk, rfl, ⟨ys, HY, hR⟩, hb⟩ := hrel
      by_cases hlt : k < n
      · have hc := hR.out.cell (i := k) (by have := HY.out; omega)
        have hz := hR.out.frozen k
        obtain ⟨old, hold⟩ : ∃ old, old = ys.getD k 0 := ⟨_, rfl⟩
        rw [← hold] at hc
        clear hold
        go_wp2
        go_roundw
        case rel => exact ⟨k + 1, by omega, by go_num, ⟨_, (by show _ = _; rw [List.length_set]; exact HY.out), hR.out.set k _⟩, hb.setCell hg _⟩
        case measure => simp [intOf]; omega
      · go_wp2
        go_end0
        exact ⟨rfl, hb⟩

end Go.Proofs.Ytgbhnnobbciemaa
