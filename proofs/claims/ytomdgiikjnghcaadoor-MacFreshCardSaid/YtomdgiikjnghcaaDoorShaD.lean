/-
  Contract of the program's layer 3 (sha): Behind.
-/
import Derived.Test.YtomdgiikjnghcaaDoorShaC
namespace Go.Proofs.YtomdgiikjnghcaaDoor
open Go.RowKit

/-- make([]byte, n), the length of whatever kind -/
theorem wpList_make_bytesK (w : World) {ops : Array Oper} {rest : List Oper} {o : Oper} {a : Act} {Q : Exit → Act → World → Prop}
    (hg : o.guard = none) (k : IntKind) (l c : Operand) (hop : o.op = Op.makeSlice 22 l c) (L C : Int) (n : Nat) (hl : a.eval l = .int k L) (hc : a.eval c = .int k C) (hL : L = (n : Int)) (hC : C = (n : Int)) (hn : n ≤ 281474976710656)
    (hK : ∀ w', Hid (Row w' w.heap.size (List.replicate n 0)) → Below w.heap.size w w' → wpList Tryd.prog ops Q rest (a.put o.dst (.slice (some ⟨w.heap.size, 0, none⟩) n n)) w') :
    wpList Tryd.prog ops Q (o :: rest) a w := by
  obtain ⟨i0, hi, hz0, hz1, hz2⟩ := info_parts info_u8
  refine wpList_make_full w hg l c 22 hop w.heap.size 5 i0 (.int .u8 0) 1 Tryd.underlying22 hi hz0 hz1 k k L C n hl hc hL hC (by rw [hz2]; omega) (by unfold maxLen; omega) (Nat.le_refl _) ?_
  intro w' hown hgr
  refine hK w' ?_ ((Below.refl _ _).grown hgr (Nat.le_refl _) (fun k hk => by cases hk))
  rcases hown.2 with ⟨h0, _⟩ | ⟨g, cap, cur, hv, _, hh, _, _, hcs, htk⟩
  · cases h0
  · simp only [Value.slice.injEq, Option.some.injEq, Addr.mk.injEq, and_true, true_and] at hv
    obtain ⟨rfl, rfl⟩ := hv
    show w'.heap[_]? = _
    rw [hh]
    have e : cur.toList = List.replicate n (.int .u8 0) := by
      have h1 : cur.toList.take (n * 1) = cur.toList := List.take_of_length_le (by simp [hcs])
      rw [← h1, htk]
      rw [Nat.mul_one]
      exact toList_madeCells_one (.int .u8 0) n
    rw [List.map_replicate, ← e]

/-- so many noughts -/
def noughts (n : Int) : Nat := ((55 - n) % 64).toNat
/-- eight bytes of a number, the highest first -/
def be8 (m : Int) : List Int := (List.range 8).map fun i => m / 2 ^ (8 * (7 - i)) % 256
/-- what stands behind n bytes -/
def behindOf (n : Int) : List Int := if n < 1152921504606846976 then 128 :: (List.replicate (noughts n) 0 ++ be8 (8 * n)) else []
theorem noughts_lt (n : Int) : noughts n < 64 := by unfold noughts; omega
theorem be8_len (m : Int) : (be8 m).length = 8 := by simp [be8]
theorem be8_bytes (m : Int) : Bytes (be8 m) := fun x hx => by
  obtain ⟨j, _, rfl⟩ := List.mem_map.1 hx
  omega
theorem behindOf_bytes (n : Int) : Bytes (behindOf n) := by
  unfold behindOf
  split
  · intro x hx
    rcases List.mem_cons.1 hx with rfl | hx
    · omega
    · exact (Bytes.zeros _).append (be8_bytes _) x hx
  · exact Bytes.nil
theorem behindOf_len (n : Int) (h : n < 1152921504606846976) : (behindOf n).length = 9 + noughts n := by
  unfold behindOf
  rw [if_pos h]
  simp [be8_len]; omega
theorem behindOf_none (n : Int) (h : ¬ n < 1152921504606846976) : behindOf n = [] := by
  unfold behindOf
  rw [if_neg h]
/-- the row that Behind fills, behind i of the last eight bytes -/
def behRow (n : Int) (i : Nat) : List Int := 128 :: (List.replicate (noughts n) 0 ++ ((be8 (8 * n)).take i ++ List.replicate (8 - i) 0))
theorem behRow_len (n : Int) (i : Nat) (hi : i ≤ 8) : (behRow n i).length = 9 + noughts n := by simp [behRow, be8_len]; omega
theorem behRow_zero (n : Int) : (List.replicate (9 + noughts n) (0 : Int)).set 0 128 = behRow n 0 := by
  unfold behRow
  rw [show 9 + noughts n = (noughts n + 8) + 1 by omega, List.replicate_succ, List.set_cons_zero, ← List.replicate_append_replicate]
  rfl
theorem behRow_full (n : Int) (h : n < 1152921504606846976) : behRow n 8 = behindOf n := by
  unfold behRow behindOf
  rw [if_pos h, List.take_of_length_le (by rw [be8_len]; exact Nat.le_refl _)]
  simp
theorem behRow_set (n : Int) (i : Nat) (hi : i < 8) (x : Int) (hx : x = 8 * n / 2 ^ (8 * (7 - i)) % 256) : (behRow n i).set (1 + noughts n + i) x = behRow n (i + 1) := by
  have hl : ((be8 (8 * n)).take i).length = i := by simp [be8_len]; omega
  have hil : i < (be8 (8 * n)).length := by rw [be8_len]; exact hi
  unfold behRow
  rw [show 1 + noughts n + i = (noughts n + i) + 1 by omega, List.set_cons_succ, List.set_append_right _ _ (by simp), List.length_replicate, Nat.add_sub_cancel_left, fill_set _ _ _ _ hl (by omega), List.take_succ_eq_append_getElem hil,
    show 8 - i - 1 = 8 - (i + 1) by omega]
  have e : (be8 (8 * n))[i] = x := by rw [hx]; simp [be8]
  rw [e]

/-- what Behind answers -/
def BehPost (w : World) (n : Int) (e : Ending) (w' : World) : Prop :=
  ∃ A', e = .returned (.slice A' (behindOf n).length (behindOf n).length) ∧ Fresh w' w.heap.size A' (behindOf n) ∧ Below w.heap.size w w'

set_option maxHeartbeats 1000000 in
theorem Behind_any (w : World) (n : Int) (hn : 0 ≤ n ∧ n ≤ 18446744073709551615) :
    Calls Tryd.prog 46 #[.int .u64 n] w (BehPost w n) := by
  obtain ⟨hn0, hn1⟩ := hn
  by_cases hlt : n < 1152921504606846976
  · have hq : ∀ e w', (∃ A', e = .returned (.slice A' (9 + noughts n) (9 + noughts n)) ∧ Fresh w' w.heap.size A' (behindOf n) ∧ Below w.heap.size w w') → BehPost w n e w' := by
      intro e w' hh
      unfold BehPost
      rw [behindOf_len n hlt]
      exact hh
    have HQ := Lib.hid hq
    have hz := noughts_lt n
    have hnz : (IntKind.u64.wrap (55 - n)).tmod 64 = ((noughts n : Nat) : Int) := by
      rw [IntKind.wrap_u64, Int.tmod_eq_emod_of_nonneg (by omega)]
      unfold noughts
      omega
    obtain ⟨z, hze⟩ : ∃ z, z = noughts n := ⟨_, rfl⟩
    rw [← hze] at hz hnz
    have HZ := Lib.hid hze
    clear hq hze
    go_enter Tryd.func46, Tryd.ntmps46
    have hx0 : (List.replicate (9 + z) (0 : Int)).getD 0 0 = 0 := by rw [show 9 + z = (8 + z) + 1 by omega, List.replicate_succ]; rfl
    have HX0 := Lib.hid hx0
    clear hx0
    go_wp2_with (at_make; refine wpList_make_bytesK _ rfl .u64 (.tmp 15) (.tmp 15) rfl _ _ (9 + z) rfl rfl (by omega) (by omega) (by omega) ?_; intro w1 hrow hb1; have hc0 := hrow.out.cell (i := 0) (by rw [List.length_replicate]; omega); rw [HX0.out] at hc0; have hf0 := hrow.out.frozen 0)
    have hS0 : Hid (Row (w1.setCell ⟨w.heap.size, 0, none⟩ (.int .u8 128)) w.heap.size (behRow n 0)) := by
      have h0 := hrow.out.set 0 128
      rw [HZ.out, behRow_zero] at h0
      exact h0
    rw [show 9 + z - (1 + z) = 8 by omega]
    have hlen8 : Hid (∀ i, i ≤ 8 → (behRow n i).length = 9 + z) := fun i hi => by rw [behRow_len n i hi, HZ.out]
    go_loopw [27, 7] (fun i _ wr => ∃ k : Nat, k ≤ 8 ∧ i = .int .i64 k ∧ Hid (Row wr w.heap.size (behRow n k)) ∧ Below w.heap.size w wr) (fun i _ _ => 8 - (intOf i).toNat)
    case atStart => exact ⟨0, by omega, rfl, hS0, hb1.setCell (Nat.le_refl _) _⟩
    case round =>
      obtain ⟨k, hk, rfl, hR, hb⟩ := hrel
      by_cases hlt2 : k < 8
      · have hc := hR.out.cell (i := 1 + z + k) (by rw [hlen8.out k hk]; omega)
        have hf := hR.out.frozen (1 + z + k)
        obtain ⟨old, hold⟩ : ∃ old, old = (behRow n k).getD (1 + z + k) 0 := ⟨_, rfl⟩
        rw [← hold] at hc
        have e := behRow_set n k hlt2 (8 * n / 2 ^ (8 * (7 - k)) % 256) rfl
        have hS : Hid (Row (wr.setCell ⟨w.heap.size, 1 + z + k, none⟩ (.int .u8 (8 * n / 2 ^ (8 * (7 - k)) % 256))) w.heap.size (behRow n (k + 1))) := by
          rw [← e, HZ.out]
          exact hR.out.set _ _
        have en : (8 * (7 - (k : Int))).toNat = 8 * (7 - k) := by omega
        clear e hold hR hc0 hf0
        go_wp2_with fail
        go_roundw
        case rel => exact ⟨k + 1, by omega, by go_num, hS, hb.setCell (Nat.le_refl _) _⟩
        case measure => simp [intOf]; omega
      · have hS : Hid (Row wr w.heap.size (behindOf n)) := by
          have h0 := hR.out
          rw [show k = 8 by omega, behRow_full n hlt] at h0
          exact h0
        have hge : (8 : Int) ≤ (k : Int) := by omega
        clear hR hc0 hf0
        go_wp2_with fail
        go_ret
        exact HQ.out _ _ ⟨_, by rw [HZ.out]; rfl, .inr ⟨_, rfl, Nat.le_refl _, hS⟩, hb⟩
  · have hq : ∀ e w', (∃ A', e = .returned (.slice A' 0 0) ∧ Fresh w' w.heap.size A' [] ∧ Below w.heap.size w w') → BehPost w n e w' := by
      intro e w' hh
      unfold BehPost
      rw [behindOf_none n hlt]
      exact hh
    have HQ := Lib.hid hq
    have hge : 1152921504606846976 ≤ n := by omega
    clear hq hlt
    go_enter Tryd.func46, Tryd.ntmps46
    go_wp2_with fail
    go_ret
    exact HQ.out _ _ ⟨_, rfl, .inl ⟨rfl, rfl⟩, Below.refl _ _⟩
end Go.Proofs.YtomdgiikjnghcaaDoor
