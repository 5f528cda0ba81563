/-
  Contract of the document's layer 3 (refectoryref03): Behind.
-/
import Derived.Test.YtomdgiikjnghcaaDoorShaD
import Derived.Test.YtomdgiikjnghcaaDoorNums
namespace Go.Proofs.YtomdgiikjnghcaaDoor
open Go.RowKit

theorem info_b : (Tryd.prog.info? 5).map (fun i => (i.zero, i.size, i.bytes)) = some (some (.int .u8 0), 1, 1) := info_u8

/-- what the document has laid behind k noughts -/
def padRow (k : Nat) : List Int := 128 :: List.replicate k 0
theorem padRow_len (k : Nat) : (padRow k).length = k + 1 := by simp [padRow]
theorem padRow_step (k : Nat) : padRow k ++ [0] = padRow (k + 1) := by
  unfold padRow
  rw [List.replicate_succ', List.cons_append]
/-- .. and behind j of the eight bytes -/
def endRow (n : Int) (j : Nat) : List Int := padRow (noughts n) ++ (be8 (8 * n)).take j
theorem endRow_len (n : Int) (j : Nat) (hj : j ≤ 8) : (endRow n j).length = noughts n + 1 + j := by simp [endRow, padRow_len, be8_len]; omega
theorem endRow_step (n : Int) (j : Nat) (hj : j < 8) : endRow n j ++ [8 * n / 2 ^ (8 * (7 - j)) % 256] = endRow n (j + 1) := by
  have hil : j < (be8 (8 * n)).length := by rw [be8_len]; exact hj
  unfold endRow
  rw [List.append_assoc, List.take_succ_eq_append_getElem hil]
  simp [be8]
theorem endRow_full (n : Int) (h : n < 1152921504606846976) : endRow n 8 = behindOf n := by
  unfold endRow behindOf padRow
  rw [if_pos h, List.take_of_length_le (by rw [be8_len]; exact Nat.le_refl _)]
  rfl
/-- how long a slice is, of its value -/
def lenV : Value → Nat
  | .slice _ n _ => n
  | _ => 0

set_option maxHeartbeats 1000000 in
theorem RBehind_any (w : World) (n : Int) (hn : 0 ≤ n ∧ n ≤ 18446744073709551615) :
    Calls Tryd.prog 35 #[.int .u64 n] w fun e w' => ∃ v, e = .returned v ∧ Own w' w.heap.size v (behindOf n) ∧ Below w.heap.size w w' := by
  obtain ⟨hn0, hn1⟩ := hn
  by_cases hlt : n < 1152921504606846976
  · have hz := noughts_lt n
    have hzz : ((noughts n : Nat) : Int) = (55 - n) % 64 := by unfold noughts; omega
    obtain ⟨z, hze⟩ : ∃ z, z = noughts n := ⟨_, rfl⟩
    rw [← hze] at hz hzz
    have HZ := Lib.hid hze
    have HZZ := Lib.hid hzz
    clear hze hzz
    go_enter Tryd.func35, Tryd.ntmps35
    go_wp2_with fail
    have hO0 := Lib.hid (OwnK.lit .u8 5 w [128] #[.int .u8 128] 1 rfl rfl (by rw [maxLen_eq]; omega))
    have hbs : w.heap.size ≤ (w.alloc (.cells #[.int .u8 128] 5)).heap.size := by simp
    have hb0 : Below w.heap.size w (w.alloc (.cells #[.int .u8 128] 5)) := (Below.refl _ w).alloc (Nat.le_refl _) _
    obtain ⟨w0, hw0⟩ : ∃ w0, w0 = w.alloc (.cells #[.int .u8 128] 5) := ⟨_, rfl⟩
    rw [← hw0] at hO0 hb0 ⊢
    clear hw0 hbs
    go_loopw [3] (fun v wr => ∃ k : Nat, k ≤ z ∧ Hid (OwnK .u8 5 wr w.heap.size v (padRow k)) ∧ Below w.heap.size w wr) (fun v _ => 65 - lenV v)
    case atStart => exact ⟨0, by omega, hO0, hb0⟩
    case round =>
      obtain ⟨k, hk, hO, hb⟩ := hrel
      obtain ⟨A, l, c, rfl, hl, _⟩ := hO.out.open
      rw [padRow_len] at hl
      subst hl
      have hbs := Lib.hid hb.size
      by_cases hlt2 : k < z
      · have h56 : ((n + ((k : Int) + 1)) % 64 != 56) = true := by
          have := HZZ.out
          simp
          omega
        have hpl := Lib.hid (padRow_len k)
        have hkb : k ≤ 64 := by omega
        go_wp2_with (first
          | (at_builtin; refine wpList_append_lit rfl (.tmp 15) (.tmp 16) .u8 22 5 1 Tryd.underlying22 info_b rfl w.heap.size _ (padRow k) [0] _ rfl 1 1 rfl rfl rfl hO.out (by rw [hpl.out]; omega) (by rw [hpl.out]; omega) hbs.out ?_; intro v1 w1 ho1 hg1)
          | fail)
        have hO1 := ho1.out
        rw [padRow_step] at hO1
        have hv1 : 65 - lenV v1 < 65 - lenV (.slice A (k + 1) c) := by
          obtain ⟨A', l', c', rfl, hl', _⟩ := hO1.open
          rw [padRow_len] at hl'
          show 65 - l' < 65 - (k + 1)
          omega
        have HV1 := Lib.hid hv1
        clear hv1
        go_roundw
        case rel => exact ⟨k + 1, by omega, hO1, hb.trans (hg1.out.below hO.out hbs.out)⟩
        case measure => exact HV1.out
      · have h56 : (n + ((k : Int) + 1)) % 64 = 56 := by
          have := HZZ.out
          omega
        have hO1 : Hid (OwnK .u8 5 wr w.heap.size (.slice A (k + 1) c) (endRow n 0)) := by
          have h0 := hO.out
          rw [show k = z by omega, HZ.out] at h0
          unfold endRow
          rw [List.take_zero, List.append_nil, show k = noughts n by have := HZ.out; omega]
          exact h0
        clear hO
        go_wp2_with fail
        go_outline
        obtain ⟨w5, hw5⟩ : ∃ w5, w5 = wr := ⟨_, rfl⟩
        rw [← hw5] at hO1 hb hbs ⊢
        clear hw5 h56
        go_loopw [3, 4] (fun v i wr => ∃ j : Nat, j ≤ 8 ∧ i = .int .i64 (7 - (j : Int)) ∧ Hid (OwnK .u8 5 wr w.heap.size v (endRow n j)) ∧ Below w.heap.size w wr) (fun _ i _ => (intOf i + 1).toNat)
        case atStart => exact ⟨0, by omega, rfl, hO1, hb⟩
        case round =>
          obtain ⟨j, hj, rfl, hO, hb⟩ := hrel
          obtain ⟨A, l, c, rfl, hl, _⟩ := hO.out.open
          rw [endRow_len n j hj] at hl
          subst hl
          have hbs := Lib.hid hb.size
          by_cases hlt3 : j < 8
          · have hpl := Lib.hid (endRow_len n j hj)
            have hzl := noughts_lt n
            have en : (8 * (7 - (j : Int))).toNat = 8 * (7 - j) := by omega
            go_wp2_with (first
              | (at_builtin; refine wpList_append_lit rfl (.tmp 22) (.tmp 30) .u8 22 5 1 Tryd.underlying22 info_b rfl w.heap.size _ (endRow n j) [8 * n / 2 ^ (8 * (7 - j)) % 256] _ rfl 1 1 rfl rfl rfl hO.out (by rw [hpl.out]; omega) (by rw [hpl.out]; omega) hbs.out ?_; intro v1 w1 ho1 hg1)
              | fail)
            have hO1 := ho1.out
            rw [endRow_step n j hlt3] at hO1
            go_roundw
            case rel => exact ⟨j + 1, by omega, by congr 1; omega, hO1, hb.trans (hg1.out.below hO.out hbs.out)⟩
            case measure => simp [intOf]; omega
          · have hge : (8 : Int) ≤ (j : Int) := by omega
            have hF : Hid (OwnK .u8 5 wr w.heap.size (.slice A (noughts n + 1 + j) c) (behindOf n)) := by
              rw [← endRow_full n hlt]
              have h0 := hO.out
              rwa [show j = 8 by omega] at h0 ⊢
            clear hO
            go_wp2_with fail
            go_ret
            exact ⟨_, rfl, hF.out, hb⟩
  · have hb0 := behindOf_none n hlt
    have HB0 := Lib.hid hb0
    have hge : 1152921504606846976 ≤ n := by omega
    clear hlt hb0
    go_enter Tryd.func35, Tryd.ntmps35
    go_wp2_with fail
    go_ret
    exact ⟨_, rfl, by rw [HB0.out]; exact Own.nil _ _, Below.refl _ _⟩
end Go.Proofs.YtomdgiikjnghcaaDoor
