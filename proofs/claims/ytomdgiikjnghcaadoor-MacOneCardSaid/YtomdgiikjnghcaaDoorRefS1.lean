/-
  Contracts of the document's layer 3 (refectoryref03): above, constant, primes.
-/
import Derived.Test.YtomdgiikjnghcaaDoorShaC
import Derived.Test.YtomdgiikjnghcaaDoorNums
namespace Go.Proofs.YtomdgiikjnghcaaDoor
open Go.RowKit

theorem and_low32_u64 (y : Int) : bits .and .u64 y 4294967295 = y % 4294967296 := by
  have e1 : (BitVec.ofInt 64 (4294967295 : Int)).toNat = 2 ^ 32 - 1 := by decide
  have e2 : ((BitVec.ofInt 64 y).toNat : Int) = y % 18446744073709551616 := by
    rw [BitVec.toNat_ofInt]
    omega
  show IntKind.u64.wrap ((BitVec.ofInt 64 y &&& BitVec.ofInt 64 4294967295).toNat : Int) = _
  rw [BitVec.toNat_and, e1, Nat.and_two_pow_sub_one_eq_mod, IntKind.wrap_u64]
  omega

/-- the document's 'above', digit by digit -/
def aboveZ (x p : Int) : Bool :=
  let a1 := x / 4294967296
  let a0 := x % 4294967296
  let s0 := IntKind.u64.wrap (a0 * a0)
  let s1 := IntKind.u64.wrap (IntKind.u64.wrap (2 * a1 * a0) + s0 / 4294967296)
  let s2 := IntKind.u64.wrap (IntKind.u64.wrap (a1 * a1) + s1 / 4294967296)
  let lo := s0 % 4294967296
  let mid := s1 % 4294967296
  let t0 := IntKind.u64.wrap (lo * a0)
  let t1 := IntKind.u64.wrap (IntKind.u64.wrap (lo * a1) + t0 / 4294967296)
  let u1 := IntKind.u64.wrap (IntKind.u64.wrap (mid * a0) + t1 % 4294967296)
  let t2 := IntKind.u64.wrap (IntKind.u64.wrap (IntKind.u64.wrap (mid * a1) + t1 / 4294967296) + u1 / 4294967296)
  let v2 := IntKind.u64.wrap (IntKind.u64.wrap (s2 * a0) + t2 % 4294967296)
  let t3 := IntKind.u64.wrap (IntKind.u64.wrap (IntKind.u64.wrap (s2 * a1) + t2 / 4294967296) + v2 / 4294967296)
  decide (p ≤ t3)

set_option maxHeartbeats 400000 in
theorem above_any (w : World) (x p : Int) (h : 0 ≤ x ∧ x ≤ 18446744073709551615) (hp : 0 ≤ p ∧ p ≤ 18446744073709551615) :
    Calls Tryd.prog 47 #[.int .u64 x, .int .u64 p] w fun e w' => e = .returned (.bool (aboveZ x p)) ∧ w = w' := by
  obtain ⟨h0, h1⟩ := h
  obtain ⟨p0, p1⟩ := hp
  have hand := and_low32_u64
  go_enter Tryd.func47, Tryd.ntmps47
  go_wp2
  go_ret
  exact ⟨rfl, rfl⟩

/-- the root that the document finds, behind n of its 36 bits -/
def cubeX (p : Int) : Nat → Int
  | 0 => 0
  | n + 1 => if aboveZ (cubeX p n + 34359738368 / 2 ^ n) p = true then cubeX p n else cubeX p n + 34359738368 / 2 ^ n
def constZ (p : Int) : Int := cubeX p 36 % 4294967296

theorem bit_next (n : Nat) : (34359738368 : Int) / 2 ^ n / 2 = 34359738368 / 2 ^ (n + 1) := by
  rw [Int.pow_succ, Int.ediv_ediv_of_nonneg (by exact Int.le_of_lt (Int.pow_pos (by omega)))]
theorem bit_pos (n : Nat) (h : n < 36) : 0 < (34359738368 : Int) / 2 ^ n := by
  have key : ∀ n : Fin 36, 0 < (34359738368 : Int) / 2 ^ n.1 := by decide
  exact key ⟨n, h⟩
theorem bit_bound (n : Nat) : 0 ≤ (34359738368 : Int) / 2 ^ n ∧ (34359738368 : Int) / 2 ^ n ≤ 34359738368 :=
  ⟨Int.ediv_nonneg (by omega) (Int.le_of_lt (Int.pow_pos (by omega))), Int.ediv_le_self _ (by omega)⟩
theorem cubeX_bound (p : Int) (n : Nat) : 0 ≤ cubeX p n ∧ cubeX p n ≤ 34359738368 * n := by
  induction n with
  | zero => simp [cubeX]
  | succ n ih =>
    have h := bit_bound n
    simp only [cubeX]
    split <;> omega

set_option maxRecDepth 100000 in
set_option maxHeartbeats 400000 in
theorem constant_any (w : World) (p : Int) (hp : 0 ≤ p ∧ p ≤ 18446744073709551615) :
    Calls Tryd.prog 43 #[.int .u64 p] w fun e w' => e = .returned (.int .u32 (constZ p)) ∧ w = w' := by
  have ca := fun w x h => Lib.hid (above_any w x p h hp)
  obtain ⟨p0, p1⟩ := hp
  go_enter Tryd.func43, Tryd.ntmps43
  go_wp2_with fail
  go_loop [3, 4] (fun x b => ∃ n : Nat, n ≤ 36 ∧ (∃ z : Int, Hid (z = cubeX p n) ∧ x = .int .u64 z) ∧ (∃ y : Int, Hid (y = 34359738368 / 2 ^ n) ∧ b = .int .u64 y)) (fun _ b => (intOf b).toNat)
  case atStart => exact ⟨0, by omega, ⟨0, rfl, rfl⟩, ⟨34359738368, by show _ = _; decide, rfl⟩⟩
  case round =>
    obtain ⟨n, hn, ⟨z, hz, rfl⟩, ⟨y, hy, rfl⟩⟩ := hrel
    have hzb := cubeX_bound p n
    rw [← hz.out] at hzb
    have hyb := bit_bound n
    rw [← hy.out] at hyb
    obtain ⟨hz0, hz1⟩ := hzb
    obtain ⟨hy0, hy1⟩ := hyb
    have hnx := bit_next n
    rw [← hy.out] at hnx
    have HNX := Lib.hid hnx
    clear hnx
    have hz2 : z ≤ 1236950581248 := by omega
    clear hz1
    by_cases hlt : n < 36
    · have hpos := bit_pos n hlt
      rw [← hy.out] at hpos
      have hm : (y / 2).toNat < y.toNat := by omega
      go_wp2_with fail
      have cb := ca w (z + y) (by omega)
      obtain ⟨b, hb⟩ : ∃ b, b = aboveZ (z + y) p := ⟨_, rfl⟩
      rw [← hb] at cb
      have HB := Lib.hid hb
      clear hb
      refine cb.out.mono ?_
      rintro e w' ⟨rfl, rfl⟩
      have hstep : cubeX p (n + 1) = if b = true then z else z + y := by
        simp only [cubeX]
        rw [← hz.out, ← hy.out, ← HB.out]
      have HST := Lib.hid hstep
      clear hstep
      cases b with
      | true =>
        go_wp2_with fail
        go_round
        case rel => exact ⟨n + 1, by omega, ⟨z, by show _ = _; rw [HST.out]; rfl, rfl⟩, ⟨y / 2, HNX.out, rfl⟩⟩
        case measure => simp [intOf]; omega
      | false =>
        go_wp2_with fail
        go_round
        case rel => exact ⟨n + 1, by omega, ⟨z + y, by show _ = _; rw [HST.out]; rfl, rfl⟩, ⟨y / 2, HNX.out, rfl⟩⟩
        case measure => simp [intOf]; omega
    · have hz0' : y = 0 := by rw [hy.out, show n = 36 by omega]; decide
      have hle : y ≤ 0 := by omega
      have hz36 : Hid (constZ p = z % 4294967296) := by show _ = _; rw [hz.out, show n = 36 by omega]; rfl
      clear hz0' HNX hlt hy hz
      go_wp2_with fail
      go_ret
      exact ⟨by rw [hz36.out]; rfl, rfl⟩

/-! ### the first primes -/

def PP : Nat → List Int
  | 0 => []
  | j + 1 => if (PP j).all (fun q => ((2 + j : Nat) : Int) % q != 0) = true then PP j ++ [((2 + j : Nat) : Int)] else PP j
theorem PP_mono (j : Nat) : (PP j).length ≤ (PP (j + 1)).length := by
  simp only [PP]
  split <;> simp
theorem PP_mono' {i j : Nat} (h : i ≤ j) : (PP i).length ≤ (PP j).length := by
  induction j with
  | zero => obtain rfl : i = 0 := by omega
            exact Nat.le_refl _
  | succ j ih =>
    rcases Nat.lt_or_ge i (j + 1) with h1 | h1
    · exact Nat.le_trans (ih (by omega)) (PP_mono j)
    · obtain rfl : i = j + 1 := by omega
      exact Nat.le_refl _
theorem PP_bound (j : Nat) : ∀ x ∈ PP j, 2 ≤ x ∧ x < 2 + j := by
  induction j with
  | zero => intro x hx; cases hx
  | succ j ih =>
    intro x hx
    simp only [PP] at hx
    split at hx
    · rcases List.mem_append.1 hx with h | h
      · have := ih x h; omega
      · rcases List.mem_singleton.1 h with rfl
        omega
    · have := ih x hx; omega
theorem PP_309 : (PP 309).length = 63 := by decide +kernel
theorem PP_310 : (PP 310).length = 64 := by decide +kernel
def P64 : List Int := PP 310
theorem P64_len : P64.length = 64 := PP_310
theorem P64_KK : ∀ i : Fin 64, constZ (P64.getD i.1 0) = KK.getD i.1 0 := by decide +kernel
theorem info_u64 : (Tryd.prog.info? 53).map (fun i => (i.zero, i.size, i.bytes)) = some (some (.int .u64 0), 1, 8) := by kernel_rfl

/-- whether the first i of them do not divide k -/
def divs (k : Int) (l : List Int) (i : Nat) : Bool := (l.take i).all (fun q => k % q != 0)
theorem divs_step (k : Int) (l : List Int) (i : Nat) (h : i < l.length) : divs k l (i + 1) = (divs k l i && (k % l.getD i 0 != 0)) := by
  unfold divs
  have e : l.getD i 0 = l[i] := by simp [h]
  rw [List.take_succ_eq_append_getElem h, e, List.all_append, List.all_cons, List.all_nil, Bool.and_true]

set_option maxHeartbeats 1000000 in
theorem primes_any (w : World) :
    Calls Tryd.prog 41 #[.int .i64 64] w fun e w' => ∃ v, e = .returned v ∧ OwnK .u64 53 w' w.heap.size v P64 ∧ Below w.heap.size w w' := by
  go_enter Tryd.func41, Tryd.ntmps41
  go_wp2_with fail
  go_loopw [3, 4] (fun v k wr => ∃ j : Nat, j ≤ 310 ∧ k = .int .u64 ((2 + j : Nat) : Int) ∧ Hid (OwnK .u64 53 wr w.heap.size v (PP j)) ∧ Below w.heap.size w wr) (fun _ k _ => 312 - (intOf k).toNat)
  case atStart => exact ⟨0, by omega, rfl, OwnK.nil _ _ _ _, Below.refl _ _⟩
  case round =>
    obtain ⟨j, hj, rfl, hO, hB⟩ := hrel
    obtain ⟨A, n, c, rfl, hn, hnc, hn2, hA, hcell⟩ := hO.out.open
    by_cases hlt : j < 310
    · have hn63 : n ≤ 63 := by
        have := PP_mono' (show j ≤ 309 by omega)
        rw [PP_309, hn] at this
        exact this
      obtain ⟨l, hl⟩ : ∃ l, l = PP j := ⟨_, rfl⟩
      have hpb := PP_bound j
      rw [← hl] at hO hn hcell hpb
      have HLL := Lib.hid hn
      have hsz := Lib.hid hB.size
      have HPB := Lib.hid hpb
      have HC := Lib.hid hcell
      have HLe := Lib.hid hl
      obtain ⟨k, hk⟩ : ∃ k, k = 2 + j := ⟨_, rfl⟩
      have hk1 : 2 ≤ k := by omega
      have hk2 : k ≤ 311 := by omega
      rw [← hk]
      have HKe := Lib.hid hk
      clear hn hcell hpb hl hk
      go_wp2_with fail
      obtain ⟨wo, hwo⟩ : ∃ wo, wo = wr := ⟨_, rfl⟩
      rw [← hwo] at hO hB hsz HC ⊢
      clear hwo
      go_loop [5, 6] (fun b i => ∃ q : Nat, q ≤ n ∧ i = .int .i64 q ∧ ∃ d : Bool, Hid (d = divs k l q) ∧ b = .bool d) (fun _ i => n - (intOf i).toNat)
      case atStart => exact ⟨0, by omega, rfl, true, rfl, rfl⟩
      case round =>
        obtain ⟨q, hq, rfl, d, hd, rfl⟩ := hrel
        by_cases hlt2 : q < n
        · obtain ⟨g, rfl, hg1, hg2, hcc⟩ := HC.out (by omega)
          have gc := hcc q hlt2
          have hb : 2 ≤ l.getD q 0 ∧ l.getD q 0 < 2 + j := HPB.out _ (by
            have h1 : q < l.length := by rw [HLL.out]; exact hlt2
            have e : l.getD q 0 = l[q] := by simp [h1]
            rw [e]
            exact List.getElem_mem h1)
          have hst := divs_step k l q (by rw [HLL.out]; exact hlt2)
          obtain ⟨p, hp⟩ : ∃ p, p = l.getD q 0 := ⟨_, rfl⟩
          rw [← hp] at gc hb hst
          rw [← hd.out] at hst
          obtain ⟨hb0, hb1⟩ := hb
          have hb2 : p ≤ 400 := by omega
          have HST := Lib.hid hst
          clear hcc hp hst hb1
          cases d with
          | false =>
            go_wp2_with fail
            go_round
            case rel => exact ⟨q + 1, by omega, by go_num, false, by show _ = _; rw [HST.out]; rfl, rfl⟩
            case measure => simp [intOf]; omega
          | true =>
            go_wp2_with fail
            go_round
            case rel => exact ⟨q + 1, by omega, by go_num, _, by show _ = _; rw [HST.out]; rfl, rfl⟩
            case measure => simp [intOf]; omega
        · have hge : (n : Int) ≤ (q : Int) := by omega
          have hd' : d = l.all (fun p => (k : Int) % p != 0) := by
            rw [hd.out, show q = n by omega]
            unfold divs
            rw [List.take_of_length_le (by rw [HLL.out]; exact Nat.le_refl _)]
          have hs : PP (j + 1) = if d = true then l ++ [(k : Int)] else l := by
            simp only [PP]
            rw [← HLe.out, ← HKe.out, ← hd']
          have HSt := Lib.hid hs
          clear hs hd' hd
          cases d with
          | false =>
            go_wp2_with fail
            go_roundw
            case rel => exact ⟨j + 1, by omega, by rw [show 2 + (j + 1) = k + 1 by have := HKe.out; omega]; go_num, by show OwnK _ _ _ _ _ _; rw [HSt.out]; exact hO.out, hB⟩
            case measure => simp [intOf]; omega
          | true =>
            go_wp2_with (first
              | (at_builtin; refine wpList_append_lit rfl (.tmp 30) (.tmp 32) .u64 62 53 8 Tryd.underlying62 info_u64 rfl w.heap.size _ l [(k : Int)] _ rfl 1 1 rfl rfl rfl hO.out (by have := HLL.out; omega) (by have := HLL.out; omega) hsz.out ?_; intro v1 w1 ho1 hg1)
              | fail)
            go_roundw
            case rel => exact ⟨j + 1, by omega, by rw [show 2 + (j + 1) = k + 1 by have := HKe.out; omega]; go_num, by show OwnK _ _ _ _ _ _; rw [HSt.out]; exact ho1.out, hB.trans (hg1.out.below hO.out hsz.out)⟩
            case measure => simp [intOf]; omega
    · have hj' : j = 310 := by omega
      rw [hj'] at hO hn
      have hn' : n = 64 := by rw [← hn]; exact PP_310
      have HO := Lib.hid hO.out
      have hge : 64 ≤ (n : Int) := by omega
      clear hO hn hj' hn' hlt hcell
      go_wp2_with fail
      go_ret
      exact ⟨_, rfl, HO.out, hB⟩
end Go.Proofs.YtomdgiikjnghcaaDoor
