/-
  Layer 7 (head): the contracts of head.Known, isAsync, ofKind, asyncOrTree.
-/
import Derived.Test.YthoddihoccpidaaHeadM
import Derived.Test.YthoddihoccpidaaBits
import Derived.WalkKit
import Derived.WalkSpells
import Derived.WalkLawsBesides
import Derived.Deep.QuietTactic
import Derived.BigQuiet
import Derived.Lib.Hide
namespace Go.Proofs.Ythoddihoccpidaa
open Go.RowKit

theorem flag_as (x : Int) (h0 : 0 ≤ x) (h1 : x ≤ 4294967295) : (bits .and .u32 x 2 != 0) = isAs x := by
  obtain ⟨a, rfl⟩ := Int.eq_ofNat_of_zero_le h0
  rw [show (2 : Int) = ((2 : Nat) : Int) from rfl, u32_and_nat a 2 (by omega) (by omega), show (2 : Nat) = 2 ^ 1 from rfl, nat_bit 1 a]
  unfold isAs
  rw [Bool.eq_iff_iff, bne_iff_ne, decide_eq_true_iff]
  omega
theorem flag_rest (x : Int) (h0 : 0 ≤ x) (h1 : x ≤ 4294967295) : (bits .andNot .u32 x 15 == 0) = decide (x < 16) := by
  obtain ⟨a, rfl⟩ := Int.eq_ofNat_of_zero_le h0
  rw [show (15 : Int) = ((15 : Nat) : Int) from rfl, u32_andNot_nat a 15 (by omega) (by omega)]
  have e1 : (a &&& (4294967295 - 15)) % 2 ^ 4 = 0 := by
    rw [Nat.and_mod_two_pow]
    exact Nat.and_zero _
  have e2 : (a &&& (4294967295 - 15)) / 2 ^ 4 = a / 16 := by
    rw [Nat.and_div_two_pow, show (4294967295 - 15) / 2 ^ 4 = 2 ^ 28 - 1 from by decide, Nat.and_two_pow_sub_one_eq_mod]
    exact Nat.mod_eq_of_lt (by omega)
  rw [Bool.eq_iff_iff, beq_iff_eq, decide_eq_true_iff]
  omega

theorem known_cases {c : Int} (h : known c = true) : c = 0 ∨ c = 1 ∨ c = 2 ∨ c = 3 ∨ c = 4 ∨ c = 5 ∨ c = 6 ∨ c = 7 ∨ c = 8 ∨ c = 9 ∨ c = 10 ∨ c = 12 ∨ c = 13 ∨ c = 14 ∨ c = 16 ∨ c = 17 ∨ c = 18 := by
  simpa [known, commands] using h
theorem known_none {c : Int} (h : known c = false) : ∀ x ∈ commands, (c == x) = false := by
  intro x hx
  rw [beq_eq_false_iff_ne]
  rintro rfl
  rw [show known c = true from List.contains_iff_mem.2 hx] at h
  cases h

set_option maxHeartbeats 1000000 in
theorem Known_any (w : World) (c : Int) :
    Calls Try.prog 15 #[.int .u16 c] w fun e w' => e = .returned (.bool (known c)) ∧ w = w' := by
  by_cases h : known c = true
  · rcases known_cases h with rfl | rfl | rfl | rfl | rfl | rfl | rfl | rfl | rfl | rfl | rfl | rfl | rfl | rfl | rfl | rfl | rfl <;>
    · rw [h]
      clear h
      go_enter Try.func15, Try.ntmps15
      go_wp2
      go_ret
      exact ⟨rfl, rfl⟩
  · have h' : known c = false := by simpa using h
    have k := known_none h'
    rw [h']
    have b0 := k 0 (by decide)
    have b1 := k 1 (by decide)
    have b2 := k 2 (by decide)
    have b3 := k 3 (by decide)
    have b4 := k 4 (by decide)
    have b5 := k 5 (by decide)
    have b6 := k 6 (by decide)
    have b7 := k 7 (by decide)
    have b8 := k 8 (by decide)
    have b9 := k 9 (by decide)
    have b10 := k 10 (by decide)
    have b12 := k 12 (by decide)
    have b13 := k 13 (by decide)
    have b14 := k 14 (by decide)
    have b16 := k 16 (by decide)
    have b17 := k 17 (by decide)
    have b18 := k 18 (by decide)
    clear k h h'
    go_enter Try.func15, Try.ntmps15
    go_wp2
    go_ret
    exact ⟨rfl, rfl⟩

set_option maxHeartbeats 400000 in
theorem isAsync_any (w : World) (h : Hd) (k : h.ok) :
    Calls Try.prog 47 #[hv h] w fun e w' => e = .returned (.bool (isAs h.fl)) ∧ Below w.heap.size w w' := by
  have hb := Lib.hid (flag_as h.fl k.fl.1 k.fl.2)
  obtain ⟨z, hz⟩ : ∃ z, z = isAs h.fl := ⟨_, rfl⟩
  rw [← hz] at hb ⊢
  have HB0 := hb.out
  obtain ⟨v, hvv⟩ : ∃ v, v = hv h := ⟨_, rfl⟩
  have HV := Lib.hid hvv
  rw [← hvv]
  clear hz k hb hvv
  go_enter Try.func47, Try.ntmps47
  go_wp2_with ((with_reducible show wpList _ _ _ (⟨some 1, _, _, _, _, _⟩ :: _) _ _); refine wpList_box_blk rfl _ (.tmp 0) rfl (hcells h) HV.out ?_; intro g w1 hg1 hg2 B1 L1; have gc := HB.c4 B1.out)
  go_ret
  exact ⟨rfl, L1.out⟩

set_option maxHeartbeats 400000 in
theorem ofKind_any (w : World) (h : Hd) (k : h.ok) :
    Calls Try.prog 28 #[hv h] w fun e w' => e = .returned (hv (kindP h)) ∧ Below w.heap.size w w' := by
  have C0 : Hid (∀ w : World, Calls Try.prog 47 #[hv h] w fun e w' => e = .returned (.bool (isAs h.fl)) ∧ Below w.heap.size w w') := fun w => isAsync_any w h k
  have HL := Lib.hid (hcells_len k)
  have HK := Lib.hid (hcells_len (kindP_ok k))
  have HKO := Lib.hid (hcells_one (kindP h))
  have HZ := Lib.hid (hcells_len zeroHd_ok)
  have ZH := Lib.hid zero_hd
  have h8 : isAs h.fl = true → (hcells h).set 8 (.int .u32 0) = hcells (kindP h) := fun hi => by unfold kindP; rw [if_pos hi]; rfl
  have h7 : isAs h.fl = false → (hcells h).set 7 (.int .u64 0) = hcells (kindP h) := fun hi => by unfold kindP; rw [if_neg (by rw [hi]; decide)]; rfl
  obtain ⟨zs, hzs⟩ : ∃ zs, zs = hcells zeroHd := ⟨_, rfl⟩
  obtain ⟨cs, hcs⟩ : ∃ cs, cs = hcells h := ⟨_, rfl⟩
  obtain ⟨ds, hds⟩ : ∃ ds, ds = hcells (kindP h) := ⟨_, rfl⟩
  unfold hv at C0 ⊢
  rw [← hcs] at C0 HL h7 h8 ⊢
  rw [← hds] at HK HKO h7 h8 ⊢
  rw [← hzs] at HZ ZH
  clear hzs hcs hds k
  by_cases hi : isAs h.fl = true
  · rw [hi] at C0
    have HE := Lib.hid (h8 hi)
    clear hi h7 h8
    go_enter Try.func28, Try.ntmps28
    go_wp2_with (first
      | ((with_reducible show wpList _ _ _ (⟨some 1, _, _, _, _, _⟩ :: _) _ _); refine wpList_box_blk rfl _ (.tmp 0) rfl cs rfl ?_; intro g w1 hg1 hg2 B1 L1)
      | ((with_reducible show wpList _ _ _ (⟨some 2, _, _, _, _, _⟩ :: _) _ _); refine wpList_alloc_blk rfl _ rfl zs _ ZH ?_; intro g2 w2 hg3 hg4 B2 L2; have B12 := Lib.hid (B1.out.over L2.out); have L12 := Lib.hid (step L1.out L2.out))
      | ((with_reducible show wpList _ _ _ (⟨some 3, _, _, _, _, _⟩ :: _) _ _); refine wpList_load_blk rfl _ (.tmp 1) rfl g rfl _ _ B12 26 _ Try.underlying28 rfl size_hd HL ?_)
      | fail)
    refine (C0.out _).mono ?_
    rintro e w3 ⟨rfl, L3⟩
    have B13 := Lib.hid (B12.out.over L3)
    have B23 := Lib.hid (B2.out.over L3)
    have L13 := Lib.hid (step L12.out L3)
    have hsz := L2.out.size
    have hne : g ≠ g2 := by omega
    clear B12 B2 L12 L3 C0 B1 L1 L2
    go_wp2_with (first
      | ((with_reducible show wpList _ _ _ (⟨none, .store _ (.tmp 5) _, _, _, _, _⟩ :: _) _ _); refine wpList_store_fld rfl _ (.tmp 5) _ rfl g 8 rfl _ cs (.int .u32 0) rfl B13 (by have := HL.out; show 8 < _; omega) (by kernel_rfl) rfl ?_; intro w4 B14 O4 hg5; rw [HE.out] at B14; have B24 := Lib.hid (B23.out.only O4.out (by omega)))
      | ((with_reducible show wpList _ _ _ (⟨some 7, _, _, _, _, _⟩ :: _) _ _); refine wpList_load_blk rfl _ (.tmp 1) rfl g rfl _ ds B14 26 _ Try.underlying28 rfl size_hd HK ?_)
      | ((with_reducible show wpList _ _ _ (⟨none, .store _ (.tmp 2) _, _, _, _, _⟩ :: _) _ _); refine wpList_store_blk rfl _ (.tmp 2) (.tmp 7) rfl g2 rfl _ zs ds rfl B24 26 size_hd HZ HK HKO ?_; intro w5 B25 O5 hg6))
    refine bodyPost_ret (v := .agg ds.toArray) ?_ rfl ⟨rfl, below_only (below_only L13.out O4.out (by omega)) O5.out (by omega)⟩
    exact results_cell_row rfl _ _ g2 _ _ (0, 0) _ rfl B25.out Try.underlying28 rfl (by rw [size_hd]; have := HK.out; simp [this])
  · have hi' : isAs h.fl = false := by simpa using hi
    rw [hi'] at C0
    have HE := Lib.hid (h7 hi')
    clear hi hi' h7 h8
    go_enter Try.func28, Try.ntmps28
    go_wp2_with (first
      | ((with_reducible show wpList _ _ _ (⟨some 1, _, _, _, _, _⟩ :: _) _ _); refine wpList_box_blk rfl _ (.tmp 0) rfl cs rfl ?_; intro g w1 hg1 hg2 B1 L1)
      | ((with_reducible show wpList _ _ _ (⟨some 2, _, _, _, _, _⟩ :: _) _ _); refine wpList_alloc_blk rfl _ rfl zs _ ZH ?_; intro g2 w2 hg3 hg4 B2 L2; have B12 := Lib.hid (B1.out.over L2.out); have L12 := Lib.hid (step L1.out L2.out))
      | ((with_reducible show wpList _ _ _ (⟨some 3, _, _, _, _, _⟩ :: _) _ _); refine wpList_load_blk rfl _ (.tmp 1) rfl g rfl _ _ B12 26 _ Try.underlying28 rfl size_hd HL ?_)
      | fail)
    refine (C0.out _).mono ?_
    rintro e w3 ⟨rfl, L3⟩
    have B13 := Lib.hid (B12.out.over L3)
    have B23 := Lib.hid (B2.out.over L3)
    have L13 := Lib.hid (step L12.out L3)
    have hsz := L2.out.size
    have hne : g ≠ g2 := by omega
    clear B12 B2 L12 L3 C0 B1 L1 L2
    go_wp2_with (first
      | ((with_reducible show wpList _ _ _ (⟨none, .store _ (.tmp 6) _, _, _, _, _⟩ :: _) _ _); refine wpList_store_fld rfl _ (.tmp 6) _ rfl g 7 rfl _ cs (.int .u64 0) rfl B13 (by have := HL.out; show 7 < _; omega) (by kernel_rfl) rfl ?_; intro w4 B14 O4 hg5; rw [HE.out] at B14; have B24 := Lib.hid (B23.out.only O4.out (by omega)))
      | ((with_reducible show wpList _ _ _ (⟨some 7, _, _, _, _, _⟩ :: _) _ _); refine wpList_load_blk rfl _ (.tmp 1) rfl g rfl _ ds B14 26 _ Try.underlying28 rfl size_hd HK ?_)
      | ((with_reducible show wpList _ _ _ (⟨none, .store _ (.tmp 2) _, _, _, _, _⟩ :: _) _ _); refine wpList_store_blk rfl _ (.tmp 2) (.tmp 7) rfl g2 rfl _ zs ds rfl B24 26 size_hd HZ HK HKO ?_; intro w5 B25 O5 hg6))
    refine bodyPost_ret (v := .agg ds.toArray) ?_ rfl ⟨rfl, below_only (below_only L13.out O4.out (by omega)) O5.out (by omega)⟩
    exact results_cell_row rfl _ _ g2 _ _ (0, 0) _ rfl B25.out Try.underlying28 rfl (by rw [size_hd]; have := HK.out; simp [this])

set_option maxHeartbeats 400000 in
theorem asyncOrTree_any (w : World) (h : Hd) (k : h.ok) :
    Calls Try.prog 41 #[hv h] w fun e w' => e = .returned (.int .u64 (aot h)) ∧ Below w.heap.size w w' := by
  have C0 : Hid (∀ w : World, Calls Try.prog 47 #[hv h] w fun e w' => e = .returned (.bool (isAs h.fl)) ∧ Below w.heap.size w w') := fun w => isAsync_any w h k
  have HL := Lib.hid (hcells_len k)
  obtain ⟨t0, t1⟩ := k.tr
  have e1 : isAs h.fl = true → aot h = h.asy := fun hi => by unfold aot; rw [if_pos hi]
  have e0 : isAs h.fl = false → aot h = h.tr * 4294967296 := fun hi => by unfold aot; rw [if_neg (by rw [hi]; decide)]
  obtain ⟨tr, htr⟩ : ∃ tr, tr = h.tr := ⟨_, rfl⟩
  obtain ⟨asy, hasy⟩ : ∃ asy, asy = h.asy := ⟨_, rfl⟩
  obtain ⟨cs, hcs⟩ : ∃ cs, cs = hcells h := ⟨_, rfl⟩
  unfold hv at C0 ⊢
  rw [← hcs] at C0 HL ⊢
  rw [← htr] at t0 t1 e0
  rw [← hasy] at e1
  have HT := Lib.hid htr
  have HA := Lib.hid hasy
  have HC := Lib.hid hcs
  clear htr hasy hcs k
  by_cases hi : isAs h.fl = true
  · rw [hi] at C0
    rw [e1 hi]
    clear hi e0 e1
    go_enter Try.func41, Try.ntmps41
    go_wp2_with (first
      | ((with_reducible show wpList _ _ _ (⟨some 1, _, _, _, _, _⟩ :: _) _ _); refine wpList_box_blk rfl _ (.tmp 0) rfl cs rfl ?_; intro g w1 hg1 hg2 B1 L1)
      | ((with_reducible show wpList _ _ _ (⟨some 3, _, _, _, _, _⟩ :: _) _ _); refine wpList_load_blk rfl _ (.tmp 1) rfl g rfl _ _ B1 26 _ Try.underlying28 rfl size_hd HL ?_)
      | fail)
    refine (C0.out _).mono ?_
    rintro e w3 ⟨rfl, L3⟩
    have gc : w3.cell? ⟨g, 7, none⟩ = some (.int .u64 asy) := by
      rw [HA.out]
      exact HB.c7 (HB.of HC.out (B1.out.over L3))
    go_wp2
    go_ret
    exact ⟨rfl, step L1.out L3⟩
  · have hi' : isAs h.fl = false := by simpa using hi
    rw [hi'] at C0
    rw [e0 hi']
    clear hi hi' e0 e1
    go_enter Try.func41, Try.ntmps41
    go_wp2_with (first
      | ((with_reducible show wpList _ _ _ (⟨some 1, _, _, _, _, _⟩ :: _) _ _); refine wpList_box_blk rfl _ (.tmp 0) rfl cs rfl ?_; intro g w1 hg1 hg2 B1 L1)
      | ((with_reducible show wpList _ _ _ (⟨some 3, _, _, _, _, _⟩ :: _) _ _); refine wpList_load_blk rfl _ (.tmp 1) rfl g rfl _ _ B1 26 _ Try.underlying28 rfl size_hd HL ?_)
      | fail)
    refine (C0.out _).mono ?_
    rintro e w3 ⟨rfl, L3⟩
    have gc : w3.cell? ⟨g, 8, none⟩ = some (.int .u32 tr) := by
      rw [HT.out]
      exact HB.c8 (HB.of HC.out (B1.out.over L3))
    go_wp2
    go_ret
    exact ⟨rfl, step L1.out L3⟩
end Go.Proofs.Ythoddihoccpidaa
