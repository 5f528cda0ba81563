import Derived.WalkKit
import Derived.Deep.Draws
import Derived.Laws.Rows
import Derived.Laws.OwnMore
import Derived.Test.YtgfflnjggnadpaaDoorRows
import Derived.Laws.CopyOwn
import Derived.Laws.AppendOwnNone
import Derived.Lib.Hide
import Derived.Laws.Tables
import Derived.Laws.NewFold
import Derived.Deep.WholeRow
import Derived.Deep.MidRow
import Derived.Great.Walk
import Derived.Laws.Bits64
import Derived.Laws.BitsAllLaws
import Derived.WalkSpells
import Derived.WalkLawsBesides
import Derived.Deep.QuietTactic
import Derived.BigQuiet
import Derived.OrdersHeld
import Derived.Laws.StructEq
import Derived.ChangeKeysEq
import Derived.Deep.DeepCutAuto
import Derived.Deep.RegionLaw
import Derived.OpenShut
import Derived.StillTailTactics
import Derived.Lib.AppendZeros
import Derived.Deep.RegionWith
import Derived.Laws.AppendOwn
import Derived.OwnWalk
import Derived.Lib.OthersKept
import Derived.Laws.BytesArg
import Derived.Laws.IdiomStrings
import Derived.ProofKit
import Derived.ShutString
import Derived.SizedLaws
import Derived.ChangeOld
import Derived.Lib.SliceRun
import Derived.OneCell
import Derived.Deep.Strs
import Derived.Deep.Slices
import Derived.Test.YtgfflnjggnadpaaDoorWAA
namespace Go.Proofs.YtgfflnjggnadpaaDoor
set_option linter.all false
set_option maxRecDepth 100000
open Go.RowKit
theorem flag_as (x : Int) (h0 : 0 ≤ x) (h1 : x ≤ 4294967295) : (bits .and .u32 x 2 != 0) = isAs x := by
  obtain ⟨a, rfl⟩ := Int.eq_ofNat_of_zero_le h0
  rw [show (2 : Int) = ((2 : Nat) : Int) from rfl, u32_and_nat a 2 (by omega) (by omega), show (2 : Nat) = 2 ^ 1 from rfl, nat_bit 1 a]
  unfold isAs
  rw [Bool.eq_iff_iff, bne_iff_ne, decide_eq_true_iff]
  omega
theorem flag_rest (x : Int) (h0 : 0 ≤ x) (h1 : x ≤ 4294967295) : (bits .andNot .u32 x 15 == 0) = decide (x < 16) := by
  obtain ⟨a, rfl⟩ := Int.eq_ofNat_of_zero_le h0
  rw [show (15 : Int) = ((15 : Nat) : Int) from rfl, u32_andNot_nat a 15 (by omega) (by omega)]
  have e1 : (a &&& (4294967295 - 15)) % 2 ^ 4 = 0 := by
    rw [Nat.and_mod_two_pow]
    exact Nat.and_zero _
  have e2 : (a &&& (4294967295 - 15)) / 2 ^ 4 = a / 16 := by
    rw [Nat.and_div_two_pow, show (4294967295 - 15) / 2 ^ 4 = 2 ^ 28 - 1 from by decide, Nat.and_two_pow_sub_one_eq_mod]
    exact Nat.mod_eq_of_lt (by omega)
  rw [Bool.eq_iff_iff, beq_iff_eq, decide_eq_true_iff]
  omega
theorem known_cases {c : Int} (h : known c = true) : c = 0 ∨ c = 1 ∨ c = 2 ∨ c = 3 ∨ c = 4 ∨ c = 5 ∨ c = 6 ∨ c = 7 ∨ c = 8 ∨ c = 9 ∨ c = 10 ∨ c = 12 ∨ c = 13 ∨ c = 14 ∨ c = 16 ∨ c = 17 ∨ c = 18 := by
  simpa [known, commands] using h
theorem known_none {c : Int} (h : known c = false) : ∀ x ∈ commands, (c == x) = false := by
  intro x hx
  rw [beq_eq_false_iff_ne]
  rintro rfl
  rw [show known c = true from List.contains_iff_mem.2 hx] at h
  cases h
set_option maxHeartbeats 1000000 in
theorem Known_any (w : World) (c : Int) :
    Calls Tryd.prog 83 #[.int .u16 c] w fun e w' => e = .returned (.bool (known c)) ∧ w = w' := by
  by_cases h : known c = true
  · rcases known_cases h with rfl | rfl | rfl | rfl | rfl | rfl | rfl | rfl | rfl | rfl | rfl | rfl | rfl | rfl | rfl | rfl | rfl <;>
    · rw [h]
      clear h
      go_enter Tryd.func83, Tryd.ntmps83
      go_wp2
      go_ret
      exact ⟨rfl, rfl⟩
  · have h' : known c = false := by simpa using h
    have k := known_none h'
    rw [h']
    have b0 := k 0 (by decide)
    have b1 := k 1 (by decide)
    have b2 := k 2 (by decide)
    have b3 := k 3 (by decide)
    have b4 := k 4 (by decide)
    have b5 := k 5 (by decide)
    have b6 := k 6 (by decide)
    have b7 := k 7 (by decide)
    have b8 := k 8 (by decide)
    have b9 := k 9 (by decide)
    have b10 := k 10 (by decide)
    have b12 := k 12 (by decide)
    have b13 := k 13 (by decide)
    have b14 := k 14 (by decide)
    have b16 := k 16 (by decide)
    have b17 := k 17 (by decide)
    have b18 := k 18 (by decide)
    clear k h h'
    go_enter Tryd.func83, Tryd.ntmps83
    go_wp2
    go_ret
    exact ⟨rfl, rfl⟩
set_option maxHeartbeats 400000 in
theorem isAsync_any (w : World) (h : Hd) (k : h.ok) :
    Calls Tryd.prog 87 #[hv h] w fun e w' => e = .returned (.bool (isAs h.fl)) ∧ Below w.heap.size w w' := by
  have hb := Lib.hid (flag_as h.fl k.fl.1 k.fl.2)
  obtain ⟨z, hz⟩ : ∃ z, z = isAs h.fl := ⟨_, rfl⟩
  rw [← hz] at hb ⊢
  have HB0 := hb.out
  obtain ⟨v, hvv⟩ : ∃ v, v = hv h := ⟨_, rfl⟩
  have HV := Lib.hid hvv
  rw [← hvv]
  clear hz k hb hvv
  go_enter Tryd.func87, Tryd.ntmps87
  go_wp2_with ((with_reducible show wpList _ _ _ (⟨some 1, _, _, _, _, _⟩ :: _) _ _); refine wpList_box_blk rfl _ (.tmp 0) rfl (hcells h) HV.out ?_; intro g w1 hg1 hg2 B1 L1; have gc := HB.c4 B1.out)
  go_ret
  exact ⟨rfl, L1.out⟩
set_option maxHeartbeats 400000 in
theorem ofKind_any (w : World) (h : Hd) (k : h.ok) :
    Calls Tryd.prog 84 #[hv h] w fun e w' => e = .returned (hv (kindP h)) ∧ Below w.heap.size w w' := by
  have C0 : Hid (∀ w : World, Calls Tryd.prog 87 #[hv h] w fun e w' => e = .returned (.bool (isAs h.fl)) ∧ Below w.heap.size w w') := fun w => isAsync_any w h k
  have HL := Lib.hid (hcells_len k)
  have HK := Lib.hid (hcells_len (kindP_ok k))
  have HKO := Lib.hid (hcells_one (kindP h))
  have HZ := Lib.hid (hcells_len zeroHd_ok)
  have ZH := Lib.hid zero_hd
  have h8 : isAs h.fl = true → (hcells h).set 8 (.int .u32 0) = hcells (kindP h) := fun hi => by unfold kindP; rw [if_pos hi]; rfl
  have h7 : isAs h.fl = false → (hcells h).set 7 (.int .u64 0) = hcells (kindP h) := fun hi => by unfold kindP; rw [if_neg (by rw [hi]; decide)]; rfl
  obtain ⟨zs, hzs⟩ : ∃ zs, zs = hcells zeroHd := ⟨_, rfl⟩
  obtain ⟨cs, hcs⟩ : ∃ cs, cs = hcells h := ⟨_, rfl⟩
  obtain ⟨ds, hds⟩ : ∃ ds, ds = hcells (kindP h) := ⟨_, rfl⟩
  unfold hv at C0 ⊢
  rw [← hcs] at C0 HL h7 h8 ⊢
  rw [← hds] at HK HKO h7 h8 ⊢
  rw [← hzs] at HZ ZH
  clear hzs hcs hds k
  by_cases hi : isAs h.fl = true
  · rw [hi] at C0
    have HE := Lib.hid (h8 hi)
    clear hi h7 h8
    go_enter Tryd.func84, Tryd.ntmps84
    go_wp2_with (first
      | ((with_reducible show wpList _ _ _ (⟨some 1, _, _, _, _, _⟩ :: _) _ _); refine wpList_box_blk rfl _ (.tmp 0) rfl cs rfl ?_; intro g w1 hg1 hg2 B1 L1)
      | ((with_reducible show wpList _ _ _ (⟨some 2, _, _, _, _, _⟩ :: _) _ _); refine wpList_alloc_blk rfl _ rfl zs _ ZH ?_; intro g2 w2 hg3 hg4 B2 L2; have B12 := Lib.hid (B1.out.over L2.out); have L12 := Lib.hid (step L1.out L2.out))
      | ((with_reducible show wpList _ _ _ (⟨some 3, _, _, _, _, _⟩ :: _) _ _); refine wpList_load_blk rfl _ (.tmp 1) rfl g rfl _ _ B12 26 _ Tryd.underlying49 rfl size_hd HL ?_)
      | fail)
    refine (C0.out _).mono ?_
    rintro e w3 ⟨rfl, L3⟩
    have B13 := Lib.hid (B12.out.over L3)
    have B23 := Lib.hid (B2.out.over L3)
    have L13 := Lib.hid (step L12.out L3)
    have hsz := L2.out.size
    have hne : g ≠ g2 := by omega
    clear B12 B2 L12 L3 C0 B1 L1 L2
    go_wp2_with (first
      | ((with_reducible show wpList _ _ _ (⟨none, .store _ (.tmp 5) _, _, _, _, _⟩ :: _) _ _); refine wpList_store_fld rfl _ (.tmp 5) _ rfl g 8 rfl _ cs (.int .u32 0) rfl B13 (by have := HL.out; show 8 < _; omega) (by kernel_rfl) rfl ?_; intro w4 B14 O4 hg5; rw [HE.out] at B14; have B24 := Lib.hid (B23.out.only O4.out (by omega)))
      | ((with_reducible show wpList _ _ _ (⟨some 7, _, _, _, _, _⟩ :: _) _ _); refine wpList_load_blk rfl _ (.tmp 1) rfl g rfl _ ds B14 26 _ Tryd.underlying49 rfl size_hd HK ?_)
      | ((with_reducible show wpList _ _ _ (⟨none, .store _ (.tmp 2) _, _, _, _, _⟩ :: _) _ _); refine wpList_store_blk rfl _ (.tmp 2) (.tmp 7) rfl g2 rfl _ zs ds rfl B24 26 size_hd HZ HK HKO ?_; intro w5 B25 O5 hg6))
    refine bodyPost_ret (v := .agg ds.toArray) ?_ rfl ⟨rfl, below_only (below_only L13.out O4.out (by omega)) O5.out (by omega)⟩
    exact results_cell_row rfl _ _ g2 _ _ (0, 0) _ rfl B25.out Tryd.underlying49 rfl (by rw [size_hd]; have := HK.out; simp [this])
  · have hi' : isAs h.fl = false := by simpa using hi
    rw [hi'] at C0
    have HE := Lib.hid (h7 hi')
    clear hi hi' h7 h8
    go_enter Tryd.func84, Tryd.ntmps84
    go_wp2_with (first
      | ((with_reducible show wpList _ _ _ (⟨some 1, _, _, _, _, _⟩ :: _) _ _); refine wpList_box_blk rfl _ (.tmp 0) rfl cs rfl ?_; intro g w1 hg1 hg2 B1 L1)
      | ((with_reducible show wpList _ _ _ (⟨some 2, _, _, _, _, _⟩ :: _) _ _); refine wpList_alloc_blk rfl _ rfl zs _ ZH ?_; intro g2 w2 hg3 hg4 B2 L2; have B12 := Lib.hid (B1.out.over L2.out); have L12 := Lib.hid (step L1.out L2.out))
      | ((with_reducible show wpList _ _ _ (⟨some 3, _, _, _, _, _⟩ :: _) _ _); refine wpList_load_blk rfl _ (.tmp 1) rfl g rfl _ _ B12 26 _ Tryd.underlying49 rfl size_hd HL ?_)
      | fail)
    refine (C0.out _).mono ?_
    rintro e w3 ⟨rfl, L3⟩
    have B13 := Lib.hid (B12.out.over L3)
    have B23 := Lib.hid (B2.out.over L3)
    have L13 := Lib.hid (step L12.out L3)
    have hsz := L2.out.size
    have hne : g ≠ g2 := by omega
    clear B12 B2 L12 L3 C0 B1 L1 L2
    go_wp2_with (first
      | ((with_reducible show wpList _ _ _ (⟨none, .store _ (.tmp 6) _, _, _, _, _⟩ :: _) _ _); refine wpList_store_fld rfl _ (.tmp 6) _ rfl g 7 rfl _ cs (.int .u64 0) rfl B13 (by have := HL.out; show 7 < _; omega) (by kernel_rfl) rfl ?_; intro w4 B14 O4 hg5; rw [HE.out] at B14; have B24 := Lib.hid (B23.out.only O4.out (by omega)))
      | ((with_reducible show wpList _ _ _ (⟨some 7, _, _, _, _, _⟩ :: _) _ _); refine wpList_load_blk rfl _ (.tmp 1) rfl g rfl _ ds B14 26 _ Tryd.underlying49 rfl size_hd HK ?_)
      | ((with_reducible show wpList _ _ _ (⟨none, .store _ (.tmp 2) _, _, _, _, _⟩ :: _) _ _); refine wpList_store_blk rfl _ (.tmp 2) (.tmp 7) rfl g2 rfl _ zs ds rfl B24 26 size_hd HZ HK HKO ?_; intro w5 B25 O5 hg6))
    refine bodyPost_ret (v := .agg ds.toArray) ?_ rfl ⟨rfl, below_only (below_only L13.out O4.out (by omega)) O5.out (by omega)⟩
    exact results_cell_row rfl _ _ g2 _ _ (0, 0) _ rfl B25.out Tryd.underlying49 rfl (by rw [size_hd]; have := HK.out; simp [this])
set_option maxHeartbeats 400000 in
theorem asyncOrTree_any (w : World) (h : Hd) (k : h.ok) :
    Calls Tryd.prog 78 #[hv h] w fun e w' => e = .returned (.int .u64 (aot h)) ∧ Below w.heap.size w w' := by
  have C0 : Hid (∀ w : World, Calls Tryd.prog 87 #[hv h] w fun e w' => e = .returned (.bool (isAs h.fl)) ∧ Below w.heap.size w w') := fun w => isAsync_any w h k
  have HL := Lib.hid (hcells_len k)
  obtain ⟨t0, t1⟩ := k.tr
  have e1 : isAs h.fl = true → aot h = h.asy := fun hi => by unfold aot; rw [if_pos hi]
  have e0 : isAs h.fl = false → aot h = h.tr * 4294967296 := fun hi => by unfold aot; rw [if_neg (by rw [hi]; decide)]
  obtain ⟨tr, htr⟩ : ∃ tr, tr = h.tr := ⟨_, rfl⟩
  obtain ⟨asy, hasy⟩ : ∃ asy, asy = h.asy := ⟨_, rfl⟩
  obtain ⟨cs, hcs⟩ : ∃ cs, cs = hcells h := ⟨_, rfl⟩
  unfold hv at C0 ⊢
  rw [← hcs] at C0 HL ⊢
  rw [← htr] at t0 t1 e0
  rw [← hasy] at e1
  have HT := Lib.hid htr
  have HA := Lib.hid hasy
  have HC := Lib.hid hcs
  clear htr hasy hcs k
  by_cases hi : isAs h.fl = true
  · rw [hi] at C0
    rw [e1 hi]
    clear hi e0 e1
    go_enter Tryd.func78, Tryd.ntmps78
    go_wp2_with (first
      | ((with_reducible show wpList _ _ _ (⟨some 1, _, _, _, _, _⟩ :: _) _ _); refine wpList_box_blk rfl _ (.tmp 0) rfl cs rfl ?_; intro g w1 hg1 hg2 B1 L1)
      | ((with_reducible show wpList _ _ _ (⟨some 3, _, _, _, _, _⟩ :: _) _ _); refine wpList_load_blk rfl _ (.tmp 1) rfl g rfl _ _ B1 26 _ Tryd.underlying49 rfl size_hd HL ?_)
      | fail)
    refine (C0.out _).mono ?_
    rintro e w3 ⟨rfl, L3⟩
    have gc : w3.cell? ⟨g, 7, none⟩ = some (.int .u64 asy) := by
      rw [HA.out]
      exact HB.c7 (HB.of HC.out (B1.out.over L3))
    go_wp2
    go_ret
    exact ⟨rfl, step L1.out L3⟩
  · have hi' : isAs h.fl = false := by simpa using hi
    rw [hi'] at C0
    rw [e0 hi']
    clear hi hi' e0 e1
    go_enter Tryd.func78, Tryd.ntmps78
    go_wp2_with (first
      | ((with_reducible show wpList _ _ _ (⟨some 1, _, _, _, _, _⟩ :: _) _ _); refine wpList_box_blk rfl _ (.tmp 0) rfl cs rfl ?_; intro g w1 hg1 hg2 B1 L1)
      | ((with_reducible show wpList _ _ _ (⟨some 3, _, _, _, _, _⟩ :: _) _ _); refine wpList_load_blk rfl _ (.tmp 1) rfl g rfl _ _ B1 26 _ Tryd.underlying49 rfl size_hd HL ?_)
      | fail)
    refine (C0.out _).mono ?_
    rintro e w3 ⟨rfl, L3⟩
    have gc : w3.cell? ⟨g, 8, none⟩ = some (.int .u32 tr) := by
      rw [HT.out]
      exact HB.c8 (HB.of HC.out (B1.out.over L3))
    go_wp2
    go_ret
    exact ⟨rfl, step L1.out L3⟩
end Go.Proofs.YtgfflnjggnadpaaDoor

namespace Go.Proofs.YtgfflnjggnadpaaDoor
set_option linter.all false
set_option maxRecDepth 100000
open Go.RowKit
section
/-- two arrays that may differ -/
theorem run_equalIn_arr3 {P : Program} {T e : TypeId} {n : Nat} {k : IntKind} (hu : P.underlying T = some (.array n e)) (he : P.underlying e = some (.int k)) (hs : (P.info? e).map (·.size) = some 1) (xs ys : List Int) (hl : xs.length = n) (hm : ys.length = n) (d : Nat) (w : World) :
    (Op.equalIn (d + 2) T (.agg (xs.map (Value.int k)).toArray) (.agg (ys.map (Value.int k)).toArray)).run P w = .ok (decide (xs = ys)) w := by
  obtain ⟨j, hj, hj1⟩ : ∃ j, P.info? e = some j ∧ j.size = 1 := by
    cases hq : P.info? e with
    | none => simp [hq] at hs
    | some j => exact ⟨j, rfl, by simpa [hq] using hs⟩
  have hc : P.cellsOf e = 1 := by unfold Program.cellsOf; rw [hj]; simpa using hj1
  rw [show d + 2 = (d + 1) + 1 from rfl, run_equalIn_array w (d + 1) _ _ hu hj, hc]
  have key : ∀ is : List Nat, (∀ i ∈ is, i < n) → (Op.eqItems (d + 1) e 1 (xs.map (Value.int k)).toArray (ys.map (Value.int k)).toArray is).run P w = .ok (is.all fun i => xs.getD i 0 == ys.getD i 0) w := by
    intro is
    induction is with
    | nil => intro _; simp [Op.eqItems]
    | cons i is ih =>
      intro hi
      have hil : i < n := hi i List.mem_cons_self
      have hx : i < xs.length := by omega
      have hy : i < ys.length := by omega
      have hp : (part e (xs.map (Value.int k)).toArray (i * 1)).run P w = .ok (.int k xs[i]) w := by simp [part, isAgg, run_underlying he, hx]
      have hp2 : (part e (ys.map (Value.int k)).toArray (i * 1)).run P w = .ok (.int k ys[i]) w := by simp [part, isAgg, run_underlying he, hy]
      simp only [Op.eqItems, Sem.run_bind, hp, hp2, Result.andThen_ok, run_equalIn_int w d e k k _ _ he]
      have e1 : xs.getD i 0 = xs[i] := by simp [List.getD_eq_getElem?_getD, hx]
      have e2 : ys.getD i 0 = ys[i] := by simp [List.getD_eq_getElem?_getD, hy]
      rw [List.all_cons, e1, e2]
      by_cases hq : xs[i] = ys[i]
      · rw [hq]
        simp only [beq_self_eq_true, Bool.not_true, Bool.false_eq_true, if_false, Bool.true_and]
        exact ih fun i h => hi i (List.mem_cons_of_mem _ h)
      · have hb : (xs[i] == ys[i]) = false := by simpa using hq
        simp [hb]
  rw [key _ fun i h => List.mem_range.1 h]
  congr 1
  by_cases hq : xs = ys
  · subst hq
    simp
  · rw [decide_eq_false hq, List.all_eq_false]
    have hne : ¬ ∀ i, i < n → xs.getD i 0 = ys.getD i 0 := fun hall => hq (by
      apply List.ext_getElem (by omega)
      intro i h1 h2
      have := hall i (by omega)
      simpa [List.getD_eq_getElem?_getD, h1, h2] using this)
    obtain ⟨i, hi⟩ := Classical.not_forall.1 hne
    obtain ⟨hi1, hi2⟩ := Classical.not_imp.1 hi
    exact ⟨i, List.mem_range.2 hi1, by simpa using hi2⟩
/-- '==' over the fields, by their types and places alone -/
def eqSpec (d : Nat) (xs ys : Array Value) : List (Bool × TypeId × Nat) → Sem Bool
  | [] => pure true
  | (u, t, o) :: r =>
    if u = true then eqSpec d xs ys r else do
      let a ← part t xs o
      let b ← part t ys o
      let q ← Op.equalIn d t a b
      if (!q) = true then pure false else eqSpec d xs ys r
theorem eqFields_spec (d : Nat) (xs ys : Array Value) (l : List Field) : Op.eqFields d xs ys l = eqSpec d xs ys (l.map fun f => (decide (f.name = "_"), f.type, f.offset)) := by
  induction l with
  | nil => rfl
  | cons f l ih =>
    simp only [Op.eqFields, List.map_cons, eqSpec, ih]
    by_cases h : f.name = "_"
    · simp [h]
    · simp [h]
section
variable {P : Program} {w : World} {d : Nat} {xs ys : Array Value} {r : List (Bool × TypeId × Nat)} {q : Bool}
theorem eqSpec_int (t : TypeId) (k : IntKind) (o : Nat) (x y : Int) (ht : P.underlying t = some (.int k)) (hx : xs[o]? = some (.int k x)) (hy : ys[o]? = some (.int k y)) (hr : (eqSpec (d + 1) xs ys r).run P w = .ok q w) :
    (eqSpec (d + 1) xs ys ((false, t, o) :: r)).run P w = .ok (x == y && q) w := by
  have p1 : (part t xs o).run P w = .ok (.int k x) w := by simp [part, isAgg, run_underlying ht, hx]
  have p2 : (part t ys o).run P w = .ok (.int k y) w := by simp [part, isAgg, run_underlying ht, hy]
  simp only [eqSpec, Bool.false_eq_true, if_false, Sem.run_bind, p1, p2, Result.andThen_ok, run_equalIn_int w d t k k _ _ ht]
  by_cases h : x = y
  · subst h
    simpa using hr
  · have hb : (x == y) = false := by simpa using h
    simp [hb]
theorem eqSpec_arr (t e : TypeId) (n : Nat) (k : IntKind) (o : Nat) (us vs : List Int) (ht : P.underlying t = some (.array n e)) (he : P.underlying e = some (.int k)) (hs : (P.info? e).map (·.size) = some 1) (hz : (P.info? t).map (·.size) = some n)
    (hx : xs.extract o (o + n) = (us.map (Value.int k)).toArray) (hy : ys.extract o (o + n) = (vs.map (Value.int k)).toArray) (ha : us.length = n) (hb : vs.length = n) :
    (eqSpec (d + 2) xs ys [(false, t, o)]).run P w = .ok (decide (us = vs)) w := by
  obtain ⟨j, hj, hj1⟩ : ∃ j, P.info? t = some j ∧ j.size = n := by
    cases hq : P.info? t with
    | none => simp [hq] at hz
    | some j => exact ⟨j, rfl, by simpa [hq] using hz⟩
  have p1 : (part t xs o).run P w = .ok (.agg (us.map (Value.int k)).toArray) w := by simp [part, isAgg, run_underlying ht, sizeOf, typeInfo, hj, hj1, hx]
  have p2 : (part t ys o).run P w = .ok (.agg (vs.map (Value.int k)).toArray) w := by simp [part, isAgg, run_underlying ht, sizeOf, typeInfo, hj, hj1, hy]
  simp only [eqSpec, Bool.false_eq_true, if_false, Sem.run_bind, p1, p2, Result.andThen_ok, run_equalIn_arr3 ht he hs us vs ha hb d w]
  by_cases h : us = vs
  · simp [h]
  · simp [h]
end
theorem fields_hd : (Tryd.prog.fieldsOf 49).toList.map (fun f => (decide (f.name = "_"), f.type, f.offset)) =
    [(false, 43, 0), (false, 44, 1), (false, 45, 2), (false, 43, 3), (false, 44, 4), (false, 44, 5), (false, 46, 6), (false, 46, 7), (false, 44, 8), (false, 46, 9), (false, 47, 10)] := by kernel_rfl
/-- '==' of two heads -/
theorem run_equalIn_hd (a b : Hd) (ka : a.ok) (kb : b.ok) (w : World) : (Op.equalIn 10000 49 (.agg (hcells a).toArray) (.agg (hcells b).toArray)).run Tryd.prog w = .ok (decide (a = b)) w := by
  rw [show (10000 : Nat) = 9999 + 1 from rfl, run_equalIn_struct w 9999 49 _ _ Tryd.underlying49 (by kernel_rfl), eqFields_spec, fields_hd]
  have ea : (hcells a).toArray.extract 10 (10 + 16) = (a.sg.map (Value.int .u8)).toArray := by
    have hl : (a.sg.map (Value.int .u8)).length = 16 := by rw [List.length_map]; exact ka.len
    rw [List.extract_toArray]
    congr 1
    show (((a.sg.map (Value.int .u8))).take 16) = _
    exact List.take_of_length_le (by omega)
  have eb : (hcells b).toArray.extract 10 (10 + 16) = (b.sg.map (Value.int .u8)).toArray := by
    have hl : (b.sg.map (Value.int .u8)).length = 16 := by rw [List.length_map]; exact kb.len
    rw [List.extract_toArray]
    congr 1
    show (((b.sg.map (Value.int .u8))).take 16) = _
    exact List.take_of_length_le (by omega)
  have h := eqSpec_int (P := Tryd.prog) (w := w) (d := 9998) 43 .u16 0 a.ch b.ch Tryd.underlying43 rfl rfl
    (eqSpec_int 44 .u32 1 a.st b.st Tryd.underlying44 rfl rfl
    (eqSpec_int 45 .u16 2 a.cm b.cm Tryd.underlying45 rfl rfl
    (eqSpec_int 43 .u16 3 a.cr b.cr Tryd.underlying43 rfl rfl
    (eqSpec_int 44 .u32 4 a.fl b.fl Tryd.underlying44 rfl rfl
    (eqSpec_int 44 .u32 5 a.nx b.nx Tryd.underlying44 rfl rfl
    (eqSpec_int 46 .u64 6 a.id b.id Tryd.underlying46 rfl rfl
    (eqSpec_int 46 .u64 7 a.asy b.asy Tryd.underlying46 rfl rfl
    (eqSpec_int 44 .u32 8 a.tr b.tr Tryd.underlying44 rfl rfl
    (eqSpec_int 46 .u64 9 a.se b.se Tryd.underlying46 rfl rfl
    (eqSpec_arr (xs := (hcells a).toArray) (ys := (hcells b).toArray) 47 5 16 .u8 10 a.sg b.sg Tryd.underlying47 Tryd.underlying5 (by kernel_rfl) (by kernel_rfl) ea eb ka.len kb.len))))))))))
  refine h.trans ?_
  congr 1
  obtain ⟨a0, a1, a2, a3, a4, a5, a6, a7, a8, a9, us⟩ := a
  obtain ⟨b0, b1, b2, b3, b4, b5, b6, b7, b8, b9, vs⟩ := b
  rw [Bool.eq_iff_iff]
  simp
section
variable {P : Program} {ops : Array Oper} {S : World → Prop}
theorem yieldsIf_load_one {op : Oper} {a : Act} (hw : Region.wanted op (yielded ops a.tmps) = true) (T : TypeId) (x : Operand) (ho : op.op = .load T x) (g i : Nat) (hx : a.eval x = .pointer (some ⟨g, i, none⟩)) (v : Value)
    (hS : ∀ w, S w → w.cell? ⟨g, i, none⟩ = some v) (d : TypeDesc) (hu : P.underlying T = some d) (hd : (match d with | .struct _ | .array _ _ => true | _ => false) = false) : YieldsIf P ops S op v a :=
  .inl ⟨hw, fun w hw' => by
    have hc := hS w hw'
    have hagg : (isAgg T).run P w = .ok false w := by
      unfold isAgg
      rw [Sem.run_bind, run_underlying hu w]
      cases d <;> simp_all
    unfold execOp
    simp [ho, hx, Instr.loadAt, Instr.sureAddr, Sem.run_bind, Result.andThen_ok, loadVar, hagg, hc]⟩
theorem yieldsIf_build_blk {op : Oper} {a : Act} (hw : Region.wanted op (yielded ops a.tmps) = true) (T : TypeId) (parts : Array (Nat × Operand)) (ho : op.op = .build T parts) (cs : List Value)
    (hf : P.built T (parts.map fun (i, x) => (i, a.eval x)).toList = some cs.toArray) : YieldsIf P ops S op (.agg cs.toArray) a :=
  .inl ⟨hw, fun w _ => by
    unfold execOp
    simp only [ho, Sem.run_bind, run_build w T _ _ hf, Result.andThen_ok]
    rfl⟩
theorem yieldsIf_nil {op : Oper} {a : Act} (hw : Region.wanted op (yielded ops a.tmps) = true) (x : Operand) (ho : op.op = .nilCheck x) (ad : Addr) (hx : a.eval x = .pointer (some ad)) : YieldsIf P ops S op (.pointer (some ad)) a :=
  .inl ⟨hw, fun w _ => by
    unfold execOp
    simp [ho, hx]⟩
theorem yieldsIf_move {op : Oper} {a : Act} (hw : Region.wanted op (yielded ops a.tmps) = true) (x : Operand) (ho : op.op = .move x) (v : Value) (hx : a.eval x = v) : YieldsIf P ops S op v a :=
  .inl ⟨hw, fun w _ => by
    unfold execOp
    simp [ho, hx]⟩
theorem yieldsIf_asg {op : Oper} {a : Act} (hw : Region.wanted op (yielded ops a.tmps) = true) (x : Operand) (ho : op.op = .assign x) (v : Value) (hx : a.eval x = v) : YieldsIf P ops S op v a :=
  .inl ⟨hw, fun w _ => by
    unfold execOp
    simp [ho, hx]⟩
theorem wpAnyH_frame {md : Region.Mode} {Q : Exit → Act → World → Prop} {fuel : Nat} {listed : Array Bool} {a : Act} {w : World} (h : ∀ a', a' = a → wpAnyH P md ops Q S fuel listed a' w) : wpAnyH P md ops Q S fuel listed a w := h a rfl
theorem yieldsIf_fn {op : Oper} {a : Act} (hw : Region.wanted op (yielded ops a.tmps) = true) (fn : Fn) (xs ys : Array Operand) (ho : op.op = .makeFunc fn xs ys) (us vs : Array Value) (hx : xs.map a.eval = us) (hy : ys.map a.eval = vs)
    (hf : ∀ w, (Instr.makeFunc fn us vs).run P w = .ok (.func fn us vs) w) : YieldsIf P ops S op (.func fn us vs) a :=
  .inl ⟨hw, fun w _ => by
    unfold execOp
    simp only [ho, hx, hy, Sem.run_bind, hf, Result.andThen_ok]
    rfl⟩
theorem yieldsIf_fld {op : Oper} {a : Act} (hw : Region.wanted op (yielded ops a.tmps) = true) (T : TypeId) (x : Operand) (i : Nat) (ho : op.op = .fieldAddr T x i) (u v : Value) (hx : a.eval x = u) (hf : ∀ w, (Instr.fieldAt T u i).run P w = .ok v w) : YieldsIf P ops S op v a :=
  .inl ⟨hw, fun w _ => by
    unfold execOp
    simp only [ho, hx, Sem.run_bind, hf, Result.andThen_ok]
    rfl⟩
theorem yieldsIf_conv {op : Oper} {a : Act} (hw : Region.wanted op (yielded ops a.tmps) = true) (T T' : TypeId) (x : Operand) (ho : op.op = .convert T T' x) (u v : Value) (hx : a.eval x = u) (hf : ∀ w, (convert T T' u).run P w = .ok v w) : YieldsIf P ops S op v a :=
  .inl ⟨hw, fun w _ => by
    unfold execOp
    simp only [ho, hx, Sem.run_bind, hf, Result.andThen_ok]
    rfl⟩
theorem yieldsIf_load_blk {op : Oper} {a : Act} (hw : Region.wanted op (yielded ops a.tmps) = true) (T : TypeId) (x : Operand) (ho : op.op = .load T x) (g : Nat) (hx : a.eval x = .pointer (some ⟨g, 0, none⟩)) (T' : TypeId) (cs : List Value)
    (hS : ∀ w, S w → Blk w g T' cs) (n : Nat) (d : TypeDesc) (hu : P.underlying T = some d) (hd : (match d with | .struct _ | .array _ _ => true | _ => false) = true) (hi : (P.info? T).map (·.size) = some n) (hn : Hid (cs.length = n)) : YieldsIf P ops S op (.agg cs.toArray) a :=
  .inl ⟨hw, fun w hw' => by
    have hr := run_loadVar_row (P := P) w g T' T cs.toArray (0, 0) _ (hS w hw') hu hd (by rw [hi]; have := hn.out; simp [this])
    unfold execOp
    simp only [ho, hx, Instr.loadAt, Instr.sureAddr, Sem.run_bind, Sem.run_pure, Result.andThen_ok, hr]⟩
end
/-- the place of a head's field -/
theorem fld_hd (g : Nat) (i : Nat) (hi : i < 11) (w : World) : (Instr.fieldAt 49 (.pointer (some ⟨g, 0, none⟩)) i).run Tryd.prog w = .ok (.pointer (some ⟨g, i, none⟩)) w := by
  revert hi
  refine fun hi => eleven (p := fun i => (Instr.fieldAt 49 (.pointer (some ⟨g, 0, none⟩)) i).run Tryd.prog w = .ok (.pointer (some ⟨g, i, none⟩)) w) ?_ ?_ ?_ ?_ ?_ ?_ ?_ ?_ ?_ ?_ ?_ i hi <;> go_simp
theorem conv_u16 (n : Int) (h0 : 0 ≤ n) (h1 : n ≤ 65535) (w : World) : (convert 43 46 (.int .u16 n)).run Tryd.prog w = .ok (.int .u64 n) w := by
  have e : IntKind.u64.wrap n = n := by rw [IntKind.wrap_u64]; omega
  go_simp
theorem conv_cmd (n : Int) (h0 : 0 ≤ n) (h1 : n ≤ 65535) (w : World) : (convert 45 46 (.int .u16 n)).run Tryd.prog w = .ok (.int .u64 n) w := by
  have e : IntKind.u64.wrap n = n := by rw [IntKind.wrap_u64]; omega
  go_simp
theorem conv_u32 (n : Int) (h0 : 0 ≤ n) (h1 : n ≤ 4294967295) (w : World) : (convert 44 46 (.int .u32 n)).run Tryd.prog w = .ok (.int .u64 n) w := by
  have e : IntKind.u64.wrap n = n := by rw [IntKind.wrap_u64]; omega
  go_simp
end
end Go.Proofs.YtgfflnjggnadpaaDoor

namespace Go.Proofs.YtgfflnjggnadpaaDoor
set_option linter.all false
set_option maxRecDepth 100000
open Go.RowKit
/-- a call that leaves the world as it is, as a quiet region wants it -/
theorem quiet_as_is {P : Program} {f : FuncId} {args : Array Value} {w : World} {n : Nat} {v : Value}
    (h : ∀ w, Calls P f args w fun e w' => e = .returned v ∧ w = w') : Calls P f args (w.drewN n) fun e w'' => e = .returned v ∧ ∃ m, w'' = w.drewN m :=
  (h _).mono fun _ _ ⟨he, hm⟩ => ⟨he, n, hm.symm⟩
theorem guard_hd : Tryd.prog.eqGuardType Tryd.prog.depth 49 = false := by kernel_rfl
set_option maxHeartbeats 400000 in
theorem May_any (w : World) (h : Hd) (k : h.ok) :
    Calls Tryd.prog 64 #[hv h] w fun e w' => e = .returned (.bool (mayP h)) ∧ Below w.heap.size w w' := by
  have CK : Hid (∀ w : World, Calls Tryd.prog 83 #[.int .u16 h.cm] w fun e w' => e = .returned (.bool (known h.cm)) ∧ w = w') := fun w => Known_any w h.cm
  have CO : Hid (∀ w : World, Calls Tryd.prog 84 #[hv h] w fun e w' => e = .returned (hv (kindP h)) ∧ Below w.heap.size w w') := fun w => ofKind_any w h k
  have q0 : ∀ w : World, (Op.equalIn 10000 49 (.agg (hcells h).toArray) (.agg (hcells (kindP h)).toArray)).run Tryd.prog w = .ok (decide (h = kindP h)) w := fun w => run_equalIn_hd h (kindP h) k (kindP_ok k) w
  have hf := flag_rest h.fl k.fl.1 k.fl.2
  have HL := Lib.hid (hcells_len k)
  have HK := Lib.hid (hcells_len (kindP_ok k))
  have HM : Hid (mayP h = (known h.cm && (decide (h.fl < 16) && decide (h = kindP h)))) := by show _ = _; unfold mayP; rw [kindP_eq]
  obtain ⟨z, hz⟩ : ∃ z, z = decide (h = kindP h) := ⟨_, rfl⟩
  obtain ⟨fl, hfl⟩ : ∃ fl, fl = h.fl := ⟨_, rfl⟩
  obtain ⟨cm, hcm⟩ : ∃ cm, cm = h.cm := ⟨_, rfl⟩
  obtain ⟨cs, hcs⟩ : ∃ cs, cs = hcells h := ⟨_, rfl⟩
  obtain ⟨ds, hds⟩ : ∃ ds, ds = hcells (kindP h) := ⟨_, rfl⟩
  have qg := guard_hd
  unfold hv at CO ⊢
  rw [← hcs] at CO HL q0 ⊢
  rw [← hds] at CO HK q0
  rw [← hz] at q0 HM
  rw [← hfl] at hf HM
  rw [← hcm] at CK HM
  have HFL := Lib.hid hfl
  have HCM := Lib.hid hcm
  have HC := Lib.hid hcs
  have F2 : Hid (∀ (w : World) (g : Nat), Blk w g 49 cs → w.cell? ⟨g, 2, none⟩ = some (.int .u16 cm) ∧ w.cell? ⟨g, 4, none⟩ = some (.int .u32 fl)) := fun w g B => ⟨by rw [HCM.out]; exact HB.c2 (HB.of HC.out B), by rw [HFL.out]; exact HB.c4 (HB.of HC.out B)⟩
  clear hz hfl hcm hcs hds k HFL HCM HC
  by_cases hk : known cm = true
  · rw [hk] at CK HM
    by_cases h16 : fl < 16
    · rw [decide_eq_true h16] at hf HM
      rw [show mayP h = z from by rw [HM.out]; simp]
      clear hk h16 HM
      go_enter Tryd.func64, Tryd.ntmps64
      go_upto_region 1 with (first
        | ((with_reducible show wpList _ _ _ (⟨some 1, _, _, _, _, _⟩ :: _) _ _); refine wpList_box_blk rfl _ (.tmp 0) rfl cs rfl ?_; intro g w1 hg1 hg2 B1 L1)
        | fail)
      refine wp_region_held (S := fun w' => Blk w' g 49 cs) (by kernel_rfl) ?_
      change wpAnyH _ _ _ _ _ _ _ _ w1.drew
      have S0 : Hid (Blk w1.drew g 49 cs) := B1.out.drew
      have b0 : Hid (Below w.heap.size w w1.drew) := L1.out.drew
      have gc := (F2.out _ _ S0.out).1
      have gf := (F2.out _ _ S0.out).2
      clear B1 L1
      refine wpAnyH_one 0 _ (by kernel_rfl) rfl fun K hK => ?_
      go_simp
      refine hK _ _ S0.out ?_
      clear hK K
      refine wpAnyH_one 1 _ (by kernel_rfl) rfl fun K hK => ?_
      go_simp
      refine hK _ _ S0.out ?_
      clear hK K
      refine wpAnyH_one 2 _ (by kernel_rfl) rfl fun K hK => ?_
      go_simp
      refine (CK.out _).mono ?_
      rintro e v1 ⟨rfl, rfl⟩
      refine hK _ _ S0.out ?_
      clear hK K
      refine wpAnyH_one 3 _ (by kernel_rfl) rfl fun K hK => ?_
      go_simp
      refine hK _ _ S0.out ?_
      clear hK K
      refine wpAnyH_one 4 _ (by kernel_rfl) rfl fun K hK => ?_
      go_simp
      refine hK _ _ S0.out ?_
      clear hK K
      refine wpAnyH_one 5 _ (by kernel_rfl) rfl fun K hK => ?_
      go_simp
      refine hK _ _ S0.out ?_
      clear hK K
      refine wpAnyH_one 6 _ (by kernel_rfl) rfl fun K hK => ?_
      go_simp
      refine hK _ _ S0.out ?_
      clear hK K
      refine wpAnyH_one 7 _ (by kernel_rfl) rfl fun K hK => ?_
      go_simp
      refine hK _ _ S0.out ?_
      clear hK K
      refine wpAnyH_one 8 _ (by kernel_rfl) rfl fun K hK => ?_
      go_simp
      refine hK _ _ S0.out ?_
      clear hK K
      refine wpAnyH_one 9 _ (by kernel_rfl) rfl fun K hK => ?_
      go_simp
      refine hK _ _ S0.out ?_
      clear hK K
      refine wpAnyH_take (i := 10) (v := _) rfl (by kernel_rfl) (by kernel_rfl) (by kernel_rfl) (fun _ _ _ h => h) (yieldsIf_load_blk rfl _ (.tmp 1) rfl g rfl _ cs (fun _ h => h) 26 _ Tryd.underlying49 rfl size_hd HL) S0.out ?_
      refine wpAnyH_take (i := 11) (v := _) rfl (by kernel_rfl) (by kernel_rfl) (by kernel_rfl) (fun _ _ _ h => h) (yieldsIf_load_blk rfl _ (.tmp 1) rfl g rfl _ cs (fun _ h => h) 26 _ Tryd.underlying49 rfl size_hd HL) S0.out ?_
      refine wpAnyH_one 12 _ (by kernel_rfl) rfl fun K hK => ?_
      go_simp
      refine (CO.out _).mono ?_
      rintro e v2 ⟨rfl, b⟩
      have S2 : Hid (Blk v2 g 49 cs) := S0.out.over b
      have b2 := Lib.hid (step b0.out b)
      refine hK _ _ S2.out ?_
      clear hK K b
      refine wpAnyH_one 13 _ (by kernel_rfl) rfl fun K hK => ?_
      go_simp
      refine hK _ _ S2.out ?_
      clear hK K
      refine wpAnyH_one 14 _ (by kernel_rfl) rfl fun K hK => ?_
      go_simp
      refine hK _ _ S2.out ?_
      clear hK K
      refine wpAnyH_one 15 _ (by kernel_rfl) rfl fun K hK => ?_
      go_simp
      refine hK _ _ S2.out ?_
      clear hK K
      refine wpAnyH_done (by kernel_rfl) ?_ _
      go_wp2_with fail
      go_ret
      exact ⟨rfl, b2.out⟩
    · have h16' : decide (fl < 16) = false := by simpa using h16
      rw [h16'] at hf HM
      rw [show mayP h = false from by rw [HM.out]; simp]
      clear hk h16 h16' HM CO q0
      go_enter Tryd.func64, Tryd.ntmps64
      go_upto_region 1 with (first
        | ((with_reducible show wpList _ _ _ (⟨some 1, _, _, _, _, _⟩ :: _) _ _); refine wpList_box_blk rfl _ (.tmp 0) rfl cs rfl ?_; intro g w1 hg1 hg2 B1 L1)
        | fail)
      have gc := (F2.out _ _ B1.out).1
      have gf := (F2.out _ _ B1.out).2
      go_quiet ((go_at_call 83; exact quiet_as_is CK.out))
      go_wp2_with fail
      go_ret
      exact ⟨rfl, below_drewN L1.out _⟩
  · have hk' : known cm = false := by simpa using hk
    rw [hk'] at CK HM
    rw [show mayP h = false from by rw [HM.out]; simp]
    clear hk hk' HM CO q0
    go_enter Tryd.func64, Tryd.ntmps64
    go_upto_region 1 with (first
      | ((with_reducible show wpList _ _ _ (⟨some 1, _, _, _, _, _⟩ :: _) _ _); refine wpList_box_blk rfl _ (.tmp 0) rfl cs rfl ?_; intro g w1 hg1 hg2 B1 L1)
      | fail)
    have gc := (F2.out _ _ B1.out).1
    have gf := (F2.out _ _ B1.out).2
    go_quiet ((go_at_call 83; exact quiet_as_is CK.out))
    go_wp2_with fail
    go_ret
    exact ⟨rfl, below_drewN L1.out _⟩
end Go.Proofs.YtgfflnjggnadpaaDoor

namespace Go.Proofs.YtgfflnjggnadpaaDoor
set_option linter.all false
set_option maxRecDepth 100000
open Go.RowKit
/-- the function that takes number k -/
def fnk : Nat → FuncId
  | 0 => 70
  | 1 => 70
  | 2 => 71
  | 3 => 72
  | 4 => 73
  | 5 => 74
  | 6 => 75
  | 7 => 76
  | 8 => 77
  | 9 => 79
  | 10 => 81
  | _ => 0
def fnv (p k : Nat) : Value := .func (.func (fnk k)) #[] (if k < 2 then #[] else #[.pointer (some ⟨p, 0, none⟩)])
/-- the list's cells -/
def fcellsV (p : Nat) (c0 c1 c2 c3 c4 c5 c6 c9 c10 : Int) : List Value :=
  [.int .i64 0, .int .i64 4, .int .u64 1112364030, .func (.func 70) #[] #[],
    .int .i64 4, .int .i64 2, .int .u64 64, .func (.func 70) #[] #[],
    .int .i64 6, .int .i64 2, .int .u64 c0, .func (.func 71) #[] #[.pointer (some ⟨p, 0, none⟩)],
    .int .i64 8, .int .i64 4, .int .u64 c1, .func (.func 72) #[] #[.pointer (some ⟨p, 0, none⟩)],
    .int .i64 12, .int .i64 2, .int .u64 c2, .func (.func 73) #[] #[.pointer (some ⟨p, 0, none⟩)],
    .int .i64 14, .int .i64 2, .int .u64 c3, .func (.func 74) #[] #[.pointer (some ⟨p, 0, none⟩)],
    .int .i64 16, .int .i64 4, .int .u64 c4, .func (.func 75) #[] #[.pointer (some ⟨p, 0, none⟩)],
    .int .i64 20, .int .i64 4, .int .u64 c5, .func (.func 76) #[] #[.pointer (some ⟨p, 0, none⟩)],
    .int .i64 24, .int .i64 8, .int .u64 c6, .func (.func 77) #[] #[.pointer (some ⟨p, 0, none⟩)],
    .int .i64 32, .int .i64 8, .int .u64 c9, .func (.func 79) #[] #[.pointer (some ⟨p, 0, none⟩)],
    .int .i64 40, .int .i64 8, .int .u64 c10, .func (.func 81) #[] #[.pointer (some ⟨p, 0, none⟩)]]
def fcells (p : Nat) (h : Hd) : List Value := fcellsV p h.ch h.st h.cm h.cr h.fl h.nx h.id (aot h) h.se
/-- number k of them -/
def fel (p : Nat) (h : Hd) (k : Nat) : List Value := [.int .i64 (offs.getD k 0 : Nat), .int .i64 (szs.getD k 0 : Nat), .int .u64 ((vals h).getD k 0), fnv p k]
theorem fcells_at (p : Nat) (h : Hd) (k : Nat) (hk : k < 11) (j : Nat) (v : Value) (hj : (fel p h k)[j]? = some v) : (fcells p h)[k * 4 + j]? = some v := by
  have h4 : j < 4 := by
    have := (List.getElem?_eq_some_iff.1 hj).1
    simpa [fel] using this
  rw [← hj]
  revert hk
  match j, h4 with
  | 0, _ => exact fun hk => eleven (p := fun k => (fcells p h)[k * 4 + 0]? = (fel p h k)[0]?) rfl rfl rfl rfl rfl rfl rfl rfl rfl rfl rfl k hk
  | 1, _ => exact fun hk => eleven (p := fun k => (fcells p h)[k * 4 + 1]? = (fel p h k)[1]?) rfl rfl rfl rfl rfl rfl rfl rfl rfl rfl rfl k hk
  | 2, _ => exact fun hk => eleven (p := fun k => (fcells p h)[k * 4 + 2]? = (fel p h k)[2]?) rfl rfl rfl rfl rfl rfl rfl rfl rfl rfl rfl k hk
  | 3, _ => exact fun hk => eleven (p := fun k => (fcells p h)[k * 4 + 3]? = (fel p h k)[3]?) rfl rfl rfl rfl rfl rfl rfl rfl rfl rfl rfl k hk
theorem fcells_range {w : World} {G p : Nat} {T : TypeId} {h : Hd} (B : Blk w G T (fcells p h)) (k : Nat) (hk : k < 11) : w.rangeAt G (k * 4) (fel p h k) := fun j v hj => by
  rw [B.cell]
  exact fcells_at p h k hk j v hj
/-- what fields answers -/
def FieldsPost (w : World) (g : Nat) (h : Hd) (e : Ending) (w' : World) : Prop :=
  ∃ p G, e = .returned (.slice (some ⟨G, 0, none⟩) 11 11) ∧ w.heap.size ≤ p ∧ p < G ∧ Blk w' p 85 [.pointer (some ⟨g, 0, none⟩)] ∧ Blk w' G 88 (fcells p h) ∧ Below w.heap.size w w'
set_option maxRecDepth 100000 in
set_option maxHeartbeats 8000000 in
theorem fields_any (w : World) (g : Nat) (h : Hd) (k : h.ok) (hB : HB w g h) :
    Calls Tryd.prog 62 #[.pointer (some ⟨g, 0, none⟩)] w (FieldsPost w g h) := by
  have hmf : ∀ (fn : Fn) (first cap : Array Value) (w : World), (Instr.makeFunc fn first cap).run Tryd.prog w = .ok (.func fn first cap) w := fun _ _ _ _ => rfl
  have HL := Lib.hid (hcells_len k)
  have C0 : Hid (∀ w : World, Calls Tryd.prog 78 #[hv h] w fun e w' => e = .returned (.int .u64 (aot h)) ∧ Below w.heap.size w w') := fun w => asyncOrTree_any w h k
  have HQ : Hid (∀ e w', (∃ p G, e = .returned (.slice (some ⟨G, 0, none⟩) 11 11) ∧ w.heap.size ≤ p ∧ p < G ∧ Blk w' p 85 [.pointer (some ⟨g, 0, none⟩)] ∧ Blk w' G 88 (fcells p h) ∧ Below w.heap.size w w') → FieldsPost w g h e w') := fun _ _ hh => hh
  obtain ⟨k0, k1, k2, k3, k4, k5, k6, k7, k8, k9, _, _⟩ := k
  have HB0 := Lib.hid hB
  unfold hv at C0
  unfold fcells at HQ
  obtain ⟨n9, hn9⟩ : ∃ n, n = aot h := ⟨_, rfl⟩
  obtain ⟨cs, hcs⟩ : ∃ cs, cs = hcells h := ⟨_, rfl⟩
  have HC := Lib.hid hcs
  rw [← hcs] at C0 HL
  rw [← hn9] at C0 HQ
  have FW : Hid (∀ w', Blk w' g 49 cs → w'.cell? ⟨g, 0, none⟩ = some (.int .u16 h.ch) ∧ w'.cell? ⟨g, 1, none⟩ = some (.int .u32 h.st) ∧ w'.cell? ⟨g, 2, none⟩ = some (.int .u16 h.cm) ∧ w'.cell? ⟨g, 3, none⟩ = some (.int .u16 h.cr) ∧
      w'.cell? ⟨g, 4, none⟩ = some (.int .u32 h.fl) ∧ w'.cell? ⟨g, 5, none⟩ = some (.int .u32 h.nx) ∧ w'.cell? ⟨g, 6, none⟩ = some (.int .u64 h.id) ∧ w'.cell? ⟨g, 9, none⟩ = some (.int .u64 h.se)) := fun w' b => by
    have X : HB w' g h := HB.of HC.out b
    exact ⟨X.c0, X.c1, X.c2, X.c3, X.c4, X.c5, X.c6, X.c9⟩
  have HB1 : Hid (Blk w g 49 cs) := by show Blk _ _ _ _; rw [HC.out]; exact HB0.out
  clear hB hcs hn9 HB0
  obtain ⟨n0, hn0⟩ : ∃ n, n = h.ch := ⟨_, rfl⟩
  obtain ⟨n1, hn1⟩ : ∃ n, n = h.st := ⟨_, rfl⟩
  obtain ⟨n2, hn2⟩ : ∃ n, n = h.cm := ⟨_, rfl⟩
  obtain ⟨n3, hn3⟩ : ∃ n, n = h.cr := ⟨_, rfl⟩
  obtain ⟨n4, hn4⟩ : ∃ n, n = h.fl := ⟨_, rfl⟩
  obtain ⟨n5, hn5⟩ : ∃ n, n = h.nx := ⟨_, rfl⟩
  obtain ⟨n6, hn6⟩ : ∃ n, n = h.id := ⟨_, rfl⟩
  obtain ⟨n10, hn10⟩ : ∃ n, n = h.se := ⟨_, rfl⟩
  rw [← hn0] at FW HQ k0
  rw [← hn1] at FW HQ k1
  rw [← hn2] at FW HQ k2
  rw [← hn3] at FW HQ k3
  rw [← hn4] at FW HQ k4
  rw [← hn5] at FW HQ k5
  rw [← hn6] at FW HQ k6
  rw [← hn10] at FW HQ k9
  obtain ⟨k00, k01⟩ := k0
  obtain ⟨k10, k11⟩ := k1
  obtain ⟨k20, k21⟩ := k2
  obtain ⟨k30, k31⟩ := k3
  obtain ⟨k40, k41⟩ := k4
  obtain ⟨k50, k51⟩ := k5






  clear hn0 hn1 hn2 hn3 hn4 hn5 hn6 hn10 k6 k7 k8 k9
  go_enter Tryd.func62, Tryd.ntmps62
  go_upto_region 2 with (first
    | ((with_reducible show wpList _ _ _ (⟨some 1, _, _, _, _, _⟩ :: _) _ _); refine wpList_box_one rfl _ (.tmp 0) rfl _ rfl rfl ?_; intro p w1 hp1 hp2 P1 L1)
    | fail)
  refine wp_region_held (S := fun w' => Blk w' p 85 [.pointer (some ⟨g, 0, none⟩)] ∧ Blk w' g 49 cs) (by kernel_rfl) ?_
  change wpAnyH _ _ _ _ _ _ _ _ w1.drew
  have S0 : Hid (Blk w1.drew p 85 [.pointer (some ⟨g, 0, none⟩)] ∧ Blk w1.drew g 49 cs) := ⟨P1.out.drew, (HB1.out.over L1.out).drew⟩
  have b0 : Hid (Below w.heap.size w w1.drew) := L1.out.drew
  have hp2' : p < w1.drew.heap.size := hp2
  obtain ⟨w0, hw0⟩ : ∃ w0, w0 = w1.drew := ⟨_, rfl⟩
  rw [← hw0] at S0 b0 hp2' ⊢
  clear hw0 HB1 P1 L1 hp2
  -- region, by tools/gen_region_takes.py
  refine wpAnyH_take (i := 0) (v := _) rfl (by kernel_rfl) (by kernel_rfl) (by kernel_rfl) (fun _ _ _ h => h) (yieldsIf_move (by kernel_rfl) (.tmp 3) rfl (.func (.func 70) #[] #[]) (by kernel_rfl)) S0.out ?_
  refine wpAnyH_take (i := 1) (v := _) rfl (by kernel_rfl) (by kernel_rfl) (by kernel_rfl) (fun _ _ _ h => h) (yieldsIf_build_blk (by kernel_rfl) _ _ rfl [.int .i64 0, .int .i64 4, .int .u64 1112364030, .func (.func 70) #[] #[]] (by kernel_rfl)) S0.out ?_
  refine wpAnyH_take (i := 2) (v := _) rfl (by kernel_rfl) (by kernel_rfl) (by kernel_rfl) (fun _ _ _ h => h) (yieldsIf_move (by kernel_rfl) (.tmp 3) rfl (.func (.func 70) #[] #[]) (by kernel_rfl)) S0.out ?_
  refine wpAnyH_take (i := 3) (v := _) rfl (by kernel_rfl) (by kernel_rfl) (by kernel_rfl) (fun _ _ _ h => h) (yieldsIf_build_blk (by kernel_rfl) _ _ rfl [.int .i64 4, .int .i64 2, .int .u64 64, .func (.func 70) #[] #[]] (by kernel_rfl)) S0.out ?_
  refine wpAnyH_take (i := 4) (v := _) rfl (by kernel_rfl) (by kernel_rfl) (by kernel_rfl) (fun _ _ _ h => h) (yieldsIf_load_one (by kernel_rfl) _ (.tmp 1) rfl p 0 (by kernel_rfl) (.pointer (some ⟨g, 0, none⟩)) (fun _ h => h.1.cell 0) _ Tryd.underlying85 rfl) S0.out ?_
  refine wpAnyH_take (i := 5) (v := _) rfl (by kernel_rfl) (by kernel_rfl) (by kernel_rfl) (fun _ _ _ h => h) (yieldsIf_nil (by kernel_rfl) (.tmp 8) rfl ⟨g, 0, none⟩ (by kernel_rfl)) S0.out ?_
  refine wpAnyH_take (i := 6) (v := _) rfl (by kernel_rfl) (by kernel_rfl) (by kernel_rfl) (fun _ _ _ h => h) (yieldsIf_fld (by kernel_rfl) _ (.tmp 9) 0 rfl (.pointer (some ⟨g, 0, none⟩)) (.pointer (some ⟨g, 0, none⟩)) (by kernel_rfl) (fld_hd g 0 (by decide))) S0.out ?_
  refine wpAnyH_take (i := 7) (v := _) rfl (by kernel_rfl) (by kernel_rfl) (by kernel_rfl) (fun _ _ _ h => h) (yieldsIf_load_one (by kernel_rfl) _ (.tmp 10) rfl g 0 (by kernel_rfl) (.int .u16 n0) (fun w h => (FW.out w h.2).1) _ Tryd.underlying43 rfl) S0.out ?_
  refine wpAnyH_take (i := 8) (v := _) rfl (by kernel_rfl) (by kernel_rfl) (by kernel_rfl) (fun _ _ _ h => h) (yieldsIf_conv (by kernel_rfl) _ _ (.tmp 11) rfl (.int .u16 n0) (.int .u64 n0) (by kernel_rfl) (conv_u16 n0 k00 k01)) S0.out ?_
  refine wpAnyH_take (i := 9) (v := _) rfl (by kernel_rfl) (by kernel_rfl) (by kernel_rfl) (fun _ _ _ h => h) (yieldsIf_fn (by kernel_rfl) _ _ _ rfl #[] #[.pointer (some ⟨p, 0, none⟩)] (by kernel_rfl) (by kernel_rfl) (hmf _ _ _)) S0.out ?_
  refine wpAnyH_take (i := 10) (v := _) rfl (by kernel_rfl) (by kernel_rfl) (by kernel_rfl) (fun _ _ _ h => h) (yieldsIf_build_blk (by kernel_rfl) _ _ rfl [.int .i64 6, .int .i64 2, .int .u64 n0, .func (.func 71) #[] #[.pointer (some ⟨p, 0, none⟩)]] (by kernel_rfl)) S0.out ?_
  refine wpAnyH_take (i := 11) (v := _) rfl (by kernel_rfl) (by kernel_rfl) (by kernel_rfl) (fun _ _ _ h => h) (yieldsIf_load_one (by kernel_rfl) _ (.tmp 1) rfl p 0 (by kernel_rfl) (.pointer (some ⟨g, 0, none⟩)) (fun _ h => h.1.cell 0) _ Tryd.underlying85 rfl) S0.out ?_
  refine wpAnyH_take (i := 12) (v := _) rfl (by kernel_rfl) (by kernel_rfl) (by kernel_rfl) (fun _ _ _ h => h) (yieldsIf_nil (by kernel_rfl) (.tmp 15) rfl ⟨g, 0, none⟩ (by kernel_rfl)) S0.out ?_
  refine wpAnyH_take (i := 13) (v := _) rfl (by kernel_rfl) (by kernel_rfl) (by kernel_rfl) (fun _ _ _ h => h) (yieldsIf_fld (by kernel_rfl) _ (.tmp 16) 1 rfl (.pointer (some ⟨g, 0, none⟩)) (.pointer (some ⟨g, 1, none⟩)) (by kernel_rfl) (fld_hd g 1 (by decide))) S0.out ?_
  refine wpAnyH_take (i := 14) (v := _) rfl (by kernel_rfl) (by kernel_rfl) (by kernel_rfl) (fun _ _ _ h => h) (yieldsIf_load_one (by kernel_rfl) _ (.tmp 17) rfl g 1 (by kernel_rfl) (.int .u32 n1) (fun w h => (FW.out w h.2).2.1) _ Tryd.underlying44 rfl) S0.out ?_
  refine wpAnyH_take (i := 15) (v := _) rfl (by kernel_rfl) (by kernel_rfl) (by kernel_rfl) (fun _ _ _ h => h) (yieldsIf_conv (by kernel_rfl) _ _ (.tmp 18) rfl (.int .u32 n1) (.int .u64 n1) (by kernel_rfl) (conv_u32 n1 k10 k11)) S0.out ?_
  refine wpAnyH_take (i := 16) (v := _) rfl (by kernel_rfl) (by kernel_rfl) (by kernel_rfl) (fun _ _ _ h => h) (yieldsIf_fn (by kernel_rfl) _ _ _ rfl #[] #[.pointer (some ⟨p, 0, none⟩)] (by kernel_rfl) (by kernel_rfl) (hmf _ _ _)) S0.out ?_
  refine wpAnyH_take (i := 17) (v := _) rfl (by kernel_rfl) (by kernel_rfl) (by kernel_rfl) (fun _ _ _ h => h) (yieldsIf_build_blk (by kernel_rfl) _ _ rfl [.int .i64 8, .int .i64 4, .int .u64 n1, .func (.func 72) #[] #[.pointer (some ⟨p, 0, none⟩)]] (by kernel_rfl)) S0.out ?_
  refine wpAnyH_take (i := 18) (v := _) rfl (by kernel_rfl) (by kernel_rfl) (by kernel_rfl) (fun _ _ _ h => h) (yieldsIf_load_one (by kernel_rfl) _ (.tmp 1) rfl p 0 (by kernel_rfl) (.pointer (some ⟨g, 0, none⟩)) (fun _ h => h.1.cell 0) _ Tryd.underlying85 rfl) S0.out ?_
  refine wpAnyH_take (i := 19) (v := _) rfl (by kernel_rfl) (by kernel_rfl) (by kernel_rfl) (fun _ _ _ h => h) (yieldsIf_nil (by kernel_rfl) (.tmp 22) rfl ⟨g, 0, none⟩ (by kernel_rfl)) S0.out ?_
  refine wpAnyH_take (i := 20) (v := _) rfl (by kernel_rfl) (by kernel_rfl) (by kernel_rfl) (fun _ _ _ h => h) (yieldsIf_fld (by kernel_rfl) _ (.tmp 23) 2 rfl (.pointer (some ⟨g, 0, none⟩)) (.pointer (some ⟨g, 2, none⟩)) (by kernel_rfl) (fld_hd g 2 (by decide))) S0.out ?_
  refine wpAnyH_take (i := 21) (v := _) rfl (by kernel_rfl) (by kernel_rfl) (by kernel_rfl) (fun _ _ _ h => h) (yieldsIf_load_one (by kernel_rfl) _ (.tmp 24) rfl g 2 (by kernel_rfl) (.int .u16 n2) (fun w h => (FW.out w h.2).2.2.1) _ Tryd.underlying45 rfl) S0.out ?_
  refine wpAnyH_take (i := 22) (v := _) rfl (by kernel_rfl) (by kernel_rfl) (by kernel_rfl) (fun _ _ _ h => h) (yieldsIf_conv (by kernel_rfl) _ _ (.tmp 25) rfl (.int .u16 n2) (.int .u64 n2) (by kernel_rfl) (conv_cmd n2 k20 k21)) S0.out ?_
  refine wpAnyH_take (i := 23) (v := _) rfl (by kernel_rfl) (by kernel_rfl) (by kernel_rfl) (fun _ _ _ h => h) (yieldsIf_fn (by kernel_rfl) _ _ _ rfl #[] #[.pointer (some ⟨p, 0, none⟩)] (by kernel_rfl) (by kernel_rfl) (hmf _ _ _)) S0.out ?_
  refine wpAnyH_take (i := 24) (v := _) rfl (by kernel_rfl) (by kernel_rfl) (by kernel_rfl) (fun _ _ _ h => h) (yieldsIf_build_blk (by kernel_rfl) _ _ rfl [.int .i64 12, .int .i64 2, .int .u64 n2, .func (.func 73) #[] #[.pointer (some ⟨p, 0, none⟩)]] (by kernel_rfl)) S0.out ?_
  refine wpAnyH_take (i := 25) (v := _) rfl (by kernel_rfl) (by kernel_rfl) (by kernel_rfl) (fun _ _ _ h => h) (yieldsIf_load_one (by kernel_rfl) _ (.tmp 1) rfl p 0 (by kernel_rfl) (.pointer (some ⟨g, 0, none⟩)) (fun _ h => h.1.cell 0) _ Tryd.underlying85 rfl) S0.out ?_
  refine wpAnyH_take (i := 26) (v := _) rfl (by kernel_rfl) (by kernel_rfl) (by kernel_rfl) (fun _ _ _ h => h) (yieldsIf_nil (by kernel_rfl) (.tmp 29) rfl ⟨g, 0, none⟩ (by kernel_rfl)) S0.out ?_
  refine wpAnyH_take (i := 27) (v := _) rfl (by kernel_rfl) (by kernel_rfl) (by kernel_rfl) (fun _ _ _ h => h) (yieldsIf_fld (by kernel_rfl) _ (.tmp 30) 3 rfl (.pointer (some ⟨g, 0, none⟩)) (.pointer (some ⟨g, 3, none⟩)) (by kernel_rfl) (fld_hd g 3 (by decide))) S0.out ?_
  refine wpAnyH_take (i := 28) (v := _) rfl (by kernel_rfl) (by kernel_rfl) (by kernel_rfl) (fun _ _ _ h => h) (yieldsIf_load_one (by kernel_rfl) _ (.tmp 31) rfl g 3 (by kernel_rfl) (.int .u16 n3) (fun w h => (FW.out w h.2).2.2.2.1) _ Tryd.underlying43 rfl) S0.out ?_
  refine wpAnyH_take (i := 29) (v := _) rfl (by kernel_rfl) (by kernel_rfl) (by kernel_rfl) (fun _ _ _ h => h) (yieldsIf_conv (by kernel_rfl) _ _ (.tmp 32) rfl (.int .u16 n3) (.int .u64 n3) (by kernel_rfl) (conv_u16 n3 k30 k31)) S0.out ?_
  refine wpAnyH_take (i := 30) (v := _) rfl (by kernel_rfl) (by kernel_rfl) (by kernel_rfl) (fun _ _ _ h => h) (yieldsIf_fn (by kernel_rfl) _ _ _ rfl #[] #[.pointer (some ⟨p, 0, none⟩)] (by kernel_rfl) (by kernel_rfl) (hmf _ _ _)) S0.out ?_
  refine wpAnyH_take (i := 31) (v := _) rfl (by kernel_rfl) (by kernel_rfl) (by kernel_rfl) (fun _ _ _ h => h) (yieldsIf_build_blk (by kernel_rfl) _ _ rfl [.int .i64 14, .int .i64 2, .int .u64 n3, .func (.func 74) #[] #[.pointer (some ⟨p, 0, none⟩)]] (by kernel_rfl)) S0.out ?_
  refine wpAnyH_take (i := 32) (v := _) rfl (by kernel_rfl) (by kernel_rfl) (by kernel_rfl) (fun _ _ _ h => h) (yieldsIf_load_one (by kernel_rfl) _ (.tmp 1) rfl p 0 (by kernel_rfl) (.pointer (some ⟨g, 0, none⟩)) (fun _ h => h.1.cell 0) _ Tryd.underlying85 rfl) S0.out ?_
  refine wpAnyH_take (i := 33) (v := _) rfl (by kernel_rfl) (by kernel_rfl) (by kernel_rfl) (fun _ _ _ h => h) (yieldsIf_nil (by kernel_rfl) (.tmp 36) rfl ⟨g, 0, none⟩ (by kernel_rfl)) S0.out ?_
  refine wpAnyH_take (i := 34) (v := _) rfl (by kernel_rfl) (by kernel_rfl) (by kernel_rfl) (fun _ _ _ h => h) (yieldsIf_fld (by kernel_rfl) _ (.tmp 37) 4 rfl (.pointer (some ⟨g, 0, none⟩)) (.pointer (some ⟨g, 4, none⟩)) (by kernel_rfl) (fld_hd g 4 (by decide))) S0.out ?_
  refine wpAnyH_take (i := 35) (v := _) rfl (by kernel_rfl) (by kernel_rfl) (by kernel_rfl) (fun _ _ _ h => h) (yieldsIf_load_one (by kernel_rfl) _ (.tmp 38) rfl g 4 (by kernel_rfl) (.int .u32 n4) (fun w h => (FW.out w h.2).2.2.2.2.1) _ Tryd.underlying44 rfl) S0.out ?_
  refine wpAnyH_take (i := 36) (v := _) rfl (by kernel_rfl) (by kernel_rfl) (by kernel_rfl) (fun _ _ _ h => h) (yieldsIf_conv (by kernel_rfl) _ _ (.tmp 39) rfl (.int .u32 n4) (.int .u64 n4) (by kernel_rfl) (conv_u32 n4 k40 k41)) S0.out ?_
  refine wpAnyH_take (i := 37) (v := _) rfl (by kernel_rfl) (by kernel_rfl) (by kernel_rfl) (fun _ _ _ h => h) (yieldsIf_fn (by kernel_rfl) _ _ _ rfl #[] #[.pointer (some ⟨p, 0, none⟩)] (by kernel_rfl) (by kernel_rfl) (hmf _ _ _)) S0.out ?_
  refine wpAnyH_take (i := 38) (v := _) rfl (by kernel_rfl) (by kernel_rfl) (by kernel_rfl) (fun _ _ _ h => h) (yieldsIf_build_blk (by kernel_rfl) _ _ rfl [.int .i64 16, .int .i64 4, .int .u64 n4, .func (.func 75) #[] #[.pointer (some ⟨p, 0, none⟩)]] (by kernel_rfl)) S0.out ?_
  refine wpAnyH_take (i := 39) (v := _) rfl (by kernel_rfl) (by kernel_rfl) (by kernel_rfl) (fun _ _ _ h => h) (yieldsIf_load_one (by kernel_rfl) _ (.tmp 1) rfl p 0 (by kernel_rfl) (.pointer (some ⟨g, 0, none⟩)) (fun _ h => h.1.cell 0) _ Tryd.underlying85 rfl) S0.out ?_
  refine wpAnyH_take (i := 40) (v := _) rfl (by kernel_rfl) (by kernel_rfl) (by kernel_rfl) (fun _ _ _ h => h) (yieldsIf_nil (by kernel_rfl) (.tmp 43) rfl ⟨g, 0, none⟩ (by kernel_rfl)) S0.out ?_
  refine wpAnyH_take (i := 41) (v := _) rfl (by kernel_rfl) (by kernel_rfl) (by kernel_rfl) (fun _ _ _ h => h) (yieldsIf_fld (by kernel_rfl) _ (.tmp 44) 5 rfl (.pointer (some ⟨g, 0, none⟩)) (.pointer (some ⟨g, 5, none⟩)) (by kernel_rfl) (fld_hd g 5 (by decide))) S0.out ?_
  refine wpAnyH_take (i := 42) (v := _) rfl (by kernel_rfl) (by kernel_rfl) (by kernel_rfl) (fun _ _ _ h => h) (yieldsIf_load_one (by kernel_rfl) _ (.tmp 45) rfl g 5 (by kernel_rfl) (.int .u32 n5) (fun w h => (FW.out w h.2).2.2.2.2.2.1) _ Tryd.underlying44 rfl) S0.out ?_
  refine wpAnyH_take (i := 43) (v := _) rfl (by kernel_rfl) (by kernel_rfl) (by kernel_rfl) (fun _ _ _ h => h) (yieldsIf_conv (by kernel_rfl) _ _ (.tmp 46) rfl (.int .u32 n5) (.int .u64 n5) (by kernel_rfl) (conv_u32 n5 k50 k51)) S0.out ?_
  refine wpAnyH_take (i := 44) (v := _) rfl (by kernel_rfl) (by kernel_rfl) (by kernel_rfl) (fun _ _ _ h => h) (yieldsIf_fn (by kernel_rfl) _ _ _ rfl #[] #[.pointer (some ⟨p, 0, none⟩)] (by kernel_rfl) (by kernel_rfl) (hmf _ _ _)) S0.out ?_
  refine wpAnyH_take (i := 45) (v := _) rfl (by kernel_rfl) (by kernel_rfl) (by kernel_rfl) (fun _ _ _ h => h) (yieldsIf_build_blk (by kernel_rfl) _ _ rfl [.int .i64 20, .int .i64 4, .int .u64 n5, .func (.func 76) #[] #[.pointer (some ⟨p, 0, none⟩)]] (by kernel_rfl)) S0.out ?_
  refine wpAnyH_take (i := 46) (v := _) rfl (by kernel_rfl) (by kernel_rfl) (by kernel_rfl) (fun _ _ _ h => h) (yieldsIf_load_one (by kernel_rfl) _ (.tmp 1) rfl p 0 (by kernel_rfl) (.pointer (some ⟨g, 0, none⟩)) (fun _ h => h.1.cell 0) _ Tryd.underlying85 rfl) S0.out ?_
  refine wpAnyH_take (i := 47) (v := _) rfl (by kernel_rfl) (by kernel_rfl) (by kernel_rfl) (fun _ _ _ h => h) (yieldsIf_nil (by kernel_rfl) (.tmp 50) rfl ⟨g, 0, none⟩ (by kernel_rfl)) S0.out ?_
  refine wpAnyH_take (i := 48) (v := _) rfl (by kernel_rfl) (by kernel_rfl) (by kernel_rfl) (fun _ _ _ h => h) (yieldsIf_fld (by kernel_rfl) _ (.tmp 51) 6 rfl (.pointer (some ⟨g, 0, none⟩)) (.pointer (some ⟨g, 6, none⟩)) (by kernel_rfl) (fld_hd g 6 (by decide))) S0.out ?_
  refine wpAnyH_take (i := 49) (v := _) rfl (by kernel_rfl) (by kernel_rfl) (by kernel_rfl) (fun _ _ _ h => h) (yieldsIf_load_one (by kernel_rfl) _ (.tmp 52) rfl g 6 (by kernel_rfl) (.int .u64 n6) (fun w h => (FW.out w h.2).2.2.2.2.2.2.1) _ Tryd.underlying46 rfl) S0.out ?_
  refine wpAnyH_take (i := 50) (v := _) rfl (by kernel_rfl) (by kernel_rfl) (by kernel_rfl) (fun _ _ _ h => h) (yieldsIf_fn (by kernel_rfl) _ _ _ rfl #[] #[.pointer (some ⟨p, 0, none⟩)] (by kernel_rfl) (by kernel_rfl) (hmf _ _ _)) S0.out ?_
  refine wpAnyH_take (i := 51) (v := _) rfl (by kernel_rfl) (by kernel_rfl) (by kernel_rfl) (fun _ _ _ h => h) (yieldsIf_build_blk (by kernel_rfl) _ _ rfl [.int .i64 24, .int .i64 8, .int .u64 n6, .func (.func 77) #[] #[.pointer (some ⟨p, 0, none⟩)]] (by kernel_rfl)) S0.out ?_
  refine wpAnyH_take (i := 52) (v := _) rfl (by kernel_rfl) (by kernel_rfl) (by kernel_rfl) (fun _ _ _ h => h) (yieldsIf_load_one (by kernel_rfl) _ (.tmp 1) rfl p 0 (by kernel_rfl) (.pointer (some ⟨g, 0, none⟩)) (fun _ h => h.1.cell 0) _ Tryd.underlying85 rfl) S0.out ?_
  refine wpAnyH_take (i := 53) (v := _) rfl (by kernel_rfl) (by kernel_rfl) (by kernel_rfl) (fun _ _ _ h => h) (yieldsIf_nil (by kernel_rfl) (.tmp 56) rfl ⟨g, 0, none⟩ (by kernel_rfl)) S0.out ?_
  refine wpAnyH_take (i := 54) (v := _) rfl (by kernel_rfl) (by kernel_rfl) (by kernel_rfl) (fun _ _ _ h => h) (yieldsIf_load_blk (by kernel_rfl) _ (.tmp 57) rfl g (by kernel_rfl) _ cs (fun _ h => h.2) 26 _ Tryd.underlying49 rfl size_hd HL) S0.out ?_
  refine wpAnyH_take (i := 56) (v := _) rfl (by kernel_rfl) (by kernel_rfl) (by kernel_rfl) (fun _ _ _ h => h) (yieldsIf_fn (by kernel_rfl) _ _ _ rfl #[] #[.pointer (some ⟨p, 0, none⟩)] (by kernel_rfl) (by kernel_rfl) (hmf _ _ _)) S0.out ?_
  refine wpAnyH_take (i := 58) (v := _) rfl (by kernel_rfl) (by kernel_rfl) (by kernel_rfl) (fun _ _ _ h => h) (yieldsIf_load_one (by kernel_rfl) _ (.tmp 1) rfl p 0 (by kernel_rfl) (.pointer (some ⟨g, 0, none⟩)) (fun _ h => h.1.cell 0) _ Tryd.underlying85 rfl) S0.out ?_
  refine wpAnyH_take (i := 59) (v := _) rfl (by kernel_rfl) (by kernel_rfl) (by kernel_rfl) (fun _ _ _ h => h) (yieldsIf_nil (by kernel_rfl) (.tmp 62) rfl ⟨g, 0, none⟩ (by kernel_rfl)) S0.out ?_
  refine wpAnyH_take (i := 60) (v := _) rfl (by kernel_rfl) (by kernel_rfl) (by kernel_rfl) (fun _ _ _ h => h) (yieldsIf_fld (by kernel_rfl) _ (.tmp 63) 9 rfl (.pointer (some ⟨g, 0, none⟩)) (.pointer (some ⟨g, 9, none⟩)) (by kernel_rfl) (fld_hd g 9 (by decide))) S0.out ?_
  refine wpAnyH_take (i := 61) (v := _) rfl (by kernel_rfl) (by kernel_rfl) (by kernel_rfl) (fun _ _ _ h => h) (yieldsIf_load_one (by kernel_rfl) _ (.tmp 64) rfl g 9 (by kernel_rfl) (.int .u64 n10) (fun w h => (FW.out w h.2).2.2.2.2.2.2.2) _ Tryd.underlying46 rfl) S0.out ?_
  refine wpAnyH_take (i := 62) (v := _) rfl (by kernel_rfl) (by kernel_rfl) (by kernel_rfl) (fun _ _ _ h => h) (yieldsIf_fn (by kernel_rfl) _ _ _ rfl #[] #[.pointer (some ⟨p, 0, none⟩)] (by kernel_rfl) (by kernel_rfl) (hmf _ _ _)) S0.out ?_
  refine wpAnyH_take (i := 63) (v := _) rfl (by kernel_rfl) (by kernel_rfl) (by kernel_rfl) (fun _ _ _ h => h) (yieldsIf_build_blk (by kernel_rfl) _ _ rfl [.int .i64 40, .int .i64 8, .int .u64 n10, .func (.func 81) #[] #[.pointer (some ⟨p, 0, none⟩)]] (by kernel_rfl)) S0.out ?_
  refine wpAnyH_frame fun a1 ha1 => ?_
  have e58 : a1.eval (.tmp 58) = .agg cs.toArray := by rw [ha1]; kernel_rfl
  refine wpAnyH_one 55 _ (by kernel_rfl) rfl fun K hK => ?_
  go_simp
  refine (C0.out _).mono ?_
  rintro e w2 ⟨rfl, b⟩
  have S2 : Hid (Blk w2 p 85 [.pointer (some ⟨g, 0, none⟩)] ∧ Blk w2 g 49 cs) := ⟨S0.out.1.over b, S0.out.2.over b⟩
  have b2 := Lib.hid (step b0.out b)
  have hsz := b.size
  refine hK _ _ S2.out ?_
  clear hK K b e58
  subst ha1
  refine wpAnyH_take (i := 57) (v := _) rfl (by kernel_rfl) (by kernel_rfl) (by kernel_rfl) (fun _ _ _ h => h) (yieldsIf_build_blk (by kernel_rfl) _ _ rfl [.int .i64 32, .int .i64 8, .int .u64 n9, .func (.func 79) #[] #[.pointer (some ⟨p, 0, none⟩)]] (by kernel_rfl)) S2.out ?_
  refine wpAnyH_one 64 _ (by kernel_rfl) rfl fun K hK => ?_
  refine step_slice_blk rfl _ _ 11 _ rfl Tryd.underlying83 (fcellsV p n0 n1 n2 n3 n4 n5 n6 n9 n10) (by kernel_rfl) ?_
  intro G w3 hG1 hG2 G3 L3
  have S3 : Hid (Blk w3 p 85 [.pointer (some ⟨g, 0, none⟩)] ∧ Blk w3 g 49 cs) := ⟨S2.out.1.over L3.out, S2.out.2.over L3.out⟩
  refine hK _ _ S3.out ?_
  clear hK K
  refine wpAnyH_take (i := 65) (v := _) rfl (by kernel_rfl) (by kernel_rfl) (by kernel_rfl) (fun _ _ _ h => h) (yieldsIf_asg (by kernel_rfl) (.tmp 68) rfl (.slice (some ⟨G, 0, none⟩) 11 11) (by kernel_rfl)) S3.out ?_
  refine wpAnyH_done (by kernel_rfl) ?_ _
  go_wp2_with fail
  go_ret
  exact HQ.out _ _ ⟨p, G, rfl, hp1, by omega, S3.out.1, G3.out, step b2.out L3.out⟩
end Go.Proofs.YtgfflnjggnadpaaDoor

namespace Go.Proofs.YtgfflnjggnadpaaDoor
set_option linter.all false
set_option maxRecDepth 100000
open Go.RowKit
set_option maxHeartbeats 400000 in
theorem view_any (w : World) (B : Nat) (A : Option Addr) (n c : Nat) (xs : List Int) (a m : Int) (h : Holds w B A n c xs)
    (ha : -9223372036854775808 ≤ a ∧ a ≤ 9223372036854775807) (hm : -9223372036854775808 ≤ m ∧ m ≤ 9223372036854775807) :
    Calls Tryd.prog 61 #[.slice A n c, .int .i64 a, .int .i64 m] w fun e w' => ∃ A', e = .returned (.tuple #[.slice A' (partOf xs a m).length (partOf xs a m).length, .int .i64 (partErr n a m)]) ∧
      Holds w B A' (partOf xs a m).length (partOf xs a m).length (partOf xs a m) ∧ w = w' := by
  have hl := h.len
  have hf := h.fit
  have hr := h.room
  by_cases h1 : a < 0
  · have e1 : partErr n a m = 2 := by simp [partErr, h1]
    have e2 : partOf xs a m = [] := by unfold partOf; rw [hl, e1]; rfl
    rw [e1, e2]
    clear e1 e2 hl
    go_enter Tryd.func61, Tryd.ntmps61
    go_wp2
    go_ret2
    exact ⟨_, rfl, Holds.nil _ _, rfl⟩
  · by_cases h2 : (n : Int) < a
    · have e1 : partErr n a m = 2 := by simp [partErr, h2]
      have e2 : partOf xs a m = [] := by unfold partOf; rw [hl, e1]; rfl
      rw [e1, e2]
      clear e1 e2 hl
      go_enter Tryd.func61, Tryd.ntmps61
      go_wp2
      go_ret2
      exact ⟨_, rfl, Holds.nil _ _, rfl⟩
    · by_cases h3 : m < 0
      · have e1 : partErr n a m = 2 := by simp [partErr, h3]
        have e2 : partOf xs a m = [] := by unfold partOf; rw [hl, e1]; rfl
        rw [e1, e2]
        clear e1 e2 hl
        go_enter Tryd.func61, Tryd.ntmps61
        go_wp2
        go_ret2
        exact ⟨_, rfl, Holds.nil _ _, rfl⟩
      · by_cases h4 : (n : Int) - a < m
        · have e1 : partErr n a m = 4 := by unfold partErr; rw [if_neg (by omega), if_pos h4]
          have e2 : partOf xs a m = [] := by unfold partOf; rw [hl, e1]; rfl
          rw [e1, e2]
          clear e1 e2 hl
          go_enter Tryd.func61, Tryd.ntmps61
          go_wp2
          go_ret2
          exact ⟨_, rfl, Holds.nil _ _, rfl⟩
        · have e1 : partErr n a m = 0 := by unfold partErr; rw [if_neg (by omega), if_neg h4]
          have e2 : partOf xs a m = (xs.drop a.toNat).take m.toNat := by unfold partOf; rw [hl, e1]; rfl
          obtain ⟨k, rfl⟩ := Int.eq_ofNat_of_zero_le (show 0 ≤ a by omega)
          obtain ⟨j, rfl⟩ := Int.eq_ofNat_of_zero_le (show 0 ≤ m by omega)
          simp only [Int.toNat_natCast] at e2
          have e3 : ((xs.drop k).take j).length = j := by simp; omega
          by_cases hj : j = 0
          · subst hj
            rw [e1, e2, e3]
            clear e1 e2 e3 hl
            go_enter Tryd.func61, Tryd.ntmps61
            go_wp2
            go_ret2
            exact ⟨_, rfl, Holds.empty _ _ _ _ (fun _ => rfl), rfl⟩
          · have hc := h.cut (k := k) (m := j) (by omega) (by omega)
            rw [e1, e2, e3]
            clear e1 e2 e3 hl
            go_enter Tryd.func61, Tryd.ntmps61
            go_wp2
            go_ret2
            exact ⟨_, rfl, hc, rfl⟩
theorem putOk_at (n : Int) (s : Nat) (M : Int) (hs : sizeOk s = true) (hM : (256 : Int) ^ s = M) (h0 : 0 ≤ n) (hp : 0 < M) : (n / M == 0) = putOk n s := by
  unfold putOk
  rw [hs, Int.toNat_natCast, hM, Bool.true_and, Bool.eq_iff_iff]
  simp only [beq_iff_eq, decide_eq_true_eq]
  constructor
  · intro h
    have := Int.lt_mul_ediv_self_add (x := n) hp
    rw [h] at this
    omega
  · intro h
    exact Int.ediv_eq_zero_of_lt h0 h
theorem putOk_none {n s : Int} (h1 : ¬ s = 1) (h2 : ¬ s = 2) (h4 : ¬ s = 4) (h8 : ¬ s = 8) : putOk n s = false := by simp [putOk, sizeOk, h1, h2, h4, h8]
set_option maxHeartbeats 400000 in
theorem sized_any (w : World) (n s : Int) (hn : 0 ≤ n ∧ n ≤ 18446744073709551615) (hs : -9223372036854775808 ≤ s ∧ s ≤ 9223372036854775807) :
    Calls Tryd.prog 82 #[.int .u64 n, .int .i64 s] w fun e w' => e = .returned (.bool (putOk n s)) ∧ w = w' := by
  obtain ⟨hn0, hn1⟩ := hn
  by_cases h1 : s = 1
  · subst h1
    go_enter Tryd.func82, Tryd.ntmps82
    go_wp2
    go_ret
    exact ⟨ret_bool (putOk_at n 1 256 rfl rfl hn0 (by omega)), rfl⟩
  by_cases h2 : s = 2
  · subst h2
    go_enter Tryd.func82, Tryd.ntmps82
    go_wp2
    go_ret
    exact ⟨ret_bool (putOk_at n 2 65536 rfl rfl hn0 (by omega)), rfl⟩
  by_cases h4 : s = 4
  · subst h4
    go_enter Tryd.func82, Tryd.ntmps82
    go_wp2
    go_ret
    exact ⟨ret_bool (putOk_at n 4 4294967296 rfl rfl hn0 (by omega)), rfl⟩
  by_cases h8 : s = 8
  · subst h8
    go_enter Tryd.func82, Tryd.ntmps82
    go_wp2
    go_ret
    exact ⟨ret_bool (putOk_at n 8 18446744073709551616 rfl rfl hn0 (by omega)), rfl⟩
  · have e := putOk_none (n := n) h1 h2 h4 h8
    rw [e]
    clear e
    go_enter Tryd.func82, Tryd.ntmps82
    go_wp2
    go_ret
    exact ⟨rfl, rfl⟩
end Go.Proofs.YtgfflnjggnadpaaDoor

namespace Go.Proofs.YtgfflnjggnadpaaDoor
set_option linter.all false
set_option maxRecDepth 100000
open Go.RowKit
theorem le_getElem (n : Int) (s k : Nat) (h : k < s) (hk : k < (le n s).length) : (le n s)[k] = n / 256 ^ k % 256 := by
  induction s generalizing n k with
  | zero => omega
  | succ s ih =>
    cases k with
    | zero => simp [le]
    | succ k =>
      simp only [le, List.getElem_cons_succ]
      rw [ih (n / 256) k (by omega) (by rw [le_length]; omega), Int.pow_succ, Int.mul_comm, Int.ediv_ediv_of_nonneg (by omega)]
/-- the row that Put fills, behind k rounds -/
def putRow (n : Int) (s k : Nat) : List Int := (le n s).take k ++ List.replicate (s - k) 0
theorem putRow_length (n : Int) (s k : Nat) (hk : k ≤ s) : (putRow n s k).length = s := by simp [putRow, le_length]; omega
theorem putRow_set (n : Int) (s k : Nat) (hk : k < s) (x : Int) (hx : x = n / 256 ^ k % 256) : (putRow n s k).set k x = putRow n s (k + 1) := by
  have hl : ((le n s).take k).length = k := by simp [le_length]; omega
  have hkl : k < (le n s).length := by rw [le_length]; omega
  unfold putRow
  rw [List.set_append_right _ _ (by omega), hl, Nat.sub_self, show s - k = (s - (k + 1)) + 1 from by omega, List.replicate_succ, List.set_cons_zero, List.take_succ_eq_append_getElem hkl, le_getElem n s k hk hkl, hx,
    List.append_assoc]
  rfl
theorem putRow_zero (n : Int) (s : Nat) : putRow n s 0 = List.replicate s 0 := by simp [putRow]
theorem putRow_full (n : Int) (s : Nat) : putRow n s s = le n s := by
  unfold putRow
  rw [List.take_of_length_le (by rw [le_length]; omega)]
  simp
/-- what Put answers -/
def PutPost (w : World) (n s : Int) (e : Ending) (w' : World) : Prop :=
  ∃ A', e = .returned (.tuple #[.slice A' (putOf n s).length (putOf n s).length, .int .i64 (putErr n s)]) ∧ Fresh w' w.heap.size A' (putOf n s) ∧ Below w.heap.size w w'
set_option maxHeartbeats 400000 in
theorem Put_any (w : World) (n s : Int) (hn : 0 ≤ n ∧ n ≤ 18446744073709551615) (hs : -9223372036854775808 ≤ s ∧ s ≤ 9223372036854775807) :
    Calls Tryd.prog 65 #[.int .u64 n, .int .i64 s] w (PutPost w n s) := by
  have c1 := sized_any w n s hn hs
  obtain ⟨hn0, hn1⟩ := hn
  by_cases hp : putOk n s = true
  · have hz : sizeOk s = true := by unfold putOk at hp; simp at hp; exact hp.1
    have hs8 : 1 ≤ s ∧ s ≤ 8 := by rcases sizeOk_cases hz with e | e | e | e <;> omega
    obtain ⟨hs1, hs8⟩ := hs8
    obtain ⟨j, rfl⟩ := Int.eq_ofNat_of_zero_le (show 0 ≤ s by omega)
    have hq : ∀ e w', (∃ A', e = .returned (.tuple #[.slice A' j j, .int .i64 0]) ∧ Fresh w' w.heap.size A' (le n j) ∧ Below w.heap.size w w') → PutPost w n j e w' := by
      intro e w' hh
      unfold PutPost putOf putErr
      rw [if_pos hp, if_pos hp, Int.toNat_natCast, le_length]
      exact hh
    have HQ := Lib.hid hq
    rw [hp] at c1
    have C1 := Lib.hid c1
    clear c1 hp hz hq
    go_enter Tryd.func65, Tryd.ntmps65
    go_wp2_with fail
    refine C1.out.mono ?_
    rintro e w' ⟨rfl, rfl⟩
    go_wp2_with (at_make; refine wpList_make_bytes _ rfl (.tmp 12) (.tmp 12) rfl _ _ j rfl rfl rfl rfl (by omega) ?_; intro w1 hrow hb1)
    go_loopw [7, 16] (fun _ k wr => ∃ k' : Nat, k' ≤ j ∧ k = .int .i64 k' ∧ Hid (Row wr w.heap.size (putRow n j k')) ∧ Below w.heap.size w wr) (fun _ k _ => j - (intOf k).toNat)
    case atStart => exact ⟨0, Nat.zero_le _, rfl, by rw [putRow_zero]; exact hrow, hb1⟩
    case round =>
      obtain ⟨k, hk, rfl, hR, hb⟩ := hrel
      by_cases hlt : k < j
      · have hl := putRow_length n j k hk
        have hc := hR.out.cell (i := k) (by omega)
        have hz := hR.out.frozen k
        obtain ⟨old, hold⟩ : ∃ old, old = (putRow n j k).getD k 0 := ⟨_, rfl⟩
        rw [← hold] at hc
        clear hl hold
        have e := putRow_set n j k hlt (n / 2 ^ (8 * k) % 256) (by rw [pow_256_int, Int.natCast_pow]; rfl)
        have hS : Hid (Row (wr.setCell ⟨w.heap.size, k, none⟩ (.int .u8 (n / 2 ^ (8 * k) % 256))) w.heap.size (putRow n j (k + 1))) := by
          rw [← e]
          exact hR.out.set k _
        clear e hR
        go_wp2
        go_roundw
        case rel => exact ⟨k + 1, by omega, by go_num, hS, hb.setCell (Nat.le_refl _) _⟩
        case measure => simp [intOf]; omega
      · have hS : Hid (Row wr w.heap.size (le n j)) := by
          have := hR.out
          rwa [show k = j from by omega, putRow_full] at this
        clear hR
        go_wp2
        go_ret2
        exact HQ.out _ _ ⟨_, rfl, .inr ⟨_, rfl, Nat.le_refl _, hS⟩, hb⟩
  · have hp' : putOk n s = false := by simpa using hp
    have hq : ∀ e w', (∃ A', e = .returned (.tuple #[.slice A' 0 0, .int .i64 2]) ∧ Fresh w' w.heap.size A' [] ∧ Below w.heap.size w w') → PutPost w n s e w' := by
      intro e w' hh
      unfold PutPost putOf putErr
      rw [if_neg hp, if_neg hp]
      exact hh
    have HQ := Lib.hid hq
    rw [hp'] at c1
    have C1 := Lib.hid c1
    clear c1 hp hp' hq
    go_enter Tryd.func65, Tryd.ntmps65
    go_wp2_with fail
    refine C1.out.mono ?_
    rintro e w' ⟨rfl, rfl⟩
    go_wp2
    go_ret2
    exact HQ.out _ _ ⟨_, rfl, .inl ⟨rfl, rfl⟩, Below.refl _ _⟩
end Go.Proofs.YtgfflnjggnadpaaDoor

namespace Go.Proofs.YtgfflnjggnadpaaDoor
set_option linter.all false
set_option maxRecDepth 100000
open Go.RowKit
/-- what Put answers -/
def PutHPost (w : World) (h : Hd) (e : Ending) (w' : World) : Prop :=
  ∃ A', e = .returned (.tuple #[.slice A' (putOfH h).length (putOfH h).length, .int .i64 (putErrH h)]) ∧ Fresh w' w.heap.size A' (putOfH h) ∧ Below w.heap.size w w'
theorem vals_ok {h : Hd} (k : h.ok) (j : Nat) (hj : j < 11) : 0 ≤ (vals h).getD j 0 ∧ (vals h).getD j 0 ≤ 18446744073709551615 ∧ (vals h).getD j 0 < 256 ^ szs.getD j 0 := by
  have ab := aot_bounds k
  have e2 : (256 : Int) ^ 2 = 65536 := by decide
  have e4 : (256 : Int) ^ 4 = 4294967296 := by decide
  have e8 : (256 : Int) ^ 8 = 18446744073709551616 := by decide
  have k0 := k.ch
  have k1 := k.st
  have k2 := k.cm
  have k3 := k.cr
  have k4 := k.fl
  have k5 := k.nx
  have k6 := k.id
  have k9 := k.se
  refine eleven (p := fun j => 0 ≤ (vals h).getD j 0 ∧ (vals h).getD j 0 ≤ 18446744073709551615 ∧ (vals h).getD j 0 < 256 ^ szs.getD j 0) ?_ ?_ ?_ ?_ ?_ ?_ ?_ ?_ ?_ ?_ ?_ j hj
  · show (0 : Int) ≤ 1112364030 ∧ (1112364030 : Int) ≤ _ ∧ (1112364030 : Int) < 256 ^ 4; omega
  · show (0 : Int) ≤ 64 ∧ (64 : Int) ≤ _ ∧ (64 : Int) < 256 ^ 2; omega
  · show 0 ≤ h.ch ∧ h.ch ≤ _ ∧ h.ch < 256 ^ 2; omega
  · show 0 ≤ h.st ∧ h.st ≤ _ ∧ h.st < 256 ^ 4; omega
  · show 0 ≤ h.cm ∧ h.cm ≤ _ ∧ h.cm < 256 ^ 2; omega
  · show 0 ≤ h.cr ∧ h.cr ≤ _ ∧ h.cr < 256 ^ 2; omega
  · show 0 ≤ h.fl ∧ h.fl ≤ _ ∧ h.fl < 256 ^ 4; omega
  · show 0 ≤ h.nx ∧ h.nx ≤ _ ∧ h.nx < 256 ^ 4; omega
  · show 0 ≤ h.id ∧ h.id ≤ _ ∧ h.id < 256 ^ 8; omega
  · show 0 ≤ aot h ∧ aot h ≤ _ ∧ aot h < 256 ^ 8; omega
  · show 0 ≤ h.se ∧ h.se ≤ _ ∧ h.se < 256 ^ 8; omega
theorem fel_one (p : Nat) (h : Hd) (j : Nat) : ∀ v ∈ fel p h j, v.oneCell' = true := by
  intro v hv
  simp only [fel, List.mem_cons, List.not_mem_nil, or_false] at hv
  rcases hv with rfl | rfl | rfl | rfl <;> rfl
def fzero : List Value := [.int .i64 0, .int .i64 0, .int .u64 0, .nilFunc]
theorem zero_fd : (Tryd.prog.info? 88).map (fun i => (i.zero, i.size)) = some (some (.agg fzero.toArray), 4) := by kernel_rfl
theorem size_fd : (Tryd.prog.info? 88).map (·.size) = some 4 := by kernel_rfl
/-- one number of a head, put -/
theorem putk_any (w : World) (h : Hd) (k : h.ok) (j : Nat) (hj : j < 11) :
    Calls Tryd.prog 65 #[.int .u64 ((vals h).getD j 0), .int .i64 (szs.getD j 0 : Nat)] w fun e w' => ∃ A' er, e = .returned (.tuple #[.slice A' (szs.getD j 0) (szs.getD j 0), .int .i64 er]) ∧ Holds w' w'.heap.size A' (szs.getD j 0) (szs.getD j 0) (le ((vals h).getD j 0) (szs.getD j 0)) ∧ Below w.heap.size w w' := by
  obtain ⟨v0, v1, v2⟩ := vals_ok k j hj
  have h1 := offs_step j hj
  have hok : putOk ((vals h).getD j 0) (szs.getD j 0 : Nat) = true := by
    unfold putOk
    rw [size_of j hj, Int.toNat_natCast, decide_eq_true v2]
    rfl
  have eo : putOf ((vals h).getD j 0) (szs.getD j 0 : Nat) = le ((vals h).getD j 0) (szs.getD j 0) := by unfold putOf; rw [if_pos hok, Int.toNat_natCast]
  refine (Put_any w ((vals h).getD j 0) (szs.getD j 0 : Nat) ⟨v0, v1⟩ (by omega)).mono ?_
  rintro e w' ⟨A', rfl, hf, hb⟩
  rw [eo] at hf ⊢
  rw [le_length]
  exact ⟨A', _, rfl, hf.holds (le_length _ _) (le_bytes _ _) (by omega), hb⟩
set_option maxRecDepth 100000 in
set_option maxHeartbeats 2000000 in
theorem PutH_any (w : World) (h : Hd) (k : h.ok) :
    Calls Tryd.prog 50 #[hv h] w (PutHPost w h) := by
  have CM : Hid (∀ w : World, Calls Tryd.prog 64 #[hv h] w fun e w' => e = .returned (.bool (mayP h)) ∧ Below w.heap.size w w') := fun w => May_any w h k
  have HL := Lib.hid (hcells_len k)
  by_cases hm : mayP h = true
  · have HQ : Hid (∀ e w', (∃ A', e = .returned (.tuple #[.slice A' 64 64, .int .i64 0]) ∧ Fresh w' w.heap.size A' (putH h) ∧ Below w.heap.size w w') → PutHPost w h e w') := by
      intro e w' hh
      unfold PutHPost putOfH putErrH
      rw [if_pos hm, if_pos hm, putH_len k.len]
      exact hh
    have CF : Hid (∀ (w : World) (g : Nat), HB w g h → Calls Tryd.prog 62 #[.pointer (some ⟨g, 0, none⟩)] w (FieldsPost w g h)) := fun w g B => fields_any w g h k B
    have CP : Hid (∀ (w : World) (j : Nat), j < 11 → Calls Tryd.prog 65 #[.int .u64 ((vals h).getD j 0), .int .i64 (szs.getD j 0 : Nat)] w fun e w' => ∃ A' er, e = .returned (.tuple #[.slice A' (szs.getD j 0) (szs.getD j 0), .int .i64 er]) ∧ Holds w' w'.heap.size A' (szs.getD j 0) (szs.getD j 0) (le ((vals h).getD j 0) (szs.getD j 0)) ∧ Below w.heap.size w w') := fun w j hj => putk_any w h k j hj
    have HK := Lib.hid k
    rw [hm] at CM
    obtain ⟨cs, hcs⟩ : ∃ cs, cs = hcells h := ⟨_, rfl⟩
    have HC := Lib.hid hcs
    unfold hv at CM ⊢
    rw [← hcs] at CM HL ⊢
    have ZF := Lib.hid zero_fd
    obtain ⟨zf, hzf⟩ : ∃ zf, zf = fzero := ⟨_, rfl⟩
    have HZF : Hid (zf.length = 4) := by rw [hzf]; rfl
    rw [← hzf] at ZF
    clear hm k hcs hzf
    go_enter Tryd.func50, Tryd.ntmps50
    go_wp2_with (first
      | ((with_reducible show wpList _ _ _ (⟨some 1, _, _, _, _, _⟩ :: _) _ _); refine wpList_box_blk rfl _ (.tmp 0) rfl cs rfl ?_; intro g w1 hg1 hg2 B1 L1)
      | ((with_reducible show wpList _ _ _ (⟨some 9, _, _, _, _, _⟩ :: _) _ _); refine wpList_load_blk rfl _ (.tmp 1) rfl g rfl _ cs B1 26 _ Tryd.underlying49 rfl size_hd HL ?_)
      | fail)
    refine (CM.out _).mono ?_
    rintro e w2 ⟨rfl, L2⟩
    have B2 := Lib.hid (B1.out.over L2)
    have L12 := Lib.hid (step L1.out L2)
    have hs2 := L2.size
    clear B1 L1 L2 CM
    go_wp2_with (first
      | (at_make; refine wpList_make_bytes _ rfl _ _ rfl _ _ 64 rfl rfl rfl rfl (by omega) ?_; intro w3 R3 L3)
      | fail)
    have B3 := Lib.hid (B2.out.over L3)
    have L13 := Lib.hid (step L12.out L3)
    have hs3 := L3.size
    refine (CF.out _ g (HB.of HC.out B3.out)).mono ?_
    rintro e w4 ⟨p, G, rfl, hp, hpG, P4, F4, L4⟩
    obtain ⟨gb, hgb⟩ : ∃ gb, gb = w2.heap.size := ⟨_, rfl⟩
    rw [← hgb] at R3 ⊢
    have R4 : Hid (Row w4 gb (rowH h 0)) := by rw [rowH_zero]; exact R3.out.over L4
    have B4 : Hid (Blk w4 g 49 cs) := B3.out.over L4
    have F4' := Lib.hid F4
    have L14 := Lib.hid (step L13.out L4)
    have hgb3 := R3.out.lt
    have hgw : w.heap.size ≤ gb := by omega
    have hgg : g < gb := by omega
    have hbG : gb < G := by omega
    clear P4 F4 L4 B3 B2 L13 L3 R3 L12 hp hpG hgb hgb3 hs3 hs2 CF
    go_wp2_with fail
    go_loopw [6, 7, 8, 15] (fun _ _ _ i wr => ∃ j : Nat, j ≤ 11 ∧ i = .int .i64 j ∧ Hid (Row wr gb (rowH h j)) ∧ Hid (Blk wr G 88 (fcells p h)) ∧ Hid (Blk wr g 49 cs) ∧ Hid (Below w.heap.size w wr)) (fun _ _ _ i _ => 11 - (intOf i).toNat)
    case atStart => exact ⟨0, Nat.zero_le _, rfl, R4, F4', B4, L14⟩
    case round =>
      clear R4 F4' B4 L14
      obtain ⟨j, hj, rfl, RR, FF, BB, LL⟩ := hrel
      by_cases hlt : j < 11
      · have h1 := offs_step j hlt
        have hrange := fcells_range FF.out j hlt
        have hstep := rowH_step h j hlt
        have hlen := rowH_len h j hj
        have CPj : Hid (∀ w : World, Calls Tryd.prog 65 #[.int .u64 ((vals h).getD j 0), .int .i64 (szs.getD j 0 : Nat)] w fun e w' => ∃ A' er, e = .returned (.tuple #[.slice A' (szs.getD j 0) (szs.getD j 0), .int .i64 er]) ∧ Holds w' w'.heap.size A' (szs.getD j 0) (szs.getD j 0) (le ((vals h).getD j 0) (szs.getD j 0)) ∧ Below w.heap.size w w') := fun w => CP.out w j hlt
        have EL : Hid ((fel p h j).length = 4) := rfl
        have EO := Lib.hid (fel_one p h j)
        have E0 : Hid ((fel p h j)[0]? = some (.int .i64 (offs.getD j 0 : Nat))) := rfl
        have E1 : Hid ((fel p h j)[1]? = some (.int .i64 (szs.getD j 0 : Nat))) := rfl
        have E2 : Hid ((fel p h j)[2]? = some (.int .u64 ((vals h).getD j 0))) := rfl
        obtain ⟨el, hel⟩ : ∃ el, el = fel p h j := ⟨_, rfl⟩
        rw [← hel] at EL EO E0 E1 E2 hrange
        obtain ⟨off, hoff⟩ : ∃ off, off = offs.getD j 0 := ⟨_, rfl⟩
        obtain ⟨sz, hsz⟩ : ∃ sz, sz = szs.getD j 0 := ⟨_, rfl⟩
        obtain ⟨n, hn⟩ : ∃ n, n = (vals h).getD j 0 := ⟨_, rfl⟩
        rw [← hoff] at E0 h1 hstep
        rw [← hsz] at E1 h1 hstep CPj
        rw [← hn] at E2 hstep CPj
        obtain ⟨_, h48, hs2, hs8⟩ := h1
        obtain ⟨row, hrow⟩ : ∃ row, row = rowH h j := ⟨_, rfl⟩
        rw [← hrow] at RR hstep hlen
        have RNG := Lib.hid hrange
        have HST := Lib.hid hstep
        have HLN := Lib.hid hlen
        have hgbl := RR.out.lt
        have hgl := BB.out.lt
        have hGl := FF.out.lt
        have hwl := LL.out.size
        clear hel hoff hsz hn hrow hrange hstep hlen CP
        go_wp2_with (first
          | ((with_reducible show wpList _ _ _ (⟨some 18, _, _, _, _, _⟩ :: _) _ _); refine wpList_load_mid rfl _ (.tmp 17) rfl G (j * 4) rfl el _ RNG.out Tryd.underlying88 rfl (by rw [size_fd, EL.out]) ?_)
          | ((with_reducible show wpList _ _ _ (⟨some 6, _, _, _, _, _⟩ :: _) _ _); refine wpList_alloc_blk rfl _ rfl zf _ ZF ?_; intro f w5 hf1 hf2 X5 L5)
          | ((with_reducible show wpList _ _ _ (⟨none, .store _ (.tmp 6) _, _, _, _, _⟩ :: _) _ _); refine wpList_store_blk rfl _ (.tmp 6) (.tmp 18) rfl f rfl _ zf el rfl X5 4 size_fd HZF EL EO ?_; intro w6 X6 O6 hf3; have gc2 := (X6.out.cell 2).trans E2.out; have gc1 := (X6.out.cell 1).trans E1.out)
          | fail)
        refine (CPj.out _).mono ?_
        rintro e w7 ⟨A', er, rfl, hh, L7⟩
        have gc0 := ((X6.out.over L7).cell 0).trans E0.out
        have L6 : Hid (Below wr.heap.size wr w6) := below_only L5.out O6.out hf1
        have L67 : Hid (Below wr.heap.size wr w7) := step L6.out L7
        have R7 : Hid (Blk w7 gb 5 (row.map (Value.int .u8))) := RR.out.over L67.out
        have F7 : Hid (Blk w7 G 88 (fcells p h)) := FF.out.over L67.out
        have B7 : Hid (Blk w7 g 49 cs) := BB.out.over L67.out
        have L77 := Lib.hid (step LL.out L67.out)
        have HFIT : Hid (off + sz ≤ (row.map (Value.int .u8)).length) := by show _ ≤ _; rw [List.length_map, HLN.out]; omega
        have HLE : Hid ((le n sz).length = sz) := le_length _ _
        obtain ⟨xs, hxs⟩ : ∃ xs, xs = le n sz := ⟨_, rfl⟩
        rw [← hxs] at hh HST HLE
        clear RR FF BB LL L5 O6 L6 L67 L7 X5 X6 gc2 gc1 RNG hxs CPj
        go_wp2_with (first
          | ((with_reducible show wpList _ _ _ (⟨some 32, _, _, _, _, _⟩ :: _) _ _); refine wpList_copy_mid rfl (.tmp 30) (.tmp 31) rfl gb off 5 (64 - off) (64 - off) sz sz A' (by first | rfl | (show Value.slice _ _ _ = _; simp [Addr.add_mid])) rfl _ xs _ R7 hh (by omega) (by omega) HFIT ?_; intro w8 R8 O8)
          | fail)
        have R8' : Hid (Row w8 gb (rowH h (j + 1))) := by
          have := R8.out
          rw [spliced_row, HLE.out, HST.out] at this
          exact this
        have F8 : Hid (Blk w8 G 88 (fcells p h)) := F7.out.only O8.out (by omega)
        have B8 : Hid (Blk w8 g 49 cs) := B7.out.only O8.out (by omega)
        have L8 : Hid (Below w.heap.size w w8) := below_only L77.out O8.out (by omega)
        clear R8 R7 F7 B7 L77 O8
        go_roundw
        case rel => exact ⟨j + 1, by omega, by go_num, R8', F8, B8, L8⟩
        case measure => simp [intOf]; omega
      · obtain rfl : j = 11 := by omega
        have RRd : Hid (Blk wr.drew gb 5 ((rowH h 11).map (Value.int .u8))) := RR.out
        have BBd : HB wr.drew g h := HB.of HC.out BB.out
        have SG := Lib.hid (BBd.sig HK.out)
        have LLd : Hid (Below w.heap.size w wr.drew) := LL.out.drew
        have HFIT : Hid (48 + 16 ≤ ((rowH h 11).map (Value.int .u8)).length) := by show _ ≤ _; rw [List.length_map, rowH_len h 11 (by omega)]; omega
        have HE : Hid ((rowH h 11).take 48 ++ h.sg ++ (rowH h 11).drop (48 + h.sg.length) = putH h) := by show _ = _; rw [HK.out.len]; exact rowH_last h
        obtain ⟨row, hrow⟩ : ∃ row, row = rowH h 11 := ⟨_, rfl⟩
        rw [← hrow] at RRd HFIT HE
        clear hrow RR FF BB LL BBd hj
        go_upto_region 10 with fail
        go_region_law ((refine step_copy_mid rfl (.tmp 35) (.tmp 37) rfl gb 48 5 16 16 16 16 (some ⟨g, 10, none⟩) rfl rfl _ h.sg _ RRd SG.out (by decide) (by decide) HFIT ?_; intro w5 R5 O5))
        go_wp2
        go_ret2
        refine HQ.out _ _ ⟨_, rfl, .inr ⟨gb, rfl, hgw, ?_⟩, below_only LLd.out O5.out hgw⟩
        have := R5.out
        rw [spliced_row, HE.out] at this
        exact this
  · have hm' : mayP h = false := by simpa using hm
    have HQ : Hid (∀ e w', (e = .returned (.tuple #[.slice none 0 0, .int .i64 2]) ∧ Below w.heap.size w w') → PutHPost w h e w') := by
      rintro e w' ⟨rfl, hb⟩
      unfold PutHPost putOfH putErrH
      rw [if_neg hm, if_neg hm]
      exact ⟨none, rfl, .inl ⟨rfl, rfl⟩, hb⟩
    rw [hm'] at CM
    obtain ⟨cs, hcs⟩ : ∃ cs, cs = hcells h := ⟨_, rfl⟩
    unfold hv at CM ⊢
    rw [← hcs] at CM HL ⊢
    clear hm hm' k hcs
    go_enter Tryd.func50, Tryd.ntmps50
    go_wp2_with (first
      | ((with_reducible show wpList _ _ _ (⟨some 1, _, _, _, _, _⟩ :: _) _ _); refine wpList_box_blk rfl _ (.tmp 0) rfl cs rfl ?_; intro g w1 hg1 hg2 B1 L1)
      | ((with_reducible show wpList _ _ _ (⟨some 9, _, _, _, _, _⟩ :: _) _ _); refine wpList_load_blk rfl _ (.tmp 1) rfl g rfl _ cs B1 26 _ Tryd.underlying49 rfl size_hd HL ?_)
      | fail)
    refine (CM.out _).mono ?_
    rintro e w2 ⟨rfl, L2⟩
    go_wp2
    go_ret2
    exact HQ.out _ _ ⟨rfl, step L1.out L2⟩
end Go.Proofs.YtgfflnjggnadpaaDoor

namespace Go.Proofs.YtgfflnjggnadpaaDoor
set_option linter.all false
set_option maxRecDepth 100000
open Go.RowKit
theorem putOk_zero (s : Int) : putOk 0 s = sizeOk s := by
  unfold putOk
  cases h : sizeOk s with
  | false => rfl
  | true =>
    rcases sizeOk_cases h with rfl | rfl | rfl | rfl <;> rfl
set_option maxHeartbeats 400000 in
theorem Get_any (w : World) (B : Nat) (A : Option Addr) (n c : Nat) (xs : List Int) (a s : Int) (h : Holds w B A n c xs)
    (ha : -9223372036854775808 ≤ a ∧ a ≤ 9223372036854775807) (hs : -9223372036854775808 ≤ s ∧ s ≤ 9223372036854775807) :
    Calls Tryd.prog 63 #[.slice A n c, .int .i64 a, .int .i64 s] w fun e w' => e = .returned (.tuple #[.int .u64 (getOf xs a s), .int .i64 (getErr n a s)]) ∧ w = w' := by
  have hl := Lib.hid h.len
  by_cases hz : sizeOk s = true
  · by_cases hp : partErr n a s = 0
    · have e1 : getErr n a s = 0 := by unfold getErr; rw [if_pos hz, hp]
      have e2 : partOf xs a s = (xs.drop a.toNat).take s.toNat := by unfold partOf; rw [hl.out, if_pos hp]
      have e3 : getOf xs a s = num (partOf xs a s) := by unfold getOf; rw [hl.out, if_pos e1, e2]
      obtain ⟨z, hzz⟩ : ∃ z, z = num (partOf xs a s) := ⟨_, rfl⟩
      rw [e1, e3, ← hzz]
      have HZ := Lib.hid hzz
      have H2 := Lib.hid e2
      clear e1 e2 e3 hzz
      have c1 := sized_any w 0 s (by omega) hs
      rw [putOk_zero, hz] at c1
      have C1 := Lib.hid c1
      have c2 := view_any w B A n c xs a s h ha hs
      rw [hp] at c2
      have C2 := Lib.hid c2
      have HS8 : s.toNat ≤ 8 := by rcases sizeOk_cases hz with e | e | e | e <;> rw [e] <;> decide
      clear c1 c2 hz hp
      go_enter Tryd.func63, Tryd.ntmps63
      go_wp2_with fail
      refine C1.out.mono ?_
      rintro e w' ⟨rfl, rfl⟩
      go_wp2_with fail
      refine C2.out.mono ?_
      rintro e w' ⟨A', rfl, hv, rfl⟩
      obtain ⟨ys, hys⟩ : ∃ ys, ys = partOf xs a s := ⟨_, rfl⟩
      rw [← hys] at hv HZ H2 ⊢
      obtain ⟨m, hm⟩ : ∃ m, m = ys.length := ⟨_, rfl⟩
      rw [← hm] at hv ⊢
      have HM := Lib.hid hm
      have hm8 : m ≤ 8 := by rw [hm, H2.out, List.length_take]; omega
      clear hys hm
      have hvr := hv.room
      go_wp2_with fail
      go_loop [10, 11, 12, 28] (fun v i x k => ∃ k' : Nat, k' ≤ m ∧ k = .int .i64 k' ∧ ∃ z', v = .int .u64 z' ∧ Hid (z' = num (ys.take k'))) (fun _ _ _ k => m - (intOf k).toNat)
      case atStart => exact ⟨0, Nat.zero_le _, rfl, 0, rfl, rfl⟩
      case round =>
        obtain ⟨k, hk, rfl, z', rfl, HZ'⟩ := hrel
        by_cases hlt : k < m
        · obtain ⟨b, off, rfl, hb, hc⟩ := hv.cells (by omega)
          have gc := hc k hlt
          clear hc
          obtain ⟨y, hy⟩ : ∃ y, y = ys.getD k 0 := ⟨_, rfl⟩
          rw [← hy] at gc
          have hy1 : 0 ≤ y ∧ y ≤ 255 := by rw [hy]; exact hv.byte.getD k
          obtain ⟨hy1, hy2⟩ := hy1
          have HY := Lib.hid hy
          clear hy
          have hS := num_step hv.byte (by have := HM.out; omega) (by omega) HZ'.out HY.out
          have HS := Lib.hid hS
          clear hS HZ'
          go_wp2
          go_roundw
          case rel => exact ⟨k + 1, by omega, by go_num, _, rfl, HS⟩
          case measure => simp [intOf]; omega
        · have hS := Lib.hid (show z' = z by rw [HZ'.out, HZ.out, List.take_of_length_le (by have := HM.out; omega)])
          clear HZ'
          go_wp2
          go_ret2
          exact ⟨by rw [hS.out]; rfl, rfl⟩
    · have e1 : getErr n a s = partErr n a s := by unfold getErr; rw [if_pos hz]
      have e3 : getOf xs a s = 0 := by unfold getOf; rw [hl.out, e1, if_neg hp]
      have e2 : partOf xs a s = [] := by unfold partOf; rw [hl.out, if_neg hp]
      have c1 := sized_any w 0 s (by omega) hs
      rw [putOk_zero, hz] at c1
      have C1 := Lib.hid c1
      have c2 := view_any w B A n c xs a s h ha hs
      rw [e1, e3]
      rw [e2] at c2
      obtain ⟨er, her⟩ : ∃ er, er = partErr n a s := ⟨_, rfl⟩
      rw [← her] at c2 hp ⊢
      have C2 := Lib.hid c2
      have hne : (er != 0) = true := by simpa using hp
      clear c1 c2 hz hp e1 e2 e3 her
      go_enter Tryd.func63, Tryd.ntmps63
      go_wp2_with fail
      refine C1.out.mono ?_
      rintro e w' ⟨rfl, rfl⟩
      go_wp2_with fail
      refine C2.out.mono ?_
      rintro e w' ⟨A', rfl, hv, rfl⟩
      go_wp2
      go_ret2
      exact ⟨rfl, rfl⟩
  · have hz' : sizeOk s = false := by simpa using hz
    have e1 : getErr n a s = 2 := by unfold getErr; rw [if_neg hz]
    have e3 : getOf xs a s = 0 := by unfold getOf; rw [hl.out, e1]; rfl
    have c1 := sized_any w 0 s (by omega) hs
    rw [putOk_zero, hz'] at c1
    have C1 := Lib.hid c1
    rw [e1, e3]
    clear c1 hz hz' e1 e3
    go_enter Tryd.func63, Tryd.ntmps63
    go_wp2_with fail
    refine C1.out.mono ?_
    rintro e w' ⟨rfl, rfl⟩
    go_wp2
    go_ret2
    exact ⟨rfl, rfl⟩
end Go.Proofs.YtgfflnjggnadpaaDoor

namespace Go.Proofs.YtgfflnjggnadpaaDoor
set_option linter.all false
set_option maxRecDepth 100000
open Go.RowKit
theorem Save.over {w w' w2 : World} {g : Nat} (a : Save g w w') (hb : Below w'.heap.size w' w2) : Save g w w2 := a.trans (Save.of_below hb g)
set_option maxHeartbeats 400000 in
theorem take2_any (w : World) (p g : Nat) (h : Hd) (n : Int) (k : h.ok) (hn0 : 0 ≤ n) (hn1 : n ≤ 65535) (B : HB w g h) (Pp : Blk w p 85 [.pointer (some ⟨g, 0, none⟩)]) :
    Calls Tryd.prog 71 #[.int .u64 n, .pointer (some ⟨p, 0, none⟩)] w fun e w' => e = .returned (.tuple #[]) ∧ HB w' g { h with ch := n } ∧ Save g w w' := by
  have hw : IntKind.u16.wrap n = n := by rw [IntKind.wrap_u16]; omega
  have gp := Pp.cell 0
  have HL := Lib.hid (hcells_len k)
  have HE : Hid ((hcells h).set 0 (.int .u16 n) = hcells { h with ch := n }) := rfl
  obtain ⟨cs, hcs⟩ : ∃ cs, cs = hcells h := ⟨_, rfl⟩
  obtain ⟨ds, hds⟩ : ∃ ds, ds = hcells { h with ch := n } := ⟨_, rfl⟩
  have HD := Lib.hid hds
  have BB : Hid (Blk w g 49 cs) := by rw [hcs]; exact B
  rw [← hcs, ← hds] at HE
  rw [← hcs] at HL
  clear hcs hds B Pp k
  go_enter Tryd.func71, Tryd.ntmps71
  go_wp2_with (((with_reducible show wpList _ _ _ (⟨none, .store _ (.tmp 7) _, _, _, _, _⟩ :: _) _ _); refine wpList_store_fld rfl _ (.tmp 7) (.tmp 5) rfl g 0 rfl _ cs (.int .u16 n) rfl BB (by have := HL.out; show 0 < _; omega) (by kernel_rfl) rfl ?_; intro w1 B1 O1 hg1; rw [HE.out] at B1))
  go_end0
  exact ⟨rfl, HB.of HD.out B1.out, Save.of_only O1.out⟩
set_option maxHeartbeats 400000 in
theorem take3_any (w : World) (p g : Nat) (h : Hd) (n : Int) (k : h.ok) (hn0 : 0 ≤ n) (hn1 : n ≤ 4294967295) (B : HB w g h) (Pp : Blk w p 85 [.pointer (some ⟨g, 0, none⟩)]) :
    Calls Tryd.prog 72 #[.int .u64 n, .pointer (some ⟨p, 0, none⟩)] w fun e w' => e = .returned (.tuple #[]) ∧ HB w' g { h with st := n } ∧ Save g w w' := by
  have hw : IntKind.u32.wrap n = n := by rw [IntKind.wrap_u32']; omega
  have gp := Pp.cell 0
  have HL := Lib.hid (hcells_len k)
  have HE : Hid ((hcells h).set 1 (.int .u32 n) = hcells { h with st := n }) := rfl
  obtain ⟨cs, hcs⟩ : ∃ cs, cs = hcells h := ⟨_, rfl⟩
  obtain ⟨ds, hds⟩ : ∃ ds, ds = hcells { h with st := n } := ⟨_, rfl⟩
  have HD := Lib.hid hds
  have BB : Hid (Blk w g 49 cs) := by rw [hcs]; exact B
  rw [← hcs, ← hds] at HE
  rw [← hcs] at HL
  clear hcs hds B Pp k
  go_enter Tryd.func72, Tryd.ntmps72
  go_wp2_with (((with_reducible show wpList _ _ _ (⟨none, .store _ (.tmp 7) _, _, _, _, _⟩ :: _) _ _); refine wpList_store_fld rfl _ (.tmp 7) (.tmp 5) rfl g 1 rfl _ cs (.int .u32 n) rfl BB (by have := HL.out; show 1 < _; omega) (by kernel_rfl) rfl ?_; intro w1 B1 O1 hg1; rw [HE.out] at B1))
  go_end0
  exact ⟨rfl, HB.of HD.out B1.out, Save.of_only O1.out⟩
set_option maxHeartbeats 400000 in
theorem take4_any (w : World) (p g : Nat) (h : Hd) (n : Int) (k : h.ok) (hn0 : 0 ≤ n) (hn1 : n ≤ 65535) (B : HB w g h) (Pp : Blk w p 85 [.pointer (some ⟨g, 0, none⟩)]) :
    Calls Tryd.prog 73 #[.int .u64 n, .pointer (some ⟨p, 0, none⟩)] w fun e w' => e = .returned (.tuple #[]) ∧ HB w' g { h with cm := n } ∧ Save g w w' := by
  have hw : IntKind.u16.wrap n = n := by rw [IntKind.wrap_u16]; omega
  have gp := Pp.cell 0
  have HL := Lib.hid (hcells_len k)
  have HE : Hid ((hcells h).set 2 (.int .u16 n) = hcells { h with cm := n }) := rfl
  obtain ⟨cs, hcs⟩ : ∃ cs, cs = hcells h := ⟨_, rfl⟩
  obtain ⟨ds, hds⟩ : ∃ ds, ds = hcells { h with cm := n } := ⟨_, rfl⟩
  have HD := Lib.hid hds
  have BB : Hid (Blk w g 49 cs) := by rw [hcs]; exact B
  rw [← hcs, ← hds] at HE
  rw [← hcs] at HL
  clear hcs hds B Pp k
  go_enter Tryd.func73, Tryd.ntmps73
  go_wp2_with (((with_reducible show wpList _ _ _ (⟨none, .store _ (.tmp 7) _, _, _, _, _⟩ :: _) _ _); refine wpList_store_fld rfl _ (.tmp 7) (.tmp 5) rfl g 2 rfl _ cs (.int .u16 n) rfl BB (by have := HL.out; show 2 < _; omega) (by kernel_rfl) rfl ?_; intro w1 B1 O1 hg1; rw [HE.out] at B1))
  go_end0
  exact ⟨rfl, HB.of HD.out B1.out, Save.of_only O1.out⟩
set_option maxHeartbeats 400000 in
theorem take5_any (w : World) (p g : Nat) (h : Hd) (n : Int) (k : h.ok) (hn0 : 0 ≤ n) (hn1 : n ≤ 65535) (B : HB w g h) (Pp : Blk w p 85 [.pointer (some ⟨g, 0, none⟩)]) :
    Calls Tryd.prog 74 #[.int .u64 n, .pointer (some ⟨p, 0, none⟩)] w fun e w' => e = .returned (.tuple #[]) ∧ HB w' g { h with cr := n } ∧ Save g w w' := by
  have hw : IntKind.u16.wrap n = n := by rw [IntKind.wrap_u16]; omega
  have gp := Pp.cell 0
  have HL := Lib.hid (hcells_len k)
  have HE : Hid ((hcells h).set 3 (.int .u16 n) = hcells { h with cr := n }) := rfl
  obtain ⟨cs, hcs⟩ : ∃ cs, cs = hcells h := ⟨_, rfl⟩
  obtain ⟨ds, hds⟩ : ∃ ds, ds = hcells { h with cr := n } := ⟨_, rfl⟩
  have HD := Lib.hid hds
  have BB : Hid (Blk w g 49 cs) := by rw [hcs]; exact B
  rw [← hcs, ← hds] at HE
  rw [← hcs] at HL
  clear hcs hds B Pp k
  go_enter Tryd.func74, Tryd.ntmps74
  go_wp2_with (((with_reducible show wpList _ _ _ (⟨none, .store _ (.tmp 7) _, _, _, _, _⟩ :: _) _ _); refine wpList_store_fld rfl _ (.tmp 7) (.tmp 5) rfl g 3 rfl _ cs (.int .u16 n) rfl BB (by have := HL.out; show 3 < _; omega) (by kernel_rfl) rfl ?_; intro w1 B1 O1 hg1; rw [HE.out] at B1))
  go_end0
  exact ⟨rfl, HB.of HD.out B1.out, Save.of_only O1.out⟩
set_option maxHeartbeats 400000 in
theorem take6_any (w : World) (p g : Nat) (h : Hd) (n : Int) (k : h.ok) (hn0 : 0 ≤ n) (hn1 : n ≤ 4294967295) (B : HB w g h) (Pp : Blk w p 85 [.pointer (some ⟨g, 0, none⟩)]) :
    Calls Tryd.prog 75 #[.int .u64 n, .pointer (some ⟨p, 0, none⟩)] w fun e w' => e = .returned (.tuple #[]) ∧ HB w' g { h with fl := n } ∧ Save g w w' := by
  have hw : IntKind.u32.wrap n = n := by rw [IntKind.wrap_u32']; omega
  have gp := Pp.cell 0
  have HL := Lib.hid (hcells_len k)
  have HE : Hid ((hcells h).set 4 (.int .u32 n) = hcells { h with fl := n }) := rfl
  obtain ⟨cs, hcs⟩ : ∃ cs, cs = hcells h := ⟨_, rfl⟩
  obtain ⟨ds, hds⟩ : ∃ ds, ds = hcells { h with fl := n } := ⟨_, rfl⟩
  have HD := Lib.hid hds
  have BB : Hid (Blk w g 49 cs) := by rw [hcs]; exact B
  rw [← hcs, ← hds] at HE
  rw [← hcs] at HL
  clear hcs hds B Pp k
  go_enter Tryd.func75, Tryd.ntmps75
  go_wp2_with (((with_reducible show wpList _ _ _ (⟨none, .store _ (.tmp 7) _, _, _, _, _⟩ :: _) _ _); refine wpList_store_fld rfl _ (.tmp 7) (.tmp 5) rfl g 4 rfl _ cs (.int .u32 n) rfl BB (by have := HL.out; show 4 < _; omega) (by kernel_rfl) rfl ?_; intro w1 B1 O1 hg1; rw [HE.out] at B1))
  go_end0
  exact ⟨rfl, HB.of HD.out B1.out, Save.of_only O1.out⟩
set_option maxHeartbeats 400000 in
theorem take7_any (w : World) (p g : Nat) (h : Hd) (n : Int) (k : h.ok) (hn0 : 0 ≤ n) (hn1 : n ≤ 4294967295) (B : HB w g h) (Pp : Blk w p 85 [.pointer (some ⟨g, 0, none⟩)]) :
    Calls Tryd.prog 76 #[.int .u64 n, .pointer (some ⟨p, 0, none⟩)] w fun e w' => e = .returned (.tuple #[]) ∧ HB w' g { h with nx := n } ∧ Save g w w' := by
  have hw : IntKind.u32.wrap n = n := by rw [IntKind.wrap_u32']; omega
  have gp := Pp.cell 0
  have HL := Lib.hid (hcells_len k)
  have HE : Hid ((hcells h).set 5 (.int .u32 n) = hcells { h with nx := n }) := rfl
  obtain ⟨cs, hcs⟩ : ∃ cs, cs = hcells h := ⟨_, rfl⟩
  obtain ⟨ds, hds⟩ : ∃ ds, ds = hcells { h with nx := n } := ⟨_, rfl⟩
  have HD := Lib.hid hds
  have BB : Hid (Blk w g 49 cs) := by rw [hcs]; exact B
  rw [← hcs, ← hds] at HE
  rw [← hcs] at HL
  clear hcs hds B Pp k
  go_enter Tryd.func76, Tryd.ntmps76
  go_wp2_with (((with_reducible show wpList _ _ _ (⟨none, .store _ (.tmp 7) _, _, _, _, _⟩ :: _) _ _); refine wpList_store_fld rfl _ (.tmp 7) (.tmp 5) rfl g 5 rfl _ cs (.int .u32 n) rfl BB (by have := HL.out; show 5 < _; omega) (by kernel_rfl) rfl ?_; intro w1 B1 O1 hg1; rw [HE.out] at B1))
  go_end0
  exact ⟨rfl, HB.of HD.out B1.out, Save.of_only O1.out⟩
set_option maxHeartbeats 400000 in
theorem take8_any (w : World) (p g : Nat) (h : Hd) (n : Int) (k : h.ok) (_ : 0 ≤ n) (_ : n ≤ 18446744073709551615) (B : HB w g h) (Pp : Blk w p 85 [.pointer (some ⟨g, 0, none⟩)]) :
    Calls Tryd.prog 77 #[.int .u64 n, .pointer (some ⟨p, 0, none⟩)] w fun e w' => e = .returned (.tuple #[]) ∧ HB w' g { h with id := n } ∧ Save g w w' := by
  have gp := Pp.cell 0
  have HL := Lib.hid (hcells_len k)
  have HE : Hid ((hcells h).set 6 (.int .u64 n) = hcells { h with id := n }) := rfl
  obtain ⟨cs, hcs⟩ : ∃ cs, cs = hcells h := ⟨_, rfl⟩
  obtain ⟨ds, hds⟩ : ∃ ds, ds = hcells { h with id := n } := ⟨_, rfl⟩
  have HD := Lib.hid hds
  have BB : Hid (Blk w g 49 cs) := by rw [hcs]; exact B
  rw [← hcs, ← hds] at HE
  rw [← hcs] at HL
  clear hcs hds B Pp k
  go_enter Tryd.func77, Tryd.ntmps77
  go_wp2_with (((with_reducible show wpList _ _ _ (⟨none, .store _ (.tmp 6) _, _, _, _, _⟩ :: _) _ _); refine wpList_store_fld rfl _ (.tmp 6) (.tmp 4) rfl g 6 rfl _ cs (.int .u64 n) rfl BB (by have := HL.out; show 6 < _; omega) (by kernel_rfl) rfl ?_; intro w1 B1 O1 hg1; rw [HE.out] at B1))
  go_end0
  exact ⟨rfl, HB.of HD.out B1.out, Save.of_only O1.out⟩
set_option maxHeartbeats 400000 in
theorem take10_any (w : World) (p g : Nat) (h : Hd) (n : Int) (k : h.ok) (_ : 0 ≤ n) (_ : n ≤ 18446744073709551615) (B : HB w g h) (Pp : Blk w p 85 [.pointer (some ⟨g, 0, none⟩)]) :
    Calls Tryd.prog 81 #[.int .u64 n, .pointer (some ⟨p, 0, none⟩)] w fun e w' => e = .returned (.tuple #[]) ∧ HB w' g { h with se := n } ∧ Save g w w' := by
  have gp := Pp.cell 0
  have HL := Lib.hid (hcells_len k)
  have HE : Hid ((hcells h).set 9 (.int .u64 n) = hcells { h with se := n }) := rfl
  obtain ⟨cs, hcs⟩ : ∃ cs, cs = hcells h := ⟨_, rfl⟩
  obtain ⟨ds, hds⟩ : ∃ ds, ds = hcells { h with se := n } := ⟨_, rfl⟩
  have HD := Lib.hid hds
  have BB : Hid (Blk w g 49 cs) := by rw [hcs]; exact B
  rw [← hcs, ← hds] at HE
  rw [← hcs] at HL
  clear hcs hds B Pp k
  go_enter Tryd.func81, Tryd.ntmps81
  go_wp2_with (((with_reducible show wpList _ _ _ (⟨none, .store _ (.tmp 6) _, _, _, _, _⟩ :: _) _ _); refine wpList_store_fld rfl _ (.tmp 6) (.tmp 4) rfl g 9 rfl _ cs (.int .u64 n) rfl BB (by have := HL.out; show 9 < _; omega) (by kernel_rfl) rfl ?_; intro w1 B1 O1 hg1; rw [HE.out] at B1))
  go_end0
  exact ⟨rfl, HB.of HD.out B1.out, Save.of_only O1.out⟩
set_option maxHeartbeats 400000 in
theorem take0_any (w : World) (n : Int) : Calls Tryd.prog 70 #[.int .u64 n] w fun e w' => e = .returned (.tuple #[]) ∧ w = w' := by
  go_enter Tryd.func70, Tryd.ntmps70
  go_wp2
  go_end0
  exact ⟨rfl, rfl⟩
/-- a head that takes Async or Tree -/
def setAT (n : Int) (h : Hd) : Hd := if isAs h.fl = true then { h with asy := n } else { h with tr := n / 4294967296 }
set_option maxHeartbeats 400000 in
theorem takeAT_any (w : World) (g : Nat) (h : Hd) (n : Int) (k : h.ok) (hn0 : 0 ≤ n) (hn1 : n ≤ 18446744073709551615) (B : HB w g h) :
    Calls Tryd.prog 80 #[.pointer (some ⟨g, 0, none⟩), .int .u64 n] w fun e w' => e = .returned (.tuple #[]) ∧ HB w' g (setAT n h) ∧ Save g w w' := by
  have C0 : Hid (∀ w : World, Calls Tryd.prog 87 #[hv h] w fun e w' => e = .returned (.bool (isAs h.fl)) ∧ Below w.heap.size w w') := fun w => isAsync_any w h k
  have hw : IntKind.u32.wrap (n / 4294967296) = n / 4294967296 := by rw [IntKind.wrap_u32']; omega
  have HL := Lib.hid (hcells_len k)
  have h7 : isAs h.fl = true → (hcells h).set 7 (.int .u64 n) = hcells (setAT n h) := fun hi => by unfold setAT; rw [if_pos hi]; rfl
  have h8 : isAs h.fl = false → (hcells h).set 8 (.int .u32 (n / 4294967296)) = hcells (setAT n h) := fun hi => by unfold setAT; rw [if_neg (by rw [hi]; decide)]; rfl
  obtain ⟨cs, hcs⟩ : ∃ cs, cs = hcells h := ⟨_, rfl⟩
  obtain ⟨ds, hds⟩ : ∃ ds, ds = hcells (setAT n h) := ⟨_, rfl⟩
  have HD := Lib.hid hds
  have BB : Hid (Blk w g 49 cs) := by rw [hcs]; exact B
  unfold hv at C0
  rw [← hcs] at HL C0 h7 h8
  rw [← hds] at h7 h8
  clear hcs hds B k
  by_cases hi : isAs h.fl = true
  · rw [hi] at C0
    have HE := Lib.hid (h7 hi)
    clear hi h7 h8
    go_enter Tryd.func80, Tryd.ntmps80
    go_wp2_with (first
      | ((with_reducible show wpList _ _ _ (⟨some 6, _, _, _, _, _⟩ :: _) _ _); refine wpList_load_blk rfl _ (.tmp 5) rfl g rfl _ cs BB 26 _ Tryd.underlying49 rfl size_hd HL ?_)
      | fail)
    refine (C0.out _).mono ?_
    rintro e w2 ⟨rfl, L2⟩
    have B2 := Lib.hid (BB.out.over L2)
    go_wp2_with (((with_reducible show wpList _ _ _ (⟨none, .store _ (.tmp 11) _, _, _, _, _⟩ :: _) _ _); refine wpList_store_fld rfl _ (.tmp 11) (.tmp 9) rfl g 7 rfl _ cs (.int .u64 n) rfl B2 (by have := HL.out; show 7 < _; omega) (by kernel_rfl) rfl ?_; intro w3 B3 O3 hg3; rw [HE.out] at B3))
    go_end0
    exact ⟨rfl, HB.of HD.out B3.out, (Save.of_below L2 g).trans (Save.of_only O3.out)⟩
  · have hi' : isAs h.fl = false := by simpa using hi
    rw [hi'] at C0
    have HE := Lib.hid (h8 hi')
    clear hi hi' h7 h8
    go_enter Tryd.func80, Tryd.ntmps80
    go_wp2_with (first
      | ((with_reducible show wpList _ _ _ (⟨some 6, _, _, _, _, _⟩ :: _) _ _); refine wpList_load_blk rfl _ (.tmp 5) rfl g rfl _ cs BB 26 _ Tryd.underlying49 rfl size_hd HL ?_)
      | fail)
    refine (C0.out _).mono ?_
    rintro e w2 ⟨rfl, L2⟩
    have B2 := Lib.hid (BB.out.over L2)
    go_wp2_with (((with_reducible show wpList _ _ _ (⟨none, .store _ (.tmp 17) _, _, _, _, _⟩ :: _) _ _); refine wpList_store_fld rfl _ (.tmp 17) (.tmp 15) rfl g 8 rfl _ cs (.int .u32 (n / 4294967296)) rfl B2 (by have := HL.out; show 8 < _; omega) (by kernel_rfl) rfl ?_; intro w3 B3 O3 hg3; rw [HE.out] at B3))
    go_end0
    exact ⟨rfl, HB.of HD.out B3.out, (Save.of_below L2 g).trans (Save.of_only O3.out)⟩
set_option maxHeartbeats 400000 in
theorem take9_any (w : World) (p g : Nat) (h : Hd) (n : Int) (k : h.ok) (hn0 : 0 ≤ n) (hn1 : n ≤ 18446744073709551615) (B : HB w g h) (Pp : Blk w p 85 [.pointer (some ⟨g, 0, none⟩)]) :
    Calls Tryd.prog 79 #[.int .u64 n, .pointer (some ⟨p, 0, none⟩)] w fun e w' => e = .returned (.tuple #[]) ∧ HB w' g (setAT n h) ∧ Save g w w' := by
  have C0 := Lib.hid (takeAT_any w g h n k hn0 hn1 B)
  have gp := Pp.cell 0
  clear B Pp k
  go_enter Tryd.func79, Tryd.ntmps79
  go_wp2_with fail
  refine C0.out.mono ?_
  rintro e w2 ⟨rfl, B2, S2⟩
  go_wp2
  go_end0
  exact ⟨rfl, B2, S2⟩
theorem args_lo {j : Nat} (a b : Value) (h : j < 2) : (#[a] ++ (if j < 2 then #[] else #[b])) = #[a] := by rw [if_pos h]; rfl
theorem args_hi {j : Nat} (a b : Value) (h : ¬ j < 2) : (#[a] ++ (if j < 2 then #[] else #[b])) = #[a, b] := by rw [if_neg h]; rfl
/-- number j of a head, taken by its function -/
def TakeK (w : World) (p g : Nat) (h : Hd) (n : Int) (j : Nat) : Prop :=
  Calls Tryd.prog (fnk j) (#[.int .u64 n] ++ (if j < 2 then #[] else #[.pointer (some ⟨p, 0, none⟩)])) w fun e w' => e = .returned (.tuple #[]) ∧ HB w' g (setK j n h) ∧ Save g w w'
theorem takeK0 (w : World) (p g : Nat) (h : Hd) (n : Int) (B : HB w g h) : TakeK w p g h n 0 := by
  unfold TakeK
  rw [args_lo _ _ (by decide), show fnk 0 = 70 from rfl, show setK 0 n h = h from rfl]
  exact (take0_any w n).mono fun e w' ⟨he, hw⟩ => ⟨he, hw ▸ B, hw ▸ Save.refl _ _⟩
theorem takeK1 (w : World) (p g : Nat) (h : Hd) (n : Int) (B : HB w g h) : TakeK w p g h n 1 := by
  unfold TakeK
  rw [args_lo _ _ (by decide), show fnk 1 = 70 from rfl, show setK 1 n h = h from rfl]
  exact (take0_any w n).mono fun e w' ⟨he, hw⟩ => ⟨he, hw ▸ B, hw ▸ Save.refl _ _⟩
theorem takeK2 (w : World) (p g : Nat) (h : Hd) (n : Int) (k : h.ok) (hn0 : 0 ≤ n) (hn1 : n < 256 ^ 2) (B : HB w g h) (Pp : Blk w p 85 [.pointer (some ⟨g, 0, none⟩)]) : TakeK w p g h n 2 := by
  unfold TakeK
  rw [args_hi _ _ (by decide), show fnk 2 = 71 from rfl, show setK 2 n h = { h with ch := n } from rfl]
  have e : (256 : Int) ^ 2 = 65536 := by decide
  exact take2_any w p g h n k hn0 (by omega) B Pp
theorem takeK3 (w : World) (p g : Nat) (h : Hd) (n : Int) (k : h.ok) (hn0 : 0 ≤ n) (hn1 : n < 256 ^ 4) (B : HB w g h) (Pp : Blk w p 85 [.pointer (some ⟨g, 0, none⟩)]) : TakeK w p g h n 3 := by
  unfold TakeK
  rw [args_hi _ _ (by decide), show fnk 3 = 72 from rfl, show setK 3 n h = { h with st := n } from rfl]
  have e : (256 : Int) ^ 4 = 4294967296 := by decide
  exact take3_any w p g h n k hn0 (by omega) B Pp
theorem takeK4 (w : World) (p g : Nat) (h : Hd) (n : Int) (k : h.ok) (hn0 : 0 ≤ n) (hn1 : n < 256 ^ 2) (B : HB w g h) (Pp : Blk w p 85 [.pointer (some ⟨g, 0, none⟩)]) : TakeK w p g h n 4 := by
  unfold TakeK
  rw [args_hi _ _ (by decide), show fnk 4 = 73 from rfl, show setK 4 n h = { h with cm := n } from rfl]
  have e : (256 : Int) ^ 2 = 65536 := by decide
  exact take4_any w p g h n k hn0 (by omega) B Pp
theorem takeK5 (w : World) (p g : Nat) (h : Hd) (n : Int) (k : h.ok) (hn0 : 0 ≤ n) (hn1 : n < 256 ^ 2) (B : HB w g h) (Pp : Blk w p 85 [.pointer (some ⟨g, 0, none⟩)]) : TakeK w p g h n 5 := by
  unfold TakeK
  rw [args_hi _ _ (by decide), show fnk 5 = 74 from rfl, show setK 5 n h = { h with cr := n } from rfl]
  have e : (256 : Int) ^ 2 = 65536 := by decide
  exact take5_any w p g h n k hn0 (by omega) B Pp
theorem takeK6 (w : World) (p g : Nat) (h : Hd) (n : Int) (k : h.ok) (hn0 : 0 ≤ n) (hn1 : n < 256 ^ 4) (B : HB w g h) (Pp : Blk w p 85 [.pointer (some ⟨g, 0, none⟩)]) : TakeK w p g h n 6 := by
  unfold TakeK
  rw [args_hi _ _ (by decide), show fnk 6 = 75 from rfl, show setK 6 n h = { h with fl := n } from rfl]
  have e : (256 : Int) ^ 4 = 4294967296 := by decide
  exact take6_any w p g h n k hn0 (by omega) B Pp
theorem takeK7 (w : World) (p g : Nat) (h : Hd) (n : Int) (k : h.ok) (hn0 : 0 ≤ n) (hn1 : n < 256 ^ 4) (B : HB w g h) (Pp : Blk w p 85 [.pointer (some ⟨g, 0, none⟩)]) : TakeK w p g h n 7 := by
  unfold TakeK
  rw [args_hi _ _ (by decide), show fnk 7 = 76 from rfl, show setK 7 n h = { h with nx := n } from rfl]
  have e : (256 : Int) ^ 4 = 4294967296 := by decide
  exact take7_any w p g h n k hn0 (by omega) B Pp
theorem takeK8 (w : World) (p g : Nat) (h : Hd) (n : Int) (k : h.ok) (hn0 : 0 ≤ n) (hn1 : n < 256 ^ 8) (B : HB w g h) (Pp : Blk w p 85 [.pointer (some ⟨g, 0, none⟩)]) : TakeK w p g h n 8 := by
  unfold TakeK
  rw [args_hi _ _ (by decide), show fnk 8 = 77 from rfl, show setK 8 n h = { h with id := n } from rfl]
  have e : (256 : Int) ^ 8 = 18446744073709551616 := by decide
  exact take8_any w p g h n k hn0 (by omega) B Pp
theorem takeK9 (w : World) (p g : Nat) (h : Hd) (n : Int) (k : h.ok) (hn0 : 0 ≤ n) (hn1 : n < 256 ^ 8) (B : HB w g h) (Pp : Blk w p 85 [.pointer (some ⟨g, 0, none⟩)]) : TakeK w p g h n 9 := by
  unfold TakeK
  rw [args_hi _ _ (by decide), show fnk 9 = 79 from rfl, show setK 9 n h = setAT n h from rfl]
  have e : (256 : Int) ^ 8 = 18446744073709551616 := by decide
  exact take9_any w p g h n k hn0 (by omega) B Pp
theorem takeK10 (w : World) (p g : Nat) (h : Hd) (n : Int) (k : h.ok) (hn0 : 0 ≤ n) (hn1 : n < 256 ^ 8) (B : HB w g h) (Pp : Blk w p 85 [.pointer (some ⟨g, 0, none⟩)]) : TakeK w p g h n 10 := by
  unfold TakeK
  rw [args_hi _ _ (by decide), show fnk 10 = 81 from rfl, show setK 10 n h = { h with se := n } from rfl]
  have e : (256 : Int) ^ 8 = 18446744073709551616 := by decide
  exact take10_any w p g h n k hn0 (by omega) B Pp
theorem takek_any (w : World) (p g : Nat) (h : Hd) (n : Int) (k : h.ok) (j : Nat) (hj : j < 11) (hn0 : 0 ≤ n) (hn1 : n < 256 ^ szs.getD j 0) (B : HB w g h) (Pp : Blk w p 85 [.pointer (some ⟨g, 0, none⟩)]) : TakeK w p g h n j := by
  match j, hj, hn1 with
  | 0, _, _ => exact takeK0 w p g h n B
  | 1, _, _ => exact takeK1 w p g h n B
  | 2, _, hn1 => exact takeK2 w p g h n k hn0 hn1 B Pp
  | 3, _, hn1 => exact takeK3 w p g h n k hn0 hn1 B Pp
  | 4, _, hn1 => exact takeK4 w p g h n k hn0 hn1 B Pp
  | 5, _, hn1 => exact takeK5 w p g h n k hn0 hn1 B Pp
  | 6, _, hn1 => exact takeK6 w p g h n k hn0 hn1 B Pp
  | 7, _, hn1 => exact takeK7 w p g h n k hn0 hn1 B Pp
  | 8, _, hn1 => exact takeK8 w p g h n k hn0 hn1 B Pp
  | 9, _, hn1 => exact takeK9 w p g h n k hn0 hn1 B Pp
  | 10, _, hn1 => exact takeK10 w p g h n k hn0 hn1 B Pp
theorem setK_ok {h : Hd} (k : h.ok) (j : Nat) (hj : j < 11) (n : Int) (hn0 : 0 ≤ n) (hn1 : n < 256 ^ szs.getD j 0) : (setK j n h).ok := by
  have e2 : (256 : Int) ^ 2 = 65536 := by decide
  have e4 : (256 : Int) ^ 4 = 4294967296 := by decide
  have e8 : (256 : Int) ^ 8 = 18446744073709551616 := by decide
  revert hn1
  refine eleven (p := fun j => n < 256 ^ szs.getD j 0 → (setK j n h).ok) ?_ ?_ ?_ ?_ ?_ ?_ ?_ ?_ ?_ ?_ ?_ j hj <;> intro hn1
  · exact k
  · exact k
  · change n < 256 ^ 2 at hn1; exact ⟨by show 0 ≤ n ∧ n ≤ _; omega, k.st, k.cm, k.cr, k.fl, k.nx, k.id, k.asy, k.tr, k.se, k.len, k.byte⟩
  · change n < 256 ^ 4 at hn1; exact ⟨k.ch, by show 0 ≤ n ∧ n ≤ _; omega, k.cm, k.cr, k.fl, k.nx, k.id, k.asy, k.tr, k.se, k.len, k.byte⟩
  · change n < 256 ^ 2 at hn1; exact ⟨k.ch, k.st, by show 0 ≤ n ∧ n ≤ _; omega, k.cr, k.fl, k.nx, k.id, k.asy, k.tr, k.se, k.len, k.byte⟩
  · change n < 256 ^ 2 at hn1; exact ⟨k.ch, k.st, k.cm, by show 0 ≤ n ∧ n ≤ _; omega, k.fl, k.nx, k.id, k.asy, k.tr, k.se, k.len, k.byte⟩
  · change n < 256 ^ 4 at hn1; exact ⟨k.ch, k.st, k.cm, k.cr, by show 0 ≤ n ∧ n ≤ _; omega, k.nx, k.id, k.asy, k.tr, k.se, k.len, k.byte⟩
  · change n < 256 ^ 4 at hn1; exact ⟨k.ch, k.st, k.cm, k.cr, k.fl, by show 0 ≤ n ∧ n ≤ _; omega, k.id, k.asy, k.tr, k.se, k.len, k.byte⟩
  · change n < 256 ^ 8 at hn1; exact ⟨k.ch, k.st, k.cm, k.cr, k.fl, k.nx, by show 0 ≤ n ∧ n ≤ _; omega, k.asy, k.tr, k.se, k.len, k.byte⟩
  · change n < 256 ^ 8 at hn1
    show (if isAs h.fl = true then { h with asy := n } else { h with tr := n / 4294967296 }).ok
    split
    · exact ⟨k.ch, k.st, k.cm, k.cr, k.fl, k.nx, k.id, by show 0 ≤ n ∧ n ≤ _; omega, k.tr, k.se, k.len, k.byte⟩
    · exact ⟨k.ch, k.st, k.cm, k.cr, k.fl, k.nx, k.id, k.asy, by show 0 ≤ n / 4294967296 ∧ n / 4294967296 ≤ _; omega, k.se, k.len, k.byte⟩
  · change n < 256 ^ 8 at hn1; exact ⟨k.ch, k.st, k.cm, k.cr, k.fl, k.nx, k.id, k.asy, k.tr, by show 0 ≤ n ∧ n ≤ _; omega, k.len, k.byte⟩
theorem tk_ok (xs : List Int) (hx : Bytes xs) (j : Nat) (hj : j ≤ 11) : (tk xs j).ok := by
  induction j with
  | zero => exact zeroHd_ok
  | succ j ih =>
    have := numAt_k xs hx j
    exact setK_ok (ih (by omega)) j (by omega) _ this.1 this.2
end Go.Proofs.YtgfflnjggnadpaaDoor

namespace Go.Proofs.YtgfflnjggnadpaaDoor
set_option linter.all false
set_option maxRecDepth 100000
open Go.RowKit
theorem getOf_at (xs : List Int) (hl : xs.length = 64) (j : Nat) (hj : j < 11) : getOf xs (offs.getD j 0 : Nat) (szs.getD j 0 : Nat) = numAt xs (offs.getD j 0) (szs.getD j 0) := by
  have h1 := offs_step j hj
  have hp : partErr xs.length (offs.getD j 0 : Nat) (szs.getD j 0 : Nat) = 0 := by
    unfold partErr
    rw [if_neg (by omega), if_neg (by omega)]
  unfold getOf getErr numAt
  rw [if_pos (size_of j hj), if_pos hp, Int.toNat_natCast, Int.toNat_natCast]
theorem call_fnk (j : Nat) (hj : j < 11) (args : Array Value) (w : World) : (callFunc (fnk j) args).run Tryd.prog w = .ok (.enter (fnk j) args) w := by
  refine eleven (p := fun j => (callFunc (fnk j) args).run Tryd.prog w = .ok (.enter (fnk j) args) w) ?_ ?_ ?_ ?_ ?_ ?_ ?_ ?_ ?_ ?_ ?_ j hj <;> (unfold fnk; go_simp)
set_option maxRecDepth 100000 in
set_option maxHeartbeats 2000000 in
theorem taken_any (w : World) (A : Option Addr) (c : Nat) (xs : List Int) (hx : Holds w w.heap.size A 64 c xs) :
    Calls Tryd.prog 49 #[.slice A 64 c] w fun e w' => e = .returned (hv (takenP xs)) ∧ Below w.heap.size w w' := by
  have hl := hx.len
  have CF : Hid (∀ (w : World) (g : Nat), HB w g zeroHd → Calls Tryd.prog 62 #[.pointer (some ⟨g, 0, none⟩)] w (FieldsPost w g zeroHd)) := fun w g B => fields_any w g zeroHd zeroHd_ok B
  have CG : Hid (∀ (w : World) (B : Nat), Holds w B A 64 c xs → ∀ j, j < 11 → Calls Tryd.prog 63 #[.slice A 64 c, .int .i64 (offs.getD j 0 : Nat), .int .i64 (szs.getD j 0 : Nat)] w fun e w' => ∃ er, e = .returned (.tuple #[.int .u64 (numAt xs (offs.getD j 0) (szs.getD j 0)), .int .i64 er]) ∧ w = w') := fun w B hh j hj => by
    have h1 := offs_step j hj
    rw [← getOf_at xs hl j hj]
    exact (Get_any w B A 64 c xs _ _ hh (by omega) (by omega)).mono fun e w' ⟨he, hw⟩ => ⟨_, he, hw⟩
  have TK : Hid (∀ (w : World) (p g : Nat) (j : Nat), j < 11 → HB w g (tk xs j) → Blk w p 85 [.pointer (some ⟨g, 0, none⟩)] →
      Calls Tryd.prog (fnk j) (#[.int .u64 (numAt xs (offs.getD j 0) (szs.getD j 0))] ++ (if j < 2 then #[] else #[.pointer (some ⟨p, 0, none⟩)])) w fun e w' => e = .returned (.tuple #[]) ∧ HB w' g (tk xs (j + 1)) ∧ Save g w w') := fun w p g j hj B Pp => by
    have h1 := numAt_k xs hx.byte j
    exact takek_any w p g (tk xs j) _ (tk_ok xs hx.byte j (by omega)) j hj h1.1 h1.2 B Pp
  have HX := Lib.hid hx
  have ZH := Lib.hid zero_hd
  have HZ := Lib.hid (hcells_len zeroHd_ok)
  have HZO := Lib.hid (hcells_one zeroHd)
  have BH := built_hd
  have T0 : Hid (tk xs 0 = zeroHd) := rfl
  have K11 := Lib.hid (tk_ok xs hx.byte 11 (Nat.le_refl _))
  have KF : Hid ((takenP xs).ok) := takenP_ok xs hx.byte hl
  have HS : Hid (((xs.drop 48).take 16).length = 16) := by show _ = _; simp [hl]
  have HT : Hid ({ tk xs 11 with sg := (xs.drop 48).take 16 } = takenP xs) := rfl
  have SP := Lib.hid (hx.part (k := 48) (m := 16) (c' := c - 48) (by omega) (by omega) (by have := hx.fit; omega))
  have hc64 := hx.fit
  obtain ⟨zs, hzs⟩ : ∃ zs, zs = hcells zeroHd := ⟨_, rfl⟩
  have HZS := Lib.hid hzs
  rw [← hzs] at ZH HZ HZO BH
  have ZF := Lib.hid zero_fd
  obtain ⟨zf, hzf⟩ : ∃ zf, zf = fzero := ⟨_, rfl⟩
  have HZF : Hid (zf.length = 4) := by rw [hzf]; rfl
  rw [← hzf] at ZF
  obtain ⟨b, off, rfl, _, _⟩ := hx.cells (by omega)
  clear hx hl hzs hzf
  go_enter Tryd.func49, Tryd.ntmps49
  go_wp2_with (first
    | ((with_reducible show wpList _ _ _ (⟨some 2, _, _, _, _, _⟩ :: _) _ _); refine wpList_alloc_blk rfl _ rfl zs _ ZH ?_; intro g0 w1 hg1 hg2 B1 L1)
    | ((with_reducible show wpList _ _ _ (⟨some 8, _, _, _, _, _⟩ :: _) _ _); refine wpList_build_none rfl _ rfl zs BH ?_)
    | ((with_reducible show wpList _ _ _ (⟨some 3, _, _, _, _, _⟩ :: _) _ _); refine wpList_alloc_blk rfl _ rfl zs _ ZH ?_; intro g w2 hg3 hg4 X2 L2)
    | ((with_reducible show wpList _ _ _ (⟨none, .store _ (.tmp 3) _, _, _, _, _⟩ :: _) _ _); refine wpList_store_blk rfl _ (.tmp 3) (.tmp 8) rfl g rfl _ zs zs rfl X2 26 size_hd HZ HZ HZO ?_; intro w3 X3 O3 hg5)
    | fail)
  have hs2 := L2.out.size
  have L13 : Hid (Below w.heap.size w w3) := below_only (step L1.out L2.out) O3.out (by omega)
  have B3 : Hid (Blk w3 g0 49 zs) := (B1.out.over L2.out).only O3.out (by omega)
  have hgg : g0 < g := by omega
  have hgw : w.heap.size ≤ g0 := hg1
  refine (CF.out _ g (HB.of HZS.out X3.out)).mono ?_
  rintro e w4 ⟨p, G, rfl, hp, hpG, P4, F4, L4⟩
  have X4 : Hid (HB w4 g (tk xs 0)) := by rw [T0.out]; exact HB.of HZS.out (X3.out.over L4)
  have B4 : Hid (Blk w4 g0 49 zs) := B3.out.over L4
  have L14 := Lib.hid (step L13.out L4)
  have hgp : g < p := by omega
  have P4' := Lib.hid P4
  have F4' := Lib.hid F4
  clear B1 L1 X2 L2 X3 O3 L13 B3 P4 F4 L4 hs2 hg1 hg2 hg3 hg4 hg5 hp CF T0
  go_wp2_with fail
  go_loopw [5, 6, 7, 11] (fun _ _ _ i wr => ∃ j : Nat, j ≤ 11 ∧ i = .int .i64 j ∧ Hid (HB wr g (tk xs j)) ∧ Hid (Blk wr G 88 (fcells p zeroHd)) ∧ Hid (Blk wr p 85 [.pointer (some ⟨g, 0, none⟩)]) ∧ Hid (Blk wr g0 49 zs) ∧ Hid (Below w.heap.size w wr)) (fun _ _ _ i _ => 11 - (intOf i).toNat)
  case atStart => exact ⟨0, Nat.zero_le _, rfl, X4, F4', P4', B4, L14⟩
  case round =>
    clear X4 F4' P4' B4 L14
    obtain ⟨j, hj, rfl, XX, FF, PP, BB, LL⟩ := hrel
    by_cases hlt : j < 11
    · have h1 := offs_step j hlt
      have hrange := fcells_range FF.out j hlt
      have CGj : Hid (∀ (w : World) (B : Nat), Holds w B (some ⟨b, off, none⟩) 64 c xs → Calls Tryd.prog 63 #[.slice (some ⟨b, off, none⟩) 64 c, .int .i64 (offs.getD j 0 : Nat), .int .i64 (szs.getD j 0 : Nat)] w fun e w' => ∃ er, e = .returned (.tuple #[.int .u64 (numAt xs (offs.getD j 0) (szs.getD j 0)), .int .i64 er]) ∧ w = w') := fun w B hh => CG.out w B hh j hlt
      have TKj : Hid (∀ (w : World), HB w g (tk xs j) → Blk w p 85 [.pointer (some ⟨g, 0, none⟩)] →
        Calls Tryd.prog (fnk j) (#[.int .u64 (numAt xs (offs.getD j 0) (szs.getD j 0))] ++ (if j < 2 then #[] else #[.pointer (some ⟨p, 0, none⟩)])) w fun e w' => e = .returned (.tuple #[]) ∧ HB w' g (tk xs (j + 1)) ∧ Save g w w') := fun w B Pp => TK.out w p g j hlt B Pp
      have EL : Hid ((fel p zeroHd j).length = 4) := rfl
      have EO := Lib.hid (fel_one p zeroHd j)
      have E0 : Hid ((fel p zeroHd j)[0]? = some (.int .i64 (offs.getD j 0 : Nat))) := rfl
      have E1 : Hid ((fel p zeroHd j)[1]? = some (.int .i64 (szs.getD j 0 : Nat))) := rfl
      have E3 : Hid ((fel p zeroHd j)[3]? = some (.func (.func (fnk j)) #[] (if j < 2 then #[] else #[.pointer (some ⟨p, 0, none⟩)]))) := rfl
      obtain ⟨el, hel⟩ : ∃ el, el = fel p zeroHd j := ⟨_, rfl⟩
      rw [← hel] at EL EO E0 E1 E3 hrange
      obtain ⟨n, hn⟩ : ∃ n, n = numAt xs (offs.getD j 0) (szs.getD j 0) := ⟨_, rfl⟩
      rw [← hn] at CGj TKj
      obtain ⟨at_, hat⟩ : ∃ at_, at_ = offs.getD j 0 := ⟨_, rfl⟩
      obtain ⟨sz, hsz⟩ : ∃ sz, sz = szs.getD j 0 := ⟨_, rfl⟩
      have hcf := call_fnk j hlt
      obtain ⟨F, hF⟩ : ∃ F, F = fnk j := ⟨_, rfl⟩
      obtain ⟨cap, hcap⟩ : ∃ cap : Array Value, cap = if j < 2 then #[] else #[.pointer (some ⟨p, 0, none⟩)] := ⟨_, rfl⟩
      rw [← hat] at E0 CGj h1
      rw [← hsz] at E1 CGj h1
      rw [← hF, ← hcap] at E3 TKj
      rw [← hF] at hcf
      obtain ⟨_, h48, hs2, hs8⟩ := h1
      have RNG := Lib.hid hrange
      have hgl := XX.out.lt
      have hGl := FF.out.lt
      have hpl := PP.out.lt
      have hwl := LL.out.size
      clear hel hn hat hsz hF hcap hrange CG TK
      go_wp2_with (first
        | ((with_reducible show wpList _ _ _ (⟨some 14, _, _, _, _, _⟩ :: _) _ _); refine wpList_load_mid rfl _ (.tmp 13) rfl G (j * 4) rfl el _ RNG.out Tryd.underlying88 rfl (by rw [size_fd, EL.out]) ?_)
        | ((with_reducible show wpList _ _ _ (⟨some 5, _, _, _, _, _⟩ :: _) _ _); refine wpList_alloc_blk rfl _ rfl zf _ ZF ?_; intro f w5 hf1 hf2 X5 L5)
        | ((with_reducible show wpList _ _ _ (⟨none, .store _ (.tmp 5) _, _, _, _, _⟩ :: _) _ _); refine wpList_store_blk rfl _ (.tmp 5) (.tmp 14) rfl f rfl _ zf el rfl X5 4 size_fd HZF EL EO ?_; intro w6 X6 O6 hf3; have gc0 := (X6.out.cell 0).trans E0.out; have gc1 := (X6.out.cell 1).trans E1.out; have gc3 := (X6.out.cell 3).trans E3.out)
        | fail)
      have L6 : Hid (Below wr.heap.size wr w6) := below_only L5.out O6.out hf1
      have L66 := Lib.hid (step LL.out L6.out)
      refine (CGj.out w6 _ (HX.out.below L66.out)).mono ?_
      rintro e w7 ⟨er, rfl, rfl⟩
      have X7 : Hid (HB w6 g (tk xs j)) := Blk.over XX.out L6.out
      have P7 := Lib.hid (PP.out.over L6.out)
      go_wp2_with fail
      refine (TKj.out w6 X7.out P7.out).mono ?_
      rintro e w8 ⟨rfl, X8, S8⟩
      have hg6 := X7.out.lt
      have LS : Hid (Below w.heap.size w w8) := L66.out.trans (S8.below (by omega) (by have := L66.out.size; omega))
      have F8 : Hid (Blk w8 G 88 (fcells p zeroHd)) := (FF.out.over L6.out).save S8 (by omega)
      have P8 : Hid (Blk w8 p 85 [.pointer (some ⟨g, 0, none⟩)]) := P7.out.save S8 (by omega)
      have B8 : Hid (Blk w8 g0 49 zs) := (BB.out.over L6.out).save S8 (by omega)
      have X8' := Lib.hid X8
      clear XX FF PP BB LL L5 O6 L6 L66 X5 X6 gc0 gc1 gc3 RNG CGj TKj X7 P7 hcf S8 X8
      go_wp2_with fail
      go_roundw
      case rel => exact ⟨j + 1, by omega, by go_num, X8', F8, P8, B8, LS⟩
      case measure => simp [intOf]; omega
    · obtain rfl : j = 11 := by omega
      have hgl := XX.out.lt
      have XD : Hid (Blk wr.drew g 49 (hcells (tk xs 11))) := XX.out
      have SD : Hid (Holds wr.drew w.heap.size (some ⟨b, off + 48, none⟩) 16 (c - 48) ((xs.drop 48).take 16)) := by
        have h1 := (SP.out.below LL.out).drew
        rw [show Option.map (fun x : Addr => x.add 48) (some ⟨b, off, none⟩) = some ⟨b, off + 48, none⟩ from by simp [Addr.add_mid]] at h1
        exact h1
      have BD : Hid (Blk wr.drew g0 49 zs) := BB.out
      have LD : Hid (Below w.heap.size w wr.drew) := LL.out.drew
      have HF : Hid (10 + 16 ≤ (hcells (tk xs 11)).length) := by show _ ≤ _; rw [hcells_len K11.out]; omega
      have HSP : Hid (spliced (hcells (tk xs 11)) 10 ((xs.drop 48).take 16) = hcells (takenP xs)) := by
        show _ = _
        rw [spliced_sig _ _ K11.out.len HS.out, HT.out]
      have HLT := Lib.hid (hcells_len KF.out)
      have HOT := Lib.hid (hcells_one (takenP xs))
      have HQ : Hid (hv (takenP xs) = .agg (hcells (takenP xs)).toArray) := rfl
      obtain ⟨ts, hts⟩ : ∃ ts, ts = hcells (tk xs 11) := ⟨_, rfl⟩
      obtain ⟨us, hus⟩ : ∃ us, us = hcells (takenP xs) := ⟨_, rfl⟩
      obtain ⟨ss, hss⟩ : ∃ ss, ss = (xs.drop 48).take 16 := ⟨_, rfl⟩
      rw [← hts] at XD HF HSP
      rw [← hus] at HSP HLT HOT HQ
      rw [← hss] at SD HSP
      clear hts hus hss XX FF PP BB LL CG TK SP HS HT K11 KF HX hj
      have hc48 : ¬ c = 48 := by omega
      go_upto_region 8 with fail
      go_region_law ((refine step_copy_mid rfl (.tmp 30) (.tmp 32) rfl g 10 49 16 16 16 (c - 48) (some ⟨b, off + 48, none⟩) rfl rfl ts ss _ XD SD.out (by decide) (by decide) HF ?_; intro w5 X5 O5; rw [HSP.out] at X5; have B5 := Lib.hid (BD.out.only O5.out (by omega))))
      go_wp2_with (first
        | ((with_reducible show wpList _ _ _ (⟨some 34, _, _, _, _, _⟩ :: _) _ _); refine wpList_load_blk rfl _ (.tmp 3) rfl g rfl _ us X5 26 _ Tryd.underlying49 rfl size_hd HLT ?_)
        | ((with_reducible show wpList _ _ _ (⟨none, .store _ (.tmp 2) _, _, _, _, _⟩ :: _) _ _); refine wpList_store_blk rfl _ (.tmp 2) (.tmp 34) rfl g0 rfl _ zs us rfl B5 26 size_hd HZ HLT HOT ?_; intro w6 B6 O6 hg6))
      refine bodyPost_ret (v := .agg us.toArray) ?_ rfl ⟨by rw [HQ.out], below_only (below_only LD.out O5.out (by omega)) O6.out hgw⟩
      exact results_cell_row rfl _ _ g0 _ _ (0, 0) _ rfl B6.out Tryd.underlying49 rfl (by rw [size_hd]; have := HLT.out; simp [this])
end Go.Proofs.YtgfflnjggnadpaaDoor

namespace Go.Proofs.YtgfflnjggnadpaaDoor
set_option linter.all false
set_option maxRecDepth 100000
open Go.RowKit
/-- what Part answers -/
def PartPost (w : World) (xs : List Int) (a m : Int) (e : Ending) (w' : World) : Prop :=
  ∃ A', e = .returned (.tuple #[.slice A' (partOf xs a m).length (partOf xs a m).length, .int .i64 (partErr xs.length a m)]) ∧ Fresh w' w.heap.size A' (partOf xs a m) ∧ Below w.heap.size w w'
set_option maxHeartbeats 400000 in
theorem Part_any (w : World) (A : Option Addr) (n c : Nat) (xs : List Int) (a m : Int) (h : Holds w w.heap.size A n c xs)
    (ha : -9223372036854775808 ≤ a ∧ a ≤ 9223372036854775807) (hm : -9223372036854775808 ≤ m ∧ m ≤ 9223372036854775807) :
    Calls Tryd.prog 48 #[.slice A n c, .int .i64 a, .int .i64 m] w (PartPost w xs a m) := by
  have hl := Lib.hid h.len
  have c2 := view_any w _ A n c xs a m h ha hm
  have hq : ∀ e w', (∃ A', e = .returned (.tuple #[.slice A' (partOf xs a m).length (partOf xs a m).length, .int .i64 (partErr n a m)]) ∧ Fresh w' w.heap.size A' (partOf xs a m) ∧ Below w.heap.size w w') → PartPost w xs a m e w' := by
    intro e w' hh
    unfold PartPost
    rw [hl.out]
    exact hh
  have HQ := Lib.hid hq
  clear hq
  by_cases hp : partErr n a m = 0
  · rw [hp] at c2 HQ
    have e2 : (partOf xs a m).length = m.toNat ∧ 0 ≤ m := by
      have h1 := hl.out
      unfold partOf
      rw [h1, if_pos hp]
      unfold partErr at hp
      by_cases g1 : a < 0 ∨ (n : Int) < a ∨ m < 0
      · rw [if_pos g1] at hp; omega
      · by_cases g2 : (n : Int) - a < m
        · rw [if_neg g1, if_pos g2] at hp; omega
        · rw [List.length_take, List.length_drop, h1]; omega
    obtain ⟨j, rfl⟩ := Int.eq_ofNat_of_zero_le e2.2
    have e3 : (partOf xs a j).length = j := by rw [e2.1]; rfl
    obtain ⟨ys, hys⟩ : ∃ ys, ys = partOf xs a j := ⟨_, rfl⟩
    rw [← hys] at c2 HQ e3
    rw [e3] at c2 HQ
    have C2 := Lib.hid c2
    have HYS := Lib.hid hys
    clear c2 hp e2 e3 hys
    go_enter Tryd.func48, Tryd.ntmps48
    go_wp2_with fail
    refine C2.out.mono ?_
    rintro e w' ⟨A', rfl, hv, rfl⟩
    have hjr := hv.room
    go_wp2_with (first
      | (at_make; refine wpList_make_bytes _ rfl (.tmp 21) (.tmp 21) rfl _ _ j rfl rfl rfl rfl (by omega) ?_; intro w1 hrow hb1)
      | ((with_reducible show wpList _ _ _ (⟨some 25, _, _, _, _, _⟩ :: _) _ _); refine wpList_copy_bytes rfl (.tmp 23) (.tmp 24) rfl w.heap.size j j j j A' rfl rfl _ ys _ hrow (hv.below hb1) (Nat.le_refl _) (by simp) ?_; intro w2 hrow2 hb2))
    go_ret2
    refine HQ.out _ _ ⟨_, rfl, .inr ⟨_, rfl, Nat.le_refl _, ?_⟩, hb1.trans hb2⟩
    have := hrow2.out
    simpa using this
  · have e2 : partOf xs a m = [] := by unfold partOf; rw [hl.out, if_neg hp]
    rw [e2] at c2 HQ
    obtain ⟨er, her⟩ : ∃ er, er = partErr n a m := ⟨_, rfl⟩
    rw [← her] at c2 hp HQ
    have C2 := Lib.hid c2
    have hne : (er != 0) = true := by simpa using hp
    clear c2 hp e2 her
    go_enter Tryd.func48, Tryd.ntmps48
    go_wp2_with fail
    refine C2.out.mono ?_
    rintro e w' ⟨A', rfl, hv, rfl⟩
    go_wp2
    go_ret2
    exact HQ.out _ _ ⟨_, rfl, .inl ⟨rfl, rfl⟩, Below.refl _ _⟩
/-- what Pad answers -/
def PadPost (w : World) (xs : List Int) (e : Ending) (w' : World) : Prop :=
  ∃ A', e = .returned (.slice A' (padLen xs.length) (padLen xs.length)) ∧ Fresh w' w.heap.size A' (padOf xs) ∧ Below w.heap.size w w'
set_option maxHeartbeats 400000 in
theorem Pad_any (w : World) (A : Option Addr) (n c : Nat) (xs : List Int) (h : Holds w w.heap.size A n c xs) (hn : n ≤ 281474976710648) :
    Calls Tryd.prog 37 #[.slice A n c] w (PadPost w xs) := by
  have hl := Lib.hid h.len
  have hb := pad_bits n (by omega)
  obtain ⟨p, hp⟩ : ∃ p, p = padLen n - n := ⟨_, rfl⟩
  have hnp : n + p = padLen n := by unfold padLen at *; omega
  have hp7 : p ≤ 7 := by unfold padLen at *; omega
  rw [← hp] at hb
  have hq : ∀ e w', (∃ A', e = .returned (.slice A' (n + p) (n + p)) ∧ Fresh w' w.heap.size A' (xs ++ List.replicate p 0) ∧ Below w.heap.size w w') → PadPost w xs e w' := by
    intro e w' hh
    unfold PadPost padOf
    rw [hl.out, ← hnp, Nat.add_sub_cancel_left]
    exact hh
  have HQ := Lib.hid hq
  clear hq hp hnp
  go_enter Tryd.func37, Tryd.ntmps37
  go_wp2_with (first
    | (at_make; refine wpList_make_bytes _ rfl (.tmp 12) (.tmp 12) rfl _ _ (n + p) rfl rfl (by simp) (by simp) (by omega) ?_; intro w1 hrow hb1)
    | ((with_reducible show wpList _ _ _ (⟨some 16, _, _, _, _, _⟩ :: _) _ _); refine wpList_copy_bytes rfl (.tmp 14) (.tmp 15) rfl w.heap.size (n + p) (n + p) n c A rfl rfl _ xs _ hrow (h.below hb1) (by omega) (by simp) ?_; intro w2 hrow2 hb2))
  go_ret
  refine HQ.out _ _ ⟨_, rfl, .inr ⟨_, rfl, Nat.le_refl _, ?_⟩, hb1.trans hb2⟩
  have := hrow2.out
  simpa using this
end Go.Proofs.YtgfflnjggnadpaaDoor

namespace Go.Proofs.YtgfflnjggnadpaaDoor
set_option linter.all false
set_option maxRecDepth 100000
open Go.RowKit
theorem strOf_inj {xs ys : List Int} (hx : Bytes xs) (hy : Bytes ys) (h1 : xs.map (fun n => UInt8.ofNat n.toNat) = ys.map (fun n => UInt8.ofNat n.toNat)) : xs = ys := by
  induction xs generalizing ys with
  | nil => cases ys with
    | nil => rfl
    | cons y ys => cases h1
  | cons x xs ih =>
    cases ys with
    | nil => cases h1
    | cons y ys =>
      simp only [List.map_cons, List.cons.injEq] at h1
      have a := hx x List.mem_cons_self
      have b := hy y List.mem_cons_self
      have e : x = y := by
        have h2 := congrArg UInt8.toNat h1.1
        simp at h2
        omega
      rw [e, ih (fun z hz => hx z (List.mem_cons_of_mem _ hz)) (fun z hz => hy z (List.mem_cons_of_mem _ hz)) h1.2]
set_option maxHeartbeats 400000 in
theorem Equal_any (w : World) (B B' : Nat) (A A' : Option Addr) (n c n' c' : Nat) (xs ys : List Int) (h : Holds w B A n c xs) (h' : Holds w B' A' n' c' ys) (hn : 0 < n) (hn' : 0 < n') :
    Calls Tryd.prog 51 #[.slice A n c, .slice A' n' c'] w fun e w' => e = .returned (.bool (decide (xs = ys))) ∧ w = w' := by
  obtain ⟨b, off, rfl, _, hc⟩ := h.cells hn
  obtain ⟨b', off', rfl, _, hc'⟩ := h'.cells hn'
  have q1 := run_convert_bytes_arg (P := Tryd.prog) w 24 5 Tryd.underlying24 Tryd.underlying5 b off n c xs h.len hc 9 Tryd.underlying9
  have q2 := run_convert_bytes_arg (P := Tryd.prog) w 24 5 Tryd.underlying24 Tryd.underlying5 b' off' n' c' ys h'.len hc' 9 Tryd.underlying9
  have HE : Hid (((strOfNums xs).toList == (strOfNums ys).toList) = decide (xs = ys)) := by
    show _ = _
    rw [ByteArray.toList_eq, ByteArray.toList_eq, strOfNums_data, strOfNums_data, Bool.eq_iff_iff, beq_iff_eq, decide_eq_true_iff]
    exact ⟨strOf_inj h.byte h'.byte, fun e => by rw [e]⟩
  obtain ⟨s1, hs1⟩ : ∃ s, s = strOfNums xs := ⟨_, rfl⟩
  obtain ⟨s2, hs2⟩ : ∃ s, s = strOfNums ys := ⟨_, rfl⟩
  rw [← hs1] at q1 HE
  rw [← hs2] at q2 HE
  clear hs1 hs2 hc hc' h h'
  go_enter Tryd.func51, Tryd.ntmps51
  go_wp2
  go_ret
  exact ⟨ret_bool HE.out, rfl⟩
theorem results_cell_slot {P : Program} {fn : Func} {p q : Tmp} {ty : TypeId} (h : fn.results = #[.cell p ty, .tmp q]) (tmps : Array Value) (w : World) (g : Nat) (t : TypeId) (cs : Array Value) (fr : Nat × Nat) (d : TypeDesc)
    (hp : tmps.getD p undef = .pointer (some ⟨g, 0, none⟩)) (hg : w.heap[g]? = some (.cells cs t fr))
    (hu : P.underlying ty = some d) (hd : (match d with | .struct _ | .array _ _ => true | _ => false) = true) (hi : (P.info? ty).map (·.size) = some cs.size) {v : Value} (hv : tmps.getD q undef = v) :
    (results fn tmps).run P w = .ok (.tuple #[.agg cs, v]) w := by
  have hp' : tmps[p]?.getD undef = .pointer (some ⟨g, 0, none⟩) := by simpa using hp
  have hv' : tmps[q]?.getD undef = v := by simpa using hv
  simp [results, h, hp', hv', asAddr, run_loadVar_row w g t ty cs fr d hg hu hd hi]
/-- what Get answers -/
def GetHPost (w : World) (xs : List Int) (a : Int) (e : Ending) (w' : World) : Prop := e = .returned (.tuple #[hv (getOfH xs a), .int .i64 (getErrH xs a)]) ∧ Below w.heap.size w w'
set_option maxRecDepth 100000 in
set_option maxHeartbeats 2000000 in
theorem GetH_any (w : World) (A : Option Addr) (n c : Nat) (xs : List Int) (a : Int) (hx : Holds w w.heap.size A n c xs) (ha : -9223372036854775808 ≤ a ∧ a ≤ 9223372036854775807) :
    Calls Tryd.prog 35 #[.slice A n c, .int .i64 a] w (GetHPost w xs a) := by
  have hl := hx.len
  have CP : Hid (∀ w : World, Holds w w.heap.size A n c xs → Calls Tryd.prog 48 #[.slice A n c, .int .i64 a, .int .i64 64] w (PartPost w xs a 64)) := fun w hh => Part_any w A n c xs a 64 hh ha (by omega)
  have HX := Lib.hid hx
  have ZH := Lib.hid zero_hd
  have HZ := Lib.hid (hcells_len zeroHd_ok)
  have HZO := Lib.hid (hcells_one zeroHd)
  have BH := built_hd
  have HZV : Hid (hv zeroHd = .agg (hcells zeroHd).toArray) := rfl
  obtain ⟨zs, hzs⟩ : ∃ zs, zs = hcells zeroHd := ⟨_, rfl⟩
  rw [← hzs] at ZH HZ HZO BH HZV
  by_cases hp : partErr xs.length a 64 = 0
  · have hroom := part_room hp
    obtain ⟨ys, hys⟩ : ∃ ys, ys = partOf xs a 64 := ⟨_, rfl⟩
    have hys' : ys = (xs.drop a.toNat).take 64 := by rw [hys]; unfold partOf; rw [if_pos hp]; rfl
    have hyl : ys.length = 64 := by rw [hys']; simp; omega
    have hyb : Bytes ys := by rw [hys']; exact (hx.byte.drop _).take _
    unfold PartPost at CP
    rw [← hys, hyl, hp] at CP
    have CT : Hid (∀ (w : World) (A : Option Addr), Holds w w.heap.size A 64 64 ys → Calls Tryd.prog 49 #[.slice A 64 64] w fun e w' => e = .returned (hv (takenP ys)) ∧ Below w.heap.size w w') := fun w A hh => taken_any w A 64 ys hh
    have KT := takenP_ok ys hyb hyl
    have HLT := Lib.hid (hcells_len KT)
    have HOT := Lib.hid (hcells_one (takenP ys))
    have HYL := Lib.hid hyl
    have HYB := Lib.hid hyb
    by_cases hm : mayP (takenP ys) = true
    · have CH : Hid (∀ w : World, Calls Tryd.prog 50 #[hv (takenP ys)] w fun e w' => ∃ A', e = .returned (.tuple #[.slice A' 64 64, .int .i64 0]) ∧ Fresh w' w.heap.size A' (putH (takenP ys)) ∧ Below w.heap.size w w') := fun w => by
        have h1 := PutH_any w (takenP ys) KT
        unfold PutHPost putOfH putErrH at h1
        rwa [if_pos hm, if_pos hm, putH_len KT.len] at h1
      have HPL := Lib.hid (putH_len KT.len)
      have HPB := Lib.hid (putH_bytes KT.byte)
      have hpt := put_taken ys hyb hyl
      by_cases hq : putH (takenP ys) = ys
      · have HQ : Hid (∀ e w', (e = .returned (.tuple #[hv (takenP ys), .int .i64 0]) ∧ Below w.heap.size w w') → GetHPost w xs a e w') := by
          rintro e w' ⟨rfl, hb⟩
          have he : getErrH xs a = 0 := by
            unfold getErrH headP
            rw [if_pos hp, ← hys', ← hpt, hm, decide_eq_true hq]
            rfl
          refine ⟨?_, hb⟩
          unfold getOfH
          rw [he, if_pos rfl, ← hys']
        have HD := Lib.hid (decide_eq_true hq)
        obtain ⟨ps, hps⟩ : ∃ ps, ps = putH (takenP ys) := ⟨_, rfl⟩
        rw [← hps] at CH HPL HPB HD
        obtain ⟨ts, hts⟩ : ∃ ts, ts = hcells (takenP ys) := ⟨_, rfl⟩
        unfold hv at CT CH HQ
        rw [← hts] at CT CH HQ HLT HOT
        clear hys hys' hyl hyb hp hroom hm hpt hq hps hts KT hl hx hzs
        go_enter Tryd.func35, Tryd.ntmps35
        go_wp2_with (first
          | ((with_reducible show wpList _ _ _ (⟨some 4, _, _, _, _, _⟩ :: _) _ _); refine wpList_alloc_blk rfl _ rfl zs _ ZH ?_; intro g0 w1 hg1 hg2 B1 L1)
          | fail)
        refine (CP.out _ (HX.out.over L1.out)).mono ?_
        rintro e w2 ⟨A', rfl, hf, L2⟩
        have hh := hf.holds HYL.out HYB.out (by decide)
        have B2 := Lib.hid (B1.out.over L2)
        have L12 := Lib.hid (step L1.out L2)
        clear B1 L1 L2 CP HX hf
        go_wp2_with fail
        refine (CT.out _ _ hh).mono ?_
        rintro e w3 ⟨rfl, L3⟩
        have B3 := Lib.hid (B2.out.over L3)
        have L13 := Lib.hid (step L12.out L3)
        have hh3 := Lib.hid (hh.over L3)
        have hgs := B3.out.lt
        clear B2 L12 hh L3 CT
        go_wp2_with (first
          | ((with_reducible show wpList _ _ _ (⟨some 8, _, _, _, _, _⟩ :: _) _ _); refine wpList_alloc_blk rfl _ rfl zs _ ZH ?_; intro g w4 hg3 hg4 X4 L4)
          | ((with_reducible show wpList _ _ _ (⟨none, .store _ (.tmp 8) _, _, _, _, _⟩ :: _) _ _); refine wpList_store_blk rfl _ (.tmp 8) (.tmp 21) rfl g rfl _ zs ts rfl X4 26 size_hd HZ HLT HOT ?_; intro w5 X5 O5 hg5)
          | ((with_reducible show wpList _ _ _ (⟨some 23, _, _, _, _, _⟩ :: _) _ _); refine wpList_load_blk rfl _ (.tmp 8) rfl g rfl _ ts X5 26 _ Tryd.underlying49 rfl size_hd HLT ?_)
          | fail)
        have L5 : Below w3.heap.size w3 w5 := below_only L4.out O5.out hg3
        have B5 := Lib.hid (B3.out.over L5)
        have L15 := Lib.hid (step L13.out L5)
        have hh5 := Lib.hid (hh3.out.over L5)
        clear B3 L13 hh3 X4 L4 O5 L5
        refine (CH.out _).mono ?_
        rintro e w6 ⟨A2, rfl, hf2, L6⟩
        have B6 := Lib.hid (B5.out.over L6)
        have X6 := Lib.hid (X5.out.over L6)
        have L16 := Lib.hid (step L15.out L6)
        have hh6 := hh5.out.over L6
        have hk6 := hf2.holds HPL.out HPB.out (by decide)
        have CE := Equal_any w6 _ _ _ _ _ _ _ _ _ _ hk6 hh6 (by decide) (by decide)
        rw [HD.out] at CE
        have CE' := Lib.hid CE
        clear CE B5 X5 L15 hh5 L6 hf2 hh6 hk6 CH HD
        go_wp2_with fail
        refine CE'.out.mono ?_
        rintro e w7 ⟨rfl, rfl⟩
        clear CE'
        go_wp2_with (first
          | ((with_reducible show wpList _ _ _ (⟨some 36, _, _, _, _, _⟩ :: _) _ _); refine wpList_load_blk rfl _ (.tmp 8) rfl g rfl _ ts X6 26 _ Tryd.underlying49 rfl size_hd HLT ?_)
          | ((with_reducible show wpList _ _ _ (⟨none, .store _ (.tmp 4) _, _, _, _, _⟩ :: _) _ _); refine wpList_store_blk rfl _ (.tmp 4) (.tmp 36) rfl g0 rfl _ zs ts rfl B6 26 size_hd HZ HLT HOT ?_; intro w9 B9 O9 hg9))
        refine bodyPost_ret (v := .tuple #[.agg ts.toArray, .int .i64 0]) ?_ rfl (HQ.out _ _ ⟨rfl, below_only L16.out O9.out hg1⟩)
        exact results_cell_slot rfl _ _ g0 _ _ (0, 0) _ rfl B9.out Tryd.underlying49 rfl (by rw [size_hd]; have := HLT.out; simp [this]) rfl
      · have HQ : Hid (∀ e w', (e = .returned (.tuple #[hv zeroHd, .int .i64 5]) ∧ Below w.heap.size w w') → GetHPost w xs a e w') := by
          rintro e w' ⟨rfl, hb⟩
          have he : getErrH xs a = 5 := by
            unfold getErrH headP
            rw [if_pos hp, ← hys', ← hpt, hm, decide_eq_false hq]
            rfl
          refine ⟨?_, hb⟩
          unfold getOfH
          rw [he]
          rfl
        have HD := Lib.hid (decide_eq_false hq)
        obtain ⟨ps, hps⟩ : ∃ ps, ps = putH (takenP ys) := ⟨_, rfl⟩
        rw [← hps] at CH HPL HPB HD
        obtain ⟨ts, hts⟩ : ∃ ts, ts = hcells (takenP ys) := ⟨_, rfl⟩
        rw [HZV.out] at HQ
        unfold hv at CT CH
        rw [← hts] at CT CH HLT HOT
        clear hys hys' hyl hyb hp hroom hm hpt hq hps hts KT hl hx hzs
        go_enter Tryd.func35, Tryd.ntmps35
        go_wp2_with (first
          | ((with_reducible show wpList _ _ _ (⟨some 4, _, _, _, _, _⟩ :: _) _ _); refine wpList_alloc_blk rfl _ rfl zs _ ZH ?_; intro g0 w1 hg1 hg2 B1 L1)
          | fail)
        refine (CP.out _ (HX.out.over L1.out)).mono ?_
        rintro e w2 ⟨A', rfl, hf, L2⟩
        have hh := hf.holds HYL.out HYB.out (by decide)
        have B2 := Lib.hid (B1.out.over L2)
        have L12 := Lib.hid (step L1.out L2)
        clear B1 L1 L2 CP HX hf
        go_wp2_with fail
        refine (CT.out _ _ hh).mono ?_
        rintro e w3 ⟨rfl, L3⟩
        have B3 := Lib.hid (B2.out.over L3)
        have L13 := Lib.hid (step L12.out L3)
        have hh3 := Lib.hid (hh.over L3)
        have hgs := B3.out.lt
        clear B2 L12 hh L3 CT
        go_wp2_with (first
          | ((with_reducible show wpList _ _ _ (⟨some 8, _, _, _, _, _⟩ :: _) _ _); refine wpList_alloc_blk rfl _ rfl zs _ ZH ?_; intro g w4 hg3 hg4 X4 L4)
          | ((with_reducible show wpList _ _ _ (⟨none, .store _ (.tmp 8) _, _, _, _, _⟩ :: _) _ _); refine wpList_store_blk rfl _ (.tmp 8) (.tmp 21) rfl g rfl _ zs ts rfl X4 26 size_hd HZ HLT HOT ?_; intro w5 X5 O5 hg5)
          | ((with_reducible show wpList _ _ _ (⟨some 23, _, _, _, _, _⟩ :: _) _ _); refine wpList_load_blk rfl _ (.tmp 8) rfl g rfl _ ts X5 26 _ Tryd.underlying49 rfl size_hd HLT ?_)
          | fail)
        have L5 : Below w3.heap.size w3 w5 := below_only L4.out O5.out hg3
        have B5 := Lib.hid (B3.out.over L5)
        have L15 := Lib.hid (step L13.out L5)
        have hh5 := Lib.hid (hh3.out.over L5)
        clear B3 L13 hh3 X4 L4 O5 L5
        refine (CH.out _).mono ?_
        rintro e w6 ⟨A2, rfl, hf2, L6⟩
        have B6 := Lib.hid (B5.out.over L6)
        have X6 := Lib.hid (X5.out.over L6)
        have L16 := Lib.hid (step L15.out L6)
        have hh6 := hh5.out.over L6
        have hk6 := hf2.holds HPL.out HPB.out (by decide)
        have CE := Equal_any w6 _ _ _ _ _ _ _ _ _ _ hk6 hh6 (by decide) (by decide)
        rw [HD.out] at CE
        have CE' := Lib.hid CE
        clear CE B5 X5 L15 hh5 L6 hf2 hh6 hk6 CH HD
        go_wp2_with fail
        refine CE'.out.mono ?_
        rintro e w7 ⟨rfl, rfl⟩
        clear CE'
        go_wp2_with (first
          | ((with_reducible show wpList _ _ _ (⟨some 35, _, _, _, _, _⟩ :: _) _ _); refine wpList_build_none rfl _ rfl zs BH ?_)
          | ((with_reducible show wpList _ _ _ (⟨none, .store _ (.tmp 4) _, _, _, _, _⟩ :: _) _ _); refine wpList_store_blk rfl _ (.tmp 4) (.tmp 35) rfl g0 rfl _ zs zs rfl B6 26 size_hd HZ HZ HZO ?_; intro w9 B9 O9 hg9))
        refine bodyPost_ret (v := .tuple #[.agg zs.toArray, .int .i64 5]) ?_ rfl (HQ.out _ _ ⟨rfl, below_only L16.out O9.out hg1⟩)
        exact results_cell_slot rfl _ _ g0 _ _ (0, 0) _ rfl B9.out Tryd.underlying49 rfl (by rw [size_hd]; have := HZ.out; simp [this]) rfl
    · have HQ : Hid (∀ e w', (e = .returned (.tuple #[hv zeroHd, .int .i64 5]) ∧ Below w.heap.size w w') → GetHPost w xs a e w') := by
        rintro e w' ⟨rfl, hb⟩
        have hm' : mayP (takenP ys) = false := by simpa using hm
        have he : getErrH xs a = 5 := by
          unfold getErrH headP
          rw [if_pos hp, ← hys', hm', Bool.and_false]
          rfl
        refine ⟨?_, hb⟩
        unfold getOfH
        rw [he]
        rfl
      have CH : Hid (∀ w : World, Calls Tryd.prog 50 #[hv (takenP ys)] w fun e w' => ∃ A', e = .returned (.tuple #[.slice A' 0 0, .int .i64 2]) ∧ Below w.heap.size w w') := fun w => by
        have h1 := PutH_any w (takenP ys) KT
        unfold PutHPost putOfH putErrH at h1
        rw [if_neg hm, if_neg hm] at h1
        refine h1.mono ?_
        rintro e w' ⟨A', rfl, hf, hb⟩
        exact ⟨A', rfl, hb⟩
      obtain ⟨ts, hts⟩ : ∃ ts, ts = hcells (takenP ys) := ⟨_, rfl⟩
      rw [HZV.out] at HQ
      unfold hv at CT CH
      rw [← hts] at CT CH HLT HOT
      clear hys hys' hyl hyb hp hroom hm hts KT hl hx hzs
      go_enter Tryd.func35, Tryd.ntmps35
      go_wp2_with (first
        | ((with_reducible show wpList _ _ _ (⟨some 4, _, _, _, _, _⟩ :: _) _ _); refine wpList_alloc_blk rfl _ rfl zs _ ZH ?_; intro g0 w1 hg1 hg2 B1 L1)
        | fail)
      refine (CP.out _ (HX.out.over L1.out)).mono ?_
      rintro e w2 ⟨A', rfl, hf, L2⟩
      have hh := hf.holds HYL.out HYB.out (by decide)
      have B2 := Lib.hid (B1.out.over L2)
      have L12 := Lib.hid (step L1.out L2)
      clear B1 L1 L2 CP HX hf
      go_wp2_with fail
      refine (CT.out _ _ hh).mono ?_
      rintro e w3 ⟨rfl, L3⟩
      have B3 := Lib.hid (B2.out.over L3)
      have L13 := Lib.hid (step L12.out L3)
      have hh3 := Lib.hid (hh.over L3)
      have hgs := B3.out.lt
      clear B2 L12 hh L3 CT
      go_wp2_with (first
        | ((with_reducible show wpList _ _ _ (⟨some 8, _, _, _, _, _⟩ :: _) _ _); refine wpList_alloc_blk rfl _ rfl zs _ ZH ?_; intro g w4 hg3 hg4 X4 L4)
        | ((with_reducible show wpList _ _ _ (⟨none, .store _ (.tmp 8) _, _, _, _, _⟩ :: _) _ _); refine wpList_store_blk rfl _ (.tmp 8) (.tmp 21) rfl g rfl _ zs ts rfl X4 26 size_hd HZ HLT HOT ?_; intro w5 X5 O5 hg5)
        | ((with_reducible show wpList _ _ _ (⟨some 23, _, _, _, _, _⟩ :: _) _ _); refine wpList_load_blk rfl _ (.tmp 8) rfl g rfl _ ts X5 26 _ Tryd.underlying49 rfl size_hd HLT ?_)
        | fail)
      have L5 : Below w3.heap.size w3 w5 := below_only L4.out O5.out hg3
      have B5 := Lib.hid (B3.out.over L5)
      have L15 := Lib.hid (step L13.out L5)
      have hh5 := Lib.hid (hh3.out.over L5)
      clear B3 L13 hh3 X4 L4 O5 L5
      refine (CH.out _).mono ?_
      rintro e w6 ⟨A2, rfl, L6⟩
      have B6 := Lib.hid (B5.out.over L6)
      have L16 := Lib.hid (step L15.out L6)
      clear B5 X5 L15 hh5 L6 CH
      go_wp2_with (first
        | ((with_reducible show wpList _ _ _ (⟨some 35, _, _, _, _, _⟩ :: _) _ _); refine wpList_build_none rfl _ rfl zs BH ?_)
        | ((with_reducible show wpList _ _ _ (⟨none, .store _ (.tmp 4) _, _, _, _, _⟩ :: _) _ _); refine wpList_store_blk rfl _ (.tmp 4) (.tmp 35) rfl g0 rfl _ zs zs rfl B6 26 size_hd HZ HZ HZO ?_; intro w9 B9 O9 hg9))
      refine bodyPost_ret (v := .tuple #[.agg zs.toArray, .int .i64 5]) ?_ rfl (HQ.out _ _ ⟨rfl, below_only L16.out O9.out hg1⟩)
      exact results_cell_slot rfl _ _ g0 _ _ (0, 0) _ rfl B9.out Tryd.underlying49 rfl (by rw [size_hd]; have := HZ.out; simp [this]) rfl
  · have HQ : Hid (∀ e w', (e = .returned (.tuple #[hv zeroHd, .int .i64 (partErr xs.length a 64)]) ∧ Below w.heap.size w w') → GetHPost w xs a e w') := by
      rintro e w' ⟨rfl, hb⟩
      have he : getErrH xs a = partErr xs.length a 64 := by unfold getErrH; rw [if_neg hp]
      refine ⟨?_, hb⟩
      unfold getOfH
      rw [he, if_neg hp]
    have e2 : partOf xs a 64 = [] := by unfold partOf; rw [if_neg hp]
    unfold PartPost at CP
    rw [e2] at CP
    rw [HZV.out] at HQ
    obtain ⟨er, her⟩ : ∃ er, er = partErr xs.length a 64 := ⟨_, rfl⟩
    rw [← her] at CP HQ hp
    have hne : (er != 0) = true := by simpa using hp
    clear e2 her hp hl hx hzs
    go_enter Tryd.func35, Tryd.ntmps35
    go_wp2_with (first
      | ((with_reducible show wpList _ _ _ (⟨some 4, _, _, _, _, _⟩ :: _) _ _); refine wpList_alloc_blk rfl _ rfl zs _ ZH ?_; intro g0 w1 hg1 hg2 B1 L1)
      | fail)
    refine (CP.out _ (HX.out.over L1.out)).mono ?_
    rintro e w2 ⟨A', rfl, hf, L2⟩
    have B2 := Lib.hid (B1.out.over L2)
    have L12 := Lib.hid (step L1.out L2)
    go_wp2_with (first
      | ((with_reducible show wpList _ _ _ (⟨some 18, _, _, _, _, _⟩ :: _) _ _); refine wpList_build_none rfl _ rfl zs BH ?_)
      | ((with_reducible show wpList _ _ _ (⟨none, .store _ (.tmp 4) _, _, _, _, _⟩ :: _) _ _); refine wpList_store_blk rfl _ (.tmp 4) (.tmp 18) rfl g0 rfl _ zs zs rfl B2 26 size_hd HZ HZ HZO ?_; intro w9 B9 O9 hg9))
    refine bodyPost_ret (v := .tuple #[.agg zs.toArray, .int .i64 er]) ?_ rfl (HQ.out _ _ ⟨rfl, below_only L12.out O9.out hg1⟩)
    exact results_cell_slot rfl _ _ g0 _ _ (0, 0) _ rfl B9.out Tryd.underlying49 rfl (by rw [size_hd]; have := HZ.out; simp [this]) rfl
end Go.Proofs.YtgfflnjggnadpaaDoor

namespace Go.Proofs.YtgfflnjggnadpaaDoor
set_option linter.all false
set_option maxRecDepth 100000
open Go.RowKit
set_option maxHeartbeats 400000 in
theorem RSize_any (w : World) (s : Int) : Calls Tryd.prog 59 #[.int .i64 s] w fun e w' => e = .returned (.bool (sizeOk s)) ∧ w = w' := by
  by_cases h1 : s = 1
  · subst h1
    go_enter Tryd.func59, Tryd.ntmps59
    go_wp2
    go_ret
    exact ⟨rfl, rfl⟩
  by_cases h2 : s = 2
  · subst h2
    go_enter Tryd.func59, Tryd.ntmps59
    go_wp2
    go_ret
    exact ⟨rfl, rfl⟩
  by_cases h4 : s = 4
  · subst h4
    go_enter Tryd.func59, Tryd.ntmps59
    go_wp2
    go_ret
    exact ⟨rfl, rfl⟩
  by_cases h8 : s = 8
  · subst h8
    go_enter Tryd.func59, Tryd.ntmps59
    go_wp2
    go_ret
    exact ⟨rfl, rfl⟩
  · have e : sizeOk s = false := by simp [sizeOk, h1, h2, h4, h8]
    have b1 : (s == 1) = false := by simpa using h1
    have b2 : (s == 2) = false := by simpa using h2
    have b4 : (s == 4) = false := by simpa using h4
    have b8 : (s == 8) = false := by simpa using h8
    rw [e]
    clear e h1 h2 h4 h8
    go_enter Tryd.func59, Tryd.ntmps59
    go_wp2
    go_ret
    exact ⟨rfl, rfl⟩
end Go.Proofs.YtgfflnjggnadpaaDoor

namespace Go.Proofs.YtgfflnjggnadpaaDoor
set_option linter.all false
set_option maxRecDepth 100000
open Go.RowKit
/-- what the document's Put answers -/
def RPutPost (w : World) (n s : Int) (e : Ending) (w' : World) : Prop := ∃ v, e = .returned (.tuple #[v, .int .i64 (putErr n s)]) ∧ Own w' w.heap.size v (putOf n s) ∧ Below w.heap.size w w'
theorem le_snoc (n : Int) (k : Nat) : le n (k + 1) = le n k ++ [n / 256 ^ k % 256] := by
  have hk : k < (le n (k + 1)).length := by rw [le_length]; omega
  have h1 := List.take_succ_eq_append_getElem hk
  rw [le_getElem n (k + 1) k (by omega) hk, List.take_of_length_le (by rw [le_length]; omega)] at h1
  rw [h1]
  congr 1
  clear h1 hk
  induction k generalizing n with
  | zero => rfl
  | succ k ih => rw [show le n (k + 1 + 1) = n % 256 :: le (n / 256) (k + 1) from rfl, List.take_succ_cons, ih]; rfl
set_option maxHeartbeats 400000 in
theorem RPut_any (w : World) (n s : Int) (hn : 0 ≤ n ∧ n ≤ 18446744073709551615) :
    Calls Tryd.prog 46 #[.int .u64 n, .int .i64 s] w (RPutPost w n s) := by
  have c1 := RSize_any w s
  obtain ⟨hn0, hn1⟩ := hn
  by_cases hz : sizeOk s = true
  · have hs8 : 1 ≤ s ∧ s ≤ 8 := by rcases sizeOk_cases hz with e | e | e | e <;> omega
    obtain ⟨hs1, hs8⟩ := hs8
    obtain ⟨j, rfl⟩ := Int.eq_ofNat_of_zero_le (show 0 ≤ s by omega)
    have hq0 : n / 256 ^ j = 0 → ∀ e w', (∃ v, e = .returned (.tuple #[v, .int .i64 0]) ∧ Own w' w.heap.size v (le n j) ∧ Below w.heap.size w w') → RPutPost w n j e w' := by
      intro h0 e w' hh
      have hp : putOk n j = true := by
        have := putOk_at n j (256 ^ j) hz rfl hn0 (Int.pow_pos (by omega))
        rw [← this, h0]; rfl
      unfold RPutPost putErr putOf
      rw [if_pos hp, if_pos hp, Int.toNat_natCast]
      exact hh
    have hq1 : 0 < n / 256 ^ j → ∀ e w', (∃ v, e = .returned (.tuple #[v, .int .i64 2]) ∧ Own w' w.heap.size v [] ∧ Below w.heap.size w w') → RPutPost w n j e w' := by
      intro h0 e w' hh
      have hp : ¬ putOk n j = true := by
        have := putOk_at n j (256 ^ j) hz rfl hn0 (Int.pow_pos (by omega))
        rw [← this, beq_iff_eq]; omega
      unfold RPutPost putErr putOf
      rw [if_neg hp, if_neg hp]
      exact hh
    rw [hz] at c1
    have C1 := Lib.hid c1
    have HQ0 := Lib.hid hq0
    have HQ1 := Lib.hid hq1
    clear c1 hz hq0 hq1
    go_enter Tryd.func46, Tryd.ntmps46
    go_wp2_with fail
    refine C1.out.mono ?_
    rintro e w' ⟨rfl, rfl⟩
    go_wp2_with fail
    go_loopw [0, 6, 7] (fun nv v i wr => ∃ k : Nat, k ≤ j ∧ i = .int .i64 k ∧ ∃ z, nv = .int .u64 z ∧ Hid (z = n / 256 ^ k) ∧ 0 ≤ z ∧ z ≤ 18446744073709551615 ∧ Hid (Own wr w.heap.size v (le n k)) ∧ Below w.heap.size w wr) (fun _ _ i _ => j - (intOf i).toNat)
    case atStart => exact ⟨0, Nat.zero_le _, rfl, n, rfl, by show n = _; simp, hn0, hn1, Own.nil _ _, Below.refl _ _⟩
    case round =>
      obtain ⟨k, hk, rfl, z, rfl, HZ, hz0, hz1, HO, hb⟩ := hrel
      by_cases hlt : k < j
      · have hm := Int.emod_nonneg z (show (256 : Int) ≠ 0 by omega)
        have hm2 := Int.emod_lt_of_pos z (show (0 : Int) < 256 by omega)
        have hlen : (le n k).length + [z % 256].length ≤ 140737488355328 := by rw [le_length]; simp; omega
        have hbs := hb.size
        have hS1 : Hid (z / 256 = n / 256 ^ (k + 1)) := by
          show _ = _
          rw [HZ.out, Int.pow_succ, Int.ediv_ediv_of_nonneg (Int.le_of_lt (Int.pow_pos (by omega)))]
        have hS2 : Hid (le n k ++ [z % 256] = le n (k + 1)) := by
          show _ = _
          rw [le_snoc, HZ.out]
        go_wp2_with (at_builtin; refine wpList_append_bytes rfl (.tmp 16) (.tmp 20) rfl w.heap.size _ _ rfl (HO.out.alloc _) _ _ 1 1 [z % 256] rfl (Holds.single wr (z % 256) (by omega)) hlen (by simp; omega) ?_; intro v2 w2 ho2 hb2 hgr)
        have ho := ho2.out
        rw [hS2.out] at ho
        go_roundw
        case rel => exact ⟨k + 1, by omega, by go_num, _, rfl, hS1, by omega, by omega, ho, (hb.alloc hb.size _).trans hb2⟩
        case measure => simp [intOf]; omega
      · obtain rfl : k = j := by omega
        by_cases h0 : 0 < z
        · have hS := HQ1.out (by rw [← HZ.out]; exact h0)
          have HS := Lib.hid hS
          clear hS HZ HO
          go_wp2
          go_ret2
          exact HS.out _ _ ⟨_, rfl, Own.nil _ _, hb⟩
        · have hS := HQ0.out (by rw [← HZ.out]; omega)
          have HS := Lib.hid hS
          clear hS HZ
          go_wp2
          go_ret2
          exact HS.out _ _ ⟨_, rfl, HO.out, hb⟩
  · have hz' : sizeOk s = false := by simpa using hz
    have hp : ¬ putOk n s = true := by unfold putOk; rw [hz']; simp
    have hq : ∀ e w', (∃ v, e = .returned (.tuple #[v, .int .i64 2]) ∧ Own w' w.heap.size v [] ∧ Below w.heap.size w w') → RPutPost w n s e w' := by
      intro e w' hh
      unfold RPutPost putErr putOf
      rw [if_neg hp, if_neg hp]
      exact hh
    have HQ := Lib.hid hq
    rw [hz'] at c1
    have C1 := Lib.hid c1
    clear c1 hz hz' hp hq
    go_enter Tryd.func46, Tryd.ntmps46
    go_wp2_with fail
    refine C1.out.mono ?_
    rintro e w' ⟨rfl, rfl⟩
    go_wp2
    go_ret2
    exact HQ.out _ _ ⟨_, rfl, Own.nil _ _, Below.refl _ _⟩
end Go.Proofs.YtgfflnjggnadpaaDoor

namespace Go.Proofs.YtgfflnjggnadpaaDoor
set_option linter.all false
set_option maxRecDepth 100000
open Go.RowKit
def cmdCells : List Value := commands.map (Value.int .u16)
set_option maxHeartbeats 1000000 in
theorem RKnown_any (w : World) (c : Int) :
    Calls Tryd.prog 56 #[.int .u16 c] w fun e w' => e = .returned (.bool (known c)) ∧ Below w.heap.size w w' := by
  have HK : Hid (∀ k, k < 17 → commands.getD k 0 = c → known c = true) := fun k hk he => by
    rw [← he]
    have h17 : k < commands.length := hk
    exact List.contains_iff_mem.2 (by rw [List.getD_eq_getElem?_getD, List.getElem?_eq_getElem h17]; exact List.getElem_mem h17)
  have HN : Hid ((∀ k, k < 17 → ¬ commands.getD k 0 = c) → known c = false) := fun hn => by
    rw [Bool.eq_false_iff]
    intro h
    obtain ⟨i, hi, he⟩ := List.mem_iff_getElem.1 (List.contains_iff_mem.1 h)
    exact hn i hi (by rw [List.getD_eq_getElem?_getD, List.getElem?_eq_getElem hi]; exact he)
  have HC : Hid (∀ k, k < 17 → cmdCells[k]? = some (.int .u16 (commands.getD k 0))) := fun k hk => by
    have h17 : k < commands.length := hk
    simp [cmdCells, h17]
  obtain ⟨z, hz⟩ : ∃ z, z = known c := ⟨_, rfl⟩
  rw [← hz] at HK HN ⊢
  have hcs : Tryd.prog.builtSlice 45 17 [(0, .int .u16 0), (1, .int .u16 1), (2, .int .u16 2), (3, .int .u16 3), (4, .int .u16 4), (5, .int .u16 5), (6, .int .u16 6), (7, .int .u16 7), (8, .int .u16 8), (9, .int .u16 9), (10, .int .u16 10), (11, .int .u16 12), (12, .int .u16 13), (13, .int .u16 14), (14, .int .u16 16), (15, .int .u16 17), (16, .int .u16 18)] = some cmdCells.toArray := by kernel_rfl
  obtain ⟨cs, hc⟩ : ∃ cs, cs = cmdCells := ⟨_, rfl⟩
  obtain ⟨cl, hcl⟩ : ∃ cl, cl = commands := ⟨_, rfl⟩
  rw [← hc] at HC hcs
  rw [← hcl] at HC HK HN
  clear hz hc hcl
  go_enter Tryd.func56, Tryd.ntmps56
  go_wp2_with (((with_reducible show wpList _ _ _ (⟨some 5, _, _, _, _, _⟩ :: _) _ _); refine wpList_slice_blk rfl _ _ 17 _ rfl Tryd.underlying90 cs (by refine Eq.trans ?_ hcs; kernel_rfl) ?_; intro g w1 hg1 hg2 B1 L1))
  go_loop [4] (fun i => ∃ k : Nat, k ≤ 17 ∧ i = .int .i64 k ∧ Hid (∀ j, j < k → ¬ cl.getD j 0 = c)) (fun i => 17 - (intOf i).toNat)
  case atStart => exact ⟨0, Nat.zero_le _, rfl, fun j hj => absurd hj (by omega)⟩
  case round =>
    obtain ⟨k, hk, rfl, HT⟩ := hrel
    by_cases hlt : k < 17
    · have gc := (B1.out.cell k).trans (HC.out k hlt)
      have hK := HK.out k hlt
      have hT := HT.out
      obtain ⟨y, hy⟩ : ∃ y, y = cl.getD k 0 := ⟨_, rfl⟩
      rw [← hy] at gc hK
      have HY := Lib.hid hy
      clear hy
      by_cases he : y = c
      · have hS := Lib.hid (hK he)
        have hb : (y == c) = true := by simpa using he
        clear hK hT HT he
        go_wp2
        go_ret
        exact ⟨ret_bool hS.out.symm, L1.out⟩
      · have hS : Hid (∀ j, j < k + 1 → ¬ cl.getD j 0 = c) := fun j hj => by
          by_cases hjk : j < k
          · exact hT j hjk
          · obtain rfl : j = k := by omega
            rw [← HY.out]
            exact he
        have hb : (y == c) = false := by simpa using he
        clear hK hT HT he
        go_wp2
        go_round
        case rel => exact ⟨k + 1, by omega, by go_num, hS⟩
        case measure => simp [intOf]; omega
    · obtain rfl : k = 17 := by omega
      have hS := Lib.hid (HN.out HT.out)
      clear HT HN HK
      go_wp2
      go_ret
      exact ⟨ret_bool hS.out.symm, L1.out⟩
set_option maxHeartbeats 400000 in
theorem RHas_any (w : World) (h : Hd) (k : h.ok) :
    Calls Tryd.prog 26 #[hv h, .int .u32 2] w fun e w' => e = .returned (.bool (isAs h.fl)) ∧ Below w.heap.size w w' := by
  have h1 := k.fl
  have hb : Hid ((h.fl / 2 % 2 == 1) = isAs h.fl) := by
    show _ = _
    unfold isAs
    rw [Bool.eq_iff_iff, beq_iff_eq, decide_eq_true_iff]
  obtain ⟨z, hz⟩ : ∃ z, z = isAs h.fl := ⟨_, rfl⟩
  rw [← hz] at hb ⊢
  have F4 : Hid (∀ (w : World) (g : Nat), Blk w g 49 (hcells h) → w.cell? ⟨g, 4, none⟩ = some (.int .u32 h.fl)) := fun w g B => HB.c4 B
  obtain ⟨fl, hfl⟩ : ∃ fl, fl = h.fl := ⟨_, rfl⟩
  rw [← hfl] at h1 hb F4
  obtain ⟨cs, hcs⟩ : ∃ cs, cs = hcells h := ⟨_, rfl⟩
  unfold hv
  rw [← hcs] at F4 ⊢
  obtain ⟨h0, h1⟩ := h1
  have hq : fl.tdiv 2 = fl / 2 := Int.tdiv_eq_ediv_of_nonneg h0
  have hm : (fl / 2).tmod 2 = fl / 2 % 2 := Int.tmod_eq_emod_of_nonneg (by omega)
  have hb' := hb.out
  clear hz k hfl hcs hb
  go_enter Tryd.func26, Tryd.ntmps26
  go_wp2_with (((with_reducible show wpList _ _ _ (⟨some 2, _, _, _, _, _⟩ :: _) _ _); refine wpList_box_blk rfl _ (.tmp 0) rfl cs rfl ?_; intro g w1 hg1 hg2 B1 L1; have gc := F4.out _ _ B1.out))
  go_ret
  exact ⟨rfl, L1.out⟩
set_option maxHeartbeats 400000 in
theorem RMay_any (w : World) (h : Hd) (k : h.ok) :
    Calls Tryd.prog 42 #[hv h] w fun e w' => e = .returned (.bool (mayP h)) ∧ Below w.heap.size w w' := by
  have CK : Hid (∀ w : World, Calls Tryd.prog 56 #[.int .u16 h.cm] w fun e w' => e = .returned (.bool (known h.cm)) ∧ Below w.heap.size w w') := fun w => RKnown_any w h.cm
  have CH : Hid (∀ w : World, Calls Tryd.prog 26 #[hv h, .int .u32 2] w fun e w' => e = .returned (.bool (isAs h.fl)) ∧ Below w.heap.size w w') := fun w => RHas_any w h k
  have HL := Lib.hid (hcells_len k)
  obtain ⟨f0, f1⟩ := k.fl
  have FB : Hid (∀ (w : World) (g : Nat), Blk w g 49 (hcells h) → w.cell? ⟨g, 2, none⟩ = some (.int .u16 h.cm) ∧ w.cell? ⟨g, 4, none⟩ = some (.int .u32 h.fl) ∧ w.cell? ⟨g, 7, none⟩ = some (.int .u64 h.asy) ∧ w.cell? ⟨g, 8, none⟩ = some (.int .u32 h.tr)) := fun w g B => ⟨HB.c2 B, HB.c4 B, HB.c7 B, HB.c8 B⟩
  have HM : Hid (mayP h = (known h.cm && (decide (h.fl < 16) && (if isAs h.fl = true then decide (h.tr = 0) else decide (h.asy = 0))))) := rfl
  obtain ⟨fl, hfl⟩ : ∃ fl, fl = h.fl := ⟨_, rfl⟩
  obtain ⟨cm, hcm⟩ : ∃ cm, cm = h.cm := ⟨_, rfl⟩
  obtain ⟨tr, htr⟩ : ∃ tr, tr = h.tr := ⟨_, rfl⟩
  obtain ⟨asy, hasy⟩ : ∃ asy, asy = h.asy := ⟨_, rfl⟩
  obtain ⟨cs, hcs⟩ : ∃ cs, cs = hcells h := ⟨_, rfl⟩
  rw [← hfl] at FB HM CH f0 f1
  rw [← hcm] at FB HM CK
  rw [← htr, ← hasy] at FB HM
  unfold hv at CH ⊢
  rw [← hcs] at FB CH HL ⊢
  clear hfl hcm htr hasy hcs k
  by_cases hk : known cm = true
  · rw [hk] at CK HM
    by_cases h16 : fl < 16
    · rw [decide_eq_true h16] at HM
      have hd : decide (16 ≤ fl) = false := by rw [decide_eq_false_iff_not]; omega
      by_cases hi : isAs fl = true
      · rw [hi] at CH HM
        rw [show mayP h = (tr == 0) from by
          rw [HM.out, if_pos rfl, Bool.true_and, Bool.true_and, Bool.eq_iff_iff, beq_iff_eq, decide_eq_true_iff]]
        clear hk hi HM
        go_enter Tryd.func42, Tryd.ntmps42
        go_wp2_with (first
          | ((with_reducible show wpList _ _ _ (⟨some 1, _, _, _, _, _⟩ :: _) _ _); refine wpList_box_blk rfl _ (.tmp 0) rfl cs rfl ?_; intro g w1 hg1 hg2 B1 L1; have ga := (FB.out _ _ B1.out).1)
          | fail)
        refine (CK.out _).mono ?_
        rintro e w2 ⟨rfl, L2⟩
        have B2 := Lib.hid (B1.out.over L2)
        have gb := (FB.out _ _ B2.out).2.1
        have L12 := Lib.hid (step L1.out L2)
        clear B1 L1 L2 ga CK
        go_wp2_with (first
          | ((with_reducible show wpList _ _ _ (⟨some 12, _, _, _, _, _⟩ :: _) _ _); refine wpList_load_blk rfl _ (.tmp 1) rfl g rfl _ _ B2 26 _ Tryd.underlying49 rfl size_hd HL ?_)
          | fail)
        refine (CH.out _).mono ?_
        rintro e w3 ⟨rfl, L3⟩
        have gd := (FB.out _ _ (B2.out.over L3)).2.2.2
        clear CH B2 gb
        go_wp2
        go_ret
        exact ⟨rfl, step L12.out L3⟩
      · have hi' : isAs fl = false := by simpa using hi
        rw [hi'] at CH HM
        rw [show mayP h = (asy == 0) from by
          rw [HM.out, if_neg (by decide), Bool.true_and, Bool.true_and, Bool.eq_iff_iff, beq_iff_eq, decide_eq_true_iff]]
        clear hk hi hi' HM
        go_enter Tryd.func42, Tryd.ntmps42
        go_wp2_with (first
          | ((with_reducible show wpList _ _ _ (⟨some 1, _, _, _, _, _⟩ :: _) _ _); refine wpList_box_blk rfl _ (.tmp 0) rfl cs rfl ?_; intro g w1 hg1 hg2 B1 L1; have ga := (FB.out _ _ B1.out).1)
          | fail)
        refine (CK.out _).mono ?_
        rintro e w2 ⟨rfl, L2⟩
        have B2 := Lib.hid (B1.out.over L2)
        have gb := (FB.out _ _ B2.out).2.1
        have L12 := Lib.hid (step L1.out L2)
        clear B1 L1 L2 ga CK
        go_wp2_with (first
          | ((with_reducible show wpList _ _ _ (⟨some 12, _, _, _, _, _⟩ :: _) _ _); refine wpList_load_blk rfl _ (.tmp 1) rfl g rfl _ _ B2 26 _ Tryd.underlying49 rfl size_hd HL ?_)
          | fail)
        refine (CH.out _).mono ?_
        rintro e w3 ⟨rfl, L3⟩
        have gd := (FB.out _ _ (B2.out.over L3)).2.2.1
        clear CH B2 gb
        go_wp2
        go_ret
        exact ⟨rfl, step L12.out L3⟩
    · rw [decide_eq_false h16] at HM
      have hd : decide (16 ≤ fl) = true := by rw [decide_eq_true_iff]; omega
      rw [show mayP h = false from by rw [HM.out]; simp]
      clear hk HM CH
      go_enter Tryd.func42, Tryd.ntmps42
      go_wp2_with (first
        | ((with_reducible show wpList _ _ _ (⟨some 1, _, _, _, _, _⟩ :: _) _ _); refine wpList_box_blk rfl _ (.tmp 0) rfl cs rfl ?_; intro g w1 hg1 hg2 B1 L1; have ga := (FB.out _ _ B1.out).1)
        | fail)
      refine (CK.out _).mono ?_
      rintro e w2 ⟨rfl, L2⟩
      have gb := (FB.out _ _ (B1.out.over L2)).2.1
      clear ga CK
      go_wp2
      go_ret
      exact ⟨rfl, step L1.out L2⟩
  · have hk' : known cm = false := by simpa using hk
    rw [hk'] at CK HM
    rw [show mayP h = false from by rw [HM.out]; simp]
    clear hk hk' HM CH
    go_enter Tryd.func42, Tryd.ntmps42
    go_wp2_with (first
      | ((with_reducible show wpList _ _ _ (⟨some 1, _, _, _, _, _⟩ :: _) _ _); refine wpList_box_blk rfl _ (.tmp 0) rfl cs rfl ?_; intro g w1 hg1 hg2 B1 L1; have ga := (FB.out _ _ B1.out).1)
      | fail)
    refine (CK.out _).mono ?_
    rintro e w2 ⟨rfl, L2⟩
    clear ga CK
    go_wp2
    go_ret
    exact ⟨rfl, step L1.out L2⟩
/-- what lay answers: a number behind others -/
def LayPost (w : World) (base : Nat) (xs : List Int) (n s : Int) (e : Ending) (w' : World) : Prop := ∃ v, e = .returned v ∧ Own w' base v (xs ++ putOf n s) ∧ Below base w w'
set_option maxHeartbeats 400000 in
theorem lay_any (w : World) (base : Nat) (v : Value) (xs : List Int) (n s : Int) (hn : 0 ≤ n ∧ n ≤ 18446744073709551615) (ho : Own w base v xs) (hxl : xs.length ≤ 1000) (hps : (putOf n s).length ≤ 8) (hpb : Bytes (putOf n s)) (hb : base ≤ w.heap.size) :
    Calls Tryd.prog 60 #[v, .int .u64 n, .int .i64 s] w (LayPost w base xs n s) := by
  have C1 := Lib.hid (RPut_any w n s hn)
  have HO := Lib.hid ho
  have HQ : Hid (∀ e w', (∃ v, e = .returned v ∧ Own w' base v (xs ++ putOf n s) ∧ Below base w w') → LayPost w base xs n s e w') := fun _ _ hh => hh
  have HPB := Lib.hid hpb
  obtain ⟨A0, c0, hv0⟩ := ho.len
  obtain ⟨ys, hys⟩ : ∃ ys, ys = putOf n s := ⟨_, rfl⟩
  unfold RPutPost at C1
  rw [← hys] at C1 HQ hps HPB
  have hlen : xs.length + ys.length ≤ 140737488355328 := by omega
  clear hys hn hpb ho
  subst hv0
  go_enter Tryd.func60, Tryd.ntmps60
  go_wp2_with fail
  refine C1.out.mono ?_
  rintro e w1 ⟨x, rfl, hx, L1⟩
  obtain ⟨A1, c1, rfl, hh⟩ := hx.holds HPB.out (by omega)
  have HO1 := HO.out.below L1
  have hs1 := L1.size
  obtain ⟨m, hm⟩ : ∃ m, m = ys.length := ⟨_, rfl⟩
  rw [← hm] at hh ⊢
  have HH := Lib.hid hh
  obtain ⟨m0, hm0⟩ : ∃ m, m = xs.length := ⟨_, rfl⟩
  have HO1' := Lib.hid HO1
  have HLEN := Lib.hid hlen
  rw [← hm0] at HO1' ⊢
  clear hm hm0 hh hx HO HO1 hlen
  go_wp2_with (at_builtin; refine wpList_append_bytes rfl (.tmp 15) (.tmp 16) rfl base _ xs rfl HO1'.out _ A1 m c1 ys rfl HH.out HLEN.out (by omega) ?_; intro v2 w2 ho2 hb2 hgr)
  go_ret
  exact HQ.out _ _ ⟨_, rfl, ho2.out, (L1.mono hb).trans hb2⟩
end Go.Proofs.YtgfflnjggnadpaaDoor

namespace Go.Proofs.YtgfflnjggnadpaaDoor
set_option linter.all false
set_option maxRecDepth 100000
open Go.RowKit
theorem le_shift (t : Int) (s : Nat) : le (t * 256 ^ s) s = le 0 s := by
  induction s with
  | zero => rfl
  | succ s ih =>
    have e : t * 256 ^ (s + 1) = 256 * (t * 256 ^ s) := by rw [Int.pow_succ, ← Int.mul_assoc, Int.mul_comm]
    simp only [le]
    rw [e, show 256 * (t * 256 ^ s) % 256 = 0 from by omega, show 256 * (t * 256 ^ s) / 256 = t * 256 ^ s from by omega, ih]
    rfl
theorem le_tree (t : Int) : le (t * 4294967296) 8 = le 0 4 ++ le t 4 := by
  have h := le_append (t * 256 ^ 4) 4 4
  rw [le_shift, show (256 : Int) ^ 4 = 4294967296 from by decide] at h
  rw [show (8 : Nat) = 4 + 4 from rfl, h, show t * 4294967296 / 4294967296 = t from by omega]
theorem putOf_fits (n : Int) (s : Nat) (hs : sizeOk (s : Int) = true) (h : n < 256 ^ s) : putOf n (s : Int) = le n s := by
  unfold putOf putOk
  rw [hs, Int.toNat_natCast, decide_eq_true h]
  rfl
theorem lay_le (w : World) (base : Nat) (v : Value) (xs : List Int) (n : Int) (s : Nat) (h0 : 0 ≤ n) (h1 : n < 256 ^ s) (hs : sizeOk (s : Int) = true) (ho : Own w base v xs) (hxl : xs.length ≤ 1000) (hb : base ≤ w.heap.size) :
    Calls Tryd.prog 60 #[v, .int .u64 n, .int .i64 (s : Int)] w fun e w' => ∃ v, e = .returned v ∧ Own w' base v (xs ++ le n s) ∧ Below base w w' := by
  have e := putOf_fits n s hs h1
  have hs8 : s ≤ 8 := by
    rcases sizeOk_cases hs with h | h | h | h <;> omega
  have e8 : (256 : Int) ^ s ≤ 18446744073709551616 := by
    rcases sizeOk_cases hs with h | h | h | h
    · obtain rfl : s = 1 := by omega
      decide
    · obtain rfl : s = 2 := by omega
      decide
    · obtain rfl : s = 4 := by omega
      decide
    · obtain rfl : s = 8 := by omega
      decide
  have h2 := lay_any w base v xs n (s : Int) ⟨h0, by omega⟩ ho hxl (by rw [e, le_length]; exact hs8) (by rw [e]; exact le_bytes _ _) hb
  unfold LayPost at h2
  rw [e] at h2
  exact h2
set_option maxRecDepth 100000 in
set_option maxHeartbeats 800000 in
theorem RPutH_any (w : World) (h : Hd) (k : h.ok) :
    Calls Tryd.prog 47 #[hv h] w fun e w' => ∃ v, e = .returned (.tuple #[v, .int .i64 (putErrH h)]) ∧ Own w' w.heap.size v (putOfH h) ∧ Below w.heap.size w w' := by
  have CM : Hid (∀ w : World, Calls Tryd.prog 42 #[hv h] w fun e w' => e = .returned (.bool (mayP h)) ∧ Below w.heap.size w w') := fun w => RMay_any w h k
  have HL := Lib.hid (hcells_len k)
  by_cases hm : mayP h = true
  · have HQ : Hid (∀ (e : Ending) (w' : World), (∃ v, e = .returned (.tuple #[v, .int .i64 0]) ∧ Own w' w.heap.size v (pre h 11 ++ h.sg) ∧ Below w.heap.size w w') → ∃ v, e = .returned (.tuple #[v, .int .i64 (putErrH h)]) ∧ Own w' w.heap.size v (putOfH h) ∧ Below w.heap.size w w') := by
      intro e w' hh
      unfold putOfH putErrH
      rw [if_pos hm, if_pos hm]
      exact hh
    have CA : Hid (∀ w : World, Calls Tryd.prog 26 #[hv h, .int .u32 2] w fun e w' => e = .returned (.bool (isAs h.fl)) ∧ Below w.heap.size w w') := fun w => RHas_any w h k
    have e2 : (256 : Int) ^ 2 = 65536 := by decide
    have e4 : (256 : Int) ^ 4 = 4294967296 := by decide
    have e8 : (256 : Int) ^ 8 = 18446744073709551616 := by decide
    have C1 : Hid (∀ (w : World) (base : Nat) (v : Value) (xs : List Int), Own w base v xs → xs.length ≤ 1000 → base ≤ w.heap.size → Calls Tryd.prog 60 #[v, .int .u64 64, .int .i64 2] w fun e w' => ∃ v, e = .returned v ∧ Own w' base v (xs ++ le 64 2) ∧ Below base w w') := fun w base v xs ho hx hb => lay_le w base v xs 64 2 (by decide) (by decide) (by decide) ho hx hb
    have C2 : Hid (∀ (w : World) (base : Nat) (v : Value) (xs : List Int), Own w base v xs → xs.length ≤ 1000 → base ≤ w.heap.size → Calls Tryd.prog 60 #[v, .int .u64 (h.ch), .int .i64 2] w fun e w' => ∃ v, e = .returned v ∧ Own w' base v (xs ++ le (h.ch) 2) ∧ Below base w w') := fun w base v xs ho hx hb => lay_le w base v xs (h.ch) 2 k.ch.1 (by have := k.ch; omega) (by decide) ho hx hb
    have C3 : Hid (∀ (w : World) (base : Nat) (v : Value) (xs : List Int), Own w base v xs → xs.length ≤ 1000 → base ≤ w.heap.size → Calls Tryd.prog 60 #[v, .int .u64 (h.st), .int .i64 4] w fun e w' => ∃ v, e = .returned v ∧ Own w' base v (xs ++ le (h.st) 4) ∧ Below base w w') := fun w base v xs ho hx hb => lay_le w base v xs (h.st) 4 k.st.1 (by have := k.st; omega) (by decide) ho hx hb
    have C4 : Hid (∀ (w : World) (base : Nat) (v : Value) (xs : List Int), Own w base v xs → xs.length ≤ 1000 → base ≤ w.heap.size → Calls Tryd.prog 60 #[v, .int .u64 (h.cm), .int .i64 2] w fun e w' => ∃ v, e = .returned v ∧ Own w' base v (xs ++ le (h.cm) 2) ∧ Below base w w') := fun w base v xs ho hx hb => lay_le w base v xs (h.cm) 2 k.cm.1 (by have := k.cm; omega) (by decide) ho hx hb
    have C5 : Hid (∀ (w : World) (base : Nat) (v : Value) (xs : List Int), Own w base v xs → xs.length ≤ 1000 → base ≤ w.heap.size → Calls Tryd.prog 60 #[v, .int .u64 (h.cr), .int .i64 2] w fun e w' => ∃ v, e = .returned v ∧ Own w' base v (xs ++ le (h.cr) 2) ∧ Below base w w') := fun w base v xs ho hx hb => lay_le w base v xs (h.cr) 2 k.cr.1 (by have := k.cr; omega) (by decide) ho hx hb
    have C6 : Hid (∀ (w : World) (base : Nat) (v : Value) (xs : List Int), Own w base v xs → xs.length ≤ 1000 → base ≤ w.heap.size → Calls Tryd.prog 60 #[v, .int .u64 (h.fl), .int .i64 4] w fun e w' => ∃ v, e = .returned v ∧ Own w' base v (xs ++ le (h.fl) 4) ∧ Below base w w') := fun w base v xs ho hx hb => lay_le w base v xs (h.fl) 4 k.fl.1 (by have := k.fl; omega) (by decide) ho hx hb
    have C7 : Hid (∀ (w : World) (base : Nat) (v : Value) (xs : List Int), Own w base v xs → xs.length ≤ 1000 → base ≤ w.heap.size → Calls Tryd.prog 60 #[v, .int .u64 (h.nx), .int .i64 4] w fun e w' => ∃ v, e = .returned v ∧ Own w' base v (xs ++ le (h.nx) 4) ∧ Below base w w') := fun w base v xs ho hx hb => lay_le w base v xs (h.nx) 4 k.nx.1 (by have := k.nx; omega) (by decide) ho hx hb
    have C8 : Hid (∀ (w : World) (base : Nat) (v : Value) (xs : List Int), Own w base v xs → xs.length ≤ 1000 → base ≤ w.heap.size → Calls Tryd.prog 60 #[v, .int .u64 (h.id), .int .i64 8] w fun e w' => ∃ v, e = .returned v ∧ Own w' base v (xs ++ le (h.id) 8) ∧ Below base w w') := fun w base v xs ho hx hb => lay_le w base v xs (h.id) 8 k.id.1 (by have := k.id; omega) (by decide) ho hx hb
    have CS : Hid (∀ (w : World) (base : Nat) (v : Value) (xs : List Int), Own w base v xs → xs.length ≤ 1000 → base ≤ w.heap.size → Calls Tryd.prog 60 #[v, .int .u64 (h.asy), .int .i64 8] w fun e w' => ∃ v, e = .returned v ∧ Own w' base v (xs ++ le (h.asy) 8) ∧ Below base w w') := fun w base v xs ho hx hb => lay_le w base v xs (h.asy) 8 k.asy.1 (by have := k.asy; omega) (by decide) ho hx hb
    have CZ : Hid (∀ (w : World) (base : Nat) (v : Value) (xs : List Int), Own w base v xs → xs.length ≤ 1000 → base ≤ w.heap.size → Calls Tryd.prog 60 #[v, .int .u64 0, .int .i64 4] w fun e w' => ∃ v, e = .returned v ∧ Own w' base v (xs ++ le 0 4) ∧ Below base w w') := fun w base v xs ho hx hb => lay_le w base v xs 0 4 (by decide) (by decide) (by decide) ho hx hb
    have CT : Hid (∀ (w : World) (base : Nat) (v : Value) (xs : List Int), Own w base v xs → xs.length ≤ 1000 → base ≤ w.heap.size → Calls Tryd.prog 60 #[v, .int .u64 (h.tr), .int .i64 4] w fun e w' => ∃ v, e = .returned v ∧ Own w' base v (xs ++ le (h.tr) 4) ∧ Below base w w') := fun w base v xs ho hx hb => lay_le w base v xs (h.tr) 4 k.tr.1 (by have := k.tr; omega) (by decide) ho hx hb
    have CE : Hid (∀ (w : World) (base : Nat) (v : Value) (xs : List Int), Own w base v xs → xs.length ≤ 1000 → base ≤ w.heap.size → Calls Tryd.prog 60 #[v, .int .u64 (h.se), .int .i64 8] w fun e w' => ∃ v, e = .returned v ∧ Own w' base v (xs ++ le (h.se) 8) ∧ Below base w w') := fun w base v xs ho hx hb => lay_le w base v xs (h.se) 8 k.se.1 (by have := k.se; omega) (by decide) ho hx hb
    have P0 : Hid (pre h 1 = [254, 83, 77, 66]) := by show [] ++ le 1112364030 4 = _; decide
    have P1 : Hid (pre h 1 ++ le (64) 2 = pre h 2) := rfl
    have P2 : Hid (pre h 2 ++ le (h.ch) 2 = pre h 3) := rfl
    have P3 : Hid (pre h 3 ++ le (h.st) 4 = pre h 4) := rfl
    have P4 : Hid (pre h 4 ++ le (h.cm) 2 = pre h 5) := rfl
    have P5 : Hid (pre h 5 ++ le (h.cr) 2 = pre h 6) := rfl
    have P6 : Hid (pre h 6 ++ le (h.fl) 4 = pre h 7) := rfl
    have P7 : Hid (pre h 7 ++ le (h.nx) 4 = pre h 8) := rfl
    have P8 : Hid (pre h 8 ++ le (h.id) 8 = pre h 9) := rfl
    have PS : isAs h.fl = true → pre h 9 ++ le h.asy 8 = pre h 10 := fun hi => by
      rw [show pre h 10 = pre h 9 ++ le (aot h) 8 from rfl]
      unfold aot
      rw [if_pos hi]
    have PT : isAs h.fl = false → pre h 9 ++ le 0 4 ++ le h.tr 4 = pre h 10 := fun hi => by
      rw [show pre h 10 = pre h 9 ++ le (aot h) 8 from rfl]
      unfold aot
      rw [if_neg (by rw [hi]; decide), le_tree, List.append_assoc]
    have PE : Hid (pre h 10 ++ le h.se 8 = pre h 11) := rfl
    have PL : Hid (∀ j, j ≤ 11 → (pre h j).length ≤ 48) := fun j hj => by
      rw [pre_len h j hj]
      revert hj
      revert j
      decide
    have FB : Hid (∀ (w : World) (g : Nat), Blk w g 49 (hcells h) → w.cell? ⟨g, 0, none⟩ = some (.int .u16 h.ch) ∧ w.cell? ⟨g, 1, none⟩ = some (.int .u32 h.st) ∧ w.cell? ⟨g, 2, none⟩ = some (.int .u16 h.cm) ∧ w.cell? ⟨g, 3, none⟩ = some (.int .u16 h.cr) ∧
      w.cell? ⟨g, 4, none⟩ = some (.int .u32 h.fl) ∧ w.cell? ⟨g, 5, none⟩ = some (.int .u32 h.nx) ∧ w.cell? ⟨g, 6, none⟩ = some (.int .u64 h.id) ∧ w.cell? ⟨g, 7, none⟩ = some (.int .u64 h.asy) ∧ w.cell? ⟨g, 8, none⟩ = some (.int .u32 h.tr) ∧ w.cell? ⟨g, 9, none⟩ = some (.int .u64 h.se)) :=
      fun w g B => ⟨HB.c0 B, HB.c1 B, HB.c2 B, HB.c3 B, HB.c4 B, HB.c5 B, HB.c6 B, HB.c7 B, HB.c8 B, HB.c9 B⟩
    have FS : Hid (∀ (w : World) (g : Nat), Blk w g 49 (hcells h) → ∀ i, i < 16 → w.cell? ⟨g, 10 + i, none⟩ = some (.int .u8 (h.sg.getD i 0))) := fun w g B i hi => HB.sgc B (by rw [k.len]; exact hi)
    have HSL := Lib.hid k.len
    have HSB := Lib.hid k.byte
    have bn0 := k.ch
    have bn1 := k.st
    have bn2 := k.cm
    have bn3 := k.cr
    have bn4 := k.fl
    have bn5 := k.nx
    have bn8 := k.tr
    obtain ⟨n0, hn0⟩ : ∃ n, n = h.ch := ⟨_, rfl⟩
    obtain ⟨n1, hn1⟩ : ∃ n, n = h.st := ⟨_, rfl⟩
    obtain ⟨n2, hn2⟩ : ∃ n, n = h.cm := ⟨_, rfl⟩
    obtain ⟨n3, hn3⟩ : ∃ n, n = h.cr := ⟨_, rfl⟩
    obtain ⟨n4, hn4⟩ : ∃ n, n = h.fl := ⟨_, rfl⟩
    obtain ⟨n5, hn5⟩ : ∃ n, n = h.nx := ⟨_, rfl⟩
    obtain ⟨n6, hn6⟩ : ∃ n, n = h.id := ⟨_, rfl⟩
    obtain ⟨n7, hn7⟩ : ∃ n, n = h.asy := ⟨_, rfl⟩
    obtain ⟨n8, hn8⟩ : ∃ n, n = h.tr := ⟨_, rfl⟩
    obtain ⟨n9, hn9⟩ : ∃ n, n = h.se := ⟨_, rfl⟩
    rw [← hn0] at FB C2 P2 bn0
    rw [← hn1] at FB C3 P3 bn1
    rw [← hn2] at FB C4 P4 bn2
    rw [← hn3] at FB C5 P5 bn3
    rw [← hn4] at FB C6 P6 PS PT CA bn4
    rw [← hn5] at FB C7 P7 bn5
    rw [← hn6] at FB C8 P8
    rw [← hn7] at FB CS PS
    rw [← hn8] at FB CT PT bn8
    rw [← hn9] at FB CE PE
    obtain ⟨bn00, bn01⟩ := bn0
    obtain ⟨bn10, bn11⟩ := bn1
    obtain ⟨bn20, bn21⟩ := bn2
    obtain ⟨bn30, bn31⟩ := bn3
    obtain ⟨bn40, bn41⟩ := bn4
    obtain ⟨bn50, bn51⟩ := bn5
    obtain ⟨bn80, bn81⟩ := bn8
    have zn0 : IntKind.u64.wrap n0 = n0 := by rw [IntKind.wrap_u64]; omega
    have zn1 : IntKind.u64.wrap n1 = n1 := by rw [IntKind.wrap_u64]; omega
    have zn2 : IntKind.u64.wrap n2 = n2 := by rw [IntKind.wrap_u64]; omega
    have zn3 : IntKind.u64.wrap n3 = n3 := by rw [IntKind.wrap_u64]; omega
    have zn4 : IntKind.u64.wrap n4 = n4 := by rw [IntKind.wrap_u64]; omega
    have zn5 : IntKind.u64.wrap n5 = n5 := by rw [IntKind.wrap_u64]; omega
    have zn8 : IntKind.u64.wrap n8 = n8 := by rw [IntKind.wrap_u64]; omega
    obtain ⟨q1, hq1⟩ : ∃ q, q = pre h 1 := ⟨_, rfl⟩
    have hPL : (pre h 1).length ≤ 48 ∧ (pre h 2).length ≤ 48 ∧ (pre h 3).length ≤ 48 ∧ (pre h 4).length ≤ 48 ∧ (pre h 5).length ≤ 48 ∧ (pre h 6).length ≤ 48 ∧ (pre h 7).length ≤ 48 ∧ (pre h 8).length ≤ 48 ∧ (pre h 9).length ≤ 48 ∧ (pre h 10).length ≤ 48 ∧ (pre h 11).length ≤ 48 :=
      ⟨PL.out 1 (by omega), PL.out 2 (by omega), PL.out 3 (by omega), PL.out 4 (by omega), PL.out 5 (by omega), PL.out 6 (by omega), PL.out 7 (by omega), PL.out 8 (by omega), PL.out 9 (by omega), PL.out 10 (by omega), PL.out 11 (by omega)⟩
    obtain ⟨q2, hq2⟩ : ∃ q, q = pre h 2 := ⟨_, rfl⟩
    obtain ⟨q3, hq3⟩ : ∃ q, q = pre h 3 := ⟨_, rfl⟩
    obtain ⟨q4, hq4⟩ : ∃ q, q = pre h 4 := ⟨_, rfl⟩
    obtain ⟨q5, hq5⟩ : ∃ q, q = pre h 5 := ⟨_, rfl⟩
    obtain ⟨q6, hq6⟩ : ∃ q, q = pre h 6 := ⟨_, rfl⟩
    obtain ⟨q7, hq7⟩ : ∃ q, q = pre h 7 := ⟨_, rfl⟩
    obtain ⟨q8, hq8⟩ : ∃ q, q = pre h 8 := ⟨_, rfl⟩
    obtain ⟨q9, hq9⟩ : ∃ q, q = pre h 9 := ⟨_, rfl⟩
    obtain ⟨q10, hq10⟩ : ∃ q, q = pre h 10 := ⟨_, rfl⟩
    obtain ⟨q11, hq11⟩ : ∃ q, q = pre h 11 := ⟨_, rfl⟩
    rw [← hq1] at P0 P1 hPL
    rw [← hq2] at P1 P2 hPL
    rw [← hq3] at P2 P3 hPL
    rw [← hq4] at P3 P4 hPL
    rw [← hq5] at P4 P5 hPL
    rw [← hq6] at P5 P6 hPL
    rw [← hq7] at P6 P7 hPL
    rw [← hq8] at P7 P8 hPL
    rw [← hq9] at P8 PS PT hPL
    rw [← hq10] at PS PT PE hPL
    rw [← hq11] at PE HQ hPL
    obtain ⟨l1, l2, l3, l4, l5, l6, l7, l8, l9, l10, l11⟩ := hPL
    have LQ1 := Lib.hid l1
    have LQ2 := Lib.hid l2
    have LQ3 := Lib.hid l3
    have LQ4 := Lib.hid l4
    have LQ5 := Lib.hid l5
    have LQ6 := Lib.hid l6
    have LQ7 := Lib.hid l7
    have LQ8 := Lib.hid l8
    have LQ9 := Lib.hid l9
    have LQ10 := Lib.hid l10
    have LQ11 := Lib.hid l11
    obtain ⟨sg, hsg⟩ : ∃ sg, sg = h.sg := ⟨_, rfl⟩
    rw [← hsg] at FS HSL HSB HQ
    obtain ⟨cs, hcs⟩ : ∃ cs, cs = hcells h := ⟨_, rfl⟩
    unfold hv at CM CA ⊢
    rw [hm] at CM
    rw [← hcs] at CM CA HL FB FS ⊢
    clear hm k hcs hsg PL l1 l2 l3 l4 l5 l6 l7 l8 l9 l10 l11 e2 e4 e8 hn0 hn1 hn2 hn3 hn4 hn5 hn6 hn7 hn8 hn9 hq1 hq2 hq3 hq4 hq5 hq6 hq7 hq8 hq9 hq10 hq11
    go_enter Tryd.func47, Tryd.ntmps47
    go_wp2_with (first
      | ((with_reducible show wpList _ _ _ (⟨some 1, _, _, _, _, _⟩ :: _) _ _); refine wpList_box_blk rfl _ (.tmp 0) rfl cs rfl ?_; intro g w1 hg1 hg2 B1 L1)
      | ((with_reducible show wpList _ _ _ (⟨some 6, _, _, _, _, _⟩ :: _) _ _); refine wpList_load_blk rfl _ (.tmp 1) rfl g rfl _ cs B1 26 _ Tryd.underlying49 rfl size_hd HL ?_)
      | fail)
    refine (CM.out _).mono ?_
    rintro e w2 ⟨rfl, L2⟩
    have B2 := Lib.hid (B1.out.over L2)
    have L12 := Lib.hid (step L1.out L2)
    have hgl := B2.out.lt
    clear B1 L1 L2 CM
    go_wp2_with (first
      | ((with_reducible show wpList _ _ _ (⟨some 9, _, _, _, _, _⟩ :: _) _ _); refine wpList_slice_blk rfl _ _ 4 _ rfl Tryd.underlying24 [.int .u8 254, .int .u8 83, .int .u8 77, .int .u8 66] (by kernel_rfl) ?_; intro gb w3 hb1 hb2 R3 L3)
      | fail)
    have hgw2 := L12.out.size
    have O3 : Hid (Own w3 gb (.slice (some ⟨gb, 0, none⟩) 4 4) q1) := by
      rw [P0.out]
      exact Fresh.own (.inr ⟨gb, rfl, Nat.le_refl _, R3.out⟩) rfl (by decide)
    have B3 := Lib.hid (B2.out.over L3.out)
    have L13 := Lib.hid (step L12.out L3.out)
    have hgb : g < gb := by omega
    have hwb : w.heap.size ≤ gb := by omega
    have hS3 : gb ≤ w3.heap.size := by omega
    clear R3 L3 B2 L12 hgl hgw2 hb1 hb2 P0
    go_wp2_with fail
    refine (C1.out _ gb _ q1 O3.out (by have := LQ1.out; omega) hS3).mono ?_
    rintro e w4 ⟨v4, rfl, ho, L⟩
    rw [P1.out] at ho
    have O4 := Lib.hid ho
    have B4 := Lib.hid (B3.out.below L hgb)
    have L14 := Lib.hid (L13.out.trans (L.mono hwb))
    have hS4 : gb ≤ w4.heap.size := Nat.le_trans hS3 L.size
    clear ho L O3 B3 L13 C1 P1
    have gd := (FB.out _ _ B4.out).1
    go_wp2_with fail
    refine (C2.out _ gb _ q2 O4.out (by have := LQ2.out; omega) hS4).mono ?_
    rintro e w5 ⟨v5, rfl, ho, L⟩
    rw [P2.out] at ho
    have O5 := Lib.hid ho
    have B5 := Lib.hid (B4.out.below L hgb)
    have L15 := Lib.hid (L14.out.trans (L.mono hwb))
    have hS5 : gb ≤ w5.heap.size := Nat.le_trans hS4 L.size
    clear ho L O4 B4 L14 C2 P2
    clear gd
    have gd := (FB.out _ _ B5.out).2.1
    go_wp2_with fail
    refine (C3.out _ gb _ q3 O5.out (by have := LQ3.out; omega) hS5).mono ?_
    rintro e w6 ⟨v6, rfl, ho, L⟩
    rw [P3.out] at ho
    have O6 := Lib.hid ho
    have B6 := Lib.hid (B5.out.below L hgb)
    have L16 := Lib.hid (L15.out.trans (L.mono hwb))
    have hS6 : gb ≤ w6.heap.size := Nat.le_trans hS5 L.size
    clear ho L O5 B5 L15 C3 P3
    clear gd
    have gd := (FB.out _ _ B6.out).2.2.1
    go_wp2_with fail
    refine (C4.out _ gb _ q4 O6.out (by have := LQ4.out; omega) hS6).mono ?_
    rintro e w7 ⟨v7, rfl, ho, L⟩
    rw [P4.out] at ho
    have O7 := Lib.hid ho
    have B7 := Lib.hid (B6.out.below L hgb)
    have L17 := Lib.hid (L16.out.trans (L.mono hwb))
    have hS7 : gb ≤ w7.heap.size := Nat.le_trans hS6 L.size
    clear ho L O6 B6 L16 C4 P4
    clear gd
    have gd := (FB.out _ _ B7.out).2.2.2.1
    go_wp2_with fail
    refine (C5.out _ gb _ q5 O7.out (by have := LQ5.out; omega) hS7).mono ?_
    rintro e w8 ⟨v8, rfl, ho, L⟩
    rw [P5.out] at ho
    have O8 := Lib.hid ho
    have B8 := Lib.hid (B7.out.below L hgb)
    have L18 := Lib.hid (L17.out.trans (L.mono hwb))
    have hS8 : gb ≤ w8.heap.size := Nat.le_trans hS7 L.size
    clear ho L O7 B7 L17 C5 P5
    clear gd
    have gd := (FB.out _ _ B8.out).2.2.2.2.1
    go_wp2_with fail
    refine (C6.out _ gb _ q6 O8.out (by have := LQ6.out; omega) hS8).mono ?_
    rintro e w9 ⟨v9, rfl, ho, L⟩
    rw [P6.out] at ho
    have O9 := Lib.hid ho
    have B9 := Lib.hid (B8.out.below L hgb)
    have L19 := Lib.hid (L18.out.trans (L.mono hwb))
    have hS9 : gb ≤ w9.heap.size := Nat.le_trans hS8 L.size
    clear ho L O8 B8 L18 C6 P6
    clear gd
    have gd := (FB.out _ _ B9.out).2.2.2.2.2.1
    go_wp2_with fail
    refine (C7.out _ gb _ q7 O9.out (by have := LQ7.out; omega) hS9).mono ?_
    rintro e w10 ⟨v10, rfl, ho, L⟩
    rw [P7.out] at ho
    have O10 := Lib.hid ho
    have B10 := Lib.hid (B9.out.below L hgb)
    have L110 := Lib.hid (L19.out.trans (L.mono hwb))
    have hS10 : gb ≤ w10.heap.size := Nat.le_trans hS9 L.size
    clear ho L O9 B9 L19 C7 P7
    clear gd
    have gd := (FB.out _ _ B10.out).2.2.2.2.2.2.1
    go_wp2_with fail
    refine (C8.out _ gb _ q8 O10.out (by have := LQ8.out; omega) hS10).mono ?_
    rintro e w11 ⟨v11, rfl, ho, L⟩
    rw [P8.out] at ho
    have O11 := Lib.hid ho
    have B11 := Lib.hid (B10.out.below L hgb)
    have L111 := Lib.hid (L110.out.trans (L.mono hwb))
    have hS11 : gb ≤ w11.heap.size := Nat.le_trans hS10 L.size
    clear ho L O10 B10 L110 C8 P8
    clear gd
    by_cases hi : isAs n4 = true
    · have PS' := Lib.hid (PS hi)
      rw [hi] at CA
      clear hi PS PT CZ CT
      go_wp2_with (first
        | ((with_reducible show wpList _ _ _ (⟨some 46, _, _, _, _, _⟩ :: _) _ _); refine wpList_load_blk rfl _ (.tmp 1) rfl g rfl _ cs B11 26 _ Tryd.underlying49 rfl size_hd HL ?_)
        | fail)
      refine (CA.out _).mono ?_
      rintro e w12 ⟨rfl, L⟩
      have O12 := Lib.hid (O11.out.below L)
      have B12 := Lib.hid (B11.out.over L)
      have L112 := Lib.hid (step L111.out L)
      have hS12 : gb ≤ w12.heap.size := Nat.le_trans hS11 L.size
      clear O11 B11 L111 L CA
      have gd := (FB.out _ _ B12.out).2.2.2.2.2.2.2.1
      go_wp2_with fail
      refine (CS.out _ gb _ q9 O12.out (by have := LQ9.out; omega) hS12).mono ?_
      rintro e w13 ⟨v13, rfl, ho, L⟩
      rw [PS'.out] at ho
      have O13 := Lib.hid ho
      have B13 := Lib.hid (B12.out.below L hgb)
      have L113 := Lib.hid (L112.out.trans (L.mono hwb))
      have hS13 : gb ≤ w13.heap.size := Nat.le_trans hS12 L.size
      clear ho L O12 B12 L112 CS
      clear gd
      have gd := (FB.out _ _ B13.out).2.2.2.2.2.2.2.2.2
      go_wp2_with fail
      refine (CE.out _ gb _ q10 O13.out (by have := LQ10.out; omega) hS13).mono ?_
      rintro e w14 ⟨v14, rfl, ho, L⟩
      rw [PE.out] at ho
      have O14 := Lib.hid ho
      have B14 := Lib.hid (B13.out.below L hgb)
      have L114 := Lib.hid (L113.out.trans (L.mono hwb))
      have hS14 : gb ≤ w14.heap.size := Nat.le_trans hS13 L.size
      clear ho L O13 B13 L113 CE
      clear gd
      go_wp2_with fail
      go_loopw [4, 5] (fun v i wr => ∃ k : Nat, k ≤ 16 ∧ i = .int .i64 k ∧ Hid (Own wr gb v (q11 ++ sg.take k)) ∧ Hid (Blk wr g 49 cs) ∧ Hid (Below w.heap.size w wr) ∧ gb ≤ wr.heap.size) (fun _ i _ => 16 - (intOf i).toNat)
      case atStart => exact ⟨0, Nat.zero_le _, rfl, by show Own _ _ _ _; simpa using O14.out, B14, L114, hS14⟩
      case round =>
        clear O14 B14 L114 hS14
        obtain ⟨k, hk, rfl, HO, HB1, HL1, hs⟩ := hrel
        by_cases hlt : k < 16
        · have gc := FS.out _ _ HB1.out k hlt
          have hy1 := HSB.out.getD k
          have hS : Hid (∀ y, y = sg.getD k 0 → q11 ++ sg.take k ++ [y] = q11 ++ sg.take (k + 1)) := fun y hy => by
            have h16 := HSL.out
            rw [List.append_assoc, List.take_succ_eq_append_getElem (by omega), hy]
            simp [show k < sg.length by omega]
          have HLN : Hid ((q11 ++ sg.take k).length ≤ 100) := by
            show _ ≤ _
            have h11 := LQ11.out
            rw [List.length_append, List.length_take]
            omega
          obtain ⟨y, hy⟩ : ∃ y, y = sg.getD k 0 := ⟨_, rfl⟩
          rw [← hy] at gc hy1
          have HY := Lib.hid (hS.out y hy)
          obtain ⟨rs, hrs⟩ : ∃ rs, rs = q11 ++ sg.take k := ⟨_, rfl⟩
          rw [← hrs] at HO HY HLN
          have HLM : Hid (rs.length + [y].length ≤ 140737488355328) := by
            show _ ≤ _
            have := HLN.out
            simp
            omega
          have HBY : Hid (Bytes [y]) := fun x hx => by rcases List.mem_singleton.1 hx with rfl; exact hy1
          clear hy hrs hS hy1
          go_wp2_with (first
            | ((with_reducible show wpList _ _ _ (⟨some 72, _, _, _, _, _⟩ :: _) _ _); refine wpList_slice_blk rfl _ _ 1 _ rfl Tryd.underlying24 [.int .u8 y] (by kernel_rfl) ?_; intro gx wx hx1 hx2 RX LX; have HX : Hid (Holds wx wx.heap.size (some ⟨gx, 0, none⟩) 1 1 [y]) := Fresh.holds (base := gx) (xs := [y]) (.inr ⟨gx, rfl, Nat.le_refl _, RX.out⟩) rfl HBY.out (by decide); have HOX := Lib.hid (HO.out.below LX.out); have hsx := LX.out.size)
            | (at_builtin; refine wpList_append_bytes rfl (.tmp 67) (.tmp 72) rfl gb _ rs rfl HOX.out _ (some ⟨gx, 0, none⟩) 1 1 [y] rfl HX.out HLM.out (by omega) ?_; intro v2 w2 ho2 hb2 hgr))
          rw [HY.out] at ho2
          have B2 : Hid (Blk w2 g 49 cs) := (HB1.out.over LX.out).below hb2 hgb
          have L2 : Hid (Below w.heap.size w w2) := (step HL1.out LX.out).trans (hb2.mono hwb)
          have hs2 := hb2.size
          go_roundw
          case rel => exact ⟨k + 1, by omega, by go_num, ho2, B2, L2, by omega⟩
          case measure => simp [intOf]; omega
        · obtain rfl : k = 16 := by omega
          have hE : sg.take 16 = sg := List.take_of_length_le (by rw [HSL.out]; omega)
          rw [hE] at HO
          clear hE
          go_wp2
          go_ret2
          exact HQ.out _ _ ⟨_, rfl, HO.out.mono hwb, HL1.out⟩
    · have hi' : isAs n4 = false := by simpa using hi
      have PT' := Lib.hid (PT hi')
      rw [hi'] at CA
      clear hi hi' PS PT CS
      go_wp2_with (first
        | ((with_reducible show wpList _ _ _ (⟨some 46, _, _, _, _, _⟩ :: _) _ _); refine wpList_load_blk rfl _ (.tmp 1) rfl g rfl _ cs B11 26 _ Tryd.underlying49 rfl size_hd HL ?_)
        | fail)
      refine (CA.out _).mono ?_
      rintro e w12 ⟨rfl, L⟩
      have O12 := Lib.hid (O11.out.below L)
      have B12 := Lib.hid (B11.out.over L)
      have L112 := Lib.hid (step L111.out L)
      have hS12 : gb ≤ w12.heap.size := Nat.le_trans hS11 L.size
      clear O11 B11 L111 L CA
      go_wp2_with fail
      refine (CZ.out _ gb _ q9 O12.out (by have := LQ9.out; omega) hS12).mono ?_
      rintro e w13 ⟨v13, rfl, ho, L⟩
      have O13 := Lib.hid ho
      have B13 := Lib.hid (B12.out.below L hgb)
      have L113 := Lib.hid (L112.out.trans (L.mono hwb))
      have hS13 : gb ≤ w13.heap.size := Nat.le_trans hS12 L.size
      clear ho L O12 B12 L112 CZ
      have hr9 : (q9 ++ le 0 4).length ≤ 1000 := by have := LQ9.out; rw [List.length_append, le_length]; omega
      obtain ⟨r9, hr⟩ : ∃ r9, r9 = q9 ++ le 0 4 := ⟨_, rfl⟩
      rw [← hr] at O13 PT' hr9
      have gd := (FB.out _ _ B13.out).2.2.2.2.2.2.2.2.1
      clear hr
      go_wp2_with fail
      refine (CT.out _ gb _ r9 O13.out (by exact hr9) hS13).mono ?_
      rintro e w14 ⟨v14, rfl, ho, L⟩
      rw [PT'.out] at ho
      have O14 := Lib.hid ho
      have B14 := Lib.hid (B13.out.below L hgb)
      have L114 := Lib.hid (L113.out.trans (L.mono hwb))
      have hS14 : gb ≤ w14.heap.size := Nat.le_trans hS13 L.size
      clear ho L O13 B13 L113 CT
      clear gd
      have gd := (FB.out _ _ B14.out).2.2.2.2.2.2.2.2.2
      go_wp2_with fail
      refine (CE.out _ gb _ q10 O14.out (by have := LQ10.out; omega) hS14).mono ?_
      rintro e w15 ⟨v15, rfl, ho, L⟩
      rw [PE.out] at ho
      have O15 := Lib.hid ho
      have B15 := Lib.hid (B14.out.below L hgb)
      have L115 := Lib.hid (L114.out.trans (L.mono hwb))
      have hS15 : gb ≤ w15.heap.size := Nat.le_trans hS14 L.size
      clear ho L O14 B14 L114 CE
      clear gd
      go_wp2_with fail
      go_loopw [4, 5] (fun v i wr => ∃ k : Nat, k ≤ 16 ∧ i = .int .i64 k ∧ Hid (Own wr gb v (q11 ++ sg.take k)) ∧ Hid (Blk wr g 49 cs) ∧ Hid (Below w.heap.size w wr) ∧ gb ≤ wr.heap.size) (fun _ i _ => 16 - (intOf i).toNat)
      case atStart => exact ⟨0, Nat.zero_le _, rfl, by show Own _ _ _ _; simpa using O15.out, B15, L115, hS15⟩
      case round =>
        clear O15 B15 L115 hS15
        obtain ⟨k, hk, rfl, HO, HB1, HL1, hs⟩ := hrel
        by_cases hlt : k < 16
        · have gc := FS.out _ _ HB1.out k hlt
          have hy1 := HSB.out.getD k
          have hS : Hid (∀ y, y = sg.getD k 0 → q11 ++ sg.take k ++ [y] = q11 ++ sg.take (k + 1)) := fun y hy => by
            have h16 := HSL.out
            rw [List.append_assoc, List.take_succ_eq_append_getElem (by omega), hy]
            simp [show k < sg.length by omega]
          have HLN : Hid ((q11 ++ sg.take k).length ≤ 100) := by
            show _ ≤ _
            have h11 := LQ11.out
            rw [List.length_append, List.length_take]
            omega
          obtain ⟨y, hy⟩ : ∃ y, y = sg.getD k 0 := ⟨_, rfl⟩
          rw [← hy] at gc hy1
          have HY := Lib.hid (hS.out y hy)
          obtain ⟨rs, hrs⟩ : ∃ rs, rs = q11 ++ sg.take k := ⟨_, rfl⟩
          rw [← hrs] at HO HY HLN
          have HLM : Hid (rs.length + [y].length ≤ 140737488355328) := by
            show _ ≤ _
            have := HLN.out
            simp
            omega
          have HBY : Hid (Bytes [y]) := fun x hx => by rcases List.mem_singleton.1 hx with rfl; exact hy1
          clear hy hrs hS hy1
          go_wp2_with (first
            | ((with_reducible show wpList _ _ _ (⟨some 72, _, _, _, _, _⟩ :: _) _ _); refine wpList_slice_blk rfl _ _ 1 _ rfl Tryd.underlying24 [.int .u8 y] (by kernel_rfl) ?_; intro gx wx hx1 hx2 RX LX; have HX : Hid (Holds wx wx.heap.size (some ⟨gx, 0, none⟩) 1 1 [y]) := Fresh.holds (base := gx) (xs := [y]) (.inr ⟨gx, rfl, Nat.le_refl _, RX.out⟩) rfl HBY.out (by decide); have HOX := Lib.hid (HO.out.below LX.out); have hsx := LX.out.size)
            | (at_builtin; refine wpList_append_bytes rfl (.tmp 67) (.tmp 72) rfl gb _ rs rfl HOX.out _ (some ⟨gx, 0, none⟩) 1 1 [y] rfl HX.out HLM.out (by omega) ?_; intro v2 w2 ho2 hb2 hgr))
          rw [HY.out] at ho2
          have B2 : Hid (Blk w2 g 49 cs) := (HB1.out.over LX.out).below hb2 hgb
          have L2 : Hid (Below w.heap.size w w2) := (step HL1.out LX.out).trans (hb2.mono hwb)
          have hs2 := hb2.size
          go_roundw
          case rel => exact ⟨k + 1, by omega, by go_num, ho2, B2, L2, by omega⟩
          case measure => simp [intOf]; omega
        · obtain rfl : k = 16 := by omega
          have hE : sg.take 16 = sg := List.take_of_length_le (by rw [HSL.out]; omega)
          rw [hE] at HO
          clear hE
          go_wp2
          go_ret2
          exact HQ.out _ _ ⟨_, rfl, HO.out.mono hwb, HL1.out⟩
  · have hm' : mayP h = false := by simpa using hm
    have HQ : Hid (∀ (e : Ending) (w' : World), (e = .returned (.tuple #[.slice none 0 0, .int .i64 2]) ∧ Below w.heap.size w w') → ∃ v, e = .returned (.tuple #[v, .int .i64 (putErrH h)]) ∧ Own w' w.heap.size v (putOfH h) ∧ Below w.heap.size w w') := by
      rintro e w' ⟨rfl, hb⟩
      unfold putOfH putErrH
      rw [if_neg hm, if_neg hm]
      exact ⟨_, rfl, Own.nil _ _, hb⟩
    rw [hm'] at CM
    obtain ⟨cs, hcs⟩ : ∃ cs, cs = hcells h := ⟨_, rfl⟩
    unfold hv at CM ⊢
    rw [← hcs] at CM HL ⊢
    clear hm hm' k hcs
    go_enter Tryd.func47, Tryd.ntmps47
    go_wp2_with (first
      | ((with_reducible show wpList _ _ _ (⟨some 1, _, _, _, _, _⟩ :: _) _ _); refine wpList_box_blk rfl _ (.tmp 0) rfl cs rfl ?_; intro g w1 hg1 hg2 B1 L1)
      | ((with_reducible show wpList _ _ _ (⟨some 6, _, _, _, _, _⟩ :: _) _ _); refine wpList_load_blk rfl _ (.tmp 1) rfl g rfl _ cs B1 26 _ Tryd.underlying49 rfl size_hd HL ?_)
      | fail)
    refine (CM.out _).mono ?_
    rintro e w2 ⟨rfl, L2⟩
    go_wp2
    go_ret2
    exact HQ.out _ _ ⟨rfl, step L1.out L2⟩
end Go.Proofs.YtgfflnjggnadpaaDoor

namespace Go.Proofs.YtgfflnjggnadpaaDoor
set_option linter.all false
set_option maxRecDepth 100000
open Go.RowKit
/-- what Put answers of a head that may be -/
theorem put_may (w : World) (h : Hd) (k : h.ok) (hm : mayP h = true) : Calls Tryd.prog 50 #[hv h] w fun e w' => ∃ A', e = .returned (.tuple #[.slice A' 64 64, .int .i64 0]) ∧ Fresh w' w.heap.size A' (putH h) ∧ Below w.heap.size w w' := by
  have h1 := PutH_any w h k
  unfold PutHPost putOfH putErrH at h1
  rwa [if_pos hm, if_pos hm, putH_len k.len] at h1
end Go.Proofs.YtgfflnjggnadpaaDoor

namespace Go.Proofs.YtgfflnjggnadpaaDoor
set_option linter.all false
open Go.RowKit
theorem Own.only {w w' : World} {base g : Nat} {v : Value} {xs : List Int} (h : Own w base v xs) (hO : Only g w w') (hg : g < base) : Own w' base v xs := by
  refine ⟨h.1, ?_⟩
  rcases h.2 with h0 | ⟨q, cap, cur, rfl, h1, hq, rest⟩
  · exact .inl h0
  · exact .inr ⟨q, cap, cur, rfl, h1, (hO.rest q (by omega)).trans hq, rest⟩
theorem Own.holds_at {w : World} {base n c : Nat} {A : Option Addr} {xs : List Int} (h : Own w base (.slice A n c) xs) (hl : xs.length = n) (hx : Bytes xs) (hn : n ≤ 281474976710656) : Holds w w.heap.size A n c xs := by
  obtain ⟨A1, c1, e, hh⟩ := h.holds hx (by omega)
  rw [hl] at e hh
  injection e with e1 e2 e3
  subst e1
  subst e3
  exact hh
end Go.Proofs.YtgfflnjggnadpaaDoor

namespace Go.Proofs.YtgfflnjggnadpaaDoor
set_option linter.all false
open Go.RowKit
theorem World.setCells_only (g : Nat) : ∀ (vs : List Value) (o : Nat) (w : World), Only g w (w.setCells g o vs)
  | [], _, w => Only.refl g w
  | v :: r, o, w => by
    have h1 := only_setCell w g o v
    have h2 := World.setCells_only g r (o + 1) (w.setCell ⟨g, o, none⟩ v)
    exact ⟨h2.os.trans h1.os, h2.tape.trans h1.tape, h2.output.trans h1.output, h2.size.trans h1.size, fun i hi => (h2.rest i hi).trans (h1.rest i hi)⟩
theorem Blk.setCells {g : Nat} {T : TypeId} : ∀ (vs : List Value) (o : Nat) (w : World) (cs : List Value), Blk w g T cs → o + vs.length ≤ cs.length → Blk (w.setCells g o vs) g T (cs.take o ++ (vs ++ cs.drop (o + vs.length)))
  | [], o, w, cs, h, _ => by
    show Blk w g T _
    rw [List.nil_append, List.length_nil, Nat.add_zero, List.take_append_drop]
    exact h
  | v :: r, o, w, cs, h, hl => by
    have hl' : o + 1 + r.length ≤ cs.length := by simp at hl; omega
    have h1 := h.set o v
    have h2 := Blk.setCells r (o + 1) _ _ h1 (by rw [List.length_set]; exact hl')
    have e : (cs.set o v).take (o + 1) ++ (r ++ (cs.set o v).drop (o + 1 + r.length)) = cs.take o ++ ((v :: r) ++ cs.drop (o + (v :: r).length)) := by
      have ho : o < cs.length := by omega
      have e1 : (cs.set o v).take (o + 1) = cs.take o ++ [v] := by
        rw [List.take_succ_eq_append_getElem (by rw [List.length_set]; exact ho), List.take_set_of_le (Nat.le_refl o)]
        simp
      have e2 : (cs.set o v).drop (o + 1 + r.length) = cs.drop (o + (v :: r).length) := by
        rw [List.drop_set_of_lt (by omega), List.length_cons]
        congr 1
        omega
      rw [e1, e2]
      simp
    rw [e] at h2
    exact h2
section
variable {P : Program} {ops : Array Oper} {rest : List Oper} {o : Oper} {a : Act} {w : World} {Q : Exit → Act → World → Prop}
theorem there_blk {g : Nat} {T : TypeId} {cs : List Value} (h : Blk w g T cs) (i n : Nat) (hn : i + n ≤ cs.length) : w.there g i n := fun j hj => by
  refine ⟨?_, h.frozen _⟩
  rw [h.cell]
  have : i + j < cs.length := by omega
  simp [this]
/-- an array into the midst -/
theorem wpList_store_midb (hgd : o.guard = none) (ty : TypeId) (x y : Operand) (ho : o.op = .store ty x y) (g i : Nat) (hx : a.eval x = .pointer (some ⟨g, i, none⟩)) (T : TypeId) (cs vs : List Value) (hy : a.eval y = .agg vs.toArray)
    (hA : Hid (Blk w g T cs)) (n : Nat) (hi : (P.info? ty).map (·.size) = some n) (hn : Hid (vs.length = n)) (hl : Hid (i + n ≤ cs.length)) (h1 : Hid (∀ v ∈ vs, v.oneCell' = true))
    (h : ∀ w', Hid (Blk w' g T (cs.take i ++ (vs ++ cs.drop (i + n)))) → Hid (Only g w w') → g < w'.heap.size → wpList P ops Q rest a w') (hd : o.dst = none := by rfl) : wpList P ops Q (o :: rest) a w := by
  have hp : a.put o.dst undef = a := by rw [hd]; rfl
  have hnn := hn.out
  refine wpList_store_mid hgd ty x y ho g i vs.toArray hx hy (there_blk hA.out i _ (by have := hl.out; simp; omega)) (by rw [hi]; simp [hnn]) (all_oneCell_toArray h1.out) ?_
  rw [hp]
  have hb := Blk.setCells vs i w cs hA.out (by have := hl.out; omega)
  rw [hnn] at hb
  have hO := World.setCells_only g vs i w
  refine h _ hb hO ?_
  have := hO.size
  rw [show (w.setCells g i vs.toArray.toList) = w.setCells g i vs from rfl, this]
  exact hA.out.lt
end
end Go.Proofs.YtgfflnjggnadpaaDoor

namespace Go.Proofs.YtgfflnjggnadpaaDoor
set_option linter.all false
set_option maxRecDepth 100000
open Go.RowKit
set_option linter.unusedVariables false
set_option maxHeartbeats 1000000 in
theorem Clone_any (w : World) (A : Option Addr) (n c : Nat) (xs : List Int) (h : Holds w w.heap.size A n c xs) (hn : n ≤ 140737488355328) :
    Calls Tryd.prog 34 #[.slice A n c] w fun e w' => ∃ v, e = .returned v ∧ OwnZ .u8 5 w' w.heap.size v xs ∧ Below w.heap.size w w' := by
  have q24 : ∀ (w : World) (a : Option Addr) (n c n' c' : Nat), (binOp .eql 24 (.slice a n c) (.slice none n' c')).run Tryd.prog w = .ok (.bool a.isNone) w := fun w a n c n' c' => Lib.run_eql_slice_nil w _ _ a n c n' c' Tryd.underlying24
  rcases A with _ | ad
  · have hc := h.bare rfl
    have hf := h.fit
    have hl := h.len
    obtain rfl : n = 0 := by omega
    subst hc
    obtain rfl : xs = [] := List.eq_nil_of_length_eq_zero hl
    clear h hf hl hn
    go_enter Tryd.func34, Tryd.ntmps34
    go_wp2_with fail
    go_ret
    exact ⟨_, rfl, OwnZ.nil _ _ _ _, Below.refl _ _⟩
  · have HL := Lib.hid h.len
    have ho : Hid (OwnZ .u8 5 (w.alloc (.cells #[] 5)) w.heap.size (.slice (some ⟨w.heap.size, 0, none⟩) 0 0) []) := .inr ⟨w.heap.size, 0, rfl, Nat.le_refl _, by simp, heap_alloc_new w _⟩
    have hb : Hid (Below w.heap.size w (w.alloc (.cells #[] 5))) := (Below.refl _ w).alloc (Nat.le_refl _) _
    have HH : Hid (Holds (w.alloc (.cells #[] 5)) w.heap.size (some ad) n c xs) := h.below hb.out
    have hs : Hid (w.heap.size ≤ (w.alloc (.cells #[] 5)).heap.size) := by show _ ≤ _; simp
    clear h
    go_enter Tryd.func34, Tryd.ntmps34
    go_wp2_with (first
      | (at_builtin; refine wpList_append_bytesZ rfl (.tmp 5) (.tmp 6) rfl w.heap.size _ [] rfl ho.out w.heap.size (some ad) n c xs rfl HH.out (by rw [HL.out]; simpa using hn) hs.out ?_; intro v2 w2 ho2 hb2)
      | fail)
    go_ret
    exact ⟨_, rfl, by have := ho2.out; simpa using this, hb.out.trans hb2⟩
/-- what Next answers -/
def NextPost (w : World) (xs : List Int) (e : Ending) (w' : World) : Prop := e = .returned (.tuple #[.int .i64 (getOfH xs 0).nx, .int .i64 (getErrH xs 0)]) ∧ Below w.heap.size w w'
set_option maxHeartbeats 1000000 in
theorem NextC_any (w : World) (A : Option Addr) (n c : Nat) (xs : List Int) (h : Holds w w.heap.size A n c xs) :
    Calls Tryd.prog 19 #[.slice A n c] w (NextPost w xs) := by
  have cg := GetH_any w A n c xs 0 h (by omega)
  unfold GetHPost at cg
  have hk := getOfH_ok xs 0 h.byte
  unfold NextPost
  obtain ⟨g, hg⟩ : ∃ g, g = getOfH xs 0 := ⟨_, rfl⟩
  obtain ⟨er, her⟩ : ∃ er, er = getErrH xs 0 := ⟨_, rfl⟩
  rw [← hg, ← her] at cg
  rw [← hg] at hk
  rw [← hg, ← her]
  have HL := Lib.hid (hcells_len hk)
  have HO := Lib.hid (hcells_one g)
  have HZ := Lib.hid (hcells_len zeroHd_ok)
  have ZH := Lib.hid zero_hd
  obtain ⟨n0, n1⟩ := hk.nx
  have F5 : Hid (∀ (w : World) (q : Nat), Blk w q 49 (hcells g) → w.cell? ⟨q, 5, none⟩ = some (.int .u32 g.nx)) := fun w q B => HB.c5 B
  obtain ⟨nx, hnx⟩ : ∃ nx, nx = g.nx := ⟨_, rfl⟩
  obtain ⟨cs, hcs⟩ : ∃ cs, cs = hcells g := ⟨_, rfl⟩
  obtain ⟨zs, hzs⟩ : ∃ zs, zs = hcells zeroHd := ⟨_, rfl⟩
  unfold hv at cg
  rw [← hcs] at cg HL HO F5
  rw [← hnx] at n0 n1 F5 ⊢
  rw [← hzs] at HZ ZH
  have CG := Lib.hid cg
  clear cg hg her hk hnx hcs hzs h
  go_enter Tryd.func19, Tryd.ntmps19
  go_wp2_with fail
  refine CG.out.mono ?_
  rintro e w1 ⟨rfl, L1⟩
  go_wp2_with (first
    | ((with_reducible show wpList _ _ _ (⟨some 4, _, _, _, _, _⟩ :: _) _ _); refine wpList_alloc_blk rfl _ rfl zs _ ZH ?_; intro g4 w5 hg41 hg42 X4 L5)
    | ((with_reducible show wpList _ _ _ (⟨none, .store _ (.tmp 4) _, _, _, _, _⟩ :: _) _ _); refine wpList_store_blk rfl _ (.tmp 4) (.tmp 9) rfl g4 rfl _ zs cs rfl X4 26 size_hd HZ HL HO ?_; intro w6 X6 O6 hg6; have gc := F5.out _ _ X6.out)
    | fail)
  go_ret2
  exact ⟨rfl, step L1 (below_only L5.out O6.out hg41)⟩
end Go.Proofs.YtgfflnjggnadpaaDoor

namespace Go.Proofs.YtgfflnjggnadpaaDoor
set_option linter.all false
open Go.RowKit
/-! ### two rows of one kind, in blocks of their own -/

/-- the two slices head different blocks -/
def Apart (v u : Value) : Prop := ∀ i, v.ownBlock = some i → u.ownBlock ≠ some i
theorem Apart.nil (u : Value) : Apart (.slice none 0 0) u := fun i h => by cases h
theorem Apart.symm {v u : Value} (h : Apart v u) : Apart u v := fun i hu hv => h i hv hu
section
variable {k k' : IntKind} {e e' : TypeId} {w w' : World} {base base' : Nat} {v v' u : Value} {xs ys : List Int}
theorem OwnK.lt (h : OwnK k e w base v xs) {i : Nat} (hi : v.ownBlock = some i) : i < w.heap.size := (World.ownsRow.lt h i hi).2
theorem Grew.apart (hg : Grew w w' v) (h' : OwnK k' e' w base' u ys) (ha : Apart v u) : OwnK k' e' w' base' u ys :=
  h'.keep fun i cs hi hcs => by rw [hg.block hcs fun hv => ha i hv hi, hcs]
theorem OwnK.grown (h' : OwnK k' e' w base' u ys) (hg : w.grownBy w' v.ownBlock) (ha : Apart v u) : OwnK k' e' w' base' u ys :=
  h'.keep fun i _ hi hcs => hg.block i (Array.getElem?_eq_some_iff.1 hcs).1 fun he => ha i he.symm hi
/-- where the new slice heads: the old block, or a new one -/
def Whither (w : World) (v v' : Value) : Prop := v'.ownBlock = v.ownBlock ∨ ∃ g, v'.ownBlock = some g ∧ w.heap.size ≤ g
end
theorem run_append_whither {P : Program} (w : World) (t ty e : TypeId) (i : TypeInfo) (z : Value) (bytes : Nat) (ht : P.underlying t = some (.slice e)) (hi : P.info? e = some i) (hz : i.zero = some z) (hsize : i.size = 1) (hby : i.bytes = bytes) (hzs : z.cells.size = 1)
    (base : Nat) (v : Value) (n : Nat) (xs : List Value) (hown : w.ownsRow base e 1 v n xs) (a : Addr) (m c : Nat) (news : List Value) (hl : news.length = m * 1) (hnews : ∀ j u, news[j]? = some u → w.cell? (a.add j) = some u) (h1 : ∀ u ∈ news, u.oneCell' = true)
    (h63 : n + m ≤ maxLen) (hbytes : (n + m) * bytes ≤ 140737488355328) (hbase : base ≤ w.heap.size) :
    ∃ v' w', (Builtin.append_ #[t, t] ty #[v, .slice (some a) m c]).run P w = .ok v' w' ∧ w'.ownsRow base e 1 v' (n + m) (xs ++ news) ∧ w.grownBy w' v.ownBlock ∧ Whither w v v' := by
  obtain ⟨v', w', hr, ho, hg, hnil⟩ := run_append_own (P := P) w base t ty e i z 1 bytes ht hi hz hsize hby hzs (by omega) v n xs hown a m c news hl hnews h1 h63 hbytes hbase
  refine ⟨v', w', hr, ho, hg, ?_⟩
  have hsmall : n + m ≤ 9223372036854775807 := by simp only [maxLen] at h63; omega
  rcases hown.2 with ⟨rfl, rfl⟩ | ⟨g, cap, cur, rfl, hbg, hgg, hnc, hcm, hcs, htake⟩
  · have hx : xs = [] := List.eq_nil_of_length_eq_zero (by simpa using hown.1)
    subst hx
    obtain ⟨v2, w2, hr2, ho2, _, _⟩ := run_append_own (P := P) w w.heap.size t ty e i z 1 bytes ht hi hz hsize hby hzs (by omega) (.slice none 0 0) 0 [] (World.ownsRow_nil w _ e 1) a m c news hl hnews h1 h63 hbytes (Nat.le_refl _)
    rw [hr] at hr2
    injection hr2 with e1 e2
    subst e1 e2
    rcases ho2.2 with ⟨rfl, _⟩ | ⟨g, cap, cur, rfl, hb, _⟩
    · exact .inl rfl
    · exact .inr ⟨g, rfl, hb⟩
  · by_cases hroom : n + m ≤ cap
    · have hfit : n * i.size + news.length ≤ cur.size := by rw [hl, hcs, hsize]; omega
      have hr2 := run_append_room (P := P) w t ty e i ht hi g n cap cur hgg a m c news (by rw [hl, hsize]) hnews h1 hroom hfit
      rw [hr] at hr2
      injection hr2 with e1 e2
      subst e1
      exact .inl rfl
    · have holds : ∀ j u, xs[j]? = some u → w.cell? ((⟨g, 0, none⟩ : Addr).add j) = some u := hown.cells (g := g) rfl
      have hr2 := run_append_grow (P := P) w t ty e i z ht hi hz ⟨g, 0, none⟩ n cap xs (by rw [hsize]; exact hown.1) holds a m c news (by rw [hl, hsize]) hnews (by omega) (by omega) (growslice_fits (by omega) (by rw [hby]; exact hbytes))
      rw [hr] at hr2
      injection hr2 with e1 e2
      subst e1
      exact .inr ⟨_, rfl, Nat.le_refl _⟩
end Go.Proofs.YtgfflnjggnadpaaDoor

namespace Go.Proofs.YtgfflnjggnadpaaDoor
set_option linter.all false
open Go.RowKit
/-- block b is a variable of type T that holds v -/
def Box (w : World) (b : Nat) (T : TypeId) (v : Value) : Prop := w.heap[b]? = some (.cells #[v] T (0, 0))
/-- nothing but block b and v's own row may have turned, of what was there -/
structure Turned (w w' : World) (b : Nat) (v : Value) : Prop where
  os : w'.os = w.os
  tape : w'.tape = w.tape
  output : w'.output = w.output
  size : w.heap.size ≤ w'.heap.size
  rest : ∀ i, i < w.heap.size → i ≠ b → v.ownBlock ≠ some i → w'.heap[i]? = w.heap[i]?
section
variable {w w' w2 : World} {b b' base base' : Nat} {T T' e : TypeId} {v v' u : Value} {k : IntKind} {xs : List Int}
theorem Box.lt (h : Box w b T v) : b < w.heap.size := lt_of_block h
theorem Box.cell (h : Box w b T v) : w.cell? ⟨b, 0, none⟩ = some v := cell_of_one h
theorem Box.frozen (h : Box w b T v) : w.frozen? ⟨b, 0, none⟩ = false := free_of_one h
theorem Box.below (h : Box w b T v) (hb : Below w.heap.size w w') : Box w' b T v := (hb.block b h.lt).trans h
theorem Box.alloc (h : Box w b T v) (o : Obj) : Box (w.alloc o) b T v := (Below.heap_alloc _ _ _ h.lt).trans h
theorem Box.only (h : Box w b T v) (hO : Only b' w w') (hb : b ≠ b') : Box w' b T v := (hO.rest b hb).trans h
theorem Box.own (h : Box w b T v) (hu : OwnK k e w base u xs) (hT : T ≠ e) : u.ownBlock ≠ some b := fun hv => by
  obtain ⟨_, cs, hcs⟩ := hu.block hv
  unfold Box at h
  rw [hcs] at h
  simp only [Option.some.injEq, Obj.cells.injEq] at h
  exact hT h.2.1.symm
theorem OwnK.only (h : OwnK k e w base v xs) (hO : Only b w w') (hB : Box w b T u) (hT : T ≠ e) : OwnK k e w' base v xs :=
  h.keep fun i _ hi _ => hO.rest i fun he => hB.own h hT (he ▸ hi)
theorem Turned.refl (w : World) (b : Nat) (v : Value) : Turned w w b v := ⟨rfl, rfl, rfl, Nat.le_refl _, fun _ _ _ _ => rfl⟩
theorem Whither.refl (w : World) (v : Value) : Whither w v v := .inl rfl
theorem Whither.trans (h : Whither w v v') (h2 : Whither w' v' u) (hs : w.heap.size ≤ w'.heap.size) : Whither w v u := by
  rcases h2 with h2 | ⟨g, h2, h3⟩
  · rcases h with h | ⟨g, h, h4⟩
    · exact .inl (h2.trans h)
    · exact .inr ⟨g, h2.trans h, h4⟩
  · exact .inr ⟨g, h2, by omega⟩
/-- an append onto the row that the variable heads, and a store of what it answers -/
theorem Turned.append (ht : Turned w w' b v) (hw : Whither w v v') (hg : Grew w' w2 v') {w3 : World} (hO : Only b w2 w3) : Turned w w3 b v := by
  obtain ⟨o, hg⟩ := hg
  have hs := hg.size
  have ha : (w'.alloc o).heap.size = w'.heap.size + 1 := by simp
  refine ⟨hO.os.trans (hg.os.trans ht.os), hO.tape.trans (hg.tape.trans ht.tape), hO.output.trans (hg.output.trans ht.output), by rw [hO.size]; have := ht.size; omega, fun i hi hb hv => ?_⟩
  have hsz := ht.size
  rw [hO.rest i hb, hg.block i (by omega) ?_, Below.heap_alloc _ _ _ (by omega), ht.rest i hi hb hv]
  rintro he
  rcases hw with h | ⟨g, h, h4⟩
  · exact hv (h ▸ he.symm)
  · rw [h] at he
    injection he with he
    omega
theorem Turned.trans (ht : Turned w w' b v) (hw : Whither w v v') (ht2 : Turned w' w2 b v') : Turned w w2 b v := by
  have hsz := ht.size
  refine ⟨ht2.os.trans ht.os, ht2.tape.trans ht.tape, ht2.output.trans ht.output, by have := ht2.size; omega, fun i hi hb hv => ?_⟩
  rw [ht2.rest i (by omega) hb ?_, ht.rest i hi hb hv]
  intro he
  rcases hw with h | ⟨g, h, h4⟩
  · exact hv (h ▸ he)
  · rw [h] at he
    injection he with he
    omega
theorem Turned.below (ht : Turned w w' b v) (hbb : base ≤ b) (ho : OwnK k e w base v xs) (hs : base ≤ w.heap.size) : Below base w w' :=
  ⟨ht.os, ht.tape, ht.output, ht.size, fun i hi => ht.rest i (by omega) (by omega) fun hv => by
    have := (ho.block hv).1
    omega⟩
end
end Go.Proofs.YtgfflnjggnadpaaDoor

namespace Go.Proofs.YtgfflnjggnadpaaDoor
set_option linter.all false
open Go.RowKit Go.ChangeShapes Go.WideShapes
/-- the slice value v is nil, or heads a row in a block from 'base' on that begins with the elements xs -/
def OwnF {α : Type} (f : α → Value) (e : TypeId) (w : World) (base : Nat) (v : Value) (xs : List α) : Prop := w.ownsRow base e 1 v xs.length (xs.map f)
/-- the slice value '.slice A n c' holds the elements xs, in memory below block B -/
structure HoldsF {α : Type} (f : α → Value) (w : World) (B : Nat) (A : Option Addr) (n c : Nat) (xs : List α) : Prop where
  len : xs.length = n
  fit : n ≤ c
  bare : A = none → c = 0
  cells : 0 < n → ∃ b off, A = some ⟨b, off, none⟩ ∧ b < B ∧ ∀ i x, xs[i]? = some x → w.cell? ⟨b, off + i, none⟩ = some (f x)
section
variable {α : Type} {f : α → Value} {w w' w2 : World} {B B' base base' b : Nat} {A : Option Addr} {n c : Nat} {xs ys : List α} {e e' T : TypeId} {v v' u : Value}
theorem HoldsF.keep (h : HoldsF f w B A n c xs) (hk : ∀ p : Addr, p.block < B → w'.cell? p = w.cell? p) : HoldsF f w' B A n c xs :=
  ⟨h.len, h.fit, h.bare, fun hn => by
    obtain ⟨b, off, e, hb, hc⟩ := h.cells hn
    exact ⟨b, off, e, hb, fun i x hi => (hk _ hb).trans (hc i x hi)⟩⟩
theorem HoldsF.mono (h : HoldsF f w B A n c xs) (hB : B ≤ B') : HoldsF f w B' A n c xs :=
  ⟨h.len, h.fit, h.bare, fun hn => by
    obtain ⟨b, off, e, hb, hc⟩ := h.cells hn
    exact ⟨b, off, e, by omega, hc⟩⟩
theorem HoldsF.below (h : HoldsF f w B A n c xs) (hb : Below B w w') : HoldsF f w' B A n c xs := h.keep fun _ hp => hb.cell hp
theorem HoldsF.over (h : HoldsF f w w.heap.size A n c xs) (hb : Below w.heap.size w w') : HoldsF f w' w'.heap.size A n c xs := (h.below hb).mono hb.size
theorem HoldsF.head (h : HoldsF f w B A c c xs) (hn : n ≤ c) : HoldsF f w B A n c (xs.take n) :=
  ⟨by have := h.len; simp; omega, hn, h.bare, fun h0 => by
    obtain ⟨b, off, rfl, hb, hc⟩ := h.cells (by omega)
    refine ⟨b, off, rfl, hb, fun i x hi => hc i x ?_⟩
    rw [List.getElem?_take] at hi
    split at hi
    · exact hi
    · cases hi⟩
theorem HoldsF.nil (f : α → Value) (w : World) (B : Nat) : HoldsF f w B none 0 0 [] := ⟨rfl, Nat.le_refl _, fun _ => rfl, fun h => absurd h (by omega)⟩
theorem OwnF.nil (f : α → Value) (e : TypeId) (w : World) (base : Nat) : OwnF f e w base (.slice none 0 0) [] := World.ownsRow_nil w base e 1
theorem OwnF.mono (h : OwnF f e w base v xs) (hb : base' ≤ base) : OwnF f e w base' v xs := by
  refine ⟨h.1, ?_⟩
  rcases h.2 with h0 | ⟨g, cap, cur, rfl, h1, rest⟩
  · exact .inl h0
  · exact .inr ⟨g, cap, cur, rfl, by omega, rest⟩
theorem OwnF.keep (h : OwnF f e w base v xs) (hk : ∀ i cs, v.ownBlock = some i → w.heap[i]? = some (.cells cs e (0, 0)) → w'.heap[i]? = w.heap[i]?) : OwnF f e w' base v xs := by
  refine ⟨h.1, ?_⟩
  rcases h.2 with h0 | ⟨g, cap, cur, rfl, h1, hg, rest⟩
  · exact .inl h0
  · exact .inr ⟨g, cap, cur, rfl, h1, (hk g cur rfl hg).trans hg, rest⟩
theorem OwnF.below (h : OwnF f e w base v xs) (hb : Below w.heap.size w w') : OwnF f e w' base v xs := h.keep fun i _ _ hi => hb.block i (Array.getElem?_eq_some_iff.1 hi).1
theorem OwnF.alloc (h : OwnF f e w base v xs) (o : Obj) : OwnF f e (w.alloc o) base v xs := World.ownsRow.alloc h o
theorem OwnF.block (h : OwnF f e w base v xs) {i : Nat} (hi : v.ownBlock = some i) : base ≤ i ∧ ∃ cs, w.heap[i]? = some (.cells cs e (0, 0)) := by
  rcases h.2 with ⟨rfl, _⟩ | ⟨g, cap, cur, rfl, h1, hg, rest⟩
  · cases hi
  · simp only [Value.ownBlock, Option.some.injEq] at hi
    subst hi
    exact ⟨h1, cur, hg⟩
theorem OwnF.lt (h : OwnF f e w base v xs) {i : Nat} (hi : v.ownBlock = some i) : i < w.heap.size := (World.ownsRow.lt h i hi).2
/-- what such a row reads as -/
theorem OwnF.open (h : OwnF f e w base v xs) : ∃ A n c, v = .slice A n c ∧ xs.length = n ∧ n ≤ c ∧ n ≤ 9223372036854775807 ∧ (A = none → c = 0) ∧
    (0 < n → ∃ g, A = some ⟨g, 0, none⟩ ∧ base ≤ g ∧ g < w.heap.size ∧ ∀ i x, xs[i]? = some x → w.cell? ⟨g, i, none⟩ = some (f x)) := by
  rcases h.2 with ⟨rfl, h0⟩ | ⟨g, cap, cur, rfl, hb, hg, hnc, hcm, hcs, htk⟩
  · exact ⟨none, 0, 0, rfl, h0, Nat.le_refl _, by omega, fun _ => rfl, fun h => absurd h (by omega)⟩
  · refine ⟨_, _, _, rfl, rfl, hnc, by unfold maxLen at hcm; omega, fun hA => (by cases hA), fun h0 => ⟨g, rfl, hb, (Array.getElem?_eq_some_iff.1 hg).1, fun i x hi => ?_⟩⟩
    have hil : i < xs.length := (List.getElem?_eq_some_iff.1 hi).1
    rw [cell_of_row w g i cur e (0, 0) hg]
    have e1 : cur[i]? = (cur.toList.take (xs.length * 1))[i]? := by
      rw [List.getElem?_take, if_pos (by omega), Array.getElem?_toList]
    rw [e1, htk, List.getElem?_map, hi]
    rfl
theorem OwnF.holds (h : OwnF f e w base v xs) : ∃ A n c, v = .slice A n c ∧ HoldsF f w w.heap.size A n c xs := by
  obtain ⟨A, n, c, rfl, hl, hf, _, hA, hc⟩ := h.open
  refine ⟨A, n, c, rfl, hl, hf, hA, fun h0 => ?_⟩
  obtain ⟨g, rfl, _, hg, hcc⟩ := hc h0
  exact ⟨g, 0, rfl, hg, fun i x hi => by rw [Nat.zero_add]; exact hcc i x hi⟩
theorem OwnF.cut0 (h : OwnF f e w base (.slice A n c) xs) : OwnF f e w base (.slice A 0 c) [] := by
  refine ⟨rfl, ?_⟩
  rcases h.2 with ⟨h1, _⟩ | ⟨g, cap, cur, h1, hb, hg, hnc, hcm, hcs, htk⟩
  · cases h1
    exact .inl ⟨rfl, rfl⟩
  · cases h1
    exact .inr ⟨g, c, cur, rfl, hb, hg, Nat.zero_le _, hcm, hcs, by simp⟩
theorem OwnF.only (h : OwnF f e w base v xs) (hO : Only b w w') (hB : Box w b T u) (hT : T ≠ e) : OwnF f e w' base v xs :=
  h.keep fun i cs _ hcs => hO.rest i fun he => by
    subst he
    unfold Box at hB
    rw [hB] at hcs
    simp only [Option.some.injEq, Obj.cells.injEq] at hcs
    exact hT hcs.2.1
theorem Grew.belowF (hg : Grew w w' v) (h : OwnF f e w base v xs) (hb : base ≤ w.heap.size) : Below base w w' := by
  obtain ⟨o, hg⟩ := hg
  exact ((Below.refl base w).alloc hb o).grown hg (by simp; omega) fun i hi => (h.block hi).1
end
section
variable {α : Type} {f : α → Value} {P : Program} {w : World} {ops : Array Oper} {rest : List Oper} {o : Oper} {a : Act} {Q : Exit → Act → World → Prop}
/-- append(l, xs..), the new ones lying in a block of their own that has just been laid, onto a row of the call's own; where the new slice heads is told -/
theorem wpList_append_litF (hgd : o.guard = none) (s x : Operand) (f : α → Value) (hf : ∀ y, (f y).oneCell' = true) (z : Value) (hzc : z.cells.size = 1) (T e : TypeId) (bytes : Nat)
    (ht : P.underlying T = some (.slice e)) (hi : (P.info? e).map (fun i => (i.zero, i.size, i.bytes)) = some (some z, 1, bytes))
    (ho : o.op = .call { callee := .builtin .append, args := #[s, x], argTypes := #[T, T] })
    (base : Nat) (v : Value) (xs ys : List α) (cs : Array Value) (hcs : cs = (ys.map f).toArray) (m c : Nat) (hm : ys.length = m) (hs : a.eval s = v) (hx : a.eval x = .slice (some ⟨w.heap.size, 0, none⟩) m c)
    (hown : OwnF f e w base v xs) (hlen : (xs.length + m) * bytes ≤ 140737488355328) (h63 : xs.length + m ≤ 9223372036854775807) (hbase : base ≤ w.heap.size)
    (h : ∀ v' w', Hid (OwnF f e w' base v' (xs ++ ys)) → Hid (Grew w w' v) → Hid (Whither w v v') → wpList P ops Q rest (a.put o.dst v') w') :
    wpList P ops Q (o :: rest) a (w.alloc (.cells cs e)) := by
  obtain ⟨i0, hi0, hz0, hz1, hz2⟩ := info_parts hi
  subst hcs
  have hr : (w.alloc (.cells (ys.map f).toArray e)).heap[w.heap.size]? = some (.cells (ys.map f).toArray e (0, 0)) := heap_alloc_new w _
  obtain ⟨v', w', hrun, ho', hg', hwh⟩ := run_append_whither (P := P) (w.alloc (.cells (ys.map f).toArray e)) T o.type e i0 z bytes ht hi0 hz0 hz1 hz2 hzc base v xs.length (xs.map f) (OwnF.alloc hown _) ⟨w.heap.size, 0, none⟩ m c (ys.map f) (by simp [hm])
    (fun j y hj => by
      have e1 : (⟨w.heap.size, 0, none⟩ : Addr).add j = ⟨w.heap.size, j, none⟩ := by
        by_cases hj0 : j = 0
        · subst hj0; simp [Addr.add]
        · simp [Addr.add, hj0]
      rw [e1, cell_of_row _ w.heap.size j _ e (0, 0) hr, ← hj]
      simp)
    (by intro v hv; obtain ⟨x, _, rfl⟩ := List.mem_map.1 hv; exact hf x) (by unfold maxLen; omega) hlen (by simp; omega)
  refine wpList_plain hgd fun K hK => ?_
  unfold Oper.wp execOp
  simp only [ho, resolve, invoke, builtin, Sem.run_bind, Sem.run_pure, Result.andThen_ok, List.map_toArray, List.map_cons, List.map_nil, hs, hx, hrun]
  refine hK _ _ (h v' w' ?_ ⟨_, hg'⟩ ?_)
  · show World.ownsRow _ _ _ _ _ _ _
    rw [List.length_append, List.map_append, hm]
    exact ho'
  · rcases hwh with h1 | ⟨g, h1, h2⟩
    · exact .inl h1
    · exact .inr ⟨g, h1, by simp at h2; omega⟩
end
section
variable {H : Type} {enc : TypeId × Value → H} {P : Program} {W : World} {base : Nat} {t e : TypeId} {v : Value} {d : DataW H} {p : List MemPlace}
end
end Go.Proofs.YtgfflnjggnadpaaDoor

namespace Go.Proofs.YtgfflnjggnadpaaDoor
set_option linter.all false
open Go.RowKit
section
variable {α : Type} {f : α → Value} {P : Program} {w : World} {ops : Array Oper} {rest : List Oper} {o : Oper} {a : Act} {Q : Exit → Act → World → Prop}
end
section
variable {α : Type} {f : α → Value} {e : TypeId} {w : World} {base g n c : Nat} {xs : List α}
theorem OwnF.heap (h : OwnF f e w base (.slice (some ⟨g, 0, none⟩) n c) xs) : base ≤ g ∧ xs.length = n ∧ ∃ cur : Array Value, w.heap[g]? = some (.cells cur e (0, 0)) ∧ n ≤ cur.size ∧ cur.toList.take n = xs.map f ∧ n ≤ c ∧ c ≤ maxLen ∧ cur.size = c := by
  rcases h.2 with ⟨h0, _⟩ | ⟨g', cap, cur, hv, hb, hg, hnc, hcm, hcs, htk⟩
  · cases h0
  · simp only [Value.slice.injEq, Option.some.injEq, Addr.mk.injEq, and_true] at hv
    obtain ⟨rfl, hn, rfl⟩ := hv
    rw [Nat.mul_one] at htk hcs
    exact ⟨hb, hn.symm, cur, hg, by omega, by rw [hn]; exact htk, by omega, hcm, hcs⟩
theorem OwnF.set (h : OwnF f e w base (.slice (some ⟨g, 0, none⟩) n c) xs) (i : Nat) (u : α) : OwnF f e (w.setCell ⟨g, i, none⟩ (f u)) base (.slice (some ⟨g, 0, none⟩) n c) (xs.set i u) := by
  obtain ⟨hb, hn, cur, hg, hns, htk, hnc, hcm, hcs⟩ := h.heap
  have h1 := heap_setCell_same w g i cur e (f u) hg
  have hl : (xs.set i u).length = n := by rw [List.length_set, hn]
  refine ⟨by simp, .inr ⟨g, c, _, by rw [hl], hb, h1, by rw [hl]; exact hnc, hcm, by simp [hcs], ?_⟩⟩
  rw [hl, Nat.mul_one, Array.toList_setIfInBounds, List.take_set, htk, List.map_set]
theorem OwnF.frozen (h : OwnF f e w base (.slice (some ⟨g, 0, none⟩) n c) xs) (i : Nat) : w.frozen? ⟨g, i, none⟩ = false := by
  obtain ⟨_, _, cur, hg, _⟩ := h.heap
  exact frozen_of_row w g i _ e hg
theorem OwnF.cell (h : OwnF f e w base (.slice (some ⟨g, 0, none⟩) n c) xs) {i : Nat} {x : α} (hi : xs[i]? = some x) : w.cell? ⟨g, i, none⟩ = some (f x) := by
  obtain ⟨_, hn, cur, hg, hns, htk, _⟩ := h.heap
  have hl := (List.getElem?_eq_some_iff.1 hi).1
  rw [cell_of_row w g i cur e (0, 0) hg]
  have e1 : cur[i]? = (cur.toList.take n)[i]? := by
    rw [List.getElem?_take, if_pos (by omega), Array.getElem?_toList]
  rw [e1, htk, List.getElem?_map, hi]
  rfl
end
section
open Go.ChangeShapes Go.WideShapes
variable {H : Type} {enc : TypeId × Value → H} {P : Program} {W : World} {base : Nat} {t e : TypeId} {v : Value} {d : DataW H} {p : List MemPlace}
end
end Go.Proofs.YtgfflnjggnadpaaDoor

namespace Go.Proofs.YtgfflnjggnadpaaDoor
set_option linter.all false
open Go.RowKit Go.ChangeShapes Go.WideShapes
set_option linter.unusedVariables false
/-- the slice value '.slice A n c' holds rows of bytes, in memory below block B -/
structure Lst (w : World) (B : Nat) (A : Option Addr) (n c : Nat) (ps : List PartT) : Prop where
  row : HoldsF partV w B A n c ps
  each : ∀ p ∈ ps, Holds w B p.1 p.2.1 p.2.2.1 p.2.2.2
/-- what the rows hold -/
def rowsL (ps : List PartT) : List (List Int) := ps.map (·.2.2.2)
section
variable {w w' : World} {B B' : Nat} {A : Option Addr} {n c : Nat} {ps : List PartT}
theorem Lst.below (h : Lst w B A n c ps) (hb : Below B w w') : Lst w' B A n c ps := ⟨h.row.below hb, fun p hp => (h.each p hp).below hb⟩
theorem Lst.mono (h : Lst w B A n c ps) (hB : B ≤ B') : Lst w B' A n c ps := ⟨h.row.mono hB, fun p hp => (h.each p hp).mono hB⟩
theorem Lst.over (h : Lst w w.heap.size A n c ps) (hb : Below w.heap.size w w') : Lst w' w'.heap.size A n c ps := (h.below hb).mono hb.size
theorem HoldsF.drewL {α : Type} {f : α → Value} {xs : List α} (h : HoldsF f w B A n c xs) (k : Nat) : HoldsF f (w.drewN k) B A n c xs := h.keep fun _ _ => rfl
theorem Lst.drewN (h : Lst w B A n c ps) (k : Nat) : Lst (w.drewN k) B A n c ps := ⟨h.row.drewL k, fun p hp => (h.each p hp).drewN k⟩
theorem Lst.head (h : Lst w B A c c ps) (hn : n ≤ c) : Lst w B A n c (ps.take n) := ⟨h.row.head hn, fun p hp => h.each p (List.mem_of_mem_take hp)⟩
theorem Lst.nil (w : World) (B : Nat) : Lst w B none 0 0 [] := ⟨HoldsF.nil _ _ _, fun p hp => by cases hp⟩
/-- the cell of one row -/
theorem Lst.at (h : Lst w B A n c ps) {i : Nat} (hi : i < n) : ∃ b off p, A = some ⟨b, off, none⟩ ∧ b < B ∧ ps[i]? = some p ∧ w.cell? ⟨b, off + i, none⟩ = some (.slice p.1 p.2.1 p.2.2.1) ∧ Holds w B p.1 p.2.1 p.2.2.1 p.2.2.2 := by
  obtain ⟨b, off, e, hb, hc⟩ := h.row.cells (by omega)
  have hl := h.row.len
  have hp : ps[i]? = some ps[i] := List.getElem?_eq_getElem (by omega)
  exact ⟨b, off, ps[i], e, hb, hp, hc i _ hp, h.each _ (List.getElem_mem _)⟩
end
section
variable {H : Type} {enc : TypeId × Value → H} {P : Program} {W : World} {base : Nat} {t e q : TypeId} {v : Value} {d : DataW H} {p : List MemPlace}
end
end Go.Proofs.YtgfflnjggnadpaaDoor

namespace Go.Proofs.YtgfflnjggnadpaaDoor
set_option linter.all false
open Go.RowKit
set_option linter.unusedVariables false
/-- a row of the call's own; Z: with noughts behind it -/
def OwnB (Z : Bool) (w : World) (base : Nat) (v : Value) (xs : List Int) : Prop := OwnK .u8 5 w base v xs ∧ (Z = true → OwnZ .u8 5 w base v xs)
structure OLst (Z : Bool) (w : World) (base : Nat) (v : Value) (ps : List PartT) : Prop where
  row : OwnF partV 24 w base v ps
  each : ∀ p ∈ ps, OwnB Z w base (partV p) p.2.2.2 ∧ Bytes p.2.2.2 ∧ p.2.2.2.length ≤ 140737488355328
  apart : ps.Pairwise fun p q => ∀ i, (partV p).ownBlock = some i → (partV q).ownBlock ≠ some i
section
variable {Z : Bool} {w w' w0 : World} {base base' : Nat} {v v' : Value} {xs : List Int} {ps : List PartT}
theorem OwnB.of_z (h : OwnZ .u8 5 w base v xs) (Z : Bool) : OwnB Z w base v xs := ⟨h.own, fun _ => h⟩
theorem OwnB.keep (h : OwnB Z w base v xs) (hk : ∀ i cs, v.ownBlock = some i → w.heap[i]? = some (.cells cs 5 (0, 0)) → w'.heap[i]? = w.heap[i]?) : OwnB Z w' base v xs := ⟨h.1.keep hk, fun z => (h.2 z).keep hk⟩
theorem OwnB.below (h : OwnB Z w base v xs) (hb : Below w.heap.size w w') : OwnB Z w' base v xs := h.keep fun i _ _ hi => hb.block i (Array.getElem?_eq_some_iff.1 hi).1
theorem OwnB.mono (h : OwnB Z w base v xs) (hb : base' ≤ base) : OwnB Z w base' v xs := ⟨h.1.mono hb, fun z => (h.2 z).mono hb⟩
theorem OwnB.holds {p : PartT} (h : OwnB Z w base (partV p) p.2.2.2) (hx : Bytes p.2.2.2) (hn : p.2.2.2.length ≤ 140737488355328) : Holds w w.heap.size p.1 p.2.1 p.2.2.1 p.2.2.2 := by
  obtain ⟨A1, c1, e, hh⟩ := Own.holds (show Own w base (partV p) p.2.2.2 from h.1) hx (by omega)
  unfold partV at e
  injection e with e1 e2 e3
  rw [e1, e2, e3]
  exact hh
theorem OLst.nil (Z : Bool) (w : World) (base : Nat) : OLst Z w base (.slice none 0 0) [] := ⟨OwnF.nil _ _ _ _, (fun p h => by cases h), List.Pairwise.nil⟩
theorem OLst.below (h : OLst Z w base v ps) (hb : Below w.heap.size w w') : OLst Z w' base v ps :=
  ⟨h.row.below hb, fun p hp => ⟨(h.each p hp).1.below hb, (h.each p hp).2⟩, h.apart⟩
theorem OLst.mono (h : OLst Z w base v ps) (hb : base' ≤ base) : OLst Z w base' v ps :=
  ⟨h.row.mono hb, fun p hp => ⟨(h.each p hp).1.mono hb, (h.each p hp).2⟩, h.apart⟩
theorem OLst.lst (h : OLst Z w base v ps) : ∃ A n c, v = .slice A n c ∧ Lst w w.heap.size A n c ps := by
  obtain ⟨A, n, c, rfl, hh⟩ := h.row.holds
  exact ⟨A, n, c, rfl, hh, fun p hp => (h.each p hp).1.holds (h.each p hp).2.1 (h.each p hp).2.2⟩
theorem Grew.otherB (hg : Grew w w' v) (h : OwnF partV 24 w base v ps) {u : Value} (h' : OwnB Z w base' u xs) : OwnB Z w' base' u xs :=
  h'.keep fun i cs hi hcs => by
    rw [hg.block hcs fun hv => ?_, hcs]
    obtain ⟨_, cs', hcs'⟩ := h.block hv
    rw [hcs'] at hcs
    have hne : 24 ≠ 5 := by decide
    simp only [Option.some.injEq, Obj.cells.injEq] at hcs
    exact absurd hcs.2.1 hne
end
theorem info_bytes : (Tryd.prog.info? 24).map (fun i => (i.zero, i.size, i.bytes)) = some (some (.slice none 0 0), 1, 24) := by kernel_rfl
section
variable {ops : Array Oper} {rest : List Oper} {o : Oper} {a : Act} {w w0 : World} {Q : Exit → Act → World → Prop}
/-- append(l, row), the row made by the call behind w0, its literal in a block of its own that has just been laid -/
theorem wpList_append_rowK (hgd : o.guard = none) (s x : Operand) (ho : o.op = .call { callee := .builtin .append, args := #[s, x], argTypes := #[22, 22] })
    (Z : Bool) (base : Nat) (v : Value) (ps : List PartT) (p : PartT) (cs : Array Value) (hcs : cs = #[partV p]) (hs : a.eval s = v) (hx : a.eval x = .slice (some ⟨w.heap.size, 0, none⟩) 1 1)
    (hO : OLst Z w0 base v ps) (hb : Below w0.heap.size w0 w) (hp : OwnB Z w w0.heap.size (partV p) p.2.2.2) (hx1 : Bytes p.2.2.2) (hx2 : p.2.2.2.length ≤ 140737488355328) (hlen : ps.length ≤ 5864062014800) (hbase : base ≤ w0.heap.size)
    (h : ∀ v' w', Hid (OLst Z w' base v' (ps ++ [p])) → Hid (Below base w w') → Hid (Grew w w' v) → wpList Tryd.prog ops Q rest (a.put o.dst v') w') :
    wpList Tryd.prog ops Q (o :: rest) a (w.alloc (.cells cs 24)) := by
  have hO1 := hO.below hb
  have hb1 : base ≤ w.heap.size := Nat.le_trans hbase hb.size
  refine wpList_append_litF hgd s x partV (fun _ => rfl) (.slice none 0 0) rfl 22 24 24 Tryd.underlying22 info_bytes ho base v ps [p] cs hcs 1 1 rfl hs hx hO1.row (by omega) (by omega) hb1 ?_
  intro v' w' hown hgr hwh
  refine h v' w' ⟨hown.out, fun q hq => ?_, ?_⟩ (hgr.out.belowF hO1.row hb1) hgr
  · rcases List.mem_append.1 hq with hq | hq
    · exact ⟨hgr.out.otherB hO1.row (hO1.each q hq).1, (hO1.each q hq).2⟩
    · obtain rfl := List.mem_singleton.1 hq
      exact ⟨(hgr.out.otherB hO1.row hp).mono hbase, hx1, hx2⟩
  · refine List.pairwise_append.2 ⟨hO.apart, List.pairwise_singleton _ _, fun q hq r hr i hi hri => ?_⟩
    obtain rfl := List.mem_singleton.1 hr
    obtain ⟨_, cs1, h1⟩ := (hO.each q hq).1.1.block hi
    have h2 := (hp.1.block hri).1
    have := (Array.getElem?_eq_some_iff.1 h1).1
    omega
theorem wpList_append_row (hgd : o.guard = none) (s x : Operand) (ho : o.op = .call { callee := .builtin .append, args := #[s, x], argTypes := #[22, 22] })
    (Z : Bool) (base : Nat) (v : Value) (ps : List PartT) (p : PartT) (cs : Array Value) (hcs : cs = #[partV p]) (hs : a.eval s = v) (hx : a.eval x = .slice (some ⟨w.heap.size, 0, none⟩) 1 1)
    (hO : OLst Z w0 base v ps) (hb : Below w0.heap.size w0 w) (hp : OwnB Z w w0.heap.size (partV p) p.2.2.2) (hx1 : Bytes p.2.2.2) (hx2 : p.2.2.2.length ≤ 140737488355328) (hlen : ps.length ≤ 5864062014800) (hbase : base ≤ w0.heap.size)
    (h : ∀ v' w', Hid (OLst Z w' base v' (ps ++ [p])) → Hid (Below base w w') → wpList Tryd.prog ops Q rest (a.put o.dst v') w') :
    wpList Tryd.prog ops Q (o :: rest) a (w.alloc (.cells cs 24)) :=
  wpList_append_rowK hgd s x ho Z base v ps p cs hcs hs hx hO hb hp hx1 hx2 hlen hbase fun v' w' h1 h2 _ => h v' w' h1 h2
end
end Go.Proofs.YtgfflnjggnadpaaDoor
