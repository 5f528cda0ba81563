/-
  Layer 14 (extent): Read of the program's file (written by tools/gen_exx.py).
-/
import Derived.Test.YtgbhnnobbciemaaExQ
namespace Go.Proofs.Ytgbhnnobbciemaa
set_option maxRecDepth 100000
open Go.RowKit
set_option linter.unusedVariables false

theorem yieldsIf_slice {P : Program} {ops : Array Oper} {S : World → Prop} {op : Oper} {a : Act} (hw : Region.wanted op (yielded ops a.tmps) = true) (T : TypeId) (x lo hi : Operand) (ho : op.op = .slice T x (some lo) (some hi) none) (u l h v : Value) (hx : a.eval x = u) (hl : a.eval lo = l) (hh : a.eval hi = h)
    (hf : ∀ w, (Instr.sliceAt T u (some l) (some h) none).run P w = .ok v w) : YieldsIf P ops S op v a :=
  .inl ⟨hw, fun w _ => by
    unfold execOp
    simp only [ho, hx, hl, hh, Option.map_some, Option.map_none, Sem.run_bind, hf, Result.andThen_ok, Sem.run_pure]⟩
/-- some of a list of extents, sliced out of it -/
theorem slice_ext (w : World) (B : Nat) (A : Option Addr) (n c f h : Nat) (l : List ExtV) (hl : LExt w B A n c l) (hfh : f ≤ h) (hhn : h ≤ n) (hc : c ≤ maxLen) :
    ∃ A5 c5, (∀ w, (Instr.sliceAt 38 (.slice A n c) (some (.int .i64 (f : Nat))) (some (.int .i64 (h : Nat))) none).run Try.prog w = .ok (.slice A5 (h - f) c5) w) ∧ LExt w B A5 (h - f) c5 ((l.take h).drop f) := by
  have hlen := hl.len
  have hnc := hl.row.fit
  unfold maxLen at hc
  have e1 : (h : Int) ≤ (c : Int) := by omega
  have e2 : (f : Int) ≤ (h : Int) := by omega
  have hll : ((l.take h).drop f).length = h - f := by rw [List.length_drop, List.length_take]; omega
  have heach : ∀ x ∈ (l.take h).drop f, Holds w B x.2.1 x.2.2.1 x.2.2.2.1 x.2.2.2.2 := fun x hx => hl.each x (List.mem_of_mem_take (List.mem_of_mem_drop hx))
  rcases A with _ | ad
  · have h0 := hl.row.bare rfl
    obtain rfl : n = 0 := by omega
    obtain rfl : h = 0 := by omega
    obtain rfl : f = 0 := by omega
    subst h0
    refine ⟨none, 0, fun w => by go_simp, ⟨hll, Nat.le_refl _, fun _ => rfl, fun h => absurd h (Nat.lt_irrefl _)⟩, heach⟩
  · obtain ⟨g, off, sp⟩ := ad
    by_cases hcf : c = f
    · obtain rfl : h = f := by omega
      have hcf' : c = h := hcf
      refine ⟨some ⟨g, off, sp⟩, 0, fun w => by go_simp, ⟨hll, by omega, fun h => (by cases h), fun h => absurd h (by omega)⟩, heach⟩
    · have hn0 : 0 < n ∨ n = 0 := by omega
      rcases hn0 with hn0 | hn0
      · obtain ⟨b', off', e, hb, hcl⟩ := hl.row.cells hn0
        injection e with e
        injection e with e3 e4 e5
        subst e3 e4 e5
        refine ⟨some ⟨g, off + f * 2, none⟩, c - f, fun w => by go_simp, ⟨hll, by omega, fun h => (by cases h), fun h0 => ⟨g, off + f * 2, rfl, hb, fun i x hi j u hj => ?_⟩⟩, heach⟩
        obtain ⟨h1, h2⟩ := sub_at hi
        have := hcl _ _ h2 _ _ hj
        rw [show off + f * 2 + (i * 2 + j) = off + ((f + i) * 2 + j) by omega]
        exact this
      · obtain rfl : h = 0 := by omega
        obtain rfl : f = 0 := by omega
        subst hn0
        refine ⟨some ⟨g, off, sp⟩, c, fun w => by go_simp, ⟨hll, by omega, fun h => (by cases h), fun h => absurd h (Nat.lt_irrefl _)⟩, heach⟩
theorem Row.ownZ {w : World} {g base n : Nat} {xs : List Int} (h : Row w g xs) (hb : base ≤ g) (hn : xs.length = n) (hm : n ≤ maxLen) : OwnZ .u8 5 w base (.slice (some ⟨g, 0, none⟩) n n) xs :=
  .inr ⟨g, 0, by rw [hn]; rfl, hb, by rw [hn]; exact hm, by rw [List.replicate_zero, List.append_nil]; exact h⟩
theorem PDat.lens {w : World} {base q : Nat} {v : Value} {l : List ExtV} {B : List Int} {Z : List Bool} (h : PDat w base q v l B Z) : ∀ x ∈ l, x.2.2.2.2.length = x.2.2.1 := by
  obtain ⟨A, n, c, _, hx⟩ := h.lst
  exact fun x hx' => (hx.each x hx').len
theorem PDat.ends {w : World} {base q : Nat} {v : Value} {l : List ExtV} {B : List Int} {Z : List Bool} (h : PDat w base q v l B Z) : ∀ x ∈ l, x.1 + x.2.2.1 ≤ B.length := fun x hx => by
  have := h.can.ends _ (extsL_mem hx)
  rw [← h.lens x hx]
  exact this
/-- pieces that end ahead of a place, and those that don't; that begin ahead of one, and those that don't -/
theorem PDat.halfE {w : World} {base q : Nat} {v : Value} {l : List ExtV} {B : List Int} {Z : List Bool} (h : PDat w base q v l B Z) (a : Int) : ∃ k, k ≤ l.length ∧ (∀ (i : Nat) x, i < k → l[i]? = some x → ¬ a < ((x.1 + x.2.2.1 : Nat) : Int)) ∧ ∀ (i : Nat) x, k ≤ i → l[i]? = some x → a < ((x.1 + x.2.2.1 : Nat) : Int) := by
  obtain ⟨k, h1, h2, h3⟩ := halves (fun x : ExtV => decide (a < ((x.1 + x.2.2.1 : Nat) : Int))) l fun i j x y hij hx hy hp => by
    have h4 := h.can.lt (extsL_get hx) (extsL_get hy) hij
    have h5 := h.lens x (List.mem_of_getElem? hx)
    have h6 := of_decide_eq_true hp
    simp only at h4
    exact decide_eq_true (by omega)
  exact ⟨k, h1, fun i x hi hx => of_decide_eq_false (h2 i x hi hx), fun i x hi hx => of_decide_eq_true (h3 i x hi hx)⟩
theorem PDat.halfB {w : World} {base q : Nat} {v : Value} {l : List ExtV} {B : List Int} {Z : List Bool} (h : PDat w base q v l B Z) (a : Int) : ∃ k, k ≤ l.length ∧ (∀ (i : Nat) x, i < k → l[i]? = some x → ¬ a ≤ (x.1 : Int)) ∧ ∀ (i : Nat) x, k ≤ i → l[i]? = some x → a ≤ (x.1 : Int) := by
  obtain ⟨k, h1, h2, h3⟩ := halves (fun x : ExtV => decide (a ≤ (x.1 : Int))) l fun i j x y hij hx hy hp => by
    have h4 := h.can.lt (extsL_get hx) (extsL_get hy) hij
    have h6 := of_decide_eq_true hp
    simp only at h4
    exact decide_eq_true (by omega)
  exact ⟨k, h1, fun i x hi hx => of_decide_eq_false (h2 i x hi hx), fun i x hi hx => of_decide_eq_true (h3 i x hi hx)⟩

def PRdPost (w : World) (B : List Int) (a k : Int) (e : Ending) (w' : World) : Prop :=
  ∃ v, e = .returned (.tuple #[v, .int .i64 (exRdE B.length a k)]) ∧ OwnZ .u8 5 w' w.heap.size v (exRd B a k) ∧ Below w.heap.size w w'
set_option maxHeartbeats 8000000 in
theorem PRead_any (w : World) (base q : Nat) (v : Value) (l : List ExtV) (B : List Int) (Z : List Bool) (d : PDat w base q v l B Z) (a k : Int) (ha : -9223372036854775808 ≤ a ∧ a ≤ 9223372036854775807) (hk : -9223372036854775808 ≤ k ∧ k ≤ 9223372036854775807) :
    Calls Try.prog 13 #[ptr q, .int .i64 a, .int .i64 k] w (PRdPost w B a k) := by
  unfold PRdPost ptr
  have hsm := d.small
  have q0 : w.cell? ⟨q, 0, none⟩ = some (.bool true) := d.blk.cell 0
  have q1 : w.cell? ⟨q, 1, none⟩ = some (.int .i64 (B.length : Nat)) := d.blk.cell 1
  have hE : exRdE B.length a k = if a < 0 ∨ k < 0 then 2 else if k = 0 then 0 else if (B.length : Int) ≤ a then 22 else 0 := rfl
  have hO : exRd B a k = if exRdE B.length a k = 0 then (B.drop a.toNat).take k.toNat else [] := rfl
  obtain ⟨a0, a1⟩ := ha
  obtain ⟨k0, k1⟩ := hk
  have CN := Lib.hid (none_any w q q0)
  obtain ⟨L, hL⟩ : ∃ n, n = B.length := ⟨_, rfl⟩
  rw [← hL] at hE hO q1 hsm ⊢
  rw [hO]
  have D := Lib.hid d
  have HLL := Lib.hid hL
  clear d hO hL
  by_cases h1 : a < 0
  · rw [if_pos (.inl h1)] at hE
    rw [hE, if_neg (by decide)]
    clear hE
    go_enter Try.func13, Try.ntmps13
    go_wp2_with fail
    refine CN.out.mono ?_
    rintro e w1 ⟨rfl, rfl⟩
    go_wp2_with fail
    go_ret2
    exact ⟨_, rfl, OwnZ.nil _ _ _ _, Below.refl _ _⟩
  · by_cases h2 : k < 0
    · rw [if_pos (.inr h2)] at hE
      rw [hE, if_neg (by decide)]
      clear hE
      go_enter Try.func13, Try.ntmps13
      go_wp2_with fail
      refine CN.out.mono ?_
      rintro e w1 ⟨rfl, rfl⟩
      go_wp2_with fail
      go_ret2
      exact ⟨_, rfl, OwnZ.nil _ _ _ _, Below.refl _ _⟩
    · rw [if_neg (by omega)] at hE
      by_cases h3 : k = 0
      · subst h3
        rw [if_pos rfl] at hE
        rw [hE, if_pos rfl]
        clear hE
        have hq : (B.drop a.toNat).take (0 : Int).toNat = [] := by simp
        rw [hq]
        go_enter Try.func13, Try.ntmps13
        go_wp2_with fail
        refine CN.out.mono ?_
        rintro e w1 ⟨rfl, rfl⟩
        go_wp2_with fail
        go_ret2
        exact ⟨_, rfl, OwnZ.nil _ _ _ _, Below.refl _ _⟩
      · rw [if_neg h3] at hE
        have hk3 : (k == 0) = false := by simpa using h3
        by_cases h4 : (L : Int) ≤ a
        · rw [if_pos h4] at hE
          rw [hE, if_neg (by decide)]
          clear hE
          go_enter Try.func13, Try.ntmps13
          go_wp2_with fail
          refine CN.out.mono ?_
          rintro e w1 ⟨rfl, rfl⟩
          go_wp2_with fail
          go_ret2
          exact ⟨_, rfl, OwnZ.nil _ _ _ _, Below.refl _ _⟩
        · rw [if_neg h4] at hE
          rw [hE, if_pos rfl]
          clear hE
          obtain ⟨p, rfl⟩ := Int.eq_ofNat_of_zero_le (show 0 ≤ a by omega)
          obtain ⟨kn, rfl⟩ := Int.eq_ofNat_of_zero_le (show 0 ≤ k by omega)
          rw [Int.toNat_natCast, Int.toNat_natCast]
          obtain ⟨r, hr⟩ : ∃ r, r = L - p := ⟨_, rfl⟩
          obtain ⟨N, hN⟩ : ∃ N, N = min kn r := ⟨_, rfl⟩
          obtain ⟨t, ht⟩ : ∃ t, t = p + N := ⟨_, rfl⟩
          have hsub : (L : Int) - (p : Int) = (r : Int) := by omega
          have hmin : min (kn : Int) (r : Int) = (N : Int) := by omega
          have hadd : (p : Int) + (N : Int) = (t : Int) := by omega
          have hwad : IntKind.i64.wrap ((p : Int) + (N : Int)) = (t : Int) := by rw [IntKind.wrap_i64]; omega
          have htp : (t : Int) - (p : Int) = (N : Int) := by omega
          have hN0 : 0 < N := by omega
          have hNB : p + N ≤ L := by omega
          have hX : (B.drop p).take kn = (B.drop p).take N := by
            rw [hN]
            by_cases hq : kn ≤ r
            · rw [Nat.min_eq_left hq]
            · rw [Nat.min_eq_right (by omega), List.take_of_length_le (by rw [List.length_drop]; have := HLL.out; omega), List.take_of_length_le (by rw [List.length_drop]; have := HLL.out; omega)]
          rw [hX]
          obtain ⟨f, hf, f0, f1⟩ := D.out.halfE (p : Int)
          obtain ⟨h, hh, g0, g1⟩ := D.out.halfB (t : Int)
          rw [ht] at g0 g1
          obtain ⟨RD, RL, RX⟩ := rd_ok D.out.can D.out.lens D.out.zero hN0 (by rw [← HLL.out]; exact hNB) hf hh f0 f1 g0 g1
          rw [← ht] at g0 g1
          rw [← RX]
          have CF : Hid (∀ w2, Below w.heap.size w w2 → Calls Try.prog 29 #[.pointer (some ⟨q, 0, none⟩), .int .i64 (p : Nat)] w2 fun e w' => e = .returned (.int .i64 (f : Nat)) ∧ Below w2.heap.size w2 w') := fun w2 hb => ending_any w2 base q v l B Z (D.out.below hb) _ f hf f0 f1
          have CH : Hid (∀ w2, Below w.heap.size w w2 → Calls Try.prog 30 #[.pointer (some ⟨q, 0, none⟩), .int .i64 (t : Nat)] w2 fun e w' => e = .returned (.int .i64 (h : Nat)) ∧ Below w2.heap.size w2 w') := fun w2 hb => begin_any w2 base q v l B Z (D.out.below hb) _ h hh g0 g1
          obtain ⟨A, n, c, rfl, hx⟩ := D.out.lst
          have hnl := hx.len
          have q2 : w.cell? ⟨q, 2, none⟩ = some (.slice A n c) := D.out.blk.cell 2
          have hcm : c ≤ maxLen := by
            rcases D.out.row.2 with ⟨e1, _⟩ | ⟨_, cap, _, e1, _, _, _, e2, _⟩
            · injection e1 with _ _ e3
              rw [e3]
              exact Nat.zero_le _
            · injection e1 with _ _ e3
              rw [e3]
              exact e2
          obtain ⟨A5, c5, hsl, hlo⟩ := slice_ext w w.heap.size A n c f h l hx RD.fh (by omega) hcm
          have HSL := Lib.hid hsl
          have HLO := Lib.hid hlo
          have hhn : h ≤ n := by omega
          have hn65 : n ≤ 65536 := by have := D.out.lenS; omega
          have MEET := Lib.hid RD.meet
          have ENDS : Hid (∀ x ∈ (l.take h).drop f, x.1 + x.2.2.1 ≤ L ∧ x.2.2.1 ≤ x.2.2.2.1) := fun x hx' => by
            have hm := List.mem_of_mem_take (List.mem_of_mem_drop hx')
            exact ⟨by rw [HLL.out]; exact D.out.ends x hm, (hx.each x hm).fit⟩
          obtain ⟨lo, hlo'⟩ : ∃ lo, lo = (l.take h).drop f := ⟨_, rfl⟩
          rw [← hlo'] at HLO RL MEET ENDS ⊢
          have HRL := Lib.hid RL
          clear hsl hlo hlo' hx hX RX RL RD f0 f1 g0 g1 hN hr ht D hf hh
          have ZX := Lib.hid zero_ext2
          go_enter Try.func13, Try.ntmps13
          go_wp2_with fail
          refine CN.out.mono ?_
          rintro e w1 ⟨rfl, rfl⟩
          go_upto_region 11 with (first
            | ((with_reducible show wpList _ _ _ (⟨some 46, _, _, _, _, _⟩ :: _) _ _); go_loud (refine wpList_make_bytes _ rfl (.tmp 45) (.tmp 45) rfl _ _ N rfl rfl rfl rfl (by omega) ?_); intro w2 R2 l2)
            | fail)
          obtain ⟨hb, hhb⟩ : ∃ x, x = w.heap.size := ⟨_, rfl⟩
          have L2 := Lib.hid l2
          have k2 : w2.cell? ⟨q, 2, none⟩ = some (.slice A n c) := (l2.cell (lt_of_cell q2)).trans q2
          rw [← hhb] at R2 ⊢
          have hwb : Hid (w.heap.size ≤ hb) := by rw [hhb]; exact Nat.le_refl _
          have hbs : Hid (hb < w2.heap.size) := R2.out.lt
          clear l2 hhb
          refine wp_region_held (S := fun w' => w'.cell? ⟨q, 2, none⟩ = some (.slice A n c)) (by kernel_rfl) ?_
          change wpAnyH _ _ _ _ _ _ _ _ w2.drew
          have Sr0 : Hid (w2.drew.cell? ⟨q, 2, none⟩ = some (.slice A n c)) := k2
          have br0 : Hid (True) := trivial
          refine wpAnyH_take (i := 0) (v := _) rfl (by kernel_rfl) (by kernel_rfl) (by kernel_rfl) (fun _ _ _ h => h) (yieldsIf_move (by kernel_rfl) (.tmp 0) rfl (.pointer (some ⟨q, 0, none⟩)) (by kernel_rfl)) Sr0.out ?_
          refine wpAnyH_take (i := 1) (v := _) rfl (by kernel_rfl) (by kernel_rfl) (by kernel_rfl) (fun _ _ _ h => h) (yieldsIf_nil (by kernel_rfl) (.tmp 47) rfl ⟨q, 0, none⟩ (by kernel_rfl)) Sr0.out ?_
          refine wpAnyH_take (i := 2) (v := _) rfl (by kernel_rfl) (by kernel_rfl) (by kernel_rfl) (fun _ _ _ h => h) (yieldsIf_fld (by kernel_rfl) _ (.tmp 48) 2 rfl (.pointer (some ⟨q, 0, none⟩)) (.pointer (some ⟨q, 2, none⟩)) (by kernel_rfl) (fun w => by go_simp)) Sr0.out ?_
          refine wpAnyH_take (i := 3) (v := _) rfl (by kernel_rfl) (by kernel_rfl) (by kernel_rfl) (fun _ _ _ h => h) (yieldsIf_load_one (by kernel_rfl) _ (.tmp 49) rfl q (2) (by kernel_rfl) (.slice A n c) (fun _ h => h) _ Try.underlying38 rfl) Sr0.out ?_
          refine wpAnyH_take (i := 4) (v := _) rfl (by kernel_rfl) (by kernel_rfl) (by kernel_rfl) (fun _ _ _ h => h) (yieldsIf_move (by kernel_rfl) (.tmp 0) rfl (.pointer (some ⟨q, 0, none⟩)) (by kernel_rfl)) Sr0.out ?_
          refine wpAnyH_take (i := 5) (v := _) rfl (by kernel_rfl) (by kernel_rfl) (by kernel_rfl) (fun _ _ _ h => h) (yieldsIf_move (by kernel_rfl) (.tmp 1) rfl (.int .i64 (p : Nat)) (by kernel_rfl)) Sr0.out ?_
          refine wpAnyH_take (i := 7) (v := _) rfl (by kernel_rfl) (by kernel_rfl) (by kernel_rfl) (fun _ _ _ h => h) (yieldsIf_move (by kernel_rfl) (.tmp 0) rfl (.pointer (some ⟨q, 0, none⟩)) (by kernel_rfl)) Sr0.out ?_
          refine wpAnyH_take (i := 8) (v := _) rfl (by kernel_rfl) (by kernel_rfl) (by kernel_rfl) (fun _ _ _ h => h) (yieldsIf_move (by kernel_rfl) (.tmp 8) rfl (.int .i64 (t : Nat)) (by kernel_rfl)) Sr0.out ?_
          refine wpAnyH_take (i := 12) (v := .int .i64 0) rfl (by kernel_rfl) (by kernel_rfl) (by kernel_rfl) (fun _ _ _ h => h) (.inl ⟨by kernel_rfl, fun w _ => by go_simp⟩) Sr0.out ?_
          refine wpAnyH_one 6 _ (by kernel_rfl) rfl fun K hK => ?_
          go_simp
          refine (CF.out _ L2.out.drew).mono ?_
          rintro e vr1 ⟨rfl, l3⟩
          have Sr1 : Hid (vr1.cell? ⟨q, 2, none⟩ = some (.slice A n c)) := (l3.cell (lt_of_cell Sr0.out)).trans Sr0.out
          have br1 : Hid (True) := trivial
          have L3 := Lib.hid (L2.out.drew.trans (l3.mono L2.out.drew.size))
          have K3 := Lib.hid ((Below.refl w2.heap.size w2).drew.trans l3)
          clear l3
          refine hK _ _ Sr1.out ?_
          clear hK K 
          refine wpAnyH_one 9 _ (by kernel_rfl) rfl fun K hK => ?_
          go_simp
          refine (CH.out _ L3.out).mono ?_
          rintro e vr2 ⟨rfl, l4⟩
          have Sr2 : Hid (vr2.cell? ⟨q, 2, none⟩ = some (.slice A n c)) := (l4.cell (lt_of_cell Sr1.out)).trans Sr1.out
          have br2 : Hid (True) := trivial
          have L4 := Lib.hid (L3.out.trans (l4.mono L3.out.size))
          have K24 := Lib.hid (K3.out.trans (l4.mono K3.out.size))
          clear l4
          refine hK _ _ Sr2.out ?_
          clear hK K 
          refine wpAnyH_take (i := 10) (v := _) rfl (by kernel_rfl) (by kernel_rfl) (by kernel_rfl) (fun _ _ _ h => h) (yieldsIf_slice (by kernel_rfl) _ (.tmp 50) (.tmp 53) (.tmp 56) rfl (.slice A n c) (.int .i64 (f : Nat)) (.int .i64 (h : Nat)) (.slice A5 (h - f) c5) (by kernel_rfl) (by kernel_rfl) (by kernel_rfl) HSL.out) Sr2.out ?_
          refine wpAnyH_take (i := 11) (v := .int .i64 ((h - f : Nat) : Int)) rfl (by kernel_rfl) (by kernel_rfl) (by kernel_rfl) (fun _ _ _ h => h) (.inl ⟨by kernel_rfl, fun w _ => by go_simp⟩) Sr2.out ?_
          refine wpAnyH_done (by kernel_rfl) ?_ _
          have R4 := Lib.hid (R2.out.below K24.out hbs.out)
          clear R2 L2 L3 Sr1 Sr2 q2 k2
          go_simp
          go_wp2_with fail
          go_loopw [11, 12, 59] (fun _ _ I wr => ∃ i : Nat, i ≤ h - f ∧ I = .int .i64 (i : Nat) ∧ Hid (Row wr hb (readB p N lo i)) ∧ Hid (Below w.heap.size w wr) ∧ Hid (hb < wr.heap.size)) (fun _ _ I _ => (h - f) - (intOf I).toNat)
          case atStart => exact ⟨0, Nat.zero_le _, rfl, R4, L4, R4.out.lt⟩
          case round =>
            obtain ⟨i, hi, rfl, RR, LR, SR⟩ := hrel
            by_cases hlt : i < h - f
            · obtain ⟨bb, oo, x, rfl, hbb, hx, k0, k1, hy⟩ := (HLO.out.below LR.out).at hlt
              have hmx := List.mem_of_getElem? hx
              have hmt := MEET.out x hmx
              obtain ⟨hen, hxc⟩ := ENDS.out x hmx
              have hjs := readB_succ (p := p) (N := N) hx
              have hjl := HRL.out i
              obtain ⟨xa, xA, xn, xc, px⟩ := x
              simp only at hmt hen hxc hjs k0 k1 hy
              obtain ⟨bx, ox, rfl, hbx, _⟩ := hy.cells (by omega)
              obtain ⟨p0, hp0⟩ : ∃ p0, p0 = max p xa := ⟨_, rfl⟩
              obtain ⟨p1, hp1⟩ : ∃ p1, p1 = min t (xa + xn) := ⟨_, rfl⟩
              rw [← hp0] at hjs hmt
              rw [show min (p + N) (xa + xn) = p1 by omega] at hjs hmt
              have CP := Lib.hid fun (w' : World) => part_any w' xa bx ox xn xc p t p0 p1 hxc (by omega) (by omega) (by omega) (by omega) hp0 hp1 hmt
              obtain ⟨o, ho⟩ : ∃ o, o = p0 - p := ⟨_, rfl⟩
              obtain ⟨m, hm⟩ : ∃ m, m = p1 - p0 := ⟨_, rfl⟩
              have hy2 := hy.amidE (p := p0 - xa) (N := m) (by omega) (by omega) m (Nat.le_refl _)
              obtain ⟨ys, hys⟩ : ∃ ys, ys = (px.drop (p0 - xa)).take m := ⟨_, rfl⟩
              rw [← hys] at hy2
              rw [← hm, ← hys, ← ho] at hjs
              obtain ⟨o2, ho2⟩ : ∃ o2, o2 = ox + (p0 - xa) := ⟨_, rfl⟩
              rw [← ho2] at hy2 CP
              rw [← hm] at CP
              have hyl := hy2.len
              have HY := Lib.hid hy2
              have HJS := Lib.hid hjs
              have hwo : IntKind.i64.wrap ((p0 : Int) - (p : Int)) = (o : Int) := by rw [IntKind.wrap_i64]; omega
              have hoN : (o : Int) ≤ (N : Int) := by omega
              have hNo : ¬ N = o := by omega
              have hm0 : 0 < m := by omega
              have hmN : m ≤ N - o := by omega
              have hfit : Hid (o + m ≤ ((readB p N lo i).map (Value.int .u8)).length) := by show _ ≤ _; rw [List.length_map, hjl]; omega
              have KX : Hid (wr.rangeAt bb (oo + i * 2) [.int .i64 (xa : Nat), .slice (some ⟨bx, ox, none⟩) xn xc]) := fun j v hj => by
                match j, hj with
                | 0, hj => injection hj with hj; subst hj; exact k0
                | 1, hj => injection hj with hj; subst hj; exact k1
              clear hx hmx hjs hjl hy hy2 k0 k1 hys ho hm ho2 hp0 hp1 hmt hen
              go_wp2_with (first
                | ((with_reducible show wpList _ _ _ (⟨some 62, _, _, _, _, _⟩ :: _) _ _); go_loud (refine wpList_load_mid rfl _ (.tmp 61) rfl bb (oo + i * 2) rfl [.int .i64 (xa : Nat), .slice (some ⟨bx, ox, none⟩) xn xc] _ KX.out Try.underlying41 rfl (by rw [size_ext]; rfl) ?_))
                | ((with_reducible show wpList _ _ _ (⟨some 11, _, _, _, _, _⟩ :: _) _ _); go_loud (refine wpList_alloc_blk rfl _ rfl [.int .i64 0, .slice none 0 0] _ ZX ?_); intro gx w7 hgx hgx2 X7 L7)
                | ((with_reducible show wpList _ _ _ (⟨none, .store _ (.tmp 11) _, _, _, _, _⟩ :: _) _ _); go_loud (refine wpList_store_blk rfl _ (.tmp 11) (.tmp 62) rfl gx rfl _ [.int .i64 0, .slice none 0 0] [.int .i64 (xa : Nat), .slice (some ⟨bx, ox, none⟩) xn xc] rfl X7 2 size_ext rfl rfl (ext_one _ _ rfl) ?_); intro w8 X8 O8 hg8)
                | ((with_reducible show wpList _ _ _ (⟨some 63, _, _, _, _, _⟩ :: _) _ _); go_loud (refine wpList_load_blk rfl _ (.tmp 11) rfl gx rfl _ [.int .i64 (xa : Nat), .slice (some ⟨bx, ox, none⟩) xn xc] X8 2 _ Try.underlying41 rfl size_ext rfl ?_))
                | fail)
              have k8 : Below wr.heap.size wr w8 := below_only L7.out O8.out hgx
              refine (CP.out w8).mono ?_
              rintro e w9 ⟨rfl, l9⟩
              have K9 := Lib.hid (k8.trans (l9.mono k8.size))
              clear X7 X8 O8 L7 k8 l9 KX
              go_upto_region 15 with (first
                | ((with_reducible show wpList _ _ _ (⟨some 12, _, _, _, _, _⟩ :: _) _ _); go_loud (refine wpList_alloc_blk rfl _ rfl [.int .i64 0, .slice none 0 0] _ ZX ?_); intro gy w10 hgy hgy2 Y10 L10)
                | ((with_reducible show wpList _ _ _ (⟨none, .store _ (.tmp 12) _, _, _, _, _⟩ :: _) _ _); go_loud (refine wpList_store_blk rfl _ (.tmp 12) (.tmp 66) rfl gy rfl _ [.int .i64 0, .slice none 0 0] [.int .i64 (p0 : Nat), .slice (some ⟨bx, o2, none⟩) m m] rfl Y10 2 size_ext rfl rfl (ext_one _ _ rfl) ?_); intro w11 Y11 O11 hg11; have e0 : w11.cell? ⟨gy, 0, none⟩ = some (.int .i64 (p0 : Nat)) := Y11.out.cell 0; have e1 : w11.cell? ⟨gy, 1, none⟩ = some (.slice (some ⟨bx, o2, none⟩) m m) := Y11.out.cell 1)
                | fail)
              have hs9 := K9.out.size
              have k11 : Below wr.heap.size wr w11 := below_only (K9.out.trans (L10.out.mono hs9)) O11.out (by omega)
              have R11 : Hid (Blk w11.drew hb 5 ((readB p N lo i).map (Value.int .u8))) := (RR.out.below k11 SR.out : Row w11 hb (readB p N lo i))
              have l11 : Below w.heap.size w w11 := LR.out.trans (k11.mono LR.out.size)
              have HY11 := Lib.hid ((HY.out.below (k11.mono LR.out.size)).drew)
              have L11 := Lib.hid l11.drew
              have S11 : Hid (hb < w11.heap.size) := Nat.lt_of_lt_of_le SR.out k11.size
              clear RR LR SR HY K9 L10 Y10 Y11 O11 k11 l11
              go_still_tail 8, (by kernel_rfl)
              change wpList _ _ _ _ _ w11.drew
              go_wp2_with (first
                | ((with_reducible show wpList _ _ _ (⟨some 75, _, _, _, _, _⟩ :: _) _ _); go_loud (refine wpList_copy_mid rfl (.tmp 72) (.tmp 74) rfl hb o 5 _ _ m m _ rfl rfl _ ys w.heap.size R11 HY11.out hm0 hmN hfit ?_); intro w12 R12 O12)
                | fail)
              go_roundw
              case rel =>
                refine ⟨i + 1, by omega, by go_num, ?_, below_only L11.out O12.out hwb.out, ?_⟩
                · have := R12.out
                  rw [spliced_row] at this
                  show Row _ _ _
                  rw [HJS.out]
                  exact this
                · show _ < _
                  rw [O12.out.size]
                  exact S11.out
              case measure => simp [intOf]; omega
            · obtain rfl : i = h - f := by omega
              have hjl := HRL.out (h - f)
              go_wp2_with fail
              go_ret2
              exact ⟨_, rfl, RR.out.ownZ hwb.out hjl (by unfold maxLen; omega), LR.out⟩
end Go.Proofs.Ytgbhnnobbciemaa
