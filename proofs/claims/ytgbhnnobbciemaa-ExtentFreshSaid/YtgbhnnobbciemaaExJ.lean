/-
  Layer 14 (extent): Cut of the program's file (written by tools/gen_exj.py).
-/
import Derived.Test.YtgbhnnobbciemaaExY
namespace Go.Proofs.Ytgbhnnobbciemaa
set_option maxRecDepth 100000
open Go.RowKit
set_option linter.unusedVariables false

theorem wpList_load_midG {P : Program} {ops : Array Oper} {rest : List Oper} {op : Oper} {a : Act} {w : World} {Q : Exit → Act → World → Prop} (hw : Region.wanted op (yielded ops a.tmps) = true) (ty : TypeId) (x : Operand) (ho : op.op = .load ty x)
    (b o : Nat) (hx : a.eval x = .pointer (some ⟨b, o, none⟩)) (cs : List Value) (d : TypeDesc) (hc : w.rangeAt b o cs) (hu : P.underlying ty = some d) (hd : d.isRow = true) (hi : (P.info? ty).map (·.size) = some cs.length)
    (h : wpList P ops Q rest (a.put op.dst (.agg cs.toArray)) w) : wpList P ops Q (op :: rest) a w :=
  wpList_step fun K hK => by
    rw [if_pos hw]
    exact wp_load_mid ty x ho b o hx cs d hc hu hd hi (hK _ _ h)

def PCutPostX (w : World) (base q : Nat) (v : Value) (l : List ExtV) (B : List Int) (Z : List Bool) (s : Int) (e : Ending) (w' : World) : Prop :=
  e = .returned (.int .i64 (exCutE s)) ∧ ∃ v' l', PDat w' base q v' l' (exCut 0 B s) (exCut false Z s) ∧ Spare (pdS q v l) w w' ∧ ∀ j, pdS q v' l' j → pdS q v l j ∨ w.heap.size ≤ j

theorem PDat.wasCut {w w' : World} {base q : Nat} {A : Option Addr} {n c f s : Nat} {l l' : List ExtV} {B : List Int} {Z : List Bool} (d : PDat w base q (.slice A n c) l B Z) (hs : s ≤ 65536) (f0 : ∀ (i : Nat) x, i < f → l[i]? = some x → x.1 < s) (f1 : ∀ (i : Nat) x, f ≤ i → l[i]? = some x → s ≤ x.1)
    (hm : extsL l' = ((extsL l).take f).map fun e => (e.1, e.2.take (s - e.1))) (hB : Blk w' q 49 [.bool true, .int .i64 (s : Nat), .slice A f c]) (hrow : OwnS extCells 2 41 w' base (.slice A f c) l')
    (heach : ∀ x ∈ l', OwnB false w' base (partV x.2) x.2.2.2.2 ∧ ∀ i, (partV x.2).ownBlock = some i → pdS q (.slice A n c) l i ∨ w.heap.size ≤ i) (hS : Spare (pdS q (.slice A n c) l) w w') :
    ∃ v' l', PDat w' base q v' l' (padTo 0 B s) (padTo false Z s) ∧ Spare (pdS q (.slice A n c) l) w w' ∧ ∀ j, pdS q v' l' j → pdS q (.slice A n c) l j ∨ w.heap.size ≤ j := by
  refine ⟨_, l', ⟨d.ge, by rw [padTo_len]; exact hB, hrow, fun x hx => (heach x hx).1, d.can.cutP f0 f1 hm, pad_zero d.zero, by rw [padTo_len, padTo_len], by rw [padTo_len]; exact hs, padTo_bytes d.byte s⟩, hS, fun j hj => ?_⟩
  rcases hj with rfl | hj | ⟨x, hx, hj⟩
  · exact .inl (.inl rfl)
  · refine .inl (.inr (.inl ?_))
    cases A with
    | none => cases hj
    | some a => exact hj
  · exact (heach x hx).2 j hj

set_option maxHeartbeats 8000000 in
theorem PCut_any (w : World) (base q : Nat) (v : Value) (l : List ExtV) (B : List Int) (Z : List Bool) (d : PDat w base q v l B Z) (s0 : Int) (ha : -9223372036854775808 ≤ s0 ∧ s0 ≤ 9223372036854775807) (hb : base ≤ w.heap.size) :
    Calls Try.prog 19 #[ptr q, .int .i64 s0] w (PCutPostX w base q v l B Z s0) := by
  unfold PCutPostX ptr
  have hsm := d.small
  have q0 : w.cell? ⟨q, 0, none⟩ = some (.bool true) := d.blk.cell 0
  have CN := Lib.hid (none_any w q q0)
  have hE : exCutE s0 = if s0 < 0 then 2 else if 65536 < s0 then 3 else 0 := rfl
  have same : exCutE s0 ≠ 0 → exCut 0 B s0 = B ∧ exCut false Z s0 = Z := fun h => by
    unfold exCut
    rw [if_neg h, if_neg h]
    exact ⟨rfl, rfl⟩
  obtain ⟨ha0, ha1⟩ := ha
  have D := Lib.hid d
  have SAME := Lib.hid same
  clear d same
  by_cases h1 : s0 < 0
  · rw [if_pos h1] at hE
    have hs := SAME.out (by rw [hE]; decide)
    rw [hE, hs.1, hs.2]
    clear hE hs
    go_enter Try.func19, Try.ntmps19
    go_wp2_with fail
    refine CN.out.mono ?_
    rintro e w1 ⟨rfl, rfl⟩
    go_wp2_with fail
    go_ret
    exact ⟨rfl, _, _, D.out, Spare.refl _ _, fun j hj => .inl hj⟩
  · rw [if_neg h1] at hE
    by_cases h2 : 65536 < s0
    · rw [if_pos h2] at hE
      have hs := SAME.out (by rw [hE]; decide)
      rw [hE, hs.1, hs.2]
      clear hE hs
      go_enter Try.func19, Try.ntmps19
      go_wp2_with fail
      refine CN.out.mono ?_
      rintro e w1 ⟨rfl, rfl⟩
      go_wp2_with fail
      go_ret
      exact ⟨rfl, _, _, D.out, Spare.refl _ _, fun j hj => .inl hj⟩
    · rw [if_neg h2] at hE
      obtain ⟨s, rfl⟩ := Int.eq_ofNat_of_zero_le (show 0 ≤ s0 by omega)
      have hB' : exCut 0 B (s : Int) = padTo 0 B s ∧ exCut false Z (s : Int) = padTo false Z s := by
        unfold exCut
        rw [hE, if_pos rfl, if_pos rfl, Int.toNat_natCast]
        exact ⟨rfl, rfl⟩
      rw [hE, hB'.1, hB'.2]
      clear hE hB'
      have hs65 : s ≤ 65536 := by omega
      obtain ⟨f, hf, g0, g1⟩ := D.out.halfB (s : Int)
      have G0 : Hid (∀ (i : Nat) x, i < f → l[i]? = some x → x.1 < s) := fun i x hi hx => by have := g0 i x hi hx; omega
      have G1 : Hid (∀ (i : Nat) x, f ≤ i → l[i]? = some x → s ≤ x.1) := fun i x hi hx => by have := g1 i x hi hx; omega
      have CH := Lib.hid (begin_any w base q v l B Z D.out (s : Int) f hf g0 g1)
      obtain ⟨Av, nv, cv, rfl, hv⟩ := D.out.lst
      have hnl := hv.len
      have hfn : f ≤ nv := by omega
      have hn65 : nv ≤ 65536 := by have := D.out.lenS; omega
      have q2 : w.cell? ⟨q, 2, none⟩ = some (.slice Av nv cv) := D.out.blk.cell 2
      have hvq : Hid ((Value.slice Av nv cv).ownBlock ≠ some q) := D.out.blk.ne_own D.out.row (by decide)
      have CD : Hid (∀ w2, Below w.heap.size w w2 → Calls Try.prog 36 #[.slice Av nv cv, .int .i64 (f : Nat), .int .i64 (nv : Nat)] w2 fun e w' => e = .returned (.slice Av f cv) ∧ OwnS extCells 2 41 w' base (.slice Av f cv) (l.take f) ∧ Spare (fun j => (Value.slice Av nv cv).ownBlock = some j) w2 w') := fun w2 hb2 =>
        Delete_any w2 base Av nv cv f l (D.out.row.below hb2) hfn hnl hn65
      have BQ := Lib.hid D.out.blk
      obtain ⟨L, hL⟩ : ∃ n, n = B.length := ⟨_, rfl⟩
      rw [← hL] at BQ hsm
      have HLENS := Lib.hid D.out.lens
      have HF := Lib.hid hf
      clear hL g0 g1 hf hv
      unfold ptr at CH
      go_enter Try.func19, Try.ntmps19
      go_wp2_with fail
      refine CN.out.mono ?_
      rintro e w1 ⟨rfl, rfl⟩
      go_wp2_with fail
      refine CH.out.mono ?_
      rintro e w2 ⟨rfl, l2⟩
      have L2 := Lib.hid l2
      have k2 : w2.cell? ⟨q, 2, none⟩ = some (.slice Av nv cv) := (l2.cell (lt_of_cell q2)).trans q2
      clear l2 CH CN
      go_upto_region 8 with fail
      refine wp_region_heldK 12 (fun w' => w'.cell? ⟨q, 2, none⟩ = some (.slice Av nv cv)) (by kernel_rfl) ?_
      change wpAnyK _ _ _ _ _ _ _ _ _ w2.drew
      have Sr0 : Hid (w2.drew.cell? ⟨q, 2, none⟩ = some (.slice Av nv cv)) := k2
      have br0 : Hid (True) := trivial
      refine wpAnyK_take (i := 0) (v := _) rfl (by kernel_rfl) (by kernel_rfl) (by kernel_rfl) (fun _ _ _ h => h) rfl (by kernel_rfl) (by kernel_rfl) (by decide) (yieldsIf_move (by kernel_rfl) (.tmp 0) rfl (.pointer (some ⟨q, 0, none⟩)) (by kernel_rfl)) Sr0.out ?_
      refine wpAnyK_take (i := 1) (v := _) rfl (by kernel_rfl) (by kernel_rfl) (by kernel_rfl) (fun _ _ _ h => h) rfl (by kernel_rfl) (by kernel_rfl) (by decide) (yieldsIf_move (by kernel_rfl) (.tmp 0) rfl (.pointer (some ⟨q, 0, none⟩)) (by kernel_rfl)) Sr0.out ?_
      refine wpAnyK_take (i := 2) (v := _) rfl (by kernel_rfl) (by kernel_rfl) (by kernel_rfl) (fun _ _ _ h => h) rfl (by kernel_rfl) (by kernel_rfl) (by decide) (yieldsIf_nil (by kernel_rfl) (.tmp 19) rfl ⟨q, 0, none⟩ (by kernel_rfl)) Sr0.out ?_
      refine wpAnyK_take (i := 3) (v := _) rfl (by kernel_rfl) (by kernel_rfl) (by kernel_rfl) (fun _ _ _ h => h) rfl (by kernel_rfl) (by kernel_rfl) (by decide) (yieldsIf_fld (by kernel_rfl) _ (.tmp 20) 2 rfl (.pointer (some ⟨q, 0, none⟩)) (.pointer (some ⟨q, 2, none⟩)) (by kernel_rfl) (fun w => by go_simp)) Sr0.out ?_
      refine wpAnyK_take (i := 4) (v := _) rfl (by kernel_rfl) (by kernel_rfl) (by kernel_rfl) (fun _ _ _ h => h) rfl (by kernel_rfl) (by kernel_rfl) (by decide) (yieldsIf_load_one (by kernel_rfl) _ (.tmp 21) rfl q (2) (by kernel_rfl) (.slice Av nv cv) (fun _ h => h) _ Try.underlying38 rfl) Sr0.out ?_
      refine wpAnyK_take (i := 5) (v := _) rfl (by kernel_rfl) (by kernel_rfl) (by kernel_rfl) (fun _ _ _ h => h) rfl (by kernel_rfl) (by kernel_rfl) (by decide) (yieldsIf_move (by kernel_rfl) (.tmp 5) rfl (.int .i64 (f : Nat)) (by kernel_rfl)) Sr0.out ?_
      refine wpAnyK_take (i := 6) (v := _) rfl (by kernel_rfl) (by kernel_rfl) (by kernel_rfl) (fun _ _ _ h => h) rfl (by kernel_rfl) (by kernel_rfl) (by decide) (yieldsIf_move (by kernel_rfl) (.tmp 0) rfl (.pointer (some ⟨q, 0, none⟩)) (by kernel_rfl)) Sr0.out ?_
      refine wpAnyK_take (i := 7) (v := _) rfl (by kernel_rfl) (by kernel_rfl) (by kernel_rfl) (fun _ _ _ h => h) rfl (by kernel_rfl) (by kernel_rfl) (by decide) (yieldsIf_nil (by kernel_rfl) (.tmp 24) rfl ⟨q, 0, none⟩ (by kernel_rfl)) Sr0.out ?_
      refine wpAnyK_take (i := 8) (v := _) rfl (by kernel_rfl) (by kernel_rfl) (by kernel_rfl) (fun _ _ _ h => h) rfl (by kernel_rfl) (by kernel_rfl) (by decide) (yieldsIf_fld (by kernel_rfl) _ (.tmp 25) 2 rfl (.pointer (some ⟨q, 0, none⟩)) (.pointer (some ⟨q, 2, none⟩)) (by kernel_rfl) (fun w => by go_simp)) Sr0.out ?_
      refine wpAnyK_take (i := 9) (v := _) rfl (by kernel_rfl) (by kernel_rfl) (by kernel_rfl) (fun _ _ _ h => h) rfl (by kernel_rfl) (by kernel_rfl) (by decide) (yieldsIf_load_one (by kernel_rfl) _ (.tmp 26) rfl q (2) (by kernel_rfl) (.slice Av nv cv) (fun _ h => h) _ Try.underlying38 rfl) Sr0.out ?_
      refine wpAnyK_take (i := 10) (v := .int .i64 (nv : Nat)) rfl (by kernel_rfl) (by kernel_rfl) (by kernel_rfl) (fun _ _ _ h => h) rfl (by kernel_rfl) (by kernel_rfl) (by decide) (.inl ⟨by kernel_rfl, fun w _ => by go_simp⟩) Sr0.out ?_
      refine wpAnyK_one 11 _ (by kernel_rfl) rfl fun K hK => ?_
      go_simp
      refine (CD.out _ L2.out.drew).mono ?_
      rintro e vr1 ⟨rfl, o3, s3⟩
      have Sr1 : Hid (vr1.cell? ⟨q, 2, none⟩ = some (.slice Av nv cv)) := (spare_cell s3 (fun e => hvq.out e) (lt_of_cell Sr0.out)).trans Sr0.out
      have br1 : Hid (True) := trivial
      have O3 := Lib.hid o3
      have S3 := Lib.hid s3
      clear o3 s3
      refine hK _ _ (fun _ => Sr1.out) ?_
      clear hK K
      refine wpAnyK_one 12 _ (by kernel_rfl) rfl fun K hK => ?_
      go_simp
      refine hK _ _ (fun h => Bool.noConfusion (show true = false from h)) ?_
      clear hK K
      refine wpAnyK_one 13 _ (by kernel_rfl) rfl fun K hK => ?_
      go_simp
      refine hK _ _ (fun h => Bool.noConfusion (show true = false from h)) ?_
      clear hK K
      refine wpAnyK_frame fun a1 ha1 => ?_
      have e1_31 : a1.eval (.tmp 31) = .pointer (some ⟨q, 2, none⟩) := by rw [ha1]; kernel_rfl
      have e1_29 : a1.eval (.tmp 29) = .slice Av f cv := by rw [ha1]; kernel_rfl
      refine wpAnyK_one 14 _ (by kernel_rfl) rfl fun K hK => ?_
      have BQ3 : Hid (Blk vr1 q 49 [.bool true, .int .i64 (L : Nat), .slice Av nv cv]) := (BQ.out.below L2.out BQ.out.lt).drew.spare S3.out (fun e => hvq.out e)
      refine step_store_fld (by kernel_rfl) 38 (.tmp 31) (.tmp 29) (by kernel_rfl) q 2 e1_31 49 [.bool true, .int .i64 (L : Nat), .slice Av nv cv] (.slice Av f cv) e1_29 BQ3 (show 2 < 3 by omega) (by kernel_rfl) rfl ?_
      intro w4 BQ4 P4 hq4
      refine hK _ _ (fun h => Bool.noConfusion (show true = false from h)) ?_
      clear hK K
      rw [ha1]
      refine wpAnyK_done (by kernel_rfl) ?_ _
      have BQ4' : Hid (Blk w4 q 49 [.bool true, .int .i64 (L : Nat), .slice Av f cv]) := BQ4.out
      have hq3 := BQ3.out
      have O4 : Hid (OwnS extCells 2 41 w4 base (.slice Av f cv) (l.take f)) := O3.out.sparS (Spare.of_only P4.out) fun i hi e => hq3.ne_own O3.out (by decide) (by rw [hi, e])
      have EACH4 : Hid (∀ x ∈ l, OwnB false w4 base (partV x.2) x.2.2.2.2) := fun x hx => by
        have h1 := (D.out.each x hx).below (L2.out.drew)
        have h2 := h1.spare S3.out fun i hi e => h1.ne_own (D.out.row.below L2.out.drew) (by decide) hi e
        exact h2.spare (Spare.of_only P4.out) fun i hi e => h2.ne_blk hq3 (by decide) (by rw [hi, e])
      have SP4 : Hid (Spare (pdS q (.slice Av nv cv) l) w w4) := ((Spare.of_over (pdS q (.slice Av nv cv) l) L2.out.drew).trans (S3.out.mono (S' := pdS q (.slice Av nv cv) l) fun j _ hj => .inr (.inl hj)) fun j _ h => h).trans ((Spare.of_only P4.out).mono (S' := pdS q (.slice Av nv cv) l) fun j _ hj => .inl hj) fun j _ h => h
      have k2 : w4.cell? ⟨q, 2, none⟩ = some (.slice Av f cv) := BQ4'.out.cell 2
      clear hq3 BQ3 BQ4 O3 S3 P4 Sr0 Sr1 L2 q2 q0 CD BQ
      rcases Nat.eq_zero_or_pos f with hf0 | hf0
      · subst hf0
        go_wp2_with (first
          | ((with_reducible show wpList _ _ _ (⟨none, .store _ _ _, _, _, _, _⟩ :: _) _ _); go_loud (refine wpList_store_fld rfl _ (.tmp 68) (.tmp 66) rfl q 1 rfl _ [.bool true, .int .i64 (L : Nat), .slice Av 0 cv] (.int .i64 (s : Nat)) rfl BQ4' (show 1 < 3 by omega) (by kernel_rfl) rfl ?_); intro w5 BQ5 P5 hq5)
          | fail)
        go_ret
        refine ⟨rfl, PDat.wasCut D.out hs65 G0.out G1.out (l' := l.take 0) (by simp [extsL]) BQ5.out ?_ (fun x hx => by cases hx) (SP4.out.trans ((Spare.of_only P5.out).mono (S' := pdS q (.slice Av nv cv) l) fun j _ hj => .inl hj) fun j _ h => h)⟩
        exact O4.out.sparS (Spare.of_only P5.out) fun i hi e => BQ4'.out.ne_own O4.out (by decide) (by rw [hi, e])
      · obtain ⟨x, hx⟩ : ∃ x, l[f - 1]? = some x := ⟨_, List.getElem?_eq_getElem (show f - 1 < l.length by have := HF.out; omega)⟩
        have hmx := List.mem_of_getElem? hx
        have hend := D.out.ends x hmx
        have hxs := G0.out _ x (show f - 1 < f by omega) hx
        have hlx := HLENS.out x hmx
        have hxpos : 0 < x.2.2.1 := by rw [← hlx]; exact List.length_pos_iff.2 (D.out.can.full (x.1, x.2.2.2.2) (extsL_mem hmx))
        obtain ⟨g, c', hg⟩ := O4.out.form (show 0 < (l.take f).length by rw [List.length_take]; have := HF.out; omega)
        obtain rfl : Av = some ⟨g, 0, none⟩ := by injection hg
        clear hg
        obtain ⟨_, hlt4, hfc, hcm, cs, hB, hcl, htk⟩ := O4.out.blk
        have hcells : ∀ j u, (extCells x)[j]? = some u → w4.cell? ⟨g, (f - 1) * 2 + j, none⟩ = some u := fun j u hj => by
          have hj2 : j < 2 := (List.getElem?_eq_some_iff.1 hj).1
          rw [hB.cell]
          have e1 : cs[(f - 1) * 2 + j]? = (cs.take (f * 2))[(f - 1) * 2 + j]? := by rw [List.getElem?_take, if_pos (by omega)]
          rw [e1, htk, flatMap_get (by decide) extCells_len, show ((f - 1) * 2 + j) / 2 = f - 1 by omega, show ((f - 1) * 2 + j) % 2 = j by omega, List.getElem?_take, if_pos (by omega), hx]
          exact hj
        obtain ⟨xa, xA, xn, xc, px⟩ := x
        simp only at hend hxs hlx hxpos
        have hE4 := (EACH4.out _ hmx)
        have hpx : Bytes px := by
          have := D.out.can.have_ (xa, px) (extsL_mem hmx)
          simp only at this
          rw [this]
          exact (D.out.byte.drop _).take _
        have hH4 : Holds w4 w4.heap.size xA xn xc px := hE4.holds hpx (by have := D.out.small; simp only; omega)
        obtain ⟨bx, ox, rfl, hbx, _⟩ := hH4.cells hxpos
        have hxc := hH4.fit
        have RX4 : Hid (w4.rangeAt g ((f - 1) * 2) [.int .i64 (xa : Nat), .slice (some ⟨bx, ox, none⟩) xn xc]) := fun j u hj => hcells j u hj
        have HH4 := Lib.hid hH4
        have HB4 := Lib.hid hB
        have HCL := Lib.hid hcl
        have HTK := Lib.hid htk
        have HXX := Lib.hid hx
        have HMX := Lib.hid hmx
        have HPX := Lib.hid hpx
        have HLX := Lib.hid hlx
        have hf1 : (f : Int) - 1 = ((f - 1 : Nat) : Int) := by omega
        have hf1w : IntKind.i64.wrap ((f : Int) - 1) = ((f - 1 : Nat) : Int) := by rw [IntKind.wrap_i64]; omega
        have hf1w2 : IntKind.i64.wrap ((f - 1 : Nat) : Int) = ((f - 1 : Nat) : Int) := by rw [IntKind.wrap_i64]; omega
        have hff : f - 1 < f := by omega
        have hd0 : decide ((0 : Int) < (f : Int)) = true := decide_eq_true (by omega)
        have hxa65 : xa + xn ≤ 65536 := by have := D.out.small; omega
        have CE := Lib.hid fun (w' : World) => end_any w' xa xn xc (some ⟨bx, ox, none⟩) (by omega) (by omega)
        clear hcells hB hcl htk hx hmx hE4 hH4 hpx hlx hlt4 hend
        go_wp2_with (first
          | ((with_reducible show wpList _ _ _ (⟨some 42, _, _, _, _, _⟩ :: _) _ _); go_loud (refine wpList_load_midG (by kernel_rfl) _ (.tmp 41) rfl g ((f - 1) * 2) rfl [.int .i64 (xa : Nat), .slice (some ⟨bx, ox, none⟩) xn xc] _ RX4.out Try.underlying41 rfl (by rw [size_ext]; rfl) ?_))
          | fail)
        refine (CE.out w4).mono ?_
        rintro e w5 ⟨rfl, l5⟩
        have L5 := Lib.hid l5
        have BQ5 := Lib.hid (BQ4'.out.over l5)
        have O5 := Lib.hid (O4.out.below l5)
        have EACH5 : Hid (∀ x ∈ l, OwnB false w5 base (partV x.2) x.2.2.2.2) := fun x hx => (EACH4.out x hx).below l5
        have SP5 : Hid (Spare (pdS q (.slice (some ⟨g, 0, none⟩) nv cv) l) w w5) := SP4.out.trans (Spare.of_over (pdS q (.slice (some ⟨g, 0, none⟩) nv cv) l) l5) fun j _ h => h
        have BG5 := Lib.hid (HB4.out.over l5)
        have k2' : w5.cell? ⟨q, 2, none⟩ = some (.slice (some ⟨g, 0, none⟩) f cv) := BQ5.out.cell 2
        have hg5 : Hid (g < w5.heap.size) := BG5.out.lt
        have rx5 : w5.rangeAt g ((f - 1) * 2) [.int .i64 (xa : Nat), .slice (some ⟨bx, ox, none⟩) xn xc] := range_below RX4.out l5 HB4.out.lt
        have HH5 := Lib.hid ((HH4.out.below l5).mono l5.size)
        clear l5 BQ4' O4 EACH4 SP4 HB4 RX4 HH4 k2
        by_cases hcut : s < xa + xn
        · have hdc : decide ((s : Int) < (xa : Int) + (xn : Int)) = true := decide_eq_true (by omega)
          have CP : Hid (∀ w' : World, Calls Try.prog 31 #[.agg #[.int .i64 (xa : Nat), .slice (some ⟨bx, ox, none⟩) xn xc], .int .i64 0, .int .i64 (s : Nat)] w' fun e w2 => e = .returned (.agg #[.int .i64 (xa : Nat), .slice (some ⟨bx, ox, none⟩) (s - xa) (s - xa)]) ∧ Below w'.heap.size w' w2) := fun w' => by
            have := part_any w' xa bx ox xn xc 0 s xa s hxc (by omega) (by omega) (by omega) (by omega) (by omega) (by omega) hxs
            rw [Nat.sub_self, Nat.add_zero] at this
            exact this
          have CC : Hid (∀ w' : World, Below w5.heap.size w5 w' → Calls Try.prog 37 #[.agg #[.int .i64 (xa : Nat), .slice (some ⟨bx, ox, none⟩) (s - xa) (s - xa)]] w' fun e w2 => ∃ v, e = .returned (.agg #[.int .i64 (xa : Nat), v]) ∧ OwnZ .u8 5 w2 w'.heap.size v (px.take (s - xa)) ∧ Below w'.heap.size w' w2) := fun w' hb' => by
            have h5 := HH5.out.amidE (p := 0) (N := s - xa) (by omega) (by omega) (s - xa) (Nat.le_refl _)
            rw [Nat.add_zero, List.drop_zero] at h5
            exact copied_any w' xa (s - xa) (s - xa) _ _ ((h5.below hb').mono hb'.size) (by omega)
          have hfit : Hid ((f - 1) * 2 + 2 ≤ cs.length) := by show _ ≤ _; rw [HCL.out]; omega
          have hfcv : f - 1 < cv := by omega
          go_upto_region 10 with fail
          refine wp_region_heldK 17 (fun w' => w'.cell? ⟨q, 2, none⟩ = some (.slice (some ⟨g, 0, none⟩) f cv) ∧ w'.rangeAt g ((f - 1) * 2) [.int .i64 (xa : Nat), .slice (some ⟨bx, ox, none⟩) xn xc]) (by kernel_rfl) ?_
          change wpAnyK _ _ _ _ _ _ _ _ _ w5.drew
          have Ss0 : Hid (w5.drew.cell? ⟨q, 2, none⟩ = some (.slice (some ⟨g, 0, none⟩) f cv) ∧ w5.drew.rangeAt g ((f - 1) * 2) [.int .i64 (xa : Nat), .slice (some ⟨bx, ox, none⟩) xn xc]) := ⟨k2', rx5⟩
          have bs0 : Hid (True) := trivial
          refine wpAnyK_take (i := 0) (v := _) rfl (by kernel_rfl) (by kernel_rfl) (by kernel_rfl) (fun _ _ _ h => h) rfl (by kernel_rfl) (by kernel_rfl) (by decide) (yieldsIf_move (by kernel_rfl) (.tmp 0) rfl (.pointer (some ⟨q, 0, none⟩)) (by kernel_rfl)) Ss0.out ?_
          refine wpAnyK_take (i := 1) (v := _) rfl (by kernel_rfl) (by kernel_rfl) (by kernel_rfl) (fun _ _ _ h => h) rfl (by kernel_rfl) (by kernel_rfl) (by decide) (yieldsIf_nil (by kernel_rfl) (.tmp 47) rfl ⟨q, 0, none⟩ (by kernel_rfl)) Ss0.out ?_
          refine wpAnyK_take (i := 2) (v := _) rfl (by kernel_rfl) (by kernel_rfl) (by kernel_rfl) (fun _ _ _ h => h) rfl (by kernel_rfl) (by kernel_rfl) (by decide) (yieldsIf_fld (by kernel_rfl) _ (.tmp 48) 2 rfl (.pointer (some ⟨q, 0, none⟩)) (.pointer (some ⟨q, 2, none⟩)) (by kernel_rfl) (fun w => by go_simp)) Ss0.out ?_
          refine wpAnyK_take (i := 3) (v := _) rfl (by kernel_rfl) (by kernel_rfl) (by kernel_rfl) (fun _ _ _ h => h) rfl (by kernel_rfl) (by kernel_rfl) (by decide) (yieldsIf_load_one (by kernel_rfl) _ (.tmp 49) rfl q (2) (by kernel_rfl) (.slice (some ⟨g, 0, none⟩) f cv) (fun _ h => h.1) _ Try.underlying38 rfl) Ss0.out ?_
          refine wpAnyK_take (i := 4) (v := _) rfl (by kernel_rfl) (by kernel_rfl) (by kernel_rfl) (fun _ _ _ h => h) rfl (by kernel_rfl) (by kernel_rfl) (by decide) (yieldsIf_move (by kernel_rfl) (.tmp 5) rfl (.int .i64 (f : Nat)) (by kernel_rfl)) Ss0.out ?_
          refine wpAnyK_take (i := 5) (v := .int .i64 ((f - 1 : Nat) : Int)) rfl (by kernel_rfl) (by kernel_rfl) (by kernel_rfl) (fun _ _ _ h => h) rfl (by kernel_rfl) (by kernel_rfl) (by decide) (.inl ⟨by kernel_rfl, fun w _ => by go_simp⟩) Ss0.out ?_
          refine wpAnyK_take (i := 6) (v := _) rfl (by kernel_rfl) (by kernel_rfl) (by kernel_rfl) (fun _ _ _ h => h) rfl (by kernel_rfl) (by kernel_rfl) (by decide) (yieldsIf_move (by kernel_rfl) (.tmp 0) rfl (.pointer (some ⟨q, 0, none⟩)) (by kernel_rfl)) Ss0.out ?_
          refine wpAnyK_take (i := 7) (v := _) rfl (by kernel_rfl) (by kernel_rfl) (by kernel_rfl) (fun _ _ _ h => h) rfl (by kernel_rfl) (by kernel_rfl) (by decide) (yieldsIf_nil (by kernel_rfl) (.tmp 53) rfl ⟨q, 0, none⟩ (by kernel_rfl)) Ss0.out ?_
          refine wpAnyK_take (i := 8) (v := _) rfl (by kernel_rfl) (by kernel_rfl) (by kernel_rfl) (fun _ _ _ h => h) rfl (by kernel_rfl) (by kernel_rfl) (by decide) (yieldsIf_fld (by kernel_rfl) _ (.tmp 54) 2 rfl (.pointer (some ⟨q, 0, none⟩)) (.pointer (some ⟨q, 2, none⟩)) (by kernel_rfl) (fun w => by go_simp)) Ss0.out ?_
          refine wpAnyK_take (i := 9) (v := _) rfl (by kernel_rfl) (by kernel_rfl) (by kernel_rfl) (fun _ _ _ h => h) rfl (by kernel_rfl) (by kernel_rfl) (by decide) (yieldsIf_load_one (by kernel_rfl) _ (.tmp 55) rfl q (2) (by kernel_rfl) (.slice (some ⟨g, 0, none⟩) f cv) (fun _ h => h.1) _ Try.underlying38 rfl) Ss0.out ?_
          refine wpAnyK_take (i := 10) (v := _) rfl (by kernel_rfl) (by kernel_rfl) (by kernel_rfl) (fun _ _ _ h => h) rfl (by kernel_rfl) (by kernel_rfl) (by decide) (yieldsIf_move (by kernel_rfl) (.tmp 5) rfl (.int .i64 (f : Nat)) (by kernel_rfl)) Ss0.out ?_
          refine wpAnyK_take (i := 11) (v := .int .i64 ((f - 1 : Nat) : Int)) rfl (by kernel_rfl) (by kernel_rfl) (by kernel_rfl) (fun _ _ _ h => h) rfl (by kernel_rfl) (by kernel_rfl) (by decide) (.inl ⟨by kernel_rfl, fun w _ => by go_simp⟩) Ss0.out ?_
          refine wpAnyK_take (i := 12) (v := .pointer (some ⟨g, (f - 1) * 2, none⟩)) rfl (by kernel_rfl) (by kernel_rfl) (by kernel_rfl) (fun _ _ _ h => h) rfl (by kernel_rfl) (by kernel_rfl) (by decide) (.inl ⟨by kernel_rfl, fun w _ => by go_simp⟩) Ss0.out ?_
          refine wpAnyK_take (i := 13) (v := _) rfl (by kernel_rfl) (by kernel_rfl) (by kernel_rfl) (fun _ _ _ h => h) rfl (by kernel_rfl) (by kernel_rfl) (by decide) (yieldsIf_load_range (by kernel_rfl) _ (.tmp 59) rfl g ((f - 1) * 2) (by kernel_rfl) [.int .i64 (xa : Nat), .slice (some ⟨bx, ox, none⟩) xn xc] (fun _ h => h.2) 2 _ Try.underlying41 rfl size_ext (rfl : Hid (([.int .i64 (xa : Nat), .slice (some ⟨bx, ox, none⟩) xn xc] : List Value).length = 2))) Ss0.out ?_
          refine wpAnyK_take (i := 14) (v := _) rfl (by kernel_rfl) (by kernel_rfl) (by kernel_rfl) (fun _ _ _ h => h) rfl (by kernel_rfl) (by kernel_rfl) (by decide) (yieldsIf_move (by kernel_rfl) (.tmp 1) rfl (.int .i64 (s : Nat)) (by kernel_rfl)) Ss0.out ?_
          refine wpAnyK_one 15 _ (by kernel_rfl) rfl fun K hK => ?_
          go_simp
          refine (CP.out _).mono ?_
          rintro e vs1 ⟨rfl, l6⟩
          have Ss1 : Hid (vs1.cell? ⟨q, 2, none⟩ = some (.slice (some ⟨g, 0, none⟩) f cv) ∧ vs1.rangeAt g ((f - 1) * 2) [.int .i64 (xa : Nat), .slice (some ⟨bx, ox, none⟩) xn xc]) := ⟨(l6.cell (lt_of_cell Ss0.out.1)).trans Ss0.out.1, range_below Ss0.out.2 l6 hg5.out⟩
          have bs1 : Hid (True) := trivial
          have K6 := Lib.hid ((Below.refl w5.heap.size w5).drew.trans l6)
          clear l6
          refine hK _ _ (fun _ => Ss1.out) ?_
          clear hK K
          refine wpAnyK_one 16 _ (by kernel_rfl) rfl fun K hK => ?_
          go_simp
          refine (CC.out _ K6.out).mono ?_
          rintro e vs2 ⟨v2, rfl, o7, l7⟩
          have Ss2 : Hid (vs2.cell? ⟨q, 2, none⟩ = some (.slice (some ⟨g, 0, none⟩) f cv) ∧ vs2.rangeAt g ((f - 1) * 2) [.int .i64 (xa : Nat), .slice (some ⟨bx, ox, none⟩) xn xc]) := ⟨(l7.cell (lt_of_cell Ss1.out.1)).trans Ss1.out.1, range_below Ss1.out.2 l7 (Nat.lt_of_lt_of_le hg5.out K6.out.size)⟩
          have bs2 : Hid (True) := trivial
          have O7 := Lib.hid (o7.mono K6.out.size)
          have K7 := Lib.hid (K6.out.trans (l7.mono K6.out.size))
          obtain ⟨A1, n1, c1, rfl, _⟩ := o7.own.open
          clear o7 l7
          refine hK _ _ (fun _ => Ss2.out) ?_
          clear hK K
          refine wpAnyK_one 17 _ (by kernel_rfl) rfl fun K hK => ?_
          go_simp
          refine hK _ _ (fun h => Bool.noConfusion (show true = false from h)) ?_
          clear hK K
          refine wpAnyK_frame fun a1 ha1 => ?_
          have e1_64 : a1.eval (.tmp 64) = .pointer (some ⟨g, (f - 1) * 2, none⟩) := by rw [ha1]; kernel_rfl
          have e1_63 : a1.eval (.tmp 63) = .agg #[.int .i64 (xa : Nat), .slice A1 n1 c1] := by rw [ha1]; kernel_rfl
          refine wpAnyK_one 18 _ (by kernel_rfl) rfl fun K hK => ?_
          have BG7 := Lib.hid (BG5.out.below K7.out hg5.out)
          refine step_store_midb (by kernel_rfl) 41 (.tmp 64) (.tmp 63) (by kernel_rfl) g ((f - 1) * 2) e1_64 41 cs [.int .i64 (xa : Nat), .slice A1 n1 c1] e1_63 BG7 2 size_ext rfl hfit (ext_one _ _ rfl) ?_
          intro w8 BG8 P8 hg8
          refine hK _ _ (fun h => Bool.noConfusion (show true = false from h)) ?_
          clear hK K
          rw [ha1]
          refine wpAnyK_done (by kernel_rfl) ?_ _
          have hqg : q ≠ g := fun e => BQ5.out.ne_own O5.out (by decide) (by rw [e]; rfl)
          have BQ8 : Hid (Blk w8 q 49 [.bool true, .int .i64 (L : Nat), .slice (some ⟨g, 0, none⟩) f cv]) := ((BQ5.out.over K7.out).only P8.out hqg)
          go_wp2_with (first
            | ((with_reducible show wpList _ _ _ (⟨none, .store _ _ _, _, _, _, _⟩ :: _) _ _); go_loud (refine wpList_store_fld rfl _ (.tmp 68) (.tmp 66) rfl q 1 rfl _ [.bool true, .int .i64 (L : Nat), .slice (some ⟨g, 0, none⟩) f cv] (.int .i64 (s : Nat)) rfl BQ8 (show 1 < 3 by omega) (by kernel_rfl) rfl ?_); intro w9 BQ9 P9 hq9)
            | fail)
          go_ret
          have hG8 := BG8.out
          have hs57 := K7.out.size
          have hw5 : w.heap.size ≤ w5.heap.size := SP5.out.size
          have O7' := O7.out
          have O8 : OwnZ .u8 5 w8 w5.heap.size (.slice A1 n1 c1) (px.take (s - xa)) := O7'.keep fun i _ hi hcs => P8.out.rest i fun e => by
            subst e
            rw [show vs2.heap[i]? = _ from BG7.out] at hcs
            simp only [Option.some.injEq, Obj.cells.injEq] at hcs
            exact absurd hcs.2.1 (by decide)
          have hY8 : OwnB false w8 base (.slice A1 n1 c1) (px.take (s - xa)) := OwnB.of_z (O8.mono (Nat.le_trans hb hw5)) false
          have hY9 : OwnB false w9 base (.slice A1 n1 c1) (px.take (s - xa)) := hY8.spare (Spare.of_only P9.out) fun i hi e => hY8.ne_blk BQ8.out (by decide) (by rw [hi, e])
          have hE9 : ∀ x ∈ l, OwnB false w9 base (partV x.2) x.2.2.2.2 := fun x hx => by
            have h1 := (EACH5.out x hx).below K7.out
            have h2 := h1.spare (Spare.of_only P8.out) fun i hi e => h1.ne_blk BG7.out (by decide) (by rw [hi, e])
            exact h2.spare (Spare.of_only P9.out) fun i hi e => h2.ne_blk BQ8.out (by decide) (by rw [hi, e])
          have SP9 : Spare (pdS q (.slice (some ⟨g, 0, none⟩) nv cv) l) w w9 := (SP5.out.trans ((Spare.of_over (pdS q (.slice (some ⟨g, 0, none⟩) nv cv) l) K7.out).trans ((Spare.of_only P8.out).mono (S' := pdS q (.slice (some ⟨g, 0, none⟩) nv cv) l) fun j _ hj => .inr (.inl (by rw [hj]; rfl))) fun j _ h => h) fun j _ h => h).trans ((Spare.of_only P9.out).mono (S' := pdS q (.slice (some ⟨g, 0, none⟩) nv cv) l) fun j _ hj => .inl hj) fun j _ h => h
          have hfl := HF.out
          refine ⟨rfl, PDat.wasCut D.out hs65 G0.out G1.out (l' := l.take (f - 1) ++ [((xa, A1, n1, c1, px.take (s - xa)) : ExtV)]) ?_ BQ9.out ?_ (fun x hx => ?_) SP9⟩
          · refine D.out.can.cut_map HLENS.out hfl G0.out (by rw [List.length_append, List.length_take]; show min (f - 1) l.length + 1 = f; omega) (fun i x hi hx => by rw [List.getElem?_append_left (by rw [List.length_take]; omega), List.getElem?_take, if_pos (by omega), hx]) fun x _ hx => ⟨(xa, A1, n1, c1, px.take (s - xa)), ?_, ?_⟩
            · have e1 : (l.take (f - 1)).length = f - 1 := by rw [List.length_take]; omega
              rw [List.getElem?_append_right (by omega), e1, Nat.sub_self]
              rfl
            · rw [HXX.out] at hx
              injection hx with hx
              subst hx
              exact ⟨rfl, rfl⟩
          · have hB9 : Blk w9 g 41 _ := hG8.only P9.out (fun e => hqg e.symm)
            have e1 : (cs.take ((f - 1) * 2)).length = (f - 1) * 2 := by rw [List.length_take, HCL.out]; omega
            have e2 : cs.take ((f - 1) * 2) = (l.take (f - 1)).flatMap extCells := by
              have h4 := congrArg (List.take ((f - 1) * 2)) HTK.out
              rw [List.take_take, Nat.min_eq_left (by omega)] at h4
              rw [h4]
              have h5 : l.take f = l.take (f - 1) ++ (l.take f).drop (f - 1) := by
                conv => lhs; rw [← List.take_append_drop (f - 1) (l.take f)]
                rw [List.take_take, Nat.min_eq_left (by omega)]
              rw [h5, List.flatMap_append, List.take_left' (by rw [flatMap_len extCells_len, List.length_take]; omega)]
            refine OwnS.of_blk extCells_len (D.out.row.block rfl).1 hB9 ?_ hcm (by rw [List.length_append, List.length_take]; show min (f - 1) l.length + 1 = f; omega) hfc ?_
            · have := HCL.out
              simp only [List.length_append, List.length_take, List.length_drop, List.length_cons, List.length_nil]
              omega
            · rw [List.flatMap_append, ← e2, ← List.append_assoc, List.take_left' (by rw [List.length_append, e1]; show (f - 1) * 2 + 2 = f * 2; omega)]
              rfl
          · rcases List.mem_append.1 hx with hx | hx
            · have hm := List.mem_of_mem_take hx
              exact ⟨hE9 x hm, fun i hi => .inl (.inr (.inr ⟨x, hm, hi⟩))⟩
            · rw [List.mem_singleton.1 hx]
              exact ⟨hY9, fun i hi => .inr (Nat.le_trans hw5 (O8.own.block hi).1)⟩
        · have hdc : decide ((s : Int) < (xa : Int) + (xn : Int)) = false := decide_eq_false (by omega)
          go_wp2_with (first
            | ((with_reducible show wpList _ _ _ (⟨none, .store _ _ _, _, _, _, _⟩ :: _) _ _); go_loud (refine wpList_store_fld rfl _ (.tmp 68) (.tmp 66) rfl q 1 rfl _ [.bool true, .int .i64 (L : Nat), .slice (some ⟨g, 0, none⟩) f cv] (.int .i64 (s : Nat)) rfl BQ5 (show 1 < 3 by omega) (by kernel_rfl) rfl ?_); intro w6 BQ6 P6 hq6)
            | fail)
          go_ret
          refine ⟨rfl, PDat.wasCut D.out hs65 G0.out G1.out (l' := l.take f) ?_ BQ6.out ?_ (fun x hx => ⟨(EACH5.out x (List.mem_of_mem_take hx)).spare (Spare.of_only P6.out) fun i hi e => (EACH5.out x (List.mem_of_mem_take hx)).ne_blk BQ5.out (by decide) (by rw [hi, e]), fun i hi => .inl (.inr (.inr ⟨x, List.mem_of_mem_take hx, hi⟩))⟩) (SP5.out.trans ((Spare.of_only P6.out).mono (S' := pdS q (.slice (some ⟨g, 0, none⟩) nv cv) l) fun j _ hj => .inl hj) fun j _ h => h)⟩
          · refine D.out.can.cut_map HLENS.out HF.out G0.out (by rw [List.length_take]; have := HF.out; omega) (fun i x hi hx => by rw [List.getElem?_take, if_pos (by omega), hx]) fun x _ hx => ⟨x, by rw [List.getElem?_take, if_pos (by omega), hx], rfl, ?_⟩
            rw [HXX.out] at hx
            injection hx with hx
            subst hx
            exact (List.take_of_length_le (show px.length ≤ s - xa by have := HLX.out; omega)).symm
          · exact O5.out.sparS (Spare.of_only P6.out) fun i hi e => BQ5.out.ne_own O5.out (by decide) (by rw [hi, e])
end Go.Proofs.Ytgbhnnobbciemaa
