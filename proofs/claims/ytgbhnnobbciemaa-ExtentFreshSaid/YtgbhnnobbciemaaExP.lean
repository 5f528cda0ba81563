/-
  Layer 14 (extent): acts played on both files: the same behind them (written by tools/gen_ex6.py).
-/
import Derived.Test.YtgbhnnobbciemaaExK
namespace Go.Proofs.Ytgbhnnobbciemaa
set_option maxRecDepth 100000
open Go.RowKit
set_option linter.unusedVariables false

section
variable {P : Program} {ops : Array Oper} {md : Region.Mode} {S S' : World → Prop} {Q : Exit → Act → World → Prop}
/-- a stronger condition serves -/
theorem wpAnyH_strong (hS : ∀ w, S' w → S w) : ∀ (fuel : Nat) (listed : Array Bool) (a : Act) (w : World), wpAnyH P md ops Q S' fuel listed a w → wpAnyH P md ops Q S fuel listed a w
  | 0, _, _, _, h => h
  | fuel + 1, _, _, _, h => ⟨h.1, fun i hi => wpOp_mono (fun a' w' h' => ⟨hS _ h'.1, wpAnyH_strong hS fuel _ a' w' h'.2⟩) (h.2 i hi)⟩
/-- a struct out of a row, taken first -/
theorem yieldsIf_load_range {op : Oper} {a : Act} (hw : Region.wanted op (yielded ops a.tmps) = true) (T : TypeId) (x : Operand) (ho : op.op = .load T x) (g i : Nat) (hx : a.eval x = .pointer (some ⟨g, i, none⟩)) (cs : List Value)
    (hS : ∀ w, S w → w.rangeAt g i cs) (n : Nat) (d : TypeDesc) (hu : P.underlying T = some d) (hd : d.isRow = true) (hi : (P.info? T).map (·.size) = some n) (hn : Hid (cs.length = n)) : YieldsIf P ops S op (.agg cs.toArray) a :=
  .inl ⟨hw, fun w hw' => by
    unfold execOp
    simp only [ho, hx, Instr.loadAt, Instr.sureAddr, Sem.run_bind, Sem.run_pure, Result.andThen_ok, run_loadVar_mid w g i T cs d (hS w hw') hu hd (by rw [hi, hn.out])]⟩
end
theorem range_below {w w' : World} {B b i : Nat} {cs : List Value} (h : w.rangeAt b i cs) (hb : Below B w w') (hlt : b < B) : w'.rangeAt b i cs := fun j v hj => by
  rw [hb.cell (p := ⟨b, i + j, none⟩) hlt]
  exact h j v hj
theorem size_act : (Try.prog.info? 56).map (·.size) = some 4 := by kernel_rfl
def PlayPost (I : ExtI) (w : World) (l : List ActV) (m : Nat) (e : Ending) (w' : World) : Prop :=
  ∃ q g S vB vZ, e = .returned (.tuple #[ptr q, .pointer (some ⟨g, 0, none⟩), .bool true]) ∧ Two I w' w.heap.size q S g vB vZ (actsB l m) (actsZ l m) (actsB l m) (actsZ l m) ∧ Below w.heap.size w w'

theorem exts_small {B : List Int} {Z : List Bool} {l : List ExtV} (hb : B.length ≤ 65536) (hl : extsL l = exts B Z) : l.length ≤ 70368744177664 ∧ ∀ x ∈ l, x.1 ≤ 70368744177664 := by
  refine ⟨?_, fun x hx => ?_⟩
  · have h1 := congrArg List.length hl
    rw [extsL_len] at h1
    have := extN_count B Z B.length
    unfold exts at h1
    omega
  · have h1 : (x.1, x.2.2.2.2) ∈ exts B Z := by
      rw [← hl]
      exact List.mem_map.2 ⟨x, hx, rfl⟩
    have := (exts_ok B Z).ends _ h1
    simp only at this
    omega
set_option maxHeartbeats 4000000 in
theorem Played_any (I : ExtI) (w : World) (A : Option Addr) (n c : Nat) (l : List ActV) (hl : LAct w w.heap.size A n c l) (hn : n ≤ 140737488355328) :
    Calls Try.prog 11 #[.slice A n c] w (PlayPost I w l (min n 60)) := by
  obtain ⟨m, hm⟩ : ∃ m, m = min n 60 := ⟨_, rfl⟩
  have hmn : m ≤ n := by omega
  have hm6 : m ≤ 60 := by omega
  have HMN : Hid (m = n ∨ m = 60) := by show _ ∨ _; omega
  rw [← hm]
  clear hm
  have HL := Lib.hid hl
  clear hl
  go_enter Try.func11, Try.ntmps11
  go_wp2_with fail
  refine (I.new w).mono ?_
  rintro e w1 ⟨q, S, rfl, x0, l0⟩
  have X0 := Lib.hid x0
  have L0 := Lib.hid l0
  clear x0 l0
  go_wp2_with (first
    | ((with_reducible show wpList _ _ _ (⟨some 10, _, _, _, _, _⟩ :: _) _ _); refine wpList_box_blk rfl _ (.tmp 9) rfl [.slice none 0 0, .slice none 0 0] rfl ?_; intro g w2 hg1 hg2 k2 l2)
    | fail)
  have T2 : Hid (Two I w2 w.heap.size q S g (.slice none 0 0) (.slice none 0 0) [] [] [] []) := by
    refine ⟨I.keep X0.out (Spare.of_over (fun _ => False) l2.out) fun _ _ h => h, ⟨Nat.le_trans L0.out.size hg1, k2.out, OwnF.nil _ _ _ _, OwnF.nil _ _ _ _, rfl, by decide, fun _ h => by cases h⟩, fun j hj hr => ?_, Nat.le_trans L0.out.size l2.out.size⟩
    rcases hr with h1 | h1 | h1
    · have := (I.ge X0.out j hj).2
      omega
    · cases h1
    · cases h1
  have L2 := Lib.hid (L0.out.trans (l2.out.mono L0.out.size))
  clear X0 L0 k2 l2
  go_loopw [7] (fun I' wr => ∃ (i : Nat) (S : Nat → Prop) (vB vZ : Value), i ≤ m ∧ I' = .int .i64 (i : Nat) ∧ Hid (Two I wr w.heap.size q S g vB vZ (actsB l i) (actsZ l i) (actsB l i) (actsZ l i)) ∧ Hid (Below w.heap.size w wr)) (fun I' _ => m - (intOf I').toNat)
  case atStart => exact ⟨0, S, _, _, Nat.zero_le _, rfl, T2, L2⟩
  case round =>
    obtain ⟨i, S, vB, vZ, hi, rfl, TR, LR⟩ := hrel
    by_cases him : i < m
    · have hin : i < n := by omega
      have hi60 : i < 60 := by omega
      obtain ⟨k, o, x, rfl, hk, hx, hax, hrx⟩ := HL.out.at hin
      have HAX := Lib.hid (hax.below LR.out)
      have hrx' := range_below hrx LR.out hk
      obtain ⟨cs, hcs⟩ : ∃ cs, cs = actCells x := ⟨_, rfl⟩
      have HCL : Hid (cs.length = 4) := by rw [hcs]; exact actCells_len x
      rw [← hcs] at hrx'
      have RX := Lib.hid hrx'
      have TRd : Hid (Two I wr.drew w.heap.size q S g vB vZ (actsB l i) (actsZ l i) (actsB l i) (actsZ l i)) := TR.out.below (drewed wr 1)
      have HAXd : Hid (ActOk wr.drew w.heap.size x) := HAX.out.below ((drewed wr 1).mono TR.out.hb)
      have CA := Lib.hid (Act_any I wr.drew w.heap.size q S g vB vZ _ _ x TRd.out HAXd.out)
      rw [← hcs] at CA
      have HBn := Lib.hid (actsB_succ hx)
      have HZn := Lib.hid (actsZ_succ hx)
      have hi' : i + 1 ≤ m := by omega
      clear hcs hx hax hrx hrx'
      go_upto_region 5 with fail
      refine wp_region_held (S := fun w' => w'.rangeAt k (o + i * 4) cs) (by kernel_rfl) ?_
      change wpAnyH _ _ _ _ _ _ _ _ wr.drew
      have Sr0 : Hid (wr.drew.rangeAt k (o + i * 4) cs) := RX.out
      have br0 : Hid (True) := trivial
      refine wpAnyH_take (i := 0) (v := _) rfl (by kernel_rfl) (by kernel_rfl) (by kernel_rfl) (fun _ _ _ h => h) (yieldsIf_move (by kernel_rfl) (.tmp 5) rfl (ptr q) (by kernel_rfl)) Sr0.out ?_
      refine wpAnyH_take (i := 1) (v := _) rfl (by kernel_rfl) (by kernel_rfl) (by kernel_rfl) (fun _ _ _ h => h) (yieldsIf_move (by kernel_rfl) (.tmp 6) rfl (.pointer (some ⟨g, 0, none⟩)) (by kernel_rfl)) Sr0.out ?_
      refine wpAnyH_take (i := 2) (v := _) rfl (by kernel_rfl) (by kernel_rfl) (by kernel_rfl) (fun _ _ _ h => h) (yieldsIf_move (by kernel_rfl) (.tmp 0) rfl (.slice (some ⟨k, o, none⟩) n c) (by kernel_rfl)) Sr0.out ?_
      refine wpAnyH_take (i := 3) (v := _) rfl (by kernel_rfl) (by kernel_rfl) (by kernel_rfl) (fun _ _ _ h => h) (yieldsIf_move (by kernel_rfl) (.tmp 7) rfl (.int .i64 (i : Nat)) (by kernel_rfl)) Sr0.out ?_
      refine wpAnyH_take (i := 4) (v := .pointer (some ⟨k, o + i * 4, none⟩)) rfl (by kernel_rfl) (by kernel_rfl) (by kernel_rfl) (fun _ _ _ h => h) (.inl ⟨by kernel_rfl, fun w _ => by go_simp⟩) Sr0.out ?_
      refine wpAnyH_take (i := 5) (v := _) rfl (by kernel_rfl) (by kernel_rfl) (by kernel_rfl) (fun _ _ _ h => h) (yieldsIf_load_range (by kernel_rfl) _ (.tmp 25) rfl k (o + i * 4) (by kernel_rfl) cs (fun _ h => h) 4 _ Try.underlying56 rfl size_act HCL) Sr0.out ?_
      refine wpAnyH_one 6 _ (by kernel_rfl) rfl fun K hK => ?_
      go_simp
      refine (CA.out).mono ?_
      rintro e vr1 ⟨rfl, S1, vB1, vZ1, t1, l1⟩
      have Sr1 : Hid (vr1.rangeAt k (o + i * 4) cs) := range_below Sr0.out l1 hk
      have br1 : Hid (True) := trivial
      have T1 := Lib.hid t1
      have L1 := Lib.hid l1
      obtain ⟨Ab, nb, cb, rfl, hbl, _⟩ := t1.r.rowB.open
      have HBL := Lib.hid hbl
      have G1 : Hid (vr1.cell? ⟨g, 0, none⟩ = some (.slice Ab nb cb)) := t1.r.blk.cell 0
      have CZ : Hid (Calls Try.prog 17 #[ptr q] vr1 fun e w' => e = .returned (.int .i64 (nb : Nat)) ∧ ∃ k, vr1.drewN k = w') := by have := I.size t1.x; rw [hbl] at this; exact this
      clear t1 l1 hbl
      refine hK _ _ Sr1.out ?_
      clear hK K 
      refine wpAnyH_strong (S' := fun w' => w'.rangeAt k (o + i * 4) cs ∧ w'.cell? ⟨g, 0, none⟩ = some (.slice Ab nb cb)) (fun _ h => h.1) _ _ _ _ ?_
      have Sr2 : Hid (vr1.rangeAt k (o + i * 4) cs ∧ vr1.cell? ⟨g, 0, none⟩ = some (.slice Ab nb cb)) := ⟨Sr1.out, G1.out⟩
      refine wpAnyH_take (i := 7) (v := .bool false) rfl (by kernel_rfl) (by kernel_rfl) (by kernel_rfl) (fun _ _ _ h => h) (.inl ⟨by kernel_rfl, fun w _ => by go_simp⟩) Sr2.out ?_
      refine wpAnyH_take (i := 8) (v := _) rfl (by kernel_rfl) (by kernel_rfl) (by kernel_rfl) (fun _ _ _ h => h) (yieldsIf_move (by kernel_rfl) (.tmp 28) rfl (.bool false) (by kernel_rfl)) Sr2.out ?_
      refine wpAnyH_take (i := 9) (v := _) rfl (by kernel_rfl) (by kernel_rfl) (by kernel_rfl) (fun _ _ _ h => h) (yieldsIf_move (by kernel_rfl) (.tmp 5) rfl (ptr q) (by kernel_rfl)) Sr2.out ?_
      refine wpAnyH_take (i := 11) (v := _) rfl (by kernel_rfl) (by kernel_rfl) (by kernel_rfl) (fun _ _ _ h => h) (yieldsIf_move (by kernel_rfl) (.tmp 6) rfl (.pointer (some ⟨g, 0, none⟩)) (by kernel_rfl)) Sr2.out ?_
      refine wpAnyH_take (i := 12) (v := _) rfl (by kernel_rfl) (by kernel_rfl) (by kernel_rfl) (fun _ _ _ h => h) (yieldsIf_nil (by kernel_rfl) (.tmp 32) rfl ⟨g, 0, none⟩ (by kernel_rfl)) Sr2.out ?_
      refine wpAnyH_take (i := 13) (v := _) rfl (by kernel_rfl) (by kernel_rfl) (by kernel_rfl) (fun _ _ _ h => h) (yieldsIf_fld (by kernel_rfl) _ (.tmp 33) 0 rfl (.pointer (some ⟨g, 0, none⟩)) (.pointer (some ⟨g, 0, none⟩)) (by kernel_rfl) (fun w => by go_simp)) Sr2.out ?_
      refine wpAnyH_take (i := 14) (v := _) rfl (by kernel_rfl) (by kernel_rfl) (by kernel_rfl) (fun _ _ _ h => h) (yieldsIf_load_one (by kernel_rfl) _ (.tmp 34) rfl g (0) (by kernel_rfl) (.slice Ab nb cb) (fun _ h => h.2) _ Try.underlying29 rfl) Sr2.out ?_
      refine wpAnyH_take (i := 15) (v := .int .i64 (nb : Nat)) rfl (by kernel_rfl) (by kernel_rfl) (by kernel_rfl) (fun _ _ _ h => h) (.inl ⟨by kernel_rfl, fun w _ => by go_simp⟩) Sr2.out ?_
      refine wpAnyH_one 10 _ (by kernel_rfl) rfl fun K hK => ?_
      go_simp
      refine (CZ.out).mono ?_
      rintro e vr2 ⟨rfl, j, rfl⟩
      have Sr2 : Hid ((vr1.drewN j).rangeAt k (o + i * 4) cs ∧ (vr1.drewN j).cell? ⟨g, 0, none⟩ = some (.slice Ab nb cb)) := Sr2.out
      have br2 : Hid (True) := trivial
      refine hK _ _ Sr2.out ?_
      clear hK K 
      refine wpAnyH_one 16 _ (by kernel_rfl) rfl fun K hK => ?_
      go_simp
      refine hK _ _ Sr2.out ?_
      clear hK K
      refine wpAnyH_one 17 _ (by kernel_rfl) rfl fun K hK => ?_
      go_simp
      refine hK _ _ Sr2.out ?_
      clear hK K
      refine wpAnyH_done (by kernel_rfl) ?_ _
      go_wp2_with fail
      go_roundw
      case rel => exact ⟨i + 1, S1, _, _, hi', by go_num, by rw [HBn.out, HZn.out]; exact T1.out.drewN j, (LR.out.trans (((drewed wr 1).mono TR.out.hb).trans L1.out)).trans ((drewed vr1 j).mono T1.out.hb)⟩
      case measure => simp [intOf]; omega
    · obtain rfl : i = m := by omega
      rcases HMN.out with h1 | h1
      · have h2 : ¬ (i : Int) < (n : Int) := by omega
        go_wp2_with fail
        refine (I.extents TR.out.x).mono ?_
        rintro e w3 ⟨Ax, nx, cx, lx, rfl, x3, h3, l3⟩
        have X3 := Lib.hid x3
        have H3 := Lib.hid h3
        have L3 := Lib.hid l3
        have T3 := Lib.hid (TR.out.below l3)
        clear x3 h3 l3
        go_wp2_with fail
        refine (RExExtents_any w3 w.heap.size g vB vZ _ _ T3.out.r).mono ?_
        rintro e w4 ⟨v, ly, rfl, o4, h4, l4⟩
        obtain ⟨Ay, ny, cy, rfl, y4⟩ := o4.lst
        have X4 := Lib.hid (X3.out.lst.over l4)
        have Y4 := Lib.hid y4
        have H4 := Lib.hid h4
        have L4 := Lib.hid l4
        have T4 := Lib.hid (T3.out.below l4)
        clear o4 y4 h4 l4
        have SX := Lib.hid (exts_small (I.okB TR.out.x).2.1 H3.out)
        have SY := Lib.hid (exts_small (I.okB TR.out.x).2.1 H4.out)
        have NX : Hid (nx ≤ 70368744177664) := by have := X4.out.len; have := SX.out.1; show nx ≤ _; omega
        have NY : Hid (ny ≤ 70368744177664) := by have := Y4.out.len; have := SY.out.1; show ny ≤ _; omega
        have CS := Lib.hid (RExSame_any w4 _ _ _ _ _ _ _ _ lx ly X4.out Y4.out NX.out NY.out SX.out.2 SY.out.2)
        go_wp2_with fail
        refine CS.out.mono ?_
        rintro e w5 ⟨rfl, j, rfl⟩
        have HE : Hid (decide (extsL lx = extsL ly) = true) := by show _ = _; rw [H3.out, H4.out]; simp
        rw [HE.out]
        go_wp2_with fail
        go_ret3
        exact ⟨q, g, S, vB, vZ, rfl, T4.out.drewN j, (LR.out.trans ((L3.out.mono TR.out.hb).trans (L4.out.mono T3.out.hb))).trans ((drewed w4 j).mono T4.out.hb)⟩
      · have h2 : ¬ (i : Int) < 60 := by omega
        by_cases h3 : i < n
        · have h3' : (i : Int) < (n : Int) := by omega
          go_wp2_with fail
          refine (I.extents TR.out.x).mono ?_
          rintro e w3 ⟨Ax, nx, cx, lx, rfl, x3, h3, l3⟩
          have X3 := Lib.hid x3
          have H3 := Lib.hid h3
          have L3 := Lib.hid l3
          have T3 := Lib.hid (TR.out.below l3)
          clear x3 h3 l3
          go_wp2_with fail
          refine (RExExtents_any w3 w.heap.size g vB vZ _ _ T3.out.r).mono ?_
          rintro e w4 ⟨v, ly, rfl, o4, h4, l4⟩
          obtain ⟨Ay, ny, cy, rfl, y4⟩ := o4.lst
          have X4 := Lib.hid (X3.out.lst.over l4)
          have Y4 := Lib.hid y4
          have H4 := Lib.hid h4
          have L4 := Lib.hid l4
          have T4 := Lib.hid (T3.out.below l4)
          clear o4 y4 h4 l4
          have SX := Lib.hid (exts_small (I.okB TR.out.x).2.1 H3.out)
          have SY := Lib.hid (exts_small (I.okB TR.out.x).2.1 H4.out)
          have NX : Hid (nx ≤ 70368744177664) := by have := X4.out.len; have := SX.out.1; show nx ≤ _; omega
          have NY : Hid (ny ≤ 70368744177664) := by have := Y4.out.len; have := SY.out.1; show ny ≤ _; omega
          have CS := Lib.hid (RExSame_any w4 _ _ _ _ _ _ _ _ lx ly X4.out Y4.out NX.out NY.out SX.out.2 SY.out.2)
          go_wp2_with fail
          refine CS.out.mono ?_
          rintro e w5 ⟨rfl, j, rfl⟩
          have HE : Hid (decide (extsL lx = extsL ly) = true) := by show _ = _; rw [H3.out, H4.out]; simp
          rw [HE.out]
          go_wp2_with fail
          go_ret3
          exact ⟨q, g, S, vB, vZ, rfl, T4.out.drewN j, (LR.out.trans ((L3.out.mono TR.out.hb).trans (L4.out.mono T3.out.hb))).trans ((drewed w4 j).mono T4.out.hb)⟩
        · have h3' : ¬ (i : Int) < (n : Int) := by omega
          go_wp2_with fail
          refine (I.extents TR.out.x).mono ?_
          rintro e w3 ⟨Ax, nx, cx, lx, rfl, x3, h3, l3⟩
          have X3 := Lib.hid x3
          have H3 := Lib.hid h3
          have L3 := Lib.hid l3
          have T3 := Lib.hid (TR.out.below l3)
          clear x3 h3 l3
          go_wp2_with fail
          refine (RExExtents_any w3 w.heap.size g vB vZ _ _ T3.out.r).mono ?_
          rintro e w4 ⟨v, ly, rfl, o4, h4, l4⟩
          obtain ⟨Ay, ny, cy, rfl, y4⟩ := o4.lst
          have X4 := Lib.hid (X3.out.lst.over l4)
          have Y4 := Lib.hid y4
          have H4 := Lib.hid h4
          have L4 := Lib.hid l4
          have T4 := Lib.hid (T3.out.below l4)
          clear o4 y4 h4 l4
          have SX := Lib.hid (exts_small (I.okB TR.out.x).2.1 H3.out)
          have SY := Lib.hid (exts_small (I.okB TR.out.x).2.1 H4.out)
          have NX : Hid (nx ≤ 70368744177664) := by have := X4.out.len; have := SX.out.1; show nx ≤ _; omega
          have NY : Hid (ny ≤ 70368744177664) := by have := Y4.out.len; have := SY.out.1; show ny ≤ _; omega
          have CS := Lib.hid (RExSame_any w4 _ _ _ _ _ _ _ _ lx ly X4.out Y4.out NX.out NY.out SX.out.2 SY.out.2)
          go_wp2_with fail
          refine CS.out.mono ?_
          rintro e w5 ⟨rfl, j, rfl⟩
          have HE : Hid (decide (extsL lx = extsL ly) = true) := by show _ = _; rw [H3.out, H4.out]; simp
          rw [HE.out]
          go_wp2_with fail
          go_ret3
          exact ⟨q, g, S, vB, vZ, rfl, T4.out.drewN j, (LR.out.trans ((L3.out.mono TR.out.hb).trans (L4.out.mono T3.out.hb))).trans ((drewed w4 j).mono T4.out.hb)⟩
end Go.Proofs.Ytgbhnnobbciemaa
