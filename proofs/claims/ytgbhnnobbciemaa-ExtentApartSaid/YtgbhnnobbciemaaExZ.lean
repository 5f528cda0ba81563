/-
  Layer 14 (extent): Extents and Copy of the program's file; the program's file is such as the laws want it ('theExt') (written by tools/gen_exz.py).
-/
import Derived.Test.YtgbhnnobbciemaaExJ
import Derived.Test.YtgbhnnobbciemaaExI
namespace Go.Proofs.Ytgbhnnobbciemaa
set_option maxRecDepth 100000
open Go.RowKit
set_option linter.unusedVariables false

section
variable {P : Program} {ops : Array Oper} {o : Oper} {a : Act} {w : World} {Q : Exit → Act → World → Prop}
theorem step_box_blk {K : Act → World → Prop} {E : Prop} (hg : o.guard = none) (T : TypeId) (x : Operand) (ho : o.op = .box T x) (cs : List Value) (hx : a.eval x = .agg cs.toArray)
    (h : ∀ g w', w.heap.size ≤ g → g < w'.heap.size → Hid (Blk w' g T cs) → Hid (Below w.heap.size w w') → K (a.put o.dst (.pointer (some ⟨g, 0, none⟩))) w') :
    if Region.wanted o (yielded ops a.tmps) = true then Oper.wp P o a w K Q else E := by
  have hw : Region.wanted o (yielded ops a.tmps) = true := by simp [Region.wanted, hg]
  rw [if_pos hw]
  unfold Oper.wp execOp
  simp only [ho, hx, Sem.run_bind, Instr.box, newVar, newRow, run_newObj_alloc, Sem.run_pure, Result.andThen_ok]
  exact h _ _ (Nat.le_refl _) (by simp) (Blk.new w T cs) ((Below.refl _ _).alloc (Nat.le_refl _) _)
end

theorem PDat.small_len {w : World} {base q : Nat} {v : Value} {l : List ExtV} {B : List Int} {Z : List Bool} (d : PDat w base q v l B Z) : ∀ x ∈ l, x.2.2.1 ≤ 65536 := fun x hx => by
  have h1 := d.ends x hx
  have h2 := d.small
  omega
theorem bytes_of_exts {w : World} {base q : Nat} {v : Value} {l l' : List ExtV} {B : List Int} {Z : List Bool} (d : PDat w base q v l B Z) (h : extsL l' = extsL l) : ∀ x ∈ l', Bytes x.2.2.2.2 ∧ x.2.2.2.2.length ≤ 65536 := fun x hx => by
  have hm := extsL_mem hx
  rw [h] at hm
  have h1 := d.can.have_ _ hm
  have h2 := d.can.ends _ hm
  have h3 := d.small
  simp only at h1 h2
  exact ⟨by rw [h1]; exact (d.byte.drop _).take _, by omega⟩

set_option maxHeartbeats 4000000 in
theorem PExtents_any (w : World) (base q : Nat) (v : Value) (l : List ExtV) (B : List Int) (Z : List Bool) (d : PDat w base q v l B Z) :
    Calls Try.prog 18 #[ptr q] w fun e w' => ∃ A n c l', e = .returned (.slice A n c) ∧ XExt w' w.heap.size w'.heap.size A n c l' ∧ extsL l' = exts B Z ∧ Below w.heap.size w w' := by
  obtain ⟨A, n, c, rfl, hv⟩ := d.lst
  have q2 : w.cell? ⟨q, 2, none⟩ = some (.slice A n c) := d.blk.cell 2
  have hn : n ≤ 65536 := by have := hv.len; have := d.lenS; omega
  have CA := Lib.hid (allCopied_any w A n c l hv hn d.small_len)
  have D := Lib.hid d
  clear d hv
  unfold ptr
  go_enter Try.func18, Try.ntmps18
  go_wp2_with fail
  refine CA.out.mono ?_
  rintro e w' ⟨q', l', rfl, o, z, ee, lw⟩
  have O := Lib.hid o
  have ZZ := Lib.hid z
  have EE := Lib.hid ee
  have LW := Lib.hid lw
  clear o z ee lw CA
  go_wp2_with fail
  go_ret
  have hB := bytes_of_exts D.out EE.out
  obtain ⟨hq, hlen, hnc, hcm, cs, hblk, _⟩ := O.out.blk
  refine ⟨_, _, _, l', rfl, ⟨⟨?_, fun x hx => (OwnB.of_z (ZZ.out x hx) false).holds (hB x hx).1 (by have := (hB x hx).2; omega)⟩, fun x hx => ?_, fun x hx y hy => ?_, fun x hx => Loose.of (ZZ.out x hx) (Nat.le_refl _)⟩, ?_, LW.out⟩
  · obtain ⟨A2, n2, c2, e2, h2⟩ := O.out.holds (by decide) extCells_len
    injection e2 with e3 e4 e5
    subst e3 e4 e5
    exact h2
  · injection hx with hx
    subst hx
    exact ⟨hq, hblk.lt⟩
  · have h1 : (partV x.2).ownBlock = some y.block := by
      show (Value.slice x.2.1 _ _).ownBlock = _
      rw [hy]
      rfl
    obtain ⟨h2, cs2, h3⟩ := (ZZ.out x hx).own.block h1
    exact ⟨h2, (Array.getElem?_eq_some_iff.1 h3).1⟩
  · rw [EE.out]
    exact D.out.can.is_exts D.out.len

set_option maxHeartbeats 4000000 in
theorem PCopy_any (w : World) (base q : Nat) (v : Value) (l : List ExtV) (B : List Int) (Z : List Bool) (d : PDat w base q v l B Z) :
    Calls Try.prog 20 #[ptr q] w fun e w' => ∃ q' v' l', e = .returned (ptr q') ∧ PDat w' w.heap.size q' v' l' B Z ∧ Below w.heap.size w w' := by
  obtain ⟨A, n, c, rfl, hv⟩ := d.lst
  have q0 : w.cell? ⟨q, 0, none⟩ = some (.bool true) := d.blk.cell 0
  have q1 : w.cell? ⟨q, 1, none⟩ = some (.int .i64 (B.length : Nat)) := d.blk.cell 1
  have q2 : w.cell? ⟨q, 2, none⟩ = some (.slice A n c) := d.blk.cell 2
  have CN := Lib.hid (none_any w q q0)
  have hn : n ≤ 65536 := by have := hv.len; have := d.lenS; omega
  have CA := Lib.hid (allCopied_any w.drew A n c l (hv.drewN 1) hn d.small_len)
  have D := Lib.hid d
  obtain ⟨L, hL⟩ : ∃ n, n = B.length := ⟨_, rfl⟩
  have HLL := Lib.hid hL
  rw [← hL] at q1
  clear d hv hL
  unfold ptr
  go_enter Try.func20, Try.ntmps20
  go_wp2_with fail
  refine CN.out.mono ?_
  rintro e w1 ⟨rfl, rfl⟩
  go_upto_region 3 with fail
  refine wp_region_held (S := fun w' => w'.cell? ⟨q, 1, none⟩ = some (.int .i64 (L : Nat)) ∧ w'.cell? ⟨q, 2, none⟩ = some (.slice A n c)) (by kernel_rfl) ?_
  change wpAnyH _ _ _ _ _ _ _ _ w.drew
  have Sr0 : Hid (w.drew.cell? ⟨q, 1, none⟩ = some (.int .i64 (L : Nat)) ∧ w.drew.cell? ⟨q, 2, none⟩ = some (.slice A n c)) := ⟨q1, q2⟩
  have br0 : Hid (True) := trivial
  refine wpAnyH_take (i := 0) (v := _) rfl (by kernel_rfl) (by kernel_rfl) (by kernel_rfl) (fun _ _ _ h => h) (yieldsIf_move (by kernel_rfl) (.tmp 0) rfl (.pointer (some ⟨q, 0, none⟩)) (by kernel_rfl)) Sr0.out ?_
  refine wpAnyH_take (i := 1) (v := _) rfl (by kernel_rfl) (by kernel_rfl) (by kernel_rfl) (fun _ _ _ h => h) (yieldsIf_nil (by kernel_rfl) (.tmp 5) rfl ⟨q, 0, none⟩ (by kernel_rfl)) Sr0.out ?_
  refine wpAnyH_take (i := 2) (v := _) rfl (by kernel_rfl) (by kernel_rfl) (by kernel_rfl) (fun _ _ _ h => h) (yieldsIf_fld (by kernel_rfl) _ (.tmp 6) 1 rfl (.pointer (some ⟨q, 0, none⟩)) (.pointer (some ⟨q, 1, none⟩)) (by kernel_rfl) (fun w => by go_simp)) Sr0.out ?_
  refine wpAnyH_take (i := 3) (v := _) rfl (by kernel_rfl) (by kernel_rfl) (by kernel_rfl) (fun _ _ _ h => h) (yieldsIf_load_one (by kernel_rfl) _ (.tmp 7) rfl q (1) (by kernel_rfl) (.int .i64 (L : Nat)) (fun _ h => h.1) _ Try.underlying3 rfl) Sr0.out ?_
  refine wpAnyH_take (i := 4) (v := _) rfl (by kernel_rfl) (by kernel_rfl) (by kernel_rfl) (fun _ _ _ h => h) (yieldsIf_move (by kernel_rfl) (.tmp 0) rfl (.pointer (some ⟨q, 0, none⟩)) (by kernel_rfl)) Sr0.out ?_
  refine wpAnyH_take (i := 5) (v := _) rfl (by kernel_rfl) (by kernel_rfl) (by kernel_rfl) (fun _ _ _ h => h) (yieldsIf_nil (by kernel_rfl) (.tmp 9) rfl ⟨q, 0, none⟩ (by kernel_rfl)) Sr0.out ?_
  refine wpAnyH_take (i := 6) (v := _) rfl (by kernel_rfl) (by kernel_rfl) (by kernel_rfl) (fun _ _ _ h => h) (yieldsIf_fld (by kernel_rfl) _ (.tmp 10) 2 rfl (.pointer (some ⟨q, 0, none⟩)) (.pointer (some ⟨q, 2, none⟩)) (by kernel_rfl) (fun w => by go_simp)) Sr0.out ?_
  refine wpAnyH_take (i := 7) (v := _) rfl (by kernel_rfl) (by kernel_rfl) (by kernel_rfl) (fun _ _ _ h => h) (yieldsIf_load_one (by kernel_rfl) _ (.tmp 11) rfl q (2) (by kernel_rfl) (.slice A n c) (fun _ h => h.2) _ Try.underlying38 rfl) Sr0.out ?_
  refine wpAnyH_one 8 _ (by kernel_rfl) rfl fun K hK => ?_
  go_simp
  refine (CA.out).mono ?_
  rintro e vr1 ⟨q', l', rfl, o3, z3, e3, l3⟩
  have Sr1 : Hid (vr1.cell? ⟨q, 1, none⟩ = some (.int .i64 (L : Nat)) ∧ vr1.cell? ⟨q, 2, none⟩ = some (.slice A n c)) := ⟨(l3.cell (lt_of_cell Sr0.out.1)).trans Sr0.out.1, (l3.cell (lt_of_cell Sr0.out.2)).trans Sr0.out.2⟩
  have br1 : Hid (True) := trivial
  have O3 := Lib.hid o3
  have Z3 := Lib.hid z3
  have E3 := Lib.hid e3
  have L3 := Lib.hid ((Below.refl w.heap.size w).drew.trans l3)
  clear o3 z3 e3 l3
  refine hK _ _ Sr1.out ?_
  clear hK K 
  refine wpAnyH_take (i := 9) (v := _) rfl (by kernel_rfl) (by kernel_rfl) (by kernel_rfl) (fun _ _ _ h => h) (yieldsIf_build_blk (by kernel_rfl) _ _ rfl [.bool true, .int .i64 (L : Nat), .slice (some ⟨q', 0, none⟩) n n] (by kernel_rfl)) Sr1.out ?_
  refine wpAnyH_one 10 _ (by kernel_rfl) rfl fun K hK => ?_
  refine step_box_blk rfl _ (.tmp 14) rfl [.bool true, .int .i64 (L : Nat), .slice (some ⟨q', 0, none⟩) n n] rfl ?_
  intro q4 w4 h41 h42 B4 L4
  have Sr2 : Hid (w4.cell? ⟨q, 1, none⟩ = some (.int .i64 (L : Nat)) ∧ w4.cell? ⟨q, 2, none⟩ = some (.slice A n c)) := ⟨(L4.out.cell (lt_of_cell Sr1.out.1)).trans Sr1.out.1, (L4.out.cell (lt_of_cell Sr1.out.2)).trans Sr1.out.2⟩
  refine hK _ _ Sr2.out ?_
  clear hK K
  refine wpAnyH_one 11 _ (by kernel_rfl) rfl fun K hK => ?_
  go_simp
  refine hK _ _ Sr2.out ?_
  clear hK K
  refine wpAnyH_done (by kernel_rfl) ?_ _
  go_wp2_with fail
  go_ret
  have hs3 : w.heap.size ≤ vr1.heap.size := L3.out.size
  have hB := B4.out
  refine ⟨q4, .slice (some ⟨q', 0, none⟩) n n, l', rfl, ⟨Nat.le_trans hs3 h41, by rw [← HLL.out]; exact hB, O3.out.below L4.out, fun x hx => (OwnB.of_z (Z3.out x hx) false).below L4.out, by rw [E3.out]; exact D.out.can, D.out.zero, D.out.len, D.out.small, D.out.byte⟩, L3.out.trans (L4.out.mono hs3)⟩

noncomputable def theExt : ExtI where
  is := fun w b q B Z S => ∃ v l, PDat w b q v l B Z ∧ S = pdS q v l
  ge := by
    rintro w b q B Z S ⟨v, l, d, rfl⟩ j hj
    exact d.set_ge j hj
  okB := by
    rintro w b q B Z S ⟨v, l, d, rfl⟩
    exact ⟨d.len, d.small, d.byte⟩
  keep := by
    rintro w w' b q B Z S S' ⟨v, l, d, rfl⟩ a h
    exact ⟨v, l, d.spare a h, rfl⟩
  mono := by
    rintro w b b' q B Z S ⟨v, l, d, rfl⟩ h
    exact ⟨v, l, d.mono h, rfl⟩
  new := fun w => (new_any w).mono fun e w' ⟨q, h1, h2, h3⟩ => ⟨q, _, h1, ⟨_, _, h2, rfl⟩, h3⟩
  size := by
    rintro w b q B Z S ⟨v, l, d, rfl⟩
    exact size_any w q B.length (d.blk.cell 1)
  read := by
    rintro w b q B Z S ⟨v, l, d, rfl⟩ a k ha hk
    refine (PRead_any w b q v l B Z d a k ha hk).mono ?_
    rintro e w' ⟨u, h1, h2, h3⟩
    exact ⟨u, h1, h2.own, Loose.of h2 (Nat.le_refl _), h3⟩
  write := by
    rintro w b q B Z S ⟨v, l, d, rfl⟩ a A n c xs ha hx hc _ hb
    refine (PWrite_any w b q v l B Z d a ha A n c xs hx hc hb).mono ?_
    rintro e w' ⟨h1, v', l', h2, h3, h4⟩
    exact ⟨h1, _, ⟨v', l', h2, rfl⟩, h3, h4⟩
  cut := by
    rintro w b q B Z S ⟨v, l, d, rfl⟩ s hs hb
    refine (PCut_any w b q v l B Z d s hs hb).mono ?_
    rintro e w' ⟨h1, v', l', h2, h3, h4⟩
    exact ⟨h1, _, ⟨v', l', h2, rfl⟩, h3, h4⟩
  extents := by
    rintro w b q B Z S ⟨v, l, d, rfl⟩
    exact PExtents_any w b q v l B Z d
  copy := by
    rintro w b q B Z S ⟨v, l, d, rfl⟩
    refine (PCopy_any w b q v l B Z d).mono ?_
    rintro e w' ⟨q', v', l', h1, h2, h3⟩
    exact ⟨q', _, h1, ⟨v', l', h2, rfl⟩, h3⟩
end Go.Proofs.Ytgbhnnobbciemaa
