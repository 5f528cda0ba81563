/-
  Layer 5: rows of truth values; the contracts of refectoryref05.fits and .Fits.
-/
import Derived.Test.YtfligggojiboeaaDoorGlobF
import Derived.Test.YtfligggojiboeaaDoorBox
import Derived.Deep.CutBlock
import Derived.Deep.DeepCutAuto
import Derived.Deep.QuietTactic
namespace Go.Proofs.YtfligggojiboeaaDoor
open Go.RowKit

/-- block g is a whole row of truth values, none frozen -/
def BRow (w : World) (g : Nat) (bs : List Bool) : Prop := w.heap[g]? = some (.cells (bs.map Value.bool).toArray 4 (0, 0))
theorem info_bool3 : (Tryd.prog.info? 4).map (fun i => (i.zero, i.size, i.bytes)) = some (some (.bool false), 1, 1) := by kernel_rfl

section
variable {w w' : World} {g g' B : Nat} {bs cs : List Bool}
theorem BRow.lt (h : BRow w g bs) : g < w.heap.size := (Array.getElem?_eq_some_iff.1 h).1
theorem BRow.cell (h : BRow w g bs) {i : Nat} (hi : i < bs.length) : w.cell? ⟨g, i, none⟩ = some (.bool (bs.getD i false)) := by
  rw [cell_of_row w g i _ 4 (0, 0) h]
  simp [hi]
theorem BRow.frozen (h : BRow w g bs) (i : Nat) : w.frozen? ⟨g, i, none⟩ = false := frozen_of_row w g i _ 4 h
theorem BRow.below (h : BRow w g bs) (hb : Below w.heap.size w w') : BRow w' g bs := (hb.block g h.lt).trans h
theorem BRow.only (h : BRow w g bs) (hO : Only g' w w') (hg : g ≠ g') : BRow w' g bs := (hO.rest g hg).trans h
theorem BRow.drewN (h : BRow w g bs) (k : Nat) : BRow (w.drewN k) g bs := h

/-- make([]bool, n) -/
theorem wpList_make_bools {ops : Array Oper} {rest : List Oper} {o : Oper} {a : Act} {Q : Exit → Act → World → Prop}
    (hg : o.guard = none) (l c : Operand) (hop : o.op = Op.makeSlice 53 l c) (L C : Int) (n : Nat) (hl : a.eval l = .int .i64 L) (hc : a.eval c = .int .i64 C) (hL : L = (n : Int)) (hC : C = (n : Int)) (hn : n ≤ 281474976710656)
    (hK : ∀ w', Hid (BRow w' w.heap.size (List.replicate n false)) → Hid (Below w.heap.size w w') → wpList Tryd.prog ops Q rest (a.put o.dst (.slice (some ⟨w.heap.size, 0, none⟩) n n)) w') :
    wpList Tryd.prog ops Q (o :: rest) a w := by
  obtain ⟨i0, hi, hz0, hz1, hz2⟩ := info_parts info_bool3
  refine wpList_make_full w hg l c 53 hop w.heap.size 4 i0 (.bool false) 1 Tryd.underlying53 hi hz0 hz1 .i64 .i64 L C n hl hc hL hC (by rw [hz2]; omega) (by unfold maxLen; omega) (Nat.le_refl _) ?_
  intro w' hown hgr
  refine hK w' ?_ ((Below.refl _ _).grown hgr (Nat.le_refl _) (fun k hk => by cases hk))
  rcases hown.2 with ⟨h0, _⟩ | ⟨g, cap, cur, hv, _, hh, _, _, hcs, htk⟩
  · cases h0
  · simp only [Value.slice.injEq, Option.some.injEq, Addr.mk.injEq, and_true, true_and] at hv
    obtain ⟨rfl, rfl⟩ := hv
    show w'.heap[_]? = _
    rw [hh]
    have e : cur.toList = List.replicate n (.bool false) := by
      have h1 : cur.toList.take (n * 1) = cur.toList := List.take_of_length_le (by simp [hcs])
      rw [← h1, htk]
      rw [Nat.mul_one]
      exact toList_madeCells_one (.bool false) n
    rw [List.map_replicate, ← e]

/-- a store into such a row -/
theorem wpList_store_bool {ops : Array Oper} {rest : List Oper} {o : Oper} {a : Act} {Q : Exit → Act → World → Prop} (hgd : o.guard = none) (x y : Operand) (ho : o.op = .store 4 x y) (g i : Nat) (hx : a.eval x = .pointer (some ⟨g, i, none⟩))
    (b : Bool) (hy : a.eval y = .bool b) (hB : BRow w g bs) (hi : i < bs.length)
    (h : ∀ w', Hid (BRow w' g (bs.set i b)) → Hid (Only g w w') → wpList Tryd.prog ops Q rest a w') (hd : o.dst = none := by rfl) : wpList Tryd.prog ops Q (o :: rest) a w := by
  have hp : a.put o.dst undef = a := by rw [hd]; rfl
  obtain ⟨i0, hi0, _, hz1, _⟩ := info_parts info_bool3
  have hrun : (storeVar 4 ⟨g, i, none⟩ (.bool b)).run Tryd.prog w = .ok () (w.setCell ⟨g, i, none⟩ (.bool b)) := by
    have hc := hB.cell hi
    have hf := hB.frozen i
    have ha : (⟨g, i, none⟩ : Addr).add 0 = ⟨g, i, none⟩ := by simp [Addr.add]
    simp [storeVar, sizeOf, typeInfo, hi0, hz1, Value.cells, storeCells, run_store_bool, stored]
    rw [ha, hc, hf]
    rfl
  refine wpList_plain hgd fun K hK => ?_
  unfold Oper.wp execOp
  simp only [ho, hx, hy, Instr.storeAt, Instr.sureAddr, Sem.run_bind, Sem.run_pure, Result.andThen_ok, hrun]
  show K (a.put o.dst undef) _
  rw [hp]
  refine hK _ _ (h _ ?_ ((Only.refl g w).setCell i _))
  have h1 := heap_setCell_same w g i _ 4 (.bool b) hB
  unfold BRow
  show _ = _
  rw [h1]
  simp [List.map_set]
end

/-! ### the rows -/

noncomputable def rowB (p t : List Int) : List Bool := (List.range (p.length + 1)).map fun j => fitAt p j t
def firstB (n k : Nat) : List Bool := (List.range (n + 1)).map fun j => decide (j ≤ k)
noncomputable def nextB (p t : List Int) (k : Nat) : List Bool := (List.range (p.length + 1)).map fun j => decide (j ≤ k) && fitAt p j t
theorem rowB_len (p t : List Int) : (rowB p t).length = p.length + 1 := by simp [rowB]
theorem firstB_len (n k : Nat) : (firstB n k).length = n + 1 := by simp [firstB]
theorem nextB_len (p t : List Int) (k : Nat) : (nextB p t k).length = p.length + 1 := by simp [nextB]
theorem rowB_at (p t : List Int) (j : Nat) (hj : j ≤ p.length) : (rowB p t).getD j false = fitAt p j t := by
  simp [rowB, List.getD_eq_getElem?_getD, show j < p.length + 1 by omega]
theorem nextB_at (p t : List Int) (k j : Nat) (hj : j ≤ p.length) (hk : j ≤ k) : (nextB p t k).getD j false = fitAt p j t := by
  simp [nextB, List.getD_eq_getElem?_getD, show j < p.length + 1 by omega, hk]
theorem firstB_zero (n : Nat) : (List.replicate (n + 1) false).set 0 true = firstB n 0 := by
  apply List.ext_getElem
  · simp [firstB]
  · intro i h1 h2
    simp only [firstB, List.getElem_map, List.getElem_range, List.getElem_set, List.getElem_replicate]
    by_cases h : i = 0
    · subst h; simp
    · rw [if_neg (by omega)]; simp; omega
theorem firstB_set (n k : Nat) : (firstB n k).set (k + 1) true = firstB n (k + 1) := by
  apply List.ext_getElem
  · simp [firstB]
  · intro i h1 h2
    simp only [firstB, List.getElem_map, List.getElem_range, List.getElem_set]
    by_cases h : k + 1 = i
    · rw [if_pos h]; simp; omega
    · rw [if_neg h]
      exact decide_eq_decide.2 (by omega)
theorem fitAt_first (p : List Int) (k : Nat) (hk : k ≤ p.length) (hs : ∀ j, j < k → p.getD j 0 = 42) (he : k = p.length ∨ p.getD k 0 ≠ 42) (j : Nat) (hj : j ≤ p.length) : fitAt p j [] = decide (j ≤ k) := by
  induction j with
  | zero => rw [fitAt_zero]; simp
  | succ j ih =>
    have ih := ih (by omega)
    by_cases hc : p.getD j 0 = 42
    · rw [fitAt_nil_star p j (by omega) hc, ih]
      refine decide_eq_decide.2 ?_
      rcases he with he | he
      · omega
      · by_cases h : j = k
        · subst h; exact absurd hc he
        · omega
    · rw [fitAt_nil_other p j (by omega) hc]
      by_cases h : j < k
      · exact absurd (hs j h) hc
      · exact (decide_eq_false (by omega)).symm
theorem firstB_done (p : List Int) (k : Nat) (hk : k ≤ p.length) (hs : ∀ j, j < k → p.getD j 0 = 42) (he : k = p.length ∨ p.getD k 0 ≠ 42) : firstB p.length k = rowB p [] := by
  unfold firstB rowB
  apply List.map_congr_left
  intro j hj
  exact (fitAt_first p k hk hs he j (by have := List.mem_range.1 hj; omega)).symm
theorem nextB_zero (p t : List Int) (x : Int) : List.replicate (p.length + 1) false = nextB p (t ++ [x]) 0 := by
  apply List.ext_getElem
  · simp [nextB]
  · intro i h1 h2
    simp only [nextB, List.getElem_map, List.getElem_range, List.getElem_replicate]
    by_cases h : i = 0
    · subst h; rw [fitAt_none]; rfl
    · rw [decide_eq_false (by omega)]; rfl
theorem nextB_set (p t : List Int) (k : Nat) : (nextB p t k).set (k + 1) (fitAt p (k + 1) t) = nextB p t (k + 1) := by
  apply List.ext_getElem
  · simp [nextB]
  · intro i h1 h2
    simp only [nextB, List.getElem_map, List.getElem_range, List.getElem_set]
    by_cases h : k + 1 = i
    · rw [if_pos h, h]; simp
    · rw [if_neg h]
      congr 1
      exact decide_eq_decide.2 (by omega)
theorem nextB_same (p t : List Int) (k : Nat) (h : fitAt p (k + 1) t = false) : nextB p t k = nextB p t (k + 1) := by
  unfold nextB
  apply List.map_congr_left
  intro j _
  by_cases hj : j = k + 1
  · subst hj; rw [h, Bool.and_false, Bool.and_false]
  · congr 1
    exact decide_eq_decide.2 (by omega)
theorem nextB_done (p t : List Int) : nextB p t p.length = rowB p t := by
  unfold nextB rowB
  apply List.map_congr_left
  intro j hj
  rw [decide_eq_true (by have := List.mem_range.1 hj; omega), Bool.true_and]

/-- what stays: pattern, text, all that was there -/
structure RK (w wr : World) (base base' : Nat) (v u : Value) (p t : List Int) : Prop where
  pat : OwnK .i64 3 wr base v p
  text : OwnK .i64 3 wr base' u t
  below : Below w.heap.size w wr
theorem RK.only {w wr w' : World} {base base' g : Nat} {v u : Value} {p t : List Int} {bs : List Bool} (K : RK w wr base base' v u p t) (hB : BRow wr g bs) (hg : w.heap.size ≤ g) (hO : Only g wr w') : RK w w' base base' v u p t := by
  have key : ∀ (base : Nat) (v : Value) (p : List Int), OwnK .i64 3 wr base v p → OwnK .i64 3 w' base v p := fun base v p h =>
    h.keep fun i cs _ hcs => hO.rest i fun he => by
      subst he
      unfold BRow at hB
      rw [hB] at hcs
      simp only [Option.some.injEq, Obj.cells.injEq] at hcs
      exact absurd hcs.2.1 (by decide)
  exact ⟨key _ _ _ K.pat, key _ _ _ K.text, K.below.trans (hO.below hg)⟩
theorem RK.over {w wr w' : World} {base base' : Nat} {v u : Value} {p t : List Int} (K : RK w wr base base' v u p t) (hb : Below wr.heap.size wr w') : RK w w' base base' v u p t :=
  ⟨K.pat.below hb, K.text.below hb, step K.below hb⟩
theorem RK.drewN {w wr : World} {base base' : Nat} {v u : Value} {p t : List Int} (K : RK w wr base base' v u p t) (k : Nat) : RK w (wr.drewN k) base base' v u p t :=
  ⟨K.pat.below (drewed wr k), K.text.below (drewed wr k), step K.below (drewed wr k)⟩

set_option maxRecDepth 100000 in
set_option maxHeartbeats 4000000 in
theorem rfits_any (w : World) (base base' : Nat) (v u : Value) (p t : List Int) (hp : OwnK .i64 3 w base v p) (ht : OwnK .i64 3 w base' u t) (hpl : p.length ≤ 1000) (htl : t.length ≤ 1000) :
    Calls Tryd.prog 26 #[v, u] w fun e w' => e = .returned (.bool (fitAt p p.length t)) ∧ Below w.heap.size w w' := by
  obtain ⟨Ap, np, cp, rfl, hnp, _, _, _, hcp⟩ := hp.open
  obtain ⟨At, nt, ct, rfl, hnt, _, _, _, hct⟩ := ht.open
  have HNP := Lib.hid hnp
  have HNT := Lib.hid hnt
  have HK : Hid (RK w w base base' (.slice Ap np cp) (.slice At nt ct) p t) := ⟨hp, ht, Below.refl _ _⟩
  have hpl' : np ≤ 1000 := by omega
  have htl' : nt ≤ 1000 := by omega
  clear hnp hnt hp ht hpl htl
  go_enter Tryd.func26, Tryd.ntmps26
  go_upto_block 0 with (first
    | ((with_reducible show wpList _ _ _ (⟨some 13, _, _, _, _, _⟩ :: _) _ _); refine wpList_make_bools rfl (.tmp 12) (.tmp 12) rfl _ _ (np + 1) rfl rfl (by omega) (by omega) (by omega) ?_; intro w1 R1 b1)
    | ((with_reducible show wpList _ _ _ (⟨none, _, _, _, _, _⟩ :: _) _ _); refine wpList_store_bool rfl (.tmp 15) _ rfl w.heap.size 0 rfl true rfl R1.out (by simp) ?_; intro w2 R2 O2)
    | fail)
  rw [firstB_zero] at R2
  have K2 : Hid (RK w w2 base base' (.slice Ap np cp) (.slice At nt ct) p t) := (HK.out.over b1.out).only R1.out (Nat.le_refl _) O2.out
  clear R1 b1 O2 HK
  go_cut [6] (fun _ wx => Hid (BRow wx w.heap.size (rowB p [])) ∧ Hid (RK w wx base base' (.slice Ap np cp) (.slice At nt ct) p t))
  case first =>
    go_wp2_with fail
    go_loopw [6] (fun i wr => ∃ k : Nat, i = .int .i64 k ∧ k ≤ np ∧ Hid (∀ j, j < k → p.getD j 0 = 42) ∧ Hid (BRow wr w.heap.size (firstB np k)) ∧ Hid (RK w wr base base' (.slice Ap np cp) (.slice At nt ct) p t)) (fun i _ => np - (intOf i).toNat)
    case atStart => exact ⟨0, rfl, Nat.zero_le _, fun j hj => absurd hj (Nat.not_lt_zero _), R2, K2⟩
    case round =>
      clear R2 K2
      obtain ⟨k, rfl, hk, HS, R2, K2⟩ := hrel
      by_cases hlt : k < np
      · obtain ⟨gp, rfl, _, _, _⟩ := hcp (by omega)
        have gk := K2.out.pat.at hlt
        obtain ⟨c, hc⟩ : ∃ c, c = p.getD k 0 := ⟨_, rfl⟩
        rw [← hc] at gk
        by_cases h42 : c = 42
        · have HS' : Hid (∀ j, j < k + 1 → p.getD j 0 = 42) := fun j hj => by
            by_cases h : j = k
            · rw [h, ← hc, h42]
            · exact HS.out j (by omega)
          have ht : (c == 42) = true := by simpa using h42
          clear hc h42 hcp hct HS
          go_wp2_with (first
            | ((with_reducible show wpList _ _ _ (⟨none, _, _, _, _, _⟩ :: _) _ _); go_loud (refine wpList_store_bool rfl (.tmp 32) _ rfl w.heap.size (k + 1) rfl true rfl R2.out (by rw [firstB_len]; omega) ?_; intro w3 R3 O3))
            | fail)
          have K3 := Lib.hid (K2.out.only R2.out (Nat.le_refl _) O3.out)
          rw [firstB_set] at R3
          go_roundw
          case rel => exact ⟨k + 1, by go_num, hlt, HS', R3, K3⟩
          case measure => simp [intOf]; omega
        · have hd := firstB_done p k (by have := HNP.out; omega) HS.out (.inr (by rw [← hc]; exact h42))
          rw [HNP.out] at hd
          rw [hd] at R2
          have ht : (c == 42) = false := by simpa using h42
          clear hc h42 hcp hct HS hd
          go_wp2_with fail
          go_meet
          exact ⟨R2, K2⟩
      · have hd := firstB_done p k (by have := HNP.out; omega) HS.out (.inl (by have := HNP.out; omega))
        rw [HNP.out] at hd
        rw [hd] at R2
        clear hcp hct HS hd
        go_wp2_with fail
        go_meet
        exact ⟨R2, K2⟩
  case rest =>
    clear R2 K2
    obtain ⟨R2, K2⟩ := hcut
    go_wp2_with fail
    have hw0 : w.heap.size ≤ w.heap.size := Nat.le_refl _
    go_loopw [5, 7] (fun a i wr => ∃ (j g : Nat), i = .int .i64 j ∧ j ≤ nt ∧ a = .slice (some ⟨g, 0, none⟩) (np + 1) (np + 1) ∧ w.heap.size ≤ g ∧ Hid (BRow wr g (rowB p (t.take j))) ∧ Hid (RK w wr base base' (.slice Ap np cp) (.slice At nt ct) p t)) (fun _ i _ => nt - (intOf i).toNat)
    case atStart => exact ⟨0, _, rfl, Nat.zero_le _, rfl, hw0, by simpa using R2, K2⟩
    case round =>
      clear R2 K2 hw0
      obtain ⟨j, g1, rfl, hj, rfl, hg1, R1, K1⟩ := hrel
      by_cases hlt : j < nt
      · obtain ⟨gt, rfl, _, _, _⟩ := hct (by omega)
        obtain ⟨x, hxx⟩ : ∃ x, x = t.getD j 0 := ⟨_, rfl⟩
        obtain ⟨T, hTT⟩ : ∃ T, T = t.take j := ⟨_, rfl⟩
        have hTn : t.take (j + 1) = T ++ [x] := by
          have := HNT.out
          rw [List.take_succ_eq_append_getElem (by omega), hTT, hxx]
          simp [show j < t.length by omega]
        rw [← hTT] at R1
        have HTN := Lib.hid hTn
        have HX := Lib.hid hxx
        have hlt1 := R1.out.lt
        have hnz := nextB_zero p T x
        rw [HNP.out] at hnz
        have HNZ := Lib.hid hnz
        clear hTT hTn hxx hct hnz
        go_wp2_with (first
          | ((with_reducible show wpList _ _ _ (⟨some 42, _, _, _, _, _⟩ :: _) _ _); refine wpList_make_bools rfl (.tmp 41) (.tmp 41) rfl _ _ (np + 1) rfl rfl (by omega) (by omega) (by omega) ?_; intro w3 R3 b3)
          | fail)
        have K3 := Lib.hid (K1.out.over b3.out)
        have R1' := Lib.hid (R1.out.below b3.out)
        obtain ⟨g2, hg2⟩ : ∃ g, g = wr.heap.size := ⟨_, rfl⟩
        rw [← hg2] at R3 ⊢
        have hg12 : g1 ≠ g2 := by omega
        have hwg2 : w.heap.size ≤ g2 := by omega
        rw [HNZ.out] at R3
        clear R1 K1 b3 hg2 hlt1 HNZ
        go_loopw [9] (fun i wr => ∃ k : Nat, i = .int .i64 k ∧ k ≤ np ∧ Hid (BRow wr g2 (nextB p (T ++ [x]) k)) ∧ Hid (BRow wr g1 (rowB p T)) ∧ Hid (RK w wr base base' (.slice Ap np cp) (.slice (some ⟨gt, 0, none⟩) nt ct) p t)) (fun i _ => np - (intOf i).toNat)
        case atStart => exact ⟨0, rfl, Nat.zero_le _, R3, R1', K3⟩
        case round =>
          clear R3 R1' K3
          obtain ⟨k, rfl, hk, S2, S1, KK⟩ := hrel
          by_cases hlk : k < np
          · obtain ⟨gp, rfl, _, _, _⟩ := hcp (by omega)
            have gk := KK.out.pat.at hlk
            have gx := KK.out.text.at hlt
            rw [← HX.out] at gx
            have gS := nextB_set p (T ++ [x]) k
            have hlp : k < p.length := by have := HNP.out; omega
            have a0c := S1.out.cell (i := k) (by rw [rowB_len]; omega)
            have a1c := S1.out.cell (i := k + 1) (by rw [rowB_len]; omega)
            have n0c := S2.out.cell (i := k) (by rw [nextB_len]; omega)
            rw [rowB_at p T k (by omega)] at a0c
            rw [rowB_at p T (k + 1) (by omega)] at a1c
            rw [nextB_at p (T ++ [x]) k k (by omega) (Nat.le_refl _)] at n0c
            have hst := fitAt_star p T x k hlp
            have hon := fitAt_one p T x k hlp
            have hot := fitAt_other p T x k hlp
            have hsame := nextB_same p (T ++ [x]) k
            obtain ⟨c, hc⟩ : ∃ c, c = p.getD k 0 := ⟨_, rfl⟩
            rw [← hc] at gk hst hon hot
            obtain ⟨a0, ha0⟩ : ∃ b, b = fitAt p k T := ⟨_, rfl⟩
            obtain ⟨a1, ha1⟩ : ∃ b, b = fitAt p (k + 1) T := ⟨_, rfl⟩
            obtain ⟨n0, hn0⟩ : ∃ b, b = fitAt p k (T ++ [x]) := ⟨_, rfl⟩
            obtain ⟨n1, hn1⟩ : ∃ b, b = fitAt p (k + 1) (T ++ [x]) := ⟨_, rfl⟩
            rw [← ha0, ← ha1, ← hn0, ← hn1] at hst
            rw [← ha0, ← hn1] at hon
            rw [← hn1] at hot hsame gS
            rw [← ha0] at a0c
            rw [← ha1] at a1c
            rw [← hn0] at n0c
            clear hc ha0 ha1 hn0 hn1 hlp
            by_cases h42 : c = 42
            · have hcb : (c == 42) = true := by simpa using h42
              have hst := hst h42
              cases a1
              · cases a0
                · have hn1 : n1 = n0 := by rw [hst]; simp
                  rw [hn1] at gS
                  have HSET := Lib.hid gS
                  clear gS hst hon hot hsame h42 hn1 hcp
                  go_wp2_with (first
                    | ((with_reducible show wpList _ _ _ (⟨none, _, _, _, _, _⟩ :: _) _ _); go_loud (refine wpList_store_bool rfl (.tmp 75) _ rfl g2 (k + 1) rfl _ rfl S2.out (by rw [nextB_len, HNP.out]; omega) ?_; intro w4 S4 O4))
                    | fail)
                  have K4 := Lib.hid (KK.out.only S2.out (by omega) O4.out)
                  have S1' := Lib.hid (S1.out.only O4.out hg12)
                  rw [HSET.out] at S4
                  go_roundw
                  case rel => exact ⟨k + 1, by go_num, hlk, S4, S1', K4⟩
                  case measure => simp [intOf]; omega
                · have hn1 : n1 = true := by rw [hst]; simp
                  rw [hn1] at gS
                  have HSET := Lib.hid gS
                  clear gS hst hon hot hsame h42 hn1 hcp
                  go_wp2_with (first
                    | ((with_reducible show wpList _ _ _ (⟨none, _, _, _, _, _⟩ :: _) _ _); go_loud (refine wpList_store_bool rfl (.tmp 75) _ rfl g2 (k + 1) rfl _ rfl S2.out (by rw [nextB_len, HNP.out]; omega) ?_; intro w4 S4 O4))
                    | fail)
                  have K4 := Lib.hid (KK.out.only S2.out (by omega) O4.out)
                  have S1' := Lib.hid (S1.out.only O4.out hg12)
                  rw [HSET.out] at S4
                  go_roundw
                  case rel => exact ⟨k + 1, by go_num, hlk, S4, S1', K4⟩
                  case measure => simp [intOf]; omega
              · have hn1 : n1 = true := by rw [hst]; simp
                rw [hn1] at gS
                have HSET := Lib.hid gS
                clear gS hst hon hot hsame h42 hn1 hcp
                go_wp2_with (first
                    | ((with_reducible show wpList _ _ _ (⟨none, _, _, _, _, _⟩ :: _) _ _); go_loud (refine wpList_store_bool rfl (.tmp 75) _ rfl g2 (k + 1) rfl _ rfl S2.out (by rw [nextB_len, HNP.out]; omega) ?_; intro w4 S4 O4))
                    | fail)
                have K4 := Lib.hid (KK.out.only S2.out (by omega) O4.out)
                have S1' := Lib.hid (S1.out.only O4.out hg12)
                rw [HSET.out] at S4
                go_roundw
                case rel => exact ⟨k + 1, by go_num, hlk, S4, S1', K4⟩
                case measure => simp [intOf]; omega
            · have hcb : (c == 42) = false := by simpa using h42
              obtain ⟨wq, hwq⟩ : ∃ x, x = wr := ⟨_, rfl⟩
              rw [← hwq] at S1 S2 KK gk gx a0c a1c n0c ⊢
              by_cases h63 : c = 63
              · have hcb2 : (c == 63) = true := by simpa using h63
                have hn1 : n1 = a0 := hon h42 (.inl h63)
                rw [hn1] at gS
                have HSET := Lib.hid gS
                clear gS hst hon hot hsame h42 h63 hn1 hcp hwq
                go_wp2
                go_quiet (fail)
                obtain ⟨wz, hwz⟩ : ∃ x, x = wq.drewN nq := ⟨_, rfl⟩
                have Z1 : Hid (BRow wz g1 (rowB p T)) := by rw [hwz]; exact S1.out.drewN nq
                have Z2 : Hid (BRow wz g2 (nextB p (T ++ [x]) k)) := by rw [hwz]; exact S2.out.drewN nq
                have ZK : Hid (RK w wz base base' (.slice (some ⟨gp, 0, none⟩) np cp) (.slice (some ⟨gt, 0, none⟩) nt ct) p t) := by rw [hwz]; exact KK.out.drewN nq
                have z0c : wz.cell? ⟨g1, k, none⟩ = some (.bool a0) := by rw [hwz]; exact a0c
                rw [← hwz]
                clear S1 S2 KK a0c a1c n0c gk gx hwz
                go_wp2_with (first
                  | ((with_reducible show wpList _ _ _ (⟨none, _, _, _, _, _⟩ :: _) _ _); go_loud (refine wpList_store_bool rfl (.tmp 100) _ rfl g2 (k + 1) rfl _ rfl Z2.out (by rw [nextB_len, HNP.out]; omega) ?_; intro w4 S4 O4))
                  | fail)
                have K4 := Lib.hid (ZK.out.only Z2.out (by omega) O4.out)
                have S1' := Lib.hid (Z1.out.only O4.out hg12)
                rw [HSET.out] at S4
                go_roundw
                case rel => exact ⟨k + 1, by go_num, hlk, S4, S1', K4⟩
                case measure => simp [intOf]; omega
              · have hcb2 : (c == 63) = false := by simpa using h63
                by_cases hcx : c = x
                · have hcb3 : (c == x) = true := by simpa using hcx
                  have hn1 : n1 = a0 := hon h42 (.inr hcx)
                  rw [hn1] at gS
                  have HSET := Lib.hid gS
                  clear gS hst hon hot hsame h42 h63 hcx hn1 hcp hwq
                  go_wp2
                  go_quiet (fail)
                  obtain ⟨wz, hwz⟩ : ∃ x, x = wq.drewN nq := ⟨_, rfl⟩
                  have Z1 : Hid (BRow wz g1 (rowB p T)) := by rw [hwz]; exact S1.out.drewN nq
                  have Z2 : Hid (BRow wz g2 (nextB p (T ++ [x]) k)) := by rw [hwz]; exact S2.out.drewN nq
                  have ZK : Hid (RK w wz base base' (.slice (some ⟨gp, 0, none⟩) np cp) (.slice (some ⟨gt, 0, none⟩) nt ct) p t) := by rw [hwz]; exact KK.out.drewN nq
                  have z0c : wz.cell? ⟨g1, k, none⟩ = some (.bool a0) := by rw [hwz]; exact a0c
                  rw [← hwz]
                  clear S1 S2 KK a0c a1c n0c gk gx hwz
                  go_wp2_with (first
                    | ((with_reducible show wpList _ _ _ (⟨none, _, _, _, _, _⟩ :: _) _ _); go_loud (refine wpList_store_bool rfl (.tmp 100) _ rfl g2 (k + 1) rfl _ rfl Z2.out (by rw [nextB_len, HNP.out]; omega) ?_; intro w4 S4 O4))
                    | fail)
                  have K4 := Lib.hid (ZK.out.only Z2.out (by omega) O4.out)
                  have S1' := Lib.hid (Z1.out.only O4.out hg12)
                  rw [HSET.out] at S4
                  go_roundw
                  case rel => exact ⟨k + 1, by go_num, hlk, S4, S1', K4⟩
                  case measure => simp [intOf]; omega
                · have hcb3 : (c == x) = false := by simpa using hcx
                  have hn1 : n1 = false := hot h42 (by rintro (h | h) <;> contradiction)
                  have hsame := hsame hn1
                  have HSAME := Lib.hid hsame
                  clear gS hst hon hot hsame h42 h63 hcx hn1 hcp hwq
                  go_wp2
                  go_quiet (fail)
                  obtain ⟨wz, hwz⟩ : ∃ x, x = wq.drewN nq := ⟨_, rfl⟩
                  have Z1 : Hid (BRow wz g1 (rowB p T)) := by rw [hwz]; exact S1.out.drewN nq
                  have Z2 : Hid (BRow wz g2 (nextB p (T ++ [x]) (k + 1))) := by rw [hwz, ← HSAME.out]; exact S2.out.drewN nq
                  have ZK : Hid (RK w wz base base' (.slice (some ⟨gp, 0, none⟩) np cp) (.slice (some ⟨gt, 0, none⟩) nt ct) p t) := by rw [hwz]; exact KK.out.drewN nq
                  rw [← hwz]
                  clear S1 S2 KK a0c a1c n0c gk gx hwz
                  go_wp2
                  go_roundw
                  case rel => exact ⟨k + 1, by go_num, hlk, Z2, Z1, ZK⟩
                  case measure => simp [intOf]; omega
          · have hd := nextB_done p (T ++ [x])
            rw [HNP.out] at hd
            obtain rfl : k = np := by omega
            rw [hd, ← HTN.out] at S2
            clear hd hcp
            go_wp2
            go_roundw
            case rel => exact ⟨j + 1, g2, by go_num, hlt, rfl, hwg2, S2, KK⟩
            case measure => simp [intOf]; omega
      · obtain rfl : j = nt := by omega
        rw [List.take_of_length_le (by have := HNT.out; omega)] at R1
        have ge := R1.out.cell (i := np) (by rw [rowB_len, HNP.out]; omega)
        rw [rowB_at p t np (by rw [HNP.out]; exact Nat.le_refl _)] at ge
        have HG : Hid (fitAt p p.length t = fitAt p np t) := by show _ = _; rw [HNP.out]
        obtain ⟨R, hR⟩ : ∃ R, R = fitAt p np t := ⟨_, rfl⟩
        rw [← hR] at ge HG
        have HB := Lib.hid K1.out.below
        clear R1 K1 hR hct hcp
        go_wp2
        go_ret
        exact ⟨ret_bool HG.out.symm, HB.out⟩
end Go.Proofs.YtfligggojiboeaaDoor
