/-
  Layer 14 (extent): one act on both files: the same answer, and the same behind it (written by tools/gen_ex5.py).
-/
import Derived.Test.YtgbhnnobbciemaaExI
import Derived.Test.YtgbhnnobbciemaaHeld
import Derived.Test.YtgbhnnobbciemaaHeadQ
namespace Go.Proofs.Ytgbhnnobbciemaa
set_option maxRecDepth 100000
open Go.RowKit
set_option linter.unusedVariables false

def ActPost (I : ExtI) (w : World) (b q g : Nat) (a : ActV) (B : List Int) (Z : List Bool) (e : Ending) (w' : World) : Prop :=
  e = .returned (.bool true) ∧ ∃ S' vB' vZ', Two I w' b q S' g vB' vZ' (actB a B) (actZ a Z) (actB a B) (actZ a Z) ∧ Below b w w'

set_option maxHeartbeats 4000000 in
theorem Act_any (I : ExtI) (w : World) (b q : Nat) (S : Nat → Prop) (g : Nat) (vB vZ : Value) (B : List Int) (Z : List Bool) (a : ActV) (h : Two I w b q S g vB vZ B Z B Z) (ha : ActOk w b a) :
    Calls Try.prog 26 #[ptr q, .pointer (some ⟨g, 0, none⟩), .agg (actCells a).toArray] w (ActPost I w b q g a B Z) := by
  have H0 := Lib.hid h
  have HA := Lib.hid ha
  have HSZ := h.hb
  have HAB : Hid (∀ k, a.act = k → actB a B = (if k = 1 then exWr 0 B a.pos a.row.2.2.2 else if k = 2 then exCut 0 B a.num else B) ∧ actZ a Z = (if k = 1 then exWr false Z a.pos (List.replicate a.row.2.2.2.length true) else if k = 2 then exCut false Z a.num else Z)) := fun k hk => by
    unfold actB actZ
    rw [hk]
    exact ⟨rfl, rfl⟩
  have HRB : Hid (Bytes (exRd B a.pos a.num)) := exRd_bytes (I.okB h.x).2.2 _ _
  have HRL : Hid ((exRd B a.pos a.num).length ≤ 281474976710656) := Nat.le_trans (exRd_len _ _ _) (Nat.le_trans (I.okB h.x).2.1 (by decide))
  have HCS : Hid (actCells a = [.int .i64 a.act, .int .i64 a.pos, .int .i64 a.num, .slice a.row.1 a.row.2.1 a.row.2.2.1]) := rfl
  obtain ⟨cs, hcs⟩ : ∃ cs, cs = actCells a := ⟨_, rfl⟩
  rw [← hcs] at HCS ⊢
  clear h ha hcs
  rcases (by omega : a.act = 1 ∨ a.act = 2 ∨ a.act = 3 ∨ (¬ a.act = 1 ∧ ¬ a.act = 2 ∧ ¬ a.act = 3)) with h1 | h1 | h1 | ⟨h1, h2, h3⟩
  · go_enter Try.func26, Try.ntmps26
    go_upto_region 1 with (first
      | ((with_reducible show wpList _ _ _ (⟨some 5, _, _, _, _, _⟩ :: _) _ _); refine wpList_box_blk rfl _ (.tmp 2) rfl cs rfl ?_; intro k w1 hk1 hk2 k1 l1)
      | fail)
    have K1 : Hid (Blk w1 k 56 [.int .i64 a.act, .int .i64 a.pos, .int .i64 a.num, .slice a.row.1 a.row.2.1 a.row.2.2.1]) := by have := k1.out; rw [HCS.out] at this; exact this
    have c0 := K1.out.cell 0
    have c1 := K1.out.cell 1
    have c2 := K1.out.cell 2
    have c3 := K1.out.cell 3
    have HKS : Hid (¬ S k) := fun h => by have := (I.ge H0.out.x k h).2; omega
    have HKR : Hid (¬ rdS g vB vZ k) := fun h => by have := H0.out.r.set_lt k h; omega
    have T1 := Lib.hid (H0.out.below l1.out)
    have T1d : Hid (Two I w1.drew b q S g vB vZ B Z B Z) := T1.out.below (drewed w1 1)
    have HRb : Hid (Holds w1.drew b a.row.1 a.row.2.1 a.row.2.2.1 a.row.2.2.2) := (HA.out.row.below (l1.out.mono HSZ)).drewN 1
    have HRw := Lib.hid (HRb.out.mono T1d.out.hb)
    have HCP : Hid (a.row.2.2.1 ≤ 140737488355328) := Nat.le_trans HA.out.cap (by decide)
    have HOF : Hid (0 < a.row.2.1 → ∀ x, a.row.1 = some x → ¬ S x.block) := fun h0 x hx hs => by
      obtain ⟨b', off, e, hb, _⟩ := HA.out.row.cells h0
      rw [hx] at e
      cases e
      exact Nat.not_le_of_lt hb (I.ge H0.out.x _ hs).1
    clear k1
    rw [h1] at c0
    go_upto_region 3 with fail
    refine wp_region_held (S := fun w' => Blk w' k 56 [.int .i64 a.act, .int .i64 a.pos, .int .i64 a.num, .slice a.row.1 a.row.2.1 a.row.2.2.1]) (by kernel_rfl) ?_
    change wpAnyH _ _ _ _ _ _ _ _ w1.drew
    have Ss0 : Hid (Blk w1.drew k 56 [.int .i64 a.act, .int .i64 a.pos, .int .i64 a.num, .slice a.row.1 a.row.2.1 a.row.2.2.1]) := K1.out
    have bs0 : Hid (True) := trivial
    refine wpAnyH_take (i := 0) (v := _) rfl (by kernel_rfl) (by kernel_rfl) (by kernel_rfl) (fun _ _ _ h => h) (yieldsIf_move (by kernel_rfl) (.tmp 0) rfl (ptr q) (by kernel_rfl)) Ss0.out ?_
    refine wpAnyH_take (i := 1) (v := _) rfl (by kernel_rfl) (by kernel_rfl) (by kernel_rfl) (fun _ _ _ h => h) (yieldsIf_fld (by kernel_rfl) _ (.tmp 5) 1 rfl (.pointer (some ⟨k, 0, none⟩)) (.pointer (some ⟨k, 1, none⟩)) (by kernel_rfl) (fun w => by go_simp)) Ss0.out ?_
    refine wpAnyH_take (i := 2) (v := _) rfl (by kernel_rfl) (by kernel_rfl) (by kernel_rfl) (fun _ _ _ h => h) (yieldsIf_load_one (by kernel_rfl) _ (.tmp 16) rfl k (1) (by kernel_rfl) (.int .i64 a.pos) (fun _ h => h.cell 1) _ Try.underlying3 rfl) Ss0.out ?_
    refine wpAnyH_take (i := 3) (v := _) rfl (by kernel_rfl) (by kernel_rfl) (by kernel_rfl) (fun _ _ _ h => h) (yieldsIf_fld (by kernel_rfl) _ (.tmp 5) 3 rfl (.pointer (some ⟨k, 0, none⟩)) (.pointer (some ⟨k, 3, none⟩)) (by kernel_rfl) (fun w => by go_simp)) Ss0.out ?_
    refine wpAnyH_take (i := 4) (v := _) rfl (by kernel_rfl) (by kernel_rfl) (by kernel_rfl) (fun _ _ _ h => h) (yieldsIf_load_one (by kernel_rfl) _ (.tmp 18) rfl k (3) (by kernel_rfl) (.slice a.row.1 a.row.2.1 a.row.2.2.1) (fun _ h => h.cell 3) _ Try.underlying29 rfl) Ss0.out ?_
    refine wpAnyH_take (i := 6) (v := _) rfl (by kernel_rfl) (by kernel_rfl) (by kernel_rfl) (fun _ _ _ h => h) (yieldsIf_move (by kernel_rfl) (.tmp 1) rfl (.pointer (some ⟨g, 0, none⟩)) (by kernel_rfl)) Ss0.out ?_
    refine wpAnyH_take (i := 7) (v := _) rfl (by kernel_rfl) (by kernel_rfl) (by kernel_rfl) (fun _ _ _ h => h) (yieldsIf_fld (by kernel_rfl) _ (.tmp 5) 1 rfl (.pointer (some ⟨k, 0, none⟩)) (.pointer (some ⟨k, 1, none⟩)) (by kernel_rfl) (fun w => by go_simp)) Ss0.out ?_
    refine wpAnyH_take (i := 8) (v := _) rfl (by kernel_rfl) (by kernel_rfl) (by kernel_rfl) (fun _ _ _ h => h) (yieldsIf_load_one (by kernel_rfl) _ (.tmp 22) rfl k (1) (by kernel_rfl) (.int .i64 a.pos) (fun _ h => h.cell 1) _ Try.underlying3 rfl) Ss0.out ?_
    refine wpAnyH_take (i := 9) (v := _) rfl (by kernel_rfl) (by kernel_rfl) (by kernel_rfl) (fun _ _ _ h => h) (yieldsIf_fld (by kernel_rfl) _ (.tmp 5) 3 rfl (.pointer (some ⟨k, 0, none⟩)) (.pointer (some ⟨k, 3, none⟩)) (by kernel_rfl) (fun w => by go_simp)) Ss0.out ?_
    refine wpAnyH_take (i := 10) (v := _) rfl (by kernel_rfl) (by kernel_rfl) (by kernel_rfl) (fun _ _ _ h => h) (yieldsIf_load_one (by kernel_rfl) _ (.tmp 24) rfl k (3) (by kernel_rfl) (.slice a.row.1 a.row.2.1 a.row.2.2.1) (fun _ h => h.cell 3) _ Try.underlying29 rfl) Ss0.out ?_
    refine wpAnyH_one 5 _ (by kernel_rfl) rfl fun K hK => ?_
    go_simp
    refine (I.write T1d.out.x HA.out.pos HRw.out HCP.out HOF.out T1d.out.hb).mono ?_
    rintro e vs1 ⟨rfl, S1, x1, a1, n1⟩
    have Ss1 : Hid (Blk vs1 k 56 [.int .i64 a.act, .int .i64 a.pos, .int .i64 a.num, .slice a.row.1 a.row.2.1 a.row.2.2.1]) := Ss0.out.spare a1 fun h => HKS.out h
    have bs1 : Hid (True) := trivial
    have T2 := Lib.hid (T1d.out.left x1 a1 n1)
    have L2 := Lib.hid (T1d.out.below1 a1)
    have HR2 := Lib.hid (HRb.out.below L2.out)
    clear x1 n1
    refine hK _ _ Ss1.out ?_
    clear hK K 
    refine wpAnyH_one 11 _ (by kernel_rfl) rfl fun K hK => ?_
    go_simp
    refine (RExWrite_any _ b g vB vZ B Z T2.out.r a.pos HA.out.pos T2.out.hb _ _ _ _ HR2.out).mono ?_
    rintro e vs2 ⟨rfl, vB', vZ', r1, a2, n2, m2⟩
    have Ss2 : Hid (Blk vs2 k 56 [.int .i64 a.act, .int .i64 a.pos, .int .i64 a.num, .slice a.row.1 a.row.2.1 a.row.2.2.1]) := Ss1.out.spare a2 fun h => HKR.out h
    have bs2 : Hid (True) := trivial
    have T3 := Lib.hid (T2.out.right r1 a2 n2 m2)
    have L3 := Lib.hid (T2.out.below2 a2)
    clear r1 n2 m2
    refine hK _ _ Ss2.out ?_
    clear hK K 
    refine wpAnyH_one 12 _ (by kernel_rfl) rfl fun K hK => ?_
    go_simp
    refine hK _ _ Ss2.out ?_
    clear hK K
    refine wpAnyH_one 13 _ (by kernel_rfl) rfl fun K hK => ?_
    go_simp
    refine hK _ _ Ss2.out ?_
    clear hK K
    refine wpAnyH_done (by kernel_rfl) ?_ _
    go_wp2_with fail
    go_ret
    obtain ⟨e1, e2⟩ := HAB.out 1 h1
    exact ⟨rfl, _, _, _, by rw [e1, e2]; exact T3.out, ((l1.out.mono HSZ).trans (((drewed w1 1).mono (Nat.le_trans HSZ l1.out.size)).trans L2.out)).trans L3.out⟩
  · go_enter Try.func26, Try.ntmps26
    go_upto_region 1 with (first
      | ((with_reducible show wpList _ _ _ (⟨some 5, _, _, _, _, _⟩ :: _) _ _); refine wpList_box_blk rfl _ (.tmp 2) rfl cs rfl ?_; intro k w1 hk1 hk2 k1 l1)
      | fail)
    have K1 : Hid (Blk w1 k 56 [.int .i64 a.act, .int .i64 a.pos, .int .i64 a.num, .slice a.row.1 a.row.2.1 a.row.2.2.1]) := by have := k1.out; rw [HCS.out] at this; exact this
    have c0 := K1.out.cell 0
    have c1 := K1.out.cell 1
    have c2 := K1.out.cell 2
    have c3 := K1.out.cell 3
    have HKS : Hid (¬ S k) := fun h => by have := (I.ge H0.out.x k h).2; omega
    have HKR : Hid (¬ rdS g vB vZ k) := fun h => by have := H0.out.r.set_lt k h; omega
    have T1 := Lib.hid (H0.out.below l1.out)
    have T1d : Hid (Two I w1.drew b q S g vB vZ B Z B Z) := T1.out.below (drewed w1 1)
    have HRb : Hid (Holds w1.drew b a.row.1 a.row.2.1 a.row.2.2.1 a.row.2.2.2) := (HA.out.row.below (l1.out.mono HSZ)).drewN 1
    have HRw := Lib.hid (HRb.out.mono T1d.out.hb)
    have HCP : Hid (a.row.2.2.1 ≤ 140737488355328) := Nat.le_trans HA.out.cap (by decide)
    have HOF : Hid (0 < a.row.2.1 → ∀ x, a.row.1 = some x → ¬ S x.block) := fun h0 x hx hs => by
      obtain ⟨b', off, e, hb, _⟩ := HA.out.row.cells h0
      rw [hx] at e
      cases e
      exact Nat.not_le_of_lt hb (I.ge H0.out.x _ hs).1
    clear k1
    rw [h1] at c0
    go_upto_region 5 with fail
    refine wp_region_held (S := fun w' => Blk w' k 56 [.int .i64 a.act, .int .i64 a.pos, .int .i64 a.num, .slice a.row.1 a.row.2.1 a.row.2.2.1]) (by kernel_rfl) ?_
    change wpAnyH _ _ _ _ _ _ _ _ w1.drew
    have Ss0 : Hid (Blk w1.drew k 56 [.int .i64 a.act, .int .i64 a.pos, .int .i64 a.num, .slice a.row.1 a.row.2.1 a.row.2.2.1]) := K1.out
    have bs0 : Hid (True) := trivial
    refine wpAnyH_take (i := 0) (v := _) rfl (by kernel_rfl) (by kernel_rfl) (by kernel_rfl) (fun _ _ _ h => h) (yieldsIf_move (by kernel_rfl) (.tmp 0) rfl (ptr q) (by kernel_rfl)) Ss0.out ?_
    refine wpAnyH_take (i := 1) (v := _) rfl (by kernel_rfl) (by kernel_rfl) (by kernel_rfl) (fun _ _ _ h => h) (yieldsIf_fld (by kernel_rfl) _ (.tmp 5) 2 rfl (.pointer (some ⟨k, 0, none⟩)) (.pointer (some ⟨k, 2, none⟩)) (by kernel_rfl) (fun w => by go_simp)) Ss0.out ?_
    refine wpAnyH_take (i := 2) (v := _) rfl (by kernel_rfl) (by kernel_rfl) (by kernel_rfl) (fun _ _ _ h => h) (yieldsIf_load_one (by kernel_rfl) _ (.tmp 31) rfl k (2) (by kernel_rfl) (.int .i64 a.num) (fun _ h => h.cell 2) _ Try.underlying3 rfl) Ss0.out ?_
    refine wpAnyH_take (i := 4) (v := _) rfl (by kernel_rfl) (by kernel_rfl) (by kernel_rfl) (fun _ _ _ h => h) (yieldsIf_move (by kernel_rfl) (.tmp 1) rfl (.pointer (some ⟨g, 0, none⟩)) (by kernel_rfl)) Ss0.out ?_
    refine wpAnyH_take (i := 5) (v := _) rfl (by kernel_rfl) (by kernel_rfl) (by kernel_rfl) (fun _ _ _ h => h) (yieldsIf_fld (by kernel_rfl) _ (.tmp 5) 2 rfl (.pointer (some ⟨k, 0, none⟩)) (.pointer (some ⟨k, 2, none⟩)) (by kernel_rfl) (fun w => by go_simp)) Ss0.out ?_
    refine wpAnyH_take (i := 6) (v := _) rfl (by kernel_rfl) (by kernel_rfl) (by kernel_rfl) (fun _ _ _ h => h) (yieldsIf_load_one (by kernel_rfl) _ (.tmp 35) rfl k (2) (by kernel_rfl) (.int .i64 a.num) (fun _ h => h.cell 2) _ Try.underlying3 rfl) Ss0.out ?_
    refine wpAnyH_one 3 _ (by kernel_rfl) rfl fun K hK => ?_
    go_simp
    refine (I.cut T1d.out.x HA.out.num T1d.out.hb).mono ?_
    rintro e vs1 ⟨rfl, S1, x1, a1, n1⟩
    have Ss1 : Hid (Blk vs1 k 56 [.int .i64 a.act, .int .i64 a.pos, .int .i64 a.num, .slice a.row.1 a.row.2.1 a.row.2.2.1]) := Ss0.out.spare a1 fun h => HKS.out h
    have bs1 : Hid (True) := trivial
    have T2 := Lib.hid (T1d.out.left x1 a1 n1)
    have L2 := Lib.hid (T1d.out.below1 a1)
    clear x1 n1
    refine hK _ _ Ss1.out ?_
    clear hK K 
    refine wpAnyH_one 7 _ (by kernel_rfl) rfl fun K hK => ?_
    go_simp
    refine (RExCut_any _ b g vB vZ B Z T2.out.r a.num HA.out.num T2.out.hb).mono ?_
    rintro e vs2 ⟨rfl, vB', vZ', r1, a2, n2, m2⟩
    have Ss2 : Hid (Blk vs2 k 56 [.int .i64 a.act, .int .i64 a.pos, .int .i64 a.num, .slice a.row.1 a.row.2.1 a.row.2.2.1]) := Ss1.out.spare a2 fun h => HKR.out h
    have bs2 : Hid (True) := trivial
    have T3 := Lib.hid (T2.out.right r1 a2 n2 m2)
    have L3 := Lib.hid (T2.out.below2 a2)
    clear r1 n2 m2
    refine hK _ _ Ss2.out ?_
    clear hK K 
    refine wpAnyH_one 8 _ (by kernel_rfl) rfl fun K hK => ?_
    go_simp
    refine hK _ _ Ss2.out ?_
    clear hK K
    refine wpAnyH_one 9 _ (by kernel_rfl) rfl fun K hK => ?_
    go_simp
    refine hK _ _ Ss2.out ?_
    clear hK K
    refine wpAnyH_done (by kernel_rfl) ?_ _
    go_wp2_with fail
    go_ret
    obtain ⟨e1, e2⟩ := HAB.out 2 h1
    exact ⟨rfl, _, _, _, by rw [e1, e2]; exact T3.out, ((l1.out.mono HSZ).trans (((drewed w1 1).mono (Nat.le_trans HSZ l1.out.size)).trans L2.out)).trans L3.out⟩
  · go_enter Try.func26, Try.ntmps26
    go_upto_region 1 with (first
      | ((with_reducible show wpList _ _ _ (⟨some 5, _, _, _, _, _⟩ :: _) _ _); refine wpList_box_blk rfl _ (.tmp 2) rfl cs rfl ?_; intro k w1 hk1 hk2 k1 l1)
      | fail)
    have K1 : Hid (Blk w1 k 56 [.int .i64 a.act, .int .i64 a.pos, .int .i64 a.num, .slice a.row.1 a.row.2.1 a.row.2.2.1]) := by have := k1.out; rw [HCS.out] at this; exact this
    have c0 := K1.out.cell 0
    have c1 := K1.out.cell 1
    have c2 := K1.out.cell 2
    have c3 := K1.out.cell 3
    have HKS : Hid (¬ S k) := fun h => by have := (I.ge H0.out.x k h).2; omega
    have HKR : Hid (¬ rdS g vB vZ k) := fun h => by have := H0.out.r.set_lt k h; omega
    have T1 := Lib.hid (H0.out.below l1.out)
    have T1d : Hid (Two I w1.drew b q S g vB vZ B Z B Z) := T1.out.below (drewed w1 1)
    have HRb : Hid (Holds w1.drew b a.row.1 a.row.2.1 a.row.2.2.1 a.row.2.2.2) := (HA.out.row.below (l1.out.mono HSZ)).drewN 1
    have HRw := Lib.hid (HRb.out.mono T1d.out.hb)
    have HCP : Hid (a.row.2.2.1 ≤ 140737488355328) := Nat.le_trans HA.out.cap (by decide)
    have HOF : Hid (0 < a.row.2.1 → ∀ x, a.row.1 = some x → ¬ S x.block) := fun h0 x hx hs => by
      obtain ⟨b', off, e, hb, _⟩ := HA.out.row.cells h0
      rw [hx] at e
      cases e
      exact Nat.not_le_of_lt hb (I.ge H0.out.x _ hs).1
    clear k1
    rw [h1] at c0
    go_wp2_with fail
    refine (I.read T1.out.x HA.out.pos HA.out.num).mono ?_
    rintro e w2 ⟨v, rfl, o2, _, l2⟩
    obtain ⟨Av, cv, rfl, y2⟩ := o2.holds HRB.out HRL.out
    have Y2 := Lib.hid y2
    have L2 := Lib.hid l2
    have T2 := Lib.hid (T1.out.below l2)
    have c1' : w2.cell? ⟨k, 1, none⟩ = some (.int .i64 a.pos) := (K1.out.over l2).cell 1
    have c2' : w2.cell? ⟨k, 2, none⟩ = some (.int .i64 a.num) := (K1.out.over l2).cell 2
    clear o2 y2 l2
    go_wp2_with fail
    refine (RExRead_any w2 b g vB vZ B Z T2.out.r a.pos a.num HA.out.pos HA.out.num).mono ?_
    rintro e w3 ⟨v, rfl, o3, l3⟩
    obtain ⟨Au, cu, rfl, y3⟩ := o3.holds HRB.out HRL.out
    have Y3 := Lib.hid y3
    have L3 := Lib.hid l3
    have T3 := Lib.hid (T2.out.below l3)
    have Y2' := Lib.hid (Y2.out.over l3)
    clear o3 y3 l3
    go_wp2_with fail
    refine (Same_any w3 _ _ _ _ _ _ _ _ _ _ Y2'.out Y3.out).mono ?_
    rintro e w4 ⟨rfl, j, rfl⟩
    go_wp2_with fail
    go_ret
    obtain ⟨e1, e2⟩ := HAB.out 3 h1
    exact ⟨by simp, _, _, _, by rw [e1, e2]; exact T3.out.drewN j, ((((l1.out.trans (L2.out.mono l1.out.size)).trans (L3.out.mono (Nat.le_trans l1.out.size L2.out.size))).mono HSZ).trans ((drewed w3 j).mono T3.out.hb))⟩
  · go_enter Try.func26, Try.ntmps26
    go_upto_region 1 with (first
      | ((with_reducible show wpList _ _ _ (⟨some 5, _, _, _, _, _⟩ :: _) _ _); refine wpList_box_blk rfl _ (.tmp 2) rfl cs rfl ?_; intro k w1 hk1 hk2 k1 l1)
      | fail)
    have K1 : Hid (Blk w1 k 56 [.int .i64 a.act, .int .i64 a.pos, .int .i64 a.num, .slice a.row.1 a.row.2.1 a.row.2.2.1]) := by have := k1.out; rw [HCS.out] at this; exact this
    have c0 := K1.out.cell 0
    have c1 := K1.out.cell 1
    have c2 := K1.out.cell 2
    have c3 := K1.out.cell 3
    have HKS : Hid (¬ S k) := fun h => by have := (I.ge H0.out.x k h).2; omega
    have HKR : Hid (¬ rdS g vB vZ k) := fun h => by have := H0.out.r.set_lt k h; omega
    have T1 := Lib.hid (H0.out.below l1.out)
    have T1d : Hid (Two I w1.drew b q S g vB vZ B Z B Z) := T1.out.below (drewed w1 1)
    have HRb : Hid (Holds w1.drew b a.row.1 a.row.2.1 a.row.2.2.1 a.row.2.2.2) := (HA.out.row.below (l1.out.mono HSZ)).drewN 1
    have HRw := Lib.hid (HRb.out.mono T1d.out.hb)
    have HCP : Hid (a.row.2.2.1 ≤ 140737488355328) := Nat.le_trans HA.out.cap (by decide)
    have HOF : Hid (0 < a.row.2.1 → ∀ x, a.row.1 = some x → ¬ S x.block) := fun h0 x hx hs => by
      obtain ⟨b', off, e, hb, _⟩ := HA.out.row.cells h0
      rw [hx] at e
      cases e
      exact Nat.not_le_of_lt hb (I.ge H0.out.x _ hs).1
    clear k1
    go_wp2_with fail
    go_ret
    have e : actB a B = B ∧ actZ a Z = Z := by
      unfold actB actZ
      rw [if_neg h1, if_neg h2, if_neg h1, if_neg h2]
      exact ⟨rfl, rfl⟩
    exact ⟨rfl, _, _, _, by rw [e.1, e.2]; exact T1.out, l1.out.mono HSZ⟩
end Go.Proofs.Ytgbhnnobbciemaa
