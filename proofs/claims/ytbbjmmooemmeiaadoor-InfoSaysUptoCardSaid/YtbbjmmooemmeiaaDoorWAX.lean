import Derived.WalkKit
import Derived.Deep.Draws
import Derived.Laws.Rows
import Derived.Laws.OwnMore
import Derived.Test.YtbbjmmooemmeiaaDoorRows
import Derived.Laws.CopyOwn
import Derived.Laws.AppendOwnNone
import Derived.Lib.Hide
import Derived.Laws.AppendOwn
import Derived.OwnWalk
import Derived.Lib.OthersKept
import Derived.Laws.BytesArg
import Derived.Laws.Tables
import Derived.Laws.NewFold
import Derived.Deep.WholeRow
import Derived.Deep.DeepCutAuto
import Derived.OneCell
import Derived.ProofKit
import Derived.OpenShut
import Derived.ShutString
import Derived.SizedLaws
import Derived.ChangeOld
import Derived.Deep.Strs
import Derived.Deep.MidRow
import Derived.Great.Walk
import Derived.OrdersHeld
import Derived.Laws.StructEq
import Derived.ChangeKeysEq
import Derived.Laws.Bits64
import Derived.Laws.BitsAllLaws
import Derived.WalkSpells
import Derived.WalkLawsBesides
import Derived.Deep.QuietTactic
import Derived.BigQuiet
import Derived.Test.YtbbjmmooemmeiaaDoorWAD
import Derived.Test.YtbbjmmooemmeiaaDoorWAF
import Derived.Test.YtbbjmmooemmeiaaDoorWAG
import Derived.Test.YtbbjmmooemmeiaaDoorWAH
import Derived.Test.YtbbjmmooemmeiaaDoorWAJ
import Derived.Test.YtbbjmmooemmeiaaDoorWAM
import Derived.Test.YtbbjmmooemmeiaaDoorWAP
import Derived.Test.YtbbjmmooemmeiaaDoorWAR
namespace Go.Proofs.YtbbjmmooemmeiaaDoor
set_option linter.all false
open Go.RowKit
set_option linter.unusedVariables false
section
variable {a : AskV} {s : SayV} {vd vx vl ve v : Value}
theorem scells_set (k : s.ok) (i : Nat) (u : Value) : (scells vx ve s).set (10 + i) u = .int .u16 s.dia :: .int .u64 s.siz :: (s.chal.map (Value.int .u8) ++ (stail vx ve s).set i u) := by
  unfold scells
  rw [show 10 + i = (8 + i) + 1 + 1 from by omega, List.set_cons_succ, List.set_cons_succ, List.set_append_right _ _ (by rw [List.length_map, k.clen]; omega), List.length_map, k.clen]
  congr 4
  omega
theorem scells_x (k : s.ok) : (scells vx ve s).set 15 v = scells v ve s := scells_set k 5 v
theorem scells_e (k : s.ok) : (scells vx ve s).set 17 v = scells vx v s := scells_set k 7 v
end
end Go.Proofs.YtbbjmmooemmeiaaDoor

namespace Go.Proofs.YtbbjmmooemmeiaaDoor
set_option linter.all false
open Go.RowKit
set_option linter.unusedVariables false
set_option maxRecDepth 100000 in
set_option maxHeartbeats 1000000 in
theorem CopySay_any (w : World) (cs : List Value) (a : SayV) (k : a.ok) (h : SayIs w w.heap.size cs a) (hb : a.data.length ≤ 140737488355328 ∧ a.ents.length ≤ 4398046511103) :
    Calls Tryd.prog 16 #[.agg cs.toArray] w fun e w' => ∃ cs', e = .returned (.agg cs'.toArray) ∧ SayIs w' w'.heap.size cs' a ∧ Below w.heap.size w w' := by
  obtain ⟨hbx, hbl⟩ := hb
  have HL := Lib.hid (h.len k)
  obtain ⟨Ax, nx, cx, Al, nl, cl, rfl, hx, hl⟩ := h
  have HX := Lib.hid hx
  have HLK := Lib.hid hl
  have hnx : nx ≤ 140737488355328 := by have := hx.len; omega
  have E1 : Hid ((scells (.slice Ax nx cx) (.slice Al nl cl) a)[15]? = some (.slice Ax nx cx)) := scells_get k 5
  have F2 : Hid (∀ u, (scells u (.slice Al nl cl) a)[17]? = some (.slice Al nl cl)) := fun u => scells_get k 7
  have S1 : Hid (∀ u, (scells (.slice Ax nx cx) (.slice Al nl cl) a).set 15 u = scells u (.slice Al nl cl) a) := fun u => scells_x k
  have S2 : Hid (∀ u t, (scells u (.slice Al nl cl) a).set 17 t = scells u t a) := fun u t => scells_e k
  have LN : Hid (∀ u t, (scells u t a).length = 20) := fun u t => scells_len k
  have ON : Hid (∀ u t, u.oneCell' = true → t.oneCell' = true → ∀ x ∈ scells u t a, x.oneCell' = true) := fun u t h2 h3 => scells_one h2 h3
  have ZH := Lib.hid zero_say
  have HZ : Hid ((scells (.slice none 0 0) (.slice none 0 0) zeroSay).length = 20) := scells_len zeroSay_ok
  obtain ⟨zs, hzs⟩ : ∃ zs, zs = scells (.slice none 0 0) (.slice none 0 0) zeroSay := ⟨_, rfl⟩
  rw [← hzs] at ZH HZ
  obtain ⟨cs, hcs⟩ : ∃ cs, cs = scells (.slice Ax nx cx) (.slice Al nl cl) a := ⟨_, rfl⟩
  obtain ⟨c2, hc2⟩ : ∃ c2 : Value → List Value, c2 = fun u => scells u (.slice Al nl cl) a := ⟨_, rfl⟩
  have T1 : Hid (∀ u, cs.set 15 u = c2 u) := by intro u; rw [hcs, hc2]; exact S1.out u
  have T2 : Hid (∀ u t, (c2 u).set 17 t = scells u t a) := by intro u t; rw [hc2]; exact S2.out u t
  have G2 : Hid (∀ u, (c2 u)[17]? = some (.slice Al nl cl)) := by intro u; rw [hc2]; exact F2.out u
  have N2 : Hid (∀ u, (c2 u).length = 20) := by intro u; rw [hc2]; exact LN.out _ _
  rw [← hcs] at E1 HL ⊢
  have hll := hl.len
  clear hx hl k hzs hcs hc2 F2 S1 S2
  go_enter Tryd.func16, Tryd.ntmps16
  go_wp2_with (first
    | ((with_reducible show wpList _ _ _ (⟨some 1, _, _, _, _, _⟩ :: _) _ _); refine wpList_box_blk rfl _ (.tmp 0) rfl cs rfl ?_; intro g w1 hg1 hg2 B1 L1)
    | ((with_reducible show wpList _ _ _ (⟨some 2, _, _, _, _, _⟩ :: _) _ _); refine wpList_alloc_blk rfl _ rfl zs _ ZH ?_; intro g2 w2 hg3 hg4 Z2 L2; have B2 := Lib.hid (B1.out.over L2.out); have L12 := Lib.hid (step L1.out L2.out); have g15 := B2.out.at E1.out)
    | fail)
  have hzg : g2 ≠ g := by have := B1.out.lt; omega
  have hgw2 := B2.out.lt
  have hzw2 := Z2.out.lt
  have hs2 := L12.out.size
  clear B1 L1 L2
  refine (Copy_any w2 Ax nx cx a.data (HX.out.over L12.out) hnx).mono ?_
  rintro e w5 ⟨v5, rfl, O5, L5⟩
  have B5 := Lib.hid (B2.out.over L5)
  have Z5 := Lib.hid (Z2.out.over L5)
  have L15 := Lib.hid (step L12.out L5)
  have O5' := Lib.hid O5
  have hv5 : v5.oneCell' = true := by obtain ⟨A1, c1, rfl⟩ := O5.len; rfl
  clear B2 Z2 L12 O5 g15
  go_wp2_with (first
    | ((with_reducible show wpList _ _ _ (⟨none, .store _ (.tmp 7) _, _, _, _, _⟩ :: _) _ _); refine wpList_store_fld rfl _ (.tmp 7) (.tmp 6) rfl g 15 rfl _ cs v5 rfl B5 (by have := HL.out; show 15 < _; omega) (by kernel_rfl) hv5 ?_; intro w6 B6 P6 hg6; rw [T1.out] at B6; have g17 := B6.out.at (G2.out v5); have L16 : Hid (Below w.heap.size w w6) := below_only L15.out P6.out hg1; have hzw6 : g2 < w6.heap.size := by (have := P6.out.size; have := Z5.out.lt; omega))
    | (at_builtin; refine wpList_append_holdS rfl (.tmp 8) (.tmp 10) entryCells 3 (by omega) entryCells_len entryCells_one _ rfl 43 82 32 Tryd.underlying43 info_entry rfl w6.heap.size _ [] rfl (OwnS.nil _ _ _ _ _) w.heap.size Al nl cl a.ents rfl (HLK.out.below L16.out) (by simp; omega) (by simp; omega) (Nat.le_refl _) ?_; intro v7 w7 O7 L7; have B7 := Lib.hid (B6.out.over L7.out); have hv7 : v7.oneCell' = true := by (obtain ⟨A1, n1, c1, hq, _⟩ := O7.out.holds (by omega) entryCells_len; rw [hq]; rfl))
    | ((with_reducible show wpList _ _ _ (⟨none, .store _ (.tmp 12) _, _, _, _, _⟩ :: _) _ _); refine wpList_store_fld rfl _ (.tmp 12) (.tmp 11) rfl g 17 rfl _ (c2 v5) v7 rfl B7 (by have := N2.out v5; show 17 < _; omega) (by kernel_rfl) hv7 ?_; intro w8 B8 P8 hg8; rw [T2.out] at B8; have Z8 : Hid (Blk w8 g2 45 zs) := ((Z5.out.only P6.out hzg).over L7.out).only P8.out hzg)
    | ((with_reducible show wpList _ _ _ (⟨some 13, _, _, _, _, _⟩ :: _) _ _); refine wpList_load_blk rfl _ (.tmp 1) rfl g rfl _ (scells v5 v7 a) B8 20 _ Tryd.underlying45 rfl size_say (LN.out _ _) ?_)
    | ((with_reducible show wpList _ _ _ (⟨none, .store _ (.tmp 2) _, _, _, _, _⟩ :: _) _ _); refine wpList_store_blk rfl _ (.tmp 2) (.tmp 13) rfl g2 rfl _ zs (scells v5 v7 a) rfl Z8 20 size_say HZ (LN.out _ _) (ON.out _ _ hv5 hv7) ?_; intro w9 Z9 P9 hg9)
    | fail)
  have hg2w : w.heap.size ≤ g2 := by omega
  have L17 : Below w.heap.size w w7 := L16.out.trans (L7.out.mono (by have := L16.out.size; omega))
  have L19 : Below w.heap.size w w9 := below_only (below_only L17 P8.out hg1) P9.out hg2w
  refine bodyPost_ret (v := .agg (scells v5 v7 a).toArray) ?_ rfl ⟨scells v5 v7 a, rfl, ?_, L19⟩
  · exact results_cell_row rfl _ _ g2 _ _ (0, 0) _ rfl Z9.out Tryd.underlying45 rfl (by rw [size_say]; have := LN.out v5 v7; simp [this])
  · have keep : ∀ i, i ≠ g → i ≠ g2 → w9.heap[i]? = w7.heap[i]? := fun i h1 h2 => (P9.out.rest i h2).trans (P8.out.rest i h1)
    have X6 : Own w6 w2.heap.size v5 a.data := by
      refine ⟨O5'.out.1, ?_⟩
      rcases O5'.out.2 with h0 | ⟨q, cap, cur, rfl, h1, hq, rest⟩
      · exact .inl h0
      · exact .inr ⟨q, cap, cur, rfl, h1, (P6.out.rest q (by omega)).trans hq, rest⟩
    have X7 : Own w7 w2.heap.size v5 a.data := X6.below (L7.out)
    have X9 : Own w9 w2.heap.size v5 a.data := by
      refine ⟨X7.1, ?_⟩
      rcases X7.2 with h0 | ⟨q, cap, cur, rfl, h1, hq, rest⟩
      · exact .inl h0
      · exact .inr ⟨q, cap, cur, rfl, h1, (keep q (by omega) (by omega)).trans hq, rest⟩
    have hgw6 := B6.out.lt
    have O7' := O7.out
    rw [List.nil_append] at O7'
    have K9 : OwnS entryCells 3 82 w9 w6.heap.size v7 a.ents := O7'.keep fun i cs hi hcs => keep i (by
      rcases O7'.2 with ⟨h0, _⟩ | ⟨q, cap, cur, h0, h1, _⟩
      · rw [h0] at hi; cases hi
      · rw [h0] at hi; simp only [Value.ownBlock, Option.some.injEq] at hi; omega) (by
      rcases O7'.2 with ⟨h0, _⟩ | ⟨q, cap, cur, h0, h1, _⟩
      · rw [h0] at hi; cases hi
      · rw [h0] at hi; simp only [Value.ownBlock, Option.some.injEq] at hi; omega)
    obtain ⟨A5, k5, rfl, H5⟩ := X9.holds HX.out.byte (by omega)
    obtain ⟨A7, n7, k7, rfl, H7⟩ := K9.holds (by omega) entryCells_len
    exact ⟨A5, _, k5, A7, n7, k7, rfl, H5, H7⟩
end Go.Proofs.YtbbjmmooemmeiaaDoor
