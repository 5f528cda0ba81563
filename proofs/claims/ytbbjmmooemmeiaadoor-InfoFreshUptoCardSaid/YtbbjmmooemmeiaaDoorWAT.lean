import Derived.WalkKit
import Derived.Deep.Draws
import Derived.Laws.Rows
import Derived.Laws.OwnMore
import Derived.Test.YtbbjmmooemmeiaaDoorRows
import Derived.Laws.CopyOwn
import Derived.Laws.AppendOwnNone
import Derived.Lib.Hide
import Derived.Laws.AppendOwn
import Derived.OwnWalk
import Derived.Lib.OthersKept
import Derived.Laws.BytesArg
import Derived.Laws.Tables
import Derived.Laws.NewFold
import Derived.Deep.WholeRow
import Derived.Deep.DeepCutAuto
import Derived.OneCell
import Derived.ProofKit
import Derived.OpenShut
import Derived.ShutString
import Derived.SizedLaws
import Derived.ChangeOld
import Derived.Deep.Strs
import Derived.Deep.MidRow
import Derived.Great.Walk
import Derived.OrdersHeld
import Derived.Laws.StructEq
import Derived.ChangeKeysEq
import Derived.Laws.Bits64
import Derived.Laws.BitsAllLaws
import Derived.WalkSpells
import Derived.WalkLawsBesides
import Derived.Deep.QuietTactic
import Derived.BigQuiet
import Derived.Test.YtbbjmmooemmeiaaDoorWAD
import Derived.Test.YtbbjmmooemmeiaaDoorWAE
import Derived.Test.YtbbjmmooemmeiaaDoorWAF
import Derived.Test.YtbbjmmooemmeiaaDoorWAH
import Derived.Test.YtbbjmmooemmeiaaDoorWAK
import Derived.Test.YtbbjmmooemmeiaaDoorWAM
import Derived.Test.YtbbjmmooemmeiaaDoorWAO
import Derived.Test.YtbbjmmooemmeiaaDoorWAP
namespace Go.Proofs.YtbbjmmooemmeiaaDoor
set_option linter.all false
open Go.RowKit Go.ChangeShapes Go.WideShapes
section
variable {α : Type} {f : α → Value} {w w' w2 : World} {B B' base base' b : Nat} {A : Option Addr} {n c : Nat} {xs ys : List α} {e e' T : TypeId} {v v' u : Value}
theorem OwnF.oneCell (h : OwnF f e w base v xs) : v.oneCell' = true := by
  obtain ⟨A, n, c, rfl, _⟩ := h.open
  rfl
end
section
variable {α : Type} {f : α → Value} {P : Program} {w : World} {ops : Array Oper} {rest : List Oper} {o : Oper} {a : Act} {Q : Exit → Act → World → Prop}
end
section
variable {H : Type} {enc : TypeId × Value → H} {P : Program} {W : World} {base : Nat} {t e : TypeId} {v : Value} {d : DataW H} {p : List MemPlace}
end
end Go.Proofs.YtbbjmmooemmeiaaDoor

namespace Go.Proofs.YtbbjmmooemmeiaaDoor
set_option linter.all false
open Go.RowKit
section
variable {α : Type} {f : α → Value} {P : Program} {w : World} {ops : Array Oper} {rest : List Oper} {o : Oper} {a : Act} {Q : Exit → Act → World → Prop}
/-- append(out, src...), out the call's own, src whatever holds such elements -/
theorem wpList_append_holdF (hgd : o.guard = none) (s x : Operand) (f : α → Value) (hf : ∀ y, (f y).oneCell' = true) (z : Value) (hzc : z.cells.size = 1) (T e : TypeId) (bytes : Nat)
    (ht : P.underlying T = some (.slice e)) (hi : (P.info? e).map (fun i => (i.zero, i.size, i.bytes)) = some (some z, 1, bytes))
    (ho : o.op = .call { callee := .builtin .append, args := #[s, x], argTypes := #[T, T] })
    (base : Nat) (v : Value) (xs : List α) (hs : a.eval s = v) (hown : OwnF f e w base v xs) (B : Nat) (A : Option Addr) (m c : Nat) (ys : List α) (hx : a.eval x = .slice A m c)
    (hr : HoldsF f w B A m c ys) (hlen : (xs.length + ys.length) * bytes ≤ 140737488355328) (h63 : xs.length + ys.length ≤ 9223372036854775807) (hbase : base ≤ w.heap.size)
    (h : ∀ v' w', Hid (OwnF f e w' base v' (xs ++ ys)) → Hid (Below base w w') → wpList P ops Q rest (a.put o.dst v') w') :
    wpList P ops Q (o :: rest) a w := by
  obtain ⟨i0, hi0, hz0, hz1, hz2⟩ := info_parts hi
  have hl := hr.len
  rcases A with _ | ad
  · have hc := hr.bare rfl
    have hft := hr.fit
    have hm : m = 0 := by omega
    subst hm
    subst hc
    have : ys = [] := List.eq_nil_of_length_eq_zero hl
    subst this
    refine wpList_append_own_none hgd s x T ho base e i0 1 ht hi0 v xs.length _ hs hown hx ?_
    exact h v w (by rw [List.append_nil]; exact hown) (Below.refl _ _)
  · refine wpList_append_own w hgd s x T ho base e i0 z 1 bytes ht hi0 hz0 hz1 hz2 hzc (by omega) v xs.length _ hs hown ad m c (ys.map f) hx (by simp [hl]) ?_
      (by intro v hv; obtain ⟨x, _, rfl⟩ := List.mem_map.1 hv; exact hf x) (by unfold maxLen; omega) (by rw [← hl]; exact hlen) hbase ?_
    · intro j u hj
      have hjl : j < ys.length := by
        by_cases hj' : j < ys.length
        · exact hj'
        · rw [List.getElem?_eq_none (by simp; omega)] at hj
          cases hj
      obtain ⟨b, off, he, _, hcl⟩ := hr.cells (by omega)
      injection he with he
      subst he
      have e : (⟨b, off, none⟩ : Addr).add j = ⟨b, off + j, none⟩ := by
        by_cases hj0 : j = 0
        · subst hj0; simp [Addr.add]
        · simp [Addr.add, hj0]
      rw [e, hcl j ys[j] (List.getElem?_eq_getElem hjl), ← hj]
      simp [hjl]
    · intro v' w' hown' hgr _
      refine h v' w' ?_ ((Below.refl _ _).grown hgr hbase (fun k hk => (World.ownsRow.lt hown k hk).1))
      show World.ownsRow _ _ _ _ _ _ _
      rw [List.length_append, List.map_append, hl]
      exact hown'
end
section
variable {α : Type} {f : α → Value} {e : TypeId} {w : World} {base g n c : Nat} {xs : List α}
end
section
open Go.ChangeShapes Go.WideShapes
variable {H : Type} {enc : TypeId × Value → H} {P : Program} {W : World} {base : Nat} {t e : TypeId} {v : Value} {d : DataW H} {p : List MemPlace}
end
end Go.Proofs.YtbbjmmooemmeiaaDoor

namespace Go.Proofs.YtbbjmmooemmeiaaDoor
set_option linter.all false
open Go.RowKit
theorem lockCells_one (l : LockV) : ∀ u ∈ lockCells l, u.oneCell' = true := by
  intro u hu
  simp only [lockCells, List.mem_cons, List.not_mem_nil, or_false] at hu
  rcases hu with rfl | rfl | rfl | rfl <;> rfl
section
variable {w w' : World} {B B' g : Nat} {T : TypeId} {cs : List Value} {a : AskV} {s : SayV} {vd vx vl ve : Value}
end
end Go.Proofs.YtbbjmmooemmeiaaDoor

namespace Go.Proofs.YtbbjmmooemmeiaaDoor
set_option linter.all false
open Go.RowKit
set_option maxRecDepth 100000
set_option linter.unusedVariables false
section
variable {P : Program} {w : World} {d : Nat} {xs ys : Array Value} {r : List (Bool × TypeId × Nat)} {q : Bool}
end
theorem info_lock : (Tryd.prog.info? 108).map (fun i => (i.zero, i.size, i.bytes)) = some (some (.agg (lockCells ⟨0, 0, 0, 0⟩).toArray), 4, 32) := by kernel_rfl
set_option maxHeartbeats 400000 in
theorem CopyLocks_any (w : World) (A : Option Addr) (n c : Nat) (xs : List LockV) (h : HoldsS lockCells 4 w w.heap.size A n c xs) (hn : n ≤ 4398046511103) :
    Calls Tryd.prog 28 #[.slice A n c] w fun e w' => ∃ v, e = .returned v ∧ OwnS lockCells 4 108 w' w.heap.size v xs ∧ Below w.heap.size w w' := by
  have hxl : xs.length ≤ 4398046511103 := by have := h.len; omega
  go_enter Tryd.func28, Tryd.ntmps28
  go_wp2_with (at_builtin; refine wpList_append_holdS rfl (.tmp 4) (.tmp 5) lockCells 4 (by omega) lockCells_len lockCells_one _ rfl 30 108 32 Tryd.underlying30 info_lock rfl w.heap.size _ [] rfl (OwnS.nil _ _ _ _ _) w.heap.size A n c xs rfl h (by simp; omega) (by simp; omega) (Nat.le_refl _) ?_; intro v1 w1 ho1 hb1)
  have ho := ho1.out
  rw [List.nil_append] at ho
  go_ret
  exact ⟨_, rfl, ho, hb1.out⟩
end Go.Proofs.YtbbjmmooemmeiaaDoor

namespace Go.Proofs.YtbbjmmooemmeiaaDoor
set_option linter.all false
open Go.RowKit
set_option linter.unusedVariables false
theorem info_u16w : (Tryd.prog.info? 22).map (fun i => (i.zero, i.size, i.bytes)) = some (some (.int .u16 0), 1, 2) := by kernel_rfl
section
variable {a : AskV} {s : SayV} {vd vx vl ve v : Value}
theorem acells_d : (acells vd vx vl a).set 0 v = acells v vx vl a := rfl
theorem acells_x (k : a.ok) : (acells vd vx vl a).set 61 v = acells vd v vl a := acells_set k 12 v
theorem acells_l (k : a.ok) : (acells vd vx vl a).set 62 v = acells vd vx v a := acells_set k 13 v
end
set_option maxRecDepth 100000 in
set_option maxHeartbeats 1000000 in
theorem CopyAsk_any (w : World) (cs : List Value) (a : AskV) (k : a.ok) (h : AskIs w w.heap.size cs a) (hb : a.dial.length ≤ 70368744177663 ∧ a.data.length ≤ 140737488355328 ∧ a.locks.length ≤ 4398046511103) :
    Calls Tryd.prog 10 #[.agg cs.toArray] w fun e w' => ∃ cs', e = .returned (.agg cs'.toArray) ∧ AskIs w' w'.heap.size cs' a ∧ Below w.heap.size w w' := by
  obtain ⟨hbd, hbx, hbl⟩ := hb
  have HL := Lib.hid (h.len k)
  have HO := Lib.hid h.one
  obtain ⟨Ad, nd, cd, Ax, nx, cx, Al, nl, cl, rfl, hd, hx, hl⟩ := h
  have HD := Lib.hid hd
  have HX := Lib.hid hx
  have HLK := Lib.hid hl
  have hnx : nx ≤ 140737488355328 := by have := hx.len; omega
  have hnl : nl ≤ 4398046511103 := by have := hl.len; omega
  have E0 : Hid ((acells (.slice Ad nd cd) (.slice Ax nx cx) (.slice Al nl cl) a)[0]? = some (.slice Ad nd cd)) := rfl
  have E1 : Hid (∀ v, (acells v (.slice Ax nx cx) (.slice Al nl cl) a)[61]? = some (.slice Ax nx cx)) := fun v => acells_get k 12
  have E2 : Hid (∀ v u, (acells v u (.slice Al nl cl) a)[62]? = some (.slice Al nl cl)) := fun v u => acells_get k 13
  have S0 : Hid (∀ v, (acells (.slice Ad nd cd) (.slice Ax nx cx) (.slice Al nl cl) a).set 0 v = acells v (.slice Ax nx cx) (.slice Al nl cl) a) := fun v => acells_d
  have S1 : Hid (∀ v u, (acells v (.slice Ax nx cx) (.slice Al nl cl) a).set 61 u = acells v u (.slice Al nl cl) a) := fun v u => acells_x k
  have S2 : Hid (∀ v u t, (acells v u (.slice Al nl cl) a).set 62 t = acells v u t a) := fun v u t => acells_l k
  have LN : Hid (∀ v u t, (acells v u t a).length = 69) := fun v u t => acells_len k
  have ON : Hid (∀ v u t, v.oneCell' = true → u.oneCell' = true → t.oneCell' = true → ∀ x ∈ acells v u t a, x.oneCell' = true) := fun v u t h1 h2 h3 => acells_one h1 h2 h3
  have ZH := Lib.hid zero_ask
  have HZ : Hid ((acells (.slice none 0 0) (.slice none 0 0) (.slice none 0 0) zeroAsk).length = 69) := acells_len zeroAsk_ok
  obtain ⟨zs, hzs⟩ : ∃ zs, zs = acells (.slice none 0 0) (.slice none 0 0) (.slice none 0 0) zeroAsk := ⟨_, rfl⟩
  rw [← hzs] at ZH HZ
  obtain ⟨cs, hcs⟩ : ∃ cs, cs = acells (.slice Ad nd cd) (.slice Ax nx cx) (.slice Al nl cl) a := ⟨_, rfl⟩
  obtain ⟨c1, hc1⟩ : ∃ c1 : Value → List Value, c1 = fun v => acells v (.slice Ax nx cx) (.slice Al nl cl) a := ⟨_, rfl⟩
  obtain ⟨c2, hc2⟩ : ∃ c2 : Value → Value → List Value, c2 = fun v u => acells v u (.slice Al nl cl) a := ⟨_, rfl⟩
  have T0 : Hid (∀ v, cs.set 0 v = c1 v) := by intro v; rw [hcs, hc1]; exact S0.out v
  have T1 : Hid (∀ v u, (c1 v).set 61 u = c2 v u) := by intro v u; rw [hc1, hc2]; exact S1.out v u
  have T2 : Hid (∀ v u t, (c2 v u).set 62 t = acells v u t a) := by intro v u t; rw [hc2]; exact S2.out v u t
  have F1 : Hid (∀ v, (c1 v)[61]? = some (.slice Ax nx cx)) := by intro v; rw [hc1]; exact E1.out v
  have F2 : Hid (∀ v u, (c2 v u)[62]? = some (.slice Al nl cl)) := by intro v u; rw [hc2]; exact E2.out v u
  have N1 : Hid (∀ v, (c1 v).length = 69) := by intro v; rw [hc1]; exact LN.out _ _ _
  have N2 : Hid (∀ v u, (c2 v u).length = 69) := by intro v u; rw [hc2]; exact LN.out _ _ _
  rw [← hcs] at E0 HL HO ⊢
  have hdl := hd.len
  clear hd hx hl k hzs hcs hc1 hc2 E1 E2 S0 S1 S2
  go_enter Tryd.func10, Tryd.ntmps10
  go_wp2_with (first
    | ((with_reducible show wpList _ _ _ (⟨some 1, _, _, _, _, _⟩ :: _) _ _); refine wpList_box_blk rfl _ (.tmp 0) rfl cs rfl ?_; intro g w1 hg1 hg2 B1 L1)
    | ((with_reducible show wpList _ _ _ (⟨some 2, _, _, _, _, _⟩ :: _) _ _); refine wpList_alloc_blk rfl _ rfl zs _ ZH ?_; intro g2 w2 hg3 hg4 Z2 L2; have B2 := Lib.hid (B1.out.over L2.out); have L12 := Lib.hid (step L1.out L2.out); have g0 := B2.out.at E0.out)
    | (at_builtin; refine wpList_append_holdF rfl (.tmp 4) (.tmp 6) (Value.int .u16) (fun _ => rfl) (.int .u16 0) rfl 24 22 2 Tryd.underlying24 info_u16w rfl w2.heap.size _ [] rfl (OwnF.nil _ _ _ _) w.heap.size Ad nd cd a.dial rfl (HD.out.below L12.out) (by simp; omega) (by simp; omega) (Nat.le_refl _) ?_; intro v3 w3 O3 L3; have B3 := Lib.hid (B2.out.over L3.out); have hv3 := O3.out.oneCell)
    | ((with_reducible show wpList _ _ _ (⟨none, .store _ (.tmp 8) _, _, _, _, _⟩ :: _) _ _); refine wpList_store_fld rfl _ (.tmp 8) (.tmp 7) rfl g 0 rfl _ cs v3 rfl B3 (by have := HL.out; show 0 < _; omega) (by kernel_rfl) hv3 ?_; intro w4 B4 P4 hg5; rw [T0.out] at B4; have g61 := B4.out.at (F1.out v3))
    | fail)
  have hgw2 := B2.out.lt
  have L14 : Hid (Below w.heap.size w w4) := below_only (L12.out.trans (L3.out.mono (by have := L12.out.size; omega))) P4.out hg1
  have hzg : g2 ≠ g := by have := B1.out.lt; omega
  have Z4 : Hid (Blk w4 g2 32 zs) := (Z2.out.over L3.out).only P4.out hzg
  have O4 : Hid (OwnF (Value.int .u16) 22 w4 w2.heap.size v3 a.dial) := by
    have := O3.out
    rw [List.nil_append] at this
    exact this.keep fun i _ hi _ => P4.out.rest i (by have := (this.block hi).1; omega)
  clear O3 B3 P4 Z2 B1 B2 L1 L2 L3 L12 g0
  refine (Copy_any w4 Ax nx cx a.data (HX.out.over L14.out) hnx).mono ?_
  rintro e w5 ⟨v5, rfl, O5, L5⟩
  have B5 := Lib.hid (B4.out.over L5)
  have Z5 := Lib.hid (Z4.out.over L5)
  have O45 := Lib.hid (O4.out.below L5)
  have L15 := Lib.hid (step L14.out L5)
  have O5' := Lib.hid O5
  have hv5 : v5.oneCell' = true := by obtain ⟨A1, c1, rfl⟩ := O5.len; rfl
  have hgw4 := B4.out.lt
  have hzw4 := Z4.out.lt
  have hs45 := L14.out.size
  clear B4 Z4 O4 L14 O5 g61
  go_wp2_with (first
    | ((with_reducible show wpList _ _ _ (⟨none, .store _ (.tmp 12) _, _, _, _, _⟩ :: _) _ _); refine wpList_store_fld rfl _ (.tmp 12) (.tmp 11) rfl g 61 rfl _ (c1 v3) v5 rfl B5 (by have := N1.out v3; show 61 < _; omega) (by kernel_rfl) hv5 ?_; intro w6 B6 P6 hg6; rw [T1.out] at B6; have g62 := B6.out.at (F2.out v3 v5))
    | fail)
  have L16 : Hid (Below w.heap.size w w6) := below_only L15.out P6.out hg1
  have Z6 : Hid (Blk w6 g2 32 zs) := Z5.out.only P6.out hzg
  have O46 : Hid (OwnF (Value.int .u16) 22 w6 w2.heap.size v3 a.dial) := O45.out.keep fun i _ hi _ => P6.out.rest i (by have := (O45.out.block hi).1; omega)
  have O56 : Hid (Own w6 w4.heap.size v5 a.data) := by
    refine ⟨O5'.out.1, ?_⟩
    rcases O5'.out.2 with h0 | ⟨q, cap, cur, rfl, h1, hq, rest⟩
    · exact .inl h0
    · exact .inr ⟨q, cap, cur, rfl, h1, (P6.out.rest q (by omega)).trans hq, rest⟩
  clear B5 Z5 O45 L15 O5' P6
  refine (CopyLocks_any w6 Al nl cl a.locks (HLK.out.over L16.out) hnl).mono ?_
  rintro e w7 ⟨v7, rfl, O7, L7⟩
  have B7 := Lib.hid (B6.out.over L7)
  have Z7 := Lib.hid (Z6.out.over L7)
  have O47 := Lib.hid (O46.out.below L7)
  have O57 := Lib.hid (O56.out.below L7)
  have L17 := Lib.hid (step L16.out L7)
  have O7' := Lib.hid O7
  have hv7 : v7.oneCell' = true := by obtain ⟨A1, n1, c1, rfl, _⟩ := O7.holds (by omega) lockCells_len; rfl
  have hgw6 := B6.out.lt
  have hzw6 := Z6.out.lt
  clear B6 Z6 O46 O56 L16 O7 g62
  have HN3 : Hid ((acells v3 v5 v7 a).length = 69) := LN.out _ _ _
  have HO3 : Hid (∀ x ∈ acells v3 v5 v7 a, x.oneCell' = true) := ON.out _ _ _ hv3 hv5 hv7
  obtain ⟨c3, hc3⟩ : ∃ c3, c3 = acells v3 v5 v7 a := ⟨_, rfl⟩
  have T3 : Hid ((c2 v3 v5).set 62 v7 = c3) := by show _ = _; rw [hc3]; exact T2.out _ _ _
  rw [← hc3] at HN3 HO3
  have HC3 := Lib.hid hc3
  clear hc3
  go_wp2_with (first
    | ((with_reducible show wpList _ _ _ (⟨none, .store _ (.tmp 16) _, _, _, _, _⟩ :: _) _ _); refine wpList_store_fld rfl _ (.tmp 16) (.tmp 15) rfl g 62 rfl _ (c2 v3 v5) v7 rfl B7 (by have := N2.out v3 v5; show 62 < _; omega) (by kernel_rfl) hv7 ?_; intro w8 B8 P8 hg8; rw [T3.out] at B8; have Z8 : Hid (Blk w8 g2 32 zs) := Z7.out.only P8.out hzg)
    | ((with_reducible show wpList _ _ _ (⟨some 17, _, _, _, _, _⟩ :: _) _ _); refine wpList_load_blk rfl _ (.tmp 1) rfl g rfl _ c3 B8 69 _ Tryd.underlying32 rfl size_ask HN3 ?_)
    | ((with_reducible show wpList _ _ _ (⟨none, .store _ (.tmp 2) _, _, _, _, _⟩ :: _) _ _); refine wpList_store_blk rfl _ (.tmp 2) (.tmp 17) rfl g2 rfl _ zs c3 rfl Z8 69 size_ask HZ HN3 HO3 ?_; intro w9 Z9 P9 hg9)
    | fail)
  have hg2w : w.heap.size ≤ g2 := by have := L17.out.size; omega
  have L19 : Below w.heap.size w w9 := below_only (below_only L17.out P8.out hg1) P9.out hg2w
  refine bodyPost_ret (v := .agg c3.toArray) ?_ rfl ⟨c3, rfl, ?_, L19⟩
  · exact results_cell_row rfl _ _ g2 _ _ (0, 0) _ rfl Z9.out Tryd.underlying32 rfl (by rw [size_ask]; have := HN3.out; simp [this])
  · have keep : ∀ i, i ≠ g → i ≠ g2 → w9.heap[i]? = w7.heap[i]? := fun i h1 h2 => (P9.out.rest i h2).trans (P8.out.rest i h1)
    have hs9 : w9.heap.size = w7.heap.size := by rw [P9.out.size, P8.out.size]
    have D9 : OwnF (Value.int .u16) 22 w9 w2.heap.size v3 a.dial := O47.out.keep fun i _ hi _ => keep i (by have := (O47.out.block hi).1; omega) (by have := (O47.out.block hi).1; omega)
    have X9 : Own w9 w4.heap.size v5 a.data := by
      refine ⟨O57.out.1, ?_⟩
      rcases O57.out.2 with h0 | ⟨q, cap, cur, rfl, h1, hq, rest⟩
      · exact .inl h0
      · exact .inr ⟨q, cap, cur, rfl, h1, (keep q (by omega) (by omega)).trans hq, rest⟩
    have K9 : OwnS lockCells 4 108 w9 w6.heap.size v7 a.locks := O7'.out.keep fun i cs hi hcs => keep i (by
      rcases O7'.out.2 with ⟨h0, _⟩ | ⟨q, cap, cur, h0, h1, _⟩
      · rw [h0] at hi; cases hi
      · rw [h0] at hi; simp only [Value.ownBlock, Option.some.injEq] at hi; omega) (by
      rcases O7'.out.2 with ⟨h0, _⟩ | ⟨q, cap, cur, h0, h1, _⟩
      · rw [h0] at hi; cases hi
      · rw [h0] at hi; simp only [Value.ownBlock, Option.some.injEq] at hi; omega)
    obtain ⟨A3, n3, k3, rfl, H3⟩ := D9.holds
    obtain ⟨A5, k5, rfl, H5⟩ := X9.holds HX.out.byte (by omega)
    obtain ⟨A7, n7, k7, rfl, H7⟩ := K9.holds (by omega) lockCells_len
    exact ⟨A3, n3, k3, A5, _, k5, A7, n7, k7, HC3.out, H3, H5, H7⟩
end Go.Proofs.YtbbjmmooemmeiaaDoor
