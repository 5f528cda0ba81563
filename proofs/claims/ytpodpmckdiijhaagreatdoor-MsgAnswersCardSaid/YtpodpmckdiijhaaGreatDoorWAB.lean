import Derived.WalkKit
import Derived.Deep.Draws
import Derived.Laws.Rows
import Derived.Laws.OwnMore
import Derived.Test.YtpodpmckdiijhaaGreatDoorRows
import Derived.Laws.CopyOwn
import Derived.Laws.AppendOwnNone
import Derived.Lib.Hide
import Derived.Laws.Tables
import Derived.Laws.NewFold
import Derived.Deep.WholeRow
import Derived.Deep.MidRow
import Derived.Great.Walk
import Derived.OrdersHeld
import Derived.Laws.StructEq
import Derived.ChangeKeysEq
import Derived.Laws.Bits64
import Derived.Laws.BitsAllLaws
import Derived.WalkSpells
import Derived.WalkLawsBesides
import Derived.Laws.AppendOwn
import Derived.OwnWalk
import Derived.Lib.OthersKept
import Derived.Laws.BytesArg
import Derived.Deep.DeepCutAuto
import Derived.OneCell
import Derived.ProofKit
import Derived.OpenShut
import Derived.ShutString
import Derived.SizedLaws
import Derived.ChangeOld
import Derived.Deep.Strs
import Derived.Deep.QuietTactic
import Derived.BigQuiet
import Derived.Lib.RuneBytes
import Derived.Lib.ValidLaws
import Derived.Shelf.Utf8.AppendRunePlain
import Derived.Shelf.Unicode.ValidAny
import Derived.Test.YtpodpmckdiijhaaGreatDoorProg
import Derived.Deep.RegionLaw
import Derived.Lib.AppendZeros
import Derived.Deep.RegionWith
import Derived.Deep.OwnRows
import Derived.Test.YtpodpmckdiijhaaGreatDoorWAA
namespace Go.Proofs.YtpodpmckdiijhaaGreatDoor
set_option linter.all false
set_option maxRecDepth 100000
open Go.RowKit
section
/-- two arrays that may differ -/
theorem run_equalIn_arr3 {P : Program} {T e : TypeId} {n : Nat} {k : IntKind} (hu : P.underlying T = some (.array n e)) (he : P.underlying e = some (.int k)) (hs : (P.info? e).map (·.size) = some 1) (xs ys : List Int) (hl : xs.length = n) (hm : ys.length = n) (d : Nat) (w : World) :
    (Op.equalIn (d + 2) T (.agg (xs.map (Value.int k)).toArray) (.agg (ys.map (Value.int k)).toArray)).run P w = .ok (decide (xs = ys)) w := by
  obtain ⟨j, hj, hj1⟩ : ∃ j, P.info? e = some j ∧ j.size = 1 := by
    cases hq : P.info? e with
    | none => simp [hq] at hs
    | some j => exact ⟨j, rfl, by simpa [hq] using hs⟩
  have hc : P.cellsOf e = 1 := by unfold Program.cellsOf; rw [hj]; simpa using hj1
  rw [show d + 2 = (d + 1) + 1 from rfl, run_equalIn_array w (d + 1) _ _ hu hj, hc]
  have key : ∀ is : List Nat, (∀ i ∈ is, i < n) → (Op.eqItems (d + 1) e 1 (xs.map (Value.int k)).toArray (ys.map (Value.int k)).toArray is).run P w = .ok (is.all fun i => xs.getD i 0 == ys.getD i 0) w := by
    intro is
    induction is with
    | nil => intro _; simp [Op.eqItems]
    | cons i is ih =>
      intro hi
      have hil : i < n := hi i List.mem_cons_self
      have hx : i < xs.length := by omega
      have hy : i < ys.length := by omega
      have hp : (part e (xs.map (Value.int k)).toArray (i * 1)).run P w = .ok (.int k xs[i]) w := by simp [part, isAgg, run_underlying he, hx]
      have hp2 : (part e (ys.map (Value.int k)).toArray (i * 1)).run P w = .ok (.int k ys[i]) w := by simp [part, isAgg, run_underlying he, hy]
      simp only [Op.eqItems, Sem.run_bind, hp, hp2, Result.andThen_ok, run_equalIn_int w d e k k _ _ he]
      have e1 : xs.getD i 0 = xs[i] := by simp [List.getD_eq_getElem?_getD, hx]
      have e2 : ys.getD i 0 = ys[i] := by simp [List.getD_eq_getElem?_getD, hy]
      rw [List.all_cons, e1, e2]
      by_cases hq : xs[i] = ys[i]
      · rw [hq]
        simp only [beq_self_eq_true, Bool.not_true, Bool.false_eq_true, if_false, Bool.true_and]
        exact ih fun i h => hi i (List.mem_cons_of_mem _ h)
      · have hb : (xs[i] == ys[i]) = false := by simpa using hq
        simp [hb]
  rw [key _ fun i h => List.mem_range.1 h]
  congr 1
  by_cases hq : xs = ys
  · subst hq
    simp
  · rw [decide_eq_false hq, List.all_eq_false]
    have hne : ¬ ∀ i, i < n → xs.getD i 0 = ys.getD i 0 := fun hall => hq (by
      apply List.ext_getElem (by omega)
      intro i h1 h2
      have := hall i (by omega)
      simpa [List.getD_eq_getElem?_getD, h1, h2] using this)
    obtain ⟨i, hi⟩ := Classical.not_forall.1 hne
    obtain ⟨hi1, hi2⟩ := Classical.not_imp.1 hi
    exact ⟨i, List.mem_range.2 hi1, by simpa using hi2⟩
/-- '==' over the fields, by their types and places alone -/
def eqSpec (d : Nat) (xs ys : Array Value) : List (Bool × TypeId × Nat) → Sem Bool
  | [] => pure true
  | (u, t, o) :: r =>
    if u = true then eqSpec d xs ys r else do
      let a ← part t xs o
      let b ← part t ys o
      let q ← Op.equalIn d t a b
      if (!q) = true then pure false else eqSpec d xs ys r
theorem eqFields_spec (d : Nat) (xs ys : Array Value) (l : List Field) : Op.eqFields d xs ys l = eqSpec d xs ys (l.map fun f => (decide (f.name = "_"), f.type, f.offset)) := by
  induction l with
  | nil => rfl
  | cons f l ih =>
    simp only [Op.eqFields, List.map_cons, eqSpec, ih]
    by_cases h : f.name = "_"
    · simp [h]
    · simp [h]
section
variable {P : Program} {w : World} {d : Nat} {xs ys : Array Value} {r : List (Bool × TypeId × Nat)} {q : Bool}
theorem eqSpec_int (t : TypeId) (k : IntKind) (o : Nat) (x y : Int) (ht : P.underlying t = some (.int k)) (hx : xs[o]? = some (.int k x)) (hy : ys[o]? = some (.int k y)) (hr : (eqSpec (d + 1) xs ys r).run P w = .ok q w) :
    (eqSpec (d + 1) xs ys ((false, t, o) :: r)).run P w = .ok (x == y && q) w := by
  have p1 : (part t xs o).run P w = .ok (.int k x) w := by simp [part, isAgg, run_underlying ht, hx]
  have p2 : (part t ys o).run P w = .ok (.int k y) w := by simp [part, isAgg, run_underlying ht, hy]
  simp only [eqSpec, Bool.false_eq_true, if_false, Sem.run_bind, p1, p2, Result.andThen_ok, run_equalIn_int w d t k k _ _ ht]
  by_cases h : x = y
  · subst h
    simpa using hr
  · have hb : (x == y) = false := by simpa using h
    simp [hb]
theorem eqSpec_arr (t e : TypeId) (n : Nat) (k : IntKind) (o : Nat) (us vs : List Int) (ht : P.underlying t = some (.array n e)) (he : P.underlying e = some (.int k)) (hs : (P.info? e).map (·.size) = some 1) (hz : (P.info? t).map (·.size) = some n)
    (hx : xs.extract o (o + n) = (us.map (Value.int k)).toArray) (hy : ys.extract o (o + n) = (vs.map (Value.int k)).toArray) (ha : us.length = n) (hb : vs.length = n) :
    (eqSpec (d + 2) xs ys [(false, t, o)]).run P w = .ok (decide (us = vs)) w := by
  obtain ⟨j, hj, hj1⟩ : ∃ j, P.info? t = some j ∧ j.size = n := by
    cases hq : P.info? t with
    | none => simp [hq] at hz
    | some j => exact ⟨j, rfl, by simpa [hq] using hz⟩
  have p1 : (part t xs o).run P w = .ok (.agg (us.map (Value.int k)).toArray) w := by simp [part, isAgg, run_underlying ht, sizeOf, typeInfo, hj, hj1, hx]
  have p2 : (part t ys o).run P w = .ok (.agg (vs.map (Value.int k)).toArray) w := by simp [part, isAgg, run_underlying ht, sizeOf, typeInfo, hj, hj1, hy]
  simp only [eqSpec, Bool.false_eq_true, if_false, Sem.run_bind, p1, p2, Result.andThen_ok, run_equalIn_arr3 ht he hs us vs ha hb d w]
  by_cases h : us = vs
  · simp [h]
  · simp [h]
end
theorem fields_hd : (Tryz.prog.fieldsOf 28).toList.map (fun f => (decide (f.name = "_"), f.type, f.offset)) =
    [(false, 22, 0), (false, 23, 1), (false, 24, 2), (false, 22, 3), (false, 23, 4), (false, 23, 5), (false, 25, 6), (false, 25, 7), (false, 23, 8), (false, 25, 9), (false, 26, 10)] := by kernel_rfl
/-- '==' of two heads -/
theorem run_equalIn_hd (a b : Hd) (ka : a.ok) (kb : b.ok) (w : World) : (Op.equalIn 10000 28 (.agg (hcells a).toArray) (.agg (hcells b).toArray)).run Tryz.prog w = .ok (decide (a = b)) w := by
  rw [show (10000 : Nat) = 9999 + 1 from rfl, run_equalIn_struct w 9999 28 _ _ Tryz.underlying28 (by kernel_rfl), eqFields_spec, fields_hd]
  have ea : (hcells a).toArray.extract 10 (10 + 16) = (a.sg.map (Value.int .u8)).toArray := by
    have hl : (a.sg.map (Value.int .u8)).length = 16 := by rw [List.length_map]; exact ka.len
    rw [List.extract_toArray]
    congr 1
    show (((a.sg.map (Value.int .u8))).take 16) = _
    exact List.take_of_length_le (by omega)
  have eb : (hcells b).toArray.extract 10 (10 + 16) = (b.sg.map (Value.int .u8)).toArray := by
    have hl : (b.sg.map (Value.int .u8)).length = 16 := by rw [List.length_map]; exact kb.len
    rw [List.extract_toArray]
    congr 1
    show (((b.sg.map (Value.int .u8))).take 16) = _
    exact List.take_of_length_le (by omega)
  have h := eqSpec_int (P := Tryz.prog) (w := w) (d := 9998) 22 .u16 0 a.ch b.ch Tryz.underlying22 rfl rfl
    (eqSpec_int 23 .u32 1 a.st b.st Tryz.underlying23 rfl rfl
    (eqSpec_int 24 .u16 2 a.cm b.cm Tryz.underlying24 rfl rfl
    (eqSpec_int 22 .u16 3 a.cr b.cr Tryz.underlying22 rfl rfl
    (eqSpec_int 23 .u32 4 a.fl b.fl Tryz.underlying23 rfl rfl
    (eqSpec_int 23 .u32 5 a.nx b.nx Tryz.underlying23 rfl rfl
    (eqSpec_int 25 .u64 6 a.id b.id Tryz.underlying25 rfl rfl
    (eqSpec_int 25 .u64 7 a.asy b.asy Tryz.underlying25 rfl rfl
    (eqSpec_int 23 .u32 8 a.tr b.tr Tryz.underlying23 rfl rfl
    (eqSpec_int 25 .u64 9 a.se b.se Tryz.underlying25 rfl rfl
    (eqSpec_arr (xs := (hcells a).toArray) (ys := (hcells b).toArray) 26 5 16 .u8 10 a.sg b.sg Tryz.underlying26 Tryz.underlying5 (by kernel_rfl) (by kernel_rfl) ea eb ka.len kb.len))))))))))
  refine h.trans ?_
  congr 1
  obtain ⟨a0, a1, a2, a3, a4, a5, a6, a7, a8, a9, us⟩ := a
  obtain ⟨b0, b1, b2, b3, b4, b5, b6, b7, b8, b9, vs⟩ := b
  rw [Bool.eq_iff_iff]
  simp
section
variable {P : Program} {ops : Array Oper} {S : World → Prop}
theorem yieldsIf_load_one {op : Oper} {a : Act} (hw : Region.wanted op (yielded ops a.tmps) = true) (T : TypeId) (x : Operand) (ho : op.op = .load T x) (g i : Nat) (hx : a.eval x = .pointer (some ⟨g, i, none⟩)) (v : Value)
    (hS : ∀ w, S w → w.cell? ⟨g, i, none⟩ = some v) (d : TypeDesc) (hu : P.underlying T = some d) (hd : (match d with | .struct _ | .array _ _ => true | _ => false) = false) : YieldsIf P ops S op v a :=
  .inl ⟨hw, fun w hw' => by
    have hc := hS w hw'
    have hagg : (isAgg T).run P w = .ok false w := by
      unfold isAgg
      rw [Sem.run_bind, run_underlying hu w]
      cases d <;> simp_all
    unfold execOp
    simp [ho, hx, Instr.loadAt, Instr.sureAddr, Sem.run_bind, Result.andThen_ok, loadVar, hagg, hc]⟩
theorem yieldsIf_build_blk {op : Oper} {a : Act} (hw : Region.wanted op (yielded ops a.tmps) = true) (T : TypeId) (parts : Array (Nat × Operand)) (ho : op.op = .build T parts) (cs : List Value)
    (hf : P.built T (parts.map fun (i, x) => (i, a.eval x)).toList = some cs.toArray) : YieldsIf P ops S op (.agg cs.toArray) a :=
  .inl ⟨hw, fun w _ => by
    unfold execOp
    simp only [ho, Sem.run_bind, run_build w T _ _ hf, Result.andThen_ok]
    rfl⟩
theorem yieldsIf_nil {op : Oper} {a : Act} (hw : Region.wanted op (yielded ops a.tmps) = true) (x : Operand) (ho : op.op = .nilCheck x) (ad : Addr) (hx : a.eval x = .pointer (some ad)) : YieldsIf P ops S op (.pointer (some ad)) a :=
  .inl ⟨hw, fun w _ => by
    unfold execOp
    simp [ho, hx]⟩
theorem yieldsIf_move {op : Oper} {a : Act} (hw : Region.wanted op (yielded ops a.tmps) = true) (x : Operand) (ho : op.op = .move x) (v : Value) (hx : a.eval x = v) : YieldsIf P ops S op v a :=
  .inl ⟨hw, fun w _ => by
    unfold execOp
    simp [ho, hx]⟩
theorem yieldsIf_asg {op : Oper} {a : Act} (hw : Region.wanted op (yielded ops a.tmps) = true) (x : Operand) (ho : op.op = .assign x) (v : Value) (hx : a.eval x = v) : YieldsIf P ops S op v a :=
  .inl ⟨hw, fun w _ => by
    unfold execOp
    simp [ho, hx]⟩
theorem wpAnyH_frame {md : Region.Mode} {Q : Exit → Act → World → Prop} {fuel : Nat} {listed : Array Bool} {a : Act} {w : World} (h : ∀ a', a' = a → wpAnyH P md ops Q S fuel listed a' w) : wpAnyH P md ops Q S fuel listed a w := h a rfl
theorem yieldsIf_fn {op : Oper} {a : Act} (hw : Region.wanted op (yielded ops a.tmps) = true) (fn : Fn) (xs ys : Array Operand) (ho : op.op = .makeFunc fn xs ys) (us vs : Array Value) (hx : xs.map a.eval = us) (hy : ys.map a.eval = vs)
    (hf : ∀ w, (Instr.makeFunc fn us vs).run P w = .ok (.func fn us vs) w) : YieldsIf P ops S op (.func fn us vs) a :=
  .inl ⟨hw, fun w _ => by
    unfold execOp
    simp only [ho, hx, hy, Sem.run_bind, hf, Result.andThen_ok]
    rfl⟩
theorem yieldsIf_fld {op : Oper} {a : Act} (hw : Region.wanted op (yielded ops a.tmps) = true) (T : TypeId) (x : Operand) (i : Nat) (ho : op.op = .fieldAddr T x i) (u v : Value) (hx : a.eval x = u) (hf : ∀ w, (Instr.fieldAt T u i).run P w = .ok v w) : YieldsIf P ops S op v a :=
  .inl ⟨hw, fun w _ => by
    unfold execOp
    simp only [ho, hx, Sem.run_bind, hf, Result.andThen_ok]
    rfl⟩
theorem yieldsIf_conv {op : Oper} {a : Act} (hw : Region.wanted op (yielded ops a.tmps) = true) (T T' : TypeId) (x : Operand) (ho : op.op = .convert T T' x) (u v : Value) (hx : a.eval x = u) (hf : ∀ w, (convert T T' u).run P w = .ok v w) : YieldsIf P ops S op v a :=
  .inl ⟨hw, fun w _ => by
    unfold execOp
    simp only [ho, hx, Sem.run_bind, hf, Result.andThen_ok]
    rfl⟩
theorem yieldsIf_load_blk {op : Oper} {a : Act} (hw : Region.wanted op (yielded ops a.tmps) = true) (T : TypeId) (x : Operand) (ho : op.op = .load T x) (g : Nat) (hx : a.eval x = .pointer (some ⟨g, 0, none⟩)) (T' : TypeId) (cs : List Value)
    (hS : ∀ w, S w → Blk w g T' cs) (n : Nat) (d : TypeDesc) (hu : P.underlying T = some d) (hd : (match d with | .struct _ | .array _ _ => true | _ => false) = true) (hi : (P.info? T).map (·.size) = some n) (hn : Hid (cs.length = n)) : YieldsIf P ops S op (.agg cs.toArray) a :=
  .inl ⟨hw, fun w hw' => by
    have hr := run_loadVar_row (P := P) w g T' T cs.toArray (0, 0) _ (hS w hw') hu hd (by rw [hi]; have := hn.out; simp [this])
    unfold execOp
    simp only [ho, hx, Instr.loadAt, Instr.sureAddr, Sem.run_bind, Sem.run_pure, Result.andThen_ok, hr]⟩
end
/-- the place of a head's field -/
theorem fld_hd (g : Nat) (i : Nat) (hi : i < 11) (w : World) : (Instr.fieldAt 28 (.pointer (some ⟨g, 0, none⟩)) i).run Tryz.prog w = .ok (.pointer (some ⟨g, i, none⟩)) w := by
  revert hi
  refine fun hi => eleven (p := fun i => (Instr.fieldAt 28 (.pointer (some ⟨g, 0, none⟩)) i).run Tryz.prog w = .ok (.pointer (some ⟨g, i, none⟩)) w) ?_ ?_ ?_ ?_ ?_ ?_ ?_ ?_ ?_ ?_ ?_ i hi <;> go_simp
theorem conv_u16 (n : Int) (h0 : 0 ≤ n) (h1 : n ≤ 65535) (w : World) : (convert 22 25 (.int .u16 n)).run Tryz.prog w = .ok (.int .u64 n) w := by
  have e : IntKind.u64.wrap n = n := by rw [IntKind.wrap_u64]; omega
  go_simp
theorem conv_cmd (n : Int) (h0 : 0 ≤ n) (h1 : n ≤ 65535) (w : World) : (convert 24 25 (.int .u16 n)).run Tryz.prog w = .ok (.int .u64 n) w := by
  have e : IntKind.u64.wrap n = n := by rw [IntKind.wrap_u64]; omega
  go_simp
theorem conv_u32 (n : Int) (h0 : 0 ≤ n) (h1 : n ≤ 4294967295) (w : World) : (convert 23 25 (.int .u32 n)).run Tryz.prog w = .ok (.int .u64 n) w := by
  have e : IntKind.u64.wrap n = n := by rw [IntKind.wrap_u64]; omega
  go_simp
end
end Go.Proofs.YtpodpmckdiijhaaGreatDoor

namespace Go.Proofs.YtpodpmckdiijhaaGreatDoor
set_option linter.all false
open Go.RowKit
set_option maxRecDepth 100000
set_option linter.unusedVariables false
theorem take_eq_stepA {α : Type} {xs ys : List α} {k : Nat} {x : α} (hx : xs[k]? = some x) (hy : ys[k]? = some x) (h : xs.take k = ys.take k) : xs.take (k + 1) = ys.take (k + 1) := by
  obtain ⟨h1, e1⟩ := List.getElem?_eq_some_iff.1 hx
  obtain ⟨h2, e2⟩ := List.getElem?_eq_some_iff.1 hy
  rw [List.take_succ_eq_append_getElem h1, List.take_succ_eq_append_getElem h2, h, e1, e2]
theorem ne_of_getA {α : Type} [DecidableEq α] {xs ys : List α} {k : Nat} {x y : α} (hx : xs[k]? = some x) (hy : ys[k]? = some y) (h : x ≠ y) : decide (xs = ys) = false := by
  rw [decide_eq_false_iff_not]
  rintro rfl
  rw [hx] at hy
  injection hy with hy
  exact h hy
theorem eq_of_takeA {α : Type} [DecidableEq α] {xs ys : List α} {n : Nat} (hx : xs.length = n) (hy : ys.length = n) (h : xs.take n = ys.take n) : decide (xs = ys) = true := by
  rw [decide_eq_true_iff]
  rwa [List.take_of_length_le (by omega), List.take_of_length_le (by omega)] at h
set_option maxHeartbeats 400000 in
theorem words16_any (w : World) (B B' : Nat) (A A' : Option Addr) (n c n' c' : Nat) (xs ys : List Int) (h : HoldsF (Value.int .u16) w B A n c xs) (h' : HoldsF (Value.int .u16) w B' A' n' c' ys) (hr : n ≤ 281474976710656) (hr' : n' ≤ 281474976710656) :
    Calls Tryz.prog 62 #[.slice A n c, .slice A' n' c'] w fun e w' => e = .returned (.bool (decide (xs = ys))) ∧ ∃ k, w.drewN k = w' := by
  have hl := h.len
  have hl' := h'.len
  have hf := h.fit
  have hf' := h'.fit
  by_cases hn : n = n'
  · subst hn
    have HL := Lib.hid hl
    have HL' := Lib.hid hl'
    clear hl hl'
    go_enter Tryz.func62, Tryz.ntmps62
    go_wp2
    go_loopw [5] (fun i wr => ∃ k : Nat, k ≤ n ∧ i = .int .i64 k ∧ Hid (xs.take k = ys.take k) ∧ ∃ j, wr = w.drewN j) (fun i _ => n - (intOf i).toNat)
    case atStart => exact ⟨0, Nat.zero_le _, rfl, by simp [Hid], 0, rfl⟩
    case round =>
      obtain ⟨k, hk, rfl, HT, j, rfl⟩ := hrel
      by_cases hlt : k < n
      · obtain ⟨b, off, rfl, hb, hc⟩ := h.cells (by omega)
        obtain ⟨b', off', rfl, hb', hc'⟩ := h'.cells (by omega)
        obtain ⟨x, hx⟩ : ∃ x, xs[k]? = some x := ⟨_, List.getElem?_eq_getElem (by have := HL.out; omega)⟩
        obtain ⟨y, hy⟩ : ∃ y, ys[k]? = some y := ⟨_, List.getElem?_eq_getElem (by have := HL'.out; omega)⟩
        have gc := hc k x hx
        have gc' := hc' k y hy
        clear hc hc'
        have HX := Lib.hid hx
        have HY := Lib.hid hy
        clear hx hy
        by_cases he : x = y
        · have hS : Hid (xs.take (k + 1) = ys.take (k + 1)) := take_eq_stepA HX.out (by rw [HY.out, he]) HT.out
          clear HX HY HT
          subst he
          have hb0 : (x != x) = false := by simp
          go_wp2
          go_quiet (fail)
          go_wp2
          go_roundw
          case rel => exact ⟨k + 1, by omega, by go_num, hS, _, rfl⟩
          case measure => simp [intOf]; omega
        · have hS := Lib.hid (ne_of_getA HX.out HY.out he)
          clear HX HY HT
          have hb0 : (x != y) = true := by simpa using he
          clear he
          go_wp2
          go_quiet (fail)
          go_wp2
          go_ret
          exact ⟨ret_bool hS.out.symm, _, (World.drewN_drewN ..).symm⟩
      · have hS := Lib.hid (eq_of_takeA (n := n) HL.out HL'.out (by have := HT.out; rwa [show k = n from by omega] at this))
        clear HT
        go_wp2
        go_ret
        exact ⟨ret_bool hS.out.symm, _, rfl⟩
  · have e1 : decide (xs = ys) = false := by
      rw [decide_eq_false_iff_not]
      rintro rfl
      omega
    have hne : ((n : Int) == (n' : Int)) = false := by simp; omega
    have hne' : ((n : Int) != (n' : Int)) = true := by simp; omega
    rw [e1]
    clear e1 hl hl'
    go_enter Tryz.func62, Tryz.ntmps62
    go_wp2
    go_ret
    exact ⟨rfl, 0, rfl⟩
section
variable {P : Program} {w : World} {d : Nat} {xs ys : Array Value} {r : List (Bool × TypeId × Nat)} {q : Bool}
theorem bytes_beq (a b : ByteArray) : (a.toList == b.toList) = decide (a = b) := by
  rw [Bool.eq_iff_iff, beq_iff_eq, decide_eq_true_iff, ByteArray.toList_eq, ByteArray.toList_eq]
  obtain ⟨⟨x⟩⟩ := a
  obtain ⟨⟨y⟩⟩ := b
  simp
theorem eqSpec_str (t : TypeId) (o : Nat) (x y : ByteArray) (ht : P.underlying t = some .string) (hx : xs[o]? = some (.string x)) (hy : ys[o]? = some (.string y)) (hr : (eqSpec (d + 1) xs ys r).run P w = .ok q w) :
    (eqSpec (d + 1) xs ys ((false, t, o) :: r)).run P w = .ok (decide (x = y) && q) w := by
  have p1 : (part t xs o).run P w = .ok (.string x) w := by simp [part, isAgg, run_underlying ht, hx]
  have p2 : (part t ys o).run P w = .ok (.string y) w := by simp [part, isAgg, run_underlying ht, hy]
  simp only [eqSpec, Bool.false_eq_true, if_false, Sem.run_bind, p1, p2, Result.andThen_ok, run_equalIn_string w d t _ _ ht, bytes_beq]
  by_cases h : x = y
  · subst h
    simpa using hr
  · simp [h]
end
theorem fields_lock : (Tryz.prog.fieldsOf 122).toList.map (fun f => (decide (f.name = "_"), f.type, f.offset)) = [(false, 3, 0), (false, 25, 1), (false, 25, 2), (false, 22, 3)] := by kernel_rfl
theorem run_equalIn_lock (a b : LockV) (w : World) : (Op.equalIn 10000 122 (.agg (lockCells a).toArray) (.agg (lockCells b).toArray)).run Tryz.prog w = .ok (decide (a = b)) w := by
  rw [show (10000 : Nat) = 9999 + 1 from rfl, run_equalIn_struct w 9999 122 _ _ Tryz.underlying122 (by kernel_rfl), eqFields_spec, fields_lock]
  have h := eqSpec_int (P := Tryz.prog) (w := w) (d := 9998) (xs := (lockCells a).toArray) (ys := (lockCells b).toArray) 3 .i64 0 a.op b.op Tryz.underlying3 rfl rfl
    (eqSpec_int 25 .u64 1 a.at_ b.at_ Tryz.underlying25 rfl rfl
    (eqSpec_int 25 .u64 2 a.n b.n Tryz.underlying25 rfl rfl
    (eqSpec_int (r := []) (q := true) 22 .u16 3 a.md b.md Tryz.underlying22 rfl rfl (by simp [eqSpec]))))
  refine h.trans ?_
  congr 1
  obtain ⟨a0, a1, a2, a3⟩ := a
  obtain ⟨b0, b1, b2, b3⟩ := b
  rw [Bool.eq_iff_iff]
  simp
theorem guard_lock : Tryz.prog.eqGuardType Tryz.prog.depth 122 = false := by kernel_rfl
theorem size_lock : (Tryz.prog.info? 122).map (·.size) = some 4 := by kernel_rfl
set_option maxRecDepth 100000 in
set_option maxHeartbeats 1000000 in
theorem Locks_any (w : World) (B B' : Nat) (A A' : Option Addr) (n c n' c' : Nat) (xs ys : List LockV) (h : HoldsS lockCells 4 w B A n c xs) (h' : HoldsS lockCells 4 w B' A' n' c' ys) (hr : n ≤ 281474976710656) (hr' : n' ≤ 281474976710656) :
    Calls Tryz.prog 63 #[.slice A n c, .slice A' n' c'] w fun e w' => e = .returned (.bool (decide (xs = ys))) ∧ ∃ k, w.drewN k = w' := by
  have hl := h.len
  have hl' := h'.len
  have hf := h.fit
  have hf' := h'.fit
  by_cases hn : n = n'
  · subst hn
    have HL := Lib.hid hl
    have HL' := Lib.hid hl'
    clear hl hl'
    go_enter Tryz.func63, Tryz.ntmps63
    go_wp2
    go_loopw [5] (fun i wr => ∃ k : Nat, k ≤ n ∧ i = .int .i64 k ∧ Hid (xs.take k = ys.take k) ∧ ∃ j, wr = w.drewN j) (fun i _ => n - (intOf i).toNat)
    case atStart => exact ⟨0, Nat.zero_le _, rfl, by simp [Hid], 0, rfl⟩
    case round =>
      obtain ⟨k, hk, rfl, HT, j, rfl⟩ := hrel
      by_cases hlt : k < n
      · obtain ⟨b, off, rfl, hb, hc⟩ := h.cells (by omega)
        obtain ⟨b', off', rfl, hb', hc'⟩ := h'.cells (by omega)
        obtain ⟨x, hx⟩ : ∃ x, xs[k]? = some x := ⟨_, List.getElem?_eq_getElem (by have := HL.out; omega)⟩
        obtain ⟨y, hy⟩ : ∃ y, ys[k]? = some y := ⟨_, List.getElem?_eq_getElem (by have := HL'.out; omega)⟩
        have rx := h.range rfl hlt hx
        have ry := h'.range rfl hlt hy
        clear hc hc'
        have HX := Lib.hid hx
        have HY := Lib.hid hy
        have q0 : ∀ w : World, (Op.equalIn 10000 122 (.agg (lockCells x).toArray) (.agg (lockCells y).toArray)).run Tryz.prog w = .ok (decide (x = y)) w := fun w => run_equalIn_lock x y w
        have qg := guard_lock
        obtain ⟨wj, hwj⟩ : ∃ wj, wj = w.drewN j := ⟨_, rfl⟩
        have Rx : Hid (wj.rangeAt b (off + k * 4) (lockCells x)) := by rw [hwj]; exact rx
        have Ry : Hid (wj.rangeAt b' (off' + k * 4) (lockCells y)) := by rw [hwj]; exact ry
        rw [← hwj]
        have HW := Lib.hid hwj
        have LX : Hid ((lockCells x).length = 4) := rfl
        have LY : Hid ((lockCells y).length = 4) := rfl
        obtain ⟨cx, hcx⟩ : ∃ cx, cx = lockCells x := ⟨_, rfl⟩
        obtain ⟨cy, hcy⟩ : ∃ cy, cy = lockCells y := ⟨_, rfl⟩
        rw [← hcx] at Rx LX q0
        rw [← hcy] at Ry LY q0
        obtain ⟨z, hz⟩ : ∃ z, z = decide (x = y) := ⟨_, rfl⟩
        rw [← hz] at q0
        have HZ := Lib.hid hz
        clear hx hy hwj rx ry hcx hcy hz
        go_upto_region 6 with fail
        refine wp_region_held (S := fun w' => World.rangeAt w' b (off + k * 4) cx ∧ World.rangeAt w' b' (off' + k * 4) cy) (by kernel_rfl) ?_
        change wpAnyH _ _ _ _ _ _ _ _ wj.drew
        have S0 : Hid (World.rangeAt wj.drew b (off + k * 4) cx ∧ World.rangeAt wj.drew b' (off' + k * 4) cy) := ⟨Rx.out, Ry.out⟩
        have b0 : Hid (Below w.heap.size w wj.drew) := by rw [HW.out]; exact drewed w (j + 1)
        refine wpAnyH_take (i := 0) (v := _) rfl (by kernel_rfl) (by kernel_rfl) (by kernel_rfl) (fun _ _ _ h => h) (yieldsIf_move (by kernel_rfl) (.tmp 0) rfl (.slice (some ⟨b, off, none⟩) n c) (by kernel_rfl)) S0.out ?_
        refine wpAnyH_take (i := 1) (v := _) rfl (by kernel_rfl) (by kernel_rfl) (by kernel_rfl) (fun _ _ _ h => h) (yieldsIf_move (by kernel_rfl) (.tmp 5) rfl (.int .i64 k) (by kernel_rfl)) S0.out ?_
        refine wpAnyH_take (i := 2) (v := .pointer (some ⟨b, off + k * 4, none⟩)) rfl (by kernel_rfl) (by kernel_rfl) (by kernel_rfl) (fun _ _ _ h => h) (.inl ⟨by kernel_rfl, fun w _ => by go_simp⟩) S0.out ?_
        refine wpAnyH_take (i := 3) (v := _) rfl (by kernel_rfl) (by kernel_rfl) (by kernel_rfl) (fun _ _ _ h => h) (yieldsIf_load_mid (by kernel_rfl) _ (.tmp 19) rfl b (off + k * 4) (by kernel_rfl) cx _ (fun _ h => h.1) Tryz.underlying122 rfl (by rw [size_lock, LX.out])) S0.out ?_
        refine wpAnyH_take (i := 4) (v := _) rfl (by kernel_rfl) (by kernel_rfl) (by kernel_rfl) (fun _ _ _ h => h) (yieldsIf_move (by kernel_rfl) (.tmp 1) rfl (.slice (some ⟨b', off', none⟩) n c') (by kernel_rfl)) S0.out ?_
        refine wpAnyH_take (i := 5) (v := _) rfl (by kernel_rfl) (by kernel_rfl) (by kernel_rfl) (fun _ _ _ h => h) (yieldsIf_move (by kernel_rfl) (.tmp 5) rfl (.int .i64 k) (by kernel_rfl)) S0.out ?_
        refine wpAnyH_take (i := 6) (v := .pointer (some ⟨b', off' + k * 4, none⟩)) rfl (by kernel_rfl) (by kernel_rfl) (by kernel_rfl) (fun _ _ _ h => h) (.inl ⟨by kernel_rfl, fun w _ => by go_simp⟩) S0.out ?_
        refine wpAnyH_take (i := 7) (v := _) rfl (by kernel_rfl) (by kernel_rfl) (by kernel_rfl) (fun _ _ _ h => h) (yieldsIf_load_mid (by kernel_rfl) _ (.tmp 23) rfl b' (off' + k * 4) (by kernel_rfl) cy _ (fun _ h => h.2) Tryz.underlying122 rfl (by rw [size_lock, LY.out])) S0.out ?_
        refine wpAnyH_one 8 _ (by kernel_rfl) rfl fun K hK => ?_
        go_simp
        refine hK _ _ S0.out ?_
        clear hK K
        refine wpAnyH_done (by kernel_rfl) ?_ _
        have HE : Hid (wj.drew = w.drewN (j + 1)) := by show _ = _; rw [HW.out]; exact World.drewN_drewN w j 1
        cases z
        · have hS := Lib.hid (ne_of_getA HX.out HY.out (by have := HZ.out; simpa using this.symm))
          go_wp2_with fail
          go_ret
          exact ⟨ret_bool hS.out.symm, _, HE.out.symm⟩
        · have hxy : x = y := by have := HZ.out; simpa using this.symm
          have hS : Hid (xs.take (k + 1) = ys.take (k + 1)) := take_eq_stepA HX.out (by rw [HY.out, hxy]) HT.out
          clear hxy
          go_wp2_with fail
          go_roundw
          case rel => exact ⟨k + 1, by omega, by go_num, hS, _, HE.out⟩
          case measure => simp [intOf]; omega
      · have hS := Lib.hid (eq_of_takeA (n := n) HL.out HL'.out (by have := HT.out; rwa [show k = n from by omega] at this))
        clear HT
        go_wp2
        go_ret
        exact ⟨ret_bool hS.out.symm, _, rfl⟩
  · have e1 : decide (xs = ys) = false := by
      rw [decide_eq_false_iff_not]
      rintro rfl
      omega
    have hne : ((n : Int) == (n' : Int)) = false := by simp; omega
    have hne' : ((n : Int) != (n' : Int)) = true := by simp; omega
    rw [e1]
    clear e1 hl hl'
    go_enter Tryz.func63, Tryz.ntmps63
    go_wp2
    go_ret
    exact ⟨rfl, 0, rfl⟩
theorem fields_stat : (Tryz.prog.fieldsOf 124).toList.map (fun f => (decide (f.name = "_"), f.type, f.offset)) = [(false, 36, 0), (false, 3, 1)] := by kernel_rfl
theorem fields_entry : (Tryz.prog.fieldsOf 126).toList.map (fun f => (decide (f.name = "_"), f.type, f.offset)) = [(false, 9, 0), (false, 124, 1)] := by kernel_rfl
theorem size_stat : (Tryz.prog.info? 124).map (·.size) = some 2 := by kernel_rfl
theorem run_equalIn_stat (a b c d : Int) (w : World) : (Op.equalIn 9999 124 (.agg #[.int .u8 a, .int .i64 b]) (.agg #[.int .u8 c, .int .i64 d])).run Tryz.prog w = .ok (decide (a = c ∧ b = d)) w := by
  rw [show (9999 : Nat) = 9998 + 1 from rfl, run_equalIn_struct w 9998 124 _ _ Tryz.underlying124 (by kernel_rfl), eqFields_spec, fields_stat]
  have h := eqSpec_int (P := Tryz.prog) (w := w) (d := 9997) (xs := #[.int .u8 a, .int .i64 b]) (ys := #[.int .u8 c, .int .i64 d]) 36 .u8 0 a c Tryz.underlying36 rfl rfl
    (eqSpec_int (r := []) (q := true) 3 .i64 1 b d Tryz.underlying3 rfl rfl (by simp [eqSpec]))
  refine h.trans ?_
  congr 1
  rw [Bool.eq_iff_iff]
  simp
theorem run_equalIn_entry (a b : EntryV) (w : World) : (Op.equalIn 10000 126 (.agg (entryCells a).toArray) (.agg (entryCells b).toArray)).run Tryz.prog w = .ok (decide (a = b)) w := by
  rw [show (10000 : Nat) = 9999 + 1 from rfl, run_equalIn_struct w 9999 126 _ _ Tryz.underlying126 (by kernel_rfl), eqFields_spec, fields_entry]
  have hs : (eqSpec 9999 (entryCells a).toArray (entryCells b).toArray [(false, 124, 1)]).run Tryz.prog w = .ok (decide (a.kind = b.kind ∧ a.size = b.size)) w := by
    obtain ⟨j, hj, hj1⟩ : ∃ j, Tryz.prog.info? 124 = some j ∧ j.size = 2 := by
      have h2 := size_stat
      cases hq : Tryz.prog.info? 124 with
      | none => rw [hq] at h2; cases h2
      | some j => exact ⟨j, rfl, by rw [hq] at h2; simpa using h2⟩
    have p1 : ∀ c : EntryV, (part 124 (entryCells c).toArray 1).run Tryz.prog w = .ok (.agg #[.int .u8 c.kind, .int .i64 c.size]) w := fun c => by
      simp [part, isAgg, run_underlying Tryz.underlying124, sizeOf, typeInfo, hj, hj1, entryCells]
    simp only [eqSpec, Bool.false_eq_true, if_false, Sem.run_bind, p1, Result.andThen_ok, run_equalIn_stat]
    by_cases h : a.kind = b.kind ∧ a.size = b.size
    · simp [h]
    · simp [h]
  have h := eqSpec_str (P := Tryz.prog) (w := w) (d := 9998) (xs := (entryCells a).toArray) (ys := (entryCells b).toArray) 9 0 a.name b.name Tryz.underlying9 rfl rfl hs
  refine h.trans ?_
  congr 1
  obtain ⟨a0, a1, a2⟩ := a
  obtain ⟨b0, b1, b2⟩ := b
  rw [Bool.eq_iff_iff]
  simp
theorem guard_entry : Tryz.prog.eqGuardType Tryz.prog.depth 126 = false := by kernel_rfl
theorem size_entry : (Tryz.prog.info? 126).map (·.size) = some 3 := by kernel_rfl
set_option maxRecDepth 100000 in
set_option maxHeartbeats 1000000 in
theorem Entries_any (w : World) (B B' : Nat) (A A' : Option Addr) (n c n' c' : Nat) (xs ys : List EntryV) (h : HoldsS entryCells 3 w B A n c xs) (h' : HoldsS entryCells 3 w B' A' n' c' ys) (hr : n ≤ 281474976710656) (hr' : n' ≤ 281474976710656) :
    Calls Tryz.prog 64 #[.slice A n c, .slice A' n' c'] w fun e w' => e = .returned (.bool (decide (xs = ys))) ∧ ∃ k, w.drewN k = w' := by
  have hl := h.len
  have hl' := h'.len
  have hf := h.fit
  have hf' := h'.fit
  by_cases hn : n = n'
  · subst hn
    have HL := Lib.hid hl
    have HL' := Lib.hid hl'
    clear hl hl'
    go_enter Tryz.func64, Tryz.ntmps64
    go_wp2
    go_loopw [5] (fun i wr => ∃ k : Nat, k ≤ n ∧ i = .int .i64 k ∧ Hid (xs.take k = ys.take k) ∧ ∃ j, wr = w.drewN j) (fun i _ => n - (intOf i).toNat)
    case atStart => exact ⟨0, Nat.zero_le _, rfl, by simp [Hid], 0, rfl⟩
    case round =>
      obtain ⟨k, hk, rfl, HT, j, rfl⟩ := hrel
      by_cases hlt : k < n
      · obtain ⟨b, off, rfl, hb, hc⟩ := h.cells (by omega)
        obtain ⟨b', off', rfl, hb', hc'⟩ := h'.cells (by omega)
        obtain ⟨x, hx⟩ : ∃ x, xs[k]? = some x := ⟨_, List.getElem?_eq_getElem (by have := HL.out; omega)⟩
        obtain ⟨y, hy⟩ : ∃ y, ys[k]? = some y := ⟨_, List.getElem?_eq_getElem (by have := HL'.out; omega)⟩
        have rx := h.range rfl hlt hx
        have ry := h'.range rfl hlt hy
        clear hc hc'
        have HX := Lib.hid hx
        have HY := Lib.hid hy
        have q0 : ∀ w : World, (Op.equalIn 10000 126 (.agg (entryCells x).toArray) (.agg (entryCells y).toArray)).run Tryz.prog w = .ok (decide (x = y)) w := fun w => run_equalIn_entry x y w
        have qg := guard_entry
        obtain ⟨wj, hwj⟩ : ∃ wj, wj = w.drewN j := ⟨_, rfl⟩
        have Rx : Hid (wj.rangeAt b (off + k * 3) (entryCells x)) := by rw [hwj]; exact rx
        have Ry : Hid (wj.rangeAt b' (off' + k * 3) (entryCells y)) := by rw [hwj]; exact ry
        rw [← hwj]
        have HW := Lib.hid hwj
        have LX : Hid ((entryCells x).length = 3) := rfl
        have LY : Hid ((entryCells y).length = 3) := rfl
        obtain ⟨cx, hcx⟩ : ∃ cx, cx = entryCells x := ⟨_, rfl⟩
        obtain ⟨cy, hcy⟩ : ∃ cy, cy = entryCells y := ⟨_, rfl⟩
        rw [← hcx] at Rx LX q0
        rw [← hcy] at Ry LY q0
        obtain ⟨z, hz⟩ : ∃ z, z = decide (x = y) := ⟨_, rfl⟩
        rw [← hz] at q0
        have HZ := Lib.hid hz
        clear hx hy hwj rx ry hcx hcy hz
        go_upto_region 6 with fail
        refine wp_region_held (S := fun w' => World.rangeAt w' b (off + k * 3) cx ∧ World.rangeAt w' b' (off' + k * 3) cy) (by kernel_rfl) ?_
        change wpAnyH _ _ _ _ _ _ _ _ wj.drew
        have S0 : Hid (World.rangeAt wj.drew b (off + k * 3) cx ∧ World.rangeAt wj.drew b' (off' + k * 3) cy) := ⟨Rx.out, Ry.out⟩
        have b0 : Hid (Below w.heap.size w wj.drew) := by rw [HW.out]; exact drewed w (j + 1)
        refine wpAnyH_take (i := 0) (v := _) rfl (by kernel_rfl) (by kernel_rfl) (by kernel_rfl) (fun _ _ _ h => h) (yieldsIf_move (by kernel_rfl) (.tmp 0) rfl (.slice (some ⟨b, off, none⟩) n c) (by kernel_rfl)) S0.out ?_
        refine wpAnyH_take (i := 1) (v := _) rfl (by kernel_rfl) (by kernel_rfl) (by kernel_rfl) (fun _ _ _ h => h) (yieldsIf_move (by kernel_rfl) (.tmp 5) rfl (.int .i64 k) (by kernel_rfl)) S0.out ?_
        refine wpAnyH_take (i := 2) (v := .pointer (some ⟨b, off + k * 3, none⟩)) rfl (by kernel_rfl) (by kernel_rfl) (by kernel_rfl) (fun _ _ _ h => h) (.inl ⟨by kernel_rfl, fun w _ => by go_simp⟩) S0.out ?_
        refine wpAnyH_take (i := 3) (v := _) rfl (by kernel_rfl) (by kernel_rfl) (by kernel_rfl) (fun _ _ _ h => h) (yieldsIf_load_mid (by kernel_rfl) _ (.tmp 19) rfl b (off + k * 3) (by kernel_rfl) cx _ (fun _ h => h.1) Tryz.underlying126 rfl (by rw [size_entry, LX.out])) S0.out ?_
        refine wpAnyH_take (i := 4) (v := _) rfl (by kernel_rfl) (by kernel_rfl) (by kernel_rfl) (fun _ _ _ h => h) (yieldsIf_move (by kernel_rfl) (.tmp 1) rfl (.slice (some ⟨b', off', none⟩) n c') (by kernel_rfl)) S0.out ?_
        refine wpAnyH_take (i := 5) (v := _) rfl (by kernel_rfl) (by kernel_rfl) (by kernel_rfl) (fun _ _ _ h => h) (yieldsIf_move (by kernel_rfl) (.tmp 5) rfl (.int .i64 k) (by kernel_rfl)) S0.out ?_
        refine wpAnyH_take (i := 6) (v := .pointer (some ⟨b', off' + k * 3, none⟩)) rfl (by kernel_rfl) (by kernel_rfl) (by kernel_rfl) (fun _ _ _ h => h) (.inl ⟨by kernel_rfl, fun w _ => by go_simp⟩) S0.out ?_
        refine wpAnyH_take (i := 7) (v := _) rfl (by kernel_rfl) (by kernel_rfl) (by kernel_rfl) (fun _ _ _ h => h) (yieldsIf_load_mid (by kernel_rfl) _ (.tmp 23) rfl b' (off' + k * 3) (by kernel_rfl) cy _ (fun _ h => h.2) Tryz.underlying126 rfl (by rw [size_entry, LY.out])) S0.out ?_
        refine wpAnyH_one 8 _ (by kernel_rfl) rfl fun K hK => ?_
        go_simp
        refine hK _ _ S0.out ?_
        clear hK K
        refine wpAnyH_done (by kernel_rfl) ?_ _
        have HE : Hid (wj.drew = w.drewN (j + 1)) := by show _ = _; rw [HW.out]; exact World.drewN_drewN w j 1
        cases z
        · have hS := Lib.hid (ne_of_getA HX.out HY.out (by have := HZ.out; simpa using this.symm))
          go_wp2_with fail
          go_ret
          exact ⟨ret_bool hS.out.symm, _, HE.out.symm⟩
        · have hxy : x = y := by have := HZ.out; simpa using this.symm
          have hS : Hid (xs.take (k + 1) = ys.take (k + 1)) := take_eq_stepA HX.out (by rw [HY.out, hxy]) HT.out
          clear hxy
          go_wp2_with fail
          go_roundw
          case rel => exact ⟨k + 1, by omega, by go_num, hS, _, HE.out⟩
          case measure => simp [intOf]; omega
      · have hS := Lib.hid (eq_of_takeA (n := n) HL.out HL'.out (by have := HT.out; rwa [show k = n from by omega] at this))
        clear HT
        go_wp2
        go_ret
        exact ⟨ret_bool hS.out.symm, _, rfl⟩
  · have e1 : decide (xs = ys) = false := by
      rw [decide_eq_false_iff_not]
      rintro rfl
      omega
    have hne : ((n : Int) == (n' : Int)) = false := by simp; omega
    have hne' : ((n : Int) != (n' : Int)) = true := by simp; omega
    rw [e1]
    clear e1 hl hl'
    go_enter Tryz.func64, Tryz.ntmps64
    go_wp2
    go_ret
    exact ⟨rfl, 0, rfl⟩
end Go.Proofs.YtpodpmckdiijhaaGreatDoor

namespace Go.Proofs.YtpodpmckdiijhaaGreatDoor
set_option linter.all false
open Go.RowKit
set_option linter.unusedVariables false
/-- an array out of the midst of a block, where the operation's guard is met -/
theorem wpList_load_midw {P : Program} {ops : Array Oper} {rest : List Oper} {o : Oper} {a : Act} {w : World} {Q : Exit → Act → World → Prop} (hw : Region.wanted o (yielded ops a.tmps) = true) (ty : TypeId) (x : Operand) (ho : o.op = .load ty x)
    (b i : Nat) (hx : a.eval x = .pointer (some ⟨b, i, none⟩)) (cs : List Value) (d : TypeDesc) (hc : Hid (w.rangeAt b i cs)) (hu : P.underlying ty = some d) (hd : d.isRow = true) (n : Nat) (hi : (P.info? ty).map (·.size) = some n) (hn : Hid (cs.length = n))
    (h : wpList P ops Q rest (a.put o.dst (.agg cs.toArray)) w) : wpList P ops Q (o :: rest) a w :=
  wpList_step fun K hK => by
    rw [if_pos hw]
    exact wp_load_mid ty x ho b i hx cs d hc.out hu hd (by rw [hi, hn.out]) (hK _ _ h)
theorem wpList_load_midu {P : Program} {ops : Array Oper} {rest : List Oper} {o : Oper} {a : Act} {w : World} {Q : Exit → Act → World → Prop} (hg : o.guard = none) (ty : TypeId) (x : Operand) (ho : o.op = .load ty x)
    (b i : Nat) (hx : a.eval x = .pointer (some ⟨b, i, none⟩)) (cs : List Value) (d : TypeDesc) (hc : Hid (w.rangeAt b i cs)) (hu : P.underlying ty = some d) (hd : d.isRow = true) (n : Nat) (hi : (P.info? ty).map (·.size) = some n) (hn : Hid (cs.length = n))
    (h : wpList P ops Q rest (a.put o.dst (.agg cs.toArray)) w) : wpList P ops Q (o :: rest) a w :=
  wpList_load_mid hg ty x ho b i hx cs d hc.out hu hd (by rw [hi, hn.out]) h
/-- a field's address, where the operation's guard is met -/
theorem wpList_fld_w {P : Program} {ops : Array Oper} {rest : List Oper} {o : Oper} {a : Act} {w : World} {Q : Exit → Act → World → Prop} (hw : Region.wanted o (yielded ops a.tmps) = true) (T : TypeId) (x : Operand) (i : Nat) (ho : o.op = .fieldAddr T x i) (u v : Value)
    (hx : a.eval x = u) (hf : ∀ w, (Instr.fieldAt T u i).run P w = .ok v w) (h : wpList P ops Q rest (a.put o.dst v) w) : wpList P ops Q (o :: rest) a w :=
  wpList_step fun K hK => by
    rw [if_pos hw]
    unfold Oper.wp execOp
    simp only [ho, hx, Sem.run_bind, hf, Result.andThen_ok]
    exact hK _ _ h
theorem fld_ask1 (g : Nat) (w : World) : (Instr.fieldAt 34 (.pointer (some ⟨g, 0, none⟩)) 1).run Tryz.prog w = .ok (.pointer (some ⟨g, 1, none⟩)) w := by go_simp
theorem fld_ask2 (g : Nat) (w : World) : (Instr.fieldAt 34 (.pointer (some ⟨g, 0, none⟩)) 2).run Tryz.prog w = .ok (.pointer (some ⟨g, 17, none⟩)) w := by go_simp
theorem fld_say2 (g : Nat) (w : World) : (Instr.fieldAt 39 (.pointer (some ⟨g, 0, none⟩)) 2).run Tryz.prog w = .ok (.pointer (some ⟨g, 2, none⟩)) w := by go_simp
theorem size_guid : (Tryz.prog.info? 26).map (·.size) = some 16 := by kernel_rfl
theorem size_proof : (Tryz.prog.info? 30).map (·.size) = some 32 := by kernel_rfl
theorem size_chal : (Tryz.prog.info? 35).map (·.size) = some 8 := by kernel_rfl
theorem guard_guid : Tryz.prog.eqGuardType Tryz.prog.depth 26 = false := by kernel_rfl
theorem guard_proof : Tryz.prog.eqGuardType Tryz.prog.depth 30 = false := by kernel_rfl
theorem guard_chal : Tryz.prog.eqGuardType Tryz.prog.depth 35 = false := by kernel_rfl
theorem size_u8e : (Tryz.prog.info? 5).map (·.size) = some 1 := by kernel_rfl
theorem acells_guid {vd vx vl : Value} {a : AskV} {w : World} {g : Nat} {T : TypeId} (h : Blk w g T (acells vd vx vl a)) (k : a.ok) : w.rangeAt g 1 (a.guid.map (Value.int .u8)) := fun j v hj => by
  rw [h.cell, show 1 + j = j + 1 from by omega]
  show (a.guid.map (Value.int .u8) ++ (a.proof.map (Value.int .u8) ++ atail vx vl a))[j]? = some v
  rw [List.getElem?_append_left (List.getElem?_eq_some_iff.1 hj).1, hj]
theorem acells_proof {vd vx vl : Value} {a : AskV} {w : World} {g : Nat} {T : TypeId} (h : Blk w g T (acells vd vx vl a)) (k : a.ok) : w.rangeAt g 17 (a.proof.map (Value.int .u8)) := fun j v hj => by
  rw [h.cell, show 17 + j = (16 + j) + 1 from by omega]
  show (a.guid.map (Value.int .u8) ++ (a.proof.map (Value.int .u8) ++ atail vx vl a))[16 + j]? = some v
  rw [List.getElem?_append_right (by rw [List.length_map, k.glen]; omega), List.length_map, k.glen, show 16 + j - 16 = j from by omega, List.getElem?_append_left (List.getElem?_eq_some_iff.1 hj).1, hj]
theorem scells_chal {vx ve : Value} {a : SayV} {w : World} {g : Nat} {T : TypeId} (h : Blk w g T (scells vx ve a)) (k : a.ok) : w.rangeAt g 2 (a.chal.map (Value.int .u8)) := fun j v hj => by
  rw [h.cell, show 2 + j = j + 1 + 1 from by omega]
  show (a.chal.map (Value.int .u8) ++ stail vx ve a)[j]? = some v
  rw [List.getElem?_append_left (List.getElem?_eq_some_iff.1 hj).1, hj]
end Go.Proofs.YtpodpmckdiijhaaGreatDoor

namespace Go.Proofs.YtpodpmckdiijhaaGreatDoor
set_option linter.all false
open Go.RowKit
set_option linter.unusedVariables false
set_option maxRecDepth 100000
/-- what is told of a frame: how many slots it has, no defer, the pointer in slot x0 -/
structure Fr (N x0 : Nat) (pv : Value) (a : Act) : Prop where
  size : a.tmps.size = N
  df : a.defers = []
  ptr : a.eval (.tmp x0) = pv
section
variable {P : Program} {ops : Array Oper} {rest : List Oper} {o : Oper} {a : Act} {w : World} {Q : Exit → Act → World → Prop} {N x0 : Nat} {pv v : Value}
theorem put_self {d : Nat} (h : d < a.tmps.size) : (a.put (some d) v).eval (.tmp d) = v := by
  simp [Act.put, Act.eval, h]
theorem put_other {d t : Nat} (h : d ≠ t) : (a.put (some d) v).eval (.tmp t) = a.eval (.tmp t) := by
  simp [Act.put, Act.eval, Array.getElem?_setIfInBounds_ne h]
theorem Fr.put {d : Nat} (h : Fr N x0 pv a) (hd : d ≠ x0) : Fr N x0 pv (a.put (some d) v) :=
  ⟨by simp [Act.put, h.size], by simp [Act.put, h.df], by rw [put_other hd]; exact h.ptr⟩
theorem at_self {d : Nat} (h : d < a.tmps.size) : (a.put (some d) v).tmps[d]? = some v := by
  simp [Act.put, h]
theorem at_other {d t : Nat} (h : d ≠ t) : (a.put (some d) v).tmps[t]? = a.tmps[t]? := by
  simp [Act.put, Array.getElem?_setIfInBounds_ne h]
theorem eval_at {t : Nat} {u : Value} (h : a.tmps[t]? = some u) : a.eval (.tmp t) = u := by
  simp [Act.eval, h]
theorem wanted_at {gi m : Nat} {b : Bool} (hgd : o.guard = some (gi, true)) (hgi : (ops[gi]?.bind fun x => x.dst) = some m) (h : a.tmps[m]? = some (.bool b)) : Region.wanted o (yielded ops a.tmps) = b := by
  unfold Region.wanted yielded
  rw [hgd]
  simp only [hgi, Option.bind_some, h]
  cases b <;> rfl
theorem wpList_yields (hy : YieldsIf P ops (fun w' => w' = w) o v a) (h : wpList P ops Q rest (a.put o.dst v) w) : wpList P ops Q (o :: rest) a w :=
  wpList_step fun K hK => by
    rcases hy with ⟨hw, hv⟩ | ⟨hw, rfl⟩
    · rw [if_pos hw]
      unfold Oper.wp
      rw [hv w rfl]
      exact hK _ _ h
    · rw [if_neg (by rw [hw]; decide)]
      exact hK _ _ h
/-- operations that are not wanted -/
theorem skips {gi m : Nat} (hgi : (ops[gi]?.bind fun x => x.dst) = some m) : ∀ (mids : List Oper) (a : Act), (∀ o ∈ mids, o.guard = some (gi, true) ∧ ∃ d, o.dst = some d ∧ d ≠ x0 ∧ d ≠ m) → Fr N x0 pv a → a.tmps[m]? = some (.bool false) →
    (∀ a', Fr N x0 pv a' → a'.tmps[m]? = some (.bool false) → wpList P ops Q rest a' w) → wpList P ops Q (mids ++ rest) a w
  | [], a, _, hF, hm, h => h a hF hm
  | o :: mids, a, hs, hF, hm, h => by
    obtain ⟨hg, d, hd, h1, h2⟩ := hs o List.mem_cons_self
    refine wpList_yields (.inr ⟨wanted_at hg hgi hm, rfl⟩) ?_
    rw [hd]
    exact skips hgi mids _ (fun o ho => hs o (List.mem_cons_of_mem _ ho)) (hF.put h1) (by rw [at_other h2]; exact hm) h
/-- one test of the chain -/
theorem chain {gi p m e q : Nat} {b t : Bool} {mids : List Oper} {o1 o5 : Oper} (hgi : (ops[gi]?.bind fun x => x.dst) = some m)
    (q1 : o1.op = .move (.tmp p) ∧ o1.dst = some m ∧ o1.guard = none) (q5 : o5.op = .pick (.tmp m) (.tmp e) (.const (.bool false)) ∧ o5.dst = some q ∧ o5.guard = none)
    (hn : m ≠ x0 ∧ q ≠ x0 ∧ m < N ∧ q < N) (hF : Fr N x0 pv a) (hp : a.eval (.tmp p) = .bool b)
    (hs : ∀ o ∈ mids, o.guard = some (gi, true) ∧ ∃ d, o.dst = some d ∧ d ≠ x0 ∧ d ≠ m)
    (hmid : ∀ a1, Fr N x0 pv a1 → a1.tmps[m]? = some (.bool true) → (∀ a2, Fr N x0 pv a2 → a2.tmps[m]? = some (.bool true) → a2.eval (.tmp e) = .bool t → wpList P ops Q (o5 :: rest) a2 w) → wpList P ops Q (mids ++ (o5 :: rest)) a1 w)
    (h : ∀ a', Fr N x0 pv a' → a'.eval (.tmp q) = .bool (b && t) → wpList P ops Q rest a' w) : wpList P ops Q (o1 :: (mids ++ (o5 :: rest))) a w := by
  obtain ⟨n1, n2, n3, n4⟩ := hn
  refine wpList_yields (yieldsIf_move (by simp [Region.wanted, q1.2.2]) (.tmp p) q1.1 (.bool b) hp) ?_
  rw [q1.2.1]
  have hF1 : Fr N x0 pv (a.put (some m) (.bool b)) := hF.put n1
  have hm1 : (a.put (some m) (.bool b)).tmps[m]? = some (.bool b) := at_self (by rw [hF.size]; exact n3)
  cases b
  · refine skips hgi mids _ hs hF1 hm1 fun a' hF' hm' => ?_
    refine wpList_yields (v := .bool false) (.inl ⟨by simp [Region.wanted, q5.2.2], fun w _ => by have hc : a'.eval (.const (.bool false)) = .bool false := rfl; unfold execOp; simp [q5.1, eval_at hm', hc, asBool]⟩) ?_
    rw [q5.2.1]
    exact h _ (hF'.put n2) (put_self (by rw [hF'.size]; exact n4))
  · refine hmid _ hF1 hm1 fun a' hF' hm' he => ?_
    refine wpList_yields (v := .bool t) (.inl ⟨by simp [Region.wanted, q5.2.2], fun w _ => by unfold execOp; simp [q5.1, eval_at hm', asBool, he]⟩) ?_
    rw [q5.2.1]
    exact h _ (hF'.put n2) (put_self (by rw [hF'.size]; exact n4))
/-- a field's load, and what is done with it -/
theorem mids_load {gi m f l i off g : Nat} {T ty : TypeId} {o2 o3 : Oper} {tail : List Oper} (hgi : (ops[gi]?.bind fun x => x.dst) = some m)
    (q2 : o2.op = .fieldAddr T (.tmp x0) i ∧ o2.dst = some f ∧ o2.guard = some (gi, true)) (q3 : o3.op = .load ty (.tmp f) ∧ o3.dst = some l ∧ o3.guard = some (gi, true))
    (hn : f ≠ x0 ∧ l ≠ x0 ∧ f ≠ m ∧ l ≠ m ∧ f < N ∧ l < N)
    (hf : ∀ w, (Instr.fieldAt T pv i).run P w = .ok (.pointer (some ⟨g, off, none⟩)) w)
    (hl : (Instr.loadAt ty (.pointer (some ⟨g, off, none⟩))).run P w = .ok v w)
    (a1 : Act) (hF : Fr N x0 pv a1) (hm : a1.tmps[m]? = some (.bool true))
    (h : ∀ a2, Fr N x0 pv a2 → a2.tmps[m]? = some (.bool true) → a2.eval (.tmp l) = v → wpList P ops Q tail a2 w) : wpList P ops Q (o2 :: o3 :: tail) a1 w := by
  obtain ⟨n1, n2, n3, n4, n5, n6⟩ := hn
  refine wpList_yields (yieldsIf_fld (wanted_at q2.2.2 hgi hm) T (.tmp x0) i q2.1 pv _ hF.ptr hf) ?_
  rw [q2.2.1]
  have hF2 : Fr N x0 pv (a1.put (some f) (.pointer (some ⟨g, off, none⟩))) := hF.put n1
  have hm2 : (a1.put (some f) (.pointer (some ⟨g, off, none⟩))).tmps[m]? = some (.bool true) := by rw [at_other n3]; exact hm
  refine wpList_yields (v := v) (.inl ⟨wanted_at q3.2.2 hgi hm2, fun w' hw' => by
    subst hw'
    unfold execOp
    simp only [q3.1, put_self (show f < a1.tmps.size by rw [hF.size]; exact n5), Sem.run_bind, hl, Result.andThen_ok, Sem.run_pure]⟩) ?_
  rw [q3.2.1]
  exact h _ (hF2.put n2) (by rw [at_other n4]; exact hm2) (put_self (by rw [hF2.size]; exact n6))
/-- an operation on what has been loaded -/
theorem mids_next {gi m l e : Nat} {u : Value} {o4 : Oper} {tail : List Oper} (hgi : (ops[gi]?.bind fun x => x.dst) = some m)
    (q4 : o4.dst = some e ∧ o4.guard = some (gi, true)) (hn : e ≠ x0 ∧ e ≠ m ∧ e < N) (a1 : Act) (hF : Fr N x0 pv a1) (hm : a1.tmps[m]? = some (.bool true))
    (hv : (execOp a1.eval o4).run P w = .ok (.value u) w)
    (h : ∀ a2, Fr N x0 pv a2 → a2.tmps[m]? = some (.bool true) → a2.eval (.tmp e) = u → (∀ t, t ≠ e → a2.eval (.tmp t) = a1.eval (.tmp t)) → wpList P ops Q tail a2 w) : wpList P ops Q (o4 :: tail) a1 w := by
  obtain ⟨n1, n2, n3⟩ := hn
  refine wpList_yields (v := u) (.inl ⟨wanted_at q4.2 hgi hm, fun w' hw' => by subst hw'; exact hv⟩) ?_
  rw [q4.1]
  exact h _ (hF.put n1) (by rw [at_other n2]; exact hm) (put_self (by rw [hF.size]; exact n3)) (fun t ht => put_other (Ne.symm ht))
theorem wpList_abs (hF : Fr N x0 pv a) (h : ∀ a', Fr N x0 pv a' → wpList P ops Q rest a' w) : wpList P ops Q rest a w := h a hF
/-- the same ahead of any guard -/
theorem head_load {f l i off g : Nat} {T ty : TypeId} {o2 o3 : Oper} {tail : List Oper}
    (q2 : o2.op = .fieldAddr T (.tmp x0) i ∧ o2.dst = some f ∧ o2.guard = none) (q3 : o3.op = .load ty (.tmp f) ∧ o3.dst = some l ∧ o3.guard = none)
    (hn : f ≠ x0 ∧ l ≠ x0 ∧ f < N ∧ l < N)
    (hf : ∀ w, (Instr.fieldAt T pv i).run P w = .ok (.pointer (some ⟨g, off, none⟩)) w)
    (hl : (Instr.loadAt ty (.pointer (some ⟨g, off, none⟩))).run P w = .ok v w)
    (a1 : Act) (hF : Fr N x0 pv a1)
    (h : ∀ a2, Fr N x0 pv a2 → a2.eval (.tmp l) = v → wpList P ops Q tail a2 w) : wpList P ops Q (o2 :: o3 :: tail) a1 w := by
  obtain ⟨n1, n2, n5, n6⟩ := hn
  refine wpList_yields (yieldsIf_fld (by simp [Region.wanted, q2.2.2]) T (.tmp x0) i q2.1 pv _ hF.ptr hf) ?_
  rw [q2.2.1]
  have hF2 : Fr N x0 pv (a1.put (some f) (.pointer (some ⟨g, off, none⟩))) := hF.put n1
  refine wpList_yields (v := v) (.inl ⟨by simp [Region.wanted, q3.2.2], fun w' hw' => by
    subst hw'
    unfold execOp
    simp only [q3.1, put_self (show f < a1.tmps.size by rw [hF.size]; exact n5), Sem.run_bind, hl, Result.andThen_ok, Sem.run_pure]⟩) ?_
  rw [q3.2.1]
  exact h _ (hF2.put n2) (put_self (by rw [hF2.size]; exact n6))
theorem head_next {e : Nat} {u : Value} {o4 : Oper} {tail : List Oper}
    (q4 : o4.dst = some e ∧ o4.guard = none) (hn : e ≠ x0 ∧ e < N) (a1 : Act) (hF : Fr N x0 pv a1)
    (hv : (execOp a1.eval o4).run P w = .ok (.value u) w)
    (h : ∀ a2, Fr N x0 pv a2 → a2.eval (.tmp e) = u → wpList P ops Q tail a2 w) : wpList P ops Q (o4 :: tail) a1 w := by
  obtain ⟨n1, n3⟩ := hn
  refine wpList_yields (v := u) (.inl ⟨by simp [Region.wanted, q4.2], fun w' hw' => by subst hw'; exact hv⟩) ?_
  rw [q4.1]
  exact h _ (hF.put n1) (put_self (by rw [hF.size]; exact n3))
theorem load_one {g off : Nat} {ty : TypeId} (hc : w.cell? ⟨g, off, none⟩ = some v) (d : TypeDesc) (hu : P.underlying ty = some d) (hd : (match d with | .struct _ | .array _ _ => true | _ => false) = false) :
    (Instr.loadAt ty (.pointer (some ⟨g, off, none⟩))).run P w = .ok v w := by
  have hagg : (isAgg ty).run P w = .ok false w := by
    unfold isAgg
    rw [Sem.run_bind, run_underlying hu w]
    cases d <;> simp_all
  simp [Instr.loadAt, Instr.sureAddr, Sem.run_bind, Result.andThen_ok, loadVar, hagg, hc]
end
end Go.Proofs.YtpodpmckdiijhaaGreatDoor

namespace Go.Proofs.YtpodpmckdiijhaaGreatDoor
set_option linter.all false
open Go.RowKit
set_option linter.unusedVariables false
set_option maxRecDepth 100000
theorem built_guid : Tryz.prog.built 26 [] = some ((List.replicate 16 (0 : Int)).map (Value.int .u8)).toArray := by kernel_rfl
theorem built_proof : Tryz.prog.built 30 [] = some ((List.replicate 32 (0 : Int)).map (Value.int .u8)).toArray := by kernel_rfl
theorem built_chal : Tryz.prog.built 35 [] = some ((List.replicate 8 (0 : Int)).map (Value.int .u8)).toArray := by kernel_rfl
theorem zeroAsk_iff (a : AskV) : a = zeroAsk ↔ a.dial = [] ∧ a.data = [] ∧ a.locks = [] ∧ a.guid = List.replicate 16 0 ∧ a.proof = List.replicate 32 0 ∧ a.user = .empty ∧ a.share = .empty ∧ a.name = .empty ∧ a.pat = .empty ∧ a.aft = .empty ∧ a.acc = 0 ∧ a.shr = 0 ∧ a.way = 0 ∧ a.opt = 0 ∧ a.lev = 0 ∧ a.dur = 0 ∧ a.file = 0 ∧ a.at_ = 0 ∧ a.n = 0 ∧ a.most = 0 ∧ a.cls = 0 ∧ a.siz = 0 ∧ a.on = false := by
  constructor
  · rintro rfl
    exact ⟨rfl, rfl, rfl, rfl, rfl, rfl, rfl, rfl, rfl, rfl, rfl, rfl, rfl, rfl, rfl, rfl, rfl, rfl, rfl, rfl, rfl, rfl, rfl⟩
  · rintro ⟨h_dial, h_data, h_locks, h_guid, h_proof, h_user, h_share, h_name, h_pat, h_aft, h_acc, h_shr, h_way, h_opt, h_lev, h_dur, h_file, h_at_, h_n, h_most, h_cls, h_siz, h_on⟩
    cases a
    simp only at h_dial h_data h_locks h_guid h_proof h_user h_share h_name h_pat h_aft h_acc h_shr h_way h_opt h_lev h_dur h_file h_at_ h_n h_most h_cls h_siz h_on
    subst h_dial h_data h_locks h_guid h_proof h_user h_share h_name h_pat h_aft h_acc h_shr h_way h_opt h_lev h_dur h_file h_at_ h_n h_most h_cls h_siz h_on
    rfl
theorem zeroSay_iff (a : SayV) : a = zeroSay ↔ a.data = [] ∧ a.ents = [] ∧ a.chal = List.replicate 8 0 ∧ a.dia = 0 ∧ a.siz = 0 ∧ a.lev = 0 ∧ a.dur = 0 ∧ a.made = 0 ∧ a.file = 0 ∧ a.kind = 0 ∧ a.n = 0 ∧ a.more = false ∧ a.gone = false := by
  constructor
  · rintro rfl
    exact ⟨rfl, rfl, rfl, rfl, rfl, rfl, rfl, rfl, rfl, rfl, rfl, rfl, rfl⟩
  · rintro ⟨h_data, h_ents, h_chal, h_dia, h_siz, h_lev, h_dur, h_made, h_file, h_kind, h_n, h_more, h_gone⟩
    cases a
    simp only at h_data h_ents h_chal h_dia h_siz h_lev h_dur h_made h_file h_kind h_n h_more h_gone
    subst h_data h_ents h_chal h_dia h_siz h_lev h_dur h_made h_file h_kind h_n h_more h_gone
    rfl
theorem fld_isZeroAsk_0 (g : Nat) (w : World) : (Instr.fieldAt 34 (.pointer (some ⟨g, 0, none⟩)) 0).run Tryz.prog w = .ok (.pointer (some ⟨g, 0, none⟩)) w := by go_simp
theorem fld_isZeroAsk_1 (g : Nat) (w : World) : (Instr.fieldAt 34 (.pointer (some ⟨g, 0, none⟩)) 1).run Tryz.prog w = .ok (.pointer (some ⟨g, 1, none⟩)) w := by go_simp
theorem fld_isZeroAsk_2 (g : Nat) (w : World) : (Instr.fieldAt 34 (.pointer (some ⟨g, 0, none⟩)) 2).run Tryz.prog w = .ok (.pointer (some ⟨g, 17, none⟩)) w := by go_simp
theorem fld_isZeroAsk_3 (g : Nat) (w : World) : (Instr.fieldAt 34 (.pointer (some ⟨g, 0, none⟩)) 3).run Tryz.prog w = .ok (.pointer (some ⟨g, 49, none⟩)) w := by go_simp
theorem fld_isZeroAsk_4 (g : Nat) (w : World) : (Instr.fieldAt 34 (.pointer (some ⟨g, 0, none⟩)) 4).run Tryz.prog w = .ok (.pointer (some ⟨g, 50, none⟩)) w := by go_simp
theorem fld_isZeroAsk_5 (g : Nat) (w : World) : (Instr.fieldAt 34 (.pointer (some ⟨g, 0, none⟩)) 5).run Tryz.prog w = .ok (.pointer (some ⟨g, 51, none⟩)) w := by go_simp
theorem fld_isZeroAsk_6 (g : Nat) (w : World) : (Instr.fieldAt 34 (.pointer (some ⟨g, 0, none⟩)) 6).run Tryz.prog w = .ok (.pointer (some ⟨g, 52, none⟩)) w := by go_simp
theorem fld_isZeroAsk_7 (g : Nat) (w : World) : (Instr.fieldAt 34 (.pointer (some ⟨g, 0, none⟩)) 7).run Tryz.prog w = .ok (.pointer (some ⟨g, 53, none⟩)) w := by go_simp
theorem fld_isZeroAsk_8 (g : Nat) (w : World) : (Instr.fieldAt 34 (.pointer (some ⟨g, 0, none⟩)) 8).run Tryz.prog w = .ok (.pointer (some ⟨g, 54, none⟩)) w := by go_simp
theorem fld_isZeroAsk_9 (g : Nat) (w : World) : (Instr.fieldAt 34 (.pointer (some ⟨g, 0, none⟩)) 9).run Tryz.prog w = .ok (.pointer (some ⟨g, 55, none⟩)) w := by go_simp
theorem fld_isZeroAsk_10 (g : Nat) (w : World) : (Instr.fieldAt 34 (.pointer (some ⟨g, 0, none⟩)) 10).run Tryz.prog w = .ok (.pointer (some ⟨g, 56, none⟩)) w := by go_simp
theorem fld_isZeroAsk_11 (g : Nat) (w : World) : (Instr.fieldAt 34 (.pointer (some ⟨g, 0, none⟩)) 11).run Tryz.prog w = .ok (.pointer (some ⟨g, 57, none⟩)) w := by go_simp
theorem fld_isZeroAsk_12 (g : Nat) (w : World) : (Instr.fieldAt 34 (.pointer (some ⟨g, 0, none⟩)) 12).run Tryz.prog w = .ok (.pointer (some ⟨g, 58, none⟩)) w := by go_simp
theorem fld_isZeroAsk_13 (g : Nat) (w : World) : (Instr.fieldAt 34 (.pointer (some ⟨g, 0, none⟩)) 13).run Tryz.prog w = .ok (.pointer (some ⟨g, 59, none⟩)) w := by go_simp
theorem fld_isZeroAsk_14 (g : Nat) (w : World) : (Instr.fieldAt 34 (.pointer (some ⟨g, 0, none⟩)) 14).run Tryz.prog w = .ok (.pointer (some ⟨g, 60, none⟩)) w := by go_simp
theorem fld_isZeroAsk_15 (g : Nat) (w : World) : (Instr.fieldAt 34 (.pointer (some ⟨g, 0, none⟩)) 15).run Tryz.prog w = .ok (.pointer (some ⟨g, 61, none⟩)) w := by go_simp
theorem fld_isZeroAsk_16 (g : Nat) (w : World) : (Instr.fieldAt 34 (.pointer (some ⟨g, 0, none⟩)) 16).run Tryz.prog w = .ok (.pointer (some ⟨g, 62, none⟩)) w := by go_simp
theorem fld_isZeroAsk_17 (g : Nat) (w : World) : (Instr.fieldAt 34 (.pointer (some ⟨g, 0, none⟩)) 17).run Tryz.prog w = .ok (.pointer (some ⟨g, 63, none⟩)) w := by go_simp
theorem fld_isZeroAsk_18 (g : Nat) (w : World) : (Instr.fieldAt 34 (.pointer (some ⟨g, 0, none⟩)) 18).run Tryz.prog w = .ok (.pointer (some ⟨g, 64, none⟩)) w := by go_simp
theorem fld_isZeroAsk_19 (g : Nat) (w : World) : (Instr.fieldAt 34 (.pointer (some ⟨g, 0, none⟩)) 19).run Tryz.prog w = .ok (.pointer (some ⟨g, 65, none⟩)) w := by go_simp
theorem fld_isZeroAsk_20 (g : Nat) (w : World) : (Instr.fieldAt 34 (.pointer (some ⟨g, 0, none⟩)) 20).run Tryz.prog w = .ok (.pointer (some ⟨g, 66, none⟩)) w := by go_simp
theorem fld_isZeroAsk_21 (g : Nat) (w : World) : (Instr.fieldAt 34 (.pointer (some ⟨g, 0, none⟩)) 21).run Tryz.prog w = .ok (.pointer (some ⟨g, 67, none⟩)) w := by go_simp
theorem fld_isZeroAsk_22 (g : Nat) (w : World) : (Instr.fieldAt 34 (.pointer (some ⟨g, 0, none⟩)) 22).run Tryz.prog w = .ok (.pointer (some ⟨g, 68, none⟩)) w := by go_simp
theorem fld_isZeroSay_0 (g : Nat) (w : World) : (Instr.fieldAt 39 (.pointer (some ⟨g, 0, none⟩)) 0).run Tryz.prog w = .ok (.pointer (some ⟨g, 0, none⟩)) w := by go_simp
theorem fld_isZeroSay_1 (g : Nat) (w : World) : (Instr.fieldAt 39 (.pointer (some ⟨g, 0, none⟩)) 1).run Tryz.prog w = .ok (.pointer (some ⟨g, 1, none⟩)) w := by go_simp
theorem fld_isZeroSay_2 (g : Nat) (w : World) : (Instr.fieldAt 39 (.pointer (some ⟨g, 0, none⟩)) 2).run Tryz.prog w = .ok (.pointer (some ⟨g, 2, none⟩)) w := by go_simp
theorem fld_isZeroSay_3 (g : Nat) (w : World) : (Instr.fieldAt 39 (.pointer (some ⟨g, 0, none⟩)) 3).run Tryz.prog w = .ok (.pointer (some ⟨g, 10, none⟩)) w := by go_simp
theorem fld_isZeroSay_4 (g : Nat) (w : World) : (Instr.fieldAt 39 (.pointer (some ⟨g, 0, none⟩)) 4).run Tryz.prog w = .ok (.pointer (some ⟨g, 11, none⟩)) w := by go_simp
theorem fld_isZeroSay_5 (g : Nat) (w : World) : (Instr.fieldAt 39 (.pointer (some ⟨g, 0, none⟩)) 5).run Tryz.prog w = .ok (.pointer (some ⟨g, 12, none⟩)) w := by go_simp
theorem fld_isZeroSay_6 (g : Nat) (w : World) : (Instr.fieldAt 39 (.pointer (some ⟨g, 0, none⟩)) 6).run Tryz.prog w = .ok (.pointer (some ⟨g, 13, none⟩)) w := by go_simp
theorem fld_isZeroSay_7 (g : Nat) (w : World) : (Instr.fieldAt 39 (.pointer (some ⟨g, 0, none⟩)) 7).run Tryz.prog w = .ok (.pointer (some ⟨g, 14, none⟩)) w := by go_simp
theorem fld_isZeroSay_8 (g : Nat) (w : World) : (Instr.fieldAt 39 (.pointer (some ⟨g, 0, none⟩)) 8).run Tryz.prog w = .ok (.pointer (some ⟨g, 15, none⟩)) w := by go_simp
theorem fld_isZeroSay_9 (g : Nat) (w : World) : (Instr.fieldAt 39 (.pointer (some ⟨g, 0, none⟩)) 9).run Tryz.prog w = .ok (.pointer (some ⟨g, 16, none⟩)) w := by go_simp
theorem fld_isZeroSay_10 (g : Nat) (w : World) : (Instr.fieldAt 39 (.pointer (some ⟨g, 0, none⟩)) 10).run Tryz.prog w = .ok (.pointer (some ⟨g, 17, none⟩)) w := by go_simp
theorem fld_isZeroSay_11 (g : Nat) (w : World) : (Instr.fieldAt 39 (.pointer (some ⟨g, 0, none⟩)) 11).run Tryz.prog w = .ok (.pointer (some ⟨g, 18, none⟩)) w := by go_simp
theorem fld_isZeroSay_12 (g : Nat) (w : World) : (Instr.fieldAt 39 (.pointer (some ⟨g, 0, none⟩)) 12).run Tryz.prog w = .ok (.pointer (some ⟨g, 19, none⟩)) w := by go_simp
theorem load_mid_run {w : World} {g off : Nat} {cs : List Value} {ty : TypeId} {d : TypeDesc} (hc : w.rangeAt g off cs) (hu : Tryz.prog.underlying ty = some d) (hd : d.isRow = true) (hs : (Tryz.prog.info? ty).map (·.size) = some cs.length) :
    (Instr.loadAt ty (.pointer (some ⟨g, off, none⟩))).run Tryz.prog w = .ok (.agg cs.toArray) w := by
  have := run_loadVar_mid (P := Tryz.prog) w g off ty cs d hc hu hd hs
  simpa [Instr.loadAt, Instr.sureAddr, Sem.run_bind, Result.andThen_ok] using this
theorem bytes_isEmpty (s : ByteArray) : s.toList.isEmpty = decide (s = .empty) := by
  rw [ByteArray.toList_eq]
  obtain ⟨⟨l⟩⟩ := s
  cases l with
  | nil => exact (decide_eq_true rfl).symm
  | cons x l => rw [decide_eq_false (fun h => by injection h with h; injection h with h; cases h)]; rfl
theorem build_run {a : Act} {w : World} {T : TypeId} {o : Oper} {ys : Array Value} (ho : o.op = .build T #[]) (hf : Tryz.prog.built T [] = some ys) : (execOp a.eval o).run Tryz.prog w = .ok (.value (.agg ys)) w := by
  obtain ⟨cs, rfl⟩ : ∃ cs : List Value, ys = cs.toArray := ⟨ys.toList, by simp⟩
  have h := yieldsIf_build_blk (P := Tryz.prog) (ops := #[]) (S := fun _ => True) (op := { o with guard := none }) (a := a) (by simp [Region.wanted]) T #[] ho cs (by simpa using hf)
  rcases h with ⟨_, h⟩ | ⟨h, _⟩
  · exact h w trivial
  · simp [Region.wanted] at h
theorem eval_getD {a : Act} {t : Nat} {v : Value} (h : a.eval (.tmp t) = v) : a.tmps[t]?.getD undef = v := by rw [← h]; simp [Act.eval]
set_option maxHeartbeats 4000000 in
theorem isZeroAsk_any (w : World) (cs : List Value) (a : AskV) (ka : a.ok) (ha : AskIs w w.heap.size cs a) :
    Calls Tryz.prog 139 #[.agg cs.toArray] w fun e w' => e = .returned (.bool (decide (a = zeroAsk))) ∧ Below w.heap.size w w' := by
  have HL := Lib.hid (ha.len ka)
  obtain ⟨D1, D2, D3, X1, X2, X3, M1, M2, M3, rfl, h_D, h_X, h_M⟩ := ha
  have l_D := h_D.len
  have l_X := h_X.len
  have l_M := h_M.len
  have HT : Hid ((((((((((((((((((((((((a.dial.length == 0) && (a.data.length == 0)) && (a.locks.length == 0)) && (decide (a.guid = List.replicate 16 0))) && (decide (a.proof = List.replicate 32 0))) && (decide (a.user = .empty))) && (decide (a.share = .empty))) && (decide (a.name = .empty))) && (decide (a.pat = .empty))) && (decide (a.aft = .empty))) && (a.acc == 0)) && (a.shr == 0)) && (a.way == 0)) && (a.opt == 0)) && (a.lev == 0)) && (a.dur == 0)) && (a.file == 0)) && (a.at_ == 0)) && (a.n == 0)) && (a.most == 0)) && (a.cls == 0)) && (a.siz == 0)) && (!a.on)) = decide (a = zeroAsk)) := by
    show _ = _
    rw [Bool.eq_iff_iff, decide_eq_true_iff, zeroAsk_iff]
    simp only [Bool.and_eq_true, beq_iff_eq, decide_eq_true_iff, Bool.not_eq_true', List.length_eq_zero_iff, and_assoc]
  have FA : Hid (∀ (w : World) (g : Nat), Blk w g 34 (acells (.slice D1 D2 D3) (.slice X1 X2 X3) (.slice M1 M2 M3) a) → w.cell? ⟨g, 0, none⟩ = some (.slice D1 D2 D3) ∧ w.cell? ⟨g, 49, none⟩ = some (.string a.user) ∧ w.cell? ⟨g, 50, none⟩ = some (.string a.share) ∧ w.cell? ⟨g, 51, none⟩ = some (.int .u32 a.acc) ∧ w.cell? ⟨g, 52, none⟩ = some (.int .u32 a.shr) ∧ w.cell? ⟨g, 53, none⟩ = some (.int .u32 a.way) ∧ w.cell? ⟨g, 54, none⟩ = some (.int .u32 a.opt) ∧ w.cell? ⟨g, 55, none⟩ = some (.int .u8 a.lev) ∧ w.cell? ⟨g, 56, none⟩ = some (.int .u8 a.dur) ∧ w.cell? ⟨g, 57, none⟩ = some (.int .u64 a.file) ∧ w.cell? ⟨g, 58, none⟩ = some (.string a.name) ∧ w.cell? ⟨g, 59, none⟩ = some (.int .u64 a.at_) ∧ w.cell? ⟨g, 60, none⟩ = some (.int .u32 a.n) ∧ w.cell? ⟨g, 61, none⟩ = some (.slice X1 X2 X3) ∧ w.cell? ⟨g, 62, none⟩ = some (.slice M1 M2 M3) ∧ w.cell? ⟨g, 63, none⟩ = some (.int .u16 a.most) ∧ w.cell? ⟨g, 64, none⟩ = some (.string a.pat) ∧ w.cell? ⟨g, 65, none⟩ = some (.string a.aft) ∧ w.cell? ⟨g, 66, none⟩ = some (.int .u16 a.cls) ∧ w.cell? ⟨g, 67, none⟩ = some (.int .u64 a.siz) ∧ w.cell? ⟨g, 68, none⟩ = some (.bool a.on)) := fun w g h =>
    ⟨h.at rfl, h.at (acells_get ka 0), h.at (acells_get ka 1), h.at (acells_get ka 2), h.at (acells_get ka 3), h.at (acells_get ka 4), h.at (acells_get ka 5), h.at (acells_get ka 6), h.at (acells_get ka 7), h.at (acells_get ka 8), h.at (acells_get ka 9), h.at (acells_get ka 10), h.at (acells_get ka 11), h.at (acells_get ka 12), h.at (acells_get ka 13), h.at (acells_get ka 14), h.at (acells_get ka 15), h.at (acells_get ka 16), h.at (acells_get ka 17), h.at (acells_get ka 18), h.at (acells_get ka 19)⟩
  have R_guid : Hid (∀ (w : World) (g : Nat), Blk w g 34 (acells (.slice D1 D2 D3) (.slice X1 X2 X3) (.slice M1 M2 M3) a) → w.rangeAt g 1 (a.guid.map (Value.int .u8))) := fun w g h => acells_guid h ka
  have N_guid : Hid ((a.guid.map (Value.int .u8)).length = 16) := by show _ = _; rw [List.length_map]; exact ka.glen
  have q_guid : ∀ w : World, (Op.equalIn 10000 26 (.agg (a.guid.map (Value.int .u8)).toArray) (.agg ((List.replicate 16 (0 : Int)).map (Value.int .u8)).toArray)).run Tryz.prog w = .ok (decide (a.guid = List.replicate 16 0)) w := fun w => run_equalIn_arr3 Tryz.underlying26 Tryz.underlying5 size_u8e _ _ ka.glen (by simp) _ w
  have R_proof : Hid (∀ (w : World) (g : Nat), Blk w g 34 (acells (.slice D1 D2 D3) (.slice X1 X2 X3) (.slice M1 M2 M3) a) → w.rangeAt g 17 (a.proof.map (Value.int .u8))) := fun w g h => acells_proof h ka
  have N_proof : Hid ((a.proof.map (Value.int .u8)).length = 32) := by show _ = _; rw [List.length_map]; exact ka.plen
  have q_proof : ∀ w : World, (Op.equalIn 10000 30 (.agg (a.proof.map (Value.int .u8)).toArray) (.agg ((List.replicate 32 (0 : Int)).map (Value.int .u8)).toArray)).run Tryz.prog w = .ok (decide (a.proof = List.replicate 32 0)) w := fun w => run_equalIn_arr3 Tryz.underlying30 Tryz.underlying5 size_u8e _ _ ka.plen (by simp) _ w
  obtain ⟨z_dial, k_dial⟩ : ∃ z, (a.dial.length == 0) = z := ⟨_, rfl⟩
  obtain ⟨z_data, k_data⟩ : ∃ z, (a.data.length == 0) = z := ⟨_, rfl⟩
  obtain ⟨z_locks, k_locks⟩ : ∃ z, (a.locks.length == 0) = z := ⟨_, rfl⟩
  obtain ⟨z_guid, k_guid⟩ : ∃ z, (decide (a.guid = List.replicate 16 0)) = z := ⟨_, rfl⟩
  obtain ⟨z_proof, k_proof⟩ : ∃ z, (decide (a.proof = List.replicate 32 0)) = z := ⟨_, rfl⟩
  obtain ⟨z_user, k_user⟩ : ∃ z, (decide (a.user = .empty)) = z := ⟨_, rfl⟩
  obtain ⟨z_share, k_share⟩ : ∃ z, (decide (a.share = .empty)) = z := ⟨_, rfl⟩
  obtain ⟨z_name, k_name⟩ : ∃ z, (decide (a.name = .empty)) = z := ⟨_, rfl⟩
  obtain ⟨z_pat, k_pat⟩ : ∃ z, (decide (a.pat = .empty)) = z := ⟨_, rfl⟩
  obtain ⟨z_aft, k_aft⟩ : ∃ z, (decide (a.aft = .empty)) = z := ⟨_, rfl⟩
  obtain ⟨z_acc, k_acc⟩ : ∃ z, (a.acc == 0) = z := ⟨_, rfl⟩
  obtain ⟨z_shr, k_shr⟩ : ∃ z, (a.shr == 0) = z := ⟨_, rfl⟩
  obtain ⟨z_way, k_way⟩ : ∃ z, (a.way == 0) = z := ⟨_, rfl⟩
  obtain ⟨z_opt, k_opt⟩ : ∃ z, (a.opt == 0) = z := ⟨_, rfl⟩
  obtain ⟨z_lev, k_lev⟩ : ∃ z, (a.lev == 0) = z := ⟨_, rfl⟩
  obtain ⟨z_dur, k_dur⟩ : ∃ z, (a.dur == 0) = z := ⟨_, rfl⟩
  obtain ⟨z_file, k_file⟩ : ∃ z, (a.file == 0) = z := ⟨_, rfl⟩
  obtain ⟨z_at_, k_at_⟩ : ∃ z, (a.at_ == 0) = z := ⟨_, rfl⟩
  obtain ⟨z_n, k_n⟩ : ∃ z, (a.n == 0) = z := ⟨_, rfl⟩
  obtain ⟨z_most, k_most⟩ : ∃ z, (a.most == 0) = z := ⟨_, rfl⟩
  obtain ⟨z_cls, k_cls⟩ : ∃ z, (a.cls == 0) = z := ⟨_, rfl⟩
  obtain ⟨z_siz, k_siz⟩ : ∃ z, (a.siz == 0) = z := ⟨_, rfl⟩
  obtain ⟨z_on, k_on⟩ : ∃ z, (!a.on) = z := ⟨_, rfl⟩
  rw [k_dial, k_data, k_locks, k_guid, k_proof, k_user, k_share, k_name, k_pat, k_aft, k_acc, k_shr, k_way, k_opt, k_lev, k_dur, k_file, k_at_, k_n, k_most, k_cls, k_siz, k_on] at HT
  rw [l_D] at k_dial
  have kk_dial : ((D2 : Int) == 0) = z_dial := by rw [← k_dial]; rw [Bool.eq_iff_iff]; simp
  rw [l_X] at k_data
  have kk_data : ((X2 : Int) == 0) = z_data := by rw [← k_data]; rw [Bool.eq_iff_iff]; simp
  rw [l_M] at k_locks
  have kk_locks : ((M2 : Int) == 0) = z_locks := by rw [← k_locks]; rw [Bool.eq_iff_iff]; simp
  rw [k_guid] at q_guid
  obtain ⟨y_guid, hy⟩ : ∃ y, y = ((List.replicate 16 (0 : Int)).map (Value.int .u8)).toArray := ⟨_, rfl⟩
  rw [← hy] at q_guid
  have bt_guid : Tryz.prog.built 26 [] = some y_guid := by rw [hy]; exact built_guid
  clear hy
  rw [k_proof] at q_proof
  obtain ⟨y_proof, hy⟩ : ∃ y, y = ((List.replicate 32 (0 : Int)).map (Value.int .u8)).toArray := ⟨_, rfl⟩
  rw [← hy] at q_proof
  have bt_proof : Tryz.prog.built 30 [] = some y_proof := by rw [hy]; exact built_proof
  clear hy
  have kk_user : a.user.toList.isEmpty = z_user := by rw [← k_user]; exact bytes_isEmpty _
  have kk_share : a.share.toList.isEmpty = z_share := by rw [← k_share]; exact bytes_isEmpty _
  have kk_name : a.name.toList.isEmpty = z_name := by rw [← k_name]; exact bytes_isEmpty _
  have kk_pat : a.pat.toList.isEmpty = z_pat := by rw [← k_pat]; exact bytes_isEmpty _
  have kk_aft : a.aft.toList.isEmpty = z_aft := by rw [← k_aft]; exact bytes_isEmpty _
  obtain ⟨r, hr⟩ : ∃ r, r = decide (a = zeroAsk) := ⟨_, rfl⟩
  rw [← hr] at HT ⊢
  obtain ⟨cs, hcs⟩ : ∃ c, c = acells (.slice D1 D2 D3) (.slice X1 X2 X3) (.slice M1 M2 M3) a := ⟨_, rfl⟩
  rw [← hcs] at FA HL R_guid R_proof ⊢
  clear hr hcs h_D h_X h_M
  go_enter Tryz.func139, Tryz.ntmps139
  go_upto_region 1 with (first
    | ((with_reducible show wpList _ _ _ (⟨some 1, _, _, _, _, _⟩ :: _) _ _); refine wpList_box_blk rfl _ (.tmp 0) rfl cs rfl ?_; intro g w1 hg1 hg2 K1 L1)
    | fail)
  rename_i hret
  simp only [List.append_eq, List.cons_append, List.nil_append]
  refine wp_region_lit ?_
  have HK := K1
  obtain ⟨c_dial, c_user, c_share, c_acc, c_shr, c_way, c_opt, c_lev, c_dur, c_file, c_name, c_at_, c_n, c_data, c_locks, c_most, c_pat, c_aft, c_cls, c_siz, c_on⟩ := FA.out _ _ K1.out
  have r_guid := R_guid.out _ _ K1.out
  have r_proof := R_proof.out _ _ K1.out
  refine wpList_abs (N := 121) (x0 := 1) (pv := .pointer (some ⟨g, 0, none⟩)) ⟨rfl, rfl, rfl⟩ fun a0 F0 => ?_
  refine head_load (v := (.slice D1 D2 D3)) (f := 3) (l := 4) (i := 0) (off := 0) (g := g) ⟨rfl, rfl, rfl⟩ ⟨rfl, rfl, rfl⟩ (by decide) (fld_isZeroAsk_0 g) (load_one c_dial _ Tryz.underlying29 rfl) a0 F0 fun a1 F1 e1 => ?_
  refine head_next (e := 5) (u := .int .i64 (D2 : Int)) ⟨rfl, rfl⟩ (by decide) a1 F1 (by have e' := eval_getD e1; go_simp) fun a2 F2 e2 => ?_
  refine head_next (e := 6) (u := .bool z_dial) ⟨rfl, rfl⟩ (by decide) a2 F2 (by have e' := eval_getD e2; go_simp) fun b0 G0 h0 => ?_
  clear F0 F1 F2 e1 e2
  refine chain (gi := 4) (p := 6) (m := 7) (e := 11) (q := 12) (t := z_data) (mids := [_, _, _, _]) rfl ⟨rfl, rfl, rfl⟩ ⟨rfl, rfl, rfl⟩ (by decide) G0 h0 (by
    intro o ho
    simp only [List.mem_cons, List.not_mem_nil, or_false] at ho
    rcases ho with rfl | rfl | rfl | rfl
    all_goals exact ⟨rfl, _, rfl, by decide, by decide⟩) (fun a1 F1 m1 hk => ?_) fun b1 G1 h1 => ?_
  · refine mids_load (v := (.slice X1 X2 X3)) (f := 8) (l := 9) (i := 15) (off := 61) (g := g) (tail := _) (gi := 4) (m := 7) rfl ⟨rfl, rfl, rfl⟩ ⟨rfl, rfl, rfl⟩ (by decide) (fld_isZeroAsk_15 g) (load_one c_data _ Tryz.underlying31 rfl) a1 F1 m1 fun a2 F2 m2 e2 => ?_
    refine mids_next (l := 0) (e := 10) (u := .int .i64 (X2 : Int)) (gi := 4) (m := 7) rfl ⟨rfl, rfl⟩ (by decide) a2 F2 m2 (by have e' := eval_getD e2; go_simp) fun a3 F3 m3 e3 _ => ?_
    refine mids_next (l := 0) (e := 11) (u := .bool z_data) (gi := 4) (m := 7) rfl ⟨rfl, rfl⟩ (by decide) a3 F3 m3 (by have e' := eval_getD e3; go_simp) fun a4 F4 m4 e4 _ => ?_
    exact hk a4 F4 m4 e4
  refine chain (gi := 10) (p := 12) (m := 13) (e := 17) (q := 18) (t := z_locks) (mids := [_, _, _, _]) rfl ⟨rfl, rfl, rfl⟩ ⟨rfl, rfl, rfl⟩ (by decide) G1 h1 (by
    intro o ho
    simp only [List.mem_cons, List.not_mem_nil, or_false] at ho
    rcases ho with rfl | rfl | rfl | rfl
    all_goals exact ⟨rfl, _, rfl, by decide, by decide⟩) (fun a1 F1 m1 hk => ?_) fun b2 G2 h2 => ?_
  · refine mids_load (v := (.slice M1 M2 M3)) (f := 14) (l := 15) (i := 16) (off := 62) (g := g) (tail := _) (gi := 10) (m := 13) rfl ⟨rfl, rfl, rfl⟩ ⟨rfl, rfl, rfl⟩ (by decide) (fld_isZeroAsk_16 g) (load_one c_locks _ Tryz.underlying32 rfl) a1 F1 m1 fun a2 F2 m2 e2 => ?_
    refine mids_next (l := 0) (e := 16) (u := .int .i64 (M2 : Int)) (gi := 10) (m := 13) rfl ⟨rfl, rfl⟩ (by decide) a2 F2 m2 (by have e' := eval_getD e2; go_simp) fun a3 F3 m3 e3 _ => ?_
    refine mids_next (l := 0) (e := 17) (u := .bool z_locks) (gi := 10) (m := 13) rfl ⟨rfl, rfl⟩ (by decide) a3 F3 m3 (by have e' := eval_getD e3; go_simp) fun a4 F4 m4 e4 _ => ?_
    exact hk a4 F4 m4 e4
  clear G1 h1
  refine chain (gi := 16) (p := 18) (m := 19) (e := 23) (q := 24) (t := z_guid) (mids := [_, _, _, _]) rfl ⟨rfl, rfl, rfl⟩ ⟨rfl, rfl, rfl⟩ (by decide) G2 h2 (by
    intro o ho
    simp only [List.mem_cons, List.not_mem_nil, or_false] at ho
    rcases ho with rfl | rfl | rfl | rfl
    all_goals exact ⟨rfl, _, rfl, by decide, by decide⟩) (fun a1 F1 m1 hk => ?_) fun b3 G3 h3 => ?_
  · refine mids_load (v := (.agg (a.guid.map (Value.int .u8)).toArray)) (f := 20) (l := 21) (i := 1) (off := 1) (g := g) (tail := _) (gi := 16) (m := 19) rfl ⟨rfl, rfl, rfl⟩ ⟨rfl, rfl, rfl⟩ (by decide) (fld_isZeroAsk_1 g) (load_mid_run r_guid Tryz.underlying26 rfl (by rw [size_guid, N_guid.out])) a1 F1 m1 fun a2 F2 m2 e2 => ?_
    refine mids_next (l := 0) (e := 22) (u := .agg y_guid) (gi := 16) (m := 19) rfl ⟨rfl, rfl⟩ (by decide) a2 F2 m2 (build_run rfl bt_guid) fun a3 F3 m3 e3 o3 => ?_
    have e2' := (o3 21 (by decide)).trans e2
    refine mids_next (l := 0) (e := 23) (u := .bool z_guid) (gi := 16) (m := 19) rfl ⟨rfl, rfl⟩ (by decide) a3 F3 m3 (by have e' := eval_getD e2'; have e'' := eval_getD e3; have qg := guard_guid; go_simp) fun a4 F4 m4 e4 _ => ?_
    exact hk a4 F4 m4 e4
  clear G2 h2
  refine chain (gi := 22) (p := 24) (m := 25) (e := 29) (q := 30) (t := z_proof) (mids := [_, _, _, _]) rfl ⟨rfl, rfl, rfl⟩ ⟨rfl, rfl, rfl⟩ (by decide) G3 h3 (by
    intro o ho
    simp only [List.mem_cons, List.not_mem_nil, or_false] at ho
    rcases ho with rfl | rfl | rfl | rfl
    all_goals exact ⟨rfl, _, rfl, by decide, by decide⟩) (fun a1 F1 m1 hk => ?_) fun b4 G4 h4 => ?_
  · refine mids_load (v := (.agg (a.proof.map (Value.int .u8)).toArray)) (f := 26) (l := 27) (i := 2) (off := 17) (g := g) (tail := _) (gi := 22) (m := 25) rfl ⟨rfl, rfl, rfl⟩ ⟨rfl, rfl, rfl⟩ (by decide) (fld_isZeroAsk_2 g) (load_mid_run r_proof Tryz.underlying30 rfl (by rw [size_proof, N_proof.out])) a1 F1 m1 fun a2 F2 m2 e2 => ?_
    refine mids_next (l := 0) (e := 28) (u := .agg y_proof) (gi := 22) (m := 25) rfl ⟨rfl, rfl⟩ (by decide) a2 F2 m2 (build_run rfl bt_proof) fun a3 F3 m3 e3 o3 => ?_
    have e2' := (o3 27 (by decide)).trans e2
    refine mids_next (l := 0) (e := 29) (u := .bool z_proof) (gi := 22) (m := 25) rfl ⟨rfl, rfl⟩ (by decide) a3 F3 m3 (by have e' := eval_getD e2'; have e'' := eval_getD e3; have qg := guard_proof; go_simp) fun a4 F4 m4 e4 _ => ?_
    exact hk a4 F4 m4 e4
  clear G3 h3
  refine chain (gi := 28) (p := 30) (m := 31) (e := 34) (q := 35) (t := z_user) (mids := [_, _, _]) rfl ⟨rfl, rfl, rfl⟩ ⟨rfl, rfl, rfl⟩ (by decide) G4 h4 (by
    intro o ho
    simp only [List.mem_cons, List.not_mem_nil, or_false] at ho
    rcases ho with rfl | rfl | rfl
    all_goals exact ⟨rfl, _, rfl, by decide, by decide⟩) (fun a1 F1 m1 hk => ?_) fun b5 G5 h5 => ?_
  · refine mids_load (v := (.string a.user)) (f := 32) (l := 33) (i := 3) (off := 49) (g := g) (tail := _) (gi := 28) (m := 31) rfl ⟨rfl, rfl, rfl⟩ ⟨rfl, rfl, rfl⟩ (by decide) (fld_isZeroAsk_3 g) (load_one c_user _ Tryz.underlying9 rfl) a1 F1 m1 fun a2 F2 m2 e2 => ?_
    refine mids_next (l := 0) (e := 34) (u := .bool z_user) (gi := 28) (m := 31) rfl ⟨rfl, rfl⟩ (by decide) a2 F2 m2 (by have e' := eval_getD e2; go_simp) fun a4 F4 m4 e4 _ => ?_
    exact hk a4 F4 m4 e4
  clear G4 h4
  refine chain (gi := 33) (p := 35) (m := 36) (e := 39) (q := 40) (t := z_share) (mids := [_, _, _]) rfl ⟨rfl, rfl, rfl⟩ ⟨rfl, rfl, rfl⟩ (by decide) G5 h5 (by
    intro o ho
    simp only [List.mem_cons, List.not_mem_nil, or_false] at ho
    rcases ho with rfl | rfl | rfl
    all_goals exact ⟨rfl, _, rfl, by decide, by decide⟩) (fun a1 F1 m1 hk => ?_) fun b6 G6 h6 => ?_
  · refine mids_load (v := (.string a.share)) (f := 37) (l := 38) (i := 4) (off := 50) (g := g) (tail := _) (gi := 33) (m := 36) rfl ⟨rfl, rfl, rfl⟩ ⟨rfl, rfl, rfl⟩ (by decide) (fld_isZeroAsk_4 g) (load_one c_share _ Tryz.underlying9 rfl) a1 F1 m1 fun a2 F2 m2 e2 => ?_
    refine mids_next (l := 0) (e := 39) (u := .bool z_share) (gi := 33) (m := 36) rfl ⟨rfl, rfl⟩ (by decide) a2 F2 m2 (by have e' := eval_getD e2; go_simp) fun a4 F4 m4 e4 _ => ?_
    exact hk a4 F4 m4 e4
  clear G5 h5
  refine chain (gi := 38) (p := 40) (m := 41) (e := 44) (q := 45) (t := z_name) (mids := [_, _, _]) rfl ⟨rfl, rfl, rfl⟩ ⟨rfl, rfl, rfl⟩ (by decide) G6 h6 (by
    intro o ho
    simp only [List.mem_cons, List.not_mem_nil, or_false] at ho
    rcases ho with rfl | rfl | rfl
    all_goals exact ⟨rfl, _, rfl, by decide, by decide⟩) (fun a1 F1 m1 hk => ?_) fun b7 G7 h7 => ?_
  · refine mids_load (v := (.string a.name)) (f := 42) (l := 43) (i := 12) (off := 58) (g := g) (tail := _) (gi := 38) (m := 41) rfl ⟨rfl, rfl, rfl⟩ ⟨rfl, rfl, rfl⟩ (by decide) (fld_isZeroAsk_12 g) (load_one c_name _ Tryz.underlying9 rfl) a1 F1 m1 fun a2 F2 m2 e2 => ?_
    refine mids_next (l := 0) (e := 44) (u := .bool z_name) (gi := 38) (m := 41) rfl ⟨rfl, rfl⟩ (by decide) a2 F2 m2 (by have e' := eval_getD e2; go_simp) fun a4 F4 m4 e4 _ => ?_
    exact hk a4 F4 m4 e4
  clear G6 h6
  refine chain (gi := 43) (p := 45) (m := 46) (e := 49) (q := 50) (t := z_pat) (mids := [_, _, _]) rfl ⟨rfl, rfl, rfl⟩ ⟨rfl, rfl, rfl⟩ (by decide) G7 h7 (by
    intro o ho
    simp only [List.mem_cons, List.not_mem_nil, or_false] at ho
    rcases ho with rfl | rfl | rfl
    all_goals exact ⟨rfl, _, rfl, by decide, by decide⟩) (fun a1 F1 m1 hk => ?_) fun b8 G8 h8 => ?_
  · refine mids_load (v := (.string a.pat)) (f := 47) (l := 48) (i := 18) (off := 64) (g := g) (tail := _) (gi := 43) (m := 46) rfl ⟨rfl, rfl, rfl⟩ ⟨rfl, rfl, rfl⟩ (by decide) (fld_isZeroAsk_18 g) (load_one c_pat _ Tryz.underlying9 rfl) a1 F1 m1 fun a2 F2 m2 e2 => ?_
    refine mids_next (l := 0) (e := 49) (u := .bool z_pat) (gi := 43) (m := 46) rfl ⟨rfl, rfl⟩ (by decide) a2 F2 m2 (by have e' := eval_getD e2; go_simp) fun a4 F4 m4 e4 _ => ?_
    exact hk a4 F4 m4 e4
  clear G7 h7
  refine chain (gi := 48) (p := 50) (m := 51) (e := 54) (q := 55) (t := z_aft) (mids := [_, _, _]) rfl ⟨rfl, rfl, rfl⟩ ⟨rfl, rfl, rfl⟩ (by decide) G8 h8 (by
    intro o ho
    simp only [List.mem_cons, List.not_mem_nil, or_false] at ho
    rcases ho with rfl | rfl | rfl
    all_goals exact ⟨rfl, _, rfl, by decide, by decide⟩) (fun a1 F1 m1 hk => ?_) fun b9 G9 h9 => ?_
  · refine mids_load (v := (.string a.aft)) (f := 52) (l := 53) (i := 19) (off := 65) (g := g) (tail := _) (gi := 48) (m := 51) rfl ⟨rfl, rfl, rfl⟩ ⟨rfl, rfl, rfl⟩ (by decide) (fld_isZeroAsk_19 g) (load_one c_aft _ Tryz.underlying9 rfl) a1 F1 m1 fun a2 F2 m2 e2 => ?_
    refine mids_next (l := 0) (e := 54) (u := .bool z_aft) (gi := 48) (m := 51) rfl ⟨rfl, rfl⟩ (by decide) a2 F2 m2 (by have e' := eval_getD e2; go_simp) fun a4 F4 m4 e4 _ => ?_
    exact hk a4 F4 m4 e4
  clear G8 h8
  refine chain (gi := 53) (p := 55) (m := 56) (e := 59) (q := 60) (t := z_acc) (mids := [_, _, _]) rfl ⟨rfl, rfl, rfl⟩ ⟨rfl, rfl, rfl⟩ (by decide) G9 h9 (by
    intro o ho
    simp only [List.mem_cons, List.not_mem_nil, or_false] at ho
    rcases ho with rfl | rfl | rfl
    all_goals exact ⟨rfl, _, rfl, by decide, by decide⟩) (fun a1 F1 m1 hk => ?_) fun b10 G10 h10 => ?_
  · refine mids_load (v := (.int .u32 a.acc)) (f := 57) (l := 58) (i := 5) (off := 51) (g := g) (tail := _) (gi := 53) (m := 56) rfl ⟨rfl, rfl, rfl⟩ ⟨rfl, rfl, rfl⟩ (by decide) (fld_isZeroAsk_5 g) (load_one c_acc _ Tryz.underlying23 rfl) a1 F1 m1 fun a2 F2 m2 e2 => ?_
    refine mids_next (l := 0) (e := 59) (u := .bool z_acc) (gi := 53) (m := 56) rfl ⟨rfl, rfl⟩ (by decide) a2 F2 m2 (by have e' := eval_getD e2; go_simp) fun a4 F4 m4 e4 _ => ?_
    exact hk a4 F4 m4 e4
  clear G9 h9
  refine chain (gi := 58) (p := 60) (m := 61) (e := 64) (q := 65) (t := z_shr) (mids := [_, _, _]) rfl ⟨rfl, rfl, rfl⟩ ⟨rfl, rfl, rfl⟩ (by decide) G10 h10 (by
    intro o ho
    simp only [List.mem_cons, List.not_mem_nil, or_false] at ho
    rcases ho with rfl | rfl | rfl
    all_goals exact ⟨rfl, _, rfl, by decide, by decide⟩) (fun a1 F1 m1 hk => ?_) fun b11 G11 h11 => ?_
  · refine mids_load (v := (.int .u32 a.shr)) (f := 62) (l := 63) (i := 6) (off := 52) (g := g) (tail := _) (gi := 58) (m := 61) rfl ⟨rfl, rfl, rfl⟩ ⟨rfl, rfl, rfl⟩ (by decide) (fld_isZeroAsk_6 g) (load_one c_shr _ Tryz.underlying23 rfl) a1 F1 m1 fun a2 F2 m2 e2 => ?_
    refine mids_next (l := 0) (e := 64) (u := .bool z_shr) (gi := 58) (m := 61) rfl ⟨rfl, rfl⟩ (by decide) a2 F2 m2 (by have e' := eval_getD e2; go_simp) fun a4 F4 m4 e4 _ => ?_
    exact hk a4 F4 m4 e4
  clear G10 h10
  refine chain (gi := 63) (p := 65) (m := 66) (e := 69) (q := 70) (t := z_way) (mids := [_, _, _]) rfl ⟨rfl, rfl, rfl⟩ ⟨rfl, rfl, rfl⟩ (by decide) G11 h11 (by
    intro o ho
    simp only [List.mem_cons, List.not_mem_nil, or_false] at ho
    rcases ho with rfl | rfl | rfl
    all_goals exact ⟨rfl, _, rfl, by decide, by decide⟩) (fun a1 F1 m1 hk => ?_) fun b12 G12 h12 => ?_
  · refine mids_load (v := (.int .u32 a.way)) (f := 67) (l := 68) (i := 7) (off := 53) (g := g) (tail := _) (gi := 63) (m := 66) rfl ⟨rfl, rfl, rfl⟩ ⟨rfl, rfl, rfl⟩ (by decide) (fld_isZeroAsk_7 g) (load_one c_way _ Tryz.underlying23 rfl) a1 F1 m1 fun a2 F2 m2 e2 => ?_
    refine mids_next (l := 0) (e := 69) (u := .bool z_way) (gi := 63) (m := 66) rfl ⟨rfl, rfl⟩ (by decide) a2 F2 m2 (by have e' := eval_getD e2; go_simp) fun a4 F4 m4 e4 _ => ?_
    exact hk a4 F4 m4 e4
  clear G11 h11
  refine chain (gi := 68) (p := 70) (m := 71) (e := 74) (q := 75) (t := z_opt) (mids := [_, _, _]) rfl ⟨rfl, rfl, rfl⟩ ⟨rfl, rfl, rfl⟩ (by decide) G12 h12 (by
    intro o ho
    simp only [List.mem_cons, List.not_mem_nil, or_false] at ho
    rcases ho with rfl | rfl | rfl
    all_goals exact ⟨rfl, _, rfl, by decide, by decide⟩) (fun a1 F1 m1 hk => ?_) fun b13 G13 h13 => ?_
  · refine mids_load (v := (.int .u32 a.opt)) (f := 72) (l := 73) (i := 8) (off := 54) (g := g) (tail := _) (gi := 68) (m := 71) rfl ⟨rfl, rfl, rfl⟩ ⟨rfl, rfl, rfl⟩ (by decide) (fld_isZeroAsk_8 g) (load_one c_opt _ Tryz.underlying23 rfl) a1 F1 m1 fun a2 F2 m2 e2 => ?_
    refine mids_next (l := 0) (e := 74) (u := .bool z_opt) (gi := 68) (m := 71) rfl ⟨rfl, rfl⟩ (by decide) a2 F2 m2 (by have e' := eval_getD e2; go_simp) fun a4 F4 m4 e4 _ => ?_
    exact hk a4 F4 m4 e4
  clear G12 h12
  refine chain (gi := 73) (p := 75) (m := 76) (e := 79) (q := 80) (t := z_lev) (mids := [_, _, _]) rfl ⟨rfl, rfl, rfl⟩ ⟨rfl, rfl, rfl⟩ (by decide) G13 h13 (by
    intro o ho
    simp only [List.mem_cons, List.not_mem_nil, or_false] at ho
    rcases ho with rfl | rfl | rfl
    all_goals exact ⟨rfl, _, rfl, by decide, by decide⟩) (fun a1 F1 m1 hk => ?_) fun b14 G14 h14 => ?_
  · refine mids_load (v := (.int .u8 a.lev)) (f := 77) (l := 78) (i := 9) (off := 55) (g := g) (tail := _) (gi := 73) (m := 76) rfl ⟨rfl, rfl, rfl⟩ ⟨rfl, rfl, rfl⟩ (by decide) (fld_isZeroAsk_9 g) (load_one c_lev _ Tryz.underlying5 rfl) a1 F1 m1 fun a2 F2 m2 e2 => ?_
    refine mids_next (l := 0) (e := 79) (u := .bool z_lev) (gi := 73) (m := 76) rfl ⟨rfl, rfl⟩ (by decide) a2 F2 m2 (by have e' := eval_getD e2; go_simp) fun a4 F4 m4 e4 _ => ?_
    exact hk a4 F4 m4 e4
  clear G13 h13
  refine chain (gi := 78) (p := 80) (m := 81) (e := 84) (q := 85) (t := z_dur) (mids := [_, _, _]) rfl ⟨rfl, rfl, rfl⟩ ⟨rfl, rfl, rfl⟩ (by decide) G14 h14 (by
    intro o ho
    simp only [List.mem_cons, List.not_mem_nil, or_false] at ho
    rcases ho with rfl | rfl | rfl
    all_goals exact ⟨rfl, _, rfl, by decide, by decide⟩) (fun a1 F1 m1 hk => ?_) fun b15 G15 h15 => ?_
  · refine mids_load (v := (.int .u8 a.dur)) (f := 82) (l := 83) (i := 10) (off := 56) (g := g) (tail := _) (gi := 78) (m := 81) rfl ⟨rfl, rfl, rfl⟩ ⟨rfl, rfl, rfl⟩ (by decide) (fld_isZeroAsk_10 g) (load_one c_dur _ Tryz.underlying5 rfl) a1 F1 m1 fun a2 F2 m2 e2 => ?_
    refine mids_next (l := 0) (e := 84) (u := .bool z_dur) (gi := 78) (m := 81) rfl ⟨rfl, rfl⟩ (by decide) a2 F2 m2 (by have e' := eval_getD e2; go_simp) fun a4 F4 m4 e4 _ => ?_
    exact hk a4 F4 m4 e4
  clear G14 h14
  refine chain (gi := 83) (p := 85) (m := 86) (e := 89) (q := 90) (t := z_file) (mids := [_, _, _]) rfl ⟨rfl, rfl, rfl⟩ ⟨rfl, rfl, rfl⟩ (by decide) G15 h15 (by
    intro o ho
    simp only [List.mem_cons, List.not_mem_nil, or_false] at ho
    rcases ho with rfl | rfl | rfl
    all_goals exact ⟨rfl, _, rfl, by decide, by decide⟩) (fun a1 F1 m1 hk => ?_) fun b16 G16 h16 => ?_
  · refine mids_load (v := (.int .u64 a.file)) (f := 87) (l := 88) (i := 11) (off := 57) (g := g) (tail := _) (gi := 83) (m := 86) rfl ⟨rfl, rfl, rfl⟩ ⟨rfl, rfl, rfl⟩ (by decide) (fld_isZeroAsk_11 g) (load_one c_file _ Tryz.underlying25 rfl) a1 F1 m1 fun a2 F2 m2 e2 => ?_
    refine mids_next (l := 0) (e := 89) (u := .bool z_file) (gi := 83) (m := 86) rfl ⟨rfl, rfl⟩ (by decide) a2 F2 m2 (by have e' := eval_getD e2; go_simp) fun a4 F4 m4 e4 _ => ?_
    exact hk a4 F4 m4 e4
  clear G15 h15
  refine chain (gi := 88) (p := 90) (m := 91) (e := 94) (q := 95) (t := z_at_) (mids := [_, _, _]) rfl ⟨rfl, rfl, rfl⟩ ⟨rfl, rfl, rfl⟩ (by decide) G16 h16 (by
    intro o ho
    simp only [List.mem_cons, List.not_mem_nil, or_false] at ho
    rcases ho with rfl | rfl | rfl
    all_goals exact ⟨rfl, _, rfl, by decide, by decide⟩) (fun a1 F1 m1 hk => ?_) fun b17 G17 h17 => ?_
  · refine mids_load (v := (.int .u64 a.at_)) (f := 92) (l := 93) (i := 13) (off := 59) (g := g) (tail := _) (gi := 88) (m := 91) rfl ⟨rfl, rfl, rfl⟩ ⟨rfl, rfl, rfl⟩ (by decide) (fld_isZeroAsk_13 g) (load_one c_at_ _ Tryz.underlying25 rfl) a1 F1 m1 fun a2 F2 m2 e2 => ?_
    refine mids_next (l := 0) (e := 94) (u := .bool z_at_) (gi := 88) (m := 91) rfl ⟨rfl, rfl⟩ (by decide) a2 F2 m2 (by have e' := eval_getD e2; go_simp) fun a4 F4 m4 e4 _ => ?_
    exact hk a4 F4 m4 e4
  clear G16 h16
  refine chain (gi := 93) (p := 95) (m := 96) (e := 99) (q := 100) (t := z_n) (mids := [_, _, _]) rfl ⟨rfl, rfl, rfl⟩ ⟨rfl, rfl, rfl⟩ (by decide) G17 h17 (by
    intro o ho
    simp only [List.mem_cons, List.not_mem_nil, or_false] at ho
    rcases ho with rfl | rfl | rfl
    all_goals exact ⟨rfl, _, rfl, by decide, by decide⟩) (fun a1 F1 m1 hk => ?_) fun b18 G18 h18 => ?_
  · refine mids_load (v := (.int .u32 a.n)) (f := 97) (l := 98) (i := 14) (off := 60) (g := g) (tail := _) (gi := 93) (m := 96) rfl ⟨rfl, rfl, rfl⟩ ⟨rfl, rfl, rfl⟩ (by decide) (fld_isZeroAsk_14 g) (load_one c_n _ Tryz.underlying23 rfl) a1 F1 m1 fun a2 F2 m2 e2 => ?_
    refine mids_next (l := 0) (e := 99) (u := .bool z_n) (gi := 93) (m := 96) rfl ⟨rfl, rfl⟩ (by decide) a2 F2 m2 (by have e' := eval_getD e2; go_simp) fun a4 F4 m4 e4 _ => ?_
    exact hk a4 F4 m4 e4
  clear G17 h17
  refine chain (gi := 98) (p := 100) (m := 101) (e := 104) (q := 105) (t := z_most) (mids := [_, _, _]) rfl ⟨rfl, rfl, rfl⟩ ⟨rfl, rfl, rfl⟩ (by decide) G18 h18 (by
    intro o ho
    simp only [List.mem_cons, List.not_mem_nil, or_false] at ho
    rcases ho with rfl | rfl | rfl
    all_goals exact ⟨rfl, _, rfl, by decide, by decide⟩) (fun a1 F1 m1 hk => ?_) fun b19 G19 h19 => ?_
  · refine mids_load (v := (.int .u16 a.most)) (f := 102) (l := 103) (i := 17) (off := 63) (g := g) (tail := _) (gi := 98) (m := 101) rfl ⟨rfl, rfl, rfl⟩ ⟨rfl, rfl, rfl⟩ (by decide) (fld_isZeroAsk_17 g) (load_one c_most _ Tryz.underlying22 rfl) a1 F1 m1 fun a2 F2 m2 e2 => ?_
    refine mids_next (l := 0) (e := 104) (u := .bool z_most) (gi := 98) (m := 101) rfl ⟨rfl, rfl⟩ (by decide) a2 F2 m2 (by have e' := eval_getD e2; go_simp) fun a4 F4 m4 e4 _ => ?_
    exact hk a4 F4 m4 e4
  clear G18 h18
  refine chain (gi := 103) (p := 105) (m := 106) (e := 109) (q := 110) (t := z_cls) (mids := [_, _, _]) rfl ⟨rfl, rfl, rfl⟩ ⟨rfl, rfl, rfl⟩ (by decide) G19 h19 (by
    intro o ho
    simp only [List.mem_cons, List.not_mem_nil, or_false] at ho
    rcases ho with rfl | rfl | rfl
    all_goals exact ⟨rfl, _, rfl, by decide, by decide⟩) (fun a1 F1 m1 hk => ?_) fun b20 G20 h20 => ?_
  · refine mids_load (v := (.int .u16 a.cls)) (f := 107) (l := 108) (i := 20) (off := 66) (g := g) (tail := _) (gi := 103) (m := 106) rfl ⟨rfl, rfl, rfl⟩ ⟨rfl, rfl, rfl⟩ (by decide) (fld_isZeroAsk_20 g) (load_one c_cls _ Tryz.underlying22 rfl) a1 F1 m1 fun a2 F2 m2 e2 => ?_
    refine mids_next (l := 0) (e := 109) (u := .bool z_cls) (gi := 103) (m := 106) rfl ⟨rfl, rfl⟩ (by decide) a2 F2 m2 (by have e' := eval_getD e2; go_simp) fun a4 F4 m4 e4 _ => ?_
    exact hk a4 F4 m4 e4
  clear G19 h19
  refine chain (gi := 108) (p := 110) (m := 111) (e := 114) (q := 115) (t := z_siz) (mids := [_, _, _]) rfl ⟨rfl, rfl, rfl⟩ ⟨rfl, rfl, rfl⟩ (by decide) G20 h20 (by
    intro o ho
    simp only [List.mem_cons, List.not_mem_nil, or_false] at ho
    rcases ho with rfl | rfl | rfl
    all_goals exact ⟨rfl, _, rfl, by decide, by decide⟩) (fun a1 F1 m1 hk => ?_) fun b21 G21 h21 => ?_
  · refine mids_load (v := (.int .u64 a.siz)) (f := 112) (l := 113) (i := 21) (off := 67) (g := g) (tail := _) (gi := 108) (m := 111) rfl ⟨rfl, rfl, rfl⟩ ⟨rfl, rfl, rfl⟩ (by decide) (fld_isZeroAsk_21 g) (load_one c_siz _ Tryz.underlying25 rfl) a1 F1 m1 fun a2 F2 m2 e2 => ?_
    refine mids_next (l := 0) (e := 114) (u := .bool z_siz) (gi := 108) (m := 111) rfl ⟨rfl, rfl⟩ (by decide) a2 F2 m2 (by have e' := eval_getD e2; go_simp) fun a4 F4 m4 e4 _ => ?_
    exact hk a4 F4 m4 e4
  clear G20 h20
  refine chain (gi := 113) (p := 115) (m := 116) (e := 119) (q := 120) (t := z_on) (mids := [_, _, _]) rfl ⟨rfl, rfl, rfl⟩ ⟨rfl, rfl, rfl⟩ (by decide) G21 h21 (by
    intro o ho
    simp only [List.mem_cons, List.not_mem_nil, or_false] at ho
    rcases ho with rfl | rfl | rfl
    all_goals exact ⟨rfl, _, rfl, by decide, by decide⟩) (fun a1 F1 m1 hk => ?_) fun b22 G22 h22 => ?_
  · refine mids_load (v := (.bool a.on)) (f := 117) (l := 118) (i := 22) (off := 68) (g := g) (tail := _) (gi := 113) (m := 116) rfl ⟨rfl, rfl, rfl⟩ ⟨rfl, rfl, rfl⟩ (by decide) (fld_isZeroAsk_22 g) (load_one c_on _ Tryz.underlying4 rfl) a1 F1 m1 fun a2 F2 m2 e2 => ?_
    refine mids_next (l := 0) (e := 119) (u := .bool z_on) (gi := 113) (m := 116) rfl ⟨rfl, rfl⟩ (by decide) a2 F2 m2 (by have e' := eval_getD e2; go_simp) fun a4 F4 m4 e4 _ => ?_
    exact hk a4 F4 m4 e4
  clear G21 h21
  have HT1 := HT.out
  rw [HT1] at h22
  refine wpList_yields (v := .bool r) (yieldsIf_asg (by simp [Region.wanted]) (.tmp 120) rfl _ h22) ?_
  refine wpList_nil (hret _ _ (wp_ret ?_))
  have F9 := G22.put (d := 2) (v := .bool r) (by decide)
  refine bodyPost_ret (results_tmp rfl _ _ _) F9.df ?_
  refine ⟨?_, L1.out⟩
  have e9 : (b22.put (some 2) (.bool r)).eval (.tmp 2) = .bool r := put_self (by rw [G22.size]; decide)
  exact congrArg Ending.returned e9
set_option maxHeartbeats 4000000 in
theorem isZeroSay_any (w : World) (cs : List Value) (a : SayV) (ka : a.ok) (ha : SayIs w w.heap.size cs a) :
    Calls Tryz.prog 148 #[.agg cs.toArray] w fun e w' => e = .returned (.bool (decide (a = zeroSay))) ∧ Below w.heap.size w w' := by
  have HL := Lib.hid (ha.len ka)
  obtain ⟨X1, X2, X3, E1, E2, E3, rfl, h_X, h_E⟩ := ha
  have l_X := h_X.len
  have l_E := h_E.len
  have HT : Hid ((((((((((((((a.data.length == 0) && (a.ents.length == 0)) && (decide (a.chal = List.replicate 8 0))) && (a.dia == 0)) && (a.siz == 0)) && (a.lev == 0)) && (a.dur == 0)) && (a.made == 0)) && (a.file == 0)) && (a.kind == 0)) && (a.n == 0)) && (!a.more)) && (!a.gone)) = decide (a = zeroSay)) := by
    show _ = _
    rw [Bool.eq_iff_iff, decide_eq_true_iff, zeroSay_iff]
    simp only [Bool.and_eq_true, beq_iff_eq, decide_eq_true_iff, Bool.not_eq_true', List.length_eq_zero_iff, and_assoc]
  have FA : Hid (∀ (w : World) (g : Nat), Blk w g 39 (scells (.slice X1 X2 X3) (.slice E1 E2 E3) a) → w.cell? ⟨g, 0, none⟩ = some (.int .u16 a.dia) ∧ w.cell? ⟨g, 1, none⟩ = some (.int .u64 a.siz) ∧ w.cell? ⟨g, 10, none⟩ = some (.int .u8 a.lev) ∧ w.cell? ⟨g, 11, none⟩ = some (.int .u8 a.dur) ∧ w.cell? ⟨g, 12, none⟩ = some (.int .u16 a.made) ∧ w.cell? ⟨g, 13, none⟩ = some (.int .u64 a.file) ∧ w.cell? ⟨g, 14, none⟩ = some (.int .u8 a.kind) ∧ w.cell? ⟨g, 15, none⟩ = some (.slice X1 X2 X3) ∧ w.cell? ⟨g, 16, none⟩ = some (.int .u32 a.n) ∧ w.cell? ⟨g, 17, none⟩ = some (.slice E1 E2 E3) ∧ w.cell? ⟨g, 18, none⟩ = some (.bool a.more) ∧ w.cell? ⟨g, 19, none⟩ = some (.bool a.gone)) := fun w g h =>
    ⟨h.at rfl, h.at rfl, h.at (scells_get ka 0), h.at (scells_get ka 1), h.at (scells_get ka 2), h.at (scells_get ka 3), h.at (scells_get ka 4), h.at (scells_get ka 5), h.at (scells_get ka 6), h.at (scells_get ka 7), h.at (scells_get ka 8), h.at (scells_get ka 9)⟩
  have R_chal : Hid (∀ (w : World) (g : Nat), Blk w g 39 (scells (.slice X1 X2 X3) (.slice E1 E2 E3) a) → w.rangeAt g 2 (a.chal.map (Value.int .u8))) := fun w g h => scells_chal h ka
  have N_chal : Hid ((a.chal.map (Value.int .u8)).length = 8) := by show _ = _; rw [List.length_map]; exact ka.clen
  have q_chal : ∀ w : World, (Op.equalIn 10000 35 (.agg (a.chal.map (Value.int .u8)).toArray) (.agg ((List.replicate 8 (0 : Int)).map (Value.int .u8)).toArray)).run Tryz.prog w = .ok (decide (a.chal = List.replicate 8 0)) w := fun w => run_equalIn_arr3 Tryz.underlying35 Tryz.underlying5 size_u8e _ _ ka.clen (by simp) _ w
  obtain ⟨z_data, k_data⟩ : ∃ z, (a.data.length == 0) = z := ⟨_, rfl⟩
  obtain ⟨z_ents, k_ents⟩ : ∃ z, (a.ents.length == 0) = z := ⟨_, rfl⟩
  obtain ⟨z_chal, k_chal⟩ : ∃ z, (decide (a.chal = List.replicate 8 0)) = z := ⟨_, rfl⟩
  obtain ⟨z_dia, k_dia⟩ : ∃ z, (a.dia == 0) = z := ⟨_, rfl⟩
  obtain ⟨z_siz, k_siz⟩ : ∃ z, (a.siz == 0) = z := ⟨_, rfl⟩
  obtain ⟨z_lev, k_lev⟩ : ∃ z, (a.lev == 0) = z := ⟨_, rfl⟩
  obtain ⟨z_dur, k_dur⟩ : ∃ z, (a.dur == 0) = z := ⟨_, rfl⟩
  obtain ⟨z_made, k_made⟩ : ∃ z, (a.made == 0) = z := ⟨_, rfl⟩
  obtain ⟨z_file, k_file⟩ : ∃ z, (a.file == 0) = z := ⟨_, rfl⟩
  obtain ⟨z_kind, k_kind⟩ : ∃ z, (a.kind == 0) = z := ⟨_, rfl⟩
  obtain ⟨z_n, k_n⟩ : ∃ z, (a.n == 0) = z := ⟨_, rfl⟩
  obtain ⟨z_more, k_more⟩ : ∃ z, (!a.more) = z := ⟨_, rfl⟩
  obtain ⟨z_gone, k_gone⟩ : ∃ z, (!a.gone) = z := ⟨_, rfl⟩
  rw [k_data, k_ents, k_chal, k_dia, k_siz, k_lev, k_dur, k_made, k_file, k_kind, k_n, k_more, k_gone] at HT
  rw [l_X] at k_data
  have kk_data : ((X2 : Int) == 0) = z_data := by rw [← k_data]; rw [Bool.eq_iff_iff]; simp
  rw [l_E] at k_ents
  have kk_ents : ((E2 : Int) == 0) = z_ents := by rw [← k_ents]; rw [Bool.eq_iff_iff]; simp
  rw [k_chal] at q_chal
  obtain ⟨y_chal, hy⟩ : ∃ y, y = ((List.replicate 8 (0 : Int)).map (Value.int .u8)).toArray := ⟨_, rfl⟩
  rw [← hy] at q_chal
  have bt_chal : Tryz.prog.built 35 [] = some y_chal := by rw [hy]; exact built_chal
  clear hy
  obtain ⟨r, hr⟩ : ∃ r, r = decide (a = zeroSay) := ⟨_, rfl⟩
  rw [← hr] at HT ⊢
  obtain ⟨cs, hcs⟩ : ∃ c, c = scells (.slice X1 X2 X3) (.slice E1 E2 E3) a := ⟨_, rfl⟩
  rw [← hcs] at FA HL R_chal ⊢
  clear hr hcs h_X h_E
  go_enter Tryz.func148, Tryz.ntmps148
  go_upto_region 1 with (first
    | ((with_reducible show wpList _ _ _ (⟨some 1, _, _, _, _, _⟩ :: _) _ _); refine wpList_box_blk rfl _ (.tmp 0) rfl cs rfl ?_; intro g w1 hg1 hg2 K1 L1)
    | fail)
  rename_i hret
  simp only [List.append_eq, List.cons_append, List.nil_append]
  refine wp_region_lit ?_
  have HK := K1
  obtain ⟨c_dia, c_siz, c_lev, c_dur, c_made, c_file, c_kind, c_data, c_n, c_ents, c_more, c_gone⟩ := FA.out _ _ K1.out
  have r_chal := R_chal.out _ _ K1.out
  refine wpList_abs (N := 69) (x0 := 1) (pv := .pointer (some ⟨g, 0, none⟩)) ⟨rfl, rfl, rfl⟩ fun a0 F0 => ?_
  refine head_load (v := (.slice X1 X2 X3)) (f := 3) (l := 4) (i := 8) (off := 15) (g := g) ⟨rfl, rfl, rfl⟩ ⟨rfl, rfl, rfl⟩ (by decide) (fld_isZeroSay_8 g) (load_one c_data _ Tryz.underlying31 rfl) a0 F0 fun a1 F1 e1 => ?_
  refine head_next (e := 5) (u := .int .i64 (X2 : Int)) ⟨rfl, rfl⟩ (by decide) a1 F1 (by have e' := eval_getD e1; go_simp) fun a2 F2 e2 => ?_
  refine head_next (e := 6) (u := .bool z_data) ⟨rfl, rfl⟩ (by decide) a2 F2 (by have e' := eval_getD e2; go_simp) fun b0 G0 h0 => ?_
  clear F0 F1 F2 e1 e2
  refine chain (gi := 4) (p := 6) (m := 7) (e := 11) (q := 12) (t := z_ents) (mids := [_, _, _, _]) rfl ⟨rfl, rfl, rfl⟩ ⟨rfl, rfl, rfl⟩ (by decide) G0 h0 (by
    intro o ho
    simp only [List.mem_cons, List.not_mem_nil, or_false] at ho
    rcases ho with rfl | rfl | rfl | rfl
    all_goals exact ⟨rfl, _, rfl, by decide, by decide⟩) (fun a1 F1 m1 hk => ?_) fun b1 G1 h1 => ?_
  · refine mids_load (v := (.slice E1 E2 E3)) (f := 8) (l := 9) (i := 10) (off := 17) (g := g) (tail := _) (gi := 4) (m := 7) rfl ⟨rfl, rfl, rfl⟩ ⟨rfl, rfl, rfl⟩ (by decide) (fld_isZeroSay_10 g) (load_one c_ents _ Tryz.underlying37 rfl) a1 F1 m1 fun a2 F2 m2 e2 => ?_
    refine mids_next (l := 0) (e := 10) (u := .int .i64 (E2 : Int)) (gi := 4) (m := 7) rfl ⟨rfl, rfl⟩ (by decide) a2 F2 m2 (by have e' := eval_getD e2; go_simp) fun a3 F3 m3 e3 _ => ?_
    refine mids_next (l := 0) (e := 11) (u := .bool z_ents) (gi := 4) (m := 7) rfl ⟨rfl, rfl⟩ (by decide) a3 F3 m3 (by have e' := eval_getD e3; go_simp) fun a4 F4 m4 e4 _ => ?_
    exact hk a4 F4 m4 e4
  refine chain (gi := 10) (p := 12) (m := 13) (e := 17) (q := 18) (t := z_chal) (mids := [_, _, _, _]) rfl ⟨rfl, rfl, rfl⟩ ⟨rfl, rfl, rfl⟩ (by decide) G1 h1 (by
    intro o ho
    simp only [List.mem_cons, List.not_mem_nil, or_false] at ho
    rcases ho with rfl | rfl | rfl | rfl
    all_goals exact ⟨rfl, _, rfl, by decide, by decide⟩) (fun a1 F1 m1 hk => ?_) fun b2 G2 h2 => ?_
  · refine mids_load (v := (.agg (a.chal.map (Value.int .u8)).toArray)) (f := 14) (l := 15) (i := 2) (off := 2) (g := g) (tail := _) (gi := 10) (m := 13) rfl ⟨rfl, rfl, rfl⟩ ⟨rfl, rfl, rfl⟩ (by decide) (fld_isZeroSay_2 g) (load_mid_run r_chal Tryz.underlying35 rfl (by rw [size_chal, N_chal.out])) a1 F1 m1 fun a2 F2 m2 e2 => ?_
    refine mids_next (l := 0) (e := 16) (u := .agg y_chal) (gi := 10) (m := 13) rfl ⟨rfl, rfl⟩ (by decide) a2 F2 m2 (build_run rfl bt_chal) fun a3 F3 m3 e3 o3 => ?_
    have e2' := (o3 15 (by decide)).trans e2
    refine mids_next (l := 0) (e := 17) (u := .bool z_chal) (gi := 10) (m := 13) rfl ⟨rfl, rfl⟩ (by decide) a3 F3 m3 (by have e' := eval_getD e2'; have e'' := eval_getD e3; have qg := guard_chal; go_simp) fun a4 F4 m4 e4 _ => ?_
    exact hk a4 F4 m4 e4
  clear G1 h1
  refine chain (gi := 16) (p := 18) (m := 19) (e := 22) (q := 23) (t := z_dia) (mids := [_, _, _]) rfl ⟨rfl, rfl, rfl⟩ ⟨rfl, rfl, rfl⟩ (by decide) G2 h2 (by
    intro o ho
    simp only [List.mem_cons, List.not_mem_nil, or_false] at ho
    rcases ho with rfl | rfl | rfl
    all_goals exact ⟨rfl, _, rfl, by decide, by decide⟩) (fun a1 F1 m1 hk => ?_) fun b3 G3 h3 => ?_
  · refine mids_load (v := (.int .u16 a.dia)) (f := 20) (l := 21) (i := 0) (off := 0) (g := g) (tail := _) (gi := 16) (m := 19) rfl ⟨rfl, rfl, rfl⟩ ⟨rfl, rfl, rfl⟩ (by decide) (fld_isZeroSay_0 g) (load_one c_dia _ Tryz.underlying22 rfl) a1 F1 m1 fun a2 F2 m2 e2 => ?_
    refine mids_next (l := 0) (e := 22) (u := .bool z_dia) (gi := 16) (m := 19) rfl ⟨rfl, rfl⟩ (by decide) a2 F2 m2 (by have e' := eval_getD e2; go_simp) fun a4 F4 m4 e4 _ => ?_
    exact hk a4 F4 m4 e4
  clear G2 h2
  refine chain (gi := 21) (p := 23) (m := 24) (e := 27) (q := 28) (t := z_siz) (mids := [_, _, _]) rfl ⟨rfl, rfl, rfl⟩ ⟨rfl, rfl, rfl⟩ (by decide) G3 h3 (by
    intro o ho
    simp only [List.mem_cons, List.not_mem_nil, or_false] at ho
    rcases ho with rfl | rfl | rfl
    all_goals exact ⟨rfl, _, rfl, by decide, by decide⟩) (fun a1 F1 m1 hk => ?_) fun b4 G4 h4 => ?_
  · refine mids_load (v := (.int .u64 a.siz)) (f := 25) (l := 26) (i := 1) (off := 1) (g := g) (tail := _) (gi := 21) (m := 24) rfl ⟨rfl, rfl, rfl⟩ ⟨rfl, rfl, rfl⟩ (by decide) (fld_isZeroSay_1 g) (load_one c_siz _ Tryz.underlying25 rfl) a1 F1 m1 fun a2 F2 m2 e2 => ?_
    refine mids_next (l := 0) (e := 27) (u := .bool z_siz) (gi := 21) (m := 24) rfl ⟨rfl, rfl⟩ (by decide) a2 F2 m2 (by have e' := eval_getD e2; go_simp) fun a4 F4 m4 e4 _ => ?_
    exact hk a4 F4 m4 e4
  clear G3 h3
  refine chain (gi := 26) (p := 28) (m := 29) (e := 32) (q := 33) (t := z_lev) (mids := [_, _, _]) rfl ⟨rfl, rfl, rfl⟩ ⟨rfl, rfl, rfl⟩ (by decide) G4 h4 (by
    intro o ho
    simp only [List.mem_cons, List.not_mem_nil, or_false] at ho
    rcases ho with rfl | rfl | rfl
    all_goals exact ⟨rfl, _, rfl, by decide, by decide⟩) (fun a1 F1 m1 hk => ?_) fun b5 G5 h5 => ?_
  · refine mids_load (v := (.int .u8 a.lev)) (f := 30) (l := 31) (i := 3) (off := 10) (g := g) (tail := _) (gi := 26) (m := 29) rfl ⟨rfl, rfl, rfl⟩ ⟨rfl, rfl, rfl⟩ (by decide) (fld_isZeroSay_3 g) (load_one c_lev _ Tryz.underlying5 rfl) a1 F1 m1 fun a2 F2 m2 e2 => ?_
    refine mids_next (l := 0) (e := 32) (u := .bool z_lev) (gi := 26) (m := 29) rfl ⟨rfl, rfl⟩ (by decide) a2 F2 m2 (by have e' := eval_getD e2; go_simp) fun a4 F4 m4 e4 _ => ?_
    exact hk a4 F4 m4 e4
  clear G4 h4
  refine chain (gi := 31) (p := 33) (m := 34) (e := 37) (q := 38) (t := z_dur) (mids := [_, _, _]) rfl ⟨rfl, rfl, rfl⟩ ⟨rfl, rfl, rfl⟩ (by decide) G5 h5 (by
    intro o ho
    simp only [List.mem_cons, List.not_mem_nil, or_false] at ho
    rcases ho with rfl | rfl | rfl
    all_goals exact ⟨rfl, _, rfl, by decide, by decide⟩) (fun a1 F1 m1 hk => ?_) fun b6 G6 h6 => ?_
  · refine mids_load (v := (.int .u8 a.dur)) (f := 35) (l := 36) (i := 4) (off := 11) (g := g) (tail := _) (gi := 31) (m := 34) rfl ⟨rfl, rfl, rfl⟩ ⟨rfl, rfl, rfl⟩ (by decide) (fld_isZeroSay_4 g) (load_one c_dur _ Tryz.underlying5 rfl) a1 F1 m1 fun a2 F2 m2 e2 => ?_
    refine mids_next (l := 0) (e := 37) (u := .bool z_dur) (gi := 31) (m := 34) rfl ⟨rfl, rfl⟩ (by decide) a2 F2 m2 (by have e' := eval_getD e2; go_simp) fun a4 F4 m4 e4 _ => ?_
    exact hk a4 F4 m4 e4
  clear G5 h5
  refine chain (gi := 36) (p := 38) (m := 39) (e := 42) (q := 43) (t := z_made) (mids := [_, _, _]) rfl ⟨rfl, rfl, rfl⟩ ⟨rfl, rfl, rfl⟩ (by decide) G6 h6 (by
    intro o ho
    simp only [List.mem_cons, List.not_mem_nil, or_false] at ho
    rcases ho with rfl | rfl | rfl
    all_goals exact ⟨rfl, _, rfl, by decide, by decide⟩) (fun a1 F1 m1 hk => ?_) fun b7 G7 h7 => ?_
  · refine mids_load (v := (.int .u16 a.made)) (f := 40) (l := 41) (i := 5) (off := 12) (g := g) (tail := _) (gi := 36) (m := 39) rfl ⟨rfl, rfl, rfl⟩ ⟨rfl, rfl, rfl⟩ (by decide) (fld_isZeroSay_5 g) (load_one c_made _ Tryz.underlying22 rfl) a1 F1 m1 fun a2 F2 m2 e2 => ?_
    refine mids_next (l := 0) (e := 42) (u := .bool z_made) (gi := 36) (m := 39) rfl ⟨rfl, rfl⟩ (by decide) a2 F2 m2 (by have e' := eval_getD e2; go_simp) fun a4 F4 m4 e4 _ => ?_
    exact hk a4 F4 m4 e4
  clear G6 h6
  refine chain (gi := 41) (p := 43) (m := 44) (e := 47) (q := 48) (t := z_file) (mids := [_, _, _]) rfl ⟨rfl, rfl, rfl⟩ ⟨rfl, rfl, rfl⟩ (by decide) G7 h7 (by
    intro o ho
    simp only [List.mem_cons, List.not_mem_nil, or_false] at ho
    rcases ho with rfl | rfl | rfl
    all_goals exact ⟨rfl, _, rfl, by decide, by decide⟩) (fun a1 F1 m1 hk => ?_) fun b8 G8 h8 => ?_
  · refine mids_load (v := (.int .u64 a.file)) (f := 45) (l := 46) (i := 6) (off := 13) (g := g) (tail := _) (gi := 41) (m := 44) rfl ⟨rfl, rfl, rfl⟩ ⟨rfl, rfl, rfl⟩ (by decide) (fld_isZeroSay_6 g) (load_one c_file _ Tryz.underlying25 rfl) a1 F1 m1 fun a2 F2 m2 e2 => ?_
    refine mids_next (l := 0) (e := 47) (u := .bool z_file) (gi := 41) (m := 44) rfl ⟨rfl, rfl⟩ (by decide) a2 F2 m2 (by have e' := eval_getD e2; go_simp) fun a4 F4 m4 e4 _ => ?_
    exact hk a4 F4 m4 e4
  clear G7 h7
  refine chain (gi := 46) (p := 48) (m := 49) (e := 52) (q := 53) (t := z_kind) (mids := [_, _, _]) rfl ⟨rfl, rfl, rfl⟩ ⟨rfl, rfl, rfl⟩ (by decide) G8 h8 (by
    intro o ho
    simp only [List.mem_cons, List.not_mem_nil, or_false] at ho
    rcases ho with rfl | rfl | rfl
    all_goals exact ⟨rfl, _, rfl, by decide, by decide⟩) (fun a1 F1 m1 hk => ?_) fun b9 G9 h9 => ?_
  · refine mids_load (v := (.int .u8 a.kind)) (f := 50) (l := 51) (i := 7) (off := 14) (g := g) (tail := _) (gi := 46) (m := 49) rfl ⟨rfl, rfl, rfl⟩ ⟨rfl, rfl, rfl⟩ (by decide) (fld_isZeroSay_7 g) (load_one c_kind _ Tryz.underlying36 rfl) a1 F1 m1 fun a2 F2 m2 e2 => ?_
    refine mids_next (l := 0) (e := 52) (u := .bool z_kind) (gi := 46) (m := 49) rfl ⟨rfl, rfl⟩ (by decide) a2 F2 m2 (by have e' := eval_getD e2; go_simp) fun a4 F4 m4 e4 _ => ?_
    exact hk a4 F4 m4 e4
  clear G8 h8
  refine chain (gi := 51) (p := 53) (m := 54) (e := 57) (q := 58) (t := z_n) (mids := [_, _, _]) rfl ⟨rfl, rfl, rfl⟩ ⟨rfl, rfl, rfl⟩ (by decide) G9 h9 (by
    intro o ho
    simp only [List.mem_cons, List.not_mem_nil, or_false] at ho
    rcases ho with rfl | rfl | rfl
    all_goals exact ⟨rfl, _, rfl, by decide, by decide⟩) (fun a1 F1 m1 hk => ?_) fun b10 G10 h10 => ?_
  · refine mids_load (v := (.int .u32 a.n)) (f := 55) (l := 56) (i := 9) (off := 16) (g := g) (tail := _) (gi := 51) (m := 54) rfl ⟨rfl, rfl, rfl⟩ ⟨rfl, rfl, rfl⟩ (by decide) (fld_isZeroSay_9 g) (load_one c_n _ Tryz.underlying23 rfl) a1 F1 m1 fun a2 F2 m2 e2 => ?_
    refine mids_next (l := 0) (e := 57) (u := .bool z_n) (gi := 51) (m := 54) rfl ⟨rfl, rfl⟩ (by decide) a2 F2 m2 (by have e' := eval_getD e2; go_simp) fun a4 F4 m4 e4 _ => ?_
    exact hk a4 F4 m4 e4
  clear G9 h9
  refine chain (gi := 56) (p := 58) (m := 59) (e := 62) (q := 63) (t := z_more) (mids := [_, _, _]) rfl ⟨rfl, rfl, rfl⟩ ⟨rfl, rfl, rfl⟩ (by decide) G10 h10 (by
    intro o ho
    simp only [List.mem_cons, List.not_mem_nil, or_false] at ho
    rcases ho with rfl | rfl | rfl
    all_goals exact ⟨rfl, _, rfl, by decide, by decide⟩) (fun a1 F1 m1 hk => ?_) fun b11 G11 h11 => ?_
  · refine mids_load (v := (.bool a.more)) (f := 60) (l := 61) (i := 11) (off := 18) (g := g) (tail := _) (gi := 56) (m := 59) rfl ⟨rfl, rfl, rfl⟩ ⟨rfl, rfl, rfl⟩ (by decide) (fld_isZeroSay_11 g) (load_one c_more _ Tryz.underlying4 rfl) a1 F1 m1 fun a2 F2 m2 e2 => ?_
    refine mids_next (l := 0) (e := 62) (u := .bool z_more) (gi := 56) (m := 59) rfl ⟨rfl, rfl⟩ (by decide) a2 F2 m2 (by have e' := eval_getD e2; go_simp) fun a4 F4 m4 e4 _ => ?_
    exact hk a4 F4 m4 e4
  clear G10 h10
  refine chain (gi := 61) (p := 63) (m := 64) (e := 67) (q := 68) (t := z_gone) (mids := [_, _, _]) rfl ⟨rfl, rfl, rfl⟩ ⟨rfl, rfl, rfl⟩ (by decide) G11 h11 (by
    intro o ho
    simp only [List.mem_cons, List.not_mem_nil, or_false] at ho
    rcases ho with rfl | rfl | rfl
    all_goals exact ⟨rfl, _, rfl, by decide, by decide⟩) (fun a1 F1 m1 hk => ?_) fun b12 G12 h12 => ?_
  · refine mids_load (v := (.bool a.gone)) (f := 65) (l := 66) (i := 12) (off := 19) (g := g) (tail := _) (gi := 61) (m := 64) rfl ⟨rfl, rfl, rfl⟩ ⟨rfl, rfl, rfl⟩ (by decide) (fld_isZeroSay_12 g) (load_one c_gone _ Tryz.underlying4 rfl) a1 F1 m1 fun a2 F2 m2 e2 => ?_
    refine mids_next (l := 0) (e := 67) (u := .bool z_gone) (gi := 61) (m := 64) rfl ⟨rfl, rfl⟩ (by decide) a2 F2 m2 (by have e' := eval_getD e2; go_simp) fun a4 F4 m4 e4 _ => ?_
    exact hk a4 F4 m4 e4
  clear G11 h11
  have HT1 := HT.out
  rw [HT1] at h12
  refine wpList_yields (v := .bool r) (yieldsIf_asg (by simp [Region.wanted]) (.tmp 68) rfl _ h12) ?_
  refine wpList_nil (hret _ _ (wp_ret ?_))
  have F9 := G12.put (d := 2) (v := .bool r) (by decide)
  refine bodyPost_ret (results_tmp rfl _ _ _) F9.df ?_
  refine ⟨?_, L1.out⟩
  have e9 : (b12.put (some 2) (.bool r)).eval (.tmp 2) = .bool r := put_self (by rw [G12.size]; decide)
  exact congrArg Ending.returned e9
end Go.Proofs.YtpodpmckdiijhaaGreatDoor

namespace Go.Proofs.YtpodpmckdiijhaaGreatDoor
set_option linter.all false
open Go.RowKit
theorem World.setCells_only (g : Nat) : ∀ (vs : List Value) (o : Nat) (w : World), Only g w (w.setCells g o vs)
  | [], _, w => Only.refl g w
  | v :: r, o, w => by
    have h1 := only_setCell w g o v
    have h2 := World.setCells_only g r (o + 1) (w.setCell ⟨g, o, none⟩ v)
    exact ⟨h2.os.trans h1.os, h2.tape.trans h1.tape, h2.output.trans h1.output, h2.size.trans h1.size, fun i hi => (h2.rest i hi).trans (h1.rest i hi)⟩
theorem Blk.setCells {g : Nat} {T : TypeId} : ∀ (vs : List Value) (o : Nat) (w : World) (cs : List Value), Blk w g T cs → o + vs.length ≤ cs.length → Blk (w.setCells g o vs) g T (cs.take o ++ (vs ++ cs.drop (o + vs.length)))
  | [], o, w, cs, h, _ => by
    show Blk w g T _
    rw [List.nil_append, List.length_nil, Nat.add_zero, List.take_append_drop]
    exact h
  | v :: r, o, w, cs, h, hl => by
    have hl' : o + 1 + r.length ≤ cs.length := by simp at hl; omega
    have h1 := h.set o v
    have h2 := Blk.setCells r (o + 1) _ _ h1 (by rw [List.length_set]; exact hl')
    have e : (cs.set o v).take (o + 1) ++ (r ++ (cs.set o v).drop (o + 1 + r.length)) = cs.take o ++ ((v :: r) ++ cs.drop (o + (v :: r).length)) := by
      have ho : o < cs.length := by omega
      have e1 : (cs.set o v).take (o + 1) = cs.take o ++ [v] := by
        rw [List.take_succ_eq_append_getElem (by rw [List.length_set]; exact ho), List.take_set_of_le (Nat.le_refl o)]
        simp
      have e2 : (cs.set o v).drop (o + 1 + r.length) = cs.drop (o + (v :: r).length) := by
        rw [List.drop_set_of_lt (by omega), List.length_cons]
        congr 1
        omega
      rw [e1, e2]
      simp
    rw [e] at h2
    exact h2
section
variable {P : Program} {ops : Array Oper} {rest : List Oper} {o : Oper} {a : Act} {w : World} {Q : Exit → Act → World → Prop}
theorem there_blk {g : Nat} {T : TypeId} {cs : List Value} (h : Blk w g T cs) (i n : Nat) (hn : i + n ≤ cs.length) : w.there g i n := fun j hj => by
  refine ⟨?_, h.frozen _⟩
  rw [h.cell]
  have : i + j < cs.length := by omega
  simp [this]
/-- an array into the midst -/
theorem wpList_store_midb (hgd : o.guard = none) (ty : TypeId) (x y : Operand) (ho : o.op = .store ty x y) (g i : Nat) (hx : a.eval x = .pointer (some ⟨g, i, none⟩)) (T : TypeId) (cs vs : List Value) (hy : a.eval y = .agg vs.toArray)
    (hA : Hid (Blk w g T cs)) (n : Nat) (hi : (P.info? ty).map (·.size) = some n) (hn : Hid (vs.length = n)) (hl : Hid (i + n ≤ cs.length)) (h1 : Hid (∀ v ∈ vs, v.oneCell' = true))
    (h : ∀ w', Hid (Blk w' g T (cs.take i ++ (vs ++ cs.drop (i + n)))) → Hid (Only g w w') → g < w'.heap.size → wpList P ops Q rest a w') (hd : o.dst = none := by rfl) : wpList P ops Q (o :: rest) a w := by
  have hp : a.put o.dst undef = a := by rw [hd]; rfl
  have hnn := hn.out
  refine wpList_store_mid hgd ty x y ho g i vs.toArray hx hy (there_blk hA.out i _ (by have := hl.out; simp; omega)) (by rw [hi]; simp [hnn]) (all_oneCell_toArray h1.out) ?_
  rw [hp]
  have hb := Blk.setCells vs i w cs hA.out (by have := hl.out; omega)
  rw [hnn] at hb
  have hO := World.setCells_only g vs i w
  refine h _ hb hO ?_
  have := hO.size
  rw [show (w.setCells g i vs.toArray.toList) = w.setCells g i vs from rfl, this]
  exact hA.out.lt
/-- one cell, as a step of a region that draws its order -/
theorem step_store_fld {K : Act → World → Prop} {E : Prop} (hg : o.guard = none) (T : TypeId) (x y : Operand) (ho : o.op = .store T x y) (g i : Nat) (hx : a.eval x = .pointer (some ⟨g, i, none⟩)) (T' : TypeId) (cs : List Value) (u : Value) (hy : a.eval y = u)
    (hA : Hid (Blk w g T' cs)) (hi : Hid (i < cs.length)) (hs : (P.info? T).map (·.size) = some 1) (h1 : u.oneCell' = true)
    (h : ∀ w', Hid (Blk w' g T' (cs.set i u)) → Hid (Only g w w') → g < w'.heap.size → K (a.put o.dst undef) w') :
    if Region.wanted o (yielded ops a.tmps) = true then Oper.wp P o a w K Q else E := by
  have hw : Region.wanted o (yielded ops a.tmps) = true := by simp [Region.wanted, hg]
  rw [if_pos hw]
  unfold Oper.wp execOp
  simp only [ho, hx, hy, Instr.storeAt, Instr.sureAddr, Sem.run_bind, Sem.run_pure, Result.andThen_ok, run_storeVar_fld w g i T' T cs u hA.out hi.out hs h1]
  refine h _ (hA.out.set i u) (only_setCell w g i u) ?_
  have := (only_setCell w g i u).size
  rw [this]
  exact hA.out.lt
end
/-- the whole of a variable out of its block, where the operation's guard is met -/
theorem wpList_load_want {P : Program} {ops : Array Oper} {rest : List Oper} {o : Oper} {a : Act} {w : World} {Q : Exit → Act → World → Prop} (hw : Region.wanted o (yielded ops a.tmps) = true) (T : TypeId) (x : Operand) (ho : o.op = .load T x) (g : Nat) (hx : a.eval x = .pointer (some ⟨g, 0, none⟩)) (T' : TypeId) (cs : List Value)
    (hA : Hid (Blk w g T' cs)) (n : Nat) (d : TypeDesc) (hu : P.underlying T = some d) (hd : (match d with | .struct _ | .array _ _ => true | _ => false) = true) (hi : (P.info? T).map (·.size) = some n) (hn : Hid (cs.length = n))
    (h : wpList P ops Q rest (a.put o.dst (.agg cs.toArray)) w) : wpList P ops Q (o :: rest) a w :=
  wpList_step fun K hK => by
    rw [if_pos hw]
    exact wp_load_row T x ho g hx T' _ (0, 0) d hA.out hu hd (by rw [hi]; have := hn.out; simp [this]) (hK _ _ h)
end Go.Proofs.YtpodpmckdiijhaaGreatDoor

namespace Go.Proofs.YtpodpmckdiijhaaGreatDoor
set_option linter.all false
open Go.RowKit
def pick (d : Nat × Nat) : Int × Nat := if d.1 = 65533 ∧ d.2 = 1 then (0, 0) else ((d.1 : Int), d.2)
end Go.Proofs.YtpodpmckdiijhaaGreatDoor

namespace Go.Proofs.YtpodpmckdiijhaaGreatDoor
set_option linter.all false
open Go.RowKit
theorem OwnK.holds {w : World} {base : Nat} {v : Value} {xs : List Int} (h : OwnK .u8 5 w base v xs) (hx : Bytes xs) (hn : xs.length ≤ 281474976710656) :
    ∃ A c, v = .slice A xs.length c ∧ Holds w w.heap.size A xs.length c xs := Own.holds (base := base) h hx hn
end Go.Proofs.YtpodpmckdiijhaaGreatDoor

namespace Go.Proofs.YtpodpmckdiijhaaGreatDoor
set_option linter.all false
open Go.RowKit
/-- two places of a row of bytes, as they are read -/
theorem Holds.two {w : World} {B n c : Nat} {A : Option Addr} {xs : List Int} (h : Holds w B A n c xs) {k : Nat} (hk : k < n) :
    ∃ b off, A = some ⟨b, off, none⟩ ∧ b < B ∧ ∀ i, i < n → w.cell? ⟨b, off + i, none⟩ = some (.int .u8 (xs.getD i 0)) := h.cells (by omega)
end Go.Proofs.YtpodpmckdiijhaaGreatDoor

namespace Go.Proofs.YtpodpmckdiijhaaGreatDoor
set_option linter.all false
open Go.RowKit
set_option linter.unusedVariables false
def knownT (c : Int) : Bool := decide (c ≤ 4) || c == 13
end Go.Proofs.YtpodpmckdiijhaaGreatDoor

namespace Go.Proofs.YtpodpmckdiijhaaGreatDoor
set_option linter.all false
open Go.RowKit
set_option linter.unusedVariables false
set_option maxRecDepth 100000
theorem results_cell_two {P : Program} {fn : Func} {p q : Tmp} {ty : TypeId} (h : fn.results = #[.cell p ty, .tmp q]) (tmps : Array Value) (w : World) (g : Nat) (t : TypeId) (cs : Array Value) (fr : Nat × Nat) (d : TypeDesc)
    (hp : tmps.getD p undef = .pointer (some ⟨g, 0, none⟩)) (hg : w.heap[g]? = some (.cells cs t fr))
    (hu : P.underlying ty = some d) (hd : (match d with | .struct _ | .array _ _ => true | _ => false) = true) (hi : (P.info? ty).map (·.size) = some cs.size) {v : Value} (hv : tmps.getD q undef = v) :
    (results fn tmps).run P w = .ok (.tuple #[.agg cs, v]) w := by
  have hp' : tmps[p]?.getD undef = .pointer (some ⟨g, 0, none⟩) := by simpa using hp
  have hv' : tmps[q]?.getD undef = v := by simpa using hv
  simp [results, h, hp', hv', asAddr, run_loadVar_row w g t ty cs fr d hg hu hd hi]
def besideAsk (c : Int) (a : AskV) : AskV := if c = 0 then { a with dial := [], guid := List.replicate 16 0 } else if c = 1 then { a with proof := List.replicate 32 0, user := .empty } else if c = 3 then { a with share := .empty } else a
def besideSay (c : Int) (s : SayV) : SayV := if c = 0 then { s with dia := 0, siz := 0, chal := List.replicate 8 0 } else s
theorem besideAsk_ok {c : Int} {a : AskV} (k : a.ok) : (besideAsk c a).ok := by
  unfold besideAsk
  split
  · exact ⟨fun x h => (by cases h), rfl, Bytes.zeros 16, k.plen, k.pbyte, k.acc, k.shr, k.way, k.opt, k.lev, k.dur, k.file, k.at_, k.n, k.data, k.locks, k.most, k.cls, k.siz⟩
  · split
    · exact ⟨k.dial, k.glen, k.gbyte, rfl, Bytes.zeros 32, k.acc, k.shr, k.way, k.opt, k.lev, k.dur, k.file, k.at_, k.n, k.data, k.locks, k.most, k.cls, k.siz⟩
    · split
      · exact ⟨k.dial, k.glen, k.gbyte, k.plen, k.pbyte, k.acc, k.shr, k.way, k.opt, k.lev, k.dur, k.file, k.at_, k.n, k.data, k.locks, k.most, k.cls, k.siz⟩
      · exact k
theorem besideSay_ok {c : Int} {s : SayV} (k : s.ok) : (besideSay c s).ok := by
  unfold besideSay
  split
  · exact ⟨by show (0 : Int) ≤ 0 ∧ (0 : Int) ≤ 65535; decide, by show (0 : Int) ≤ 0 ∧ (0 : Int) ≤ 18446744073709551615; decide, rfl, Bytes.zeros 8, k.lev, k.dur, k.made, k.file, k.kind, k.data, k.n, k.ents⟩
  · exact k
section
variable {vd vx vl ve : Value} {a : AskV} {s : SayV}
theorem acells_dial (u : Value) (xs : List Int) : (acells vd vx vl a).set 0 u = acells u vx vl { a with dial := xs } := rfl
theorem acells_guidS (k : a.ok) (xs : List Int) : (acells vd vx vl a).take 1 ++ (xs.map (Value.int .u8) ++ (acells vd vx vl a).drop (1 + 16)) = acells vd vx vl { a with guid := xs } := by
  unfold acells
  rw [show 1 + 16 = 16 + 1 from rfl, List.drop_succ_cons, List.drop_left' (by rw [List.length_map]; exact k.glen)]
  rfl
theorem acells_proofS (k : a.ok) (xs : List Int) : (acells vd vx vl a).take 17 ++ (xs.map (Value.int .u8) ++ (acells vd vx vl a).drop (17 + 32)) = acells vd vx vl { a with proof := xs } := by
  unfold acells
  rw [show 17 + 32 = 48 + 1 from rfl, List.drop_succ_cons, show 17 = 16 + 1 from rfl, List.take_succ_cons, List.take_left' (by rw [List.length_map]; exact k.glen), show 48 = 16 + 32 from rfl, ← List.drop_drop, List.drop_left' (by rw [List.length_map]; exact k.glen), List.drop_left' (by rw [List.length_map]; exact k.plen)]
  simp [atail]
theorem acells_user (k : a.ok) (u : ByteArray) : (acells vd vx vl a).set 49 (.string u) = acells vd vx vl { a with user := u } := (acells_set k 0 (.string u)).trans rfl
theorem acells_share (k : a.ok) (u : ByteArray) : (acells vd vx vl a).set 50 (.string u) = acells vd vx vl { a with share := u } := (acells_set k 1 (.string u)).trans rfl
theorem scells_dia (x : Int) : (scells vx ve s).set 0 (.int .u16 x) = scells vx ve { s with dia := x } := rfl
theorem scells_siz (x : Int) : (scells vx ve s).set 1 (.int .u64 x) = scells vx ve { s with siz := x } := rfl
theorem scells_chalS (k : s.ok) (xs : List Int) : (scells vx ve s).take 2 ++ (xs.map (Value.int .u8) ++ (scells vx ve s).drop (2 + 8)) = scells vx ve { s with chal := xs } := by
  unfold scells
  rw [show 2 + 8 = 8 + 1 + 1 from rfl, List.drop_succ_cons, List.drop_succ_cons, List.drop_left' (by rw [List.length_map]; exact k.clen)]
  rfl
end
def askBesidePost (w : World) (c : Int) (a : AskV) (e : Ending) (w' : World) : Prop := ∃ ds, e = .returned (.tuple #[.agg ds.toArray, .bool (knownT c)]) ∧ AskIs w' w'.heap.size ds (if knownT c = true then besideAsk c a else zeroAsk) ∧ Below w.heap.size w w'
set_option maxHeartbeats 4000000 in
theorem askBeside_any (w : World) (c : Int) (cs : List Value) (a : AskV) (hc : 0 ≤ c ∧ c ≤ 65535) (ka : a.ok) (ha : AskIs w w.heap.size cs a) :
    Calls Tryz.prog 138 #[.int .u16 c, .agg cs.toArray] w (askBesidePost w c a) := by
  have HL := Lib.hid (ha.len ka)
  have HO1 := Lib.hid ha.one
  have ZH := Lib.hid zero_ask
  have BZ := built_ask
  have HZ : Hid ((acells (.slice none 0 0) (.slice none 0 0) (.slice none 0 0) zeroAsk).length = 69) := acells_len zeroAsk_ok
  have HZ1 : Hid (∀ v ∈ acells (.slice none 0 0) (.slice none 0 0) (.slice none 0 0) zeroAsk, v.oneCell' = true) := (zeroAsk_is w 0).one
  have HA := Lib.hid ha
  have HQ : Hid (∀ e w', (∃ ds, e = .returned (.tuple #[.agg ds.toArray, .bool (knownT c)]) ∧ AskIs w' w'.heap.size ds (if knownT c = true then besideAsk c a else zeroAsk) ∧ Below w.heap.size w w') → askBesidePost w c a e w') := fun _ _ h => h
  obtain ⟨zs, hzs⟩ : ∃ zs, zs = acells (.slice none 0 0) (.slice none 0 0) (.slice none 0 0) zeroAsk := ⟨_, rfl⟩
  have HZI : Hid (∀ w' : World, AskIs w' w'.heap.size zs zeroAsk) := by rw [hzs]; exact fun w' => zeroAsk_is w' _
  rw [← hzs] at ZH BZ HZ HZ1
  clear hzs
  by_cases h0 : c = 0
  · subst h0
    have e0 : (if knownT 0 = true then besideAsk 0 a else zeroAsk) = { a with dial := [], guid := List.replicate 16 0 } := rfl
    rw [e0, show knownT 0 = true from rfl] at HQ
    clear e0
    obtain ⟨A1, A2, A3, X1, X2, X3, M1, M2, M3, rfl, hA, hX, hM⟩ := ha
    have HI : Hid (∀ w' : World, Below w.heap.size w w' → AskIs w' w'.heap.size (acells (.slice none 0 0) (.slice X1 X2 X3) (.slice M1 M2 M3) { a with dial := [], guid := List.replicate 16 0 }) ({ a with dial := [], guid := List.replicate 16 0 })) := fun w' hb => ⟨none, 0, 0, X1, X2, X3, M1, M2, M3, rfl, HoldsF.nil _ _ _, hX.over hb, hM.over hb⟩
    have HN : Hid ((acells (.slice none 0 0) (.slice X1 X2 X3) (.slice M1 M2 M3) { a with dial := [], guid := List.replicate 16 0 }).length = 69) := acells_len (by have := besideAsk_ok (c := 0) ka; exact this)
    have HN1 : Hid (∀ v ∈ acells (.slice none 0 0) (.slice X1 X2 X3) (.slice M1 M2 M3) { a with dial := [], guid := List.replicate 16 0 }, v.oneCell' = true) := acells_one rfl rfl rfl
    have HE0 : Hid ((acells (.slice A1 A2 A3) (.slice X1 X2 X3) (.slice M1 M2 M3) a).set 0 (.slice none 0 0) = acells (.slice none 0 0) (.slice X1 X2 X3) (.slice M1 M2 M3) { a with dial := [] }) := acells_dial _ []
    have HE1 : Hid ((acells (.slice none 0 0) (.slice X1 X2 X3) (.slice M1 M2 M3) { a with dial := [] }).take 1 ++ ((List.replicate 16 (0 : Int)).map (Value.int .u8) ++ (acells (.slice none 0 0) (.slice X1 X2 X3) (.slice M1 M2 M3) { a with dial := [] }).drop (1 + 16)) = acells (.slice none 0 0) (.slice X1 X2 X3) (.slice M1 M2 M3) { a with dial := [], guid := List.replicate 16 0 }) := acells_guidS (a := { a with dial := [] }) ⟨fun x h => (by cases h), ka.glen, ka.gbyte, ka.plen, ka.pbyte, ka.acc, ka.shr, ka.way, ka.opt, ka.lev, ka.dur, ka.file, ka.at_, ka.n, ka.data, ka.locks, ka.most, ka.cls, ka.siz⟩ (List.replicate 16 0)
    have HN0 : Hid (0 < (acells (.slice A1 A2 A3) (.slice X1 X2 X3) (.slice M1 M2 M3) a).length) := by show _ < _; simp [acells, atail, ka.glen, ka.plen]
    have HF : Hid (1 + 16 ≤ (acells (.slice none 0 0) (.slice X1 X2 X3) (.slice M1 M2 M3) { a with dial := [] }).length) := by show _ ≤ _; simp [acells, atail, ka.glen, ka.plen]
    have HLZ : Hid (((List.replicate 16 (0 : Int)).map (Value.int .u8)).length = 16) := by show _ = _; simp
    have OZ : Hid (∀ v ∈ (List.replicate 16 (0 : Int)).map (Value.int .u8), v.oneCell' = true) := fun v hv => mem_nums hv
    have BL := built_guid
    obtain ⟨lz, hlz⟩ : ∃ z, z = (List.replicate 16 (0 : Int)).map (Value.int .u8) := ⟨_, rfl⟩
    rw [← hlz] at HLZ OZ BL HE1
    clear hlz
    obtain ⟨cs, hcs⟩ : ∃ c, c = acells (.slice A1 A2 A3) (.slice X1 X2 X3) (.slice M1 M2 M3) a := ⟨_, rfl⟩
    rw [← hcs] at HL HO1 HE0 HN0 ⊢
    clear hcs HA hA hX hM
    obtain ⟨d0, hd0⟩ : ∃ c, c = acells (.slice none 0 0) (.slice X1 X2 X3) (.slice M1 M2 M3) { a with dial := [] } := ⟨_, rfl⟩
    rw [← hd0] at HE0 HE1 HF
    clear hd0
    obtain ⟨d1, hd1⟩ : ∃ c, c = acells (.slice none 0 0) (.slice X1 X2 X3) (.slice M1 M2 M3) { a with dial := [], guid := List.replicate 16 0 } := ⟨_, rfl⟩
    rw [← hd1] at HE1 HI HN HN1
    clear hd1
    go_enter Tryz.func138, Tryz.ntmps138
    go_wp2_with (first
      | ((with_reducible show wpList _ _ _ (⟨some 3, _, _, _, _, _⟩ :: _) _ _); refine wpList_box_blk rfl _ (.tmp 1) rfl cs rfl ?_; intro g w1 hg1 hg2 K1 L1)
      | ((with_reducible show wpList _ _ _ (⟨some 4, _, _, _, _, _⟩ :: _) _ _); refine wpList_alloc_blk rfl _ rfl zs _ ZH ?_; intro h w2 hg3 hg4 Z2 L02; have G2 := Lib.hid (K1.out.over L02.out); have L2 := Lib.hid (step L1.out L02.out); have hgh : g ≠ h := (by omega); have hhw : w.heap.size ≤ h := (by have := L1.out.size; omega))
      | ((with_reducible show wpList _ _ _ (⟨none, .store _ (.tmp 11) _, _, _, _, _⟩ :: _) _ _); refine wpList_store_fld rfl _ (.tmp 11) (.const (.slice none 0 0)) rfl g 0 rfl _ cs (.slice none 0 0) rfl G2 HN0 (by kernel_rfl) rfl ?_; intro w3 K3 O3 q3; rw [HE0.out] at K3; have Z3 := Lib.hid (Z2.out.only O3.out (Ne.symm hgh)); have L3 : Hid (Below w.heap.size w w3) := below_only L2.out O3.out hg1)
      | ((with_reducible show wpList _ _ _ (⟨none, .store _ (.tmp 12) _, _, _, _, _⟩ :: _) _ _); refine wpList_store_midb rfl _ (.tmp 12) (.tmp 10) rfl g 1 rfl _ d0 lz rfl K3 16 size_guid HLZ HF OZ ?_; intro w4 K4 O4 q4; rw [HE1.out] at K4; have Z4 := Lib.hid (Z3.out.only O4.out (Ne.symm hgh)); have L4 : Hid (Below w.heap.size w w4) := below_only L3.out O4.out hg1)
      | ((with_reducible show wpList _ _ _ (⟨some 10, _, _, _, _, _⟩ :: _) _ _); refine wpList_build_none rfl _ rfl lz BL ?_)
      | ((with_reducible show wpList _ _ _ (⟨some 25, _, _, _, _, _⟩ :: _) _ _); refine wpList_load_blk rfl _ (.tmp 3) rfl g rfl _ d1 K4 69 _ Tryz.underlying34 rfl size_ask HN ?_)
      | ((with_reducible show wpList _ _ _ (⟨none, .store _ (.tmp 4) _, _, _, _, _⟩ :: _) _ _); refine wpList_store_blk rfl _ (.tmp 4) (.tmp 25) rfl h rfl _ zs d1 rfl Z4 69 size_ask HZ HN HN1 ?_; intro w9 K9 O9 hg9)
      | fail)
    have L9 := Lib.hid (below_only L4.out O9.out hhw)
    refine bodyPost_ret (v := .tuple #[.agg d1.toArray, .bool true]) ?_ rfl (HQ.out _ _ ⟨_, rfl, HI.out w9 L9.out, L9.out⟩)
    exact results_cell_two rfl _ _ h _ _ (0, 0) _ rfl K9.out Tryz.underlying34 rfl (by rw [size_ask]; have := HN.out; simp [this]) rfl
  by_cases h1 : c = 1
  · subst h1
    have e0 : (if knownT 1 = true then besideAsk 1 a else zeroAsk) = { a with proof := List.replicate 32 0, user := .empty } := rfl
    rw [e0, show knownT 1 = true from rfl] at HQ
    clear e0
    obtain ⟨A1, A2, A3, X1, X2, X3, M1, M2, M3, rfl, hA, hX, hM⟩ := ha
    have HI : Hid (∀ w' : World, Below w.heap.size w w' → AskIs w' w'.heap.size (acells (.slice A1 A2 A3) (.slice X1 X2 X3) (.slice M1 M2 M3) { a with proof := List.replicate 32 0, user := .empty }) ({ a with proof := List.replicate 32 0, user := .empty })) := fun w' hb => ⟨A1, A2, A3, X1, X2, X3, M1, M2, M3, rfl, hA.over hb, hX.over hb, hM.over hb⟩
    have HN : Hid ((acells (.slice A1 A2 A3) (.slice X1 X2 X3) (.slice M1 M2 M3) { a with proof := List.replicate 32 0, user := .empty }).length = 69) := acells_len (by have := besideAsk_ok (c := 1) ka; exact this)
    have HN1 : Hid (∀ v ∈ acells (.slice A1 A2 A3) (.slice X1 X2 X3) (.slice M1 M2 M3) { a with proof := List.replicate 32 0, user := .empty }, v.oneCell' = true) := acells_one rfl rfl rfl
    have HE0 : Hid ((acells (.slice A1 A2 A3) (.slice X1 X2 X3) (.slice M1 M2 M3) a).take 17 ++ ((List.replicate 32 (0 : Int)).map (Value.int .u8) ++ (acells (.slice A1 A2 A3) (.slice X1 X2 X3) (.slice M1 M2 M3) a).drop (17 + 32)) = acells (.slice A1 A2 A3) (.slice X1 X2 X3) (.slice M1 M2 M3) { a with proof := List.replicate 32 0 }) := acells_proofS ka (List.replicate 32 0)
    have HE1 : Hid ((acells (.slice A1 A2 A3) (.slice X1 X2 X3) (.slice M1 M2 M3) { a with proof := List.replicate 32 0 }).set 49 (.string .empty) = acells (.slice A1 A2 A3) (.slice X1 X2 X3) (.slice M1 M2 M3) { a with proof := List.replicate 32 0, user := .empty }) := acells_user (a := { a with proof := List.replicate 32 0 }) ⟨ka.dial, ka.glen, ka.gbyte, rfl, Bytes.zeros 32, ka.acc, ka.shr, ka.way, ka.opt, ka.lev, ka.dur, ka.file, ka.at_, ka.n, ka.data, ka.locks, ka.most, ka.cls, ka.siz⟩ .empty
    have HF : Hid (17 + 32 ≤ (acells (.slice A1 A2 A3) (.slice X1 X2 X3) (.slice M1 M2 M3) a).length) := by show _ ≤ _; simp [acells, atail, ka.glen, ka.plen]
    have HN0 : Hid (49 < (acells (.slice A1 A2 A3) (.slice X1 X2 X3) (.slice M1 M2 M3) { a with proof := List.replicate 32 0 }).length) := by show _ < _; simp [acells, atail, ka.glen]
    have HLZ : Hid (((List.replicate 32 (0 : Int)).map (Value.int .u8)).length = 32) := by show _ = _; simp
    have OZ : Hid (∀ v ∈ (List.replicate 32 (0 : Int)).map (Value.int .u8), v.oneCell' = true) := fun v hv => mem_nums hv
    have BL := built_proof
    obtain ⟨lz, hlz⟩ : ∃ z, z = (List.replicate 32 (0 : Int)).map (Value.int .u8) := ⟨_, rfl⟩
    rw [← hlz] at HLZ OZ BL HE0
    clear hlz
    obtain ⟨cs, hcs⟩ : ∃ c, c = acells (.slice A1 A2 A3) (.slice X1 X2 X3) (.slice M1 M2 M3) a := ⟨_, rfl⟩
    rw [← hcs] at HL HO1 HE0 HF ⊢
    clear hcs HA hA hX hM
    obtain ⟨d0, hd0⟩ : ∃ c, c = acells (.slice A1 A2 A3) (.slice X1 X2 X3) (.slice M1 M2 M3) { a with proof := List.replicate 32 0 } := ⟨_, rfl⟩
    rw [← hd0] at HE0 HE1 HN0
    clear hd0
    obtain ⟨d1, hd1⟩ : ∃ c, c = acells (.slice A1 A2 A3) (.slice X1 X2 X3) (.slice M1 M2 M3) { a with proof := List.replicate 32 0, user := .empty } := ⟨_, rfl⟩
    rw [← hd1] at HE1 HI HN HN1
    clear hd1
    go_enter Tryz.func138, Tryz.ntmps138
    go_wp2_with (first
      | ((with_reducible show wpList _ _ _ (⟨some 3, _, _, _, _, _⟩ :: _) _ _); refine wpList_box_blk rfl _ (.tmp 1) rfl cs rfl ?_; intro g w1 hg1 hg2 K1 L1)
      | ((with_reducible show wpList _ _ _ (⟨some 4, _, _, _, _, _⟩ :: _) _ _); refine wpList_alloc_blk rfl _ rfl zs _ ZH ?_; intro h w2 hg3 hg4 Z2 L02; have G2 := Lib.hid (K1.out.over L02.out); have L2 := Lib.hid (step L1.out L02.out); have hgh : g ≠ h := (by omega); have hhw : w.heap.size ≤ h := (by have := L1.out.size; omega))
      | ((with_reducible show wpList _ _ _ (⟨none, .store _ (.tmp 16) _, _, _, _, _⟩ :: _) _ _); refine wpList_store_midb rfl _ (.tmp 16) (.tmp 15) rfl g 17 rfl _ cs lz rfl G2 32 size_proof HLZ HF OZ ?_; intro w3 K3 O3 q3; rw [HE0.out] at K3; have Z3 := Lib.hid (Z2.out.only O3.out (Ne.symm hgh)); have L3 : Hid (Below w.heap.size w w3) := below_only L2.out O3.out hg1)
      | ((with_reducible show wpList _ _ _ (⟨none, .store _ (.tmp 17) _, _, _, _, _⟩ :: _) _ _); refine wpList_store_fld rfl _ (.tmp 17) (.const (.string .empty)) rfl g 49 rfl _ d0 (.string .empty) rfl K3 HN0 (by kernel_rfl) rfl ?_; intro w4 K4 O4 q4; rw [HE1.out] at K4; have Z4 := Lib.hid (Z3.out.only O4.out (Ne.symm hgh)); have L4 : Hid (Below w.heap.size w w4) := below_only L3.out O4.out hg1)
      | ((with_reducible show wpList _ _ _ (⟨some 15, _, _, _, _, _⟩ :: _) _ _); refine wpList_build_none rfl _ rfl lz BL ?_)
      | ((with_reducible show wpList _ _ _ (⟨some 25, _, _, _, _, _⟩ :: _) _ _); refine wpList_load_blk rfl _ (.tmp 3) rfl g rfl _ d1 K4 69 _ Tryz.underlying34 rfl size_ask HN ?_)
      | ((with_reducible show wpList _ _ _ (⟨none, .store _ (.tmp 4) _, _, _, _, _⟩ :: _) _ _); refine wpList_store_blk rfl _ (.tmp 4) (.tmp 25) rfl h rfl _ zs d1 rfl Z4 69 size_ask HZ HN HN1 ?_; intro w9 K9 O9 hg9)
      | fail)
    have L9 := Lib.hid (below_only L4.out O9.out hhw)
    refine bodyPost_ret (v := .tuple #[.agg d1.toArray, .bool true]) ?_ rfl (HQ.out _ _ ⟨_, rfl, HI.out w9 L9.out, L9.out⟩)
    exact results_cell_two rfl _ _ h _ _ (0, 0) _ rfl K9.out Tryz.underlying34 rfl (by rw [size_ask]; have := HN.out; simp [this]) rfl
  by_cases h3 : c = 3
  · subst h3
    have e0 : (if knownT 3 = true then besideAsk 3 a else zeroAsk) = { a with share := .empty } := rfl
    rw [e0, show knownT 3 = true from rfl] at HQ
    clear e0
    obtain ⟨A1, A2, A3, X1, X2, X3, M1, M2, M3, rfl, hA, hX, hM⟩ := ha
    have HI : Hid (∀ w' : World, Below w.heap.size w w' → AskIs w' w'.heap.size (acells (.slice A1 A2 A3) (.slice X1 X2 X3) (.slice M1 M2 M3) { a with share := .empty }) ({ a with share := .empty })) := fun w' hb => ⟨A1, A2, A3, X1, X2, X3, M1, M2, M3, rfl, hA.over hb, hX.over hb, hM.over hb⟩
    have HN : Hid ((acells (.slice A1 A2 A3) (.slice X1 X2 X3) (.slice M1 M2 M3) { a with share := .empty }).length = 69) := acells_len (by have := besideAsk_ok (c := 3) ka; exact this)
    have HN1 : Hid (∀ v ∈ acells (.slice A1 A2 A3) (.slice X1 X2 X3) (.slice M1 M2 M3) { a with share := .empty }, v.oneCell' = true) := acells_one rfl rfl rfl
    have HE0 : Hid ((acells (.slice A1 A2 A3) (.slice X1 X2 X3) (.slice M1 M2 M3) a).set 50 (.string .empty) = acells (.slice A1 A2 A3) (.slice X1 X2 X3) (.slice M1 M2 M3) { a with share := .empty }) := acells_share ka .empty
    have HN0 : Hid (50 < (acells (.slice A1 A2 A3) (.slice X1 X2 X3) (.slice M1 M2 M3) a).length) := by show _ < _; simp [acells, atail, ka.glen, ka.plen]
    obtain ⟨cs, hcs⟩ : ∃ c, c = acells (.slice A1 A2 A3) (.slice X1 X2 X3) (.slice M1 M2 M3) a := ⟨_, rfl⟩
    rw [← hcs] at HL HO1 HE0 HN0 ⊢
    clear hcs HA hA hX hM
    obtain ⟨d0, hd0⟩ : ∃ c, c = acells (.slice A1 A2 A3) (.slice X1 X2 X3) (.slice M1 M2 M3) { a with share := .empty } := ⟨_, rfl⟩
    rw [← hd0] at HE0 HI HN HN1
    clear hd0
    go_enter Tryz.func138, Tryz.ntmps138
    go_wp2_with (first
      | ((with_reducible show wpList _ _ _ (⟨some 3, _, _, _, _, _⟩ :: _) _ _); refine wpList_box_blk rfl _ (.tmp 1) rfl cs rfl ?_; intro g w1 hg1 hg2 K1 L1)
      | ((with_reducible show wpList _ _ _ (⟨some 4, _, _, _, _, _⟩ :: _) _ _); refine wpList_alloc_blk rfl _ rfl zs _ ZH ?_; intro h w2 hg3 hg4 Z2 L02; have G2 := Lib.hid (K1.out.over L02.out); have L2 := Lib.hid (step L1.out L02.out); have hgh : g ≠ h := (by omega); have hhw : w.heap.size ≤ h := (by have := L1.out.size; omega))
      | ((with_reducible show wpList _ _ _ (⟨none, .store _ (.tmp 20) _, _, _, _, _⟩ :: _) _ _); refine wpList_store_fld rfl _ (.tmp 20) (.const (.string .empty)) rfl g 50 rfl _ cs (.string .empty) rfl G2 HN0 (by kernel_rfl) rfl ?_; intro w3 K3 O3 q3; rw [HE0.out] at K3; have Z3 := Lib.hid (Z2.out.only O3.out (Ne.symm hgh)); have L3 : Hid (Below w.heap.size w w3) := below_only L2.out O3.out hg1)
      | ((with_reducible show wpList _ _ _ (⟨some 25, _, _, _, _, _⟩ :: _) _ _); refine wpList_load_blk rfl _ (.tmp 3) rfl g rfl _ d0 K3 69 _ Tryz.underlying34 rfl size_ask HN ?_)
      | ((with_reducible show wpList _ _ _ (⟨none, .store _ (.tmp 4) _, _, _, _, _⟩ :: _) _ _); refine wpList_store_blk rfl _ (.tmp 4) (.tmp 25) rfl h rfl _ zs d0 rfl Z3 69 size_ask HZ HN HN1 ?_; intro w9 K9 O9 hg9)
      | fail)
    have L9 := Lib.hid (below_only L3.out O9.out hhw)
    refine bodyPost_ret (v := .tuple #[.agg d0.toArray, .bool true]) ?_ rfl (HQ.out _ _ ⟨_, rfl, HI.out w9 L9.out, L9.out⟩)
    exact results_cell_two rfl _ _ h _ _ (0, 0) _ rfl K9.out Tryz.underlying34 rfl (by rw [size_ask]; have := HN.out; simp [this]) rfl
  by_cases h2 : c = 2
  · subst h2
    have e0 : (if knownT 2 = true then besideAsk 2 a else zeroAsk) = a := rfl
    rw [e0, show knownT 2 = true from rfl] at HQ
    clear e0
    obtain ⟨A1, A2, A3, X1, X2, X3, M1, M2, M3, rfl, hA, hX, hM⟩ := ha
    have HI : Hid (∀ w' : World, Below w.heap.size w w' → AskIs w' w'.heap.size (acells (.slice A1 A2 A3) (.slice X1 X2 X3) (.slice M1 M2 M3) a) (a)) := fun w' hb => ⟨A1, A2, A3, X1, X2, X3, M1, M2, M3, rfl, hA.over hb, hX.over hb, hM.over hb⟩
    have HN : Hid ((acells (.slice A1 A2 A3) (.slice X1 X2 X3) (.slice M1 M2 M3) a).length = 69) := acells_len (ka)
    have HN1 : Hid (∀ v ∈ acells (.slice A1 A2 A3) (.slice X1 X2 X3) (.slice M1 M2 M3) a, v.oneCell' = true) := acells_one rfl rfl rfl
    obtain ⟨cs, hcs⟩ : ∃ c, c = acells (.slice A1 A2 A3) (.slice X1 X2 X3) (.slice M1 M2 M3) a := ⟨_, rfl⟩
    rw [← hcs] at HL HO1 HI HN HN1 ⊢
    clear hcs HA hA hX hM
    go_enter Tryz.func138, Tryz.ntmps138
    go_wp2_with (first
      | ((with_reducible show wpList _ _ _ (⟨some 3, _, _, _, _, _⟩ :: _) _ _); refine wpList_box_blk rfl _ (.tmp 1) rfl cs rfl ?_; intro g w1 hg1 hg2 K1 L1)
      | ((with_reducible show wpList _ _ _ (⟨some 4, _, _, _, _, _⟩ :: _) _ _); refine wpList_alloc_blk rfl _ rfl zs _ ZH ?_; intro h w2 hg3 hg4 Z2 L02; have G2 := Lib.hid (K1.out.over L02.out); have L2 := Lib.hid (step L1.out L02.out); have hgh : g ≠ h := (by omega); have hhw : w.heap.size ≤ h := (by have := L1.out.size; omega))
      | ((with_reducible show wpList _ _ _ (⟨some 25, _, _, _, _, _⟩ :: _) _ _); refine wpList_load_blk rfl _ (.tmp 3) rfl g rfl _ cs G2 69 _ Tryz.underlying34 rfl size_ask HN ?_)
      | ((with_reducible show wpList _ _ _ (⟨none, .store _ (.tmp 4) _, _, _, _, _⟩ :: _) _ _); refine wpList_store_blk rfl _ (.tmp 4) (.tmp 25) rfl h rfl _ zs cs rfl Z2 69 size_ask HZ HN HN1 ?_; intro w9 K9 O9 hg9)
      | fail)
    have L9 := Lib.hid (below_only L2.out O9.out hhw)
    refine bodyPost_ret (v := .tuple #[.agg cs.toArray, .bool true]) ?_ rfl (HQ.out _ _ ⟨_, rfl, HI.out w9 L9.out, L9.out⟩)
    exact results_cell_two rfl _ _ h _ _ (0, 0) _ rfl K9.out Tryz.underlying34 rfl (by rw [size_ask]; have := HN.out; simp [this]) rfl
  by_cases h4 : c = 4
  · subst h4
    have e0 : (if knownT 4 = true then besideAsk 4 a else zeroAsk) = a := rfl
    rw [e0, show knownT 4 = true from rfl] at HQ
    clear e0
    obtain ⟨A1, A2, A3, X1, X2, X3, M1, M2, M3, rfl, hA, hX, hM⟩ := ha
    have HI : Hid (∀ w' : World, Below w.heap.size w w' → AskIs w' w'.heap.size (acells (.slice A1 A2 A3) (.slice X1 X2 X3) (.slice M1 M2 M3) a) (a)) := fun w' hb => ⟨A1, A2, A3, X1, X2, X3, M1, M2, M3, rfl, hA.over hb, hX.over hb, hM.over hb⟩
    have HN : Hid ((acells (.slice A1 A2 A3) (.slice X1 X2 X3) (.slice M1 M2 M3) a).length = 69) := acells_len (ka)
    have HN1 : Hid (∀ v ∈ acells (.slice A1 A2 A3) (.slice X1 X2 X3) (.slice M1 M2 M3) a, v.oneCell' = true) := acells_one rfl rfl rfl
    obtain ⟨cs, hcs⟩ : ∃ c, c = acells (.slice A1 A2 A3) (.slice X1 X2 X3) (.slice M1 M2 M3) a := ⟨_, rfl⟩
    rw [← hcs] at HL HO1 HI HN HN1 ⊢
    clear hcs HA hA hX hM
    go_enter Tryz.func138, Tryz.ntmps138
    go_wp2_with (first
      | ((with_reducible show wpList _ _ _ (⟨some 3, _, _, _, _, _⟩ :: _) _ _); refine wpList_box_blk rfl _ (.tmp 1) rfl cs rfl ?_; intro g w1 hg1 hg2 K1 L1)
      | ((with_reducible show wpList _ _ _ (⟨some 4, _, _, _, _, _⟩ :: _) _ _); refine wpList_alloc_blk rfl _ rfl zs _ ZH ?_; intro h w2 hg3 hg4 Z2 L02; have G2 := Lib.hid (K1.out.over L02.out); have L2 := Lib.hid (step L1.out L02.out); have hgh : g ≠ h := (by omega); have hhw : w.heap.size ≤ h := (by have := L1.out.size; omega))
      | ((with_reducible show wpList _ _ _ (⟨some 25, _, _, _, _, _⟩ :: _) _ _); refine wpList_load_blk rfl _ (.tmp 3) rfl g rfl _ cs G2 69 _ Tryz.underlying34 rfl size_ask HN ?_)
      | ((with_reducible show wpList _ _ _ (⟨none, .store _ (.tmp 4) _, _, _, _, _⟩ :: _) _ _); refine wpList_store_blk rfl _ (.tmp 4) (.tmp 25) rfl h rfl _ zs cs rfl Z2 69 size_ask HZ HN HN1 ?_; intro w9 K9 O9 hg9)
      | fail)
    have L9 := Lib.hid (below_only L2.out O9.out hhw)
    refine bodyPost_ret (v := .tuple #[.agg cs.toArray, .bool true]) ?_ rfl (HQ.out _ _ ⟨_, rfl, HI.out w9 L9.out, L9.out⟩)
    exact results_cell_two rfl _ _ h _ _ (0, 0) _ rfl K9.out Tryz.underlying34 rfl (by rw [size_ask]; have := HN.out; simp [this]) rfl
  by_cases h13 : c = 13
  · subst h13
    have e0 : (if knownT 13 = true then besideAsk 13 a else zeroAsk) = a := rfl
    rw [e0, show knownT 13 = true from rfl] at HQ
    clear e0
    obtain ⟨A1, A2, A3, X1, X2, X3, M1, M2, M3, rfl, hA, hX, hM⟩ := ha
    have HI : Hid (∀ w' : World, Below w.heap.size w w' → AskIs w' w'.heap.size (acells (.slice A1 A2 A3) (.slice X1 X2 X3) (.slice M1 M2 M3) a) (a)) := fun w' hb => ⟨A1, A2, A3, X1, X2, X3, M1, M2, M3, rfl, hA.over hb, hX.over hb, hM.over hb⟩
    have HN : Hid ((acells (.slice A1 A2 A3) (.slice X1 X2 X3) (.slice M1 M2 M3) a).length = 69) := acells_len (ka)
    have HN1 : Hid (∀ v ∈ acells (.slice A1 A2 A3) (.slice X1 X2 X3) (.slice M1 M2 M3) a, v.oneCell' = true) := acells_one rfl rfl rfl
    obtain ⟨cs, hcs⟩ : ∃ c, c = acells (.slice A1 A2 A3) (.slice X1 X2 X3) (.slice M1 M2 M3) a := ⟨_, rfl⟩
    rw [← hcs] at HL HO1 HI HN HN1 ⊢
    clear hcs HA hA hX hM
    go_enter Tryz.func138, Tryz.ntmps138
    go_wp2_with (first
      | ((with_reducible show wpList _ _ _ (⟨some 3, _, _, _, _, _⟩ :: _) _ _); refine wpList_box_blk rfl _ (.tmp 1) rfl cs rfl ?_; intro g w1 hg1 hg2 K1 L1)
      | ((with_reducible show wpList _ _ _ (⟨some 4, _, _, _, _, _⟩ :: _) _ _); refine wpList_alloc_blk rfl _ rfl zs _ ZH ?_; intro h w2 hg3 hg4 Z2 L02; have G2 := Lib.hid (K1.out.over L02.out); have L2 := Lib.hid (step L1.out L02.out); have hgh : g ≠ h := (by omega); have hhw : w.heap.size ≤ h := (by have := L1.out.size; omega))
      | ((with_reducible show wpList _ _ _ (⟨some 25, _, _, _, _, _⟩ :: _) _ _); refine wpList_load_blk rfl _ (.tmp 3) rfl g rfl _ cs G2 69 _ Tryz.underlying34 rfl size_ask HN ?_)
      | ((with_reducible show wpList _ _ _ (⟨none, .store _ (.tmp 4) _, _, _, _, _⟩ :: _) _ _); refine wpList_store_blk rfl _ (.tmp 4) (.tmp 25) rfl h rfl _ zs cs rfl Z2 69 size_ask HZ HN HN1 ?_; intro w9 K9 O9 hg9)
      | fail)
    have L9 := Lib.hid (below_only L2.out O9.out hhw)
    refine bodyPost_ret (v := .tuple #[.agg cs.toArray, .bool true]) ?_ rfl (HQ.out _ _ ⟨_, rfl, HI.out w9 L9.out, L9.out⟩)
    exact results_cell_two rfl _ _ h _ _ (0, 0) _ rfl K9.out Tryz.underlying34 rfl (by rw [size_ask]; have := HN.out; simp [this]) rfl
  have hk : knownT c = false := by unfold knownT; simp; omega
  rw [if_neg (by rw [hk]; decide), hk] at HQ
  have b0 : (c == 0) = false := by simpa using h0
  have b1 : (c == 1) = false := by simpa using h1
  have b3 : (c == 3) = false := by simpa using h3
  have b2 : (c == 2) = false := by simpa using h2
  have b4 : (c == 4) = false := by simpa using h4
  have b13 : (c == 13) = false := by simpa using h13
  go_enter Tryz.func138, Tryz.ntmps138
  go_wp2_with (first
    | ((with_reducible show wpList _ _ _ (⟨some 3, _, _, _, _, _⟩ :: _) _ _); refine wpList_box_blk rfl _ (.tmp 1) rfl cs rfl ?_; intro g w1 hg1 hg2 K1 L1)
    | ((with_reducible show wpList _ _ _ (⟨some 4, _, _, _, _, _⟩ :: _) _ _); refine wpList_alloc_blk rfl _ rfl zs _ ZH ?_; intro h w2 hg3 hg4 Z2 L02; have G2 := Lib.hid (K1.out.over L02.out); have L2 := Lib.hid (step L1.out L02.out); have hgh : g ≠ h := (by omega); have hhw : w.heap.size ≤ h := (by have := L1.out.size; omega))
    | ((with_reducible show wpList _ _ _ (⟨some 7, _, _, _, _, _⟩ :: _) _ _); refine wpList_build_none rfl _ rfl zs BZ ?_)
    | ((with_reducible show wpList _ _ _ (⟨none, .store _ (.tmp 4) _, _, _, _, _⟩ :: _) _ _); refine wpList_store_blk rfl _ (.tmp 4) (.tmp 7) rfl h rfl _ zs zs rfl Z2 69 size_ask HZ HZ HZ1 ?_; intro w9 K9 O9 hg9)
    | fail)
  have L9 := Lib.hid (below_only L2.out O9.out hhw)
  refine bodyPost_ret (v := .tuple #[.agg zs.toArray, .bool false]) ?_ rfl (HQ.out _ _ ⟨_, rfl, HZI.out w9, L9.out⟩)
  exact results_cell_two rfl _ _ h _ _ (0, 0) _ rfl K9.out Tryz.underlying34 rfl (by rw [size_ask]; have := HZ.out; simp [this]) rfl
def sayBesidePost (w : World) (c : Int) (a : SayV) (e : Ending) (w' : World) : Prop := ∃ ds, e = .returned (.tuple #[.agg ds.toArray, .bool (knownT c)]) ∧ SayIs w' w'.heap.size ds (if knownT c = true then besideSay c a else zeroSay) ∧ Below w.heap.size w w'
set_option maxHeartbeats 4000000 in
theorem sayBeside_any (w : World) (c : Int) (cs : List Value) (a : SayV) (hc : 0 ≤ c ∧ c ≤ 65535) (ka : a.ok) (ha : SayIs w w.heap.size cs a) :
    Calls Tryz.prog 147 #[.int .u16 c, .agg cs.toArray] w (sayBesidePost w c a) := by
  have HL := Lib.hid (ha.len ka)
  have HO1 := Lib.hid ha.one
  have ZH := Lib.hid zero_say
  have BZ := built_say
  have HZ : Hid ((scells (.slice none 0 0) (.slice none 0 0) zeroSay).length = 20) := scells_len zeroSay_ok
  have HZ1 : Hid (∀ v ∈ scells (.slice none 0 0) (.slice none 0 0) zeroSay, v.oneCell' = true) := (zeroSay_is w 0).one
  have HA := Lib.hid ha
  have HQ : Hid (∀ e w', (∃ ds, e = .returned (.tuple #[.agg ds.toArray, .bool (knownT c)]) ∧ SayIs w' w'.heap.size ds (if knownT c = true then besideSay c a else zeroSay) ∧ Below w.heap.size w w') → sayBesidePost w c a e w') := fun _ _ h => h
  obtain ⟨zs, hzs⟩ : ∃ zs, zs = scells (.slice none 0 0) (.slice none 0 0) zeroSay := ⟨_, rfl⟩
  have HZI : Hid (∀ w' : World, SayIs w' w'.heap.size zs zeroSay) := by rw [hzs]; exact fun w' => zeroSay_is w' _
  rw [← hzs] at ZH BZ HZ HZ1
  clear hzs
  by_cases h0 : c = 0
  · subst h0
    have e0 : (if knownT 0 = true then besideSay 0 a else zeroSay) = { a with dia := 0, siz := 0, chal := List.replicate 8 0 } := rfl
    rw [e0, show knownT 0 = true from rfl] at HQ
    clear e0
    obtain ⟨X1, X2, X3, M1, M2, M3, rfl, hX, hM⟩ := ha
    have HI : Hid (∀ w' : World, Below w.heap.size w w' → SayIs w' w'.heap.size (scells (.slice X1 X2 X3) (.slice M1 M2 M3) { a with dia := 0, siz := 0, chal := List.replicate 8 0 }) ({ a with dia := 0, siz := 0, chal := List.replicate 8 0 })) := fun w' hb => ⟨X1, X2, X3, M1, M2, M3, rfl, hX.over hb, hM.over hb⟩
    have HN : Hid ((scells (.slice X1 X2 X3) (.slice M1 M2 M3) { a with dia := 0, siz := 0, chal := List.replicate 8 0 }).length = 20) := scells_len (by have := besideSay_ok (c := 0) ka; exact this)
    have HN1 : Hid (∀ v ∈ scells (.slice X1 X2 X3) (.slice M1 M2 M3) { a with dia := 0, siz := 0, chal := List.replicate 8 0 }, v.oneCell' = true) := scells_one rfl rfl
    have HE0 : Hid ((scells (.slice X1 X2 X3) (.slice M1 M2 M3) a).set 0 (.int .u16 0) = scells (.slice X1 X2 X3) (.slice M1 M2 M3) { a with dia := 0 }) := scells_dia 0
    have HE1 : Hid ((scells (.slice X1 X2 X3) (.slice M1 M2 M3) { a with dia := 0 }).set 1 (.int .u64 0) = scells (.slice X1 X2 X3) (.slice M1 M2 M3) { a with dia := 0, siz := 0 }) := scells_siz 0
    have HE2 : Hid ((scells (.slice X1 X2 X3) (.slice M1 M2 M3) { a with dia := 0, siz := 0 }).take 2 ++ ((List.replicate 8 (0 : Int)).map (Value.int .u8) ++ (scells (.slice X1 X2 X3) (.slice M1 M2 M3) { a with dia := 0, siz := 0 }).drop (2 + 8)) = scells (.slice X1 X2 X3) (.slice M1 M2 M3) { a with dia := 0, siz := 0, chal := List.replicate 8 0 }) := scells_chalS (s := { a with dia := 0, siz := 0 }) ⟨by show (0 : Int) ≤ 0 ∧ (0 : Int) ≤ 65535; decide, by show (0 : Int) ≤ 0 ∧ (0 : Int) ≤ 18446744073709551615; decide, ka.clen, ka.cbyte, ka.lev, ka.dur, ka.made, ka.file, ka.kind, ka.data, ka.n, ka.ents⟩ (List.replicate 8 0)
    have HN0 : Hid (0 < (scells (.slice X1 X2 X3) (.slice M1 M2 M3) a).length) := by show _ < _; simp [scells, stail, ka.clen]
    have HN2 : Hid (1 < (scells (.slice X1 X2 X3) (.slice M1 M2 M3) { a with dia := 0 }).length) := by show _ < _; simp [scells, stail, ka.clen]
    have HF : Hid (2 + 8 ≤ (scells (.slice X1 X2 X3) (.slice M1 M2 M3) { a with dia := 0, siz := 0 }).length) := by show _ ≤ _; simp [scells, stail, ka.clen]
    have HLZ : Hid (((List.replicate 8 (0 : Int)).map (Value.int .u8)).length = 8) := by show _ = _; simp
    have OZ : Hid (∀ v ∈ (List.replicate 8 (0 : Int)).map (Value.int .u8), v.oneCell' = true) := fun v hv => mem_nums hv
    have BL := built_chal
    obtain ⟨lz, hlz⟩ : ∃ z, z = (List.replicate 8 (0 : Int)).map (Value.int .u8) := ⟨_, rfl⟩
    rw [← hlz] at HLZ OZ BL HE2
    clear hlz
    obtain ⟨cs, hcs⟩ : ∃ c, c = scells (.slice X1 X2 X3) (.slice M1 M2 M3) a := ⟨_, rfl⟩
    rw [← hcs] at HL HO1 HE0 HN0 ⊢
    clear hcs HA hX hM
    obtain ⟨d0, hd0⟩ : ∃ c, c = scells (.slice X1 X2 X3) (.slice M1 M2 M3) { a with dia := 0 } := ⟨_, rfl⟩
    rw [← hd0] at HE0 HE1 HN2
    clear hd0
    obtain ⟨d1, hd1⟩ : ∃ c, c = scells (.slice X1 X2 X3) (.slice M1 M2 M3) { a with dia := 0, siz := 0 } := ⟨_, rfl⟩
    rw [← hd1] at HE1 HE2 HF
    clear hd1
    obtain ⟨d2, hd2⟩ : ∃ c, c = scells (.slice X1 X2 X3) (.slice M1 M2 M3) { a with dia := 0, siz := 0, chal := List.replicate 8 0 } := ⟨_, rfl⟩
    rw [← hd2] at HE2 HI HN HN1
    clear hd2
    go_enter Tryz.func147, Tryz.ntmps147
    go_wp2_with (first
      | ((with_reducible show wpList _ _ _ (⟨some 3, _, _, _, _, _⟩ :: _) _ _); refine wpList_box_blk rfl _ (.tmp 1) rfl cs rfl ?_; intro g w1 hg1 hg2 K1 L1)
      | ((with_reducible show wpList _ _ _ (⟨some 4, _, _, _, _, _⟩ :: _) _ _); refine wpList_alloc_blk rfl _ rfl zs _ ZH ?_; intro h w2 hg3 hg4 Z2 L02; have G2 := Lib.hid (K1.out.over L02.out); have L2 := Lib.hid (step L1.out L02.out); have hgh : g ≠ h := (by omega); have hhw : w.heap.size ≤ h := (by have := L1.out.size; omega))
      | ((with_reducible show wpList _ _ _ (⟨none, .store _ (.tmp 11) _, _, _, _, _⟩ :: _) _ _); refine wpList_store_fld rfl _ (.tmp 11) (.const (.int .u16 0)) rfl g 0 rfl _ cs (.int .u16 0) rfl G2 HN0 (by kernel_rfl) rfl ?_; intro w3 K3 O3 q3; rw [HE0.out] at K3; have Z3 := Lib.hid (Z2.out.only O3.out (Ne.symm hgh)); have L3 : Hid (Below w.heap.size w w3) := below_only L2.out O3.out hg1)
      | ((with_reducible show wpList _ _ _ (⟨none, .store _ (.tmp 12) _, _, _, _, _⟩ :: _) _ _); refine wpList_store_fld rfl _ (.tmp 12) (.const (.int .u64 0)) rfl g 1 rfl _ d0 (.int .u64 0) rfl K3 HN2 (by kernel_rfl) rfl ?_; intro w4 K4 O4 q4; rw [HE1.out] at K4; have Z4 := Lib.hid (Z3.out.only O4.out (Ne.symm hgh)); have L4 : Hid (Below w.heap.size w w4) := below_only L3.out O4.out hg1)
      | ((with_reducible show wpList _ _ _ (⟨none, .store _ (.tmp 13) _, _, _, _, _⟩ :: _) _ _); refine wpList_store_midb rfl _ (.tmp 13) (.tmp 10) rfl g 2 rfl _ d1 lz rfl K4 8 size_chal HLZ HF OZ ?_; intro w5 K5 O5 q5; rw [HE2.out] at K5; have Z5 := Lib.hid (Z4.out.only O5.out (Ne.symm hgh)); have L5 : Hid (Below w.heap.size w w5) := below_only L4.out O5.out hg1)
      | ((with_reducible show wpList _ _ _ (⟨some 10, _, _, _, _, _⟩ :: _) _ _); refine wpList_build_none rfl _ rfl lz BL ?_)
      | ((with_reducible show wpList _ _ _ (⟨some 20, _, _, _, _, _⟩ :: _) _ _); refine wpList_load_blk rfl _ (.tmp 3) rfl g rfl _ d2 K5 20 _ Tryz.underlying39 rfl size_say HN ?_)
      | ((with_reducible show wpList _ _ _ (⟨none, .store _ (.tmp 4) _, _, _, _, _⟩ :: _) _ _); refine wpList_store_blk rfl _ (.tmp 4) (.tmp 20) rfl h rfl _ zs d2 rfl Z5 20 size_say HZ HN HN1 ?_; intro w9 K9 O9 hg9)
      | fail)
    have L9 := Lib.hid (below_only L5.out O9.out hhw)
    refine bodyPost_ret (v := .tuple #[.agg d2.toArray, .bool true]) ?_ rfl (HQ.out _ _ ⟨_, rfl, HI.out w9 L9.out, L9.out⟩)
    exact results_cell_two rfl _ _ h _ _ (0, 0) _ rfl K9.out Tryz.underlying39 rfl (by rw [size_say]; have := HN.out; simp [this]) rfl
  by_cases h1 : c = 1
  · subst h1
    have e0 : (if knownT 1 = true then besideSay 1 a else zeroSay) = a := rfl
    rw [e0, show knownT 1 = true from rfl] at HQ
    clear e0
    obtain ⟨X1, X2, X3, M1, M2, M3, rfl, hX, hM⟩ := ha
    have HI : Hid (∀ w' : World, Below w.heap.size w w' → SayIs w' w'.heap.size (scells (.slice X1 X2 X3) (.slice M1 M2 M3) a) (a)) := fun w' hb => ⟨X1, X2, X3, M1, M2, M3, rfl, hX.over hb, hM.over hb⟩
    have HN : Hid ((scells (.slice X1 X2 X3) (.slice M1 M2 M3) a).length = 20) := scells_len (ka)
    have HN1 : Hid (∀ v ∈ scells (.slice X1 X2 X3) (.slice M1 M2 M3) a, v.oneCell' = true) := scells_one rfl rfl
    obtain ⟨cs, hcs⟩ : ∃ c, c = scells (.slice X1 X2 X3) (.slice M1 M2 M3) a := ⟨_, rfl⟩
    rw [← hcs] at HL HO1 HI HN HN1 ⊢
    clear hcs HA hX hM
    go_enter Tryz.func147, Tryz.ntmps147
    go_wp2_with (first
      | ((with_reducible show wpList _ _ _ (⟨some 3, _, _, _, _, _⟩ :: _) _ _); refine wpList_box_blk rfl _ (.tmp 1) rfl cs rfl ?_; intro g w1 hg1 hg2 K1 L1)
      | ((with_reducible show wpList _ _ _ (⟨some 4, _, _, _, _, _⟩ :: _) _ _); refine wpList_alloc_blk rfl _ rfl zs _ ZH ?_; intro h w2 hg3 hg4 Z2 L02; have G2 := Lib.hid (K1.out.over L02.out); have L2 := Lib.hid (step L1.out L02.out); have hgh : g ≠ h := (by omega); have hhw : w.heap.size ≤ h := (by have := L1.out.size; omega))
      | ((with_reducible show wpList _ _ _ (⟨some 20, _, _, _, _, _⟩ :: _) _ _); refine wpList_load_blk rfl _ (.tmp 3) rfl g rfl _ cs G2 20 _ Tryz.underlying39 rfl size_say HN ?_)
      | ((with_reducible show wpList _ _ _ (⟨none, .store _ (.tmp 4) _, _, _, _, _⟩ :: _) _ _); refine wpList_store_blk rfl _ (.tmp 4) (.tmp 20) rfl h rfl _ zs cs rfl Z2 20 size_say HZ HN HN1 ?_; intro w9 K9 O9 hg9)
      | fail)
    have L9 := Lib.hid (below_only L2.out O9.out hhw)
    refine bodyPost_ret (v := .tuple #[.agg cs.toArray, .bool true]) ?_ rfl (HQ.out _ _ ⟨_, rfl, HI.out w9 L9.out, L9.out⟩)
    exact results_cell_two rfl _ _ h _ _ (0, 0) _ rfl K9.out Tryz.underlying39 rfl (by rw [size_say]; have := HN.out; simp [this]) rfl
  by_cases h3 : c = 3
  · subst h3
    have e0 : (if knownT 3 = true then besideSay 3 a else zeroSay) = a := rfl
    rw [e0, show knownT 3 = true from rfl] at HQ
    clear e0
    obtain ⟨X1, X2, X3, M1, M2, M3, rfl, hX, hM⟩ := ha
    have HI : Hid (∀ w' : World, Below w.heap.size w w' → SayIs w' w'.heap.size (scells (.slice X1 X2 X3) (.slice M1 M2 M3) a) (a)) := fun w' hb => ⟨X1, X2, X3, M1, M2, M3, rfl, hX.over hb, hM.over hb⟩
    have HN : Hid ((scells (.slice X1 X2 X3) (.slice M1 M2 M3) a).length = 20) := scells_len (ka)
    have HN1 : Hid (∀ v ∈ scells (.slice X1 X2 X3) (.slice M1 M2 M3) a, v.oneCell' = true) := scells_one rfl rfl
    obtain ⟨cs, hcs⟩ : ∃ c, c = scells (.slice X1 X2 X3) (.slice M1 M2 M3) a := ⟨_, rfl⟩
    rw [← hcs] at HL HO1 HI HN HN1 ⊢
    clear hcs HA hX hM
    go_enter Tryz.func147, Tryz.ntmps147
    go_wp2_with (first
      | ((with_reducible show wpList _ _ _ (⟨some 3, _, _, _, _, _⟩ :: _) _ _); refine wpList_box_blk rfl _ (.tmp 1) rfl cs rfl ?_; intro g w1 hg1 hg2 K1 L1)
      | ((with_reducible show wpList _ _ _ (⟨some 4, _, _, _, _, _⟩ :: _) _ _); refine wpList_alloc_blk rfl _ rfl zs _ ZH ?_; intro h w2 hg3 hg4 Z2 L02; have G2 := Lib.hid (K1.out.over L02.out); have L2 := Lib.hid (step L1.out L02.out); have hgh : g ≠ h := (by omega); have hhw : w.heap.size ≤ h := (by have := L1.out.size; omega))
      | ((with_reducible show wpList _ _ _ (⟨some 20, _, _, _, _, _⟩ :: _) _ _); refine wpList_load_blk rfl _ (.tmp 3) rfl g rfl _ cs G2 20 _ Tryz.underlying39 rfl size_say HN ?_)
      | ((with_reducible show wpList _ _ _ (⟨none, .store _ (.tmp 4) _, _, _, _, _⟩ :: _) _ _); refine wpList_store_blk rfl _ (.tmp 4) (.tmp 20) rfl h rfl _ zs cs rfl Z2 20 size_say HZ HN HN1 ?_; intro w9 K9 O9 hg9)
      | fail)
    have L9 := Lib.hid (below_only L2.out O9.out hhw)
    refine bodyPost_ret (v := .tuple #[.agg cs.toArray, .bool true]) ?_ rfl (HQ.out _ _ ⟨_, rfl, HI.out w9 L9.out, L9.out⟩)
    exact results_cell_two rfl _ _ h _ _ (0, 0) _ rfl K9.out Tryz.underlying39 rfl (by rw [size_say]; have := HN.out; simp [this]) rfl
  by_cases h2 : c = 2
  · subst h2
    have e0 : (if knownT 2 = true then besideSay 2 a else zeroSay) = a := rfl
    rw [e0, show knownT 2 = true from rfl] at HQ
    clear e0
    obtain ⟨X1, X2, X3, M1, M2, M3, rfl, hX, hM⟩ := ha
    have HI : Hid (∀ w' : World, Below w.heap.size w w' → SayIs w' w'.heap.size (scells (.slice X1 X2 X3) (.slice M1 M2 M3) a) (a)) := fun w' hb => ⟨X1, X2, X3, M1, M2, M3, rfl, hX.over hb, hM.over hb⟩
    have HN : Hid ((scells (.slice X1 X2 X3) (.slice M1 M2 M3) a).length = 20) := scells_len (ka)
    have HN1 : Hid (∀ v ∈ scells (.slice X1 X2 X3) (.slice M1 M2 M3) a, v.oneCell' = true) := scells_one rfl rfl
    obtain ⟨cs, hcs⟩ : ∃ c, c = scells (.slice X1 X2 X3) (.slice M1 M2 M3) a := ⟨_, rfl⟩
    rw [← hcs] at HL HO1 HI HN HN1 ⊢
    clear hcs HA hX hM
    go_enter Tryz.func147, Tryz.ntmps147
    go_wp2_with (first
      | ((with_reducible show wpList _ _ _ (⟨some 3, _, _, _, _, _⟩ :: _) _ _); refine wpList_box_blk rfl _ (.tmp 1) rfl cs rfl ?_; intro g w1 hg1 hg2 K1 L1)
      | ((with_reducible show wpList _ _ _ (⟨some 4, _, _, _, _, _⟩ :: _) _ _); refine wpList_alloc_blk rfl _ rfl zs _ ZH ?_; intro h w2 hg3 hg4 Z2 L02; have G2 := Lib.hid (K1.out.over L02.out); have L2 := Lib.hid (step L1.out L02.out); have hgh : g ≠ h := (by omega); have hhw : w.heap.size ≤ h := (by have := L1.out.size; omega))
      | ((with_reducible show wpList _ _ _ (⟨some 20, _, _, _, _, _⟩ :: _) _ _); refine wpList_load_blk rfl _ (.tmp 3) rfl g rfl _ cs G2 20 _ Tryz.underlying39 rfl size_say HN ?_)
      | ((with_reducible show wpList _ _ _ (⟨none, .store _ (.tmp 4) _, _, _, _, _⟩ :: _) _ _); refine wpList_store_blk rfl _ (.tmp 4) (.tmp 20) rfl h rfl _ zs cs rfl Z2 20 size_say HZ HN HN1 ?_; intro w9 K9 O9 hg9)
      | fail)
    have L9 := Lib.hid (below_only L2.out O9.out hhw)
    refine bodyPost_ret (v := .tuple #[.agg cs.toArray, .bool true]) ?_ rfl (HQ.out _ _ ⟨_, rfl, HI.out w9 L9.out, L9.out⟩)
    exact results_cell_two rfl _ _ h _ _ (0, 0) _ rfl K9.out Tryz.underlying39 rfl (by rw [size_say]; have := HN.out; simp [this]) rfl
  by_cases h4 : c = 4
  · subst h4
    have e0 : (if knownT 4 = true then besideSay 4 a else zeroSay) = a := rfl
    rw [e0, show knownT 4 = true from rfl] at HQ
    clear e0
    obtain ⟨X1, X2, X3, M1, M2, M3, rfl, hX, hM⟩ := ha
    have HI : Hid (∀ w' : World, Below w.heap.size w w' → SayIs w' w'.heap.size (scells (.slice X1 X2 X3) (.slice M1 M2 M3) a) (a)) := fun w' hb => ⟨X1, X2, X3, M1, M2, M3, rfl, hX.over hb, hM.over hb⟩
    have HN : Hid ((scells (.slice X1 X2 X3) (.slice M1 M2 M3) a).length = 20) := scells_len (ka)
    have HN1 : Hid (∀ v ∈ scells (.slice X1 X2 X3) (.slice M1 M2 M3) a, v.oneCell' = true) := scells_one rfl rfl
    obtain ⟨cs, hcs⟩ : ∃ c, c = scells (.slice X1 X2 X3) (.slice M1 M2 M3) a := ⟨_, rfl⟩
    rw [← hcs] at HL HO1 HI HN HN1 ⊢
    clear hcs HA hX hM
    go_enter Tryz.func147, Tryz.ntmps147
    go_wp2_with (first
      | ((with_reducible show wpList _ _ _ (⟨some 3, _, _, _, _, _⟩ :: _) _ _); refine wpList_box_blk rfl _ (.tmp 1) rfl cs rfl ?_; intro g w1 hg1 hg2 K1 L1)
      | ((with_reducible show wpList _ _ _ (⟨some 4, _, _, _, _, _⟩ :: _) _ _); refine wpList_alloc_blk rfl _ rfl zs _ ZH ?_; intro h w2 hg3 hg4 Z2 L02; have G2 := Lib.hid (K1.out.over L02.out); have L2 := Lib.hid (step L1.out L02.out); have hgh : g ≠ h := (by omega); have hhw : w.heap.size ≤ h := (by have := L1.out.size; omega))
      | ((with_reducible show wpList _ _ _ (⟨some 20, _, _, _, _, _⟩ :: _) _ _); refine wpList_load_blk rfl _ (.tmp 3) rfl g rfl _ cs G2 20 _ Tryz.underlying39 rfl size_say HN ?_)
      | ((with_reducible show wpList _ _ _ (⟨none, .store _ (.tmp 4) _, _, _, _, _⟩ :: _) _ _); refine wpList_store_blk rfl _ (.tmp 4) (.tmp 20) rfl h rfl _ zs cs rfl Z2 20 size_say HZ HN HN1 ?_; intro w9 K9 O9 hg9)
      | fail)
    have L9 := Lib.hid (below_only L2.out O9.out hhw)
    refine bodyPost_ret (v := .tuple #[.agg cs.toArray, .bool true]) ?_ rfl (HQ.out _ _ ⟨_, rfl, HI.out w9 L9.out, L9.out⟩)
    exact results_cell_two rfl _ _ h _ _ (0, 0) _ rfl K9.out Tryz.underlying39 rfl (by rw [size_say]; have := HN.out; simp [this]) rfl
  by_cases h13 : c = 13
  · subst h13
    have e0 : (if knownT 13 = true then besideSay 13 a else zeroSay) = a := rfl
    rw [e0, show knownT 13 = true from rfl] at HQ
    clear e0
    obtain ⟨X1, X2, X3, M1, M2, M3, rfl, hX, hM⟩ := ha
    have HI : Hid (∀ w' : World, Below w.heap.size w w' → SayIs w' w'.heap.size (scells (.slice X1 X2 X3) (.slice M1 M2 M3) a) (a)) := fun w' hb => ⟨X1, X2, X3, M1, M2, M3, rfl, hX.over hb, hM.over hb⟩
    have HN : Hid ((scells (.slice X1 X2 X3) (.slice M1 M2 M3) a).length = 20) := scells_len (ka)
    have HN1 : Hid (∀ v ∈ scells (.slice X1 X2 X3) (.slice M1 M2 M3) a, v.oneCell' = true) := scells_one rfl rfl
    obtain ⟨cs, hcs⟩ : ∃ c, c = scells (.slice X1 X2 X3) (.slice M1 M2 M3) a := ⟨_, rfl⟩
    rw [← hcs] at HL HO1 HI HN HN1 ⊢
    clear hcs HA hX hM
    go_enter Tryz.func147, Tryz.ntmps147
    go_wp2_with (first
      | ((with_reducible show wpList _ _ _ (⟨some 3, _, _, _, _, _⟩ :: _) _ _); refine wpList_box_blk rfl _ (.tmp 1) rfl cs rfl ?_; intro g w1 hg1 hg2 K1 L1)
      | ((with_reducible show wpList _ _ _ (⟨some 4, _, _, _, _, _⟩ :: _) _ _); refine wpList_alloc_blk rfl _ rfl zs _ ZH ?_; intro h w2 hg3 hg4 Z2 L02; have G2 := Lib.hid (K1.out.over L02.out); have L2 := Lib.hid (step L1.out L02.out); have hgh : g ≠ h := (by omega); have hhw : w.heap.size ≤ h := (by have := L1.out.size; omega))
      | ((with_reducible show wpList _ _ _ (⟨some 20, _, _, _, _, _⟩ :: _) _ _); refine wpList_load_blk rfl _ (.tmp 3) rfl g rfl _ cs G2 20 _ Tryz.underlying39 rfl size_say HN ?_)
      | ((with_reducible show wpList _ _ _ (⟨none, .store _ (.tmp 4) _, _, _, _, _⟩ :: _) _ _); refine wpList_store_blk rfl _ (.tmp 4) (.tmp 20) rfl h rfl _ zs cs rfl Z2 20 size_say HZ HN HN1 ?_; intro w9 K9 O9 hg9)
      | fail)
    have L9 := Lib.hid (below_only L2.out O9.out hhw)
    refine bodyPost_ret (v := .tuple #[.agg cs.toArray, .bool true]) ?_ rfl (HQ.out _ _ ⟨_, rfl, HI.out w9 L9.out, L9.out⟩)
    exact results_cell_two rfl _ _ h _ _ (0, 0) _ rfl K9.out Tryz.underlying39 rfl (by rw [size_say]; have := HN.out; simp [this]) rfl
  have hk : knownT c = false := by unfold knownT; simp; omega
  rw [if_neg (by rw [hk]; decide), hk] at HQ
  have b0 : (c == 0) = false := by simpa using h0
  have b1 : (c == 1) = false := by simpa using h1
  have b3 : (c == 3) = false := by simpa using h3
  have b2 : (c == 2) = false := by simpa using h2
  have b4 : (c == 4) = false := by simpa using h4
  have b13 : (c == 13) = false := by simpa using h13
  go_enter Tryz.func147, Tryz.ntmps147
  go_wp2_with (first
    | ((with_reducible show wpList _ _ _ (⟨some 3, _, _, _, _, _⟩ :: _) _ _); refine wpList_box_blk rfl _ (.tmp 1) rfl cs rfl ?_; intro g w1 hg1 hg2 K1 L1)
    | ((with_reducible show wpList _ _ _ (⟨some 4, _, _, _, _, _⟩ :: _) _ _); refine wpList_alloc_blk rfl _ rfl zs _ ZH ?_; intro h w2 hg3 hg4 Z2 L02; have G2 := Lib.hid (K1.out.over L02.out); have L2 := Lib.hid (step L1.out L02.out); have hgh : g ≠ h := (by omega); have hhw : w.heap.size ≤ h := (by have := L1.out.size; omega))
    | ((with_reducible show wpList _ _ _ (⟨some 7, _, _, _, _, _⟩ :: _) _ _); refine wpList_build_none rfl _ rfl zs BZ ?_)
    | ((with_reducible show wpList _ _ _ (⟨none, .store _ (.tmp 4) _, _, _, _, _⟩ :: _) _ _); refine wpList_store_blk rfl _ (.tmp 4) (.tmp 7) rfl h rfl _ zs zs rfl Z2 20 size_say HZ HZ HZ1 ?_; intro w9 K9 O9 hg9)
    | fail)
  have L9 := Lib.hid (below_only L2.out O9.out hhw)
  refine bodyPost_ret (v := .tuple #[.agg zs.toArray, .bool false]) ?_ rfl (HQ.out _ _ ⟨_, rfl, HZI.out w9, L9.out⟩)
  exact results_cell_two rfl _ _ h _ _ (0, 0) _ rfl K9.out Tryz.underlying39 rfl (by rw [size_say]; have := HZ.out; simp [this]) rfl
end Go.Proofs.YtpodpmckdiijhaaGreatDoor

namespace Go.Proofs.YtpodpmckdiijhaaGreatDoor
set_option linter.all false
open Go.RowKit
set_option linter.unusedVariables false
set_option maxRecDepth 100000
def dialsOf (xs : List Int) : List Int := xs.flatMap (fun d => le d 2)
def offerOf (a : AskV) : List Int := le a.dial.length 2 ++ dialsOf a.dial ++ a.guid
theorem dialsOf_len (xs : List Int) : (dialsOf xs).length = 2 * xs.length := by
  induction xs with
  | nil => rfl
  | cons x xs ih => rw [show dialsOf (x :: xs) = le x 2 ++ dialsOf xs from rfl, List.length_append, le_length, ih, List.length_cons]; omega
theorem dialsOf_snoc (xs : List Int) (x : Int) : dialsOf (xs ++ [x]) = dialsOf xs ++ le x 2 := by simp [dialsOf]
theorem number_le (w : World) (n : Int) (h0 : 0 ≤ n) (h1 : n ≤ 65535) :
    Calls Tryz.prog 149 #[.int .u64 n, .int .i64 2] w fun e w' => ∃ A', e = .returned (.slice A' 2 2) ∧ Fresh w' w.heap.size A' (le n 2) ∧ Below w.heap.size w w' := by
  obtain ⟨m, rfl⟩ := Int.eq_ofNat_of_zero_le h0
  have h := number_any w (m : Int) 2 (by omega) (by omega)
  unfold NumPost at h
  rw [(putOf2 m (by omega)).1, le_length] at h
  exact h
theorem acells_guidH {vd vx vl : Value} {a : AskV} {w : World} {g : Nat} {T : TypeId} (k : a.ok) (h : Blk w g T (acells vd vx vl a)) : Holds w w.heap.size (some ⟨g, 1, none⟩) 16 16 a.guid := by
  have hr := acells_guid h k
  refine ⟨k.glen, Nat.le_refl _, by decide, k.gbyte, fun hA => (by cases hA), fun _ => ⟨g, 1, rfl, h.lt, fun i hi => ?_⟩⟩
  rw [hr i (.int .u8 (a.guid.getD i 0)) (by
    have : i < a.guid.length := by rw [k.glen]; exact hi
    simp [List.getD_eq_getElem?_getD, this])]
theorem acells_proofH {vd vx vl : Value} {a : AskV} {w : World} {g : Nat} {T : TypeId} (k : a.ok) (h : Blk w g T (acells vd vx vl a)) : Holds w w.heap.size (some ⟨g, 17, none⟩) 32 32 a.proof := by
  have hr := acells_proof h k
  refine ⟨k.plen, Nat.le_refl _, by decide, k.pbyte, fun hA => (by cases hA), fun _ => ⟨g, 17, rfl, h.lt, fun i hi => ?_⟩⟩
  rw [hr i (.int .u8 (a.proof.getD i 0)) (by
    have : i < a.proof.length := by rw [k.plen]; exact hi
    simp [List.getD_eq_getElem?_getD, this])]
theorem scells_chalH {vx ve : Value} {s : SayV} {w : World} {g : Nat} {T : TypeId} (k : s.ok) (h : Blk w g T (scells vx ve s)) : Holds w w.heap.size (some ⟨g, 2, none⟩) 8 8 s.chal := by
  have hr := scells_chal h k
  refine ⟨k.clen, Nat.le_refl _, by decide, k.cbyte, fun hA => (by cases hA), fun _ => ⟨g, 2, rfl, h.lt, fun i hi => ?_⟩⟩
  rw [hr i (.int .u8 (s.chal.getD i 0)) (by
    have : i < s.chal.length := by rw [k.clen]; exact hi
    simp [List.getD_eq_getElem?_getD, this])]
end Go.Proofs.YtpodpmckdiijhaaGreatDoor

namespace Go.Proofs.YtpodpmckdiijhaaGreatDoor
set_option linter.all false
open Go.RowKit
section
variable {P : Program} {ops : Array Oper} {Q : Exit → Act → World → Prop}
theorem wpAnyH_two {md : Region.Mode} {S : World → Prop} (i j : Nat) (oi oj : Oper) {fuel : Nat} {listed : Array Bool} {a : Act} {w : World} (hr : Region.ready md ops listed = [i, j]) (hi : ops[i]? = some oi) (hj : ops[j]? = some oj)
    (h1 : ∀ K : Act → World → Prop, (∀ a' w', S w' → wpAnyH P md ops Q S fuel (listed.setIfInBounds i true) a' w' → K a' w') → if Region.wanted oi (yielded ops a.tmps) = true then oi.wp P a w K Q else K (a.put oi.dst undef) w)
    (h2 : ∀ K : Act → World → Prop, (∀ a' w', S w' → wpAnyH P md ops Q S fuel (listed.setIfInBounds j true) a' w' → K a' w') → if Region.wanted oj (yielded ops a.tmps) = true then oj.wp P a w K Q else K (a.put oj.dst undef) w) :
    wpAnyH P md ops Q S (fuel + 1) listed a w := by
  refine wpAnyH_all hr (by simp) fun q hq => ?_
  rcases List.mem_cons.1 hq with rfl | hq
  · have h3 := h1 (fun a' w' => S w' ∧ wpAnyH P md ops Q S fuel (listed.setIfInBounds q true) a' w') fun _ _ h2 h3 => ⟨h2, h3⟩
    unfold wpOp
    simp only [hi]
    by_cases hw : Region.wanted oi (yielded ops a.tmps) = true
    · rw [if_pos hw] at h3 ⊢
      exact .inl h3
    · rw [if_neg hw] at h3 ⊢
      exact h3
  · obtain rfl := List.mem_singleton.1 hq
    have h3 := h2 (fun a' w' => S w' ∧ wpAnyH P md ops Q S fuel (listed.setIfInBounds q true) a' w') fun _ _ h2 h3 => ⟨h2, h3⟩
    unfold wpOp
    simp only [hj]
    by_cases hw : Region.wanted oj (yielded ops a.tmps) = true
    · rw [if_pos hw] at h3 ⊢
      exact .inl h3
    · rw [if_neg hw] at h3 ⊢
      exact h3
end
end Go.Proofs.YtpodpmckdiijhaaGreatDoor

namespace Go.Proofs.YtpodpmckdiijhaaGreatDoor
set_option linter.all false
open Go.RowKit
set_option linter.unusedVariables false
set_option maxRecDepth 100000
def askErrP (c : Int) (a : AskV) : Int :=
  if knownT c = true ∧ besideAsk c a = zeroAsk then (if c = 0 then (if a.dial.length ≤ 16 then 0 else 3) else if c = 1 then ptextErr a.user.data.toList else if c = 3 then ptextErr a.share.data.toList else 0) else 2
def askOfP (c : Int) (a : AskV) : List Int :=
  if askErrP c a = 0 then (if c = 0 then offerOf a else if c = 1 then a.proof ++ ptextOf a.user.data.toList else if c = 3 then ptextOf a.share.data.toList else List.replicate 4 0) else []
def sayErrP (c : Int) (s : SayV) : Int := if knownT c = true ∧ besideSay c s = zeroSay ∧ (c = 0 → s.siz < 4294967296) then 0 else 2
def sayOfP (c : Int) (s : SayV) : List Int := if sayErrP c s = 0 then (if c = 0 then le s.dia 2 ++ List.replicate 2 0 ++ le s.siz 4 ++ s.chal else List.replicate 4 0) else []
theorem step_make_bytes {o : Oper} {ops : Array Oper} {a : Act} {w : World} {K : Act → World → Prop} {Q : Exit → Act → World → Prop} {E : Prop} (hg : o.guard = none) (l c : Operand) (hop : o.op = Op.makeSlice 31 l c) (n : Nat) (hl : a.eval l = .int .i64 (n : Int)) (hc : a.eval c = .int .i64 (n : Int)) (hn : n ≤ 281474976710656)
    (hK : ∀ w', Hid (Row w' w.heap.size (List.replicate n 0)) → Hid (Below w.heap.size w w') → K (a.put o.dst (.slice (some ⟨w.heap.size, 0, none⟩) n n)) w') :
    if Region.wanted o (yielded ops a.tmps) = true then Oper.wp Tryz.prog o a w K Q else E := by
  rw [if_pos (by simp [Region.wanted, hg])]
  have hrun := run_make_row' (P := Tryz.prog) 31 5 (.int .u8 0) 1 Tryz.underlying31 info_u8 rfl .i64 .i64 n (by omega) (by omega) w
  unfold Oper.wp
  simp [execOp, hop, hl, hc, hrun, Result.andThen]
  refine hK _ ?_ ((Below.refl _ _).alloc (Nat.le_refl _) _)
  show (w.alloc _).heap[w.heap.size]? = _
  rw [heap_alloc_new]
  have h := toList_madeCells_one (.int .u8 0) n
  rw [List.map_replicate, ← h]
theorem Parts.of_blk {w : World} {g : Nat} {T : TypeId} (l : List PartT) (h : Blk w g T (l.map partV)) (hh : ∀ p ∈ l, Holds w w.heap.size p.1 p.2.1 p.2.2.1 p.2.2.2) : Parts w g l.length (partA l) (partN l) (partC l) (partX l) := by
  refine ⟨h.lt, fun i hi => ?_, fun i hi => ?_⟩
  · rw [h.cell]
    simp [partA, partN, partC, List.getD_eq_getElem?_getD, hi, partV]
  · have he : l.getD i part0 = l[i] := by simp [List.getD_eq_getElem?_getD, hi]
    have := hh l[i] (List.getElem_mem hi)
    unfold partA partN partC partX
    rw [he]
    exact this
theorem rowOf_le (l : List UInt8) : (ptextOf l).length ≤ 514 := by
  unfold ptextOf
  split
  · rename_i h
    have h2 : (putOfL l).length ≤ 512 := by
      unfold ptextErr at h
      by_cases ht : textErr l = 0
      · rw [if_pos ht] at h
        by_cases hm : (putOfL l).length ≤ 512
        · exact hm
        · rw [if_neg hm] at h; exact absurd h (by decide)
      · rw [if_neg ht] at h; exact absurd h ht
    rw [rowOf_len _ (by omega)]
    omega
  · simp
theorem ptextOf_bytes (l : List UInt8) : Bytes (ptextOf l) := by
  unfold ptextOf
  split
  · exact rowOf_bytes (putOfL_byte l)
  · exact Bytes.nil
end Go.Proofs.YtpodpmckdiijhaaGreatDoor

namespace Go.Proofs.YtpodpmckdiijhaaGreatDoor
set_option linter.all false
open Go.RowKit
set_option linter.unusedVariables false
/-- a reader: its place, and its first error -/
structure Rd where
  p : Nat
  e : Int
def rdN (xs : List Int) (s : Nat) (r : Rd) : Int × Rd := if r.e = 0 then (if xs.length < r.p + s then (0, ⟨r.p, 4⟩) else (numAt xs r.p s, ⟨r.p + s, 0⟩)) else (0, r)
def rdMost (xs : List Int) (s : Nat) (most er : Int) (r : Rd) : Int × Rd := if (rdN xs s r).2.e = 0 ∧ most < (rdN xs s r).1 then (0, ⟨(rdN xs s r).2.p, er⟩) else rdN xs s r
def rdPart (xs : List Int) (m : Nat) (r : Rd) : List Int × Rd := if r.e = 0 then (if xs.length < r.p + m then ([], ⟨r.p, 4⟩) else ((xs.drop r.p).take m, ⟨r.p + m, 0⟩)) else ([], r)
def rdText (xs : List Int) (r : Rd) : List UInt8 × Rd := if r.e = 0 then (gtextOf xs r.p, ⟨if gtextErr xs r.p = 0 then (gtextNext xs r.p).toNat else r.p, gtextErr xs r.p⟩) else ([], r)
def rdEnd (xs : List Int) (r : Rd) : Int := if r.e = 0 ∧ r.p ≠ xs.length then 5 else r.e
theorem save_drewN (g : Nat) (w : World) (k : Nat) : Save g w (w.drewN k) := ⟨rfl, rfl, rfl, Nat.le_refl _, fun _ _ _ => rfl⟩
theorem Save.setCell {g : Nat} {w w' : World} (h : Save g w w') (i : Nat) (v : Value) : Save g w (w'.setCell ⟨g, i, none⟩ v) := h.trans (Save.of_only (only_setCell w' g i v))
theorem Save.drewN {g : Nat} {w w' : World} (h : Save g w w') (k : Nat) : Save g w (w'.drewN k) := h.trans (save_drewN g w' k)
end Go.Proofs.YtpodpmckdiijhaaGreatDoor

namespace Go.Proofs.YtpodpmckdiijhaaGreatDoor
set_option linter.all false
open Go.RowKit
set_option linter.unusedVariables false
set_option maxRecDepth 100000
theorem fld_tr0 (g : Nat) (w : World) : (Instr.fieldAt 151 (.pointer (some ⟨g, 0, none⟩)) 0).run Tryz.prog w = .ok (.pointer (some ⟨g, 0, none⟩)) w := by go_simp
theorem fld_tr1 (g : Nat) (w : World) : (Instr.fieldAt 151 (.pointer (some ⟨g, 0, none⟩)) 1).run Tryz.prog w = .ok (.pointer (some ⟨g, 1, none⟩)) w := by go_simp
/-- the program's reader at the head of block g, over the bytes xs, with the cells 'rest' behind it -/
def PRd (w : World) (g : Nat) (T : TypeId) (A : Option Addr) (n c : Nat) (r : Rd) (rest : List Value) : Prop := Blk w g T (.slice A n c :: .int .i64 r.p :: .int .i64 r.e :: rest)
/-- what 'part' answers -/
def PPartPost (w : World) (g : Nat) (T : TypeId) (A : Option Addr) (n c : Nat) (q : List Int × Rd) (rest : List Value) (e : Ending) (w' : World) : Prop :=
  ∃ A' m, e = .returned (.slice A' m m) ∧ m = q.1.length ∧ PRd w' g T A n c q.2 rest ∧ Fresh w' w.heap.size A' q.1 ∧ Save g w w' ∧ (¬ q.2.e = 0 → A' = none ∧ m = 0)
theorem Fresh.onlyW {w w' : World} {base g : Nat} {A : Option Addr} {xs : List Int} (h : Fresh w base A xs) (hO : Only g w w') (hg : g < base) : Fresh w' base A xs := by
  rcases h with h | ⟨k, h1, h2, h3⟩
  · exact .inl h
  · exact .inr ⟨k, h1, h2, h3.only hO (by omega)⟩
theorem rdPart_len {xs : List Int} {m : Nat} {r : Rd} : (rdPart xs m r).1.length ≤ m := by
  unfold rdPart
  split
  · split
    · simp
    · simp; omega
  · simp
theorem rdPart_bytes {xs : List Int} (h : Bytes xs) (m : Nat) (r : Rd) : Bytes (rdPart xs m r).1 := by
  unfold rdPart
  split
  · split
    · exact Bytes.nil
    · exact (h.drop _).take _
  · exact Bytes.nil
theorem rdPart_place {xs : List Int} {m n : Nat} {r : Rd} (hl : xs.length = n) (h : r.p ≤ n) : (rdPart xs m r).2.p ≤ n := by
  unfold rdPart
  split
  · split
    · exact h
    · show r.p + m ≤ n; omega
  · exact h
set_option maxHeartbeats 1000000 in
theorem part_any (w : World) (g : Nat) (T : TypeId) (A : Option Addr) (n c : Nat) (xs : List Int) (r : Rd) (m : Nat) (rest : List Value) (hB : PRd w g T A n c r rest) (hx : Holds w w.heap.size A n c xs) (hp : r.p ≤ n) (hm : m ≤ 65536) :
    Calls Tryz.prog 196 #[.pointer (some ⟨g, 0, none⟩), .int .i64 (m : Int)] w (PPartPost w g T A n c (rdPart xs m r) rest) := by
  obtain ⟨p, er⟩ := r
  change p ≤ n at hp
  have hl := hx.len
  have hrm := hx.room
  have hft := hx.fit
  have hlt := hB.lt
  have HR0 : Hid (Blk w g T (.slice A n c :: .int .i64 (p : Int) :: .int .i64 er :: rest)) := hB
  have c2 : w.cell? ⟨g, 2, none⟩ = some (.int .i64 er) := Blk.at hB rfl
  by_cases he : er = 0
  rotate_left
  · have HQ : Hid (∀ e w', (∃ A' m, e = .returned (.slice A' m m) ∧ m = 0 ∧ Blk w' g T (.slice A n c :: .int .i64 (p : Int) :: .int .i64 er :: rest) ∧ Fresh w' w.heap.size A' [] ∧ Save g w w' ∧ (¬ er = 0 → A' = none ∧ m = 0)) → PPartPost w g T A n c (rdPart xs m ⟨p, er⟩) rest e w') := by
      intro e w' hh
      unfold rdPart
      rw [if_neg he]
      exact hh
    have hne : (er != 0) = true := by simpa using he
    clear hB hx hl he
    go_enter Tryz.func196, Tryz.ntmps196
    go_wp2
    go_ret
    exact HQ.out _ _ ⟨none, 0, rfl, rfl, HR0.out, nil_fresh _ _, Save.refl g w, fun _ => ⟨rfl, rfl⟩⟩
  subst he
  have C1 := Part_any w A n c xs (p : Int) (m : Int) hx (by omega) (by omega)
  unfold PartPost at C1
  have ep : partErr xs.length (p : Int) (m : Int) = if n < p + m then 4 else 0 := by
    unfold partErr
    rw [hl, if_neg (by omega)]
    by_cases h5 : n < p + m
    · rw [if_pos h5, if_pos (by omega)]
    · rw [if_neg h5, if_neg (by omega)]
  rw [ep] at C1
  by_cases hr : n < p + m
  · have HQ : Hid (∀ e w', (∃ A' m, e = .returned (.slice A' m m) ∧ m = 0 ∧ Blk w' g T (.slice A n c :: .int .i64 (p : Int) :: .int .i64 4 :: rest) ∧ Fresh w' w.heap.size A' [] ∧ Save g w w' ∧ (¬ (4 : Int) = 0 → A' = none ∧ m = 0)) → PPartPost w g T A n c (rdPart xs m ⟨p, 0⟩) rest e w') := by
      intro e w' hh
      unfold rdPart
      rw [if_pos rfl, if_pos (by rw [hl]; exact hr)]
      exact hh
    rw [if_pos hr] at C1 ep
    have ep2 : partOf xs (p : Int) (m : Int) = [] := by unfold partOf; rw [ep, if_neg (by decide)]
    rw [ep2] at C1
    have C1' : Hid (∀ k, Calls Tryz.prog 73 #[.slice A n c, .int .i64 (p : Int), .int .i64 (m : Int)] (w.drewN k) fun e w' => ∃ A', e = .returned (.tuple #[.slice A' 0 0, .int .i64 4]) ∧ Below (w.drewN k).heap.size (w.drewN k) w') := fun k => by
      have h1 := Part_any (w.drewN k) A n c xs (p : Int) (m : Int) (hx.drewN k) (by omega) (by omega)
      unfold PartPost at h1
      rw [ep, ep2] at h1
      exact h1.mono fun e w' ⟨A', h1, _, h3⟩ => ⟨A', h1, h3⟩
    clear hB hx hl C1 ep ep2
    go_enter Tryz.func196, Tryz.ntmps196
    go_upto_region 3 with fail
    refine wp_region_held (S := fun w' => Blk w' g T (.slice A n c :: .int .i64 (p : Int) :: .int .i64 0 :: rest)) (by kernel_rfl) ?_
    change wpAnyH _ _ _ _ _ _ _ _ w.drew
    have S0 : Hid (Blk w.drew g T (.slice A n c :: .int .i64 (p : Int) :: .int .i64 0 :: rest)) := HR0.out.drew
    have b0 : Hid (Below w.heap.size w w.drew) := (drewed w 1)
    refine wpAnyH_take (i := 0) (v := _) rfl (by kernel_rfl) (by kernel_rfl) (by kernel_rfl) (fun _ _ _ h => h) (yieldsIf_move (by kernel_rfl) (.tmp 0) rfl (.pointer (some ⟨g, 0, none⟩)) (by kernel_rfl)) S0.out ?_
    refine wpAnyH_take (i := 1) (v := _) rfl (by kernel_rfl) (by kernel_rfl) (by kernel_rfl) (fun _ _ _ h => h) (yieldsIf_nil (by kernel_rfl) (.tmp 13) rfl ⟨g, 0, none⟩ (by kernel_rfl)) S0.out ?_
    refine wpAnyH_take (i := 2) (v := _) rfl (by kernel_rfl) (by kernel_rfl) (by kernel_rfl) (fun _ _ _ h => h) (yieldsIf_fld (by kernel_rfl) _ (.tmp 14) 0 rfl (.pointer (some ⟨g, 0, none⟩)) (.pointer (some ⟨g, 0, none⟩)) (by kernel_rfl) (fld_tr0 g)) S0.out ?_
    refine wpAnyH_take (i := 3) (v := _) rfl (by kernel_rfl) (by kernel_rfl) (by kernel_rfl) (fun _ _ _ h => h) (yieldsIf_load_one (by kernel_rfl) _ (.tmp 15) rfl g 0 (by kernel_rfl) (.slice A n c) (fun w h => h.at rfl) _ Tryz.underlying31 rfl) S0.out ?_
    refine wpAnyH_take (i := 4) (v := _) rfl (by kernel_rfl) (by kernel_rfl) (by kernel_rfl) (fun _ _ _ h => h) (yieldsIf_move (by kernel_rfl) (.tmp 0) rfl (.pointer (some ⟨g, 0, none⟩)) (by kernel_rfl)) S0.out ?_
    refine wpAnyH_take (i := 5) (v := _) rfl (by kernel_rfl) (by kernel_rfl) (by kernel_rfl) (fun _ _ _ h => h) (yieldsIf_nil (by kernel_rfl) (.tmp 17) rfl ⟨g, 0, none⟩ (by kernel_rfl)) S0.out ?_
    refine wpAnyH_take (i := 6) (v := _) rfl (by kernel_rfl) (by kernel_rfl) (by kernel_rfl) (fun _ _ _ h => h) (yieldsIf_fld (by kernel_rfl) _ (.tmp 18) 1 rfl (.pointer (some ⟨g, 0, none⟩)) (.pointer (some ⟨g, 1, none⟩)) (by kernel_rfl) (fld_tr1 g)) S0.out ?_
    refine wpAnyH_take (i := 7) (v := _) rfl (by kernel_rfl) (by kernel_rfl) (by kernel_rfl) (fun _ _ _ h => h) (yieldsIf_load_one (by kernel_rfl) _ (.tmp 19) rfl g 1 (by kernel_rfl) (.int .i64 (p : Int)) (fun w h => h.at rfl) _ Tryz.underlying3 rfl) S0.out ?_
    refine wpAnyH_take (i := 8) (v := _) rfl (by kernel_rfl) (by kernel_rfl) (by kernel_rfl) (fun _ _ _ h => h) (yieldsIf_move (by kernel_rfl) (.tmp 1) rfl (.int .i64 (m : Int)) (by kernel_rfl)) S0.out ?_
    refine wpAnyH_one 9 _ (by kernel_rfl) rfl fun K hK => ?_
    go_simp
    refine (C1'.out 1).mono ?_
    rintro e v1 ⟨A', rfl, L1⟩
    have S1 : Hid (Blk v1 g T (.slice A n c :: .int .i64 (p : Int) :: .int .i64 0 :: rest)) := S0.out.over L1
    have b1 : Hid (Below w.heap.size w v1) := step b0.out L1
    refine hK _ _ S1.out ?_
    clear hK K L1
    refine wpAnyH_take (i := 10) (v := (.tuple #[.slice A' 0 0, .int .i64 4])) rfl (by kernel_rfl) (by kernel_rfl) (by kernel_rfl) (fun _ _ _ h => h) (.inl ⟨by kernel_rfl, fun w _ => by go_simp⟩) S1.out ?_
    refine wpAnyH_take (i := 11) (v := (.slice A' 0 0)) rfl (by kernel_rfl) (by kernel_rfl) (by kernel_rfl) (fun _ _ _ h => h) (.inl ⟨by kernel_rfl, fun w _ => by go_simp⟩) S1.out ?_
    refine wpAnyH_take (i := 12) (v := (.int .i64 4)) rfl (by kernel_rfl) (by kernel_rfl) (by kernel_rfl) (fun _ _ _ h => h) (.inl ⟨by kernel_rfl, fun w _ => by go_simp⟩) S1.out ?_
    refine wpAnyH_take (i := 13) (v := (.slice A' 0 0)) rfl (by kernel_rfl) (by kernel_rfl) (by kernel_rfl) (fun _ _ _ h => h) (.inl ⟨by kernel_rfl, fun w _ => by go_simp⟩) S1.out ?_
    refine wpAnyH_take (i := 14) (v := (.int .i64 4)) rfl (by kernel_rfl) (by kernel_rfl) (by kernel_rfl) (fun _ _ _ h => h) (.inl ⟨by kernel_rfl, fun w _ => by go_simp⟩) S1.out ?_
    refine wpAnyH_done (by kernel_rfl) ?_ _
    have S1' := Lib.hid S1.out
    have gd : v1.cell? ⟨g, 2, none⟩ = some (.int .i64 0) := S1.out.at rfl
    have gf := Blk.frozen S1.out 2
    go_wp2
    go_ret
    exact HQ.out _ _ ⟨none, 0, rfl, rfl, Blk.set S1'.out 2 _, nil_fresh _ _, (Save.of_below b1.out g).setCell 2 _, fun _ => ⟨rfl, rfl⟩⟩
  · have HQ : Hid (∀ e w', (∃ A' k, e = .returned (.slice A' k k) ∧ k = m ∧ Blk w' g T (.slice A n c :: .int .i64 ((p : Int) + m) :: .int .i64 0 :: rest) ∧ Fresh w' w.heap.size A' ((xs.drop p).take m) ∧ Save g w w') → PPartPost w g T A n c (rdPart xs m ⟨p, 0⟩) rest e w') := by
      rintro e w' ⟨A', k, h1, h2, h3, h4, h5⟩
      unfold rdPart
      rw [if_pos rfl, if_neg (by rw [hl]; exact hr)]
      unfold PPartPost PRd
      rw [show ((p + m : Nat) : Int) = (p : Int) + m from by omega]
      exact ⟨A', k, h1, by show k = ((xs.drop p).take m).length; rw [h2, List.length_take, List.length_drop]; omega, h3, h4, h5, fun h => absurd rfl h⟩
    rw [if_neg hr] at C1 ep
    have ep2 : partOf xs (p : Int) (m : Int) = (xs.drop p).take m := by unfold partOf; rw [ep, if_pos rfl]; rfl
    have el : ((xs.drop p).take m).length = m := by rw [List.length_take, List.length_drop]; omega
    have C1' : Hid (∀ k, Calls Tryz.prog 73 #[.slice A n c, .int .i64 (p : Int), .int .i64 (m : Int)] (w.drewN k) fun e w' => ∃ A', e = .returned (.tuple #[.slice A' m m, .int .i64 0]) ∧ Fresh w' (w.drewN k).heap.size A' ((xs.drop p).take m) ∧ Below (w.drewN k).heap.size (w.drewN k) w') := fun k => by
      have h1 := Part_any (w.drewN k) A n c xs (p : Int) (m : Int) (hx.drewN k) (by omega) (by omega)
      unfold PartPost at h1
      rw [ep, ep2, el] at h1
      exact h1
    obtain ⟨ys, hys⟩ : ∃ ys, ys = (xs.drop p).take m := ⟨_, rfl⟩
    rw [← hys] at HQ C1'
    have hwr : IntKind.i64.wrap ((p : Int) + m) = (p : Int) + m := by rw [IntKind.wrap_i64]; omega
    clear hB hx hl C1 ep ep2 el hys
    go_enter Tryz.func196, Tryz.ntmps196
    go_upto_region 3 with fail
    refine wp_region_held (S := fun w' => Blk w' g T (.slice A n c :: .int .i64 (p : Int) :: .int .i64 0 :: rest)) (by kernel_rfl) ?_
    change wpAnyH _ _ _ _ _ _ _ _ w.drew
    have S0 : Hid (Blk w.drew g T (.slice A n c :: .int .i64 (p : Int) :: .int .i64 0 :: rest)) := HR0.out.drew
    have b0 : Hid (Below w.heap.size w w.drew) := (drewed w 1)
    refine wpAnyH_take (i := 0) (v := _) rfl (by kernel_rfl) (by kernel_rfl) (by kernel_rfl) (fun _ _ _ h => h) (yieldsIf_move (by kernel_rfl) (.tmp 0) rfl (.pointer (some ⟨g, 0, none⟩)) (by kernel_rfl)) S0.out ?_
    refine wpAnyH_take (i := 1) (v := _) rfl (by kernel_rfl) (by kernel_rfl) (by kernel_rfl) (fun _ _ _ h => h) (yieldsIf_nil (by kernel_rfl) (.tmp 13) rfl ⟨g, 0, none⟩ (by kernel_rfl)) S0.out ?_
    refine wpAnyH_take (i := 2) (v := _) rfl (by kernel_rfl) (by kernel_rfl) (by kernel_rfl) (fun _ _ _ h => h) (yieldsIf_fld (by kernel_rfl) _ (.tmp 14) 0 rfl (.pointer (some ⟨g, 0, none⟩)) (.pointer (some ⟨g, 0, none⟩)) (by kernel_rfl) (fld_tr0 g)) S0.out ?_
    refine wpAnyH_take (i := 3) (v := _) rfl (by kernel_rfl) (by kernel_rfl) (by kernel_rfl) (fun _ _ _ h => h) (yieldsIf_load_one (by kernel_rfl) _ (.tmp 15) rfl g 0 (by kernel_rfl) (.slice A n c) (fun w h => h.at rfl) _ Tryz.underlying31 rfl) S0.out ?_
    refine wpAnyH_take (i := 4) (v := _) rfl (by kernel_rfl) (by kernel_rfl) (by kernel_rfl) (fun _ _ _ h => h) (yieldsIf_move (by kernel_rfl) (.tmp 0) rfl (.pointer (some ⟨g, 0, none⟩)) (by kernel_rfl)) S0.out ?_
    refine wpAnyH_take (i := 5) (v := _) rfl (by kernel_rfl) (by kernel_rfl) (by kernel_rfl) (fun _ _ _ h => h) (yieldsIf_nil (by kernel_rfl) (.tmp 17) rfl ⟨g, 0, none⟩ (by kernel_rfl)) S0.out ?_
    refine wpAnyH_take (i := 6) (v := _) rfl (by kernel_rfl) (by kernel_rfl) (by kernel_rfl) (fun _ _ _ h => h) (yieldsIf_fld (by kernel_rfl) _ (.tmp 18) 1 rfl (.pointer (some ⟨g, 0, none⟩)) (.pointer (some ⟨g, 1, none⟩)) (by kernel_rfl) (fld_tr1 g)) S0.out ?_
    refine wpAnyH_take (i := 7) (v := _) rfl (by kernel_rfl) (by kernel_rfl) (by kernel_rfl) (fun _ _ _ h => h) (yieldsIf_load_one (by kernel_rfl) _ (.tmp 19) rfl g 1 (by kernel_rfl) (.int .i64 (p : Int)) (fun w h => h.at rfl) _ Tryz.underlying3 rfl) S0.out ?_
    refine wpAnyH_take (i := 8) (v := _) rfl (by kernel_rfl) (by kernel_rfl) (by kernel_rfl) (fun _ _ _ h => h) (yieldsIf_move (by kernel_rfl) (.tmp 1) rfl (.int .i64 (m : Int)) (by kernel_rfl)) S0.out ?_
    refine wpAnyH_one 9 _ (by kernel_rfl) rfl fun K hK => ?_
    go_simp
    refine (C1'.out 1).mono ?_
    rintro e v1 ⟨A', rfl, hfr, L1⟩
    have S1 : Hid (Blk v1 g T (.slice A n c :: .int .i64 (p : Int) :: .int .i64 0 :: rest)) := S0.out.over L1
    have b1 : Hid (Below w.heap.size w v1) := step b0.out L1
    have HF : Hid (Fresh v1 w.heap.size A' ys) := hfr
    refine hK _ _ S1.out ?_
    clear hK K hfr L1
    refine wpAnyH_take (i := 10) (v := (.tuple #[.slice A' m m, .int .i64 0])) rfl (by kernel_rfl) (by kernel_rfl) (by kernel_rfl) (fun _ _ _ h => h) (.inl ⟨by kernel_rfl, fun w _ => by go_simp⟩) S1.out ?_
    refine wpAnyH_take (i := 11) (v := (.slice A' m m)) rfl (by kernel_rfl) (by kernel_rfl) (by kernel_rfl) (fun _ _ _ h => h) (.inl ⟨by kernel_rfl, fun w _ => by go_simp⟩) S1.out ?_
    refine wpAnyH_take (i := 12) (v := (.int .i64 0)) rfl (by kernel_rfl) (by kernel_rfl) (by kernel_rfl) (fun _ _ _ h => h) (.inl ⟨by kernel_rfl, fun w _ => by go_simp⟩) S1.out ?_
    refine wpAnyH_take (i := 13) (v := (.slice A' m m)) rfl (by kernel_rfl) (by kernel_rfl) (by kernel_rfl) (fun _ _ _ h => h) (.inl ⟨by kernel_rfl, fun w _ => by go_simp⟩) S1.out ?_
    refine wpAnyH_take (i := 14) (v := (.int .i64 0)) rfl (by kernel_rfl) (by kernel_rfl) (by kernel_rfl) (fun _ _ _ h => h) (.inl ⟨by kernel_rfl, fun w _ => by go_simp⟩) S1.out ?_
    refine wpAnyH_done (by kernel_rfl) ?_ _
    have S1' := Lib.hid S1.out
    have gd : v1.cell? ⟨g, 2, none⟩ = some (.int .i64 0) := S1.out.at rfl
    have gd1 : v1.cell? ⟨g, 1, none⟩ = some (.int .i64 (p : Int)) := S1.out.at rfl
    have gf := Blk.frozen S1.out 1
    go_wp2
    go_ret
    exact HQ.out _ _ ⟨A', m, rfl, rfl, Blk.set S1'.out 1 _, HF.out.onlyW (only_setCell _ g 1 _) hlt, (Save.of_below b1.out g).setCell 1 _⟩
theorem rdPart_ok {xs : List Int} {m n : Nat} {r : Rd} (hl : xs.length = n) (h : (rdPart xs m r).2.e = 0) : (rdPart xs m r).1.length = m := by
  unfold rdPart at h ⊢
  by_cases h1 : r.e = 0
  · rw [if_pos h1] at h ⊢
    by_cases h2 : xs.length < r.p + m
    · rw [if_pos h2] at h; exact absurd (show (4 : Int) = 0 from h) (by decide)
    · rw [if_neg h2]; simp; omega
  · rw [if_neg h1] at h; exact absurd h h1
theorem rdPart_bad {xs : List Int} {m : Nat} {r : Rd} (h : ¬ (rdPart xs m r).2.e = 0) : (rdPart xs m r).1 = [] := by
  unfold rdPart at h ⊢
  by_cases h1 : r.e = 0
  · rw [if_pos h1] at h ⊢
    by_cases h2 : xs.length < r.p + m
    · rw [if_pos h2]
    · rw [if_neg h2] at h; exact absurd rfl h
  · rw [if_neg h1]
/-- a number's reading is that of its part -/
theorem rdPart_N {xs : List Int} {s : Nat} {r : Rd} (hs : sizeOk (s : Int) = true) : (rdPart xs s r).2 = (rdN xs s r).2 ∧ getOf (rdPart xs s r).1 0 (s : Int) = (rdN xs s r).1 := by
  have hs8 : 1 ≤ s ∧ s ≤ 8 := by rcases sizeOk_cases hs with h | h | h | h <;> omega
  have h0 : getOf [] 0 (s : Int) = 0 := by
    have he : getErr 0 0 (s : Int) = 4 := by unfold getErr partErr; rw [if_pos hs, if_neg (by omega), if_pos (by omega)]
    show (if getErr 0 0 (s : Int) = 0 then _ else _) = _
    rw [he, if_neg (by decide)]
  unfold rdPart rdN
  by_cases h1 : r.e = 0
  · rw [if_pos h1, if_pos h1]
    by_cases h2 : xs.length < r.p + s
    · rw [if_pos h2, if_pos h2]; exact ⟨rfl, h0⟩
    · rw [if_neg h2, if_neg h2]
      refine ⟨rfl, ?_⟩
      have hl : ((xs.drop r.p).take s).length = s := by rw [List.length_take, List.length_drop]; omega
      have he : getErr s 0 (s : Int) = 0 := by unfold getErr partErr; rw [if_pos hs, if_neg (by omega), if_neg (by omega)]
      unfold getOf numAt
      rw [hl, he, if_pos rfl]
      simp [List.take_take]
  · rw [if_neg h1, if_neg h1]; exact ⟨rfl, h0⟩
def PNumPost (w : World) (g : Nat) (T : TypeId) (A : Option Addr) (n c : Nat) (q : Int × Rd) (rest : List Value) (e : Ending) (w' : World) : Prop := e = .returned (.int .u64 q.1) ∧ PRd w' g T A n c q.2 rest ∧ Save g w w'
set_option maxHeartbeats 1000000 in
theorem rnumber_any (w : World) (g : Nat) (T : TypeId) (A : Option Addr) (n c : Nat) (xs : List Int) (r : Rd) (s : Nat) (rest : List Value) (hB : PRd w g T A n c r rest) (hx : Holds w w.heap.size A n c xs) (hp : r.p ≤ n) (hs : sizeOk (s : Int) = true) :
    Calls Tryz.prog 150 #[.pointer (some ⟨g, 0, none⟩), .int .i64 (s : Int)] w (PNumPost w g T A n c (rdN xs s r) rest) := by
  have hs8 : 1 ≤ s ∧ s ≤ 8 := by rcases sizeOk_cases hs with h | h | h | h <;> omega
  obtain ⟨hs1, hs8⟩ := hs8
  have C1 := part_any w g T A n c xs r s rest hB hx hp (by omega)
  unfold PPartPost at C1
  obtain ⟨e2, e1⟩ := rdPart_N (xs := xs) (r := r) hs
  have CG : Hid (∀ (w : World) (A : Option Addr) (m : Nat), Holds w w.heap.size A m m (rdPart xs s r).1 → ∃ er, Calls Tryz.prog 124 #[.slice A m m, .int .i64 0, .int .i64 (s : Int)] w fun e w' => e = .returned (.tuple #[.int .u64 (rdN xs s r).1, .int .i64 er]) ∧ w = w') := fun w A m hh => by
    have h1 := Get_any w w.heap.size A m m _ 0 (s : Int) hh (by omega) (by omega)
    rw [e1] at h1
    exact ⟨_, h1⟩
  have HQ : Hid (∀ e w', (e = .returned (.int .u64 (rdN xs s r).1) ∧ PRd w' g T A n c (rdN xs s r).2 rest ∧ Save g w w') → PNumPost w g T A n c (rdN xs s r) rest e w') := fun _ _ h => h
  rw [e2] at C1
  have HYB := Lib.hid (rdPart_bytes hx.byte s r)
  have hyl : (rdPart xs s r).1.length ≤ s := rdPart_len
  obtain ⟨ys, hys⟩ : ∃ ys, ys = (rdPart xs s r).1 := ⟨_, rfl⟩
  obtain ⟨z, hz⟩ : ∃ z, z = (rdN xs s r).1 := ⟨_, rfl⟩
  obtain ⟨r', hr'⟩ : ∃ z, z = (rdN xs s r).2 := ⟨_, rfl⟩
  rw [← hys] at C1 CG HYB hyl
  rw [← hz] at CG HQ
  rw [← hr'] at C1 HQ
  have C1' := Lib.hid C1
  clear C1 e2 e1 hB hx hys hz hr' hp
  go_enter Tryz.func150, Tryz.ntmps150
  go_wp2_with fail
  refine C1'.out.mono ?_
  rintro e w1 ⟨A', m, rfl, hm, hB1, hfr, hS, _⟩
  have HH := Lib.hid (hfr.holds hm.symm HYB.out (by omega))
  have HB1 := Lib.hid hB1
  have HS1 := Lib.hid hS
  obtain ⟨er, CG1⟩ := CG.out _ _ _ HH.out
  have CG2 := Lib.hid CG1
  clear hm hfr hB1 hS CG1 CG hyl
  go_wp2_with fail
  refine CG2.out.mono ?_
  rintro e w2 ⟨rfl, rfl⟩
  go_wp2
  go_ret
  exact HQ.out _ _ ⟨rfl, HB1.out, HS1.out⟩
/-- what 'noughts' leaves -/
def rdZ (xs : List Int) (m : Nat) (r : Rd) : Rd := if (rdPart xs m r).2.e = 0 then (if zeroOf (rdPart xs m r).1 0 (m : Int) = true then (rdPart xs m r).2 else ⟨(rdPart xs m r).2.p, 5⟩) else (rdPart xs m r).2
def PEndPost (w : World) (g : Nat) (T : TypeId) (A : Option Addr) (n c : Nat) (r : Rd) (rest : List Value) (e : Ending) (w' : World) : Prop := e = .returned (.tuple #[]) ∧ PRd w' g T A n c r rest ∧ Save g w w'
set_option maxHeartbeats 1000000 in
theorem noughts_any (w : World) (g : Nat) (T : TypeId) (A : Option Addr) (n c : Nat) (xs : List Int) (r : Rd) (m : Nat) (rest : List Value) (hB : PRd w g T A n c r rest) (hx : Holds w w.heap.size A n c xs) (hp : r.p ≤ n) (hm0 : m ≤ 65536) :
    Calls Tryz.prog 145 #[.pointer (some ⟨g, 0, none⟩), .int .i64 (m : Int)] w (PEndPost w g T A n c (rdZ xs m r) rest) := by
  have C1 := part_any w g T A n c xs r m rest hB hx hp hm0
  unfold PPartPost at C1
  have CZ : Hid (∀ (w : World) (A : Option Addr) (k : Nat), Holds w w.heap.size A k k (rdPart xs m r).1 → Calls Tryz.prog 198 #[.slice A k k, .int .i64 0, .int .i64 (m : Int)] w fun e w' => e = .returned (.bool (zeroOf (rdPart xs m r).1 0 (m : Int))) ∧ w = w') := fun w A k hh => Zero_any w _ A k k _ 0 (m : Int) hh (by omega) (by omega)
  have HYB := Lib.hid (rdPart_bytes hx.byte m r)
  have hyl : (rdPart xs m r).1.length ≤ m := rdPart_len
  have hQ : ∀ e w', (e = .returned (.tuple #[]) ∧ PRd w' g T A n c (if (rdPart xs m r).2.e = 0 then (if zeroOf (rdPart xs m r).1 0 (m : Int) = true then (rdPart xs m r).2 else ⟨(rdPart xs m r).2.p, 5⟩) else (rdPart xs m r).2) rest ∧ Save g w w') → PEndPost w g T A n c (rdZ xs m r) rest e w' := fun _ _ h => h
  obtain ⟨z, hz⟩ : ∃ z, z = zeroOf (rdPart xs m r).1 0 (m : Int) := ⟨_, rfl⟩
  rw [← hz] at CZ hQ
  obtain ⟨ys, hys⟩ : ∃ ys, ys = (rdPart xs m r).1 := ⟨_, rfl⟩
  rw [← hys] at C1 CZ HYB hyl
  obtain ⟨q, hq⟩ : ∃ q, q = (rdPart xs m r).2 := ⟨_, rfl⟩
  rw [← hq] at C1 hQ
  obtain ⟨p', e'⟩ := q
  have C1' := Lib.hid C1
  unfold PRd at C1' hQ
  clear C1 hB hx hys hz hp hq
  by_cases he : e' = 0
  · subst he
    cases z
    · have HQ : Hid (∀ e w', (e = .returned (.tuple #[]) ∧ Blk w' g T (.slice A n c :: .int .i64 (p' : Int) :: .int .i64 5 :: rest) ∧ Save g w w') → PEndPost w g T A n c (rdZ xs m r) rest e w') := by
        intro e w' hh
        refine hQ e w' ?_
        rw [if_pos rfl, if_neg (by decide)]
        exact hh
      clear hQ
      go_enter Tryz.func145, Tryz.ntmps145
      go_wp2_with fail
      refine C1'.out.mono ?_
      rintro e w1 ⟨A', k, rfl, hk, hB1, hfr, hS, _⟩
      have HH := Lib.hid (hfr.holds hk.symm HYB.out (by omega))
      have HB1 : Hid (Blk w1 g T (.slice A n c :: .int .i64 (p' : Int) :: .int .i64 0 :: rest)) := hB1
      have HS1 := Lib.hid hS
      have gd : w1.cell? ⟨g, 2, none⟩ = some (.int .i64 0) := HB1.out.at rfl
      have gf := Blk.frozen HB1.out 2
      have CZ1 := Lib.hid (CZ.out _ _ _ HH.out)
      clear hk hfr hB1 hS CZ hyl
      go_wp2_with fail
      refine CZ1.out.mono ?_
      rintro e w2 ⟨rfl, rfl⟩
      go_wp2
      go_end0
      exact HQ.out _ _ ⟨rfl, Blk.set HB1.out 2 _, HS1.out.setCell 2 _⟩
    · have HQ : Hid (∀ e w', (e = .returned (.tuple #[]) ∧ Blk w' g T (.slice A n c :: .int .i64 (p' : Int) :: .int .i64 0 :: rest) ∧ Save g w w') → PEndPost w g T A n c (rdZ xs m r) rest e w') := by
        intro e w' hh
        refine hQ e w' ?_
        rw [if_pos rfl, if_pos rfl]
        exact hh
      clear hQ
      go_enter Tryz.func145, Tryz.ntmps145
      go_wp2_with fail
      refine C1'.out.mono ?_
      rintro e w1 ⟨A', k, rfl, hk, hB1, hfr, hS, _⟩
      have HH := Lib.hid (hfr.holds hk.symm HYB.out (by omega))
      have HB1 : Hid (Blk w1 g T (.slice A n c :: .int .i64 (p' : Int) :: .int .i64 0 :: rest)) := hB1
      have HS1 := Lib.hid hS
      have gd : w1.cell? ⟨g, 2, none⟩ = some (.int .i64 0) := HB1.out.at rfl
      have CZ1 := Lib.hid (CZ.out _ _ _ HH.out)
      clear hk hfr hB1 hS CZ hyl
      go_wp2_with fail
      refine CZ1.out.mono ?_
      rintro e w2 ⟨rfl, rfl⟩
      go_wp2
      go_end0
      exact HQ.out _ _ ⟨rfl, HB1.out, HS1.out⟩
  · have HQ : Hid (∀ e w', (e = .returned (.tuple #[]) ∧ Blk w' g T (.slice A n c :: .int .i64 (p' : Int) :: .int .i64 e' :: rest) ∧ Save g w w') → PEndPost w g T A n c (rdZ xs m r) rest e w') := by
      intro e w' hh
      refine hQ e w' ?_
      rw [if_neg he]
      exact hh
    have hne : (e' == 0) = false := by simpa using he
    clear hQ CZ he
    go_enter Tryz.func145, Tryz.ntmps145
    go_wp2_with fail
    refine C1'.out.mono ?_
    rintro e w1 ⟨A', k, rfl, hk, hB1, hfr, hS, _⟩
    have HB1 : Hid (Blk w1 g T (.slice A n c :: .int .i64 (p' : Int) :: .int .i64 e' :: rest)) := hB1
    have HS1 := Lib.hid hS
    have gd : w1.cell? ⟨g, 2, none⟩ = some (.int .i64 e') := HB1.out.at rfl
    clear hk hfr hB1 hS hyl
    go_wp2
    go_end0
    exact HQ.out _ _ ⟨rfl, HB1.out, HS1.out⟩
set_option maxHeartbeats 1000000 in
theorem fill_any (w : World) (g : Nat) (T : TypeId) (A : Option Addr) (n c : Nat) (xs : List Int) (r : Rd) (o m kc : Nat) (rest : List Value) (hB : PRd w g T A n c r rest) (hx : Holds w w.heap.size A n c xs) (hp : r.p ≤ n) (hm0 : 0 < m) (hm1 : m ≤ 65536) (ho : o + m ≤ rest.length) :
    Calls Tryz.prog 143 #[.pointer (some ⟨g, 0, none⟩), .slice (some ⟨g, 3 + o, none⟩) m kc] w (PEndPost w g T A n c (rdPart xs m r).2 (spliced rest o (rdPart xs m r).1)) := by
  have C1 := part_any w g T A n c xs r m rest hB hx hp hm1
  unfold PPartPost at C1
  have HYB := Lib.hid (rdPart_bytes hx.byte m r)
  have hok := rdPart_ok (m := m) (r := r) hx.len
  have hbad := rdPart_bad (xs := xs) (m := m) (r := r)
  have hQ : ∀ e w', (e = .returned (.tuple #[]) ∧ PRd w' g T A n c (rdPart xs m r).2 (spliced rest o (rdPart xs m r).1) ∧ Save g w w') → PEndPost w g T A n c (rdPart xs m r).2 (spliced rest o (rdPart xs m r).1) e w' := fun _ _ h => h
  obtain ⟨ys, hys⟩ : ∃ ys, ys = (rdPart xs m r).1 := ⟨_, rfl⟩
  rw [← hys] at C1 HYB hok hbad hQ ⊢
  obtain ⟨q, hq⟩ : ∃ q, q = (rdPart xs m r).2 := ⟨_, rfl⟩
  rw [← hq] at C1 hQ hok hbad ⊢
  obtain ⟨p', e'⟩ := q
  have C1' := Lib.hid C1
  unfold PRd at C1' hQ
  have HQ := Lib.hid hQ
  clear C1 hB hx hys hp hq hQ
  by_cases he : e' = 0
  · have hyl := hok he
    have HSP : Hid (spliced (.slice A n c :: .int .i64 (p' : Int) :: .int .i64 e' :: rest) (3 + o) ys = .slice A n c :: .int .i64 (p' : Int) :: .int .i64 e' :: spliced rest o ys) := by
      show _ = _
      unfold spliced
      rw [show 3 + o = o + 1 + 1 + 1 from by omega, show o + 1 + 1 + 1 + ys.length = (o + ys.length) + 1 + 1 + 1 from by omega]
      rfl
    have HFIT : Hid (3 + o + m ≤ (Value.slice A n c :: Value.int .i64 (p' : Int) :: Value.int .i64 e' :: rest).length) := by
      show _ ≤ _
      simp only [List.length_cons]
      omega
    have HYL := Lib.hid hyl
    obtain ⟨cur, hcur⟩ : ∃ cur, cur = Value.slice A n c :: Value.int .i64 (p' : Int) :: Value.int .i64 e' :: rest := ⟨_, rfl⟩
    obtain ⟨nxt, hnxt⟩ : ∃ nxt, nxt = spliced rest o ys := ⟨_, rfl⟩
    have HC : Hid (cur = Value.slice A n c :: Value.int .i64 (p' : Int) :: Value.int .i64 e' :: rest) := hcur
    rw [← hcur] at HSP HFIT
    rw [← hnxt] at HSP HQ ⊢
    clear hcur hnxt hok hbad hyl he
    go_enter Tryz.func143, Tryz.ntmps143
    go_wp2_with fail
    refine C1'.out.mono ?_
    rintro e w1 ⟨A', k, rfl, hk, hB1, hfr, hS, _⟩
    obtain rfl : k = m := by rw [hk]; exact HYL.out
    have HH := Lib.hid (hfr.holds HYL.out HYB.out (by omega))
    have HB1 : Hid (Blk w1 g T cur) := by rw [HC.out]; exact hB1
    have HS1 := Lib.hid hS
    clear hk hfr hB1 hS
    go_wp2_with (first
      | ((with_reducible show wpList _ _ _ (⟨some 9, _, _, _, _, _⟩ :: _) _ _); refine wpList_copy_mid rfl (.tmp 4) (.tmp 8) rfl g (3 + o) T k kc k k A' rfl rfl cur ys _ HB1 HH.out hm0 (Nat.le_refl _) HFIT ?_; intro w2 X2 O2)
      | fail)
    go_end0
    refine HQ.out _ _ ⟨rfl, ?_, HS1.out.trans (Save.of_only O2.out)⟩
    rw [← HSP.out]
    exact X2.out
  · have hyn := hbad he
    have HQ2 : Hid (∀ e w', (e = .returned (.tuple #[]) ∧ Blk w' g T (.slice A n c :: .int .i64 (p' : Int) :: .int .i64 e' :: rest) ∧ Save g w w') → PEndPost w g T A n c ⟨p', e'⟩ (spliced rest o ys) e w') := by
      intro e w' hh
      have e1 : spliced rest o ys = rest := by rw [hyn]; unfold spliced; simp
      rw [e1] at HQ ⊢
      exact HQ.out e w' hh
    have HE := Lib.hid he
    clear HQ hok hbad hyn he
    go_enter Tryz.func143, Tryz.ntmps143
    go_wp2_with fail
    refine C1'.out.mono ?_
    rintro e w1 ⟨A', k, rfl, hk, hB1, hfr, hS, hz⟩
    obtain ⟨rfl, rfl⟩ := hz HE.out
    have HB1 : Hid (Blk w1 g T (.slice A n c :: .int .i64 (p' : Int) :: .int .i64 e' :: rest)) := hB1
    have HS1 := Lib.hid hS
    clear hk hfr hB1 hS hz
    go_wp2_with (first
      | ((with_reducible show wpList _ _ _ (⟨some 9, _, _, _, _, _⟩ :: _) _ _); refine wpList_copy_nothing rfl (.tmp 4) (.tmp 8) 31 31 rfl 5 Tryz.underlying31 (by kernel_rfl) (some ⟨g, 3 + o, none⟩) none m kc 0 0 rfl rfl (Nat.zero_min _) ?_)
      | fail)
    go_end0
    exact HQ2.out _ _ ⟨rfl, HB1.out, HS1.out⟩
set_option maxHeartbeats 1000000 in
theorem rend_any (w : World) (g : Nat) (T : TypeId) (A : Option Addr) (n c : Nat) (xs : List Int) (r : Rd) (rest : List Value) (hB : PRd w g T A n c r rest) (hl : xs.length = n) (hn : n ≤ 281474976710656) (hp : r.p ≤ n) :
    Calls Tryz.prog 146 #[.pointer (some ⟨g, 0, none⟩)] w fun e w' => e = .returned (.int .i64 (rdEnd xs r)) ∧ ∃ k, w.drewN k = w' := by
  obtain ⟨p, er⟩ := r
  change p ≤ n at hp
  have c0 : w.cell? ⟨g, 0, none⟩ = some (.slice A n c) := Blk.at hB rfl
  have c1 : w.cell? ⟨g, 1, none⟩ = some (.int .i64 (p : Int)) := Blk.at hB rfl
  have c2 : w.cell? ⟨g, 2, none⟩ = some (.int .i64 er) := Blk.at hB rfl
  have hR : rdEnd xs ⟨p, er⟩ = if er = 0 ∧ p ≠ n then 5 else er := by unfold rdEnd; rw [hl]
  rw [hR]
  clear hB hR
  by_cases he : er = 0
  · subst he
    by_cases hpn : p = n
    · rw [if_neg (fun h => h.2 hpn)]
      have hb : decide (p < n) = false := by rw [hpn]; simp
      have hb2 : ¬ p < n := by omega
      clear hpn
      go_enter Tryz.func146, Tryz.ntmps146
      go_wp2
      go_quiet (fail)
      go_wp2
      go_ret
      exact ⟨rfl, _, rfl⟩
    · rw [if_pos ⟨rfl, hpn⟩]
      have hb2 : p < n := by omega
      have hb : decide (p < n) = true := by rw [decide_eq_true_iff]; omega
      clear hpn
      go_enter Tryz.func146, Tryz.ntmps146
      go_wp2
      go_quiet (fail)
      go_wp2
      go_ret
      exact ⟨rfl, _, rfl⟩
  · rw [if_neg (fun h => he h.1)]
    have hb : (er == 0) = false := by simpa using he
    clear he
    go_enter Tryz.func146, Tryz.ntmps146
    go_wp2
    go_quiet (fail)
    go_wp2
    go_ret
    exact ⟨rfl, _, rfl⟩
/-- what 'text' takes -/
def prdText (xs : List Int) (r : Rd) : List UInt8 × Rd := if r.e = 0 then (gtextOf xs r.p, ⟨(gtextNext xs r.p).toNat, gtextErr xs r.p⟩) else ([], r)
theorem gtextNext_nonneg {xs : List Int} (hx : Bytes xs) (a : Int) (ha : 0 ≤ a) : 0 ≤ gtextNext xs a ∧ gtextNext xs a ≤ xs.length := by
  unfold gtextNext
  split
  · rename_i h
    unfold growNext
    split
    · rename_i h2
      have := growErr_room h2
      have := rowN_bounds xs hx a
      omega
    · omega
  · omega
def PTextRPost (w : World) (g : Nat) (T : TypeId) (A : Option Addr) (n c : Nat) (q : List UInt8 × Rd) (rest : List Value) (e : Ending) (w' : World) : Prop := e = .returned (.string ⟨q.1.toArray⟩) ∧ PRd w' g T A n c q.2 rest ∧ Save g w w'
set_option maxHeartbeats 1000000 in
theorem rtext_any (w : World) (g : Nat) (T : TypeId) (A : Option Addr) (n c : Nat) (xs : List Int) (r : Rd) (rest : List Value) (hB : PRd w g T A n c r rest) (hx : Holds w w.heap.size A n c xs) (hp : r.p ≤ n) :
    Calls Tryz.prog 144 #[.pointer (some ⟨g, 0, none⟩)] w (PTextRPost w g T A n c (prdText xs r) rest) := by
  obtain ⟨p, er⟩ := r
  change p ≤ n at hp
  have hl := hx.len
  have hrm := hx.room
  have hft := hx.fit
  have hlt := hB.lt
  have HR0 : Hid (Blk w g T (.slice A n c :: .int .i64 (p : Int) :: .int .i64 er :: rest)) := hB
  have c2 : w.cell? ⟨g, 2, none⟩ = some (.int .i64 er) := Blk.at hB rfl
  by_cases he : er = 0
  rotate_left
  · have HQ : Hid (∀ e w', (e = .returned (.string .empty) ∧ Blk w' g T (.slice A n c :: .int .i64 (p : Int) :: .int .i64 er :: rest) ∧ Save g w w') → PTextRPost w g T A n c (prdText xs ⟨p, er⟩) rest e w') := by
      intro e w' hh
      unfold prdText
      rw [if_neg he]
      exact hh
    have hne : (er != 0) = true := by simpa using he
    clear hB hx hl he
    go_enter Tryz.func144, Tryz.ntmps144
    go_wp2
    go_ret
    exact HQ.out _ _ ⟨rfl, HR0.out, Save.refl g w⟩
  subst he
  obtain ⟨hg0, hg1⟩ := gtextNext_nonneg hx.byte (p : Int) (by omega)
  have C1' : Hid (∀ k, Calls Tryz.prog 197 #[.slice A n c, .int .i64 (p : Int)] (w.drewN k) fun e w' => e = .returned (.tuple #[.string ⟨(gtextOf xs (p : Int)).toArray⟩, .int .i64 (gtextNext xs (p : Int)), .int .i64 (gtextErr xs (p : Int))]) ∧ Below (w.drewN k).heap.size (w.drewN k) w') := fun k => GetText_any (w.drewN k) A n c xs (p : Int) (hx.drewN k) (by omega)
  have HQ : Hid (∀ e w', (e = .returned (.string ⟨(gtextOf xs (p : Int)).toArray⟩) ∧ Blk w' g T (.slice A n c :: .int .i64 (gtextNext xs (p : Int)) :: .int .i64 (gtextErr xs (p : Int)) :: rest) ∧ Save g w w') → PTextRPost w g T A n c (prdText xs ⟨p, 0⟩) rest e w') := by
    intro e w' hh
    unfold prdText
    rw [if_pos rfl]
    unfold PTextRPost PRd
    show _ ∧ Blk w' g T (.slice A n c :: .int .i64 (((gtextNext xs (p : Int)).toNat : Nat) : Int) :: _) ∧ _
    rw [Int.toNat_of_nonneg hg0]
    exact hh
  obtain ⟨tx, htx⟩ : ∃ z, z = gtextOf xs (p : Int) := ⟨_, rfl⟩
  obtain ⟨nx, hnx⟩ : ∃ z, z = gtextNext xs (p : Int) := ⟨_, rfl⟩
  obtain ⟨ex, hex⟩ : ∃ z, z = gtextErr xs (p : Int) := ⟨_, rfl⟩
  rw [← htx, ← hnx, ← hex] at C1' HQ
  rw [← hnx] at hg0 hg1
  clear hB hx hl htx hnx hex
  go_enter Tryz.func144, Tryz.ntmps144
  go_upto_region 3 with fail
  refine wp_region_held (S := fun w' => Blk w' g T (.slice A n c :: .int .i64 (p : Int) :: .int .i64 0 :: rest)) (by kernel_rfl) ?_
  change wpAnyH _ _ _ _ _ _ _ _ w.drew
  have S0 : Hid (Blk w.drew g T (.slice A n c :: .int .i64 (p : Int) :: .int .i64 0 :: rest)) := HR0.out.drew
  have b0 : Hid (Below w.heap.size w w.drew) := (drewed w 1)
  refine wpAnyH_take (i := 0) (v := _) rfl (by kernel_rfl) (by kernel_rfl) (by kernel_rfl) (fun _ _ _ h => h) (yieldsIf_move (by kernel_rfl) (.tmp 0) rfl (.pointer (some ⟨g, 0, none⟩)) (by kernel_rfl)) S0.out ?_
  refine wpAnyH_take (i := 1) (v := _) rfl (by kernel_rfl) (by kernel_rfl) (by kernel_rfl) (fun _ _ _ h => h) (yieldsIf_nil (by kernel_rfl) (.tmp 12) rfl ⟨g, 0, none⟩ (by kernel_rfl)) S0.out ?_
  refine wpAnyH_take (i := 2) (v := _) rfl (by kernel_rfl) (by kernel_rfl) (by kernel_rfl) (fun _ _ _ h => h) (yieldsIf_fld (by kernel_rfl) _ (.tmp 13) 0 rfl (.pointer (some ⟨g, 0, none⟩)) (.pointer (some ⟨g, 0, none⟩)) (by kernel_rfl) (fld_tr0 g)) S0.out ?_
  refine wpAnyH_take (i := 3) (v := _) rfl (by kernel_rfl) (by kernel_rfl) (by kernel_rfl) (fun _ _ _ h => h) (yieldsIf_load_one (by kernel_rfl) _ (.tmp 14) rfl g 0 (by kernel_rfl) (.slice A n c) (fun w h => h.at rfl) _ Tryz.underlying31 rfl) S0.out ?_
  refine wpAnyH_take (i := 4) (v := _) rfl (by kernel_rfl) (by kernel_rfl) (by kernel_rfl) (fun _ _ _ h => h) (yieldsIf_move (by kernel_rfl) (.tmp 0) rfl (.pointer (some ⟨g, 0, none⟩)) (by kernel_rfl)) S0.out ?_
  refine wpAnyH_take (i := 5) (v := _) rfl (by kernel_rfl) (by kernel_rfl) (by kernel_rfl) (fun _ _ _ h => h) (yieldsIf_nil (by kernel_rfl) (.tmp 16) rfl ⟨g, 0, none⟩ (by kernel_rfl)) S0.out ?_
  refine wpAnyH_take (i := 6) (v := _) rfl (by kernel_rfl) (by kernel_rfl) (by kernel_rfl) (fun _ _ _ h => h) (yieldsIf_fld (by kernel_rfl) _ (.tmp 17) 1 rfl (.pointer (some ⟨g, 0, none⟩)) (.pointer (some ⟨g, 1, none⟩)) (by kernel_rfl) (fld_tr1 g)) S0.out ?_
  refine wpAnyH_take (i := 7) (v := _) rfl (by kernel_rfl) (by kernel_rfl) (by kernel_rfl) (fun _ _ _ h => h) (yieldsIf_load_one (by kernel_rfl) _ (.tmp 18) rfl g 1 (by kernel_rfl) (.int .i64 (p : Int)) (fun w h => h.at rfl) _ Tryz.underlying3 rfl) S0.out ?_
  refine wpAnyH_one 8 _ (by kernel_rfl) rfl fun K hK => ?_
  go_simp
  refine (C1'.out 1).mono ?_
  rintro e v1 ⟨rfl, L1⟩
  have S1 : Hid (Blk v1 g T (.slice A n c :: .int .i64 (p : Int) :: .int .i64 0 :: rest)) := S0.out.over L1
  have b1 : Hid (Below w.heap.size w v1) := step b0.out L1
  refine hK _ _ S1.out ?_
  clear hK K L1
  refine wpAnyH_take (i := 9) (v := (.tuple #[.string ⟨tx.toArray⟩, .int .i64 nx, .int .i64 ex])) rfl (by kernel_rfl) (by kernel_rfl) (by kernel_rfl) (fun _ _ _ h => h) (.inl ⟨by kernel_rfl, fun w _ => by go_simp⟩) S1.out ?_
  refine wpAnyH_take (i := 10) (v := (.string ⟨tx.toArray⟩)) rfl (by kernel_rfl) (by kernel_rfl) (by kernel_rfl) (fun _ _ _ h => h) (.inl ⟨by kernel_rfl, fun w _ => by go_simp⟩) S1.out ?_
  refine wpAnyH_take (i := 11) (v := (.int .i64 nx)) rfl (by kernel_rfl) (by kernel_rfl) (by kernel_rfl) (fun _ _ _ h => h) (.inl ⟨by kernel_rfl, fun w _ => by go_simp⟩) S1.out ?_
  refine wpAnyH_take (i := 12) (v := (.int .i64 ex)) rfl (by kernel_rfl) (by kernel_rfl) (by kernel_rfl) (fun _ _ _ h => h) (.inl ⟨by kernel_rfl, fun w _ => by go_simp⟩) S1.out ?_
  refine wpAnyH_take (i := 13) (v := (.string ⟨tx.toArray⟩)) rfl (by kernel_rfl) (by kernel_rfl) (by kernel_rfl) (fun _ _ _ h => h) (.inl ⟨by kernel_rfl, fun w _ => by go_simp⟩) S1.out ?_
  refine wpAnyH_take (i := 14) (v := (.int .i64 nx)) rfl (by kernel_rfl) (by kernel_rfl) (by kernel_rfl) (fun _ _ _ h => h) (.inl ⟨by kernel_rfl, fun w _ => by go_simp⟩) S1.out ?_
  refine wpAnyH_take (i := 15) (v := (.int .i64 ex)) rfl (by kernel_rfl) (by kernel_rfl) (by kernel_rfl) (fun _ _ _ h => h) (.inl ⟨by kernel_rfl, fun w _ => by go_simp⟩) S1.out ?_
  refine wpAnyH_done (by kernel_rfl) ?_ _
  have gd1 : v1.cell? ⟨g, 1, none⟩ = some (.int .i64 (p : Int)) := S1.out.at rfl
  have gd2 : v1.cell? ⟨g, 2, none⟩ = some (.int .i64 0) := S1.out.at rfl
  have gf1 := Blk.frozen S1.out 1
  have gf2 := Blk.frozen S1.out 2
  have gf3 : (v1.setCell ⟨g, 1, none⟩ (.int .i64 nx)).frozen? ⟨g, 2, none⟩ = false := Blk.frozen (Blk.set S1.out 1 _) 2
  have S1' := Lib.hid S1.out
  go_wp2
  go_ret
  exact HQ.out _ _ ⟨rfl, Blk.set (Blk.set S1'.out 1 _) 2 _, ((Save.of_below b1.out g).setCell 1 _).setCell 2 _⟩
end Go.Proofs.YtpodpmckdiijhaaGreatDoor

namespace Go.Proofs.YtpodpmckdiijhaaGreatDoor
set_option linter.all false
open Go.RowKit
section
variable {P : Program} {ops : Array Oper} {md : Region.Mode} {S : World → Prop} {Q : Exit → Act → World → Prop} {k : Nat}
def wpAnyK (P : Program) (md : Region.Mode) (ops : Array Oper) (Q : Exit → Act → World → Prop) (S : World → Prop) (k : Nat) : Nat → Array Bool → Act → World → Prop
  | 0, listed, a, w => Region.ready md ops listed = [] ∧ Q .normal a w
  | fuel + 1, listed, a, w =>
    (Region.ready md ops listed = [] → Q .normal a w) ∧
    ∀ i ∈ Region.ready md ops listed, wpOp P ops Q i (fun a' w' => ((listed.setIfInBounds i true).getD k false = false → S w') ∧ wpAnyK P md ops Q S k fuel (listed.setIfInBounds i true) a' w') a w
theorem wpAny_of_K : ∀ (fuel : Nat) (listed : Array Bool) (a : Act) (w : World), wpAnyK P md ops Q S k fuel listed a w → wpAny P md ops Q fuel listed a w
  | 0, _, _, _, h => h
  | fuel + 1, _, _, _, h => ⟨h.1, fun i hi => wpOp_mono (fun a' w' h' => wpAny_of_K fuel _ a' w' h'.2) (h.2 i hi)⟩
theorem wpAnyK_first {i : Nat} {oi ok : Oper} {v : Value} (hi : ops[i]? = some oi) (hsel : ∀ (j : Nat) (o : Oper) cs b, ops[j]? = some o → o.op ≠ .select cs b)
    (hQ : ∀ c a w, Q (.panic c) (a.put oi.dst v) w → Q (.panic c) a w) (hk : ops[k]? = some ok) (hke : ok.after.any (fun e => Region.binds md e && e.on == i) = true) :
    ∀ (fuel : Nat) (listed : Array Bool) (a : Act) (w : World),
      (∀ j oj, ops[j]? = some oj → j ≠ i → listed.getD j true = false → (∀ e ∈ oj.after, Region.binds md e = true → e.on ≠ i) → oi.apart ops oj = true) →
      i ∈ Region.ready md ops listed → YieldsIf P ops S oi v a → S w → listed.getD k false = false → i ≠ k →
      wpAnyK P md ops Q S k fuel (listed.setIfInBounds i true) (a.put oi.dst v) w → wpAnyK P md ops Q S k (fuel + 1) listed a w := by
  intro fuel
  induction fuel with
  | zero =>
    intro listed a w _ hr hy hS _ _ H
    refine ⟨fun h => (by rw [h] at hr; cases hr), fun j hj => ?_⟩
    by_cases hji : j = i
    · subst hji; exact hy.wpOp hi hS ⟨fun _ => hS, H⟩
    · have := ready_mono hj hji
      rw [H.1] at this
      cases this
  | succ fuel ih =>
    intro listed a w hfree hr hy hS hkl hik H
    refine ⟨fun h => (by rw [h] at hr; cases hr), fun j hj => ?_⟩
    by_cases hji : j = i
    · subst hji; exact hy.wpOp hi hS ⟨fun _ => hS, H⟩
    · have h1 := H.2 j (ready_mono hj hji)
      obtain ⟨hjun, oj, hoj, hall⟩ := mem_ready.1 hj
      have hnot : ∀ e ∈ oj.after, Region.binds md e = true → e.on ≠ i := fun e he hb heq => by
        have h1 := hall e he hb
        have h0 := (mem_ready.1 hr).1
        rw [heq] at h1
        rcases Nat.lt_or_ge i listed.size with h' | h'
        · simp [h'] at h0 h1; rw [h0] at h1; cases h1
        · simp [Array.getElem?_eq_none h'] at h1
      have hjk : j ≠ k := by
        rintro rfl
        rw [hk] at hoj
        injection hoj with hoj
        subst hoj
        obtain ⟨e, he, hb⟩ := Array.any_eq_true'.1 hke
        simp only [Bool.and_eq_true, beq_iff_eq] at hb
        exact hnot e he hb.1 hb.2
      have h2 := wpOp_putIf hoj (hfree j oj hoj hji hjun hnot) (fun cs b => hsel i oi cs b hi) (fun cs b => hsel j oj cs b hoj) hQ hy h1
      have hfree' : ∀ k ok, ops[k]? = some ok → k ≠ i → (listed.setIfInBounds j true).getD k true = false →
          (∀ e ∈ ok.after, Region.binds md e = true → e.on ≠ i) → oi.apart ops ok = true := fun k ok hk hki hun hno => by
        refine hfree k ok hk hki ?_ hno
        by_cases hjk : j = k
        · subst hjk; exact hjun
        · rw [getD_set_ne true hjk] at hun; exact hun
      refine wpOp_mono (fun a' w' h3 => ?_) h2
      have hSw : S w' := h3.2.1 (by rw [getD_set_ne false hjk, getD_set_ne false hik]; exact hkl)
      refine ⟨fun _ => hSw, ih (listed.setIfInBounds j true) a' w' hfree' (ready_mono hr (Ne.symm hji)) h3.1 hSw (by rw [getD_set_ne false hjk]; exact hkl) hik ?_⟩
      rw [Array.setIfInBounds_comm _ _ hji]
      exact h3.2.2
theorem wpAnyK_take {i : Nat} {oi ok : Oper} {v : Value} {fuel : Nat} {listed : Array Bool} {a : Act} {w : World} (hi : ops[i]? = some oi)
    (hs : Region.noSelect ops = true) (hf : Region.free md ops listed i = true) (hr : (Region.ready md ops listed).contains i = true)
    (hQ : ∀ c a w, Q (.panic c) (a.put oi.dst v) w → Q (.panic c) a w) (hk : ops[k]? = some ok) (hke : ok.after.any (fun e => Region.binds md e && e.on == i) = true) (hkl : listed.getD k false = false) (hik : i ≠ k)
    (hy : YieldsIf P ops S oi v a) (hS : S w)
    (h : wpAnyK P md ops Q S k fuel (listed.setIfInBounds i true) (a.put oi.dst v) w) : wpAnyK P md ops Q S k (fuel + 1) listed a w :=
  wpAnyK_first hi (Region.noSelect_spec hs) hQ hk hke fuel listed a w (Region.free_spec hi hf) (by simpa using hr) hy hS hkl hik h
theorem wpAnyK_one (i : Nat) (oi : Oper) {fuel : Nat} {listed : Array Bool} {a : Act} {w : World} (hr : Region.ready md ops listed = [i]) (hi : ops[i]? = some oi)
    (h : ∀ K : Act → World → Prop, (∀ a' w', ((listed.setIfInBounds i true).getD k false = false → S w') → wpAnyK P md ops Q S k fuel (listed.setIfInBounds i true) a' w' → K a' w') → if Region.wanted oi (yielded ops a.tmps) = true then oi.wp P a w K Q else K (a.put oi.dst undef) w) : wpAnyK P md ops Q S k (fuel + 1) listed a w := by
  refine ⟨fun h0 => (by rw [h0] at hr; cases hr), fun j hj => ?_⟩
  rw [hr] at hj
  obtain rfl : j = i := by simpa using hj
  have h1 := h (fun a' w' => ((listed.setIfInBounds j true).getD k false = false → S w') ∧ wpAnyK P md ops Q S k fuel (listed.setIfInBounds j true) a' w') fun _ _ h2 h3 => ⟨h2, h3⟩
  unfold wpOp
  simp only [hi]
  by_cases hw : Region.wanted oi (yielded ops a.tmps) = true
  · rw [if_pos hw] at h1 ⊢
    exact .inl h1
  · rw [if_neg hw] at h1 ⊢
    exact h1
theorem wpAnyK_done {listed : Array Bool} {a : Act} {w : World} (hr : Region.ready md ops listed = []) (h : Q .normal a w) :
    ∀ fuel, wpAnyK P md ops Q S k fuel listed a w
  | 0 => ⟨hr, h⟩
  | _ + 1 => ⟨fun _ => h, by rw [hr]; simp⟩
theorem wpAnyK_frame {fuel : Nat} {listed : Array Bool} {a : Act} {w : World} (h : ∀ a', a' = a → wpAnyK P md ops Q S k fuel listed a' w) : wpAnyK P md ops Q S k fuel listed a w := h a rfl
theorem wp_region_heldK {id : Nat} {a : Act} {w : World} (k : Nat) (S : World → Prop) (hm : P.follows .mixedOrders = true)
    (h : wpAnyK P .any ops Q S k ops.size (Array.replicate ops.size false) a { w with drawn := w.drawn + 1 }) : (Code.region id ops true).wp P Q a w :=
  wp_region_any hm (wpAny_of_K _ _ _ _ h)
end
end Go.Proofs.YtpodpmckdiijhaaGreatDoor
