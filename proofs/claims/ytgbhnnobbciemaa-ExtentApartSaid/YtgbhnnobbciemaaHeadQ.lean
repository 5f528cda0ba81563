/-
  Layer 7 (head): '==' of two heads ('run_equalIn_hd'); a load of a head as a step of a region that draws its order. No function of the program is named here.
-/
import Derived.Test.YtgbhnnobbciemaaHeadM
import Derived.Test.YtgbhnnobbciemaaHeld
import Derived.Test.YtgbhnnobbciemaaBits
import Derived.WalkKit
import Derived.WalkSpells
import Derived.WalkLawsBesides
namespace Go.Proofs.Ytgbhnnobbciemaa
set_option maxRecDepth 100000
open Go.RowKit

section
/-- two arrays that may differ -/
theorem run_equalIn_arr3 {P : Program} {T e : TypeId} {n : Nat} {k : IntKind} (hu : P.underlying T = some (.array n e)) (he : P.underlying e = some (.int k)) (hs : (P.info? e).map (·.size) = some 1) (xs ys : List Int) (hl : xs.length = n) (hm : ys.length = n) (d : Nat) (w : World) :
    (Op.equalIn (d + 2) T (.agg (xs.map (Value.int k)).toArray) (.agg (ys.map (Value.int k)).toArray)).run P w = .ok (decide (xs = ys)) w := by
  obtain ⟨j, hj, hj1⟩ : ∃ j, P.info? e = some j ∧ j.size = 1 := by
    cases hq : P.info? e with
    | none => simp [hq] at hs
    | some j => exact ⟨j, rfl, by simpa [hq] using hs⟩
  have hc : P.cellsOf e = 1 := by unfold Program.cellsOf; rw [hj]; simpa using hj1
  rw [show d + 2 = (d + 1) + 1 from rfl, run_equalIn_array w (d + 1) _ _ hu hj, hc]
  have key : ∀ is : List Nat, (∀ i ∈ is, i < n) → (Op.eqItems (d + 1) e 1 (xs.map (Value.int k)).toArray (ys.map (Value.int k)).toArray is).run P w = .ok (is.all fun i => xs.getD i 0 == ys.getD i 0) w := by
    intro is
    induction is with
    | nil => intro _; simp [Op.eqItems]
    | cons i is ih =>
      intro hi
      have hil : i < n := hi i List.mem_cons_self
      have hx : i < xs.length := by omega
      have hy : i < ys.length := by omega
      have hp : (part e (xs.map (Value.int k)).toArray (i * 1)).run P w = .ok (.int k xs[i]) w := by simp [part, isAgg, run_underlying he, hx]
      have hp2 : (part e (ys.map (Value.int k)).toArray (i * 1)).run P w = .ok (.int k ys[i]) w := by simp [part, isAgg, run_underlying he, hy]
      simp only [Op.eqItems, Sem.run_bind, hp, hp2, Result.andThen_ok, run_equalIn_int w d e k k _ _ he]
      have e1 : xs.getD i 0 = xs[i] := by simp [List.getD_eq_getElem?_getD, hx]
      have e2 : ys.getD i 0 = ys[i] := by simp [List.getD_eq_getElem?_getD, hy]
      rw [List.all_cons, e1, e2]
      by_cases hq : xs[i] = ys[i]
      · rw [hq]
        simp only [beq_self_eq_true, Bool.not_true, Bool.false_eq_true, if_false, Bool.true_and]
        exact ih fun i h => hi i (List.mem_cons_of_mem _ h)
      · have hb : (xs[i] == ys[i]) = false := by simpa using hq
        simp [hb]
  rw [key _ fun i h => List.mem_range.1 h]
  congr 1
  by_cases hq : xs = ys
  · subst hq
    simp
  · rw [decide_eq_false hq, List.all_eq_false]
    have hne : ¬ ∀ i, i < n → xs.getD i 0 = ys.getD i 0 := fun hall => hq (by
      apply List.ext_getElem (by omega)
      intro i h1 h2
      have := hall i (by omega)
      simpa [List.getD_eq_getElem?_getD, h1, h2] using this)
    obtain ⟨i, hi⟩ := Classical.not_forall.1 hne
    obtain ⟨hi1, hi2⟩ := Classical.not_imp.1 hi
    exact ⟨i, List.mem_range.2 hi1, by simpa using hi2⟩

/-- '==' over the fields, by their types and places alone -/
def eqSpec (d : Nat) (xs ys : Array Value) : List (Bool × TypeId × Nat) → Sem Bool
  | [] => pure true
  | (u, t, o) :: r =>
    if u = true then eqSpec d xs ys r else do
      let a ← part t xs o
      let b ← part t ys o
      let q ← Op.equalIn d t a b
      if (!q) = true then pure false else eqSpec d xs ys r
theorem eqFields_spec (d : Nat) (xs ys : Array Value) (l : List Field) : Op.eqFields d xs ys l = eqSpec d xs ys (l.map fun f => (decide (f.name = "_"), f.type, f.offset)) := by
  induction l with
  | nil => rfl
  | cons f l ih =>
    simp only [Op.eqFields, List.map_cons, eqSpec, ih]
    by_cases h : f.name = "_"
    · simp [h]
    · simp [h]

section
variable {P : Program} {w : World} {d : Nat} {xs ys : Array Value} {r : List (Bool × TypeId × Nat)} {q : Bool}
theorem eqSpec_int (t : TypeId) (k : IntKind) (o : Nat) (x y : Int) (ht : P.underlying t = some (.int k)) (hx : xs[o]? = some (.int k x)) (hy : ys[o]? = some (.int k y)) (hr : (eqSpec (d + 1) xs ys r).run P w = .ok q w) :
    (eqSpec (d + 1) xs ys ((false, t, o) :: r)).run P w = .ok (x == y && q) w := by
  have p1 : (part t xs o).run P w = .ok (.int k x) w := by simp [part, isAgg, run_underlying ht, hx]
  have p2 : (part t ys o).run P w = .ok (.int k y) w := by simp [part, isAgg, run_underlying ht, hy]
  simp only [eqSpec, Bool.false_eq_true, if_false, Sem.run_bind, p1, p2, Result.andThen_ok, run_equalIn_int w d t k k _ _ ht]
  by_cases h : x = y
  · subst h
    simpa using hr
  · have hb : (x == y) = false := by simpa using h
    simp [hb]
theorem eqSpec_arr (t e : TypeId) (n : Nat) (k : IntKind) (o : Nat) (us vs : List Int) (ht : P.underlying t = some (.array n e)) (he : P.underlying e = some (.int k)) (hs : (P.info? e).map (·.size) = some 1) (hz : (P.info? t).map (·.size) = some n)
    (hx : xs.extract o (o + n) = (us.map (Value.int k)).toArray) (hy : ys.extract o (o + n) = (vs.map (Value.int k)).toArray) (ha : us.length = n) (hb : vs.length = n) :
    (eqSpec (d + 2) xs ys [(false, t, o)]).run P w = .ok (decide (us = vs)) w := by
  obtain ⟨j, hj, hj1⟩ : ∃ j, P.info? t = some j ∧ j.size = n := by
    cases hq : P.info? t with
    | none => simp [hq] at hz
    | some j => exact ⟨j, rfl, by simpa [hq] using hz⟩
  have p1 : (part t xs o).run P w = .ok (.agg (us.map (Value.int k)).toArray) w := by simp [part, isAgg, run_underlying ht, sizeOf, typeInfo, hj, hj1, hx]
  have p2 : (part t ys o).run P w = .ok (.agg (vs.map (Value.int k)).toArray) w := by simp [part, isAgg, run_underlying ht, sizeOf, typeInfo, hj, hj1, hy]
  simp only [eqSpec, Bool.false_eq_true, if_false, Sem.run_bind, p1, p2, Result.andThen_ok, run_equalIn_arr3 ht he hs us vs ha hb d w]
  by_cases h : us = vs
  · simp [h]
  · simp [h]
end

section
variable {P : Program} {ops : Array Oper} {S : World → Prop}
theorem yieldsIf_load_one {op : Oper} {a : Act} (hw : Region.wanted op (yielded ops a.tmps) = true) (T : TypeId) (x : Operand) (ho : op.op = .load T x) (g i : Nat) (hx : a.eval x = .pointer (some ⟨g, i, none⟩)) (v : Value)
    (hS : ∀ w, S w → w.cell? ⟨g, i, none⟩ = some v) (d : TypeDesc) (hu : P.underlying T = some d) (hd : (match d with | .struct _ | .array _ _ => true | _ => false) = false) : YieldsIf P ops S op v a :=
  .inl ⟨hw, fun w hw' => by
    have hc := hS w hw'
    have hagg : (isAgg T).run P w = .ok false w := by
      unfold isAgg
      rw [Sem.run_bind, run_underlying hu w]
      cases d <;> simp_all
    unfold execOp
    simp [ho, hx, Instr.loadAt, Instr.sureAddr, Sem.run_bind, Result.andThen_ok, loadVar, hagg, hc]⟩
theorem yieldsIf_build_blk {op : Oper} {a : Act} (hw : Region.wanted op (yielded ops a.tmps) = true) (T : TypeId) (parts : Array (Nat × Operand)) (ho : op.op = .build T parts) (cs : List Value)
    (hf : P.built T (parts.map fun (i, x) => (i, a.eval x)).toList = some cs.toArray) : YieldsIf P ops S op (.agg cs.toArray) a :=
  .inl ⟨hw, fun w _ => by
    unfold execOp
    simp only [ho, Sem.run_bind, run_build w T _ _ hf, Result.andThen_ok]
    rfl⟩
theorem yieldsIf_nil {op : Oper} {a : Act} (hw : Region.wanted op (yielded ops a.tmps) = true) (x : Operand) (ho : op.op = .nilCheck x) (ad : Addr) (hx : a.eval x = .pointer (some ad)) : YieldsIf P ops S op (.pointer (some ad)) a :=
  .inl ⟨hw, fun w _ => by
    unfold execOp
    simp [ho, hx]⟩
theorem yieldsIf_move {op : Oper} {a : Act} (hw : Region.wanted op (yielded ops a.tmps) = true) (x : Operand) (ho : op.op = .move x) (v : Value) (hx : a.eval x = v) : YieldsIf P ops S op v a :=
  .inl ⟨hw, fun w _ => by
    unfold execOp
    simp [ho, hx]⟩
theorem yieldsIf_asg {op : Oper} {a : Act} (hw : Region.wanted op (yielded ops a.tmps) = true) (x : Operand) (ho : op.op = .assign x) (v : Value) (hx : a.eval x = v) : YieldsIf P ops S op v a :=
  .inl ⟨hw, fun w _ => by
    unfold execOp
    simp [ho, hx]⟩
theorem wpAnyH_frame {md : Region.Mode} {Q : Exit → Act → World → Prop} {fuel : Nat} {listed : Array Bool} {a : Act} {w : World} (h : ∀ a', a' = a → wpAnyH P md ops Q S fuel listed a' w) : wpAnyH P md ops Q S fuel listed a w := h a rfl
theorem yieldsIf_fn {op : Oper} {a : Act} (hw : Region.wanted op (yielded ops a.tmps) = true) (fn : Fn) (xs ys : Array Operand) (ho : op.op = .makeFunc fn xs ys) (us vs : Array Value) (hx : xs.map a.eval = us) (hy : ys.map a.eval = vs)
    (hf : ∀ w, (Instr.makeFunc fn us vs).run P w = .ok (.func fn us vs) w) : YieldsIf P ops S op (.func fn us vs) a :=
  .inl ⟨hw, fun w _ => by
    unfold execOp
    simp only [ho, hx, hy, Sem.run_bind, hf, Result.andThen_ok]
    rfl⟩
theorem yieldsIf_fld {op : Oper} {a : Act} (hw : Region.wanted op (yielded ops a.tmps) = true) (T : TypeId) (x : Operand) (i : Nat) (ho : op.op = .fieldAddr T x i) (u v : Value) (hx : a.eval x = u) (hf : ∀ w, (Instr.fieldAt T u i).run P w = .ok v w) : YieldsIf P ops S op v a :=
  .inl ⟨hw, fun w _ => by
    unfold execOp
    simp only [ho, hx, Sem.run_bind, hf, Result.andThen_ok]
    rfl⟩
theorem yieldsIf_conv {op : Oper} {a : Act} (hw : Region.wanted op (yielded ops a.tmps) = true) (T T' : TypeId) (x : Operand) (ho : op.op = .convert T T' x) (u v : Value) (hx : a.eval x = u) (hf : ∀ w, (convert T T' u).run P w = .ok v w) : YieldsIf P ops S op v a :=
  .inl ⟨hw, fun w _ => by
    unfold execOp
    simp only [ho, hx, Sem.run_bind, hf, Result.andThen_ok]
    rfl⟩
theorem yieldsIf_load_blk {op : Oper} {a : Act} (hw : Region.wanted op (yielded ops a.tmps) = true) (T : TypeId) (x : Operand) (ho : op.op = .load T x) (g : Nat) (hx : a.eval x = .pointer (some ⟨g, 0, none⟩)) (T' : TypeId) (cs : List Value)
    (hS : ∀ w, S w → Blk w g T' cs) (n : Nat) (d : TypeDesc) (hu : P.underlying T = some d) (hd : (match d with | .struct _ | .array _ _ => true | _ => false) = true) (hi : (P.info? T).map (·.size) = some n) (hn : Hid (cs.length = n)) : YieldsIf P ops S op (.agg cs.toArray) a :=
  .inl ⟨hw, fun w hw' => by
    have hr := run_loadVar_row (P := P) w g T' T cs.toArray (0, 0) _ (hS w hw') hu hd (by rw [hi]; have := hn.out; simp [this])
    unfold execOp
    simp only [ho, hx, Instr.loadAt, Instr.sureAddr, Sem.run_bind, Sem.run_pure, Result.andThen_ok, hr]⟩
end

end
end Go.Proofs.Ytgbhnnobbciemaa
