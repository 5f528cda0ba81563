/-
  Arrays of numbers in blocks of their own ('Arr'), what a store into one block leaves ('Only'), and the laws at box, alloc, load and store of a whole array, and at an index into an array value. No function of the program is named here.
-/
import Derived.Test.YtgbhnnobbciemaaRow
import Derived.Laws.Tables
import Derived.Laws.NewFold
import Derived.Deep.WholeRow
namespace Go.Proofs.Ytgbhnnobbciemaa
open Go.RowKit

/-- block g is an array of numbers of kind k (or a row), none frozen -/
def Arr (w : World) (g : Nat) (k : IntKind) (T : TypeId) (xs : List Int) : Prop := w.heap[g]? = some (.cells (xs.map (Value.int k)).toArray T (0, 0))
/-- the array as a value -/
def av (k : IntKind) (xs : List Int) : Value := .agg (xs.map (Value.int k)).toArray

/-- nothing but block g may have turned -/
structure Only (g : Nat) (w w' : World) : Prop where
  os : w'.os = w.os
  tape : w'.tape = w.tape
  output : w'.output = w.output
  size : w'.heap.size = w.heap.size
  rest : ∀ j, j ≠ g → w'.heap[j]? = w.heap[j]?

section
variable {w w' w2 : World} {g h B : Nat} {k k' : IntKind} {T T' : TypeId} {xs ys : List Int}
theorem Only.refl (g : Nat) (w : World) : Only g w w := ⟨rfl, rfl, rfl, rfl, fun _ _ => rfl⟩
theorem Only.trans (a : Only g w w') (b : Only g w' w2) : Only g w w2 := ⟨b.os.trans a.os, b.tape.trans a.tape, b.output.trans a.output, b.size.trans a.size, fun j hj => (b.rest j hj).trans (a.rest j hj)⟩
theorem Only.setCell (a : Only g w w') (i : Nat) (v : Value) : Only g w (w'.setCell ⟨g, i, none⟩ v) :=
  a.trans ⟨rfl, rfl, rfl, by simp, fun j hj => Below.heap_setCell _ _ _ _ hj⟩
theorem Only.setRow (a : Only g w w') (cs : Array Value) : Only g w (w'.setRow g cs) :=
  a.trans ⟨rfl, rfl, rfl, by simp, fun j hj => setRow_other _ _ _ _ hj⟩
theorem Only.drewN (a : Only g w w') (n : Nat) : Only g w (w'.drewN n) := a.trans ⟨rfl, rfl, rfl, rfl, fun _ _ => rfl⟩
theorem Only.below (a : Only g w w') (hB : B ≤ g) : Below B w w' := ⟨a.os, a.tape, a.output, by rw [a.size]; exact Nat.le_refl _, fun j hj => a.rest j (by omega)⟩

theorem Arr.lt (h : Arr w g k T xs) : g < w.heap.size := (Array.getElem?_eq_some_iff.1 h).1
theorem Arr.cell (h : Arr w g k T xs) {i : Nat} (hi : i < xs.length) : w.cell? ⟨g, i, none⟩ = some (.int k (xs.getD i 0)) := by
  rw [cell_of_row w g i _ T (0, 0) h]
  simp [hi]
theorem Arr.frozen (h : Arr w g k T xs) (i : Nat) : w.frozen? ⟨g, i, none⟩ = false := frozen_of_row w g i _ T h
theorem Arr.below (h : Arr w g k T xs) (hb : Below B w w') (hg : g < B) : Arr w' g k T xs := (hb.block g hg).trans h
theorem Arr.over (h : Arr w g k T xs) (hb : Below w.heap.size w w') : Arr w' g k T xs := h.below hb h.lt
theorem Arr.only (a : Arr w g k T xs) (hb : Only h w w') (hg : g ≠ h) : Arr w' g k T xs := (hb.rest g hg).trans a
theorem Arr.set (h : Arr w g k T xs) (i : Nat) (u : Int) : Arr (w.setCell ⟨g, i, none⟩ (.int k u)) g k T (xs.set i u) := by
  have h1 := heap_setCell_same w g i _ T (.int k u) h
  unfold Arr
  rw [h1]
  simp [List.map_set]
theorem Arr.setOther (a : Arr w g k T xs) (hg : g ≠ h) (i : Nat) (v : Value) : Arr (w.setCell ⟨h, i, none⟩ v) g k T xs := (Below.heap_setCell _ _ _ _ hg).trans a
theorem Arr.drewN (h : Arr w g k T xs) (n : Nat) : Arr (w.drewN n) g k T xs := h
theorem Arr.drew (h : Arr w g k T xs) : Arr w.drew g k T xs := h
theorem Arr.ne (a : Arr w g k T xs) (b : Arr w h k' T' ys) (hT : T ≠ T') : g ≠ h := by
  rintro rfl
  unfold Arr at a b
  rw [a] at b
  simp only [Option.some.injEq, Obj.cells.injEq] at b
  exact hT b.2.1
/-- a new block of numbers -/
theorem Arr.new (w : World) (k : IntKind) (T : TypeId) (xs : List Int) : Arr (w.alloc (.cells (xs.map (Value.int k)).toArray T)) w.heap.size k T xs := heap_alloc_new w _
end

section
variable {P : Program} {ops : Array Oper} {rest : List Oper} {o : Oper} {a : Act} {w : World} {Q : Exit → Act → World → Prop}

/-- an array parameter that gets a block of its own -/
theorem wpList_box_arr (hg : o.guard = none) (T : TypeId) (x : Operand) (ho : o.op = .box T x) (k : IntKind) (xs : List Int) (hx : a.eval x = .agg (xs.map (Value.int k)).toArray)
    (h : ∀ g w', w.heap.size ≤ g → g < w'.heap.size → Hid (Arr w' g k T xs) → Hid (Below w.heap.size w w') → wpList P ops Q rest (a.put o.dst (.pointer (some ⟨g, 0, none⟩))) w') : wpList P ops Q (o :: rest) a w := by
  refine wpList_plain hg fun K hK => ?_
  unfold Oper.wp execOp
  simp only [ho, hx, Sem.run_bind, Instr.box, newVar, newRow, run_newObj_alloc, Sem.run_pure, Result.andThen_ok]
  refine hK _ _ (h _ _ (Nat.le_refl _) (by simp) ?_ ((Below.refl _ _).alloc (Nat.le_refl _) _))
  exact Arr.new w k T xs

/-- a variable that is an array, at first noughts -/
theorem wpList_alloc_arr (hg : o.guard = none) (T : TypeId) (ho : o.op = .alloc T) (k : IntKind) (zs : List Int) (n : Nat) (hi : Hid ((P.info? T).map (fun i => (i.zero, i.size)) = some (some (.agg (zs.map (Value.int k)).toArray), n)))
    (h : ∀ g w', w.heap.size ≤ g → g < w'.heap.size → Hid (Arr w' g k T zs) → Hid (Below w.heap.size w w') → wpList P ops Q rest (a.put o.dst (.pointer (some ⟨g, 0, none⟩))) w') : wpList P ops Q (o :: rest) a w := by
  refine wpList_plain hg fun K hK => ?_
  unfold Oper.wp execOp
  have hz := (zero_of_info hi.out).1
  simp only [ho, Sem.run_bind, Instr.alloc, hz, newVar, newRow, run_newObj_alloc, Sem.run_pure, Result.andThen_ok]
  refine hK _ _ (h _ _ (Nat.le_refl _) (by simp) ?_ ((Below.refl _ _).alloc (Nat.le_refl _) _))
  exact Arr.new w k T _

/-- an array literal without parts -/
theorem wpList_build_zero (hg : o.guard = none) (T : TypeId) (ho : o.op = .build T #[]) (k : IntKind) (zs : List Int) (hf : Hid (P.built T [] = some (zs.map (Value.int k)).toArray))
    (h : wpList P ops Q rest (a.put o.dst (.agg (zs.map (Value.int k)).toArray)) w) : wpList P ops Q (o :: rest) a w := by
  have hf' : P.built T ((#[] : Array (Nat × Operand)).map fun (i, x) => (i, a.eval x)).toList = some (zs.map (Value.int k)).toArray := by
    rw [← hf.out]
    simp
  refine wpList_build hg T #[] ho (by rw [hf']; rfl) ?_
  rw [hf']
  exact h

/-- a whole array out of its block -/
theorem wpList_load_arr (hg : o.guard = none) (T : TypeId) (x : Operand) (ho : o.op = .load T x) (g : Nat) (hx : a.eval x = .pointer (some ⟨g, 0, none⟩)) (k : IntKind) (T' : TypeId) (xs : List Int) (hA : Hid (Arr w g k T' xs)) (n : Nat) (e : TypeId)
    (hu : P.underlying T = some (.array n e)) (hi : (P.info? T).map (·.size) = some n) (hn : Hid (xs.length = n))
    (h : wpList P ops Q rest (a.put o.dst (.agg (xs.map (Value.int k)).toArray)) w) : wpList P ops Q (o :: rest) a w :=
  wpList_load_row hg T x ho g hx T' _ (0, 0) _ hA.out hu rfl (by rw [hi]; have := hn.out; simp [this]) h

/-- a whole array into a block -/
theorem wpList_store_arr (hg : o.guard = none) (T : TypeId) (x y : Operand) (ho : o.op = .store T x y) (g : Nat) (hx : a.eval x = .pointer (some ⟨g, 0, none⟩)) (k : IntKind) (T' : TypeId) (xs ys : List Int) (hy : a.eval y = .agg (ys.map (Value.int k)).toArray)
    (hA : Hid (Arr w g k T' xs)) (n : Nat) (hi : (P.info? T).map (·.size) = some n) (hn : Hid (xs.length = n)) (hm : Hid (ys.length = n))
    (h : ∀ w', Hid (Arr w' g k T' ys) → Hid (Only g w w') → g < w'.heap.size → wpList P ops Q rest (a.put o.dst undef) w') : wpList P ops Q (o :: rest) a w := by
  refine wpList_store_row hg T x y ho g _ hx hy T' _ hA.out (by rw [hi]; have := hm.out; simp [this]) (by have := hm.out; have := hn.out; simp_all) ?_ (h _ ?_ ((Only.refl g w).setRow _) (by rw [size_setRow]; exact hA.out.lt))
  · apply Array.all_eq_true_iff_forall_mem.2
    intro v hv
    have hv' : v ∈ ys.map (Value.int k) := by simpa using hv
    obtain ⟨z, _, rfl⟩ := List.mem_map.1 hv'
    rfl
  · exact setRow_heap w g _ _ T' (0, 0) hA.out

/-- one of the numbers of an array value -/
theorem wpList_index_arr (hg : o.guard = none) (T : TypeId) (x y : Operand) (ho : o.op = .index T x y) (k : IntKind) (xs : List Int) (hx : a.eval x = .agg (xs.map (Value.int k)).toArray) (n : Nat) (e : TypeId) (hu : P.underlying T = some (.array n e))
    (he : P.underlying e = some (.int k)) (hs : (P.info? e).map (·.size) = some 1) (i : Nat) (hy : a.eval y = .int .i64 i) (hi : i < n) (hn : Hid (xs.length = n))
    (h : wpList P ops Q rest (a.put o.dst (.int k (xs.getD i 0))) w) : wpList P ops Q (o :: rest) a w := by
  refine wpList_plain hg fun K hK => ?_
  unfold Oper.wp execOp
  have hl := hn.out
  have hb : (0 : Int) ≤ (i : Int) ∧ (i : Int) < (n : Int) := ⟨by omega, by omega⟩
  obtain ⟨j, hj, hj1⟩ : ∃ j, P.info? e = some j ∧ j.size = 1 := by
    cases hq : P.info? e with
    | none => simp [hq] at hs
    | some j => exact ⟨j, rfl, by simpa [hq] using hs⟩
  have hrun : (Instr.index T (.agg (xs.map (Value.int k)).toArray) (.int .i64 i)).run P w = .ok (.int k (xs.getD i 0)) w := by
    simp only [Instr.index, asIntOf, Sem.run_bind, Sem.run_pure, Result.andThen_ok, run_underlying hu, hb, and_self, if_true]
    have hx : xs[i]? = some (xs.getD i 0) := by
      have : i < xs.length := by omega
      simp [this]
    simp [sizeOf, typeInfo, part, isAgg, run_underlying he, hj, hj1]
    rw [hx]
    simp
  simp only [ho, hx, hy, hrun, Sem.run_bind, Sem.run_pure, Result.andThen_ok]
  exact hK _ _ h
end
end Go.Proofs.Ytgbhnnobbciemaa
