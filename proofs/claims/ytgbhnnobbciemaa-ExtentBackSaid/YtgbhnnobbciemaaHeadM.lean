/-
  Layer 7 (head), memory: a head (and any value of several cells) in a block of its own ('Blk', 'HB'), what a call that turns one such block leaves ('Save'), and the laws at box, alloc, load, store, build and copy over them. No function of the program is named here.
-/
import Derived.Test.YtgbhnnobbciemaaHead0
import Derived.Test.YtgbhnnobbciemaaArr
import Derived.Deep.MidRow
import Derived.Great.Walk
namespace Go.Proofs.Ytgbhnnobbciemaa
set_option maxRecDepth 100000
open Go.RowKit

/-- block g is a variable of type T whose cells are cs, none frozen -/
def Blk (w : World) (g : Nat) (T : TypeId) (cs : List Value) : Prop := w.heap[g]? = some (.cells cs.toArray T (0, 0))
/-- the cells of a head -/
def hcells (h : Hd) : List Value := .int .u16 h.ch :: .int .u32 h.st :: .int .u16 h.cm :: .int .u16 h.cr :: .int .u32 h.fl :: .int .u32 h.nx :: .int .u64 h.id :: .int .u64 h.asy :: .int .u32 h.tr :: .int .u64 h.se :: h.sg.map (Value.int .u8)
def hv (h : Hd) : Value := .agg (hcells h).toArray
/-- nothing but block g may have turned, of what was there; there may be more -/
structure Save (g : Nat) (w w' : World) : Prop where
  os : w'.os = w.os
  tape : w'.tape = w.tape
  output : w'.output = w.output
  size : w.heap.size ≤ w'.heap.size
  rest : ∀ j, j < w.heap.size → j ≠ g → w'.heap[j]? = w.heap[j]?

section
variable {w w' w2 : World} {g g' B : Nat} {T T' : TypeId} {cs cs' : List Value} {h h' : Hd} {k : IntKind} {xs : List Int}
theorem Save.refl (g : Nat) (w : World) : Save g w w := ⟨rfl, rfl, rfl, Nat.le_refl _, fun _ _ _ => rfl⟩
theorem Save.trans (a : Save g w w') (b : Save g w' w2) : Save g w w2 :=
  ⟨b.os.trans a.os, b.tape.trans a.tape, b.output.trans a.output, Nat.le_trans a.size b.size, fun j hj hg => (b.rest j (Nat.lt_of_lt_of_le hj a.size) hg).trans (a.rest j hj hg)⟩
theorem Save.of_below (hb : Below w.heap.size w w') (g : Nat) : Save g w w' := ⟨hb.os, hb.tape, hb.output, hb.size, fun j hj _ => hb.block j hj⟩
theorem Save.of_only (hO : Only g w w') : Save g w w' := ⟨hO.os, hO.tape, hO.output, Nat.le_of_eq hO.size.symm, fun j _ hg => hO.rest j hg⟩
theorem Save.below (a : Save g w w') (hg : B ≤ g) (hB : B ≤ w.heap.size) : Below B w w' := ⟨a.os, a.tape, a.output, a.size, fun j hj => a.rest j (by omega) (by omega)⟩
theorem only_setCell (w : World) (g i : Nat) (v : Value) : Only g w (w.setCell ⟨g, i, none⟩ v) := (Only.refl g w).setCell i v
theorem below_only (hb : Below B w w') (hO : Only g w' w2) (hg : B ≤ g) : Below B w w2 := hb.trans (hO.below hg)

theorem Blk.lt (a : Blk w g T cs) : g < w.heap.size := (Array.getElem?_eq_some_iff.1 a).1
theorem Blk.cell (a : Blk w g T cs) (i : Nat) : w.cell? ⟨g, i, none⟩ = cs[i]? := by rw [cell_of_row w g i _ T (0, 0) a]; simp
theorem Blk.frozen (a : Blk w g T cs) (i : Nat) : w.frozen? ⟨g, i, none⟩ = false := frozen_of_row w g i _ T a
theorem Blk.below (a : Blk w g T cs) (hb : Below B w w') (hg : g < B) : Blk w' g T cs := (hb.block g hg).trans a
theorem Blk.over (a : Blk w g T cs) (hb : Below w.heap.size w w') : Blk w' g T cs := a.below hb a.lt
theorem Blk.only (a : Blk w g T cs) (hO : Only g' w w') (hg : g ≠ g') : Blk w' g T cs := (hO.rest g hg).trans a
theorem Blk.save (a : Blk w g T cs) (hS : Save g' w w') (hg : g ≠ g') : Blk w' g T cs := (hS.rest g a.lt hg).trans a
/-- what is kept over a call that saves all but one block, and over a store into one -/
theorem kept4 {p : Prop} {B g h a : Nat} {w v v' : World} {T T' : TypeId} {zs C : List Value} (hP : p) (hS : Save g v v') (Z : Hid (Blk v h T zs)) (K : Hid (Blk v a T' C)) (L : Hid (Below B w v)) (h1 : h ≠ g) (h2 : a ≠ g) (hg : B ≤ g) (hB : B ≤ w.heap.size := by exact Nat.le_refl _) :
    Hid p ∧ Hid (Blk v' h T zs) ∧ Hid (Blk v' a T' C) ∧ Hid (Below B w v') := ⟨hP, Z.out.save hS h1, K.out.save hS h2, L.out.trans (hS.below hg (Nat.le_trans hB L.out.size))⟩
theorem keptO {p : Prop} {B h a : Nat} {w v v' : World} {T : TypeId} {zs : List Value} (hP : p) (Z : Hid (Blk v h T zs)) (L : Hid (Below B w v)) (O : Hid (Only a v v')) (h1 : h ≠ a) (h2 : B ≤ a) :
    Hid p ∧ Hid (Blk v' h T zs) ∧ Hid (Below B w v') := ⟨hP, Z.out.only O.out h1, below_only L.out O.out h2⟩
theorem Blk.drew (a : Blk w g T cs) : Blk w.drew g T cs := a
theorem Blk.drewN (a : Blk w g T cs) (n : Nat) : Blk (w.drewN n) g T cs := a
theorem Blk.alloc (a : Blk w g T cs) (o : Obj) : Blk (w.alloc o) g T cs := (Below.heap_alloc _ _ _ a.lt).trans a
theorem Blk.new (w : World) (T : TypeId) (cs : List Value) : Blk (w.alloc (.cells cs.toArray T)) w.heap.size T cs := heap_alloc_new w _
theorem Blk.set (a : Blk w g T cs) (i : Nat) (v : Value) : Blk (w.setCell ⟨g, i, none⟩ v) g T (cs.set i v) := by
  have h1 := heap_setCell_same w g i _ T v a
  unfold Blk
  rw [h1]
  simp
theorem Blk.range (a : Blk w g T cs) (o : Nat) : w.rangeAt g o (cs.drop o) := fun j v hj => by
  rw [a.cell, ← hj, List.getElem?_drop]
theorem Row.save (a : Row w g xs) (hS : Save g' w w') (hg : g ≠ g') : Row w' g xs := (hS.rest g a.lt hg).trans a
theorem Row.only (a : Row w g xs) (hO : Only g' w w') (hg : g ≠ g') : Row w' g xs := (hO.rest g hg).trans a
theorem Row.over (a : Row w g xs) (hb : Below w.heap.size w w') : Row w' g xs := a.below hb a.lt
theorem Holds.only {A : Option Addr} {n c : Nat} (a : Holds w B A n c xs) (hO : Only g' w w') (hg : B ≤ g') : Holds w' B A n c xs := a.below (hO.below hg)

theorem hcells_len (hk : h.ok) : (hcells h).length = 26 := by simp [hcells, hk.len]
theorem hcells_one (h : Hd) : ∀ v ∈ hcells h, v.oneCell' = true := by
  intro v hv
  simp only [hcells, List.mem_cons, List.mem_map] at hv
  rcases hv with rfl | rfl | rfl | rfl | rfl | rfl | rfl | rfl | rfl | rfl | ⟨x, _, rfl⟩ <;> rfl

end

section
variable {P : Program} {ops : Array Oper} {rest : List Oper} {o : Oper} {a : Act} {w : World} {Q : Exit → Act → World → Prop}

/-- a parameter of several cells that gets a block of its own -/
theorem wpList_box_blk (hg : o.guard = none) (T : TypeId) (x : Operand) (ho : o.op = .box T x) (cs : List Value) (hx : a.eval x = .agg cs.toArray)
    (h : ∀ g w', w.heap.size ≤ g → g < w'.heap.size → Hid (Blk w' g T cs) → Hid (Below w.heap.size w w') → wpList P ops Q rest (a.put o.dst (.pointer (some ⟨g, 0, none⟩))) w') : wpList P ops Q (o :: rest) a w := by
  refine wpList_plain hg fun K hK => ?_
  unfold Oper.wp execOp
  simp only [ho, hx, Sem.run_bind, Instr.box, newVar, newRow, run_newObj_alloc, Sem.run_pure, Result.andThen_ok]
  refine hK _ _ (h _ _ (Nat.le_refl _) (by simp) ?_ ((Below.refl _ _).alloc (Nat.le_refl _) _))
  exact Blk.new w T cs

/-- a parameter of one cell that gets a block of its own -/
theorem wpList_box_one (hg : o.guard = none) (T : TypeId) (x : Operand) (ho : o.op = .box T x) (v : Value) (hx : a.eval x = v) (hv : v.cells = #[v])
    (h : ∀ g w', w.heap.size ≤ g → g < w'.heap.size → Hid (Blk w' g T [v]) → Hid (Below w.heap.size w w') → wpList P ops Q rest (a.put o.dst (.pointer (some ⟨g, 0, none⟩))) w') : wpList P ops Q (o :: rest) a w := by
  refine wpList_plain hg fun K hK => ?_
  unfold Oper.wp execOp
  simp only [ho, hx, hv, Sem.run_bind, Instr.box, newVar, newRow, run_newObj_alloc, Sem.run_pure, Result.andThen_ok]
  refine hK _ _ (h _ _ (Nat.le_refl _) (by simp) ?_ ((Below.refl _ _).alloc (Nat.le_refl _) _))
  exact Blk.new w T [v]

/-- a variable of several cells, at first zero -/
theorem wpList_alloc_blk (hg : o.guard = none) (T : TypeId) (ho : o.op = .alloc T) (zs : List Value) (n : Nat) (hi : Hid ((P.info? T).map (fun i => (i.zero, i.size)) = some (some (.agg zs.toArray), n)))
    (h : ∀ g w', w.heap.size ≤ g → g < w'.heap.size → Hid (Blk w' g T zs) → Hid (Below w.heap.size w w') → wpList P ops Q rest (a.put o.dst (.pointer (some ⟨g, 0, none⟩))) w') : wpList P ops Q (o :: rest) a w := by
  refine wpList_plain hg fun K hK => ?_
  unfold Oper.wp execOp
  have hz := (zero_of_info hi.out).1
  simp only [ho, Sem.run_bind, Instr.alloc, hz, newVar, newRow, run_newObj_alloc, Sem.run_pure, Result.andThen_ok]
  refine hK _ _ (h _ _ (Nat.le_refl _) (by simp) ?_ ((Below.refl _ _).alloc (Nat.le_refl _) _))
  exact Blk.new w T zs

/-- the whole of it out of its block -/
theorem wpList_load_blk (hg : o.guard = none) (T : TypeId) (x : Operand) (ho : o.op = .load T x) (g : Nat) (hx : a.eval x = .pointer (some ⟨g, 0, none⟩)) (T' : TypeId) (cs : List Value) (hA : Hid (Blk w g T' cs)) (n : Nat) (d : TypeDesc)
    (hu : P.underlying T = some d) (hd : (match d with | .struct _ | .array _ _ => true | _ => false) = true) (hi : (P.info? T).map (·.size) = some n) (hn : Hid (cs.length = n))
    (h : wpList P ops Q rest (a.put o.dst (.agg cs.toArray)) w) : wpList P ops Q (o :: rest) a w :=
  wpList_load_row hg T x ho g hx T' _ (0, 0) d hA.out hu hd (by rw [hi]; have := hn.out; simp [this]) h

/-- the whole of it into its block -/
theorem wpList_store_blk (hg : o.guard = none) (T : TypeId) (x y : Operand) (ho : o.op = .store T x y) (g : Nat) (hx : a.eval x = .pointer (some ⟨g, 0, none⟩)) (T' : TypeId) (cs ds : List Value) (hy : a.eval y = .agg ds.toArray)
    (hA : Hid (Blk w g T' cs)) (n : Nat) (hi : (P.info? T).map (·.size) = some n) (hn : Hid (cs.length = n)) (hm : Hid (ds.length = n)) (h1 : Hid (∀ v ∈ ds, v.oneCell' = true))
    (h : ∀ w', Hid (Blk w' g T' ds) → Hid (Only g w w') → g < w'.heap.size → wpList P ops Q rest a w') (hd : o.dst = none := by rfl) : wpList P ops Q (o :: rest) a w := by
  refine wpList_store_row hg T x y ho g _ hx hy T' _ hA.out (by rw [hi]; have := hm.out; simp [this]) (by have := hm.out; have := hn.out; simp_all) (all_oneCell_toArray h1.out) ?_
  have hp : a.put o.dst undef = a := by rw [hd]; rfl
  rw [hp]
  refine h _ ?_ ((Only.refl g w).setRow _) (by rw [size_setRow]; exact hA.out.lt)
  exact setRow_heap w g _ _ T' (0, 0) hA.out

/-- one cell of it -/
theorem run_storeVar_fld (w : World) (g i : Nat) (T' ty : TypeId) (cs : List Value) (u : Value) (hB : Blk w g T' cs) (hi : i < cs.length) (hs : (P.info? ty).map (·.size) = some 1) (h1 : u.oneCell' = true) :
    (storeVar ty ⟨g, i, none⟩ u).run P w = .ok () (w.setCell ⟨g, i, none⟩ u) := by
  have hc : u.cells = #[u] := by cases u <;> first | rfl | (simp [Value.oneCell'] at h1)
  have := run_storeCells_cells (P := P) g i [u] 0 w (fun j hj => by
      obtain rfl : j = 0 := by simpa using hj
      show (w.cell? ⟨g, i, none⟩).isSome = true
      rw [hB.cell]
      simp [hi]) (fun j _ => hB.frozen _) (fun x hx => by obtain rfl := List.mem_singleton.1 hx; exact h1)
  cases hq : P.info? ty with
  | none => simp [hq] at hs
  | some q =>
    have hz : q.size = 1 := by simpa [hq] using hs
    simp [storeVar, sizeOf, typeInfo, hq, hc, hz]
    simpa [World.setCells] using this

theorem wpList_store_fld (hg : o.guard = none) (T : TypeId) (x y : Operand) (ho : o.op = .store T x y) (g i : Nat) (hx : a.eval x = .pointer (some ⟨g, i, none⟩)) (T' : TypeId) (cs : List Value) (u : Value) (hy : a.eval y = u)
    (hA : Hid (Blk w g T' cs)) (hi : Hid (i < cs.length)) (hs : (P.info? T).map (·.size) = some 1) (h1 : u.oneCell' = true)
    (h : ∀ w', Hid (Blk w' g T' (cs.set i u)) → Hid (Only g w w') → g < w'.heap.size → wpList P ops Q rest a w') (hd : o.dst = none := by rfl) : wpList P ops Q (o :: rest) a w := by
  have hp : a.put o.dst undef = a := by rw [hd]; rfl
  refine wpList_plain hg fun K hK => ?_
  unfold Oper.wp execOp
  simp only [ho, hx, hy, Instr.storeAt, Instr.sureAddr, Sem.run_bind, Sem.run_pure, Result.andThen_ok, run_storeVar_fld w g i T' T cs u hA.out hi.out hs h1]
  show K (a.put o.dst undef) _
  rw [hp]
  refine hK _ _ (h _ ?_ (only_setCell w g i u) ?_)
  · exact hA.out.set i u
  · have := (only_setCell w g i u).size
    rw [this]
    exact hA.out.lt

/-- the same where the block's new cells get a letter of their own -/
theorem wpList_store_new (hg : o.guard = none) (T : TypeId) (x y : Operand) (ho : o.op = .store T x y) (g i : Nat) (hx : a.eval x = .pointer (some ⟨g, i, none⟩)) (T' : TypeId) (cs : List Value) (u : Value) (hy : a.eval y = u)
    (hA : Hid (Blk w g T' cs)) {n : Nat} (hl : Hid (cs.length = n)) (hi : i < n) (hs : (P.info? T).map (·.size) = some 1) (h1 : u.oneCell' = true)
    (h : ∀ w' cs', Hid (cs' = cs.set i u) → Hid (cs'.length = n) → Hid (Blk w' g T' cs') → Hid (Only g w w') → g < w'.heap.size → wpList P ops Q rest a w') (hd : o.dst = none := by rfl) : wpList P ops Q (o :: rest) a w :=
  wpList_store_fld hg T x y ho g i hx T' cs u hy hA (Eq.subst (motive := fun m => Hid (i < m)) hl.out.symm hi) hs h1 (fun w' K O q => h w' _ rfl (by show _ = _; rw [List.length_set]; exact hl) K O q) hd

/-- a slice literal -/
theorem wpList_slice_blk (hg : o.guard = none) (t e : TypeId) (len : Nat) (parts : Array (Nat × Operand)) (ho : o.op = .buildSlice t len parts) (hu : P.underlying t = some (.slice e)) (cs : List Value)
    (hf : P.builtSlice e len (parts.map fun (i, x) => (i, a.eval x)).toList = some cs.toArray)
    (h : ∀ g w', w.heap.size ≤ g → g < w'.heap.size → Hid (Blk w' g e cs) → Hid (Below w.heap.size w w') → wpList P ops Q rest (a.put o.dst (.slice (some ⟨g, 0, none⟩) len len)) w') : wpList P ops Q (o :: rest) a w :=
  _root_.Go.Great.wpList_buildSliceTo hg t e len parts ho w.heap.size rfl _ rfl hu cs.toArray hf (h _ _ (Nat.le_refl _) (by simp) (Blk.new w e cs) ((Below.refl _ _).alloc (Nat.le_refl _) _))

/-- the same as a step of a region that draws its order -/
theorem step_slice_blk {K : Act → World → Prop} {E : Prop} (hg : o.guard = none) (t e : TypeId) (len : Nat) (parts : Array (Nat × Operand)) (ho : o.op = .buildSlice t len parts) (hu : P.underlying t = some (.slice e)) (cs : List Value)
    (hf : P.builtSlice e len (parts.map fun (i, x) => (i, a.eval x)).toList = some cs.toArray)
    (h : ∀ g w', w.heap.size ≤ g → g < w'.heap.size → Hid (Blk w' g e cs) → Hid (Below w.heap.size w w') → K (a.put o.dst (.slice (some ⟨g, 0, none⟩) len len)) w') :
    if Region.wanted o (yielded ops a.tmps) = true then Oper.wp P o a w K Q else E := by
  have hw : Region.wanted o (yielded ops a.tmps) = true := by simp [Region.wanted, hg]
  rw [if_pos hw]
  unfold Program.builtSlice at hf
  cases hie : P.info? e with
  | none => simp [hie] at hf
  | some ie =>
    simp only [hie] at hf
    cases hz : ie.zero with
    | none => simp [hz] at hf
    | some z =>
      simp only [hz] at hf
      by_cases hc : len * ie.size > 2 ^ 24 ∨ len * ie.size = 0
      · simp [hc] at hf
      · rw [if_neg hc] at hf
        exact wp_buildSlice t e len parts ho _ ie z hu hie hz (fun h' => hc (Or.inl h')) (fun h' => hc (Or.inr h')) hf (h _ _ (Nat.le_refl _) (by simp) (Blk.new w e cs) ((Below.refl _ _).alloc (Nat.le_refl _) _))

/-- a literal of several cells -/
theorem wpList_build_blk (hg : o.guard = none) (T : TypeId) (parts : Array (Nat × Operand)) (ho : o.op = .build T parts) (cs : List Value) (hf : P.built T (parts.map fun (i, x) => (i, a.eval x)).toList = some cs.toArray)
    (h : wpList P ops Q rest (a.put o.dst (.agg cs.toArray)) w) : wpList P ops Q (o :: rest) a w := wpList_buildTo hg T parts ho _ rfl _ hf h
/-- the zero literal -/
theorem wpList_build_none (hg : o.guard = none) (T : TypeId) (ho : o.op = .build T #[]) (cs : List Value) (hf : P.built T [] = some cs.toArray)
    (h : wpList P ops Q rest (a.put o.dst (.agg cs.toArray)) w) : wpList P ops Q (o :: rest) a w := by
  refine wpList_buildTo hg T #[] ho _ rfl cs.toArray ?_ h
  rw [← hf]
  simp
end

/-- what copy leaves of a row of cells -/
def spliced (cur : List Value) (off : Nat) (xs : List Int) : List Value := cur.take off ++ (xs.map (Value.int .u8) ++ cur.drop (off + xs.length))

/-- copy(dst[off:], src), dst a block of its own, all of src fitting in; src not empty -/
theorem wpList_copy_mid {w : World} {ops : Array Oper} {rest : List Oper} {o : Oper} {a : Act} {Q : Exit → Act → World → Prop} (hgd : o.guard = none) (d s : Operand)
    (ho : o.op = .call { callee := .builtin .copy, args := #[d, s], argTypes := #[29, 29] })
    (g off : Nat) (T : TypeId) (dLen dCap n c : Nat) (A : Option Addr) (hd : a.eval d = .slice (some ⟨g, off, none⟩) dLen dCap) (hs : a.eval s = .slice A n c)
    (cur : List Value) (xs : List Int) (B : Nat) (hrow : Hid (Blk w g T cur)) (hx : Holds w B A n c xs) (h0 : 0 < n) (hn : n ≤ dLen) (hfit : Hid (off + n ≤ cur.length))
    (h : ∀ w', Hid (Blk w' g T (spliced cur off xs)) → Hid (Only g w w') → wpList Try.prog ops Q rest (a.put o.dst (goInt n)) w') :
    wpList Try.prog ops Q (o :: rest) a w := by
  have hl := hx.len
  obtain ⟨i0, hi, hz0, hz1, hz2⟩ := info_parts info_u8
  obtain ⟨b, so, rfl, _, hc⟩ := hx.cells h0
  refine wpList_copy_own hgd d s 29 29 ho 5 Try.underlying29 (by rw [hi]; simp [hz1]) g off dLen dCap _ n c hd hs cur.toArray T hrow.out (xs.map (Value.int .u8)) (by rw [List.length_map, hl]; exact (Nat.min_eq_left hn).symm) ?_ (by have := hfit.out; simp; omega)
    (by intro v hv; obtain ⟨x, _, rfl⟩ := List.mem_map.1 hv; rfl) ?_
  · intro j v hj
    have hjl : j < xs.length := by
      by_cases hj' : j < xs.length
      · exact hj'
      · rw [List.getElem?_eq_none (by simp; omega)] at hj
        cases hj
    rw [Addr.add_mid, hc j (by omega), ← hj]
    simp [hjl]
  · have e := h (w.setRow g (spliced cur off xs).toArray) (setRow_heap w g _ _ T (0, 0) hrow.out) ((Only.refl g w).setRow _)
    have e2 : goInt (xs.map (Value.int .u8)).length = goInt n := by rw [List.length_map, hl]
    rw [e2]
    simpa [spliced] using e

/-- the same as a step of a region that draws its order -/
theorem step_copy_mid {w : World} {ops : Array Oper} {o : Oper} {a : Act} {K : Act → World → Prop} {Q : Exit → Act → World → Prop} {E : Prop} (hgd : o.guard = none) (d s : Operand)
    (ho : o.op = .call { callee := .builtin .copy, args := #[d, s], argTypes := #[29, 29] })
    (g off : Nat) (T : TypeId) (dLen dCap n c : Nat) (A : Option Addr) (hd : a.eval d = .slice (some ⟨g, off, none⟩) dLen dCap) (hs : a.eval s = .slice A n c)
    (cur : List Value) (xs : List Int) (B : Nat) (hrow : Hid (Blk w g T cur)) (hx : Holds w B A n c xs) (h0 : 0 < n) (hn : n ≤ dLen) (hfit : Hid (off + n ≤ cur.length))
    (h : ∀ w', Hid (Blk w' g T (spliced cur off xs)) → Hid (Only g w w') → K (a.put o.dst (goInt n)) w') :
    if Region.wanted o (yielded ops a.tmps) = true then Oper.wp Try.prog o a w K Q else E := by
  have hw : Region.wanted o (yielded ops a.tmps) = true := by simp [Region.wanted, hgd]
  rw [if_pos hw]
  have hl := hx.len
  obtain ⟨i0, hi, hz0, hz1, hz2⟩ := info_parts info_u8
  obtain ⟨b, so, rfl, _, hc⟩ := hx.cells h0
  have hrun := run_copy_row (P := Try.prog) w 29 29 o.type 5 g off dLen dCap ⟨b, so, none⟩ n c cur.toArray T (xs.map (Value.int .u8)) Try.underlying29 (by rw [hi]; simp [hz1]) hrow.out (by rw [List.length_map, hl]; exact (Nat.min_eq_left hn).symm)
    (by
      intro j v hj
      have hjl : j < xs.length := by
        by_cases hj' : j < xs.length
        · exact hj'
        · rw [List.getElem?_eq_none (by simp; omega)] at hj
          cases hj
      rw [Addr.add_mid, hc j (by omega), ← hj]
      simp [hjl]) (by have := hfit.out; simp; omega) (by intro v hv; obtain ⟨x, _, rfl⟩ := List.mem_map.1 hv; rfl)
  unfold Oper.wp
  simp [execOp, ho, resolve, invoke, builtin, hd, hs, hrun, Result.andThen]
  have e := h (w.setRow g (spliced cur off xs).toArray) (setRow_heap w g _ _ T (0, 0) hrow.out) ((Only.refl g w).setRow _)
  rw [Oper.upon_value]
  simpa [spliced, hl] using e

theorem spliced_row (cur xs : List Int) (off : Nat) : spliced (cur.map (Value.int .u8)) off xs = (cur.take off ++ xs ++ cur.drop (off + xs.length)).map (Value.int .u8) := by
  simp [spliced]
theorem spliced_sig (h : Hd) (xs : List Int) (hl : h.sg.length = 16) (hx : xs.length = 16) : spliced (hcells h) 10 xs = hcells { h with sg := xs } := by
  have e : (hcells h).drop (10 + xs.length) = [] := List.drop_of_length_le (by simp [hcells, hl, hx])
  unfold spliced
  rw [e, List.append_nil]
  rfl

/-! ### heads -/
end Go.Proofs.Ytgbhnnobbciemaa
