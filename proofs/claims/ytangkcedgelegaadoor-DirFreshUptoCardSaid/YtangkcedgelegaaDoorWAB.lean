import Derived.WalkKit
import Derived.Deep.Draws
import Derived.Laws.Rows
import Derived.Laws.OwnMore
import Derived.Test.YtangkcedgelegaaDoorRows
import Derived.Laws.CopyOwn
import Derived.Laws.AppendOwnNone
import Derived.Lib.Hide
import Derived.Laws.Tables
import Derived.Laws.NewFold
import Derived.Deep.WholeRow
import Derived.Deep.MidRow
import Derived.Great.Walk
import Derived.Laws.AppendOwn
import Derived.OwnWalk
import Derived.Lib.OthersKept
import Derived.Laws.BytesArg
import Derived.ProofKit
import Derived.OpenShut
import Derived.ShutString
import Derived.SizedLaws
import Derived.ChangeOld
import Derived.Lib.AppendZeros
import Derived.Deep.RegionWith
import Derived.Deep.DeepCutAuto
import Derived.OneCell
import Derived.Deep.Strs
import Derived.Deep.Slices
import Derived.WalkSpells
import Derived.WalkLawsBesides
import Derived.Deep.QuietTactic
import Derived.BigQuiet
import Derived.Laws.Bits64
import Derived.Laws.BitsAllLaws
import Derived.Lib.SliceRun
import Derived.Maps.AppendAt
import Derived.Lib.Overlaps
import Derived.Lib.RuneBytes
import Derived.Lib.ValidLaws
import Derived.Shelf.Utf8.AppendRunePlain
import Derived.Shelf.Utf8.RuneCount
import Derived.Shelf.LaysM
import Derived.Shelf.Strconv.Clone
import Derived.Shelf.Unicode.DecodeSlow
import Derived.Shelf.Unicode.DecodeAny
import Derived.Shelf.Slices.Turned
import Derived.Shelf.Unicode.ValidAny
import Derived.Test.YtangkcedgelegaaDoorProg
import Derived.Laws.IdiomStrings
import Derived.Laws.Cover4
import Derived.Lib.RuneCount
import Derived.Lib.IndexLaws
import Derived.StillTailTactics
import Derived.WalkMore
import Derived.Lib.Join
import Derived.Deep.RegionLaw
import Derived.Deep.CutBlock
import Derived.OrdersHeld
import Derived.Laws.StructEq
import Derived.ChangeKeysEq
import Derived.Maps.OwnSet
import Derived.StringKeys
import Derived.Laws.Externs
import Derived.RangeFuncNested
import Derived.RangeFuncBound
import Derived.RangeFuncCalls
import Derived.RangeFuncLeaves
import Derived.Shelf.Abstract
import Derived.Shelf.RegionOpen
import Derived.OwnWalkIn
import Derived.TacticsInMore
import Derived.LoopNIn
import Derived.LoopIn
import Derived.Test.YtangkcedgelegaaDoorWAA
namespace Go.Proofs.YtangkcedgelegaaDoor
set_option linter.all false
set_option maxRecDepth 100000
open Go.RowKit
/-- block g is a variable of type T whose cells are cs, none frozen -/
def Blk (w : World) (g : Nat) (T : TypeId) (cs : List Value) : Prop := w.heap[g]? = some (.cells cs.toArray T (0, 0))
/-- the cells of a head -/
def hcells (h : Hd) : List Value := .int .u16 h.ch :: .int .u32 h.st :: .int .u16 h.cm :: .int .u16 h.cr :: .int .u32 h.fl :: .int .u32 h.nx :: .int .u64 h.id :: .int .u64 h.asy :: .int .u32 h.tr :: .int .u64 h.se :: h.sg.map (Value.int .u8)
def hv (h : Hd) : Value := .agg (hcells h).toArray
/-- nothing but block g may have turned, of what was there; there may be more -/
structure Save (g : Nat) (w w' : World) : Prop where
  os : w'.os = w.os
  tape : w'.tape = w.tape
  output : w'.output = w.output
  size : w.heap.size ≤ w'.heap.size
  rest : ∀ j, j < w.heap.size → j ≠ g → w'.heap[j]? = w.heap[j]?
section
variable {w w' w2 : World} {g g' B : Nat} {T T' : TypeId} {cs cs' : List Value} {h h' : Hd} {k : IntKind} {xs : List Int}
theorem Save.refl (g : Nat) (w : World) : Save g w w := ⟨rfl, rfl, rfl, Nat.le_refl _, fun _ _ _ => rfl⟩
theorem Save.trans (a : Save g w w') (b : Save g w' w2) : Save g w w2 :=
  ⟨b.os.trans a.os, b.tape.trans a.tape, b.output.trans a.output, Nat.le_trans a.size b.size, fun j hj hg => (b.rest j (Nat.lt_of_lt_of_le hj a.size) hg).trans (a.rest j hj hg)⟩
theorem Save.of_only (hO : Only g w w') : Save g w w' := ⟨hO.os, hO.tape, hO.output, Nat.le_of_eq hO.size.symm, fun j _ hg => hO.rest j hg⟩
theorem Save.below (a : Save g w w') (hg : B ≤ g) (hB : B ≤ w.heap.size) : Below B w w' := ⟨a.os, a.tape, a.output, a.size, fun j hj => a.rest j (by omega) (by omega)⟩
theorem only_setCell (w : World) (g i : Nat) (v : Value) : Only g w (w.setCell ⟨g, i, none⟩ v) := (Only.refl g w).setCell i v
theorem below_only (hb : Below B w w') (hO : Only g w' w2) (hg : B ≤ g) : Below B w w2 := hb.trans (hO.below hg)
theorem Blk.lt (a : Blk w g T cs) : g < w.heap.size := (Array.getElem?_eq_some_iff.1 a).1
theorem Blk.cell (a : Blk w g T cs) (i : Nat) : w.cell? ⟨g, i, none⟩ = cs[i]? := by rw [cell_of_row w g i _ T (0, 0) a]; simp
theorem Blk.frozen (a : Blk w g T cs) (i : Nat) : w.frozen? ⟨g, i, none⟩ = false := frozen_of_row w g i _ T a
theorem Blk.below (a : Blk w g T cs) (hb : Below B w w') (hg : g < B) : Blk w' g T cs := (hb.block g hg).trans a
theorem Blk.over (a : Blk w g T cs) (hb : Below w.heap.size w w') : Blk w' g T cs := a.below hb a.lt
theorem Blk.only (a : Blk w g T cs) (hO : Only g' w w') (hg : g ≠ g') : Blk w' g T cs := (hO.rest g hg).trans a
theorem Blk.drew (a : Blk w g T cs) : Blk w.drew g T cs := a
theorem Blk.drewN (a : Blk w g T cs) (n : Nat) : Blk (w.drewN n) g T cs := a
theorem Blk.alloc (a : Blk w g T cs) (o : Obj) : Blk (w.alloc o) g T cs := (Below.heap_alloc _ _ _ a.lt).trans a
theorem Blk.new (w : World) (T : TypeId) (cs : List Value) : Blk (w.alloc (.cells cs.toArray T)) w.heap.size T cs := heap_alloc_new w _
theorem Blk.set (a : Blk w g T cs) (i : Nat) (v : Value) : Blk (w.setCell ⟨g, i, none⟩ v) g T (cs.set i v) := by
  have h1 := heap_setCell_same w g i _ T v a
  unfold Blk
  rw [h1]
  simp
theorem Blk.range (a : Blk w g T cs) (o : Nat) : w.rangeAt g o (cs.drop o) := fun j v hj => by
  rw [a.cell, ← hj, List.getElem?_drop]
theorem Row.only (a : Row w g xs) (hO : Only g' w w') (hg : g ≠ g') : Row w' g xs := (hO.rest g hg).trans a
theorem Row.over (a : Row w g xs) (hb : Below w.heap.size w w') : Row w' g xs := a.below hb a.lt
theorem Holds.only {A : Option Addr} {n c : Nat} (a : Holds w B A n c xs) (hO : Only g' w w') (hg : B ≤ g') : Holds w' B A n c xs := a.below (hO.below hg)
end
section
variable {P : Program} {ops : Array Oper} {rest : List Oper} {o : Oper} {a : Act} {w : World} {Q : Exit → Act → World → Prop}
/-- a parameter of several cells that gets a block of its own -/
theorem wpList_box_blk (hg : o.guard = none) (T : TypeId) (x : Operand) (ho : o.op = .box T x) (cs : List Value) (hx : a.eval x = .agg cs.toArray)
    (h : ∀ g w', w.heap.size ≤ g → g < w'.heap.size → Hid (Blk w' g T cs) → Hid (Below w.heap.size w w') → wpList P ops Q rest (a.put o.dst (.pointer (some ⟨g, 0, none⟩))) w') : wpList P ops Q (o :: rest) a w := by
  refine wpList_plain hg fun K hK => ?_
  unfold Oper.wp execOp
  simp only [ho, hx, Sem.run_bind, Instr.box, newVar, newRow, run_newObj_alloc, Sem.run_pure, Result.andThen_ok]
  refine hK _ _ (h _ _ (Nat.le_refl _) (by simp) ?_ ((Below.refl _ _).alloc (Nat.le_refl _) _))
  exact Blk.new w T cs
/-- a parameter of one cell that gets a block of its own -/
theorem wpList_box_one (hg : o.guard = none) (T : TypeId) (x : Operand) (ho : o.op = .box T x) (v : Value) (hx : a.eval x = v) (hv : v.cells = #[v])
    (h : ∀ g w', w.heap.size ≤ g → g < w'.heap.size → Hid (Blk w' g T [v]) → Hid (Below w.heap.size w w') → wpList P ops Q rest (a.put o.dst (.pointer (some ⟨g, 0, none⟩))) w') : wpList P ops Q (o :: rest) a w := by
  refine wpList_plain hg fun K hK => ?_
  unfold Oper.wp execOp
  simp only [ho, hx, hv, Sem.run_bind, Instr.box, newVar, newRow, run_newObj_alloc, Sem.run_pure, Result.andThen_ok]
  refine hK _ _ (h _ _ (Nat.le_refl _) (by simp) ?_ ((Below.refl _ _).alloc (Nat.le_refl _) _))
  exact Blk.new w T [v]
/-- one cell of it -/
theorem run_storeVar_fld (w : World) (g i : Nat) (T' ty : TypeId) (cs : List Value) (u : Value) (hB : Blk w g T' cs) (hi : i < cs.length) (hs : (P.info? ty).map (·.size) = some 1) (h1 : u.oneCell' = true) :
    (storeVar ty ⟨g, i, none⟩ u).run P w = .ok () (w.setCell ⟨g, i, none⟩ u) := by
  have hc : u.cells = #[u] := by cases u <;> first | rfl | (simp [Value.oneCell'] at h1)
  have := run_storeCells_cells (P := P) g i [u] 0 w (fun j hj => by
      obtain rfl : j = 0 := by simpa using hj
      show (w.cell? ⟨g, i, none⟩).isSome = true
      rw [hB.cell]
      simp [hi]) (fun j _ => hB.frozen _) (fun x hx => by obtain rfl := List.mem_singleton.1 hx; exact h1)
  cases hq : P.info? ty with
  | none => simp [hq] at hs
  | some q =>
    have hz : q.size = 1 := by simpa [hq] using hs
    simp [storeVar, sizeOf, typeInfo, hq, hc, hz]
    simpa [World.setCells] using this
theorem wpList_store_fld (hg : o.guard = none) (T : TypeId) (x y : Operand) (ho : o.op = .store T x y) (g i : Nat) (hx : a.eval x = .pointer (some ⟨g, i, none⟩)) (T' : TypeId) (cs : List Value) (u : Value) (hy : a.eval y = u)
    (hA : Hid (Blk w g T' cs)) (hi : Hid (i < cs.length)) (hs : (P.info? T).map (·.size) = some 1) (h1 : u.oneCell' = true)
    (h : ∀ w', Hid (Blk w' g T' (cs.set i u)) → Hid (Only g w w') → g < w'.heap.size → wpList P ops Q rest a w') (hd : o.dst = none := by rfl) : wpList P ops Q (o :: rest) a w := by
  have hp : a.put o.dst undef = a := by rw [hd]; rfl
  refine wpList_plain hg fun K hK => ?_
  unfold Oper.wp execOp
  simp only [ho, hx, hy, Instr.storeAt, Instr.sureAddr, Sem.run_bind, Sem.run_pure, Result.andThen_ok, run_storeVar_fld w g i T' T cs u hA.out hi.out hs h1]
  show K (a.put o.dst undef) _
  rw [hp]
  refine hK _ _ (h _ ?_ (only_setCell w g i u) ?_)
  · exact hA.out.set i u
  · have := (only_setCell w g i u).size
    rw [this]
    exact hA.out.lt
/-- a slice literal -/
theorem wpList_slice_blk (hg : o.guard = none) (t e : TypeId) (len : Nat) (parts : Array (Nat × Operand)) (ho : o.op = .buildSlice t len parts) (hu : P.underlying t = some (.slice e)) (cs : List Value)
    (hf : P.builtSlice e len (parts.map fun (i, x) => (i, a.eval x)).toList = some cs.toArray)
    (h : ∀ g w', w.heap.size ≤ g → g < w'.heap.size → Hid (Blk w' g e cs) → Hid (Below w.heap.size w w') → wpList P ops Q rest (a.put o.dst (.slice (some ⟨g, 0, none⟩) len len)) w') : wpList P ops Q (o :: rest) a w :=
  _root_.Go.Great.wpList_buildSliceTo hg t e len parts ho w.heap.size rfl _ rfl hu cs.toArray hf (h _ _ (Nat.le_refl _) (by simp) (Blk.new w e cs) ((Below.refl _ _).alloc (Nat.le_refl _) _))
/-- the same as a step of a region that draws its order -/
theorem step_slice_blk {K : Act → World → Prop} {E : Prop} (hg : o.guard = none) (t e : TypeId) (len : Nat) (parts : Array (Nat × Operand)) (ho : o.op = .buildSlice t len parts) (hu : P.underlying t = some (.slice e)) (cs : List Value)
    (hf : P.builtSlice e len (parts.map fun (i, x) => (i, a.eval x)).toList = some cs.toArray)
    (h : ∀ g w', w.heap.size ≤ g → g < w'.heap.size → Hid (Blk w' g e cs) → Hid (Below w.heap.size w w') → K (a.put o.dst (.slice (some ⟨g, 0, none⟩) len len)) w') :
    if Region.wanted o (yielded ops a.tmps) = true then Oper.wp P o a w K Q else E := by
  have hw : Region.wanted o (yielded ops a.tmps) = true := by simp [Region.wanted, hg]
  rw [if_pos hw]
  unfold Program.builtSlice at hf
  cases hie : P.info? e with
  | none => simp [hie] at hf
  | some ie =>
    simp only [hie] at hf
    cases hz : ie.zero with
    | none => simp [hz] at hf
    | some z =>
      simp only [hz] at hf
      by_cases hc : len * ie.size > 2 ^ 24 ∨ len * ie.size = 0
      · simp [hc] at hf
      · rw [if_neg hc] at hf
        exact wp_buildSlice t e len parts ho _ ie z hu hie hz (fun h' => hc (Or.inl h')) (fun h' => hc (Or.inr h')) hf (h _ _ (Nat.le_refl _) (by simp) (Blk.new w e cs) ((Below.refl _ _).alloc (Nat.le_refl _) _))
/-- a literal of several cells -/
theorem wpList_build_blk (hg : o.guard = none) (T : TypeId) (parts : Array (Nat × Operand)) (ho : o.op = .build T parts) (cs : List Value) (hf : P.built T (parts.map fun (i, x) => (i, a.eval x)).toList = some cs.toArray)
    (h : wpList P ops Q rest (a.put o.dst (.agg cs.toArray)) w) : wpList P ops Q (o :: rest) a w := wpList_buildTo hg T parts ho _ rfl _ hf h
end
end Go.Proofs.YtangkcedgelegaaDoor

namespace Go.Proofs.YtangkcedgelegaaDoor
set_option linter.all false
set_option maxRecDepth 100000
open Go.RowKit
set_option linter.unusedVariables false
structure Spare (S : Nat → Prop) (w w' : World) : Prop where
  os : w'.os = w.os
  tape : w'.tape = w.tape
  output : w'.output = w.output
  size : w.heap.size ≤ w'.heap.size
  rest : ∀ j, j < w.heap.size → ¬ S j → w'.heap[j]? = w.heap[j]?
/-- the row of an object heads its old block, or a new one, or none -/
def Wander (w : World) (v v' : Value) : Prop := ∀ i, v'.ownBlock = some i → v.ownBlock = some i ∨ w.heap.size ≤ i
/-- none of the rows heads v's block -/
def Away (ps : List PartT) (v : Value) : Prop := ∀ p ∈ ps, ∀ i, (partV p).ownBlock = some i → v.ownBlock ≠ some i
section
variable {S S' : Nat → Prop} {w w' w2 : World} {B base g : Nat} {T T' : TypeId} {cs : List Value} {v v' u : Value} {xs : List Int} {ps qs : List PartT} {k : IntKind} {e : TypeId} {Z : Bool} {A : Option Addr} {n c : Nat}
theorem Spare.refl (S : Nat → Prop) (w : World) : Spare S w w := ⟨rfl, rfl, rfl, Nat.le_refl _, fun _ _ _ => rfl⟩
theorem Spare.trans (a : Spare S w w') (b : Spare S' w' w2) (h : ∀ j, j < w.heap.size → S' j → S j) : Spare S w w2 :=
  ⟨b.os.trans a.os, b.tape.trans a.tape, b.output.trans a.output, Nat.le_trans a.size b.size, fun j hj hs => (b.rest j (Nat.lt_of_lt_of_le hj a.size) fun h' => hs (h j hj h')).trans (a.rest j hj hs)⟩
theorem Spare.mono (a : Spare S w w') (h : ∀ j, j < w.heap.size → S j → S' j) : Spare S' w w' := ⟨a.os, a.tape, a.output, a.size, fun j hj hs => a.rest j hj fun h' => hs (h j hj h')⟩
theorem Spare.of_over (S : Nat → Prop) (hb : Below w.heap.size w w') : Spare S w w' := ⟨hb.os, hb.tape, hb.output, hb.size, fun j hj _ => hb.block j hj⟩
theorem Spare.of_only (hO : Only g w w') : Spare (fun j => j = g) w w' := ⟨hO.os, hO.tape, hO.output, Nat.le_of_eq hO.size.symm, fun j _ hg => hO.rest j hg⟩
theorem Spare.of_grown (hg : w.grownBy w' v.ownBlock) : Spare (fun j => v.ownBlock = some j) w w' := ⟨hg.os, hg.tape, hg.output, hg.size, fun j hj hs => hg.block j hj fun h => hs h.symm⟩
theorem Spare.below (a : Spare S w w') (hS : ∀ j, S j → B ≤ j) (hB : B ≤ w.heap.size) : Below B w w' := ⟨a.os, a.tape, a.output, a.size, fun j hj => a.rest j (by omega) fun h => by have := hS j h; omega⟩
theorem Blk.spare (h : Blk w g T cs) (a : Spare S w w') (hg : ¬ S g) : Blk w' g T cs := (a.rest g h.lt hg).trans h
theorem Row.spare (h : Row w g xs) (a : Spare S w w') (hg : ¬ S g) : Row w' g xs := (a.rest g h.lt hg).trans h
theorem OwnK.spare (h : OwnK k e w base v xs) (a : Spare S w w') (hg : ∀ i, v.ownBlock = some i → ¬ S i) : OwnK k e w' base v xs := h.keep fun i _ hi hcs => a.rest i (Array.getElem?_eq_some_iff.1 hcs).1 (hg i hi)
theorem OwnZ.spare (h : OwnZ k e w base v xs) (a : Spare S w w') (hg : ∀ i, v.ownBlock = some i → ¬ S i) : OwnZ k e w' base v xs := h.keep fun i _ hi hcs => a.rest i (Array.getElem?_eq_some_iff.1 hcs).1 (hg i hi)
theorem OwnB.spare (h : OwnB Z w base v xs) (a : Spare S w w') (hg : ∀ i, v.ownBlock = some i → ¬ S i) : OwnB Z w' base v xs := h.keep fun i _ hi hcs => a.rest i (Array.getElem?_eq_some_iff.1 hcs).1 (hg i hi)
theorem OLst.spare (h : OLst Z w base v ps) (a : Spare S w w') (hv : ∀ i, v.ownBlock = some i → ¬ S i) (hp : ∀ p ∈ ps, ∀ i, (partV p).ownBlock = some i → ¬ S i) : OLst Z w' base v ps :=
  ⟨h.row.keep fun i _ hi hcs => a.rest i (Array.getElem?_eq_some_iff.1 hcs).1 (hv i hi), fun p hq => ⟨(h.each p hq).1.spare a (hp p hq), (h.each p hq).2⟩, h.apart⟩
theorem Wander.refl (w : World) (v : Value) : Wander w v v := fun i hi => .inl hi
theorem Wander.none (w : World) (v : Value) : Wander w v (.slice none 0 0) := fun i hi => by cases hi
theorem Away.nil (v : Value) : Away [] v := fun p hp => by cases hp
/-- rows that were there, and new ones, while an object's row wanders -/
theorem Away.step (h : Away ps v) (hw : Wander w v v') (ho : OLst Z w base u ps) (hq : Away qs v') : Away (ps ++ qs) v' := fun p hp i hi hv => by
  rcases List.mem_append.1 hp with hp | hp
  · rcases hw i hv with h1 | h1
    · exact h p hp i hi h1
    · obtain ⟨_, cs', hcs⟩ := (ho.each p hp).1.1.block hi
      have := (Array.getElem?_eq_some_iff.1 hcs).1
      omega
  · exact hq p hp i hi hv
end
section
variable {w : World} {ops : Array Oper} {rest : List Oper} {o : Oper} {a : Act} {Q : Exit → Act → World → Prop}
end
end Go.Proofs.YtangkcedgelegaaDoor

namespace Go.Proofs.YtangkcedgelegaaDoor
set_option linter.all false
set_option maxRecDepth 100000
open Go.RowKit
set_option linter.unusedVariables false
section
variable {α : Type} {f : α → Value} {S : Nat → Prop} {w w' : World} {base base' g : Nat} {e e' T : TypeId} {cs : List Value} {v v' u : Value} {xs : List α} {β : Type} {h' : β → Value} {ys : List β}
theorem OwnF.sparS (h : OwnF f e w base v xs) (a : Spare S w w') (hg : ∀ i, v.ownBlock = some i → ¬ S i) : OwnF f e w' base v xs := h.keep fun i _ hi hcs => a.rest i (Array.getElem?_eq_some_iff.1 hcs).1 (hg i hi)
theorem Wander.of_whither (h : Whither w v v') : Wander w v v' := fun i hi => by
  rcases h with h1 | ⟨g, h1, h2⟩
  · exact .inl (h1 ▸ hi)
  · rw [h1] at hi
    injection hi with hi
    subst hi
    exact .inr h2
theorem Wander.trans {v2 : Value} (h : Wander w v v') (k : Wander w' v' v2) (hs : w.heap.size ≤ w'.heap.size) : Wander w v v2 := fun i hi => by
  rcases k i hi with h1 | h1
  · exact h i h1
  · exact .inr (by omega)
theorem Wander.cut {A : Option Addr} {n c m : Nat} (w : World) : Wander w (.slice A n c) (.slice A m c) := fun i hi => .inl (by cases A with | none => cases hi | some a => exact hi)
end
section
variable {α : Type} {f : α → Value} {P : Program} {w : World} {ops : Array Oper} {rest : List Oper} {o : Oper} {a : Act} {Q : Exit → Act → World → Prop}
end
end Go.Proofs.YtangkcedgelegaaDoor

namespace Go.Proofs.YtangkcedgelegaaDoor
set_option linter.all false
set_option maxRecDepth 100000
open Go.RowKit
set_option linter.unusedVariables false
section
variable {α : Type} {f : α → List Value} {s : Nat} {w w' : World} {base q n c : Nat} {e : TypeId} {xs : List α} {v : Value} {S : Nat → Prop}
theorem OwnS.heap (h : OwnS f s e w base (.slice (some ⟨q, 0, none⟩) n c) xs) : base ≤ q ∧ xs.length = n ∧ ∃ cur : Array Value, w.heap[q]? = some (.cells cur e (0, 0)) ∧ n * s ≤ cur.size ∧ cur.toList.take (n * s) = xs.flatMap f ∧ n ≤ c ∧ c ≤ maxLen ∧ cur.size = c * s := by
  rcases h.2 with ⟨h0, _⟩ | ⟨g', cap, cur, hv, hb, hg, hnc, hcm, hcs, htk⟩
  · cases h0
  · simp only [Value.slice.injEq, Option.some.injEq, Addr.mk.injEq, and_true] at hv
    obtain ⟨rfl, hn, rfl⟩ := hv
    exact ⟨hb, hn.symm, cur, hg, by rw [hcs, hn]; exact Nat.mul_le_mul_right s hnc, by rw [hn]; exact htk, by omega, hcm, hcs⟩
theorem OwnS.sparS (h : OwnS f s e w base v xs) (a : Spare S w w') (hg : ∀ i, v.ownBlock = some i → ¬ S i) : OwnS f s e w' base v xs := h.keep fun i _ hi hcs => a.rest i (Array.getElem?_eq_some_iff.1 hcs).1 (hg i hi)
end
section
variable {α : Type} {P : Program} {w : World} {ops : Array Oper} {rest : List Oper} {o : Oper} {a : Act} {Q : Exit → Act → World → Prop} {K : Act → World → Prop} {E : Prop}
/-- append(l, ys...) as a step of a region that draws, ys lying in a block b: onto a row of values of one cell; where it heads is told -/
theorem step_append_any (f : α → Value) (hf : ∀ y, (f y).oneCell' = true) (z : Value) (hzc : z.cells.size = 1) (T e : TypeId) (bytes : Nat) (hgd : o.guard = none) (l x : Operand)
    (ht : P.underlying T = some (.slice e)) (hi : (P.info? e).map (fun i => (i.zero, i.size, i.bytes)) = some (some z, 1, bytes))
    (ho : o.op = .call { callee := .builtin .append, args := #[l, x], argTypes := #[T, T] })
    (base : Nat) (v : Value) (xs ys : List α) (m c b : Nat) (hm : ys.length = m) (hs : a.eval l = v) (hx : a.eval x = .slice (some ⟨b, 0, none⟩) m c) (hb : w.heap[b]? = some (.cells (ys.map f).toArray e (0, 0)))
    (hown : OwnF f e w base v xs) (hlen : (xs.length + m) * bytes ≤ 140737488355328) (h63 : xs.length + m ≤ 9223372036854775807) (hbase : base ≤ w.heap.size)
    (h : ∀ v' w', Hid (OwnF f e w' base v' (xs ++ ys)) → Hid (Spare (fun j => v.ownBlock = some j) w w') → Hid (Wander w v v') → K (a.put o.dst v') w') :
    if Region.wanted o (yielded ops a.tmps) = true then Oper.wp P o a w K Q else E := by
  have hw : Region.wanted o (yielded ops a.tmps) = true := by simp [Region.wanted, hgd]
  rw [if_pos hw]
  obtain ⟨i0, hi0, hz0, hz1, hz2⟩ := info_parts hi
  obtain ⟨v', w', hrun, ho', hg', hwh⟩ := run_append_whither (P := P) w T o.type e i0 z bytes ht hi0 hz0 hz1 hz2 hzc base v xs.length (xs.map f) hown ⟨b, 0, none⟩ m c (ys.map f) (by simp [hm])
    (fun j y hj => by
      have e1 : (⟨b, 0, none⟩ : Addr).add j = ⟨b, j, none⟩ := by
        by_cases hj0 : j = 0
        · subst hj0; simp [Addr.add]
        · simp [Addr.add, hj0]
      rw [e1, cell_of_row _ b j _ e (0, 0) hb, ← hj]
      simp)
    (by intro v hv; obtain ⟨x, _, rfl⟩ := List.mem_map.1 hv; exact hf x) (by unfold maxLen; omega) hlen hbase
  unfold Oper.wp execOp
  simp only [ho, resolve, invoke, builtin, Sem.run_bind, Sem.run_pure, Result.andThen_ok, List.map_toArray, List.map_cons, List.map_nil, hs, hx, hrun]
  refine h v' w' ?_ (Spare.of_grown hg') (Wander.of_whither hwh)
  show World.ownsRow _ _ _ _ _ _ _
  rw [List.length_append, List.map_append, hm]
  exact ho'
end
theorem OwnS.form {α : Type} {f : α → List Value} {s : Nat} {e : TypeId} {w : World} {base : Nat} {v : Value} {xs : List α} (h : OwnS f s e w base v xs) (hn : 0 < xs.length) : ∃ q c, v = .slice (some ⟨q, 0, none⟩) xs.length c := by
  rcases h.2 with ⟨_, h0⟩ | ⟨g', cap, cur, hv, _⟩
  · omega
  · exact ⟨g', _, hv⟩
end Go.Proofs.YtangkcedgelegaaDoor

namespace Go.Proofs.YtangkcedgelegaaDoor
set_option linter.all false
set_option maxRecDepth 100000
open Go.RowKit
set_option linter.unusedVariables false
section
variable {P : Program} {w : World} {ops : Array Oper} {rest : List Oper} {o : Oper} {a : Act} {Q : Exit → Act → World → Prop}
theorem run_copy_blk (w : World) (dT sT ty elem : TypeId) (s g off dLen dCap : Nat) (ad : Addr) (sLen sCap : Nat) (cur : List Value) (t : TypeId) (cs : List Value)
    (hu : P.underlying dT = some (.slice elem)) (hs : (P.info? elem).map (·.size) = some s) (hg : Blk w g t cur) (hn : cs.length = Nat.min sLen dLen * s)
    (hsrc : ∀ j v, cs[j]? = some v → w.cell? (ad.add j) = some v) (hfit : off + cs.length ≤ cur.length) (h1 : ∀ v ∈ cs, v.oneCell' = true) :
    (Builtin.copy_ #[dT, sT] ty #[.slice (some ⟨g, off, none⟩) dLen dCap, .slice (some ad) sLen sCap]).run P w = .ok (goInt (Nat.min sLen dLen)) (w.setRow g (splice cur off cs).toArray) := by
  have hl := run_loadCells_list (P := P) w ad cs hsrc
  have hst := run_storeCells_at P g off t cs 0 cur.toArray w hg (by simpa using hfit) h1
  cases hq : P.info? elem with
  | none => simp [hq] at hs
  | some i =>
    have hi : i.size = s := by simpa [hq] using hs
    simp [Builtin.copy_, run_underlying hu, Builtin.lenOf, Builtin.firstCells, sizeOf, typeInfo, hq, hi, ← hn, hl, hst, splice]
/-- copy(dst, src) of structs of s cells, dst in a block that is known whole, src anywhere (in that block, too); as many go over as src has, or dst -/
theorem wpList_copy_blk (hgd : o.guard = none) (d x : Operand) (dT elem t : TypeId) (s k : Nat)
    (ho : o.op = .call { callee := .builtin .copy, args := #[d, x], argTypes := #[dT, dT] }) (hu : P.underlying dT = some (.slice elem)) (hs : (P.info? elem).map (·.size) = some s)
    (g off dLen dCap : Nat) (b so sLen sCap : Nat) (hd : a.eval d = .slice (some ⟨g, off, none⟩) dLen dCap) (hx : a.eval x = .slice (some ⟨b, so, none⟩) sLen sCap)
    (cur cs : List Value) (hg : Blk w g t cur) (hk : Nat.min sLen dLen = k) (hn : cs.length = k * s) (hsrc : ∀ j v, cs[j]? = some v → w.cell? ⟨b, so + j, none⟩ = some v) (hfit : off + k * s ≤ cur.length) (h1 : ∀ v ∈ cs, v.oneCell' = true)
    (h : ∀ w', Hid (Blk w' g t (splice cur off cs)) → Hid (Only g w w') → wpList P ops Q rest (a.put o.dst (goInt k)) w') : wpList P ops Q (o :: rest) a w := by
  have hrun := run_copy_blk (P := P) w dT dT o.type elem s g off dLen dCap ⟨b, so, none⟩ sLen sCap cur t cs hu hs hg (by rw [hk]; exact hn) (fun j v hj => by rw [Addr.add_mid]; exact hsrc j v hj) (by rw [hn]; exact hfit) h1
  rw [hk] at hrun
  refine wpList_plain hgd fun K hK => ?_
  unfold Oper.wp execOp
  simp only [ho, resolve, invoke, builtin, Sem.run_bind, Sem.run_pure, Result.andThen_ok, List.map_toArray, List.map_cons, List.map_nil, hd, hx, hrun]
  exact hK _ _ (h _ (setRow_heap w g _ _ t (0, 0) hg) ((Only.refl g w).setRow _))
/-- clear(x), x a slice of n structs of s cells in a block that is known whole -/
theorem wpList_clear_blk (hgd : o.guard = none) (x : Operand) (T elem t : TypeId) (s : Nat) (z : Value) (zs : List Value)
    (ho : o.op = .call { callee := .builtin .clear, args := #[x], argTypes := #[T] }) (hu : P.underlying T = some (.slice elem)) (hi : (P.info? elem).map (fun i => (i.zero, i.size)) = some (some z, s)) (hz : z.cells.size = s) (hz1 : ∀ v ∈ z.cells, v.oneCell' = true) (hs0 : 0 < s)
    (g off n c : Nat) (A : Option Addr) (hx : a.eval x = .slice A n c) (hA : 0 < n → A = some ⟨g, off, none⟩)
    (cur : List Value) (hg : Blk w g t cur) (hfit : off + n * s ≤ cur.length)
    (h : ∀ w' cs, Hid (cs.length = n * s) → Hid (Blk w' g t (splice cur off cs)) → Hid (Only g w w') → wpList P ops Q rest (a.put o.dst (.tuple #[])) w') : wpList P ops Q (o :: rest) a w := by
  have hzv := (zero_of_info hi).1
  rcases Nat.eq_zero_or_pos n with h0 | h0
  · subst h0
    have hrun : (Builtin.clear_ #[T] o.type #[.slice A 0 c]).run P w = .ok (.tuple #[]) w := by
      cases A <;> simp [Builtin.clear_, run_underlying hu]
    refine wpList_plain hgd fun K hK => ?_
    unfold Oper.wp execOp
    simp only [ho, resolve, invoke, builtin, Sem.run_bind, Sem.run_pure, Result.andThen_ok, List.map_toArray, List.map_cons, List.map_nil, hx, hrun]
    refine hK _ _ (h w [] (by show _ = _; simp) ?_ (Only.refl g w))
    show Blk w g t _
    simpa [splice] using hg
  · obtain rfl := hA h0
    obtain ⟨m, rfl⟩ : ∃ m, n = m + 1 := ⟨n - 1, by omega⟩
    have hl : (Builtin.zeroCells z.cells (m + 1)).toList.length = (m + 1) * s := by rw [Array.length_toList, size_zeroCells, hz]
    have h1 : ∀ v ∈ (Builtin.zeroCells z.cells (m + 1)).toList, v.oneCell' = true := by
      intro v hv
      simp only [Builtin.zeroCells, Array.toList_map, List.mem_map] at hv
      obtain ⟨i, _, rfl⟩ := hv
      have hlt : i % z.cells.size < z.cells.size := Nat.mod_lt _ (by omega)
      rw [getElem!_pos z.cells _ hlt]
      exact hz1 _ (Array.getElem_mem hlt)
    have hst := run_storeCells_at P g off t _ 0 cur.toArray w hg (by rw [hl]; simpa using hfit) h1
    have hrun : (Builtin.clear_ #[T] o.type #[.slice (some ⟨g, off, none⟩) (m + 1) c]).run P w = .ok (.tuple #[]) (w.setRow g (splice cur off (Builtin.zeroCells z.cells (m + 1)).toList).toArray) := by
      simp only [Nat.add_zero] at hst
      simp [Builtin.clear_, run_underlying hu, hzv, splice]
      simp at hst
      rw [hst]
      rfl
    refine wpList_plain hgd fun K hK => ?_
    unfold Oper.wp execOp
    simp only [ho, resolve, invoke, builtin, Sem.run_bind, Sem.run_pure, Result.andThen_ok, List.map_toArray, List.map_cons, List.map_nil, hx, hrun]
    exact hK _ _ (h _ _ hl (setRow_heap w g _ _ t (0, 0) hg) ((Only.refl g w).setRow _))
/-- append(s[:i], v...) where there is room: the block turns in place -/
theorem wpList_append_room (hgd : o.guard = none) (l x : Operand) (T elem : TypeId) (s : Nat)
    (ho : o.op = .call { callee := .builtin .append, args := #[l, x], argTypes := #[T, T] }) (hu : P.underlying T = some (.slice elem)) (hs : (P.info? elem).map (·.size) = some s)
    (g sLen sCap b so m c : Nat) (hl : a.eval l = .slice (some ⟨g, 0, none⟩) sLen sCap) (hx : a.eval x = .slice (some ⟨b, so, none⟩) m c)
    (cur cs : List Value) (hg : Blk w g elem cur) (hn : cs.length = m * s) (hsrc : ∀ j v, cs[j]? = some v → w.cell? ⟨b, so + j, none⟩ = some v) (hroom : sLen + m ≤ sCap) (hfit : sLen * s + m * s ≤ cur.length) (h1 : ∀ v ∈ cs, v.oneCell' = true)
    (h : ∀ w', Hid (Blk w' g elem (splice cur (sLen * s) cs)) → Hid (Only g w w') → wpList P ops Q rest (a.put o.dst (.slice (some ⟨g, 0, none⟩) (sLen + m) sCap)) w') : wpList P ops Q (o :: rest) a w := by
  cases hq : P.info? elem with
  | none => simp [hq] at hs
  | some i =>
    have hi : i.size = s := by simpa [hq] using hs
    have hrun := run_append_room (P := P) w T o.type elem i hu hq g sLen sCap cur.toArray hg ⟨b, so, none⟩ m c cs (by rw [hi, hn]) (fun j v hj => by rw [Addr.add_mid]; exact hsrc j v hj) h1 hroom (by rw [hi, hn]; simpa using hfit)
    rw [hi] at hrun
    refine wpList_plain hgd fun K hK => ?_
    unfold Oper.wp execOp
    simp only [ho, resolve, invoke, builtin, Sem.run_bind, Sem.run_pure, Result.andThen_ok, List.map_toArray, List.map_cons, List.map_nil, hl, hx, hrun]
    refine hK _ _ (h _ ?_ ((Only.refl g w).setRow _))
    have := setRow_heap w g cur.toArray (splice cur (sLen * s) cs).toArray elem (0, 0) hg
    show Blk _ _ _ _
    unfold Blk
    simpa [splice] using this
/-- append(s[:i], make([]T, k)...) where there is no room: a new block, all behind the old ones zero (not told), the old block as it was -/
theorem wpList_append_more (hgd : o.guard = none) (l x : Operand) (T tn elem t : TypeId) (s bytes : Nat) (z : Value) (kn : IntKind)
    (ho : o.op = .call { callee := .builtin .append, args := #[l, x], argTypes := #[T, tn] }) (hu : P.underlying T = some (.slice elem)) (htn : P.underlying tn = some (.int kn)) (hi : (P.info? elem).map (fun i => (i.zero, i.size, i.bytes)) = some (some z, s, bytes)) (hz : z.cells.size = s) (hs0 : 0 < s)
    (g sLen sCap k : Nat) (hl : a.eval l = .slice (some ⟨g, 0, none⟩) sLen sCap) (kk : IntKind) (C : Int) (hx : a.eval x = .int kk C) (hC : C = (k : Int))
    (cur : List Value) (hg : Blk w g t cur) (hfit : sLen * s ≤ cur.length) (hgrow : sCap < sLen + k) (h0 : 0 < k) (hlen : (sLen + k) * bytes ≤ 140737488355328) (h63 : sLen + k ≤ 9223372036854775807)
    (h : ∀ w' h' cap cs, Hid (w.heap.size ≤ h' ∧ h' < w'.heap.size) → Hid (Blk w' h' elem (cur.take (sLen * s) ++ cs)) → Hid ((cur.take (sLen * s) ++ cs).length = cap * s) → sLen + k ≤ cap → cap ≤ maxLen → Hid (Below w.heap.size w w') →
      wpList P ops Q rest (a.put o.dst (.slice (some ⟨h', 0, none⟩) (sLen + k) cap)) w') : wpList P ops Q (o :: rest) a w := by
  subst hC
  obtain ⟨i, hq, hz0, hz1, hz2⟩ := info_parts hi
  have hold : (Builtin.firstCells i.size sLen (.slice (some ⟨g, 0, none⟩) sLen sCap)).run P w.drew = .ok (cur.take (sLen * s)).toArray w.drew := by
    refine run_firstCells_some w.drew i.size sLen ⟨g, 0, none⟩ sLen sCap _ (by rw [hz1, List.length_take]; omega) fun j v hj => ?_
    rw [Addr.add_mid, Nat.zero_add]
    have := (Blk.cell (Blk.drew hg) j)
    rw [this, ← hj, List.getElem?_take]
    rw [List.getElem?_take] at hj
    split
    · rfl
    · rename_i hlt
      rw [if_neg hlt] at hj
      cases hj
  have hn : ¬ (sLen + k ≤ sCap) := by omega
  have hk0 : k ≠ 0 := by omega
  have hw : IntKind.i64.wrap (k : Int) = k := by rw [IntKind.wrap_i64]; omega
  have hneg : ¬ ((k : Int) < 0) := by omega
  have h63' : ¬ (9223372036854775807 < ((sLen : Int) + (k : Int))) := by omega
  have hb : k * i.bytes ≤ 140737488355328 := by rw [hz2]; exact Nat.le_trans (Nat.mul_le_mul_right _ (by omega)) hlen
  have h48 : ¬ (281474976710656 < (k : Int) * (i.bytes : Int)) := by rw [← Int.natCast_mul]; omega
  have h48' : ¬ (281474976710656 < Builtin.nextslicecap (sLen + k) sCap * i.bytes) := by have := growslice_fits (bytes := i.bytes) hgrow (by rw [hz2]; exact hlen); omega
  have hns : ¬ (k * i.size = 0) := Nat.mul_ne_zero hk0 (by omega)
  have hrun : (Builtin.append_ #[T, tn] o.type #[.slice (some ⟨g, 0, none⟩) sLen sCap, .int kk k]).run P w =
      .ok (.slice (some ⟨w.heap.size, 0, none⟩) (sLen + k) (grownCap w (sLen + k) sCap elem)) (w.drew.alloc (.cells ((cur.take (sLen * s)).toArray ++ Builtin.zeroCells z.cells k ++ Builtin.zeroCells z.cells (grownCap w (sLen + k) sCap elem - (sLen + k))) elem)) := by
    simp [Builtin.append_, run_underlying hu, run_underlying htn, sizeOf, typeInfo, zeroValue, hq, hz0, asInt, asIntOf, hw, hneg, h48, hn, h63', h48', hns, Question.forced, hold, newRow, grownCap]
  have hge := grownCap_ge w (sLen + k) sCap elem
  have hcm : grownCap w (sLen + k) sCap elem ≤ maxLen := grownCap_le_maxLen w (sLen + k) sCap elem (by unfold maxLen; omega)
  obtain ⟨cap, hcap⟩ : ∃ cap, cap = grownCap w (sLen + k) sCap elem := ⟨_, rfl⟩
  rw [← hcap] at hrun hge hcm
  refine wpList_plain hgd fun K hK => ?_
  unfold Oper.wp execOp
  simp only [ho, resolve, invoke, builtin, Sem.run_bind, Sem.run_pure, Result.andThen_ok, List.map_toArray, List.map_cons, List.map_nil, hl, hx, hrun]
  refine hK _ _ (h _ w.heap.size cap ((Builtin.zeroCells z.cells k).toList ++ (Builtin.zeroCells z.cells (cap - (sLen + k))).toList) ⟨Nat.le_refl _, by simp⟩ ?_ ?_ hge hcm ?_)
  · refine (heap_alloc_new w.drew _).trans ?_
    simp
  · have e1 : (Builtin.zeroCells z.cells k).toList.length = k * s := by rw [Array.length_toList, size_zeroCells, hz]
    have e2 : (Builtin.zeroCells z.cells (cap - (sLen + k))).toList.length = (cap - (sLen + k)) * s := by rw [Array.length_toList, size_zeroCells, hz]
    show _ = _
    rw [List.length_append, List.length_append, List.length_take, e1, e2, Nat.min_eq_left hfit, ← Nat.add_mul, ← Nat.add_mul]
    congr 1
    omega
  · exact (Below.refl _ _).drew.alloc (Nat.le_refl _) _
/-- append(l, x...), l the call's own row of structs, x such as lie anywhere: where the new slice heads is told -/
theorem wpList_append_holdSW {α : Type} (hgd : o.guard = none) (l x : Operand) (f : α → List Value) (s : Nat) (hs0 : 0 < s) (hfl : ∀ y, (f y).length = s) (hf : ∀ y, ∀ u ∈ f y, u.oneCell' = true) (z : Value) (hzc : z.cells.size = s) (T e : TypeId) (bytes : Nat)
    (ht : P.underlying T = some (.slice e)) (hi : (P.info? e).map (fun i => (i.zero, i.size, i.bytes)) = some (some z, s, bytes))
    (ho : o.op = .call { callee := .builtin .append, args := #[l, x], argTypes := #[T, T] })
    (base : Nat) (v : Value) (xs : List α) (hs : a.eval l = v) (hown : OwnS f s e w base v xs) (b so m c : Nat) (ys : List α) (hx : a.eval x = .slice (some ⟨b, so, none⟩) m c)
    (hm : ys.length = m) (hsrc : ∀ j u, (ys.flatMap f)[j]? = some u → w.cell? ⟨b, so + j, none⟩ = some u) (hlen : (xs.length + ys.length) * bytes ≤ 140737488355328) (h63 : xs.length + ys.length ≤ 9223372036854775807) (hbase : base ≤ w.heap.size)
    (h : ∀ v' w', Hid (OwnS f s e w' base v' (xs ++ ys)) → Hid (Spare (fun j => v.ownBlock = some j) w w') → Hid (Wander w v v') → wpList P ops Q rest (a.put o.dst v') w') :
    wpList P ops Q (o :: rest) a w := by
  obtain ⟨i0, hi0, hz0, hz1, hz2⟩ := info_parts hi
  obtain ⟨v', w', hrun, ho', hg', _, hwh⟩ := run_append_own_at (P := P) w base T o.type e i0 z s bytes ht hi0 hz0 hz1 hz2 hzc hs0 v xs.length (xs.flatMap f) hown ⟨b, so, none⟩ m c (ys.flatMap f) (by rw [flatMap_len hfl, hm])
    (fun j u hj => by rw [Addr.add_mid]; exact hsrc j u hj) (by intro u hu; obtain ⟨y, _, hy⟩ := List.mem_flatMap.1 hu; exact hf y u hy) (by unfold maxLen; omega) (by rw [← hm]; exact hlen) hbase
  refine wpList_plain hgd fun K hK => ?_
  unfold Oper.wp execOp
  simp only [ho, resolve, invoke, builtin, Sem.run_bind, Sem.run_pure, Result.andThen_ok, List.map_toArray, List.map_cons, List.map_nil, hs, hx, hrun]
  refine hK _ _ (h v' w' ?_ (Spare.of_grown hg') ?_)
  · show World.ownsRow _ _ _ _ _ _ _
    rw [List.length_append, List.flatMap_append, hm]
    exact ho'
  · intro i hi
    rcases hwh with h1 | h1
    · exact .inl (h1 ▸ hi)
    · rw [h1] at hi
      injection hi with hi
      exact .inr (by omega)
end
section
variable {α : Type} {f : α → List Value} {s : Nat} {w w' : World} {base q n c : Nat} {e : TypeId} {xs : List α} {v : Value} {A : Option Addr}
/-- such a row, and the block that bears it -/
theorem OwnS.blk (h : OwnS f s e w base (.slice (some ⟨q, 0, none⟩) n c) xs) : base ≤ q ∧ xs.length = n ∧ n ≤ c ∧ c ≤ maxLen ∧ ∃ cs, Blk w q e cs ∧ cs.length = c * s ∧ cs.take (n * s) = xs.flatMap f := by
  obtain ⟨hb, hn, cur, hg, _, htk, hnc, hcm, hcs⟩ := h.heap
  exact ⟨hb, hn, hnc, hcm, cur.toList, by unfold Blk; rw [hg], by rw [Array.length_toList, hcs], htk⟩
theorem OwnS.of_blk (hf : ∀ x, (f x).length = s) {cs : List Value} (hb : base ≤ q) (hB : Blk w q e cs) (hc : cs.length = c * s) (hcm : c ≤ maxLen) (hn : xs.length = n) (hnc : n ≤ c) (ht : cs.take (n * s) = xs.flatMap f) : OwnS f s e w base (.slice (some ⟨q, 0, none⟩) n c) xs :=
  ⟨by rw [flatMap_len hf], .inr ⟨q, c, cs.toArray, by rw [hn], hb, hB, by rw [hn]; exact hnc, hcm, by simpa using hc, by rw [hn]; simpa using ht⟩⟩
end
end Go.Proofs.YtangkcedgelegaaDoor

namespace Go.Proofs.YtangkcedgelegaaDoor
set_option linter.all false
set_option maxRecDepth 100000
open Go.RowKit
set_option linter.unusedVariables false
def itemCells (x : DItem) : List Value := [.string x.1, .int .i64 x.2]
theorem itemCells_len (x : DItem) : (itemCells x).length = 2 := rfl
/-- block g is the document's directory, its names in a row that v heads, in blocks from base on -/
structure RDr (w : World) (base g : Nat) (v : Value) (L : List DItem) : Prop where
  ge : base ≤ g
  blk : Blk w g 53 [v]
  row : OwnS itemCells 2 64 w base v L
  small : L.length ≤ 65536
  text : ∀ x ∈ L, x.1.size ≤ 4398046511104
def rdrS (g : Nat) (v : Value) : Nat → Prop := fun j => j = g ∨ v.ownBlock = some j
section
variable {w w' : World} {base base' g : Nat} {v : Value} {L : List DItem} {S : Nat → Prop}
theorem RDr.spare (h : RDr w base g v L) (a : Spare S w w') (hs : ∀ j, rdrS g v j → ¬ S j) : RDr w' base g v L := ⟨h.ge, h.blk.spare a (hs g (.inl rfl)), h.row.sparS a fun i hi => hs i (.inr hi), h.small, h.text⟩
theorem RDr.below (h : RDr w base g v L) (hb : Below w.heap.size w w') : RDr w' base g v L := ⟨h.ge, h.blk.over hb, h.row.below hb, h.small, h.text⟩
theorem RDr.set_lt (h : RDr w base g v L) : ∀ j, rdrS g v j → base ≤ j ∧ j < w.heap.size := fun j hj => by
  rcases hj with rfl | hj
  · exact ⟨h.ge, h.blk.lt⟩
  · exact ⟨(h.row.block hj).1, h.row.lt hj⟩
/-- what one name is, where it lies -/
theorem RDr.at (h : RDr w base g v L) {i : Nat} (hi : i < L.length) : ∃ q c, v = .slice (some ⟨q, 0, none⟩) L.length c ∧ L.length ≤ c ∧ c ≤ maxLen ∧ w.cell? ⟨q, i * 2, none⟩ = some (.string L[i].1) ∧ w.cell? ⟨q, i * 2 + 1, none⟩ = some (.int .i64 L[i].2) := by
  obtain ⟨A, n, c, rfl, hh⟩ := h.row.holds (by decide) itemCells_len
  rcases h.row.2 with ⟨h1, h2⟩ | ⟨q, cap, cur, h1, _, _, h3, h4, _⟩
  · omega
  · injection h1 with e1 e2 e3
    subst e1 e2 e3
    obtain ⟨b, off, e, _, hc⟩ := hh.cells (by omega)
    injection e with e
    injection e with e1 e2
    subst e1 e2
    have hx : L[i]? = some L[i] := List.getElem?_eq_getElem hi
    have k0 := hc i _ hx 0 _ rfl
    have k1 := hc i _ hx 1 _ rfl
    rw [Nat.zero_add] at k0 k1
    exact ⟨q, c, rfl, h3, h4, k0, k1⟩
theorem RDr.len (h : RDr w base g v L) : ∃ A c, v = .slice A L.length c := by
  rcases h.row.2 with ⟨h1, h2⟩ | ⟨q, cap, cur, h1, _⟩
  · exact ⟨none, 0, by rw [h1, h2]⟩
  · exact ⟨_, _, h1⟩
end
theorem lt_of_cellD {w : World} {p : Addr} {v : Value} (h : w.cell? p = some v) : p.block < w.heap.size := by
  rcases Nat.lt_or_ge p.block w.heap.size with h' | h'
  · exact h'
  · simp [World.cell?, Array.getElem?_eq_none h'] at h
end Go.Proofs.YtangkcedgelegaaDoor

namespace Go.Proofs.YtangkcedgelegaaDoor
set_option linter.all false
set_option maxRecDepth 100000
open Go.RowKit
set_option linter.unusedVariables false
theorem empty_beq {s : ByteArray} : (s.toList == []) = decide (s.size = 0) := by
  rw [Bool.eq_iff_iff, beq_iff_eq, decide_eq_true_iff, Lib.toList_data, Lib.size_eq]
  exact List.length_eq_zero_iff.symm
theorem empty_isEmpty {s : ByteArray} : s.toList.isEmpty = decide (s.size = 0) := by
  rw [← empty_beq, Bool.eq_iff_iff, List.isEmpty_iff, beq_iff_eq]
end Go.Proofs.YtangkcedgelegaaDoor

namespace Go.Proofs.YtangkcedgelegaaDoor
set_option linter.all false
set_option maxRecDepth 100000
open Go.RowKit
set_option linter.unusedVariables false
theorem take_snocD {L : List DItem} {i : Nat} (h : i < L.length) : L.take (i + 1) = L.take i ++ [L[i]] := List.take_succ_eq_append_getElem h
theorem OwnS.oneCD {α : Type} {f : α → List Value} {s : Nat} {e : TypeId} {w : World} {base : Nat} {v : Value} {xs : List α} (h : OwnS f s e w base v xs) : v.oneCell' = true := by
  rcases h.2 with ⟨rfl, _⟩ | ⟨_, _, _, rfl, _⟩ <;> rfl
end Go.Proofs.YtangkcedgelegaaDoor

namespace Go.Proofs.YtangkcedgelegaaDoor
set_option linter.all false
set_option maxRecDepth 100000
open Go.RowKit
set_option linter.unusedVariables false
noncomputable def dTold (p a : ByteArray) (y : DItem) : Bool := fitsOf p.data.toList y.1.data.toList && (decide (a.size = 0) || ahd a y.1)
section
variable {L : List DItem} {p a : ByteArray} {i : Nat} {m : Int}
theorem dNames_told (h : i < L.length) (ht : dTold p a L[i] = true) : dNames (L.take (i + 1)) p a = dNames (L.take i) p a ++ [L[i].1] := by
  unfold dTold at ht
  unfold dNames
  rw [take_snocD h, List.filter_append, List.map_append, List.filter_cons, if_pos ht]
  rfl
theorem dNames_cut (i : Nat) : dNames L p a = dNames (L.take i) p a ++ dNames (L.drop i) p a := by
  unfold dNames
  rw [← List.map_append, ← List.filter_append, List.take_append_drop]
theorem dNames_le (i : Nat) : (dNames (L.take i) p a).length ≤ i := by
  unfold dNames
  rw [List.length_map]
  exact Nat.le_trans (List.length_filter_le _ _) (List.length_take_le _ _)
theorem dNames_more (h : i < L.length) (ht : dTold p a L[i] = true) (hm : ((dNames (L.take i) p a).length : Int) = m) : (dNames L p a).take m.toNat = dNames (L.take i) p a ∧ decide (m < ((dNames L p a).length : Int)) = true := by
  have e := dNames_cut (L := L) (p := p) (a := a) (i + 1)
  rw [dNames_told h ht] at e
  have hk : m.toNat = (dNames (L.take i) p a).length := by omega
  constructor
  · rw [e, hk, List.append_assoc, List.take_left]
  · rw [e, decide_eq_true_iff]
    simp only [List.length_append, List.length_cons, List.length_nil]
    omega
end
def txtCells (x : ByteArray) : List Value := [.string x]
theorem txtCells_len (x : ByteArray) : (txtCells x).length = 1 := rfl
theorem txtCells_one (x : ByteArray) : ∀ u ∈ txtCells x, u.oneCell' = true := by
  intro u hu
  simp only [txtCells, List.mem_cons, List.not_mem_nil, or_false] at hu
  rw [hu]; rfl
theorem lit_cell1 (x : ByteArray) (w : World) (b : Nat) (h : Blk w b 9 (txtCells x)) : ∀ j u, ([x].flatMap txtCells)[j]? = some u → w.cell? ⟨b, 0 + j, none⟩ = some u := fun j u hj => by
  rw [Nat.zero_add, h.cell, ← hj]
  simp
/-- names that are answered: new memory -/
def LsPost (w : World) (xs : List ByteArray) (more : Bool) (n : Int) (e : Ending) (w' : World) : Prop :=
  ∃ v, e = .returned (.tuple #[v, .bool more, .int .i64 n]) ∧ OwnS txtCells 1 9 w' w.heap.size v xs ∧ Below w.heap.size w w'
theorem LsPost.err {w w' : World} {n : Int} (h : Below w.heap.size w w') : LsPost w [] false n (.returned (.tuple #[.slice none 0 0, .bool false, .int .i64 n])) w' := ⟨_, rfl, OwnS.nil _ _ _ _ _, h⟩
end Go.Proofs.YtangkcedgelegaaDoor

namespace Go.Proofs.YtangkcedgelegaaDoor
set_option linter.all false
open Go.RowKit Go.ChangeShapes Go.WideShapes
set_option linter.unusedVariables false
set_option maxRecDepth 100000
/-- an act: what, which name, its new one, its number -/
structure DActV where
  act : Int
  name : ByteArray
  nto : ByteArray
  num : Int
deriving Inhabited
def dactCells (a : DActV) : List Value := [.int .i64 a.act, .string a.name, .string a.nto, .int .i64 a.num]
/-- its numbers are numbers, its names are at most so long -/
structure DActOk (R : Nat) (a : DActV) : Prop where
  act : -9223372036854775808 ≤ a.act ∧ a.act ≤ 9223372036854775807
  num : -9223372036854775808 ≤ a.num ∧ a.num ≤ 9223372036854775807
  name : a.name.size ≤ R
  nto : a.nto.size ≤ R
/-- the slice value '.slice A n c' holds acts, in memory below block B -/
structure LDAct (R : Nat) (w : World) (B : Nat) (A : Option Addr) (n c : Nat) (l : List DActV) : Prop where
  row : HoldsS dactCells 4 w B A n c l
  each : ∀ x ∈ l, DActOk R x
section
variable {R : Nat} {w w' : World} {B B' : Nat} {A : Option Addr} {n c : Nat} {l : List DActV}
theorem LDAct.below (h : LDAct R w B A n c l) (hb : Below B w w') : LDAct R w' B A n c l := ⟨h.row.below hb, h.each⟩
theorem LDAct.mono (h : LDAct R w B A n c l) (hB : B ≤ B') : LDAct R w B' A n c l := ⟨h.row.mono hB, h.each⟩
theorem LDAct.over (h : LDAct R w w.heap.size A n c l) (hb : Below w.heap.size w w') : LDAct R w' w'.heap.size A n c l := (h.below hb).mono hb.size
theorem LDAct.len (h : LDAct R w B A n c l) : l.length = n := h.row.len
/-- the cells of one act -/
theorem LDAct.at (h : LDAct R w B A n c l) {i : Nat} (hi : i < n) : ∃ b off x, A = some ⟨b, off, none⟩ ∧ b < B ∧ l[i]? = some x ∧ DActOk R x ∧ w.rangeAt b (off + i * 4) (dactCells x) := by
  obtain ⟨b, off, e, hb, hc⟩ := h.row.cells (by omega)
  have hl := h.row.len
  have hx : l[i]? = some l[i] := List.getElem?_eq_getElem (by omega)
  exact ⟨b, off, l[i], e, hb, hx, h.each _ (List.getElem_mem _), h.row.range e hi hx⟩
end
section
variable {H : Type} {enc : TypeId × Value → H} {W : World} {base : Nat} {v : Value} {d : DataW H} {p : List MemPlace}
end
end Go.Proofs.YtangkcedgelegaaDoor

namespace Go.Proofs.YtangkcedgelegaaDoor
set_option linter.all false
open Go.RowKit
section
variable {P : Program} {ops : Array Oper} {md : Region.Mode} {S : World → Prop} {Q : Exit → Act → World → Prop}
theorem wpAnyH_one (i : Nat) (oi : Oper) {fuel : Nat} {listed : Array Bool} {a : Act} {w : World} (hr : Region.ready md ops listed = [i]) (hi : ops[i]? = some oi)
    (h : ∀ K : Act → World → Prop, (∀ a' w', S w' → wpAnyH P md ops Q S fuel (listed.setIfInBounds i true) a' w' → K a' w') → if Region.wanted oi (yielded ops a.tmps) = true then oi.wp P a w K Q else K (a.put oi.dst undef) w) : wpAnyH P md ops Q S (fuel + 1) listed a w := by
  refine wpAnyH_all hr (by simp) fun j hj => ?_
  obtain rfl : j = i := by simpa using hj
  have h1 := h (fun a' w' => S w' ∧ wpAnyH P md ops Q S fuel (listed.setIfInBounds j true) a' w') fun _ _ h2 h3 => ⟨h2, h3⟩
  unfold wpOp
  simp only [hi]
  by_cases hw : Region.wanted oi (yielded ops a.tmps) = true
  · rw [if_pos hw] at h1 ⊢
    exact .inl h1
  · rw [if_neg hw] at h1 ⊢
    exact h1
end
end Go.Proofs.YtangkcedgelegaaDoor

namespace Go.Proofs.YtangkcedgelegaaDoor
set_option linter.all false
set_option maxRecDepth 100000
open Go.RowKit
section
section
variable {P : Program} {w : World} {d : Nat} {xs ys : Array Value} {r : List (Bool × TypeId × Nat)} {q : Bool}
end
section
variable {P : Program} {ops : Array Oper} {S : World → Prop}
theorem yieldsIf_load_one {op : Oper} {a : Act} (hw : Region.wanted op (yielded ops a.tmps) = true) (T : TypeId) (x : Operand) (ho : op.op = .load T x) (g i : Nat) (hx : a.eval x = .pointer (some ⟨g, i, none⟩)) (v : Value)
    (hS : ∀ w, S w → w.cell? ⟨g, i, none⟩ = some v) (d : TypeDesc) (hu : P.underlying T = some d) (hd : (match d with | .struct _ | .array _ _ => true | _ => false) = false) : YieldsIf P ops S op v a :=
  .inl ⟨hw, fun w hw' => by
    have hc := hS w hw'
    have hagg : (isAgg T).run P w = .ok false w := by
      unfold isAgg
      rw [Sem.run_bind, run_underlying hu w]
      cases d <;> simp_all
    unfold execOp
    simp [ho, hx, Instr.loadAt, Instr.sureAddr, Sem.run_bind, Result.andThen_ok, loadVar, hagg, hc]⟩
theorem yieldsIf_nil {op : Oper} {a : Act} (hw : Region.wanted op (yielded ops a.tmps) = true) (x : Operand) (ho : op.op = .nilCheck x) (ad : Addr) (hx : a.eval x = .pointer (some ad)) : YieldsIf P ops S op (.pointer (some ad)) a :=
  .inl ⟨hw, fun w _ => by
    unfold execOp
    simp [ho, hx]⟩
theorem yieldsIf_move {op : Oper} {a : Act} (hw : Region.wanted op (yielded ops a.tmps) = true) (x : Operand) (ho : op.op = .move x) (v : Value) (hx : a.eval x = v) : YieldsIf P ops S op v a :=
  .inl ⟨hw, fun w _ => by
    unfold execOp
    simp [ho, hx]⟩
theorem yieldsIf_asg {op : Oper} {a : Act} (hw : Region.wanted op (yielded ops a.tmps) = true) (x : Operand) (ho : op.op = .assign x) (v : Value) (hx : a.eval x = v) : YieldsIf P ops S op v a :=
  .inl ⟨hw, fun w _ => by
    unfold execOp
    simp [ho, hx]⟩
theorem yieldsIf_fld {op : Oper} {a : Act} (hw : Region.wanted op (yielded ops a.tmps) = true) (T : TypeId) (x : Operand) (i : Nat) (ho : op.op = .fieldAddr T x i) (u v : Value) (hx : a.eval x = u) (hf : ∀ w, (Instr.fieldAt T u i).run P w = .ok v w) : YieldsIf P ops S op v a :=
  .inl ⟨hw, fun w _ => by
    unfold execOp
    simp only [ho, hx, Sem.run_bind, hf, Result.andThen_ok]
    rfl⟩
end
end
end Go.Proofs.YtangkcedgelegaaDoor

namespace Go.Proofs.YtangkcedgelegaaDoor
set_option linter.all false
set_option maxRecDepth 100000
open Go.RowKit
set_option linter.unusedVariables false
def I64D (x : Int) : Prop := -9223372036854775808 ≤ x ∧ x ≤ 9223372036854775807
def ptrD (q : Nat) : Value := .pointer (some ⟨q, 0, none⟩)
/-- what turns the program's directory answers -/
def DTurn (is : World → Nat → Nat → List DItem → (Nat → Prop) → Prop) (w : World) (b q : Nat) (S : Nat → Prop) (E : Int) (L' : List DItem) (e : Ending) (w' : World) : Prop :=
  e = .returned (.int .i64 E) ∧ ∃ S', is w' b q L' S' ∧ Spare S w w' ∧ ∀ j, S' j → S j ∨ w.heap.size ≤ j
structure DirI where
  /-- the tables that the program's words about texts stand on lie below b -/
  tb : Nat → World → Prop
  tbNext : ∀ {b : Nat} {w w' : World}, tb b w → Below b w w' → tb b w'
  tbUp : ∀ {b b' : Nat} {w : World}, tb b w → b ≤ b' → tb b' w
  /-- at q lies a directory of names L, made of the blocks S, all from base on -/
  is : World → Nat → Nat → List DItem → (Nat → Prop) → Prop
  ge : ∀ {w : World} {b q : Nat} {L : List DItem} {S : Nat → Prop}, is w b q L S → ∀ j, S j → b ≤ j ∧ j < w.heap.size
  ok : ∀ {w : World} {b q : Nat} {L : List DItem} {S : Nat → Prop}, is w b q L S → Dok L ∧ L.length ≤ 4096 ∧ ∀ x ∈ L, x.1.size ≤ 1048576
  keep : ∀ {w w' : World} {b q : Nat} {L : List DItem} {S S' : Nat → Prop}, is w b q L S → Spare S' w w' → (∀ j, S j → ¬ S' j) → is w' b q L S
  mono : ∀ {w : World} {b b' q : Nat} {L : List DItem} {S : Nat → Prop}, is w b q L S → b' ≤ b → is w b' q L S
  new : ∀ {w : World} {b : Nat}, tb b w → b ≤ w.heap.size → Calls Tryd.prog 23 #[] w fun e w' => ∃ q S, e = .returned (ptrD q) ∧ is w' w.heap.size q [] S ∧ Below w.heap.size w w'
  len : ∀ {w : World} {b q : Nat} {L : List DItem} {S : Nat → Prop}, is w b q L S → Calls Tryd.prog 15 #[ptrD q] w fun e w' => e = .returned (.int .i64 (L.length : Nat)) ∧ ∃ k, w.drewN k = w'
  find : ∀ {w : World} {b q : Nat} {L : List DItem} {S : Nat → Prop}, is w b q L S → tb b w → b ≤ w.heap.size → ∀ {s : ByteArray}, s.size ≤ 1048576 → Calls Tryd.prog 18 #[ptrD q, .string s] w fun e w' => e = .returned (.tuple #[.int .i64 (dFind L s).2, .string (dFind L s).1, .int .i64 (dFindE L s)]) ∧ Below w.heap.size w w'
  add : ∀ {w : World} {b q : Nat} {L : List DItem} {S : Nat → Prop}, is w b q L S → tb b w → b ≤ w.heap.size → ∀ {s : ByteArray} {n : Int}, s.size ≤ 1048576 → I64D n → L.length < 4096 → Calls Tryd.prog 17 #[ptrD q, .string s, .int .i64 n] w (DTurn is w b q S (dAddE L s) (dAdd L s n))
  remove : ∀ {w : World} {b q : Nat} {L : List DItem} {S : Nat → Prop}, is w b q L S → tb b w → b ≤ w.heap.size → ∀ {s : ByteArray}, s.size ≤ 1048576 → Calls Tryd.prog 21 #[ptrD q, .string s] w (DTurn is w b q S (dFindE L s) (dRem L s))
  rename : ∀ {w : World} {b q : Nat} {L : List DItem} {S : Nat → Prop}, is w b q L S → tb b w → b ≤ w.heap.size → ∀ {s t : ByteArray}, s.size ≤ 1048576 → t.size ≤ 1048576 → Calls Tryd.prog 22 #[ptrD q, .string s, .string t] w (DTurn is w b q S (dRenE L s t) (dRen L s t))
  list : ∀ {w : World} {b q : Nat} {L : List DItem} {S : Nat → Prop}, is w b q L S → tb b w → b ≤ w.heap.size → ∀ {p a : ByteArray} {m : Int}, p.size ≤ 1048576 → a.size ≤ 1048576 → I64D m → Calls Tryd.prog 12 #[ptrD q, .string p, .string a, .int .i64 m] w (LsPost w (dListN L p a m) (dListM L p a m) (dListE L p a m))
/-- the program's directory and the document's, apart from one another -/
structure TwoD (I : DirI) (w : World) (b q : Nat) (S : Nat → Prop) (g : Nat) (v : Value) (L M : List DItem) : Prop where
  x : I.is w b q L S
  r : RDr w b g v M
  off : ∀ j, S j → ¬ rdrS g v j
  hb : b ≤ w.heap.size
  tb : I.tb b w
section
variable {I : DirI} {w w' : World} {b q g : Nat} {S S' : Nat → Prop} {v v' : Value} {L L' M M' : List DItem}
theorem DirI.below (I : DirI) (h : I.is w b q L S) (hb : Below w.heap.size w w') : I.is w' b q L S := I.keep h (Spare.of_over (fun _ => False) hb) fun _ _ h => h
theorem TwoD.left (h : TwoD I w b q S g v L M) (x : I.is w' b q L' S') (a : Spare S w w') (n : ∀ j, S' j → S j ∨ w.heap.size ≤ j) : TwoD I w' b q S' g v L' M :=
  ⟨x, h.r.spare a fun j hj hs => h.off j hs hj, fun j hj hr => by
    rcases n j hj with h1 | h1
    · exact h.off j h1 hr
    · have := h.r.set_lt j hr
      omega, Nat.le_trans h.hb a.size, I.tbNext h.tb (a.below (fun j hj => (I.ge h.x j hj).1) h.hb)⟩
theorem TwoD.right (h : TwoD I w b q S g v L M) (r : RDr w' b g v' M') (a : Spare (rdrS g v) w w') (n : Wander w v v') : TwoD I w' b q S g v' L M' :=
  ⟨I.keep h.x a h.off, r, fun j hj hr => by
    have hl := (I.ge h.x j hj).2
    rcases hr with h1 | h1
    · exact h.off j hj (.inl h1)
    · rcases n j h1 with h2 | h2
      · exact h.off j hj (.inr h2)
      · omega, Nat.le_trans h.hb a.size, I.tbNext h.tb (a.below (fun j hj => (h.r.set_lt j hj).1) h.hb)⟩
theorem TwoD.below (h : TwoD I w b q S g v L M) (hb : Below w.heap.size w w') : TwoD I w' b q S g v L M :=
  ⟨I.below h.x hb, h.r.below hb, h.off, Nat.le_trans h.hb hb.size, I.tbNext h.tb (hb.mono h.hb)⟩
theorem TwoD.drewN (h : TwoD I w b q S g v L M) (k : Nat) : TwoD I (w.drewN k) b q S g v L M := h.below (drewed w k)
end
section
variable {P : Program} {ops : Array Oper} {md : Region.Mode} {S S' : World → Prop} {Q : Exit → Act → World → Prop}
end
end Go.Proofs.YtangkcedgelegaaDoor

namespace Go.Proofs.YtangkcedgelegaaDoor
set_option linter.all false
set_option maxRecDepth 100000
open Go.RowKit
set_option linter.unusedVariables false
/-- names that are answered, as Texts wants them -/
def txtL (xs : List ByteArray) : List (List UInt8) := xs.map fun b => b.data.toList
theorem txt_cells (xs : List ByteArray) : xs.flatMap txtCells = (txtL xs).map strV := by
  induction xs with
  | nil => rfl
  | cons x xs ih =>
    rw [List.flatMap_cons, ih]
    rfl
theorem OwnS.txts {e : TypeId} {w : World} {base : Nat} {v : Value} {xs : List ByteArray} (h : OwnS txtCells 1 e w base v xs) : OwnF strV e w base v (txtL xs) := by
  unfold OwnS at h
  unfold OwnF
  rw [← txt_cells]
  show w.ownsRow base e 1 v (xs.map _).length _
  rw [List.length_map]
  exact h
theorem lit_texts (w : World) (e : TypeId) (xs : List (List UInt8)) (cs : Array Value) (n : Nat) (hcs : cs = (xs.map strV).toArray) (hn : xs.length = n) :
    HoldsF strV (w.alloc (.cells cs e)) (w.heap.size + 1) (some ⟨w.heap.size, 0, none⟩) n n xs := by
  subst hcs
  refine ⟨hn, Nat.le_refl _, (fun hA => by cases hA), fun _ => ⟨w.heap.size, 0, rfl, Nat.lt_succ_self _, fun i x hi => ?_⟩⟩
  rw [cell_of_row _ w.heap.size (0 + i) _ e (0, 0) (heap_alloc_new w _), Nat.zero_add]
  simp [hi]
/-- all names are told -/
theorem dNames_star {L : List DItem} (hp : dPatE L ⟨#[42]⟩ = 0) : dNames L ⟨#[42]⟩ ⟨#[]⟩ = L.map (·.1) := by
  have hz : ∀ y ∈ L, patErr [42] y.1.data.toList = 0 := fun y hy => by
    unfold dPatE at hp
    cases hf : L.find? (fun y => decide (patErr (⟨#[42]⟩ : ByteArray).data.toList y.1.data.toList ≠ 0)) with
    | none =>
      have := List.find?_eq_none.1 hf y hy
      simpa using this
    | some z =>
      rw [hf] at hp
      have := List.find?_some hf
      exact absurd hp (by simpa using this)
  unfold dNames
  congr 1
  rw [List.filter_eq_self]
  intro y hy
  have h1 : fitsOf (⟨#[42]⟩ : ByteArray).data.toList y.1.data.toList = true := (fitsOf_iff (hz y hy)).2 (fitB_any _)
  rw [h1]
  rfl
def wdL1 : List DItem := [(⟨#[98]⟩, 1)]
def wdL2 : List DItem := [(⟨#[65]⟩, 2), (⟨#[98]⟩, 1)]
theorem wd_1 : dAddE [] ⟨#[98]⟩ = 0 ∧ dAdd [] ⟨#[98]⟩ 1 = wdL1 := by decide +kernel
theorem wd_2 : dAddE wdL1 ⟨#[65]⟩ = 0 ∧ dAdd wdL1 ⟨#[65]⟩ 2 = wdL2 := by decide +kernel
theorem wd_3 : dAddE wdL2 ⟨#[97]⟩ = 8 ∧ dAdd wdL2 ⟨#[97]⟩ 3 = wdL2 := by decide +kernel
theorem wd_4 : dFindE wdL2 ⟨#[66]⟩ = 0 ∧ dFind wdL2 ⟨#[66]⟩ = (⟨#[98]⟩, 1) := by decide +kernel
theorem wd_5 : dListE wdL2 ⟨#[42]⟩ ⟨#[]⟩ 9 = 0 ∧ dPatE wdL2 ⟨#[42]⟩ = 0 := by decide +kernel
theorem wd_6 : dListN wdL2 ⟨#[42]⟩ ⟨#[]⟩ 9 = [⟨#[65]⟩, ⟨#[98]⟩] ∧ dListM wdL2 ⟨#[42]⟩ ⟨#[]⟩ 9 = false := by
  unfold dListN dListM
  rw [if_pos wd_5.1, if_pos wd_5.1, dNames_star wd_5.2]
  exact ⟨rfl, rfl⟩
set_option maxHeartbeats 2000000 in
theorem works15_any (I : DirI) (w : World) (htb : I.tb w.heap.size w) : Calls Tryd.prog 11 #[] w fun e w' => e = .returned (.bool true) ∧ Below w.heap.size w w' := by
  have HTB := Lib.hid htb
  clear htb
  go_enter Tryd.func11, Tryd.ntmps11
  go_wp2_with fail
  refine (I.new HTB.out (Nat.le_refl _)).mono ?_
  rintro e w1 ⟨q, S0, rfl, x0, l0⟩
  have L1 := Lib.hid l0
  have B1 := Lib.hid (I.tbNext HTB.out l0)
  have C1 := Lib.hid (I.add x0 B1.out L1.out.size (s := ⟨#[98]⟩) (n := 1) (by decide) (by unfold I64D; omega) (by decide))
  rw [wd_1.1, wd_1.2] at C1
  have X0 := Lib.hid x0
  clear l0 x0
  go_wp2_with fail
  refine C1.out.mono ?_
  rintro e w2 ⟨rfl, S1, x1, a1, n1⟩
  have l2 := a1.below (fun j hj => (I.ge X0.out j hj).1) L1.out.size
  have L2 := Lib.hid (L1.out.trans l2)
  have B2 := Lib.hid (I.tbNext B1.out l2)
  have C2 := Lib.hid (I.add x1 B2.out L2.out.size (s := ⟨#[65]⟩) (n := 2) (by decide) (by unfold I64D; omega) (by decide))
  rw [wd_2.1, wd_2.2] at C2
  have X1 := Lib.hid x1
  clear x1 a1 n1 l2 X0 C1 L1 B1
  go_wp2_with fail
  refine C2.out.mono ?_
  rintro e w3 ⟨rfl, S2, x2, a2, n2⟩
  have l3 := a2.below (fun j hj => (I.ge X1.out j hj).1) L2.out.size
  have L3 := Lib.hid (L2.out.trans l3)
  have B3 := Lib.hid (I.tbNext B2.out l3)
  have C3 := Lib.hid (I.add x2 B3.out L3.out.size (s := ⟨#[97]⟩) (n := 3) (by decide) (by unfold I64D; omega) (by decide))
  rw [wd_3.1, wd_3.2] at C3
  have X2 := Lib.hid x2
  clear x2 a2 n2 l3 X1 C2 L2 B2
  go_wp2_with fail
  refine C3.out.mono ?_
  rintro e w4 ⟨rfl, S3, x3, a3, n3⟩
  have l4 := a3.below (fun j hj => (I.ge X2.out j hj).1) L3.out.size
  have L4 := Lib.hid (L3.out.trans l4)
  have B4 := Lib.hid (I.tbNext B3.out l4)
  have C4 := Lib.hid (I.find x3 B4.out L4.out.size (s := ⟨#[66]⟩) (by decide))
  rw [wd_4.1, wd_4.2] at C4
  have X3 := Lib.hid x3
  clear x3 a3 n3 l4 X2 C3 L3 B3
  go_wp2_with fail
  refine C4.out.mono ?_
  rintro e w5 ⟨rfl, l5⟩
  have L5 := Lib.hid (L4.out.trans (l5.mono L4.out.size))
  have B5 := Lib.hid (I.tbNext B4.out (l5.mono L4.out.size))
  have C5 := Lib.hid (I.list (I.below X3.out l5) B5.out L5.out.size (p := ⟨#[42]⟩) (a := ⟨#[]⟩) (m := 9) (by decide) (by decide) (by unfold I64D; omega))
  rw [wd_5.1, wd_6.1, wd_6.2] at C5
  clear l5 X3 C4 L4 B4
  go_wp2_with fail
  refine C5.out.mono ?_
  rintro e w6 ⟨v, rfl, o6, l6⟩
  have L6 := Lib.hid (L5.out.trans (l6.mono L5.out.size))
  obtain ⟨A, n, c, rfl, hh⟩ := o6.txts.holds
  obtain rfl : n = 2 := hh.len.symm
  have H6 : Hid (HoldsF strV w6 w6.heap.size A 2 c [[65], [98]]) := hh
  clear o6 l6 hh C5 L5 B5
  go_wp2_with fail
  refine (Texts_any _ (w6.heap.size + 1) (w6.heap.size + 1) _ _ _ _ _ _ [[65], [98]] [[65], [98]] ((H6.out.below ((Below.refl _ _).alloc (Nat.le_refl _) _)).mono (by omega)) (lit_texts w6 _ _ _ 2 rfl rfl) (by omega) (by omega)).mono ?_
  rintro e w7 ⟨rfl, k, rfl⟩
  have l7 : Below w6.heap.size w6 ((w6.alloc (.cells (List.map strV [[65], [98]]).toArray 9)).drewN k) := ((Below.refl _ _).alloc (Nat.le_refl _) _).trans ((drewed _ _).mono (by simp))
  have L7 := Lib.hid (L6.out.trans (l7.mono L6.out.size))
  have hdt : decide (([[65], [98]] : List (List UInt8)) = [[65], [98]]) = true := by decide
  rw [hdt]
  clear l7 hdt H6
  go_wp2_with fail
  go_ret
  exact ⟨rfl, L7.out⟩
end Go.Proofs.YtangkcedgelegaaDoor

namespace Go.Proofs.YtangkcedgelegaaDoor
set_option linter.all false
open Go.RowKit Go.Lib
set_option linter.unusedVariables false
section
variable {L : List DItem} {s t p a : ByteArray} {n : Int} {i k : Nat}
/-- the place of the first name that is not ahead of s -/
def dPl (L : List DItem) (s : ByteArray) : Nat := L.findIdx fun y => !ahd y.1 s
theorem dPl_le : dPl L s ≤ L.length := List.findIdx_le_length
theorem dPl_low (h : i < dPl L s) (hi : i < L.length) : ahd (L[i]).1 s = true := by
  have := List.not_of_lt_findIdx (p := fun y : DItem => !ahd y.1 s) h
  simpa using this
theorem dPl_at (h : dPl L s < L.length) : ahd (L[dPl L s]'h).1 s = false := by
  have h2 : (!ahd (L[dPl L s]'h).1 s) = true := List.findIdx_getElem (p := fun y : DItem => !ahd y.1 s) (w := h)
  simpa using h2
theorem Dok.lt (ok : Dok L) (hik : i < k) (hk : k < L.length) : ahd (L[i]'(by omega)).1 L[k].1 = true := List.pairwise_iff_getElem.1 ok.rise i k (by omega) hk hik
theorem dPl_high (ok : Dok L) (h : dPl L s ≤ i) (hi : i < L.length) : ahd L[i].1 s = false := by
  rcases Nat.lt_or_ge (dPl L s) i with h1 | h1
  · cases hq : ahd L[i].1 s with
    | false => rfl
    | true =>
      have h2 := ahd_trans (ok.lt h1 hi) hq
      rw [dPl_at (by omega)] at h2
      cases h2
  · obtain rfl : i = dPl L s := by omega
    exact dPl_at hi
theorem dPl_ix (ok : Dok L) (hh : dHas L s = true) : dPl L s = dIx L s := by
  have hl := dIx_lt hh
  have hg := dIx_get hl
  rcases Nat.lt_trichotomy (dPl L s) (dIx L s) with h | h | h
  · have h1 := ok.lt h hl
    rw [alk_ahd' hg, dPl_at (by omega)] at h1
    cases h1
  · exact h
  · have h1 := ahd_not_alk (dPl_low h hl)
    rw [hg] at h1
    cases h1
theorem dPut_pl (hn : dHas L s = false) : dPut L s n = L.take (dPl L s) ++ [(s, n)] ++ L.drop (dPl L s) := by
  induction L with
  | nil => rfl
  | cons y r ih =>
    unfold dHas at hn
    rw [List.any_cons, Bool.or_eq_false_iff] at hn
    unfold dPut dPl
    rw [List.findIdx_cons]
    rcases ahd_three y.1 s with h | h | h
    · rw [hn.1] at h; cases h
    · rw [if_neg (by rw [ahd_asymm h]; decide), ih hn.2, h]
      rfl
    · rw [if_pos h, ahd_asymm h]
      rfl
theorem dRem_pl (ok : Dok L) (he : dFindE L s = 0) : dRem L s = L.take (dPl L s) ++ L.drop (dPl L s + 1) := by
  unfold dRem
  rw [if_pos he, dPl_ix ok (dFindE_zero.1 he).2, List.eraseIdx_eq_take_drop_succ]
theorem dPl_lt (ok : Dok L) (he : dFindE L s = 0) : dPl L s < L.length := by
  rw [dPl_ix ok (dFindE_zero.1 he).2]
  exact dIx_lt (dFindE_zero.1 he).2
theorem dFind_pl (ok : Dok L) (he : dFindE L s = 0) : dFind L s = L[dPl L s]'(dPl_lt ok he) := by
  have e := dPl_ix ok (dFindE_zero.1 he).2
  have hl := dIx_lt (dFindE_zero.1 he).2
  unfold dFind
  rw [if_pos he, List.getD_eq_getElem?_getD, List.getElem?_eq_getElem hl]
  show L[dIx L s] = _
  simp only [e]
/-- the names alone -/
def dNm (L : List DItem) : List ByteArray := L.map (·.1)
theorem dNm_len : (dNm L).length = L.length := List.length_map _
theorem dNm_get (h : i < L.length) : (dNm L)[i]? = some L[i].1 := by
  unfold dNm
  rw [List.getElem?_map, List.getElem?_eq_getElem h]
  rfl
theorem dNm_put (hn : dHas L s = false) : dNm (dPut L s n) = (dNm L).take (dPl L s) ++ [s] ++ (dNm L).drop (dPl L s) := by
  unfold dNm
  rw [dPut_pl hn, List.map_append, List.map_append, List.map_take, List.map_drop]
  rfl
theorem dNm_rem (ok : Dok L) (he : dFindE L s = 0) : dNm (dRem L s) = (dNm L).take (dPl L s) ++ (dNm L).drop (dPl L s + 1) := by
  unfold dNm
  rw [dRem_pl ok he, List.map_append, List.map_take, List.map_drop]
/-! ### the map: by what names are folded to -/
def foldK (s : ByteArray) : Lit := .string (foldB s.data.toList)
theorem foldK_alk : foldK s = foldK t ↔ alk s t = true := by
  rw [alk_iff, ← alike_iff]
  unfold foldK
  exact ⟨fun h => by injection h, fun h => by rw [h]⟩
structure MapIs (D : DataW Unit) (L : List DItem) : Prop where
  tidy : Maps.Tidy D
  has : ∀ s, Maps.has D (foldK s) = dHas L s
  val : ∀ y ∈ L, D.atKey (foldK y.1) (.lit (.int .i64 0)) = .lit (.int .i64 y.2)
  size : Maps.size D = L.length
theorem MapIs.nil : MapIs (.map []) [] := ⟨Maps.tidy_empty, fun s => rfl, (fun y hy => by cases hy), rfl⟩
theorem isKey_fold : WideAt.IsKeyLit (foldK s) := trivial
theorem dHas_put : dHas (dPut L s n) t = (alk s t || dHas L t) := by
  rw [Bool.eq_iff_iff, Bool.or_eq_true, dHas_iff, dHas_iff]
  constructor
  · rintro ⟨x, hx, ha⟩
    rcases dPut_mem.1 hx with rfl | hx
    · exact .inl ha
    · exact .inr ⟨x, hx, ha⟩
  · rintro (h | ⟨x, hx, ha⟩)
    · exact ⟨(s, n), dPut_mem.2 (.inl rfl), h⟩
    · exact ⟨x, dPut_mem.2 (.inr hx), ha⟩
theorem MapIs.put {D : DataW Unit} (h : MapIs D L) (hn : dHas L s = false) : MapIs (D.put (foldK s) (.lit (.int .i64 n))) (dPut L s n) := by
  refine ⟨h.tidy.put isKey_fold _, fun t => ?_, fun y hy => ?_, ?_⟩
  · rw [dHas_put]
    cases hq : alk s t with
    | true =>
      rw [foldK_alk.2 hq] at *
      rw [Maps.has_put_same h.tidy.isMap isKey_fold]
      rfl
    | false =>
      have hne : foldK t ≠ foldK s := fun e => by
        rw [foldK_alk.1 e.symm] at hq
        cases hq
      rw [Maps.has_put_other hne, h.has]
      rfl
  · rcases dPut_mem.1 hy with rfl | hy
    · exact Maps.atKey_put_same h.tidy.isMap isKey_fold _ _
    · have hne : foldK y.1 ≠ foldK s := fun e => by
        have h1 : dHas L s = true := dHas_iff.2 ⟨y, hy, foldK_alk.1 e⟩
        rw [hn] at h1
        cases h1
      rw [Maps.atKey_put_other hne, h.val y hy]
  · rw [Maps.size_put h.tidy, if_neg (by rw [h.has, hn]; decide), h.size, dPut_len]
theorem MapIs.del {D : DataW Unit} (h : MapIs D L) (ok : Dok L) (he : dFindE L s = 0) : MapIs (D.del (foldK s)) (dRem L s) := by
  obtain ⟨hb, hh⟩ := dFindE_zero.1 he
  have hmem : ∀ y, y ∈ dRem L s ↔ y ∈ L ∧ alk y.1 s = false := fun y => by
    rw [dRem_mem ok]
    constructor
    · rintro ⟨h1, h2⟩
      exact ⟨h1, h2.resolve_left (by rw [hb]; decide)⟩
    · rintro ⟨h1, h2⟩
      exact ⟨h1, .inr h2⟩
  refine ⟨h.tidy.del _, fun t => ?_, fun y hy => ?_, ?_⟩
  · cases hq : alk s t with
    | true =>
      rw [← foldK_alk.2 hq, Maps.has_del_same]
      symm
      cases hz : dHas (dRem L s) t with
      | false => rfl
      | true =>
        obtain ⟨x, hx, ha⟩ := dHas_iff.1 hz
        have h1 := ((hmem x).1 hx).2
        rw [alk_trans ha (alk_symm hq)] at h1
        cases h1
    | false =>
      have hne : foldK t ≠ foldK s := fun e => by
        rw [foldK_alk.1 e.symm] at hq
        cases hq
      rw [Maps.has_del_other hne, h.has, Bool.eq_iff_iff, dHas_iff, dHas_iff]
      constructor
      · rintro ⟨x, hx, ha⟩
        refine ⟨x, (hmem x).2 ⟨hx, ?_⟩, ha⟩
        cases hz : alk x.1 s with
        | false => rfl
        | true =>
          have h1 := alk_trans (alk_symm hz) ha
          rw [hq] at h1
          cases h1
      · rintro ⟨x, hx, ha⟩
        exact ⟨x, ((hmem x).1 hx).1, ha⟩
  · obtain ⟨h1, h2⟩ := (hmem y).1 hy
    have hne : foldK y.1 ≠ foldK s := fun e => by
      rw [foldK_alk.1 e] at h2
      cases h2
    rw [Maps.atKey_del_other hne, h.val y h1]
  · have h1 := Maps.size_del h.tidy (k := foldK s)
    rw [h.has, hh, h.size] at h1
    have h2 := dRem_len he
    simp at h1
    omega
theorem MapIs.num {D : DataW Unit} (h : MapIs D L) (he : dFindE L s = 0) : D.atKey (foldK s) (.lit (.int .i64 0)) = .lit (.int .i64 (dFind L s).2) := by
  obtain ⟨hb, hh⟩ := dFindE_zero.1 he
  obtain ⟨_, h2, h3⟩ := dFind_ok hb hh
  rw [← foldK_alk.2 h3]
  exact h.val _ h2
theorem owns_tight {P : Program} {kt : TypeId} {R : Value → Option (DataW Unit × List MemPlace)} {w : World} {m N : Nat} {D : DataW Unit} (h : w.ownsMap P kt R m N D) : w.ownsMap P kt R m (Maps.size D) D := by
  obtain ⟨es, clock, hb, F, hs, rfl⟩ := h
  exact ⟨es, clock, hb, F, by simp [Maps.size, length_sorted], rfl⟩
/-! ### glob's error of a list -/
theorem patErr_any (hp : patErr p.data.toList [] = 0) (t : List UInt8) : patErr p.data.toList t = patErr [] t := by
  obtain ⟨h1, h2⟩ := patErr_empty.1 hp
  unfold patErr
  rw [h1, isText_nil, letters_nil]
  have h3 : ¬ 64 < (letters p.data.toList).length := by omega
  simp [h3]
theorem dPatN_none (h : ∀ i (hi : i < L.length), patErr p.data.toList L[i].1.data.toList = 0) : dPatE L p = 0 := by
  have e : L.find? (fun y => decide (patErr p.data.toList y.1.data.toList ≠ 0)) = none := by
    rw [List.find?_eq_none]
    intro y hy
    obtain ⟨i, hi, rfl⟩ := List.mem_iff_getElem.1 hy
    simp [h i hi]
  unfold dPatE
  rw [e]
theorem dPatN_at (hk : k < L.length) (h : ∀ i (hi : i < L.length), i < k → patErr p.data.toList L[i].1.data.toList = 0) (he : patErr p.data.toList L[k].1.data.toList ≠ 0) : dPatE L p = patErr p.data.toList L[k].1.data.toList := by
  have e : L.find? (fun y => decide (patErr p.data.toList y.1.data.toList ≠ 0)) = some L[k] := by
    rw [List.find?_eq_some_iff_getElem]
    refine ⟨by simpa using he, k, hk, rfl, fun j hj => ?_⟩
    simp [h j (by omega) hj]
  unfold dPatE
  rw [e]
/-- what the directory's own search for glob's error comes to -/
def dGlobE (L : List DItem) (p : ByteArray) : Int := if patErr p.data.toList [] ≠ 0 then patErr p.data.toList [] else dPatE L p
theorem dListE_glob : dListE L p a n = if n < 0 then 2 else if dGlobE L p ≠ 0 then dGlobE L p else if isText a.data.toList = true then 0 else 5 := by
  unfold dListE dGlobE
  by_cases h1 : patErr p.data.toList [] = 0
  · simp [h1]
  · simp [h1]
/-! ### the names behind a place -/
theorem letters_some {l : List UInt8} (h : l ≠ []) : ∃ r u, letters l = r :: u := by
  rw [letters_step l h]
  exact ⟨_, _, rfl⟩
theorem ahd_empty (h0 : a.size = 0) (hb : dBad t = false) : ahd a t = true := by
  have ha : a.data.toList = [] := by
    have := Lib.size_eq a
    exact List.eq_nil_of_length_eq_zero (by omega)
  have ht : t.data.toList ≠ [] := fun e => by
    unfold dBad at hb
    rw [Bool.or_eq_false_iff, decide_eq_false_iff_not, Lib.size_eq, e] at hb
    exact hb.1 rfl
  obtain ⟨r, u, e⟩ := letters_some ht
  rw [ahd_iff, ha]
  unfold foldedOf
  rw [e, letters_nil]
  simp [lexc]
def dFr (L : List DItem) (a : ByteArray) : Nat := L.findIdx fun y => ahd a y.1
theorem dFr_le : dFr L a ≤ L.length := List.findIdx_le_length
theorem dFr_low (h : i < dFr L a) (hi : i < L.length) : ahd a L[i].1 = false := by
  have := List.not_of_lt_findIdx (p := fun y : DItem => ahd a y.1) h
  simpa using this
theorem dFr_high (ok : Dok L) (h : dFr L a ≤ i) (hi : i < L.length) : ahd a L[i].1 = true := by
  have h0 : ahd a (L[dFr L a]'(by omega)).1 = true := List.findIdx_getElem (p := fun y : DItem => ahd a y.1) (w := show dFr L a < L.length by omega)
  rcases Nat.lt_or_ge (dFr L a) i with h1 | h1
  · exact ahd_trans h0 (ok.lt h1 hi)
  · obtain rfl : i = dFr L a := by omega
    exact h0
/-- does the pattern fit this name -/
noncomputable def dFit (p : ByteArray) (x : ByteArray) : Bool := fitsOf p.data.toList x.data.toList
theorem dNames_fr (ok : Dok L) : dNames L p a = ((dNm L).drop (dFr L a)).filter (dFit p) := by
  have e : ∀ (M : List DItem) (k : Nat), (∀ i (hi : i < M.length), (k ≤ i → (decide (a.size = 0) || ahd a M[i].1) = true) ∧ (i < k → (decide (a.size = 0) || ahd a M[i].1) = false)) → dNames M p a = ((dNm M).drop k).filter (dFit p) := by
    intro M
    induction M with
    | nil => intro k h; simp [dNames, dNm]
    | cons y r ih =>
      intro k h
      have h0 := h 0 (by simp)
      have hr := fun j => ih j
      cases k with
      | zero =>
        have h1 : (decide (a.size = 0) || ahd a y.1) = true := h0.1 (Nat.le_refl _)
        have h2 := hr 0 (fun i hi => ⟨fun _ => (h (i + 1) (by simp; omega)).1 (by omega), fun q => by omega⟩)
        unfold dNames dNm dFit at h2 ⊢
        simp only [List.drop_zero, List.map_cons, List.filter_cons, h1, Bool.and_true] at h2 ⊢
        split
        · rw [List.map_cons, h2]
        · exact h2
      | succ k =>
        have h1 : (decide (a.size = 0) || ahd a y.1) = false := h0.2 (by omega)
        have h2 := hr k (fun i hi => ⟨fun q => (h (i + 1) (by simp; omega)).1 (by omega), fun q => (h (i + 1) (by simp; omega)).2 (by omega)⟩)
        unfold dNames dNm dFit at h2 ⊢
        simp only [List.map_cons, List.drop_succ_cons, List.filter_cons, h1, Bool.and_false] at h2 ⊢
        exact h2
  refine e L (dFr L a) fun i hi => ⟨fun h => by rw [dFr_high ok h hi, Bool.or_true], fun h => ?_⟩
  have h1 := dFr_low h hi
  have h2 : ¬ a.size = 0 := fun q => by
    rw [ahd_empty q (ok.good _ (List.getElem_mem hi))] at h1
    cases h1
  simp [h1, h2]
end
end Go.Proofs.YtangkcedgelegaaDoor

namespace Go.Proofs.YtangkcedgelegaaDoor
set_option linter.all false
open Go.RowKit
set_option linter.unusedVariables false
/-- a name with small letters -/
def foldT (s : ByteArray) : ByteArray := ⟨(foldB s.data.toList).toArray⟩
theorem foldT_list (s : ByteArray) : (foldT s).data.toList = foldB s.data.toList := rfl
section
variable {L : List DItem} {s t u : ByteArray} {n : Int}
end
section
variable {L : List DItem} {i : Nat}
end
end Go.Proofs.YtangkcedgelegaaDoor

namespace Go.Proofs.YtangkcedgelegaaDoor
set_option linter.all false
set_option maxRecDepth 100000
open Go.RowKit
set_option linter.unusedVariables false
set_option maxHeartbeats 4000000 in
theorem Search_any (w : World) (F : Nat) (hent : ∀ (args : Array Value) (w : World), (callFunc F args).run Tryd.prog w = .ok (.enter F args) w) (x y : Value) (n k : Nat) (p : Nat → Bool) (hk : k ≤ n) (hn : n ≤ 4611686018427387903)
    (h0 : ∀ i, i < k → p i = false) (h1 : ∀ i, k ≤ i → i < n → p i = true)
    (hf : ∀ w1 i, Below w.heap.size w w1 → i < n → Calls Tryd.prog F #[.int .i64 (i : Nat), x, y] w1 fun e w' => e = .returned (.bool (p i)) ∧ Below w1.heap.size w1 w') :
    Calls Tryd.prog 48 #[.int .i64 (n : Nat), .func (.func F) #[] #[x, y]] w fun e w' => e = .returned (.int .i64 (k : Nat)) ∧ Below w.heap.size w w' := by
  have HF := Lib.hid hf
  have H0 := Lib.hid h0
  have H1 := Lib.hid h1
  clear hf h0 h1
  go_enter Tryd.func48, Tryd.ntmps48
  go_wp2_with fail
  go_loopw [5, 6, 7] (fun I J _ wr => ∃ i j : Nat, i ≤ k ∧ k ≤ j ∧ j ≤ n ∧ I = .int .i64 (i : Nat) ∧ J = .int .i64 (j : Nat) ∧ Hid (Below w.heap.size w wr)) (fun I J _ _ => (intOf J).toNat - (intOf I).toNat)
  case atStart => exact ⟨0, n, Nat.zero_le _, hk, Nat.le_refl _, rfl, rfl, Below.refl _ _⟩
  case round =>
    obtain ⟨i, j, hi, hj, hjn, rfl, rfl, LR⟩ := hrel
    by_cases hlt : i < j
    · obtain ⟨m, hm⟩ : ∃ m, m = (i + j) / 2 := ⟨_, rfl⟩
      have hadd : IntKind.i64.wrap ((i : Int) + (j : Int)) = (i : Int) + (j : Int) := by rw [IntKind.wrap_i64]; omega
      have hcv : IntKind.u64.wrap ((i : Int) + (j : Int)) = (i : Int) + (j : Int) := by rw [IntKind.wrap_u64]; omega
      have hsh : ((i : Int) + (j : Int)) / 2 = (m : Int) := by omega
      have him : i ≤ m := by omega
      have hmj : m < j := by omega
      have CF := Lib.hid (HF.out wr m LR.out (by omega))
      obtain ⟨z, hz⟩ : ∃ z, z = p m := ⟨_, rfl⟩
      rw [← hz] at CF
      have HZ := Lib.hid hz
      clear hz hm
      go_wp2_with fail
      refine CF.out.mono ?_
      rintro e w1 ⟨rfl, l1⟩
      have L1 := Lib.hid (LR.out.trans (l1.mono LR.out.size))
      clear l1 CF
      cases z with
      | false =>
        go_wp2_with fail
        go_roundw
        case rel =>
          refine ⟨m + 1, j, ?_, hj, hjn, by go_num, rfl, L1⟩
          rcases Nat.lt_or_ge m k with h | h
          · exact h
          · have := H1.out m h (by omega)
            rw [← HZ.out] at this
            cases this
        case measure => simp [intOf]; omega
      | true =>
        go_wp2_with fail
        go_roundw
        case rel =>
          refine ⟨i, m, hi, ?_, by omega, rfl, rfl, L1⟩
          rcases Nat.lt_or_ge m k with h | h
          · have := H0.out m h
            rw [← HZ.out] at this
            cases this
          · exact h
        case measure => simp [intOf]; omega
    · obtain rfl : i = k := by omega
      obtain rfl : j = i := by omega
      go_wp2_with fail
      go_ret
      exact ⟨rfl, LR.out⟩
end Go.Proofs.YtangkcedgelegaaDoor

namespace Go.Proofs.YtangkcedgelegaaDoor
set_option linter.all false
set_option maxRecDepth 100000
open Go.RowKit
set_option linter.unusedVariables false
/-- the tables of texts lie below base -/
def TabsD (base : Nat) (w : World) : Prop := ∀ w', Below base w w' → Tabs w'
theorem TabsD.of {w : World} (h : Tabs w) : TabsD w.heap.size w := fun w' hb => h.below hb
theorem TabsD.next {base : Nat} {w w' : World} (h : TabsD base w) (hb : Below base w w') : TabsD base w' := fun w2 h2 => h w2 (hb.trans h2)
theorem TabsD.up {base b' : Nat} {w : World} (h : TabsD base w) (hb : base ≤ b') : TabsD b' w := fun w2 h2 => h w2 (h2.mono hb)
theorem TabsD.at {base : Nat} {w w' : World} (h : TabsD base w) (hb : Below w.heap.size w w') (hs : base ≤ w.heap.size) : Tabs w' := h w' (hb.mono hs)
section
variable {P : Program} {ops : Array Oper} {S : World → Prop}
theorem yieldsIf_look {op : Oper} {a : Act} (hw : Region.wanted op (yielded ops a.tmps) = true) (T : TypeId) (m x : Operand) (ok : Bool) (ho : op.op = .lookup T m x ok) (u k : Value) (hm : a.eval m = u) (hx : a.eval x = k) {r : Value}
    (hr : ∀ w, S w → (Instr.lookup T u k ok).run P w = .ok r w) : YieldsIf P ops S op r a :=
  .inl ⟨hw, fun w hw' => by
    unfold execOp
    simp only [ho, hm, hx, Sem.run_bind, hr w hw', Result.andThen_ok]
    rfl⟩
end
/-- what the map tells of a name -/
def numD (D : DataW Unit) (s : ByteArray) : Int := match D.atKey (foldK s) (.lit (.int .i64 0)) with
  | .lit (.int .i64 c) => c
  | _ => 0
theorem numD_of {D : DataW Unit} {s : ByteArray} {c : Int} (h : D.atKey (foldK s) (.lit (.int .i64 0)) = .lit (.int .i64 c)) : numD D s = c := by
  unfold numD
  rw [h]
theorem dir_keyed : Maps.Keyed Tryd.prog 9 := Maps.string_keyed Tryd.underlying9
theorem dir_zero (w : World) : (zeroValue 3).run Tryd.prog w = .ok (.int .i64 0) w := by kernel_rfl
theorem dir_key {s : ByteArray} (hs : s.size ≤ 1048576) : keyOf Tryd.prog 9 (.string (foldT s)) = some (foldK s) := by
  have h1 : (foldT s).size ≤ maxLen := by
    rw [Lib.size_eq, foldT_list]
    unfold foldB maxLen
    rw [List.length_map, ← Lib.size_eq]
    omega
  have h2 := WideMaps.keyOf_string_mk (P := Tryd.prog) Tryd.underlying9 h1
  rw [foldT_list] at h2
  exact h2
/-- block q is the program's directory: its names in a row that v heads, its map in block m; all from base on -/
structure PDr (w : World) (base q : Nat) (v : Value) (m : Nat) (D : DataW Unit) (L : List DItem) : Prop where
  ge : base ≤ q
  gem : base ≤ m
  blk : Blk w q 48 [v, .map (some m)]
  row : OwnS txtCells 1 9 w base v (dNm L)
  is : MapIs D L
  map : w.ownsMap Tryd.prog 9 (plainElem Tryd.prog 3) m L.length D
  ok : Dok L
  small : L.length ≤ 4096
  text : ∀ x ∈ L, x.1.size ≤ 1048576
def pdrS (q m : Nat) (v : Value) : Nat → Prop := fun j => j = q ∨ j = m ∨ v.ownBlock = some j
theorem owns_same {P : Program} {kt : TypeId} {R : Value → Option (DataW Unit × List MemPlace)} {w w' : World} {m N : Nat} {D : DataW Unit} (h : w.ownsMap P kt R m N D) (e : w'.heap[m]? = w.heap[m]?) : w'.ownsMap P kt R m N D := by
  obtain ⟨es, clock, hb, r⟩ := h
  exact ⟨es, clock, e.trans hb, r⟩
section
variable {w w' : World} {base base' q m : Nat} {v : Value} {D : DataW Unit} {L : List DItem} {S : Nat → Prop}
theorem PDr.spare (h : PDr w base q v m D L) (a : Spare S w w') (hs : ∀ j, pdrS q m v j → ¬ S j) : PDr w' base q v m D L :=
  ⟨h.ge, h.gem, h.blk.spare a (hs q (.inl rfl)), h.row.sparS a fun i hi => hs i (.inr (.inr hi)), h.is, owns_same h.map (a.rest m h.map.lt (hs m (.inr (.inl rfl)))), h.ok, h.small, h.text⟩
theorem PDr.below (h : PDr w base q v m D L) (hb : Below w.heap.size w w') : PDr w' base q v m D L := h.spare (Spare.of_over (fun _ => False) hb) fun _ _ h => h
theorem PDr.mono (h : PDr w base q v m D L) (hb : base' ≤ base) : PDr w base' q v m D L := ⟨Nat.le_trans hb h.ge, Nat.le_trans hb h.gem, h.blk, h.row.mono hb, h.is, h.map, h.ok, h.small, h.text⟩
theorem PDr.set_lt (h : PDr w base q v m D L) : ∀ j, pdrS q m v j → base ≤ j ∧ j < w.heap.size := fun j hj => by
  rcases hj with rfl | rfl | hj
  · exact ⟨h.ge, h.blk.lt⟩
  · exact ⟨h.gem, h.map.lt⟩
  · exact ⟨(h.row.block hj).1, h.row.lt hj⟩
theorem PDr.c0 (h : PDr w base q v m D L) : w.cell? ⟨q, 0, none⟩ = some v := h.blk.cell 0
theorem PDr.c1 (h : PDr w base q v m D L) : w.cell? ⟨q, 1, none⟩ = some (.map (some m)) := h.blk.cell 1
theorem PDr.len (h : PDr w base q v m D L) : ∃ A c, v = .slice A L.length c := by
  rcases h.row.2 with ⟨h1, h2⟩ | ⟨g, cap, cur, h1, _⟩
  · rw [dNm_len] at h2
    exact ⟨none, 0, by rw [h1, h2]⟩
  · rw [dNm_len] at h1
    exact ⟨_, _, h1⟩
/-- what one name is, where it lies -/
theorem PDr.at (h : PDr w base q v m D L) {i : Nat} (hi : i < L.length) : ∃ g c, v = .slice (some ⟨g, 0, none⟩) L.length c ∧ L.length ≤ c ∧ c ≤ maxLen ∧ w.cell? ⟨g, i, none⟩ = some (.string L[i].1) := by
  have hn : (dNm L).length = L.length := dNm_len
  obtain ⟨A, n, c, rfl, hh⟩ := h.row.holds (by decide) txtCells_len
  rcases h.row.2 with ⟨h1, h2⟩ | ⟨g, cap, cur, h1, _, _, h3, h4, _⟩
  · omega
  · injection h1 with e1 e2 e3
    subst e1 e2 e3
    obtain ⟨b, off, e, _, hc⟩ := hh.cells (by omega)
    injection e with e
    injection e with e1 e2
    subst e1 e2
    have k0 := hc i _ (dNm_get hi) 0 _ rfl
    rw [Nat.zero_add, Nat.mul_one] at k0
    rw [hn] at h3 ⊢
    exact ⟨g, c, rfl, h3, h4, k0⟩
theorem PDr.look2 (h : PDr w base q v m D L) (s : ByteArray) (hs : s.size ≤ 1048576) : (Instr.lookup 46 (.map (some m)) (.string (foldT s)) true).run Tryd.prog w = .ok (.tuple #[.int .i64 (numD D s), .bool (dHas L s)]) w := by
  obtain ⟨u, ps, hrun, hu⟩ := h.map.look_ok dir_keyed Tryd.underlying46 (dir_zero w) (plainElem_int (H := Unit) Tryd.underlying3 (a := 0) (by decide)) (dir_key hs)
  obtain ⟨c, rfl, hc, _⟩ := plainElem_int_inv Tryd.underlying3 hu
  rw [hrun, h.is.has, numD_of (congrArg Prod.fst hc)]
theorem PDr.num (h : PDr w base q v m D L) {s : ByteArray} (he : dFindE L s = 0) : numD D s = (dFind L s).2 := numD_of (h.is.num he)
end
/-! ### the words on texts, at the sizes of names -/
theorem Fold1_any (s : ByteArray) (w : World) (hs : s.size ≤ 1048576) (hT : Tabs w) : Calls Tryd.prog 19 #[.string s] w fun e w' => e = .returned (.string (foldT s)) ∧ Below w.heap.size w w' := Fold_any s w (by omega) hT
theorem Alike1_any (s t : ByteArray) (w : World) (hs : s.size ≤ 1048576) (ht : t.size ≤ 1048576) (hT : Tabs w) : Calls Tryd.prog 20 #[.string s, .string t] w fun e w' => e = .returned (.bool (alk s t)) ∧ Below w.heap.size w w' := Alike_any s t w (by omega) (by omega) hT
theorem Ahead1_any (s t : ByteArray) (w : World) (hs : s.size ≤ 1048576) (ht : t.size ≤ 1048576) (hT : Tabs w) : Calls Tryd.prog 16 #[.string s, .string t] w fun e w' => e = .returned (.bool (ahd s t)) ∧ Below w.heap.size w w' := Ahead_any s t w (by omega) (by omega) hT
theorem DText_any (s : ByteArray) (w : World) (hs : s.size ≤ 1048576) (hT : Tabs w) : Calls Tryd.prog 27 #[.string s] w fun e w' => e = .returned (.bool (isText s.data.toList)) ∧ Below w.heap.size w w' := by
  have c1 := Units_any s w (by omega) hT
  rw [← textErr_zero]
  obtain ⟨U, hU⟩ : ∃ U, U = unitsOfL s.data.toList := ⟨_, rfl⟩
  obtain ⟨E, hE⟩ : ∃ E, E = textErr s.data.toList := ⟨_, rfl⟩
  rw [← hU, ← hE] at c1
  rw [← hE]
  have C1 := Lib.hid c1
  clear c1 hU hE
  go_enter Tryd.func27, Tryd.ntmps27
  go_wp2_with fail
  refine C1.out.mono ?_
  rintro e w1 ⟨rfl, hb1⟩
  go_wp2
  go_ret
  exact ⟨rfl, hb1⟩
theorem DName_any (s : ByteArray) (w : World) (hs : s.size ≤ 1048576) (hT : Tabs w) : Calls Tryd.prog 35 #[.string s] w fun e w' => e = .returned (.bool (!dBad s)) ∧ Below w.heap.size w w' := by
  have hB : dBad s = (decide (s.size = 0) || !isText s.data.toList) := rfl
  have C1 := Lib.hid (DText_any s w hs hT)
  by_cases h0 : s.size = 0
  · rw [hB, decide_eq_true h0]
    have t0 : (s.toList == []) = true := by rw [empty_beq]; exact decide_eq_true h0
    have t1 : s.toList.isEmpty = true := by rw [empty_isEmpty]; exact decide_eq_true h0
    clear hB h0
    go_enter Tryd.func35, Tryd.ntmps35
    go_wp2_with fail
    go_ret
    exact ⟨rfl, Below.refl _ _⟩
  · have t0 : (s.toList == []) = false := by rw [empty_beq]; exact decide_eq_false h0
    have t1 : s.toList.isEmpty = false := by rw [empty_isEmpty]; exact decide_eq_false h0
    rw [hB, decide_eq_false h0, Bool.false_or, Bool.not_not]
    obtain ⟨b, hb⟩ : ∃ b, b = isText s.data.toList := ⟨_, rfl⟩
    rw [← hb] at C1 ⊢
    clear hB h0 hb
    go_enter Tryd.func35, Tryd.ntmps35
    go_wp2_with fail
    refine C1.out.mono ?_
    rintro e w1 ⟨rfl, l1⟩
    have L1 := Lib.hid l1
    clear l1 C1
    go_wp2_with fail
    go_ret
    exact ⟨rfl, L1.out⟩
theorem eql_map_nil (t k e : TypeId) (p : Option Nat) (h : Tryd.prog.underlying t = some (.map k e)) (w : World) : (binOp .eql t (.map p) (.map none)).run Tryd.prog w = .ok (.bool p.isNone) w := by
  have h1 : ∀ d, (Op.equalIn (d + 1) t (.map p) (.map none)).run Tryd.prog w = .ok p.isNone w := fun d => by
    cases p <;> simp [Op.equalIn, run_underlying h]
  simp only [binOp]
  simp [show Op.equal t (.map p) (.map none) = Op.equalIn (9999 + 1) t (.map p) (.map none) from rfl, h1 9999]
theorem DNone_any (w : World) (q m : Nat) (h : w.cell? ⟨q, 1, none⟩ = some (.map (some m))) : Calls Tryd.prog 25 #[.pointer (some ⟨q, 0, none⟩)] w fun e w' => e = .returned (.bool false) ∧ w = w' := by
  have hml : ∀ w, (binOp .eql 46 (.map (some m)) (.map none)).run Tryd.prog w = .ok (.bool false) w := fun w => eql_map_nil _ _ _ _ Tryd.underlying46 w
  go_enter Tryd.func25, Tryd.ntmps25
  go_wp2_with fail
  go_ret
  exact ⟨rfl, rfl⟩
theorem DLen_any (w : World) (q n c : Nat) (A : Option Addr) (h : w.cell? ⟨q, 0, none⟩ = some (.slice A n c)) : Calls Tryd.prog 15 #[.pointer (some ⟨q, 0, none⟩)] w fun e w' => e = .returned (.int .i64 (n : Nat)) ∧ w = w' := by
  go_enter Tryd.func15, Tryd.ntmps15
  go_wp2_with fail
  go_ret
  exact ⟨rfl, rfl⟩
theorem built_dir (m : Nat) : Tryd.prog.built 48 [(1, .map (some m))] = some ([.slice none 0 0, .map (some m)] : List Value).toArray := by kernel_rfl
theorem DNew_any (w : World) : Calls Tryd.prog 23 #[] w fun e w' => ∃ q m, e = .returned (.pointer (some ⟨q, 0, none⟩)) ∧ PDr w' w.heap.size q (.slice none 0 0) m (.map []) [] ∧ Below w.heap.size w w' := by
  have hmm := @run_makeMap Tryd.prog
  have L0 : Hid (Below w.heap.size w (w.alloc (.map #[] 0))) := (Below.refl _ _).alloc (Nat.le_refl _) _
  have M0 : Hid ((w.alloc (.map #[] 0)).ownsMap Tryd.prog 9 (plainElem (H := Unit) Tryd.prog 3) w.heap.size 0 (.map [])) := World.ownsMap_made _ _ _ _
  have Z0 : Hid (w.heap.size < (w.alloc (.map #[] 0)).heap.size) := by show _ < _; simp
  go_enter Tryd.func23, Tryd.ntmps23
  go_wp2_with (first
    | ((with_reducible show wpList _ _ _ (⟨some 2, _, _, _, _, _⟩ :: _) _ _); refine wpList_build_blk rfl _ _ rfl [.slice none 0 0, .map (some w.heap.size)] (built_dir _) ?_)
    | ((with_reducible show wpList _ _ _ (⟨some 3, _, _, _, _, _⟩ :: _) _ _); refine wpList_box_blk rfl _ (.tmp 2) rfl [.slice none 0 0, .map (some w.heap.size)] rfl ?_; intro q w1 hg1 hg2 B1 L1)
    | fail)
  go_ret
  exact ⟨q, w.heap.size, rfl, ⟨Nat.le_trans (Nat.le_of_lt Z0.out) hg1, Nat.le_refl _, B1.out, OwnS.nil _ _ _ _ _, MapIs.nil, owns_same M0.out (L1.out.block _ Z0.out), Dok.nil, by decide, fun x h => by cases h⟩, L0.out.trans (L1.out.mono L0.out.size)⟩
set_option maxHeartbeats 4000000 in
theorem DHas_any (w : World) (base q : Nat) (v : Value) (m : Nat) (D : DataW Unit) (L : List DItem) (d : PDr w base q v m D L) (hb : base ≤ w.heap.size) (htb : TabsD base w) (s : ByteArray) (hs : s.size ≤ 1048576) :
    Calls Tryd.prog 36 #[.pointer (some ⟨q, 0, none⟩), .string s] w fun e w' => e = .returned (.bool (dHas L s)) ∧ Below w.heap.size w w' := by
  go_enter Tryd.func36, Tryd.ntmps36
  go_upto_region 1 with fail
  refine wp_region_held (S := fun w' => PDr w' base q v m D L) (by kernel_rfl) ?_
  change wpAnyH _ _ _ _ _ _ _ _ w.drew
  have Sr0 : Hid (PDr w.drew base q v m D L) := d.below (Below.refl _ _).drew
  have br0 : Hid (Below w.heap.size w w.drew) := (Below.refl _ _).drew
  refine wpAnyH_take (i := 0) (v := _) rfl (by kernel_rfl) (by kernel_rfl) (by kernel_rfl) (fun _ _ _ h => h) (yieldsIf_move (by kernel_rfl) (.tmp 0) rfl (.pointer (some ⟨q, 0, none⟩)) (by kernel_rfl)) Sr0.out ?_
  refine wpAnyH_take (i := 1) (v := _) rfl (by kernel_rfl) (by kernel_rfl) (by kernel_rfl) (fun _ _ _ h => h) (yieldsIf_nil (by kernel_rfl) (.tmp 8) rfl ⟨q, 0, none⟩ (by kernel_rfl)) Sr0.out ?_
  refine wpAnyH_take (i := 2) (v := _) rfl (by kernel_rfl) (by kernel_rfl) (by kernel_rfl) (fun _ _ _ h => h) (yieldsIf_fld (by kernel_rfl) _ (.tmp 9) 1 rfl (.pointer (some ⟨q, 0, none⟩)) (.pointer (some ⟨q, 1, none⟩)) (by kernel_rfl) (fun w => by go_simp)) Sr0.out ?_
  refine wpAnyH_take (i := 3) (v := _) rfl (by kernel_rfl) (by kernel_rfl) (by kernel_rfl) (fun _ _ _ h => h) (yieldsIf_load_one (by kernel_rfl) _ (.tmp 10) rfl q (1) (by kernel_rfl) (.map (some m)) (fun _ h => h.c1) _ Tryd.underlying46 rfl) Sr0.out ?_
  refine wpAnyH_take (i := 4) (v := _) rfl (by kernel_rfl) (by kernel_rfl) (by kernel_rfl) (fun _ _ _ h => h) (yieldsIf_move (by kernel_rfl) (.tmp 1) rfl (.string s) (by kernel_rfl)) Sr0.out ?_
  refine wpAnyH_one 5 _ (by kernel_rfl) rfl fun K hK => ?_
  go_simp
  refine (Fold1_any s _ hs (htb.at br0.out hb)).mono ?_
  rintro e vr1 ⟨rfl, l1⟩
  have Sr1 : Hid (PDr vr1 base q v m D L) := PDr.below Sr0.out l1
  have br1 : Hid (Below w.heap.size w vr1) := Below.trans br0.out (l1.mono (Below.size br0.out))
  refine hK _ _ Sr1.out ?_
  clear hK K l1
  refine wpAnyH_take (i := 6) (v := .tuple #[.int .i64 (numD D s), .bool (dHas L s)]) rfl (by kernel_rfl) (by kernel_rfl) (by kernel_rfl) (fun _ _ _ h => h) (yieldsIf_look (by kernel_rfl) _ (.tmp 11) (.tmp 13) true rfl (.map (some m)) (.string (foldT s)) (by kernel_rfl) (by kernel_rfl) (fun w' h => h.look2 s hs)) Sr1.out ?_
  refine wpAnyH_take (i := 7) (v := _) rfl (by kernel_rfl) (by kernel_rfl) (by kernel_rfl) (fun _ _ _ h => h) (yieldsIf_move (by kernel_rfl) (.tmp 14) rfl (.tuple #[.int .i64 (numD D s), .bool (dHas L s)]) (by kernel_rfl)) Sr1.out ?_
  refine wpAnyH_take (i := 8) (v := .int .i64 (numD D s)) rfl (by kernel_rfl) (by kernel_rfl) (by kernel_rfl) (fun _ _ _ h => h) (.inl ⟨by kernel_rfl, fun w _ => by go_simp⟩) Sr1.out ?_
  refine wpAnyH_take (i := 9) (v := .bool (dHas L s)) rfl (by kernel_rfl) (by kernel_rfl) (by kernel_rfl) (fun _ _ _ h => h) (.inl ⟨by kernel_rfl, fun w _ => by go_simp⟩) Sr1.out ?_
  refine wpAnyH_take (i := 10) (v := _) rfl (by kernel_rfl) (by kernel_rfl) (by kernel_rfl) (fun _ _ _ h => h) (yieldsIf_asg (by kernel_rfl) (.tmp 15) rfl (.int .i64 (numD D s)) (by kernel_rfl)) Sr1.out ?_
  refine wpAnyH_take (i := 11) (v := _) rfl (by kernel_rfl) (by kernel_rfl) (by kernel_rfl) (fun _ _ _ h => h) (yieldsIf_asg (by kernel_rfl) (.tmp 16) rfl (.bool (dHas L s)) (by kernel_rfl)) Sr1.out ?_
  refine wpAnyH_done (by kernel_rfl) ?_ _
  go_wp2_with fail
  go_ret
  exact ⟨rfl, br1.out⟩
/-- what the closures look at -/
structure PlC (w : World) (p1 p2 q g n c i : Nat) (x s : ByteArray) : Prop where
  c1 : w.cell? ⟨p1, 0, none⟩ = some (.pointer (some ⟨q, 0, none⟩))
  c2 : w.cell? ⟨p2, 0, none⟩ = some (.string s)
  c3 : w.cell? ⟨q, 0, none⟩ = some (.slice (some ⟨g, 0, none⟩) n c)
  c4 : w.cell? ⟨g, i, none⟩ = some (.string x)
theorem PlC.below {w w' : World} {p1 p2 q g n c i : Nat} {x s : ByteArray} (h : PlC w p1 p2 q g n c i x s) (hb : Below w.heap.size w w') : PlC w' p1 p2 q g n c i x s :=
  ⟨(hb.cell (lt_of_cellD h.c1)).trans h.c1, (hb.cell (lt_of_cellD h.c2)).trans h.c2, (hb.cell (lt_of_cellD h.c3)).trans h.c3, (hb.cell (lt_of_cellD h.c4)).trans h.c4⟩
set_option maxHeartbeats 4000000 in
theorem placeC_any (w : World) (p1 p2 q g n c i : Nat) (x s : ByteArray) (h : PlC w p1 p2 q g n c i x s) (hi : i < n) (z : Bool) (ca : ∀ w', Below w.heap.size w w' → Calls Tryd.prog 16 #[.string x, .string s] w' fun e w2 => e = .returned (.bool z) ∧ Below w'.heap.size w' w2) :
    Calls Tryd.prog 58 #[.int .i64 (i : Nat), .pointer (some ⟨p1, 0, none⟩), .pointer (some ⟨p2, 0, none⟩)] w fun e w' => e = .returned (.bool (!z)) ∧ Below w.heap.size w w' := by
  have CA := Lib.hid ca
  clear ca
  go_enter Tryd.func58, Tryd.ntmps58
  go_upto_region 1 with fail
  refine wp_region_held (S := fun w' => PlC w' p1 p2 q g n c i x s) (by kernel_rfl) ?_
  change wpAnyH _ _ _ _ _ _ _ _ w.drew
  have Sr0 : Hid (PlC w.drew p1 p2 q g n c i x s) := h.below (Below.refl _ _).drew
  have br0 : Hid (Below w.heap.size w w.drew) := (Below.refl _ _).drew
  refine wpAnyH_take (i := 0) (v := _) rfl (by kernel_rfl) (by kernel_rfl) (by kernel_rfl) (fun _ _ _ h => h) (yieldsIf_load_one (by kernel_rfl) _ (.tmp 1) rfl p1 (0) (by kernel_rfl) (.pointer (some ⟨q, 0, none⟩)) (fun _ h => h.c1) _ Tryd.underlying23 rfl) Sr0.out ?_
  refine wpAnyH_take (i := 1) (v := _) rfl (by kernel_rfl) (by kernel_rfl) (by kernel_rfl) (fun _ _ _ h => h) (yieldsIf_nil (by kernel_rfl) (.tmp 5) rfl ⟨q, 0, none⟩ (by kernel_rfl)) Sr0.out ?_
  refine wpAnyH_take (i := 2) (v := _) rfl (by kernel_rfl) (by kernel_rfl) (by kernel_rfl) (fun _ _ _ h => h) (yieldsIf_fld (by kernel_rfl) _ (.tmp 6) 0 rfl (.pointer (some ⟨q, 0, none⟩)) (.pointer (some ⟨q, 0, none⟩)) (by kernel_rfl) (fun w => by go_simp)) Sr0.out ?_
  refine wpAnyH_take (i := 3) (v := _) rfl (by kernel_rfl) (by kernel_rfl) (by kernel_rfl) (fun _ _ _ h => h) (yieldsIf_load_one (by kernel_rfl) _ (.tmp 7) rfl q (0) (by kernel_rfl) (.slice (some ⟨g, 0, none⟩) n c) (fun _ h => h.c3) _ Tryd.underlying29 rfl) Sr0.out ?_
  refine wpAnyH_take (i := 4) (v := _) rfl (by kernel_rfl) (by kernel_rfl) (by kernel_rfl) (fun _ _ _ h => h) (yieldsIf_move (by kernel_rfl) (.tmp 0) rfl (.int .i64 (i : Nat)) (by kernel_rfl)) Sr0.out ?_
  refine wpAnyH_take (i := 5) (v := .pointer (some ⟨g, i, none⟩)) rfl (by kernel_rfl) (by kernel_rfl) (by kernel_rfl) (fun _ _ _ h => h) (.inl ⟨by kernel_rfl, fun w _ => by go_simp⟩) Sr0.out ?_
  refine wpAnyH_take (i := 6) (v := _) rfl (by kernel_rfl) (by kernel_rfl) (by kernel_rfl) (fun _ _ _ h => h) (yieldsIf_load_one (by kernel_rfl) _ (.tmp 10) rfl g (i) (by kernel_rfl) (.string x) (fun _ h => h.c4) _ Tryd.underlying9 rfl) Sr0.out ?_
  refine wpAnyH_take (i := 7) (v := _) rfl (by kernel_rfl) (by kernel_rfl) (by kernel_rfl) (fun _ _ _ h => h) (yieldsIf_load_one (by kernel_rfl) _ (.tmp 2) rfl p2 (0) (by kernel_rfl) (.string s) (fun _ h => h.c2) _ Tryd.underlying9 rfl) Sr0.out ?_
  refine wpAnyH_one 8 _ (by kernel_rfl) rfl fun K hK => ?_
  go_simp
  refine (CA.out _ br0.out).mono ?_
  rintro e vr1 ⟨rfl, l1⟩
  have Sr1 : Hid (PlC vr1 p1 p2 q g n c i x s) := Sr0.out.below l1
  have br1 : Hid (Below w.heap.size w vr1) := Below.trans br0.out (l1.mono (Below.size br0.out))
  refine hK _ _ Sr1.out ?_
  clear hK K l1
  refine wpAnyH_take (i := 9) (v := .bool (!z)) rfl (by kernel_rfl) (by kernel_rfl) (by kernel_rfl) (fun _ _ _ h => h) (.inl ⟨by kernel_rfl, fun w _ => by go_simp⟩) Sr1.out ?_
  refine wpAnyH_take (i := 10) (v := _) rfl (by kernel_rfl) (by kernel_rfl) (by kernel_rfl) (fun _ _ _ h => h) (yieldsIf_asg (by kernel_rfl) (.tmp 14) rfl (.bool (!z)) (by kernel_rfl)) Sr1.out ?_
  refine wpAnyH_done (by kernel_rfl) ?_ _
  go_wp2_with fail
  go_ret
  exact ⟨rfl, br1.out⟩
set_option maxHeartbeats 4000000 in
theorem fitC_any (w : World) (p1 p2 q g n c i : Nat) (x s : ByteArray) (h : PlC w p1 p2 q g n c i x s) (hi : i < n) (z : Bool) (ca : ∀ w', Below w.heap.size w w' → Calls Tryd.prog 16 #[.string s, .string x] w' fun e w2 => e = .returned (.bool z) ∧ Below w'.heap.size w' w2) :
    Calls Tryd.prog 49 #[.int .i64 (i : Nat), .pointer (some ⟨p2, 0, none⟩), .pointer (some ⟨p1, 0, none⟩)] w fun e w' => e = .returned (.bool z) ∧ Below w.heap.size w w' := by
  have CA := Lib.hid ca
  clear ca
  go_enter Tryd.func49, Tryd.ntmps49
  go_upto_region 1 with fail
  refine wp_region_held (S := fun w' => PlC w' p1 p2 q g n c i x s) (by kernel_rfl) ?_
  change wpAnyH _ _ _ _ _ _ _ _ w.drew
  have Sr0 : Hid (PlC w.drew p1 p2 q g n c i x s) := h.below (Below.refl _ _).drew
  have br0 : Hid (Below w.heap.size w w.drew) := (Below.refl _ _).drew
  refine wpAnyH_take (i := 0) (v := _) rfl (by kernel_rfl) (by kernel_rfl) (by kernel_rfl) (fun _ _ _ h => h) (yieldsIf_load_one (by kernel_rfl) _ (.tmp 1) rfl p2 (0) (by kernel_rfl) (.string s) (fun _ h => h.c2) _ Tryd.underlying9 rfl) Sr0.out ?_
  refine wpAnyH_take (i := 1) (v := _) rfl (by kernel_rfl) (by kernel_rfl) (by kernel_rfl) (fun _ _ _ h => h) (yieldsIf_load_one (by kernel_rfl) _ (.tmp 2) rfl p1 (0) (by kernel_rfl) (.pointer (some ⟨q, 0, none⟩)) (fun _ h => h.c1) _ Tryd.underlying23 rfl) Sr0.out ?_
  refine wpAnyH_take (i := 2) (v := _) rfl (by kernel_rfl) (by kernel_rfl) (by kernel_rfl) (fun _ _ _ h => h) (yieldsIf_nil (by kernel_rfl) (.tmp 6) rfl ⟨q, 0, none⟩ (by kernel_rfl)) Sr0.out ?_
  refine wpAnyH_take (i := 3) (v := _) rfl (by kernel_rfl) (by kernel_rfl) (by kernel_rfl) (fun _ _ _ h => h) (yieldsIf_fld (by kernel_rfl) _ (.tmp 7) 0 rfl (.pointer (some ⟨q, 0, none⟩)) (.pointer (some ⟨q, 0, none⟩)) (by kernel_rfl) (fun w => by go_simp)) Sr0.out ?_
  refine wpAnyH_take (i := 4) (v := _) rfl (by kernel_rfl) (by kernel_rfl) (by kernel_rfl) (fun _ _ _ h => h) (yieldsIf_load_one (by kernel_rfl) _ (.tmp 8) rfl q (0) (by kernel_rfl) (.slice (some ⟨g, 0, none⟩) n c) (fun _ h => h.c3) _ Tryd.underlying29 rfl) Sr0.out ?_
  refine wpAnyH_take (i := 5) (v := _) rfl (by kernel_rfl) (by kernel_rfl) (by kernel_rfl) (fun _ _ _ h => h) (yieldsIf_move (by kernel_rfl) (.tmp 0) rfl (.int .i64 (i : Nat)) (by kernel_rfl)) Sr0.out ?_
  refine wpAnyH_take (i := 6) (v := .pointer (some ⟨g, i, none⟩)) rfl (by kernel_rfl) (by kernel_rfl) (by kernel_rfl) (fun _ _ _ h => h) (.inl ⟨by kernel_rfl, fun w _ => by go_simp⟩) Sr0.out ?_
  refine wpAnyH_take (i := 7) (v := _) rfl (by kernel_rfl) (by kernel_rfl) (by kernel_rfl) (fun _ _ _ h => h) (yieldsIf_load_one (by kernel_rfl) _ (.tmp 11) rfl g (i) (by kernel_rfl) (.string x) (fun _ h => h.c4) _ Tryd.underlying9 rfl) Sr0.out ?_
  refine wpAnyH_one 8 _ (by kernel_rfl) rfl fun K hK => ?_
  go_simp
  refine (CA.out _ br0.out).mono ?_
  rintro e vr1 ⟨rfl, l1⟩
  have Sr1 : Hid (PlC vr1 p1 p2 q g n c i x s) := Sr0.out.below l1
  have br1 : Hid (Below w.heap.size w vr1) := Below.trans br0.out (l1.mono (Below.size br0.out))
  refine hK _ _ Sr1.out ?_
  clear hK K l1
  refine wpAnyH_take (i := 9) (v := _) rfl (by kernel_rfl) (by kernel_rfl) (by kernel_rfl) (fun _ _ _ h => h) (yieldsIf_asg (by kernel_rfl) (.tmp 13) rfl (.bool z) (by kernel_rfl)) Sr1.out ?_
  refine wpAnyH_done (by kernel_rfl) ?_ _
  go_wp2_with fail
  go_ret
  exact ⟨rfl, br1.out⟩
def pPl (L : List DItem) (s : ByteArray) (i : Nat) : Bool := match L[i]? with
  | some x => !ahd x.1 s
  | none => true
def pFr (L : List DItem) (a : ByteArray) (i : Nat) : Bool := match L[i]? with
  | some x => ahd a x.1
  | none => true
theorem pPl_eq {L : List DItem} {s : ByteArray} {i : Nat} (h : i < L.length) : pPl L s i = !ahd L[i].1 s := by
  unfold pPl
  rw [List.getElem?_eq_getElem h]
theorem pFr_eq {L : List DItem} {a : ByteArray} {i : Nat} (h : i < L.length) : pFr L a i = ahd a L[i].1 := by
  unfold pFr
  rw [List.getElem?_eq_getElem h]
/-- both searches, in any world behind the one at hand -/
theorem PDr.plS {w : World} {base q : Nat} {v : Value} {m : Nat} {D : DataW Unit} {L : List DItem} (d : PDr w base q v m D L) (hb : base ≤ w.heap.size) (htb : TabsD base w) (s : ByteArray) (hs : s.size ≤ 1048576) (w1 : World) (p1 p2 : Nat) (h1 : Below w.heap.size w w1)
    (e1 : w1.cell? ⟨p1, 0, none⟩ = some (.pointer (some ⟨q, 0, none⟩))) (e2 : w1.cell? ⟨p2, 0, none⟩ = some (.string s)) :
    Calls Tryd.prog 48 #[.int .i64 (L.length : Nat), .func (.func 58) #[] #[.pointer (some ⟨p1, 0, none⟩), .pointer (some ⟨p2, 0, none⟩)]] w1 fun e w' => e = .returned (.int .i64 (dPl L s : Nat)) ∧ Below w1.heap.size w1 w' := by
  have hsm := d.small
  refine Search_any w1 58 (enters_of Tryd.func58 (by kernel_rfl) rfl) _ _ L.length (dPl L s) (pPl L s) dPl_le (by omega) (fun i hi => ?_) (fun i hi hin => ?_) fun w2 i hb2 hi => ?_
  · have hl : i < L.length := Nat.lt_of_lt_of_le hi dPl_le
    rw [pPl_eq hl, dPl_low hi hl]
    rfl
  · rw [pPl_eq hin, dPl_high d.ok hi hin]
    rfl
  · have hb3 : Below w.heap.size w w2 := h1.trans (hb2.mono h1.size)
    obtain ⟨g, c, rfl, _, _, k1⟩ := (d.below hb3).at hi
    rw [pPl_eq hi]
    refine placeC_any w2 p1 p2 q g L.length c i L[i].1 s ⟨(hb2.cell (lt_of_cellD e1)).trans e1, (hb2.cell (lt_of_cellD e2)).trans e2, (d.below hb3).c0, k1⟩ hi _ fun w3 hb4 => ?_
    exact Ahead1_any _ _ w3 (d.text _ (List.getElem_mem hi)) hs (htb.at (hb3.trans (hb4.mono hb3.size)) hb)
theorem PDr.frS {w : World} {base q : Nat} {v : Value} {m : Nat} {D : DataW Unit} {L : List DItem} (d : PDr w base q v m D L) (hb : base ≤ w.heap.size) (htb : TabsD base w) (s : ByteArray) (hs : s.size ≤ 1048576) (w1 : World) (p1 p2 : Nat) (h1 : Below w.heap.size w w1)
    (e1 : w1.cell? ⟨p1, 0, none⟩ = some (.pointer (some ⟨q, 0, none⟩))) (e2 : w1.cell? ⟨p2, 0, none⟩ = some (.string s)) :
    Calls Tryd.prog 48 #[.int .i64 (L.length : Nat), .func (.func 49) #[] #[.pointer (some ⟨p2, 0, none⟩), .pointer (some ⟨p1, 0, none⟩)]] w1 fun e w' => e = .returned (.int .i64 (dFr L s : Nat)) ∧ Below w1.heap.size w1 w' := by
  have hsm := d.small
  refine Search_any w1 49 (enters_of Tryd.func49 (by kernel_rfl) rfl) _ _ L.length (dFr L s) (pFr L s) dFr_le (by omega) (fun i hi => ?_) (fun i hi hin => ?_) fun w2 i hb2 hi => ?_
  · have hl : i < L.length := Nat.lt_of_lt_of_le hi dFr_le
    rw [pFr_eq hl, dFr_low hi hl]
  · rw [pFr_eq hin, dFr_high d.ok hi hin]
  · have hb3 : Below w.heap.size w w2 := h1.trans (hb2.mono h1.size)
    obtain ⟨g, c, rfl, _, _, k1⟩ := (d.below hb3).at hi
    rw [pFr_eq hi]
    refine fitC_any w2 p1 p2 q g L.length c i L[i].1 s ⟨(hb2.cell (lt_of_cellD e1)).trans e1, (hb2.cell (lt_of_cellD e2)).trans e2, (d.below hb3).c0, k1⟩ hi _ fun w3 hb4 => ?_
    exact Ahead1_any _ _ w3 hs (d.text _ (List.getElem_mem hi)) (htb.at (hb3.trans (hb4.mono hb3.size)) hb)
set_option maxHeartbeats 4000000 in
theorem DPlace_any (w : World) (base q : Nat) (v : Value) (m : Nat) (D : DataW Unit) (L : List DItem) (d : PDr w base q v m D L) (hb : base ≤ w.heap.size) (htb : TabsD base w) (s : ByteArray) (hs : s.size ≤ 1048576) :
    Calls Tryd.prog 38 #[.pointer (some ⟨q, 0, none⟩), .string s] w fun e w' => e = .returned (.int .i64 (dPl L s : Nat)) ∧ Below w.heap.size w w' := by
  have hmf : ∀ (fn : Fn) (first cap : Array Value) (w : World), (Instr.makeFunc fn first cap).run Tryd.prog w = .ok (.func fn first cap) w := fun _ _ _ _ => rfl
  obtain ⟨A, c, rfl⟩ := d.len
  have k0 := d.c0
  have CS := Lib.hid (d.plS hb htb s hs)
  obtain ⟨n, hn⟩ : ∃ n, n = L.length := ⟨_, rfl⟩
  obtain ⟨k, hk⟩ : ∃ k, k = dPl L s := ⟨_, rfl⟩
  rw [← hn] at k0 CS
  rw [← hk] at CS ⊢
  clear hn hk d
  go_enter Tryd.func38, Tryd.ntmps38
  go_wp2_with (first
    | ((with_reducible show wpList _ _ _ (⟨some 2, _, _, _, _, _⟩ :: _) _ _); refine wpList_box_one rfl _ (.tmp 0) rfl (.pointer (some ⟨q, 0, none⟩)) rfl rfl ?_; intro p1 w1 hg1 hg2 B1 L1)
    | ((with_reducible show wpList _ _ _ (⟨some 3, _, _, _, _, _⟩ :: _) _ _); refine wpList_box_one rfl _ (.tmp 1) rfl (.string s) rfl rfl ?_; intro p2 w2 hg3 hg4 B2 L2; have L3 := Lib.hid (L1.out.trans (L2.out.mono L1.out.size)); have c1 : w2.cell? ⟨p1, 0, none⟩ = some (.pointer (some ⟨q, 0, none⟩)) := (L2.out.cell hg2).trans (B1.out.cell 0); have c2 : w2.cell? ⟨p2, 0, none⟩ = some (.string s) := B2.out.cell 0; have k2 : w2.cell? ⟨q, 0, none⟩ = some (.slice A n c) := (L3.out.cell (lt_of_cellD k0)).trans k0)
    | fail)
  refine (CS.out w2 p1 p2 L3.out c1 c2).mono ?_
  rintro e w3 ⟨rfl, l3⟩
  have L4 := Lib.hid (L3.out.trans (l3.mono L3.out.size))
  clear l3
  go_wp2_with fail
  go_ret
  exact ⟨rfl, L4.out⟩
end Go.Proofs.YtangkcedgelegaaDoor

namespace Go.Proofs.YtangkcedgelegaaDoor
set_option linter.all false
set_option maxRecDepth 100000
open Go.RowKit
set_option linter.unusedVariables false
theorem size_str : (Tryd.prog.info? 9).map (·.size) = some 1 := by kernel_rfl
theorem zero_str : (Tryd.prog.info? 9).map (fun i => (i.zero, i.size)) = some (some (.string ⟨#[]⟩), 1) := by kernel_rfl
theorem flat1 (l : List ByteArray) : l.flatMap txtCells = l.map Value.string := by
  induction l with
  | nil => rfl
  | cons x r ih => rw [List.flatMap_cons, ih]; rfl
section
variable {P : Program} {w : World} {ops : Array Oper} {rest : List Oper} {o : Oper} {a : Act} {Q : Exit → Act → World → Prop}
/-! ### the laws on rows of structs, at one cell each -/
theorem wpList_copy_one (hgd : o.guard = none) (d x : Operand) (dT elem t : TypeId) (k : Nat)
    (ho : o.op = .call { callee := .builtin .copy, args := #[d, x], argTypes := #[dT, dT] }) (hu : P.underlying dT = some (.slice elem)) (hs : (P.info? elem).map (·.size) = some 1)
    (g off dLen dCap : Nat) (b so sLen sCap : Nat) (hd : a.eval d = .slice (some ⟨g, off, none⟩) dLen dCap) (hx : a.eval x = .slice (some ⟨b, so, none⟩) sLen sCap)
    (cur cs : List Value) (hg : Blk w g t cur) (hk : Nat.min sLen dLen = k) (hn : cs.length = k) (hsrc : ∀ j v, cs[j]? = some v → w.cell? ⟨b, so + j, none⟩ = some v) (hfit : off + k ≤ cur.length) (h1 : ∀ v ∈ cs, v.oneCell' = true)
    (h : ∀ w', Hid (Blk w' g t (splice cur off cs)) → Hid (Only g w w') → wpList P ops Q rest (a.put o.dst (goInt k)) w') : wpList P ops Q (o :: rest) a w :=
  wpList_copy_blk hgd d x dT elem t 1 k ho hu hs g off dLen dCap b so sLen sCap hd hx cur cs hg hk (by rw [Nat.mul_one]; exact hn) hsrc (by rw [Nat.mul_one]; exact hfit) h1 h
theorem wpList_clear_one (hgd : o.guard = none) (x : Operand) (T elem t : TypeId) (z : Value)
    (ho : o.op = .call { callee := .builtin .clear, args := #[x], argTypes := #[T] }) (hu : P.underlying T = some (.slice elem)) (hi : (P.info? elem).map (fun i => (i.zero, i.size)) = some (some z, 1)) (hz : z.cells.size = 1) (hz1 : ∀ v ∈ z.cells, v.oneCell' = true)
    (g off n c : Nat) (A : Option Addr) (hx : a.eval x = .slice A n c) (hA : 0 < n → A = some ⟨g, off, none⟩)
    (cur : List Value) (hg : Blk w g t cur) (hfit : off + n ≤ cur.length)
    (h : ∀ w' cs, Hid (cs.length = n) → Hid (Blk w' g t (splice cur off cs)) → Hid (Only g w w') → wpList P ops Q rest (a.put o.dst (.tuple #[])) w') : wpList P ops Q (o :: rest) a w :=
  wpList_clear_blk hgd x T elem t 1 z [] ho hu hi hz hz1 (by decide) g off n c A hx hA cur hg (by rw [Nat.mul_one]; exact hfit) fun w' cs q => h w' cs (by have := q.out; rw [Nat.mul_one] at this; exact this)
theorem wpList_append_room1 (hgd : o.guard = none) (l x : Operand) (T elem : TypeId)
    (ho : o.op = .call { callee := .builtin .append, args := #[l, x], argTypes := #[T, T] }) (hu : P.underlying T = some (.slice elem)) (hs : (P.info? elem).map (·.size) = some 1)
    (g sLen sCap b so m c : Nat) (hl : a.eval l = .slice (some ⟨g, 0, none⟩) sLen sCap) (hx : a.eval x = .slice (some ⟨b, so, none⟩) m c)
    (cur cs : List Value) (hg : Blk w g elem cur) (hn : cs.length = m) (hsrc : ∀ j v, cs[j]? = some v → w.cell? ⟨b, so + j, none⟩ = some v) (hroom : sLen + m ≤ sCap) (hfit : sLen + m ≤ cur.length) (h1 : ∀ v ∈ cs, v.oneCell' = true) {t : Nat} (ht : sLen + m = t)
    (h : ∀ w', Hid (Blk w' g elem (splice cur sLen cs)) → Hid (Only g w w') → wpList P ops Q rest (a.put o.dst (.slice (some ⟨g, 0, none⟩) t sCap)) w') : wpList P ops Q (o :: rest) a w := by
  subst ht
  refine wpList_append_room hgd l x T elem 1 ho hu hs g sLen sCap b so m c hl hx cur cs hg (by rw [Nat.mul_one]; exact hn) hsrc hroom (by rw [Nat.mul_one, Nat.mul_one]; exact hfit) h1 fun w' q => h w' ?_
  rw [Nat.mul_one] at q
  exact q
theorem wpList_append_more1 (hgd : o.guard = none) (l x : Operand) (T tn elem t : TypeId) (bytes : Nat) (z : Value) (kn : IntKind)
    (ho : o.op = .call { callee := .builtin .append, args := #[l, x], argTypes := #[T, tn] }) (hu : P.underlying T = some (.slice elem)) (htn : P.underlying tn = some (.int kn)) (hi : (P.info? elem).map (fun i => (i.zero, i.size, i.bytes)) = some (some z, 1, bytes)) (hz : z.cells.size = 1) (hs0 : 0 < 1)
    (g sLen sCap k : Nat) (hl : a.eval l = .slice (some ⟨g, 0, none⟩) sLen sCap) (kk : IntKind) (C : Int) (hx : a.eval x = .int kk C) (hC : C = (k : Int))
    (cur : List Value) (hg : Blk w g t cur) (hfit : sLen ≤ cur.length) (hgrow : sCap < sLen + k) (h0 : 0 < k) (hlen : (sLen + k) * bytes ≤ 140737488355328) (h63 : sLen + k ≤ 9223372036854775807)
    (h : ∀ w' h' cap cs, Hid (w.heap.size ≤ h' ∧ h' < w'.heap.size) → Hid (Blk w' h' elem (cur.take sLen ++ cs)) → Hid ((cur.take sLen ++ cs).length = cap) → sLen + k ≤ cap → cap ≤ maxLen → Hid (Below w.heap.size w w') →
      wpList P ops Q rest (a.put o.dst (.slice (some ⟨h', 0, none⟩) (sLen + k) cap)) w') : wpList P ops Q (o :: rest) a w := by
  refine wpList_append_more hgd l x T tn elem t 1 bytes z kn ho hu htn hi hz hs0 g sLen sCap k hl kk C hx hC cur hg (by rw [Nat.mul_one]; exact hfit) hgrow h0 hlen h63 fun w' h' cap cs q1 q2 q3 q4 q5 q6 => h w' h' cap cs q1 ?_ ?_ q4 q5 q6
  · rw [Nat.mul_one] at q2
    exact q2
  · rw [Nat.mul_one, Nat.mul_one] at q3
    exact q3
end
section
variable {w : World} {base q n c : Nat} {xs : List ByteArray}
theorem OwnS.blk1 (h : OwnS txtCells 1 9 w base (.slice (some ⟨q, 0, none⟩) n c) xs) : base ≤ q ∧ xs.length = n ∧ n ≤ c ∧ c ≤ maxLen ∧ ∃ cs, Blk w q 9 cs ∧ cs.length = c ∧ cs.take n = xs.flatMap txtCells := by
  have h1 := h.blk
  rw [Nat.mul_one, Nat.mul_one] at h1
  exact h1
theorem OwnS.of_blk1 {cs : List Value} (hb : base ≤ q) (hB : Blk w q 9 cs) (hc : cs.length = c) (hcm : c ≤ maxLen) (hn : xs.length = n) (hnc : n ≤ c) (ht : cs.take n = xs.flatMap txtCells) : OwnS txtCells 1 9 w base (.slice (some ⟨q, 0, none⟩) n c) xs :=
  OwnS.of_blk txtCells_len hb hB (by rw [Nat.mul_one]; exact hc) hcm hn hnc (by rw [Nat.mul_one]; exact ht)
end
/-- what is answered where one new extent stands in the place of so many -/
def PutPostS (w : World) (base : Nat) (v : Value) (l : List ByteArray) (i j : Nat) (J : ByteArray) (e : Ending) (w' : World) : Prop :=
  ∃ v', e = .returned v' ∧ OwnS txtCells 1 9 w' base v' (l.take i ++ [J] ++ l.drop j) ∧ Spare (fun k => v.ownBlock = some k) w w' ∧ Wander w v v'
/-- the cells behind what has been laid -/
theorem splice2_takeS {L X Y : List Value} {a : Nat} (ha : a ≤ L.length) (hX : X.length = 1) (hY : a + 1 + Y.length ≤ L.length) : (splice (splice L a X) (a + 1) Y).take (a + 1 + Y.length) = L.take a ++ X ++ Y := by
  have h1 : (splice L a X).take (a + 1) = L.take a ++ X := by
    unfold splice
    rw [← List.append_assoc, List.take_left' (by rw [List.length_append, List.length_take, hX, Nat.min_eq_left ha])]
  unfold splice at h1 ⊢
  rw [h1, ← List.append_assoc, List.take_left' (by rw [List.length_append, List.length_append, List.length_take, hX, Nat.min_eq_left ha])]
theorem splice2_takeS' {L X Y : List Value} {a : Nat} (ha : a ≤ L.length) (hX : X.length = 1) (hY : a + 1 + Y.length ≤ L.length) : (splice (splice L (a + 1) Y) a X).take (a + 1 + Y.length) = L.take a ++ X ++ Y := by
  have h2 : (L.take (a + 1)).length = a + 1 := by rw [List.length_take]; omega
  have h1 : (splice L (a + 1) Y).take a = L.take a := by
    unfold splice
    rw [List.take_append_of_le_length (by rw [h2]; omega), List.take_take, Nat.min_eq_left (by omega)]
  have h3 : (splice L (a + 1) Y).drop (a + X.length) = Y ++ L.drop (a + 1 + Y.length) := by
    unfold splice
    rw [hX, List.drop_left' h2]
  show (List.take a (splice L (a + 1) Y) ++ (X ++ (splice L (a + 1) Y).drop (a + X.length))).take _ = _
  rw [h1, h3, ← List.append_assoc, ← List.append_assoc, List.take_left' (by rw [List.length_append, List.length_append, List.length_take, hX, Nat.min_eq_left ha])]
theorem flat_partsS (l : List ByteArray) (i j n : Nat) (J : ByteArray) (hn : l.length = n) (hij : i ≤ j) (hj : j ≤ n) (cs : List Value) (ht : cs.take (n) = l.flatMap txtCells) :
    (l.take i ++ [J] ++ l.drop j).flatMap txtCells = cs.take (i) ++ txtCells J ++ (cs.take (n)).drop (j) := by
  have h1 : (l.take i).flatMap txtCells = cs.take (i) := by
    have h4 := congrArg (List.take (i)) ht
    rw [List.take_take, Nat.min_eq_left (by omega)] at h4
    rw [h4]
    conv => rhs; rw [← List.take_append_drop i l]
    rw [List.flatMap_append, List.take_left' (by rw [flatMap_len txtCells_len, List.length_take, hn]; omega)]
  have h2 : (l.drop j).flatMap txtCells = (cs.take (n)).drop (j) := by
    rw [ht]
    conv => rhs; rw [← List.take_append_drop j l]
    rw [List.flatMap_append, List.drop_left' (by rw [flatMap_len txtCells_len, List.length_take, hn]; omega)]
  rw [List.flatMap_append, List.flatMap_append, h1, h2]
  simp
set_option maxHeartbeats 4000000 in
theorem SInsert_any (w : World) (base : Nat) (A : Option Addr) (n c i vb : Nat) (l : List ByteArray) (J : ByteArray) (ho : OwnS txtCells 1 9 w base (.slice A n c) l) (hi : i ≤ n) (hn : l.length = n) (hn2 : n ≤ 65536) (hb : base ≤ w.heap.size)
    (hv : Blk w vb 9 (txtCells J)) (hvn : (Value.slice A n c).ownBlock ≠ some vb) :
    Calls Tryd.prog 57 #[.slice A n c, .int .i64 (i : Nat), .slice (some ⟨vb, 0, none⟩) 1 1] w (PutPostS w base (.slice A n c) l i i J) := by
  have hJ : Hid (∀ w2, Blk w2 vb 9 (txtCells J) → ∀ j u, (txtCells J)[j]? = some u → w2.cell? ⟨vb, 0 + j, none⟩ = some u) := fun w2 h j u hj => by rw [Nat.zero_add, h.cell, hj]
  have HV := Lib.hid hv
  have HO := Lib.hid ho
  by_cases hin : i = n
  · subst hin
    have hl : l.take i ++ [J] ++ l.drop i = l ++ [J] := by rw [List.take_of_length_le (by omega), List.drop_of_length_le (by omega), List.append_nil]
    unfold PutPostS
    rw [hl]
    have hlen : Hid ((l.length + [J].length) * 16 ≤ 140737488355328 ∧ l.length + [J].length ≤ 9223372036854775807) := by show _ ∧ _; simp; omega
    have hJ2 : Hid (∀ w2, Blk w2 vb 9 (txtCells J) → ∀ j u, ([J].flatMap txtCells)[j]? = some u → w2.cell? ⟨vb, 0 + j, none⟩ = some u) := fun w2 h j u hj => hJ.out w2 h j u (by simpa using hj)
    have hcm : c ≤ 9223372036854775807 ∧ i ≤ c := by
      rcases ho.2 with ⟨h1, _⟩ | ⟨g, cap, cur, h1, _, _, h2, h3, _⟩
      · injection h1 with _ h3 h4
        omega
      · injection h1 with _ h4 h5
        unfold maxLen at h3
        omega
    obtain ⟨hcm, hic⟩ := hcm
    clear ho hv hl hJ hvn hn
    rcases A with _ | ad
    · have hc : i = 0 ∧ c = 0 := by
        rcases HO.out.2 with ⟨h1, _⟩ | ⟨g, cap, cur, h1, _⟩
        · injection h1 with _ h2 h3
          exact ⟨h2, h3⟩
        · injection h1 with h2
          cases h2
      obtain ⟨rfl, rfl⟩ := hc
      go_enter Tryd.func57, Tryd.ntmps57
      go_wp2_with (first
        | (at_builtin; refine wpList_append_holdSW rfl (.tmp 23) (.tmp 24) txtCells 1 (by decide) txtCells_len txtCells_one (.string ⟨#[]⟩) rfl 29 9 16 Tryd.underlying29 info_str rfl base _ l rfl HO.out vb 0 1 1 [J] rfl rfl (hJ2.out _ HV.out) hlen.out.1 hlen.out.2 hb ?_; intro v1 w1 O1 S1 W1)
        | fail)
      go_ret
      exact ⟨_, rfl, O1.out, S1.out, W1.out⟩
    · go_enter Tryd.func57, Tryd.ntmps57
      go_wp2_with (first
        | (at_builtin; refine wpList_append_holdSW rfl (.tmp 23) (.tmp 24) txtCells 1 (by decide) txtCells_len txtCells_one (.string ⟨#[]⟩) rfl 29 9 16 Tryd.underlying29 info_str rfl base _ l rfl HO.out vb 0 1 1 [J] rfl rfl (hJ2.out _ HV.out) hlen.out.1 hlen.out.2 hb ?_; intro v1 w1 O1 S1 W1)
        | fail)
      all_goals go_ret
      all_goals exact ⟨_, rfl, O1.out, S1.out, W1.out⟩
  · obtain ⟨g, c', hg⟩ := ho.form (show 0 < l.length by omega)
    obtain rfl : A = some ⟨g, 0, none⟩ := by injection hg
    clear hg
    obtain ⟨hbg, hln, hnc, hcm, cs, hB, hcl, htk⟩ := ho.blk1
    have hcm' : c ≤ 9223372036854775807 := by unfold maxLen at hcm; omega
    have hgv : g ≠ vb := fun h => hvn (by rw [h]; rfl)
    have hparts := flat_partsS l i i n J hn (Nat.le_refl _) hi cs htk
    have hlen3 : (l.take i ++ [J] ++ l.drop i).length = n + 1 := by simp; omega
    obtain ⟨L3, hL3⟩ : ∃ L3, L3 = l.take i ++ [J] ++ l.drop i := ⟨_, rfl⟩
    unfold PutPostS
    rw [← hL3] at hparts hlen3 ⊢
    obtain ⟨Y, hY⟩ : ∃ Y, Y = (cs.take (n)).drop (i) := ⟨_, rfl⟩
    rw [← hY] at hparts
    have hYl : Y.length = (n - i) := by rw [hY, List.length_drop, List.length_take, hcl]; omega
    have hYc : Hid (∀ w2, Blk w2 g 9 cs → ∀ j v, Y[j]? = some v → w2.cell? ⟨g, i + j, none⟩ = some v) := fun w2 h j v hj => by
      rw [h.cell, ← hj, hY, List.getElem?_drop, List.getElem?_take, if_pos]
      have := (List.getElem?_eq_some_iff.1 hj).1
      omega
    have hY1 : Hid (∀ v ∈ Y, v.oneCell' = true) := fun v hv => by
      rw [hY, htk] at hv
      obtain ⟨y, _, hy⟩ := List.mem_flatMap.1 (List.mem_of_mem_drop hv)
      exact txtCells_one y v hy
    have HB0 := Lib.hid hB
    have HL := Lib.hid hcl
    have HP := Lib.hid hparts
    have H3 := Lib.hid hlen3
    have HYL := Lib.hid hYl
    have hic : ¬ c = i := by omega
    have hic2 : i ≤ c := by omega
    have hc0 : ¬ c = 0 := by omega
    have hne : ¬ (i : Int) = (n : Int) := by omega
    clear hB hcl htk ho hln hn hL3 hY hYl hparts hlen3 hvn hv
    have h01 : (0 : Int) ≤ (i : Int) + 1 := by omega
    have hui : IntKind.i64.wrap ((i : Int) + 1) = (i : Int) + 1 := by rw [IntKind.wrap_i64]; omega
    have htn : ((i : Int) + 1).toNat = i + 1 := by omega
    have fin : Hid (∀ w2 q cap cur, base ≤ q → Blk w2 q 9 cur → cur.length = cap → cap ≤ maxLen → n + 1 ≤ cap → cur.take (i + 1 + Y.length) = cs.take (i) ++ txtCells J ++ Y → OwnS txtCells 1 9 w2 base (.slice (some ⟨q, 0, none⟩) (n + 1) cap) L3) := fun w2 q cap cur h1 h2 h3 h4 h5 h6 => by
      refine OwnS.of_blk1 h1 h2 h3 h4 H3.out h5 ?_
      rw [HP.out, ← h6, HYL.out]
      congr 1
      omega
    have one : Hid (∀ v ∈ txtCells J, v.oneCell' = true) := txtCells_one J
    by_cases hgrow : n + 1 ≤ c
    · have hgt : decide ((c : Int) < (n : Int) + 1) = false := decide_eq_false (by omega)
      have hin1 : ¬ c = i + 1 := by omega
      have hgt2 : (n : Int) + 1 ≤ (c : Int) := by omega
      have htn2 : ((n : Int) + 1).toNat = n + 1 := by omega
      have h02 : (0 : Int) ≤ (n : Int) + 1 := by omega
      have hnil : n + 1 - (i + 1) = n - i := by omega
      have hil : (i : Int) ≤ (n : Int) := by omega
      have hil1 : (i : Int) ≤ (n : Int) + 1 := by omega
      have hov : ∀ lb cb, (callFunc 72 #[.slice (some ⟨vb, 0, none⟩) 1 1, .slice (some ⟨g, (i + 1), none⟩) lb cb]).run Tryd.prog w = .ok (.value (.bool false)) w := fun lb cb => by
        rw [run_callFunc_extern Tryd.func72 (by kernel_rfl) (by kernel_rfl) (by kernel_rfl) (e := Extern.SlicesOverlaps.overlaps #[29, 29] #[4]) (by kernel_rfl),
          Lib.run_overlaps_apart w 29 4 9 Tryd.underlying29 1 (fun w => by simp [sizeOf, typeInfo]; rfl) ⟨vb, 0, none⟩ ⟨g, (i + 1), none⟩ 1 1 lb cb (fun h => hgv h.symm) 9 9 1 cs.length (by unfold World.shape?; rw [HV.out]; rfl) (by unfold World.shape?; rw [HB0.out]; rfl) (by rw [HL.out]; omega) (HV.out.frozen 0) (HV.out.frozen 1)]
        rfl
      go_enter Tryd.func57, Tryd.ntmps57
      go_upto_region 15 with (simp only [hov])
      have F1 : Hid ((i + 1) + (n - i) ≤ cs.length) := by show _ ≤ _; rw [HL.out]; omega
      have F2 : Hid (i + 1 ≤ (splice cs ((i + 1)) Y).length) := by show _ ≤ _; rw [length_splice _ _ _ (by rw [HYL.out, HL.out]; omega), HL.out]; omega
      go_still_tail 8, (by kernel_rfl)
      change wpList _ _ _ _ _ w.drew
      go_wp2_with (first
        | ((with_reducible show wpList _ _ _ (⟨some 77, _, _, _, _, _⟩ :: _) _ _); go_loud (refine wpList_copy_one rfl (.tmp 73) (.tmp 76) 29 9 9 (n - i) rfl Tryd.underlying29 size_str _ _ _ _ _ _ _ _ rfl rfl _ Y HB0.out.drew (Nat.min_eq_right (by omega)) HYL.out (hYc.out _ HB0.out.drew) F1.out hY1.out ?_); intro w1 B1 O1; go_loud (have HV1 := Lib.hid ((HV.out.drew).only O1.out (fun h => hgv h.symm))))
        | ((with_reducible show wpList _ _ _ (⟨some 82, _, _, _, _, _⟩ :: _) _ _); go_loud (refine wpList_copy_one rfl (.tmp 80) (.tmp 81) 29 9 9 1 rfl Tryd.underlying29 size_str _ _ _ _ _ _ _ _ rfl rfl _ (txtCells J) B1.out (Nat.min_eq_left (by omega)) rfl (hJ.out _ HV1.out) F2.out one.out ?_); intro w2 B2 O2)
        | fail)
      go_ret
      have q2 : Only g w w2 := ⟨O2.out.os.trans O1.out.os, O2.out.tape.trans O1.out.tape, O2.out.output.trans O1.out.output, O2.out.size.trans O1.out.size, fun j hj => (O2.out.rest j hj).trans (O1.out.rest j hj)⟩
      have ea : i + 1 = (i + 1) := by omega
      have hl1 : i ≤ cs.length := by rw [HL.out]; omega
      have hl2 : i + 1 + Y.length ≤ cs.length := by rw [HL.out, HYL.out]; omega
      refine ⟨_, rfl, ?_, (Spare.of_only q2).mono fun j _ hj => by rw [hj]; rfl, fun j hj => .inl hj⟩
      refine fin.out w2 g c _ hbg B2.out ?_ hcm (by omega) ?_
      · rw [length_splice _ _ _ (by rw [length_splice _ _ _ (by rw [HYL.out, HL.out]; omega), txtCells_len, HL.out]; omega), length_splice _ _ _ (by rw [HYL.out, HL.out]; omega), HL.out]
      · rw [← ea, splice2_takeS' hl1 (txtCells_len J) hl2]
    · obtain ⟨k, hk⟩ : ∃ k, n + 1 = i + k := ⟨n + 1 - i, by omega⟩
      have hk' : (n : Int) + 1 - (i : Int) = (k : Int) := by omega
      have hgt : decide ((c : Int) < (n : Int) + 1) = true := decide_eq_true (by omega)
      have hlen : Hid ((i + k) * 16 ≤ 140737488355328) := by show _ ≤ _; omega
      have hfit : Hid (i ≤ cs.length) := by show _ ≤ _; rw [HL.out]; omega
      go_enter Tryd.func57, Tryd.ntmps57
      go_upto_region 11 with (first
        | (at_builtin; go_loud (refine wpList_append_more1 rfl (.tmp 34) (.tmp 39) 29 3 9 9 16 (.string ⟨#[]⟩) .i64 rfl Tryd.underlying29 Tryd.underlying3 info_str rfl (by decide) g i c k rfl .i64 _ rfl rfl cs HB0.out hfit.out (by omega) (by omega) hlen.out (by omega) ?_); intro w1 h1 cap zs R1 B1 E1 hge hcap L1; go_loud (have hcapi : ¬ cap = i := by omega); go_loud (have HV1 := Lib.hid (HV.out.over L1.out)); go_loud (have HG1 := Lib.hid (HB0.out.over L1.out)); go_loud (have F1 : Hid (i + 1 ≤ (cs.take (i) ++ zs).length) := (by show _ ≤ _; rw [E1.out]; omega)))
        | ((with_reducible show wpList _ _ _ (⟨some 45, _, _, _, _, _⟩ :: _) _ _); go_loud (refine wpList_copy_one rfl (.tmp 43) (.tmp 44) 29 9 9 1 rfl Tryd.underlying29 size_str _ _ _ _ _ _ _ _ rfl rfl _ (txtCells J) B1.out (Nat.min_eq_left (show 1 ≤ k by omega)) rfl (hJ.out _ HV1.out) F1.out one.out ?_); intro w2 B2 O2)
        | fail)
      have HG2 := Lib.hid ((HG1.out.only O2.out (by have := HB0.out.lt; have := R1.out.1; omega)).drew)
      have F2 : Hid ((i + 1) + (n - i) ≤ (splice (cs.take (i) ++ zs) (i) (txtCells J)).length) := by
        show _ ≤ _
        rw [length_splice _ _ _ (by rw [E1.out, txtCells_len]; omega), E1.out]
        omega
      have hcapu : ¬ cap = i + 1 := by omega
      have hku : i + k - (i + 1) = n - i := by omega
      have h1k : (1 : Int) ≤ (k : Int) := by omega
      have hcap0 : ¬ cap = 0 := by omega
      go_still_tail 8, (by kernel_rfl)
      change wpList _ _ _ _ _ w2.drew
      go_wp2_with (first
        | ((with_reducible show wpList _ _ _ (⟨some 54, _, _, _, _, _⟩ :: _) _ _); go_loud (refine wpList_copy_one rfl (.tmp 50) (.tmp 53) 29 9 9 (n - i) rfl Tryd.underlying29 size_str _ _ _ _ _ _ _ _ rfl rfl _ Y B2.out.drew (Nat.min_self _) HYL.out (hYc.out _ HG2.out) F2.out hY1.out ?_); intro w3 B3 O3)
        | fail)
      go_ret
      have q3 : Below w.heap.size w w3 := below_only ((below_only L1.out O2.out R1.out.1).trans ((drewed w2 1).mono (Nat.le_trans L1.out.size (Nat.le_of_eq O2.out.size.symm)))) O3.out R1.out.1
      have ea : i + 1 = (i + 1) := by omega
      have hl1 : i ≤ (cs.take (i) ++ zs).length := by rw [E1.out]; omega
      have hl2 : i + 1 + Y.length ≤ (cs.take (i) ++ zs).length := by rw [E1.out, HYL.out]; omega
      refine ⟨_, rfl, ?_, Spare.of_over _ q3, fun j hj => .inr ?_⟩
      · rw [← hk]
        refine fin.out w3 h1 cap _ (Nat.le_trans hb R1.out.1) B3.out ?_ hcap (by omega) ?_
        · rw [length_splice _ _ _ (by rw [length_splice _ _ _ (by rw [txtCells_len]; omega), HYL.out, E1.out]; omega), length_splice _ _ _ (by rw [txtCells_len]; omega), E1.out]
        · rw [← ea, splice2_takeS hl1 (txtCells_len J) hl2, List.take_append_of_le_length (by rw [List.length_take, HL.out]; omega), List.take_take, Nat.min_self]
      · injection hj with hj
        rw [← hj]
        exact R1.out.1
set_option maxHeartbeats 4000000 in
theorem SDelete_any (w : World) (base g n c i k : Nat) (l : List ByteArray) (ho : OwnS txtCells 1 9 w base (.slice (some ⟨g, 0, none⟩) n c) l) (hnk : n = k + 1) (hi : i ≤ k) (hn2 : n ≤ 65536) :
    Calls Tryd.prog 60 #[.slice (some ⟨g, 0, none⟩) n c, .int .i64 (i : Nat), .int .i64 ((i : Int) + 1)] w fun e w' =>
      e = .returned (.slice (some ⟨g, 0, none⟩) k c) ∧ OwnS txtCells 1 9 w' base (.slice (some ⟨g, 0, none⟩) k c) (l.take i ++ l.drop (i + 1)) ∧ Spare (fun j => j = g) w w' := by
  obtain ⟨hb, hln, hnc, hcm, cs, hB, hcl, htk⟩ := ho.blk1
  have hcm' : c ≤ 9223372036854775807 := by unfold maxLen at hcm; omega
  obtain ⟨m, hm⟩ : ∃ m, m = k - i := ⟨_, rfl⟩
  have him : i + m = k := by omega
  obtain ⟨Y, hY⟩ : ∃ Y, Y = (cs.take n).drop (i + 1) := ⟨_, rfl⟩
  have hYl : Y.length = m := by rw [hY, List.length_drop, List.length_take, hcl]; omega
  have hYc : Hid (∀ w2, Blk w2 g 9 cs → ∀ j v, Y[j]? = some v → w2.cell? ⟨g, i + 1 + j, none⟩ = some v) := fun w2 h j v hj => by
    rw [h.cell, ← hj, hY, List.getElem?_drop, List.getElem?_take, if_pos]
    have := (List.getElem?_eq_some_iff.1 hj).1
    omega
  have hY1 : Hid (∀ v ∈ Y, v.oneCell' = true) := fun v hv => by
    rw [hY, htk] at hv
    obtain ⟨y, _, hy⟩ := List.mem_flatMap.1 (List.mem_of_mem_drop hv)
    exact txtCells_one y v hy
  have hflat : (l.take i ++ l.drop (i + 1)).flatMap txtCells = cs.take i ++ Y := by
    rw [List.flatMap_append, flat1, flat1, hY, htk, flat1, List.map_take, List.map_drop]
    congr 1
    have h4 := congrArg (List.take i) htk
    rw [List.take_take, Nat.min_eq_left (by omega), flat1] at h4
    exact h4.symm
  have hlen2 : (l.take i ++ l.drop (i + 1)).length = k := by rw [List.length_append, List.length_take, List.length_drop]; omega
  have fin : Hid (∀ w2 zs, zs.length = 1 → Blk w2 g 9 (splice (splice cs i Y) k zs) → Only g w w2 → OwnS txtCells 1 9 w2 base (.slice (some ⟨g, 0, none⟩) k c) (l.take i ++ l.drop (i + 1)) ∧ Spare (fun j => j = g) w w2) := fun w2 zs hz h1 h2 => by
    have e1 : (splice cs i Y).length = c := by rw [length_splice _ _ _ (by rw [hYl, hcl]; omega), hcl]
    refine ⟨OwnS.of_blk1 hb h1 ?_ hcm hlen2 (by omega) ?_, Spare.of_only h2⟩
    · rw [length_splice _ _ _ (by rw [hz, e1]; omega), e1]
    · rw [hflat]
      have e2 : (splice (splice cs i Y) k zs).take k = (splice cs i Y).take k := by
        unfold splice
        rw [List.take_append_of_le_length (by rw [List.length_take]; have := e1; unfold splice at this; omega), List.take_take, Nat.min_self]
      rw [e2]
      unfold splice
      rw [← List.append_assoc, List.take_left' (by rw [List.length_append, List.length_take, hYl, hcl]; omega)]
  have HB0 := Lib.hid hB
  have HL := Lib.hid hcl
  have HYL := Lib.hid hYl
  have F1 : Hid (i + m ≤ cs.length) := by show _ ≤ _; rw [hcl]; omega
  have F2 : Hid (k + 1 ≤ (splice cs i Y).length) := by show _ ≤ _; rw [length_splice _ _ _ (by rw [hYl, hcl]; omega), hcl]; omega
  have one : ∀ v ∈ (Value.string ⟨#[]⟩).cells, v.oneCell' = true := by decide
  subst hnk
  have hmm : k + 1 - (i + 1) = m := by omega
  have hmm2 : k - i = m := hm.symm
  have hck : ¬ c = k := by omega
  have hc0 : ¬ c = 0 := by omega
  have hic : i ≤ c := by omega
  have hne : ¬ (i : Int) = (i : Int) + 1 := by omega
  have h01 : (0 : Int) ≤ (i : Int) + 1 := by omega
  have htn : ((i : Int) + 1).toNat = i + 1 := by omega
  have hil : (i : Int) ≤ (i : Int) + 1 := by omega
  have hik : (i : Int) ≤ (k : Int) := by omega
  have hik1 : (i : Int) + 1 ≤ (k : Int) + 1 := by omega
  have hkk : (k : Int) ≤ (k : Int) + 1 := by omega
  have hk1 : k + 1 - k = 1 := by omega
  have hkc : (k : Int) + 1 ≤ (c : Int) := by omega
  clear hB hcl htk ho hln hY hYl hflat hlen2 hm
  by_cases hci : c = i + 1
  · obtain rfl : k = i := by omega
    obtain rfl : m = 0 := by omega
    obtain rfl : Y = [] := List.eq_nil_of_length_eq_zero HYL.out
    subst hci
    go_enter Tryd.func60, Tryd.ntmps60
    go_upto_region 5 with fail
    go_still_tail 6, (by kernel_rfl)
    change wpList _ _ _ _ _ w.drew
    go_wp2_with (first
      | (at_builtin; go_loud (refine wpList_append_room1 rfl (.tmp 22) (.tmp 25) 29 9 rfl Tryd.underlying29 size_str _ _ _ _ _ _ _ rfl rfl cs [] HB0.out.drew rfl (fun j v h => by cases h) (by omega) F1.out (fun v h => by cases h) him ?_); intro w1 B1 O1)
      | ((with_reducible show wpList _ _ _ (⟨none, .call _, _, _, _, _⟩ :: _) _ _); go_loud (refine wpList_clear_one rfl (.tmp 31) 29 9 9 _ rfl Tryd.underlying29 zero_str rfl one g k 1 _ _ rfl (fun _ => rfl) (splice cs k []) B1.out F2.out ?_); intro w2 zs Z2 B2 O2)
      | fail)
    go_ret
    obtain ⟨r1, r2⟩ := fin.out w2 zs Z2.out B2.out ⟨O2.out.os.trans O1.out.os, O2.out.tape.trans O1.out.tape, O2.out.output.trans O1.out.output, O2.out.size.trans O1.out.size, fun j hj => (O2.out.rest j hj).trans (O1.out.rest j hj)⟩
    exact ⟨rfl, r1, r2⟩
  · go_enter Tryd.func60, Tryd.ntmps60
    go_upto_region 5 with fail
    go_still_tail 6, (by kernel_rfl)
    change wpList _ _ _ _ _ w.drew
    go_wp2_with (first
      | (at_builtin; go_loud (refine wpList_append_room1 rfl (.tmp 22) (.tmp 25) 29 9 rfl Tryd.underlying29 size_str _ _ _ _ _ _ _ rfl rfl cs Y HB0.out.drew HYL.out (hYc.out _ HB0.out.drew) (by omega) F1.out hY1.out him ?_); intro w1 B1 O1)
      | ((with_reducible show wpList _ _ _ (⟨none, .call _, _, _, _, _⟩ :: _) _ _); go_loud (refine wpList_clear_one rfl (.tmp 31) 29 9 9 _ rfl Tryd.underlying29 zero_str rfl one g k 1 _ _ rfl (fun _ => rfl) (splice cs i Y) B1.out F2.out ?_); intro w2 zs Z2 B2 O2)
      | fail)
    go_ret
    obtain ⟨r1, r2⟩ := fin.out w2 zs Z2.out B2.out ⟨O2.out.os.trans O1.out.os, O2.out.tape.trans O1.out.tape, O2.out.output.trans O1.out.output, O2.out.size.trans O1.out.size, fun j hj => (O2.out.rest j hj).trans (O1.out.rest j hj)⟩
    exact ⟨rfl, r1, r2⟩
end Go.Proofs.YtangkcedgelegaaDoor

namespace Go.Proofs.YtangkcedgelegaaDoor
set_option linter.all false
open Go.RowKit
section
variable {P : Program} {ops : Array Oper} {md : Region.Mode} {S : World → Prop} {Q : Exit → Act → World → Prop} {k : Nat}
def wpAnyK (P : Program) (md : Region.Mode) (ops : Array Oper) (Q : Exit → Act → World → Prop) (S : World → Prop) (k : Nat) : Nat → Array Bool → Act → World → Prop
  | 0, listed, a, w => Region.ready md ops listed = [] ∧ Q .normal a w
  | fuel + 1, listed, a, w =>
    (Region.ready md ops listed = [] → Q .normal a w) ∧
    ∀ i ∈ Region.ready md ops listed, wpOp P ops Q i (fun a' w' => ((listed.setIfInBounds i true).getD k false = false → S w') ∧ wpAnyK P md ops Q S k fuel (listed.setIfInBounds i true) a' w') a w
theorem wpAny_of_K : ∀ (fuel : Nat) (listed : Array Bool) (a : Act) (w : World), wpAnyK P md ops Q S k fuel listed a w → wpAny P md ops Q fuel listed a w
  | 0, _, _, _, h => h
  | fuel + 1, _, _, _, h => ⟨h.1, fun i hi => wpOp_mono (fun a' w' h' => wpAny_of_K fuel _ a' w' h'.2) (h.2 i hi)⟩
theorem wpAnyK_first {i : Nat} {oi ok : Oper} {v : Value} (hi : ops[i]? = some oi) (hsel : ∀ (j : Nat) (o : Oper) cs b, ops[j]? = some o → o.op ≠ .select cs b)
    (hQ : ∀ c a w, Q (.panic c) (a.put oi.dst v) w → Q (.panic c) a w) (hk : ops[k]? = some ok) (hke : ok.after.any (fun e => Region.binds md e && e.on == i) = true) :
    ∀ (fuel : Nat) (listed : Array Bool) (a : Act) (w : World),
      (∀ j oj, ops[j]? = some oj → j ≠ i → listed.getD j true = false → (∀ e ∈ oj.after, Region.binds md e = true → e.on ≠ i) → oi.apart ops oj = true) →
      i ∈ Region.ready md ops listed → YieldsIf P ops S oi v a → S w → listed.getD k false = false → i ≠ k →
      wpAnyK P md ops Q S k fuel (listed.setIfInBounds i true) (a.put oi.dst v) w → wpAnyK P md ops Q S k (fuel + 1) listed a w := by
  intro fuel
  induction fuel with
  | zero =>
    intro listed a w _ hr hy hS _ _ H
    refine ⟨fun h => (by rw [h] at hr; cases hr), fun j hj => ?_⟩
    by_cases hji : j = i
    · subst hji; exact hy.wpOp hi hS ⟨fun _ => hS, H⟩
    · have := ready_mono hj hji
      rw [H.1] at this
      cases this
  | succ fuel ih =>
    intro listed a w hfree hr hy hS hkl hik H
    refine ⟨fun h => (by rw [h] at hr; cases hr), fun j hj => ?_⟩
    by_cases hji : j = i
    · subst hji; exact hy.wpOp hi hS ⟨fun _ => hS, H⟩
    · have h1 := H.2 j (ready_mono hj hji)
      obtain ⟨hjun, oj, hoj, hall⟩ := mem_ready.1 hj
      have hnot : ∀ e ∈ oj.after, Region.binds md e = true → e.on ≠ i := fun e he hb heq => by
        have h1 := hall e he hb
        have h0 := (mem_ready.1 hr).1
        rw [heq] at h1
        rcases Nat.lt_or_ge i listed.size with h' | h'
        · simp [h'] at h0 h1; rw [h0] at h1; cases h1
        · simp [Array.getElem?_eq_none h'] at h1
      have hjk : j ≠ k := by
        rintro rfl
        rw [hk] at hoj
        injection hoj with hoj
        subst hoj
        obtain ⟨e, he, hb⟩ := Array.any_eq_true'.1 hke
        simp only [Bool.and_eq_true, beq_iff_eq] at hb
        exact hnot e he hb.1 hb.2
      have h2 := wpOp_putIf hoj (hfree j oj hoj hji hjun hnot) (fun cs b => hsel i oi cs b hi) (fun cs b => hsel j oj cs b hoj) hQ hy h1
      have hfree' : ∀ k ok, ops[k]? = some ok → k ≠ i → (listed.setIfInBounds j true).getD k true = false →
          (∀ e ∈ ok.after, Region.binds md e = true → e.on ≠ i) → oi.apart ops ok = true := fun k ok hk hki hun hno => by
        refine hfree k ok hk hki ?_ hno
        by_cases hjk : j = k
        · subst hjk; exact hjun
        · rw [getD_set_ne true hjk] at hun; exact hun
      refine wpOp_mono (fun a' w' h3 => ?_) h2
      have hSw : S w' := h3.2.1 (by rw [getD_set_ne false hjk, getD_set_ne false hik]; exact hkl)
      refine ⟨fun _ => hSw, ih (listed.setIfInBounds j true) a' w' hfree' (ready_mono hr (Ne.symm hji)) h3.1 hSw (by rw [getD_set_ne false hjk]; exact hkl) hik ?_⟩
      rw [Array.setIfInBounds_comm _ _ hji]
      exact h3.2.2
theorem wpAnyK_take {i : Nat} {oi ok : Oper} {v : Value} {fuel : Nat} {listed : Array Bool} {a : Act} {w : World} (hi : ops[i]? = some oi)
    (hs : Region.noSelect ops = true) (hf : Region.free md ops listed i = true) (hr : (Region.ready md ops listed).contains i = true)
    (hQ : ∀ c a w, Q (.panic c) (a.put oi.dst v) w → Q (.panic c) a w) (hk : ops[k]? = some ok) (hke : ok.after.any (fun e => Region.binds md e && e.on == i) = true) (hkl : listed.getD k false = false) (hik : i ≠ k)
    (hy : YieldsIf P ops S oi v a) (hS : S w)
    (h : wpAnyK P md ops Q S k fuel (listed.setIfInBounds i true) (a.put oi.dst v) w) : wpAnyK P md ops Q S k (fuel + 1) listed a w :=
  wpAnyK_first hi (Region.noSelect_spec hs) hQ hk hke fuel listed a w (Region.free_spec hi hf) (by simpa using hr) hy hS hkl hik h
theorem wpAnyK_one (i : Nat) (oi : Oper) {fuel : Nat} {listed : Array Bool} {a : Act} {w : World} (hr : Region.ready md ops listed = [i]) (hi : ops[i]? = some oi)
    (h : ∀ K : Act → World → Prop, (∀ a' w', ((listed.setIfInBounds i true).getD k false = false → S w') → wpAnyK P md ops Q S k fuel (listed.setIfInBounds i true) a' w' → K a' w') → if Region.wanted oi (yielded ops a.tmps) = true then oi.wp P a w K Q else K (a.put oi.dst undef) w) : wpAnyK P md ops Q S k (fuel + 1) listed a w := by
  refine ⟨fun h0 => (by rw [h0] at hr; cases hr), fun j hj => ?_⟩
  rw [hr] at hj
  obtain rfl : j = i := by simpa using hj
  have h1 := h (fun a' w' => ((listed.setIfInBounds j true).getD k false = false → S w') ∧ wpAnyK P md ops Q S k fuel (listed.setIfInBounds j true) a' w') fun _ _ h2 h3 => ⟨h2, h3⟩
  unfold wpOp
  simp only [hi]
  by_cases hw : Region.wanted oi (yielded ops a.tmps) = true
  · rw [if_pos hw] at h1 ⊢
    exact .inl h1
  · rw [if_neg hw] at h1 ⊢
    exact h1
theorem wpAnyK_done {listed : Array Bool} {a : Act} {w : World} (hr : Region.ready md ops listed = []) (h : Q .normal a w) :
    ∀ fuel, wpAnyK P md ops Q S k fuel listed a w
  | 0 => ⟨hr, h⟩
  | _ + 1 => ⟨fun _ => h, by rw [hr]; simp⟩
theorem wpAnyK_frame {fuel : Nat} {listed : Array Bool} {a : Act} {w : World} (h : ∀ a', a' = a → wpAnyK P md ops Q S k fuel listed a' w) : wpAnyK P md ops Q S k fuel listed a w := h a rfl
theorem wp_region_heldK {id : Nat} {a : Act} {w : World} (k : Nat) (S : World → Prop) (hm : P.follows .mixedOrders = true)
    (h : wpAnyK P .any ops Q S k ops.size (Array.replicate ops.size false) a { w with drawn := w.drawn + 1 }) : (Code.region id ops true).wp P Q a w :=
  wp_region_any hm (wpAny_of_K _ _ _ _ h)
end
end Go.Proofs.YtangkcedgelegaaDoor

namespace Go.Proofs.YtangkcedgelegaaDoor
set_option linter.all false
open Go.RowKit
theorem Blk.setCells {g : Nat} {T : TypeId} : ∀ (vs : List Value) (o : Nat) (w : World) (cs : List Value), Blk w g T cs → o + vs.length ≤ cs.length → Blk (w.setCells g o vs) g T (cs.take o ++ (vs ++ cs.drop (o + vs.length)))
  | [], o, w, cs, h, _ => by
    show Blk w g T _
    rw [List.nil_append, List.length_nil, Nat.add_zero, List.take_append_drop]
    exact h
  | v :: r, o, w, cs, h, hl => by
    have hl' : o + 1 + r.length ≤ cs.length := by simp at hl; omega
    have h1 := h.set o v
    have h2 := Blk.setCells r (o + 1) _ _ h1 (by rw [List.length_set]; exact hl')
    have e : (cs.set o v).take (o + 1) ++ (r ++ (cs.set o v).drop (o + 1 + r.length)) = cs.take o ++ ((v :: r) ++ cs.drop (o + (v :: r).length)) := by
      have ho : o < cs.length := by omega
      have e1 : (cs.set o v).take (o + 1) = cs.take o ++ [v] := by
        rw [List.take_succ_eq_append_getElem (by rw [List.length_set]; exact ho), List.take_set_of_le (Nat.le_refl o)]
        simp
      have e2 : (cs.set o v).drop (o + 1 + r.length) = cs.drop (o + (v :: r).length) := by
        rw [List.drop_set_of_lt (by omega), List.length_cons]
        congr 1
        omega
      rw [e1, e2]
      simp
    rw [e] at h2
    exact h2
section
variable {P : Program} {ops : Array Oper} {rest : List Oper} {o : Oper} {a : Act} {w : World} {Q : Exit → Act → World → Prop}
/-- one cell, as a step of a region that draws its order -/
theorem step_store_fld {K : Act → World → Prop} {E : Prop} (hg : o.guard = none) (T : TypeId) (x y : Operand) (ho : o.op = .store T x y) (g i : Nat) (hx : a.eval x = .pointer (some ⟨g, i, none⟩)) (T' : TypeId) (cs : List Value) (u : Value) (hy : a.eval y = u)
    (hA : Hid (Blk w g T' cs)) (hi : Hid (i < cs.length)) (hs : (P.info? T).map (·.size) = some 1) (h1 : u.oneCell' = true)
    (h : ∀ w', Hid (Blk w' g T' (cs.set i u)) → Hid (Only g w w') → g < w'.heap.size → K (a.put o.dst undef) w') :
    if Region.wanted o (yielded ops a.tmps) = true then Oper.wp P o a w K Q else E := by
  have hw : Region.wanted o (yielded ops a.tmps) = true := by simp [Region.wanted, hg]
  rw [if_pos hw]
  unfold Oper.wp execOp
  simp only [ho, hx, hy, Instr.storeAt, Instr.sureAddr, Sem.run_bind, Sem.run_pure, Result.andThen_ok, run_storeVar_fld w g i T' T cs u hA.out hi.out hs h1]
  refine h _ (hA.out.set i u) (only_setCell w g i u) ?_
  have := (only_setCell w g i u).size
  rw [this]
  exact hA.out.lt
end
end Go.Proofs.YtangkcedgelegaaDoor

namespace Go.Proofs.YtangkcedgelegaaDoor
set_option linter.all false
set_option maxRecDepth 100000
open Go.RowKit
set_option linter.unusedVariables false
theorem spare_cellD {S : Nat → Prop} {w w' : World} {p : Addr} (a : Spare S w w') (hp : ¬ S p.block) (hlt : p.block < w.heap.size) : w'.cell? p = w.cell? p := by
  unfold World.cell?
  rw [a.rest p.block hlt hp]
theorem SClone_any (s : ByteArray) (w : World) (hs : s.size ≤ 1048576) : Calls Tryd.prog 29 #[.string s] w fun e w' => e = .returned (.string s) ∧ Below w.heap.size w w' := by
  have c1 := Lib.hid (Tryd.stringslite_Clone s w (by omega))
  go_enter Tryd.func29, Tryd.ntmps29
  go_wp2_with fail
  refine c1.out.mono ?_
  rintro e w1 ⟨rfl, hb1⟩
  go_wp2
  go_ret
  exact ⟨rfl, hb1⟩
theorem Spare.of_turned {w w' : World} {b : Nat} (h : w.mapTurned w' b) : Spare (fun j => j = b) w w' := by
  have g := h.grown
  exact ⟨g.os, g.tape, g.output, g.size, fun j hj hs => g.block j hj fun e => hs (by injection e)⟩
/-- a map's block heads no row -/
theorem own_ne_map {α : Type} {f : α → List Value} {s : Nat} {e : TypeId} {w : World} {base m N : Nat} {v : Value} {xs : List α} {P : Program} {kt : TypeId} {R : Value → Option (DataW Unit × List MemPlace)} {D : DataW Unit} (h : OwnS f s e w base v xs) (k : w.ownsMap P kt R m N D) : v.ownBlock ≠ some m := fun hv => by
  obtain ⟨_, cs, hcs⟩ := h.block hv
  obtain ⟨es, clock, hm, _⟩ := k
  rw [hm] at hcs
  cases hcs
theorem own_ne_blk {α : Type} {f : α → List Value} {s : Nat} {e T : TypeId} {w : World} {base g : Nat} {v : Value} {xs : List α} {cs : List Value} (o : OwnS f s e w base v xs) (h : Blk w g T cs) (hT : T ≠ e) : v.ownBlock ≠ some g := fun hv => by
  obtain ⟨_, cs', hcs⟩ := o.block hv
  rw [show w.heap[g]? = _ from h] at hcs
  simp only [Option.some.injEq, Obj.cells.injEq] at hcs
  exact hT hcs.2.1
theorem blk_ne_map {w : World} {g m N : Nat} {T : TypeId} {cs : List Value} {P : Program} {kt : TypeId} {R : Value → Option (DataW Unit × List MemPlace)} {D : DataW Unit} (h : Blk w g T cs) (k : w.ownsMap P kt R m N D) : g ≠ m := fun e => by
  obtain ⟨es, clock, hm, _⟩ := k
  rw [← e, show w.heap[g]? = _ from h] at hm
  cases hm
section
variable {P : Program} {w : World} {ops : Array Oper} {o : Oper} {a : Act} {Q : Exit → Act → World → Prop} {K : Act → World → Prop} {E : Prop}
theorem step_putD (hg : o.guard = none) (m x v : Operand) (t : TypeId) (hop : o.op = Op.mapUpdate t m x v) (kt e : TypeId) (Kd : Maps.Keyed P kt) (ht : P.underlying t = some (.map kt e)) (b n : Nat) (D : DataW Unit)
    (hm : a.eval m = .map (some b)) (hown : w.ownsMap P kt (plainElem P e) b n D) (hn : n < maxLen) (key val : Value) (kl : Lit) (d : DataW Unit) (hx : a.eval x = key) (hv : a.eval v = val) (hkey : keyOf P kt key = some kl) (hval : plainElem P e val = some (d, []))
    (hK : ∀ w', Hid (w'.ownsMap P kt (plainElem P e) b (n + 1) (D.put kl d)) → Hid (Spare (fun j => j = b) w w') → K (a.put o.dst undef) w') :
    if Region.wanted o (yielded ops a.tmps) = true then Oper.wp P o a w K Q else E := by
  have hw : Region.wanted o (yielded ops a.tmps) = true := by simp [Region.wanted, hg]
  rw [if_pos hw]
  obtain ⟨w', hrun, r1, r2⟩ := hown.store Kd ht hn hkey hval
  unfold Oper.wp
  simp [execOp, hop, hm, hx, hv, hrun, Result.andThen]
  exact hK w' r1 (Spare.of_turned r2)
theorem step_delD (hg : o.guard = none) (m x : Operand) (t kt : TypeId) (hop : o.op = Op.call { callee := Callee.builtin Builtin.delete, args := #[m, x], argTypes := #[t, kt] }) (e : TypeId) (Kd : Maps.Keyed P kt) (ht : P.underlying t = some (.map kt e)) (b n : Nat) (D : DataW Unit)
    (hm : a.eval m = .map (some b)) (hown : w.ownsMap P kt (plainElem P e) b n D) (key : Value) (kl : Lit) (hx : a.eval x = key) (hkey : keyOf P kt key = some kl)
    (hK : ∀ w', Hid (w'.ownsMap P kt (plainElem P e) b n (D.del kl)) → Hid (Spare (fun j => j = b) w w') → K (a.put o.dst (.tuple #[])) w') :
    if Region.wanted o (yielded ops a.tmps) = true then Oper.wp P o a w K Q else E := by
  have hw : Region.wanted o (yielded ops a.tmps) = true := by simp [Region.wanted, hg]
  rw [if_pos hw]
  obtain ⟨w', hrun, r1, r2⟩ := hown.drop Kd ht hkey o.type
  unfold Oper.wp
  simp [execOp, hop, resolve, invoke, builtin, hm, hx, hrun, Result.andThen]
  exact hK w' r1 (Spare.of_turned r2)
end
/-- what the directory is behind a turn of its names and its map -/
structure Turned15 (w : World) (base q m : Nat) (v : Value) (L' : List DItem) (w' : World) (v' : Value) (D' : DataW Unit) : Prop where
  d : PDr w' base q v' m D' L'
  a : Spare (pdrS q m v) w w'
  n : ∀ j, pdrS q m v' j → pdrS q m v j ∨ w.heap.size ≤ j
section
variable {w w3 w4 w5 w6 w7 : World} {base q m : Nat} {v v' : Value} {D D' : DataW Unit} {L L' : List DItem}
theorem PDr.turned (d : PDr w base q v m D L) (L3 : Below w.heap.size w w3) (O4 : OwnS txtCells 1 9 w4 base v' (dNm L')) (S4 : Spare (fun j => v.ownBlock = some j) w3 w4) (N4 : Wander w3 v v')
    (P5 : Spare (fun j => j = q) w4 w5) (B5 : Blk w5 q 48 [v', .map (some m)]) (L6 : Below w5.heap.size w5 w6) {N : Nat} (M7 : w7.ownsMap Tryd.prog 9 (plainElem Tryd.prog 3) m N D') (S7 : Spare (fun j => j = m) w6 w7)
    (hi : MapIs D' L') (ok : Dok L') (hl : L'.length ≤ 4096) (ht : ∀ x ∈ L', x.1.size ≤ 1048576) : Turned15 w base q m v L' w7 v' D' := by
  have d3 := d.below L3
  have hvq : v.ownBlock ≠ some q := own_ne_blk d3.row d3.blk (by decide)
  have hvm : v.ownBlock ≠ some m := own_ne_map d3.row d3.map
  have b4 := d3.blk.spare S4 hvq
  have m4 : w4.ownsMap Tryd.prog 9 (plainElem Tryd.prog 3) m L.length D := owns_same d3.map (S4.rest m d3.map.lt hvm)
  have hvq' : v'.ownBlock ≠ some q := own_ne_blk O4 b4 (by decide)
  have hvm' : v'.ownBlock ≠ some m := own_ne_map O4 m4
  have hqm : q ≠ m := blk_ne_map d.blk d.map
  have O5 := O4.sparS P5 fun i hi e => hvq' (by rw [hi, e])
  have O6 := O5.below L6
  have O7 := O6.sparS S7 fun i hi e => hvm' (by rw [hi, e])
  have B7 := (B5.over L6).spare S7 hqm
  have M7' := owns_tight M7
  rw [hi.size] at M7'
  refine ⟨⟨d.ge, d.gem, B7, O7, hi, M7', ok, hl, ht⟩, ?_, fun j hj => ?_⟩
  · have a1 := (Spare.of_over (pdrS q m v) L3).trans (S4.mono (S' := pdrS q m v) fun j _ h => .inr (.inr h)) fun j _ h => h
    have a2 := a1.trans (P5.mono (S' := pdrS q m v) fun j _ h => .inl h) fun j _ h => h
    have a3 := a2.trans (Spare.of_over (pdrS q m v) L6) fun j _ h => h
    exact a3.trans (S7.mono (S' := pdrS q m v) fun j _ h => .inr (.inl h)) fun j _ h => h
  · rcases hj with h | h | h
    · exact .inl (.inl h)
    · exact .inl (.inr (.inl h))
    · rcases N4 j h with h1 | h1
      · exact .inl (.inr (.inr h1))
      · exact .inr (Nat.le_trans L3.size h1)
end
def TPost15 (w : World) (base q m : Nat) (v : Value) (L' : List DItem) (r : Value) (e : Ending) (w' : World) : Prop := e = .returned r ∧ ∃ v' D', Turned15 w base q m v L' w' v' D'
set_option maxHeartbeats 8000000 in
theorem DPut_any (w : World) (base q : Nat) (v : Value) (m : Nat) (D : DataW Unit) (L : List DItem) (d : PDr w base q v m D L) (hb : base ≤ w.heap.size) (htb : TabsD base w) (s : ByteArray) (hs : s.size ≤ 1048576) (n : Int) (hn : I64D n) (hbad : dBad s = false) (hno : dHas L s = false) (hL : L.length < 4096) :
    Calls Tryd.prog 37 #[.pointer (some ⟨q, 0, none⟩), .string s, .int .i64 n] w (TPost15 w base q m v (dPut L s n) (.tuple #[])) := by
  obtain ⟨A, c, rfl⟩ := d.len
  have k0 := d.c0
  have k1 := d.c1
  have hvq : Hid ((Value.slice A L.length c).ownBlock ≠ some q) := own_ne_blk d.row d.blk (by decide)
  have hvm : Hid ((Value.slice A L.length c).ownBlock ≠ some m) := own_ne_map d.row d.map
  have hqm : q ≠ m := blk_ne_map d.blk d.map
  have BQ : Hid (Blk w q 48 [.slice A L.length c, .map (some m)]) := d.blk
  have HWF : Hid (plainElem Tryd.prog 3 (.int .i64 n) = some ((.lit (.int .i64 n) : DataW Unit), [])) := plainElem_int Tryd.underlying3 (WalkArith.wf_i64 hn)
  have CP : Hid (∀ w', Below w.heap.size w w' → Calls Tryd.prog 38 #[.pointer (some ⟨q, 0, none⟩), .string s] w' fun e w2 => e = .returned (.int .i64 (dPl L s : Nat)) ∧ Below w'.heap.size w' w2) := fun w' hb' => DPlace_any w' base q _ m D L (d.below hb') (Nat.le_trans hb hb'.size) (htb.next (hb'.mono hb)) s hs
  have CI0 : Hid (∀ w3, Below w.heap.size w w3 → ∀ gv, w.heap.size ≤ gv → Blk w3 gv 9 [.string s] → Calls Tryd.prog 57 #[.slice A L.length c, .int .i64 (dPl L s : Nat), .slice (some ⟨gv, 0, none⟩) 1 1] w3 (PutPostS w3 base (.slice A L.length c) (dNm L) (dPl L s) (dPl L s) s)) := fun w3 L3 gv hgv V3 =>
    SInsert_any w3 base A L.length c (dPl L s) gv (dNm L) s (d.below L3).row dPl_le dNm_len (by omega) (Nat.le_trans hb L3.size) V3 fun e => by
      have := d.row.lt e
      omega
  have MP0 : Hid (∀ w3 w4 w5 w6, Below w.heap.size w w3 → Spare (fun j => (Value.slice A L.length c).ownBlock = some j) w3 w4 → Spare (fun j => j = q) w4 w5 → Below w5.heap.size w5 w6 → w6.ownsMap Tryd.prog 9 (plainElem Tryd.prog 3) m L.length D) := fun w3 w4 w5 w6 a1 a2 a3 a4 => by
    have h3 := (d.below a1).map
    have h4 := owns_same h3 (a2.rest m h3.lt hvm.out)
    have h5 := owns_same h4 (a3.rest m h4.lt fun e => hqm e.symm)
    exact owns_same h5 (a4.block m h5.lt)
  have FIN : Hid (∀ w3 w4 w5 w6 w7 v', Below w.heap.size w w3 → OwnS txtCells 1 9 w4 base v' ((dNm L).take (dPl L s) ++ [s] ++ (dNm L).drop (dPl L s)) → Spare (fun j => (Value.slice A L.length c).ownBlock = some j) w3 w4 → Wander w3 (.slice A L.length c) v' → Spare (fun j => j = q) w4 w5 → Blk w5 q 48 [v', .map (some m)] → Below w5.heap.size w5 w6 →
      w7.ownsMap Tryd.prog 9 (plainElem Tryd.prog 3) m (L.length + 1) (D.put (foldK s) (.lit (.int .i64 n))) → Spare (fun j => j = m) w6 w7 → TPost15 w base q m (.slice A L.length c) (dPut L s n) (.tuple #[]) (.returned (.tuple #[])) w7) := fun w3 w4 w5 w6 w7 v' a1 a2 a3 a4 a5 a6 a7 a8 a9 => by
    rw [← dNm_put (n := n) hno] at a2
    exact ⟨rfl, v', _, d.turned a1 a2 a3 a4 a5 a6 a7 a8 a9 (d.is.put hno) (d.ok.put hbad hno) (by rw [dPut_len]; omega) fun x hx => by
      rcases dPut_mem.1 hx with rfl | hx
      · exact hs
      · exact d.text x hx⟩
  have TB : Hid (∀ w3 w4 w5, Below w.heap.size w w3 → Spare (fun j => (Value.slice A L.length c).ownBlock = some j) w3 w4 → Spare (fun j => j = q) w4 w5 → base ≤ w5.heap.size ∧ TabsD base w5) := fun w3 w4 w5 a1 a2 a3 => by
    have b1 : Below base w w3 := a1.mono hb
    have s3 := Nat.le_trans hb a1.size
    have b2 : Below base w3 w4 := a2.below (fun j hj => (d.row.block hj).1) s3
    have s4 := Nat.le_trans s3 a2.size
    have b3 : Below base w4 w5 := a3.below (fun j hj => by rw [hj]; exact d.ge) s4
    exact ⟨Nat.le_trans s4 a3.size, htb.next ((b1.trans b2).trans b3)⟩
  have hN : L.length < maxLen := by unfold maxLen; omega
  obtain ⟨l, hl⟩ : ∃ l, l = L.length := ⟨_, rfl⟩
  obtain ⟨k, hk⟩ : ∃ k, k = dPl L s := ⟨_, rfl⟩
  obtain ⟨X, hX⟩ : ∃ X, X = dNm L := ⟨_, rfl⟩
  obtain ⟨L2, hL2⟩ : ∃ L2, L2 = dPut L s n := ⟨_, rfl⟩
  unfold PutPostS at CI0
  rw [← hL2] at FIN ⊢
  rw [← hX, ← hk] at CI0 FIN
  rw [← hk] at CP
  rw [← hl] at k0 CI0 BQ hvq hvm MP0 FIN TB hN ⊢
  clear hL2 hX hk hl d hbad hno htb hb hL hn
  go_enter Tryd.func37, Tryd.ntmps37
  go_upto_region 0 with fail
  refine wp_region_heldK 12 (fun w' => w'.cell? ⟨q, 0, none⟩ = some (.slice A l c)) (by kernel_rfl) ?_
  change wpAnyK _ _ _ _ _ _ _ _ _ w.drew
  have Sr0 : Hid (w.drew.cell? ⟨q, 0, none⟩ = some (.slice A l c)) := k0
  have br0 : Hid (True) := trivial
  have L0 : Hid (Below w.heap.size w w.drew) := (Below.refl _ _).drew
  refine wpAnyK_take (i := 0) (v := _) rfl (by kernel_rfl) (by kernel_rfl) (by kernel_rfl) (fun _ _ _ h => h) rfl (by kernel_rfl) (by kernel_rfl) (by decide) (yieldsIf_move (by kernel_rfl) (.tmp 0) rfl (.pointer (some ⟨q, 0, none⟩)) (by kernel_rfl)) Sr0.out ?_
  refine wpAnyK_take (i := 1) (v := _) rfl (by kernel_rfl) (by kernel_rfl) (by kernel_rfl) (fun _ _ _ h => h) rfl (by kernel_rfl) (by kernel_rfl) (by decide) (yieldsIf_move (by kernel_rfl) (.tmp 0) rfl (.pointer (some ⟨q, 0, none⟩)) (by kernel_rfl)) Sr0.out ?_
  refine wpAnyK_take (i := 2) (v := _) rfl (by kernel_rfl) (by kernel_rfl) (by kernel_rfl) (fun _ _ _ h => h) rfl (by kernel_rfl) (by kernel_rfl) (by decide) (yieldsIf_nil (by kernel_rfl) (.tmp 7) rfl ⟨q, 0, none⟩ (by kernel_rfl)) Sr0.out ?_
  refine wpAnyK_take (i := 3) (v := _) rfl (by kernel_rfl) (by kernel_rfl) (by kernel_rfl) (fun _ _ _ h => h) rfl (by kernel_rfl) (by kernel_rfl) (by decide) (yieldsIf_fld (by kernel_rfl) _ (.tmp 8) 0 rfl (.pointer (some ⟨q, 0, none⟩)) (.pointer (some ⟨q, 0, none⟩)) (by kernel_rfl) (fun w => by go_simp)) Sr0.out ?_
  refine wpAnyK_take (i := 4) (v := _) rfl (by kernel_rfl) (by kernel_rfl) (by kernel_rfl) (fun _ _ _ h => h) rfl (by kernel_rfl) (by kernel_rfl) (by decide) (yieldsIf_load_one (by kernel_rfl) _ (.tmp 9) rfl q (0) (by kernel_rfl) (.slice A l c) (fun _ h => h) _ Tryd.underlying29 rfl) Sr0.out ?_
  refine wpAnyK_take (i := 5) (v := _) rfl (by kernel_rfl) (by kernel_rfl) (by kernel_rfl) (fun _ _ _ h => h) rfl (by kernel_rfl) (by kernel_rfl) (by decide) (yieldsIf_move (by kernel_rfl) (.tmp 0) rfl (.pointer (some ⟨q, 0, none⟩)) (by kernel_rfl)) Sr0.out ?_
  refine wpAnyK_take (i := 6) (v := _) rfl (by kernel_rfl) (by kernel_rfl) (by kernel_rfl) (fun _ _ _ h => h) rfl (by kernel_rfl) (by kernel_rfl) (by decide) (yieldsIf_move (by kernel_rfl) (.tmp 1) rfl (.string s) (by kernel_rfl)) Sr0.out ?_
  refine wpAnyK_take (i := 8) (v := _) rfl (by kernel_rfl) (by kernel_rfl) (by kernel_rfl) (fun _ _ _ h => h) rfl (by kernel_rfl) (by kernel_rfl) (by decide) (yieldsIf_move (by kernel_rfl) (.tmp 1) rfl (.string s) (by kernel_rfl)) Sr0.out ?_
  refine wpAnyK_one 7 _ (by kernel_rfl) rfl fun K hK => ?_
  go_simp
  refine (CP.out _ L0.out).mono ?_
  rintro e vr1 ⟨rfl, l1⟩
  have Sr1 : Hid (vr1.cell? ⟨q, 0, none⟩ = some (.slice A l c)) := (l1.cell (lt_of_cellD Sr0.out)).trans Sr0.out
  have br1 : Hid (True) := trivial
  have L1 := Lib.hid (L0.out.trans (l1.mono L0.out.size))
  refine hK _ _ (fun _ => Sr1.out) ?_
  clear hK K
  clear l1
  refine wpAnyK_one 9 _ (by kernel_rfl) rfl fun K hK => ?_
  go_simp
  refine (SClone_any s _ hs).mono ?_
  rintro e vr2 ⟨rfl, l1⟩
  have Sr2 : Hid (vr2.cell? ⟨q, 0, none⟩ = some (.slice A l c)) := (l1.cell (lt_of_cellD Sr1.out)).trans Sr1.out
  have br2 : Hid (True) := trivial
  have L2 := Lib.hid (L1.out.trans (l1.mono L1.out.size))
  refine hK _ _ (fun _ => Sr2.out) ?_
  clear hK K
  clear l1
  refine wpAnyK_one 10 _ (by kernel_rfl) rfl fun K hK => ?_
  refine step_slice_blk rfl _ _ _ _ rfl Tryd.underlying29 [.string s] (by kernel_rfl) ?_
  intro gv w3 hgv hgv2 V3 l3
  have L3 := Lib.hid (L2.out.trans (l3.out.mono L2.out.size))
  have Sr3 : Hid (w3.cell? ⟨q, 0, none⟩ = some (.slice A l c)) := (l3.out.cell (lt_of_cellD Sr2.out)).trans Sr2.out
  have CI := Lib.hid (CI0.out w3 L3.out gv (Nat.le_trans L2.out.size hgv) V3.out)
  clear l3
  refine hK _ _ (fun _ => Sr3.out) ?_
  clear hK K
  refine wpAnyK_one 11 _ (by kernel_rfl) rfl fun K hK => ?_
  go_simp
  refine (CI.out).mono ?_
  rintro e vr4 ⟨v', rfl, o4, s4, n4⟩
  have Sr4 : Hid (vr4.cell? ⟨q, 0, none⟩ = some (.slice A l c)) := (spare_cellD s4 hvq.out (lt_of_cellD Sr3.out)).trans Sr3.out
  have br4 : Hid (True) := trivial
  have O4 := Lib.hid o4
  have S4 := Lib.hid s4
  have N4 := Lib.hid n4
  clear o4 s4 n4
  refine hK _ _ (fun _ => Sr4.out) ?_
  clear hK K
  refine wpAnyK_one 12 _ (by kernel_rfl) rfl fun K hK => ?_
  go_simp
  refine hK _ _ (fun h => Bool.noConfusion (show true = false from h)) ?_
  clear hK K
  refine wpAnyK_one 13 _ (by kernel_rfl) rfl fun K hK => ?_
  go_simp
  refine hK _ _ (fun h => Bool.noConfusion (show true = false from h)) ?_
  clear hK K
  refine wpAnyK_frame fun a1 ha1 => ?_
  have e1_19 : a1.eval (.tmp 19) = .pointer (some ⟨q, 0, none⟩) := by rw [ha1]; kernel_rfl
  have e1_17 : a1.eval (.tmp 17) = v' := by rw [ha1]; kernel_rfl
  refine wpAnyK_one 14 _ (by kernel_rfl) rfl fun K hK => ?_
  have BQ4 : Hid (Blk vr4 q 48 [.slice A l c, .map (some m)]) := (BQ.out.below L3.out BQ.out.lt).spare S4.out hvq.out
  refine step_store_fld (by kernel_rfl) 29 (.tmp 19) (.tmp 17) (by kernel_rfl) q 0 e1_19 48 [.slice A l c, .map (some m)] v' e1_17 BQ4 (show 0 < 2 by omega) (by kernel_rfl) O4.out.oneCD ?_
  intro w5 BQ5 P5 hq5
  refine hK _ _ (fun h => Bool.noConfusion (show true = false from h)) ?_
  clear hK K
  rw [ha1]
  refine wpAnyK_done (by kernel_rfl) ?_ _
  have k1 : w5.cell? ⟨q, 1, none⟩ = some (.map (some m)) := BQ5.out.cell 1
  have q5 : Hid (Spare (fun j => j = q) vr4 w5) := Spare.of_only P5.out
  obtain ⟨hb5, tb5⟩ := TB.out w3 vr4 w5 L3.out S4.out q5.out
  have TB5 := Lib.hid tb5
  have MP5 : Hid (∀ w6, Below w5.heap.size w5 w6 → w6.ownsMap Tryd.prog 9 (plainElem Tryd.prog 3) m l D) := fun w6 h => MP0.out w3 vr4 w5 w6 L3.out S4.out q5.out h
  clear tb5
  go_upto_region 1 with fail
  refine wp_region_held (S := fun w' => w'.cell? ⟨q, 1, none⟩ = some (.map (some m))) (by kernel_rfl) ?_
  change wpAnyH _ _ _ _ _ _ _ _ w5.drew
  have Ss0 : Hid (w5.drew.cell? ⟨q, 1, none⟩ = some (.map (some m))) := k1
  have bs0 : Hid (Below w5.heap.size w5 w5.drew) := (Below.refl _ _).drew
  refine wpAnyH_take (i := 0) (v := _) rfl (by kernel_rfl) (by kernel_rfl) (by kernel_rfl) (fun _ _ _ h => h) (yieldsIf_move (by kernel_rfl) (.tmp 0) rfl (.pointer (some ⟨q, 0, none⟩)) (by kernel_rfl)) Ss0.out ?_
  refine wpAnyH_take (i := 1) (v := _) rfl (by kernel_rfl) (by kernel_rfl) (by kernel_rfl) (fun _ _ _ h => h) (yieldsIf_nil (by kernel_rfl) (.tmp 20) rfl ⟨q, 0, none⟩ (by kernel_rfl)) Ss0.out ?_
  refine wpAnyH_take (i := 2) (v := _) rfl (by kernel_rfl) (by kernel_rfl) (by kernel_rfl) (fun _ _ _ h => h) (yieldsIf_fld (by kernel_rfl) _ (.tmp 21) 1 rfl (.pointer (some ⟨q, 0, none⟩)) (.pointer (some ⟨q, 1, none⟩)) (by kernel_rfl) (fun w => by go_simp)) Ss0.out ?_
  refine wpAnyH_take (i := 3) (v := _) rfl (by kernel_rfl) (by kernel_rfl) (by kernel_rfl) (fun _ _ _ h => h) (yieldsIf_load_one (by kernel_rfl) _ (.tmp 22) rfl q (1) (by kernel_rfl) (.map (some m)) (fun _ h => h) _ Tryd.underlying46 rfl) Ss0.out ?_
  refine wpAnyH_take (i := 4) (v := _) rfl (by kernel_rfl) (by kernel_rfl) (by kernel_rfl) (fun _ _ _ h => h) (yieldsIf_move (by kernel_rfl) (.tmp 1) rfl (.string s) (by kernel_rfl)) Ss0.out ?_
  refine wpAnyH_take (i := 6) (v := _) rfl (by kernel_rfl) (by kernel_rfl) (by kernel_rfl) (fun _ _ _ h => h) (yieldsIf_move (by kernel_rfl) (.tmp 2) rfl (.int .i64 n) (by kernel_rfl)) Ss0.out ?_
  refine wpAnyH_one 5 _ (by kernel_rfl) rfl fun K hK => ?_
  go_simp
  refine (Fold1_any s _ hs (TB5.out.at bs0.out hb5)).mono ?_
  rintro e vs1 ⟨rfl, l1⟩
  have Ss1 : Hid (vs1.cell? ⟨q, 1, none⟩ = some (.map (some m))) := (l1.cell (lt_of_cellD Ss0.out)).trans Ss0.out
  have bs1 : Hid (Below w5.heap.size w5 vs1) := Below.trans bs0.out (l1.mono (Below.size bs0.out))
  refine hK _ _ Ss1.out ?_
  clear hK K l1
  refine wpAnyH_one 7 _ (by kernel_rfl) rfl fun K hK => ?_
  refine step_putD (by kernel_rfl) (.tmp 23) (.tmp 25) (.tmp 26) 46 (by kernel_rfl) 9 3 dir_keyed Tryd.underlying46 m l D (by kernel_rfl) (MP5.out _ bs1.out) hN (.string (foldT s)) (.int .i64 n) (foldK s) (.lit (.int .i64 n)) (by kernel_rfl) (by kernel_rfl) (dir_key hs) HWF.out ?_
  intro w7 M7 S7
  have Ss2 : Hid (w7.cell? ⟨q, 1, none⟩ = some (.map (some m))) := (spare_cellD S7.out (fun e => hqm e) (lt_of_cellD Ss1.out)).trans Ss1.out
  refine hK _ _ Ss2.out ?_
  clear hK K
  refine wpAnyH_done (by kernel_rfl) ?_ _
  go_wp2_with fail
  go_end0
  exact FIN.out w3 vr4 w5 _ w7 v' L3.out O4.out S4.out N4.out q5.out BQ5.out bs1.out M7.out S7.out
set_option maxHeartbeats 8000000 in
theorem DDrop_any (w : World) (base q : Nat) (v : Value) (m : Nat) (D : DataW Unit) (L : List DItem) (d : PDr w base q v m D L) (hb : base ≤ w.heap.size) (htb : TabsD base w) (s : ByteArray) (hs : s.size ≤ 1048576) (he : dFindE L s = 0) :
    Calls Tryd.prog 40 #[.pointer (some ⟨q, 0, none⟩), .string s] w (TPost15 w base q m v (dRem L s) (.tuple #[])) := by
  have hlt := dPl_lt d.ok he
  have hsm := d.small
  obtain ⟨l, hl⟩ : ∃ l, L.length = l + 1 := ⟨L.length - 1, by omega⟩
  obtain ⟨g, c, rfl⟩ := d.row.form (by rw [dNm_len]; omega)
  have hdl : (dNm L).length = l + 1 := by rw [dNm_len, hl]
  rw [hdl] at d ⊢
  have k0 := d.c0
  have k1 := d.c1
  have hgq : Hid (¬ q = g) := fun e => own_ne_blk d.row d.blk (by decide) (by rw [e]; rfl)
  have hgm : Hid (¬ m = g) := fun e => own_ne_map d.row d.map (by rw [e]; rfl)
  have hqm : q ≠ m := blk_ne_map d.blk d.map
  have BQ : Hid (Blk w q 48 [.slice (some ⟨g, 0, none⟩) (l + 1) c, .map (some m)]) := d.blk
  have CP : Hid (∀ w', Below w.heap.size w w' → Calls Tryd.prog 38 #[.pointer (some ⟨q, 0, none⟩), .string s] w' fun e w2 => e = .returned (.int .i64 (dPl L s : Nat)) ∧ Below w'.heap.size w' w2) := fun w' hb' => DPlace_any w' base q _ m D L (d.below hb') (Nat.le_trans hb hb'.size) (htb.next (hb'.mono hb)) s hs
  have CD : Hid (∀ w3, Below w.heap.size w w3 → Calls Tryd.prog 60 #[.slice (some ⟨g, 0, none⟩) (l + 1) c, .int .i64 (dPl L s : Nat), .int .i64 ((dPl L s : Int) + 1)] w3 fun e w' =>
      e = .returned (.slice (some ⟨g, 0, none⟩) l c) ∧ OwnS txtCells 1 9 w' base (.slice (some ⟨g, 0, none⟩) l c) ((dNm L).take (dPl L s) ++ (dNm L).drop (dPl L s + 1)) ∧ Spare (fun j => j = g) w3 w') := fun w3 L3 =>
    SDelete_any w3 base g (l + 1) c (dPl L s) l (dNm L) (d.below L3).row rfl (by omega) (by omega)
  have MP0 : Hid (∀ w3 w4 w5 w6, Below w.heap.size w w3 → Spare (fun j => j = g) w3 w4 → Spare (fun j => j = q) w4 w5 → Below w5.heap.size w5 w6 → w6.ownsMap Tryd.prog 9 (plainElem Tryd.prog 3) m (l + 1) D) := fun w3 w4 w5 w6 a1 a2 a3 a4 => by
    have h3 := (d.below a1).map
    rw [hl] at h3
    have h4 := owns_same h3 (a2.rest m h3.lt hgm.out)
    have h5 := owns_same h4 (a3.rest m h4.lt fun e => hqm e.symm)
    exact owns_same h5 (a4.block m h5.lt)
  have FIN : Hid (∀ w3 w4 w5 w6 w7, Below w.heap.size w w3 → OwnS txtCells 1 9 w4 base (.slice (some ⟨g, 0, none⟩) l c) ((dNm L).take (dPl L s) ++ (dNm L).drop (dPl L s + 1)) → Spare (fun j => j = g) w3 w4 → Spare (fun j => j = q) w4 w5 → Blk w5 q 48 [.slice (some ⟨g, 0, none⟩) l c, .map (some m)] → Below w5.heap.size w5 w6 →
      w7.ownsMap Tryd.prog 9 (plainElem Tryd.prog 3) m (l + 1) (D.del (foldK s)) → Spare (fun j => j = m) w6 w7 → TPost15 w base q m (.slice (some ⟨g, 0, none⟩) (l + 1) c) (dRem L s) (.tuple #[]) (.returned (.tuple #[])) w7) := fun w3 w4 w5 w6 w7 a1 a2 a3 a5 a6 a7 a8 a9 => by
    rw [← dNm_rem d.ok he] at a2
    exact ⟨rfl, _, _, d.turned a1 a2 (a3.mono fun j _ h => by rw [h]; rfl) (fun j h => .inl h) a5 a6 a7 a8 a9 (d.is.del d.ok he) d.ok.rem (by have := dRem_len he; omega) fun x hx => d.text x ((dRem_mem d.ok).1 hx).1⟩
  have TB : Hid (∀ w3 w4 w5, Below w.heap.size w w3 → Spare (fun j => j = g) w3 w4 → Spare (fun j => j = q) w4 w5 → base ≤ w5.heap.size ∧ TabsD base w5) := fun w3 w4 w5 a1 a2 a3 => by
    have b1 : Below base w w3 := a1.mono hb
    have s3 := Nat.le_trans hb a1.size
    have hgb : base ≤ g := (d.row.block rfl).1
    have b2 : Below base w3 w4 := a2.below (fun j hj => by rw [hj]; exact hgb) s3
    have s4 := Nat.le_trans s3 a2.size
    have b3 : Below base w4 w5 := a3.below (fun j hj => by rw [hj]; exact d.ge) s4
    exact ⟨Nat.le_trans s4 a3.size, htb.next ((b1.trans b2).trans b3)⟩
  obtain ⟨i, hi⟩ : ∃ i, i = dPl L s := ⟨_, rfl⟩
  obtain ⟨X, hX⟩ : ∃ X, X = dNm L := ⟨_, rfl⟩
  obtain ⟨L2, hL2⟩ : ∃ L2, L2 = dRem L s := ⟨_, rfl⟩
  rw [← hL2] at FIN ⊢
  rw [← hX, ← hi] at CD FIN
  rw [← hi] at CP hlt
  have hadd : IntKind.i64.wrap ((i : Int) + 1) = (i : Int) + 1 := by rw [IntKind.wrap_i64]; omega
  clear hL2 hX hi hl hdl d htb hb he
  go_enter Tryd.func40, Tryd.ntmps40
  go_wp2_with fail
  refine (CP.out _ (Below.refl _ _)).mono ?_
  rintro e w3 ⟨rfl, l3⟩
  have L3 := Lib.hid l3
  have k03 : w3.cell? ⟨q, 0, none⟩ = some (.slice (some ⟨g, 0, none⟩) (l + 1) c) := (L3.out.cell (lt_of_cellD k0)).trans k0
  clear l3 CP k0
  go_wp2_with fail
  refine (CD.out _ L3.out).mono ?_
  rintro e w4 ⟨rfl, o4, s4⟩
  have O4 := Lib.hid o4
  have S4 := Lib.hid s4
  have BQ4 : Hid (Blk w4 q 48 [.slice (some ⟨g, 0, none⟩) (l + 1) c, .map (some m)]) := (BQ.out.below L3.out BQ.out.lt).spare S4.out hgq.out
  clear o4 s4 CD k03
  go_upto_region 2 with (first
    | ((with_reducible show wpList _ _ _ (⟨none, .store _ _ _, _, _, _, _⟩ :: _) _ _); go_loud (refine wpList_store_fld rfl 29 (.tmp 18) (.tmp 16) rfl q 0 rfl 48 [.slice (some ⟨g, 0, none⟩) (l + 1) c, .map (some m)] (.slice (some ⟨g, 0, none⟩) l c) rfl BQ4 (show 0 < 2 by omega) (by kernel_rfl) rfl ?_); intro w5 BQ5 P5 hq5)
    | fail)
  have k1 : w5.cell? ⟨q, 1, none⟩ = some (.map (some m)) := BQ5.out.cell 1
  have q5 : Hid (Spare (fun j => j = q) w4 w5) := Spare.of_only P5.out
  obtain ⟨hb5, tb5⟩ := TB.out w3 w4 w5 L3.out S4.out q5.out
  have TB5 := Lib.hid tb5
  have MP5 : Hid (∀ w6, Below w5.heap.size w5 w6 → w6.ownsMap Tryd.prog 9 (plainElem Tryd.prog 3) m (l + 1) D) := fun w6 h => MP0.out w3 w4 w5 w6 L3.out S4.out q5.out h
  clear tb5
  refine wp_region_held (S := fun w' => w'.cell? ⟨q, 1, none⟩ = some (.map (some m))) (by kernel_rfl) ?_
  change wpAnyH _ _ _ _ _ _ _ _ w5.drew
  have Ss0 : Hid (w5.drew.cell? ⟨q, 1, none⟩ = some (.map (some m))) := k1
  have bs0 : Hid (Below w5.heap.size w5 w5.drew) := (Below.refl _ _).drew
  refine wpAnyH_take (i := 0) (v := _) rfl (by kernel_rfl) (by kernel_rfl) (by kernel_rfl) (fun _ _ _ h => h) (yieldsIf_move (by kernel_rfl) (.tmp 0) rfl (.pointer (some ⟨q, 0, none⟩)) (by kernel_rfl)) Ss0.out ?_
  refine wpAnyH_take (i := 1) (v := _) rfl (by kernel_rfl) (by kernel_rfl) (by kernel_rfl) (fun _ _ _ h => h) (yieldsIf_nil (by kernel_rfl) (.tmp 19) rfl ⟨q, 0, none⟩ (by kernel_rfl)) Ss0.out ?_
  refine wpAnyH_take (i := 2) (v := _) rfl (by kernel_rfl) (by kernel_rfl) (by kernel_rfl) (fun _ _ _ h => h) (yieldsIf_fld (by kernel_rfl) _ (.tmp 20) 1 rfl (.pointer (some ⟨q, 0, none⟩)) (.pointer (some ⟨q, 1, none⟩)) (by kernel_rfl) (fun w => by go_simp)) Ss0.out ?_
  refine wpAnyH_take (i := 3) (v := _) rfl (by kernel_rfl) (by kernel_rfl) (by kernel_rfl) (fun _ _ _ h => h) (yieldsIf_load_one (by kernel_rfl) _ (.tmp 21) rfl q (1) (by kernel_rfl) (.map (some m)) (fun _ h => h) _ Tryd.underlying46 rfl) Ss0.out ?_
  refine wpAnyH_take (i := 4) (v := _) rfl (by kernel_rfl) (by kernel_rfl) (by kernel_rfl) (fun _ _ _ h => h) (yieldsIf_move (by kernel_rfl) (.tmp 1) rfl (.string s) (by kernel_rfl)) Ss0.out ?_
  refine wpAnyH_one 5 _ (by kernel_rfl) rfl fun K hK => ?_
  go_simp
  refine (Fold1_any s _ hs (TB5.out.at bs0.out hb5)).mono ?_
  rintro e vs1 ⟨rfl, l1⟩
  have Ss1 : Hid (vs1.cell? ⟨q, 1, none⟩ = some (.map (some m))) := (l1.cell (lt_of_cellD Ss0.out)).trans Ss0.out
  have bs1 : Hid (Below w5.heap.size w5 vs1) := Below.trans bs0.out (l1.mono (Below.size bs0.out))
  refine hK _ _ Ss1.out ?_
  clear hK K l1
  refine wpAnyH_one 6 _ (by kernel_rfl) rfl fun K hK => ?_
  refine step_delD (by kernel_rfl) (.tmp 22) (.tmp 24) 46 9 (by kernel_rfl) 3 dir_keyed Tryd.underlying46 m (l + 1) D (by kernel_rfl) (MP5.out _ bs1.out) (.string (foldT s)) (foldK s) (by kernel_rfl) (dir_key hs) ?_
  intro w7 M7 S7
  have Ss2 : Hid (w7.cell? ⟨q, 1, none⟩ = some (.map (some m))) := (spare_cellD S7.out (fun e => hqm e) (lt_of_cellD Ss1.out)).trans Ss1.out
  refine hK _ _ Ss2.out ?_
  clear hK K
  refine wpAnyH_done (by kernel_rfl) ?_ _
  go_wp2_with fail
  go_end0
  exact FIN.out w3 w4 w5 _ w7 L3.out O4.out S4.out q5.out BQ5.out bs1.out M7.out S7.out
end Go.Proofs.YtangkcedgelegaaDoor

namespace Go.Proofs.YtangkcedgelegaaDoor
set_option linter.all false
set_option maxRecDepth 100000
open Go.RowKit
set_option linter.unusedVariables false
set_option maxHeartbeats 4000000 in
theorem DGlobs_any (w : World) (base q : Nat) (v : Value) (m : Nat) (D : DataW Unit) (L : List DItem) (d : PDr w base q v m D L) (hb : base ≤ w.heap.size) (htb : TabsD base w) (p : ByteArray) (hp : p.size ≤ 1048576) :
    Calls Tryd.prog 26 #[.pointer (some ⟨q, 0, none⟩), .string p] w fun e w' => e = .returned (.int .i64 (dGlobE L p)) ∧ Below w.heap.size w w' := by
  have hsm := d.small
  have hG : dGlobE L p = if patErr p.data.toList [] ≠ 0 then patErr p.data.toList [] else dPatE L p := rfl
  have C1 : Hid (∀ w', Below w.heap.size w w' → Calls Tryd.prog 45 #[.string p, .string ⟨#[]⟩] w' (FitsPost w' p.data.toList [])) := fun w' h => Fits_any p ⟨#[]⟩ w' (by omega) (by decide) (htb.at h hb)
  have C2 : Hid (∀ (x : ByteArray) w', x.size ≤ 1048576 → Below w.heap.size w w' → Calls Tryd.prog 45 #[.string ⟨#[]⟩, .string x] w' (FitsPost w' [] x.data.toList)) := fun x w' hx h => Fits_any ⟨#[]⟩ x w' (by decide) (by omega) (htb.at h hb)
  unfold FitsPost at C1 C2
  obtain ⟨z1, hz1⟩ : ∃ z, z = fitsOf p.data.toList [] := ⟨_, rfl⟩
  obtain ⟨e1, he1⟩ : ∃ e, e = patErr p.data.toList [] := ⟨_, rfl⟩
  rw [← hz1, ← he1] at C1
  rw [← he1] at hG
  by_cases h1 : e1 = 0
  · have hp0 : Hid (patErr p.data.toList [] = 0) := he1.symm.trans h1
    rw [if_neg (fun q => q h1)] at hG
    have HG := Lib.hid hG
    rw [h1] at C1
    clear hG he1 hz1 h1
    obtain ⟨A, c, rfl⟩ := d.len
    have k0 : w.cell? ⟨q, 0, none⟩ = some (.slice A L.length c) := d.c0
    have D0 := Lib.hid d
    obtain ⟨n, hn⟩ : ∃ n, n = L.length := ⟨_, rfl⟩
    rw [← hn] at k0 hsm
    have HN := Lib.hid hn
    clear d hn
    go_enter Tryd.func26, Tryd.ntmps26
    go_wp2_with fail
    refine (C1.out w (Below.refl _ _)).mono ?_
    rintro e w1 ⟨rfl, l1⟩
    have L1 := Lib.hid l1
    have k1 : w1.cell? ⟨q, 0, none⟩ = some (.slice A n c) := (L1.out.cell (lt_of_cellD k0)).trans k0
    clear l1 C1
    go_wp2_with fail
    go_loopw [24] (fun I wr => ∃ i : Nat, i ≤ n ∧ I = .int .i64 (i : Nat) ∧ Hid (∀ j (hj : j < L.length), j < i → patErr p.data.toList L[j].1.data.toList = 0) ∧ Hid (Below w.heap.size w wr)) (fun I _ => n - (intOf I).toNat)
    case atStart => exact ⟨0, Nat.zero_le _, rfl, (fun j _ h => absurd h (Nat.not_lt_zero _)), L1.out⟩
    case round =>
      obtain ⟨i, hi, rfl, NO, LR⟩ := hrel
      by_cases hlt : i < n
      · have hil : i < L.length := by have := HN.out; omega
        obtain ⟨g, c', e, hnc, hcm, k4⟩ := D0.out.at hil
        injection e with e1 e2 e3
        subst e1 e3
        have k4' : wr.cell? ⟨g, i, none⟩ = some (.string L[i].1) := (LR.out.cell (lt_of_cellD k4)).trans k4
        have CF := Lib.hid (C2.out L[i].1 wr (D0.out.text _ (List.getElem_mem hil)) LR.out)
        have hpe : patErr p.data.toList L[i].1.data.toList = patErr [] L[i].1.data.toList := patErr_any hp0.out _
        obtain ⟨z, hz⟩ : ∃ z, z = fitsOf [] L[i].1.data.toList := ⟨_, rfl⟩
        obtain ⟨er, her⟩ : ∃ e, e = patErr [] L[i].1.data.toList := ⟨_, rfl⟩
        rw [← hz, ← her] at CF
        rw [← her] at hpe
        have HPE := Lib.hid hpe
        obtain ⟨x, hx⟩ : ∃ x, x = L[i].1 := ⟨_, rfl⟩
        rw [← hx] at k4' CF
        clear hz her hpe k4 e2 hx
        by_cases h0 : er = 0
        · go_wp2_with fail
          refine CF.out.mono ?_
          rintro e w2 ⟨rfl, l2⟩
          have L2 := Lib.hid (LR.out.trans (l2.mono LR.out.size))
          clear l2 CF
          have HPE0 : Hid (patErr p.data.toList L[i].1.data.toList = 0) := HPE.out.trans h0
          clear HPE
          subst h0
          go_wp2_with fail
          go_roundw
          case rel => exact ⟨i + 1, by omega, by go_num, (fun j hj hji => by
            rcases Nat.lt_or_ge j i with h | h
            · exact NO.out j hj h
            · obtain rfl : j = i := by omega
              exact HPE0.out), L2.out⟩
          case measure => simp [intOf]; omega
        · have HR : Hid (dGlobE L p = er) := HG.out.trans ((dPatN_at hil (fun j hj hji => NO.out j hj hji) (by rw [HPE.out]; exact h0)).trans HPE.out)
          go_wp2_with fail
          refine CF.out.mono ?_
          rintro e w2 ⟨rfl, l2⟩
          have L2 := Lib.hid (LR.out.trans (l2.mono LR.out.size))
          clear l2 CF
          go_wp2_with fail
          go_ret
          exact ⟨by rw [HR.out]; rfl, L2.out⟩
      · obtain rfl : i = n := by omega
        have HR : Hid (dGlobE L p = 0) := HG.out.trans (dPatN_none fun j hj => NO.out j hj (by have := HN.out; omega))
        go_wp2_with fail
        go_ret
        exact ⟨by rw [HR.out]; rfl, LR.out⟩
  · rw [if_pos h1] at hG
    rw [hG]
    clear hG d htb he1 hz1
    go_enter Tryd.func26, Tryd.ntmps26
    go_wp2_with fail
    refine (C1.out w (Below.refl _ _)).mono ?_
    rintro e w1 ⟨rfl, l1⟩
    have L1 := Lib.hid l1
    clear l1 C1
    go_wp2_with fail
    go_ret
    exact ⟨rfl, L1.out⟩
theorem DFitting_any (w : World) (q : Nat) (p a : ByteArray) :
    Calls Tryd.prog 28 #[.pointer (some ⟨q, 0, none⟩), .string p, .string a] w fun e w' => ∃ pd pp pa, e = .returned (.func (.func 47) #[] #[.pointer (some ⟨pd, 0, none⟩), .pointer (some ⟨pa, 0, none⟩), .pointer (some ⟨pp, 0, none⟩)]) ∧
      w.heap.size ≤ pd ∧ w.heap.size ≤ pp ∧ w.heap.size ≤ pa ∧ w'.cell? ⟨pd, 0, none⟩ = some (.pointer (some ⟨q, 0, none⟩)) ∧ w'.cell? ⟨pp, 0, none⟩ = some (.string p) ∧ w'.cell? ⟨pa, 0, none⟩ = some (.string a) ∧ Below w.heap.size w w' := by
  have hmf : ∀ (fn : Fn) (first cap : Array Value) (w : World), (Instr.makeFunc fn first cap).run Tryd.prog w = .ok (.func fn first cap) w := fun _ _ _ _ => rfl
  go_enter Tryd.func28, Tryd.ntmps28
  go_wp2_with (first
    | ((with_reducible show wpList _ _ _ (⟨some 3, _, _, _, _, _⟩ :: _) _ _); refine wpList_box_one rfl _ (.tmp 0) rfl (.pointer (some ⟨q, 0, none⟩)) rfl rfl ?_; intro p1 w1 hg1 hg2 B1 L1)
    | ((with_reducible show wpList _ _ _ (⟨some 4, _, _, _, _, _⟩ :: _) _ _); refine wpList_box_one rfl _ (.tmp 1) rfl (.string p) rfl rfl ?_; intro p2 w2 hg3 hg4 B2 L2)
    | ((with_reducible show wpList _ _ _ (⟨some 5, _, _, _, _, _⟩ :: _) _ _); refine wpList_box_one rfl _ (.tmp 2) rfl (.string a) rfl rfl ?_; intro p3 w3 hg5 hg6 B3 L3)
    | fail)
  go_ret
  have q2 := L1.out.trans (L2.out.mono L1.out.size)
  exact ⟨p1, p2, p3, rfl, hg1, Nat.le_trans L1.out.size hg3, Nat.le_trans q2.size hg5, (L3.out.cell (Nat.lt_of_lt_of_le hg2 L2.out.size)).trans ((L2.out.cell hg2).trans (B1.out.cell 0)), (L3.out.cell hg4).trans (B2.out.cell 0), B3.out.cell 0, q2.trans (L3.out.mono q2.size)⟩
theorem run_load_plain {P : Program} (w : World) (ad : Addr) (v : Value) (h : w.cell? ad = some v) (T : TypeId) (d : TypeDesc) (hu : P.underlying T = some d) (hd : (match d with | .struct _ | .array _ _ => true | _ => false) = false) : (loadVar T ad).run P w = .ok v w := by
  have hagg : (isAgg T).run P w = .ok false w := by
    unfold isAgg
    rw [Sem.run_bind, run_underlying hu]
    cases d <;> simp_all [Result.andThen]
  simp [loadVar, hagg, h, Result.andThen]
theorem results_cell3 {fn : Func} {p1 p2 p3 : Tmp} {t1 t2 t3 : TypeId} (h : fn.results = #[.cell p1 t1, .cell p2 t2, .cell p3 t3]) (tmps : Array Value) (P : Program) (w : World) (a1 a2 a3 : Addr) (v1 v2 v3 : Value)
    (e1 : tmps.getD p1 undef = .pointer (some a1)) (e2 : tmps.getD p2 undef = .pointer (some a2)) (e3 : tmps.getD p3 undef = .pointer (some a3)) (h1 : (loadVar t1 a1).run P w = .ok v1 w) (h2 : (loadVar t2 a2).run P w = .ok v2 w) (h3 : (loadVar t3 a3).run P w = .ok v3 w) :
    (results fn tmps).run P w = .ok (.tuple #[v1, v2, v3]) w := by
  have e1' : tmps[p1]?.getD undef = .pointer (some a1) := by simpa using e1
  have e2' : tmps[p2]?.getD undef = .pointer (some a2) := by simpa using e2
  have e3' : tmps[p3]?.getD undef = .pointer (some a3) := by simpa using e3
  simp [results, h, e1', e2', e3', asAddr, h1, h2, h3, Result.andThen]
/-- names from a place on, sliced out of the row -/
theorem slice_names (w : World) (A : Option Addr) (n c k : Nat) (hk : k ≤ n) (hnc : n ≤ c) (hc : c ≤ maxLen) (hA : A = none → c = 0) (ho : ∀ ad, A = some ad → ∃ g, ad = ⟨g, 0, none⟩) :
    ∃ A1 c1, (∀ w, (Instr.sliceAt 29 (.slice A n c) (some (.int .i64 (k : Nat))) none none).run Tryd.prog w = .ok (.slice A1 (n - k) c1) w) ∧ n - k ≤ c1 ∧ (0 < n - k → ∃ g, A = some ⟨g, 0, none⟩ ∧ A1 = some ⟨g, k, none⟩) := by
  unfold maxLen at hc
  have e1 : (k : Int) ≤ (n : Int) := by omega
  have e2 : (n : Int) ≤ (c : Int) := by omega
  rcases A with _ | ad
  · obtain rfl : c = 0 := hA rfl
    obtain rfl : n = 0 := by omega
    obtain rfl : k = 0 := by omega
    exact ⟨none, 0, fun w => by go_simp, Nat.le_refl _, fun h => absurd h (Nat.lt_irrefl _)⟩
  · obtain ⟨g, rfl⟩ := ho ad rfl
    by_cases hck : c = k
    · have hnk : n = k := by omega
      subst hck
      exact ⟨some ⟨g, 0, none⟩, 0, fun w => by go_simp, by omega, fun h => by omega⟩
    · by_cases hc0 : c = 0
      · omega
      · exact ⟨some ⟨g, k, none⟩, c - k, fun w => by go_simp, by omega, fun _ => ⟨g, rfl, rfl⟩⟩
end Go.Proofs.YtangkcedgelegaaDoor

namespace Go.Proofs.YtangkcedgelegaaDoor
set_option linter.all false
set_option maxRecDepth 100000
open Go.RowKit Go.Shelf
set_option linter.unusedVariables false
attribute [local go_sem] Oper.semAt_some
/-- a name of a directory -/
abbrev NmD := { x : ByteArray // x.size ≤ 1048576 }
theorem grown_of_below {w w' : World} (h : Below w.heap.size w w') : w.grownBy w' none := ⟨h.os, h.tape, h.output, h.size, fun i hi _ => h.block i hi⟩
/-- what the iterator reads: the directory at w, and the three boxes -/
structure ItD (w : World) (T : Nat → Prop) (q pd pp pa : Nat) (p a : ByteArray) (W : World) : Prop where
  b : Below w.heap.size w W
  td : T pd
  tp : T pp
  ta : T pa
  tw : ∀ j, j < w.heap.size → T j
  cd : W.cell? ⟨pd, 0, none⟩ = some (.pointer (some ⟨q, 0, none⟩))
  cp : W.cell? ⟨pp, 0, none⟩ = some (.string p)
  ca : W.cell? ⟨pa, 0, none⟩ = some (.string a)
section
variable {w W W' : World} {T : Nat → Prop} {q pd pp pa : Nat} {p a : ByteArray}
theorem ItD.below (h : ItD w T q pd pp pa p a W) (hb : Below W.heap.size W W') : ItD w T q pd pp pa p a W' :=
  ⟨h.b.trans (hb.mono h.b.size), h.td, h.tp, h.ta, h.tw, (hb.cell (lt_of_cellD h.cd)).trans h.cd, (hb.cell (lt_of_cellD h.cp)).trans h.cp, (hb.cell (lt_of_cellD h.ca)).trans h.ca⟩
theorem ItD.stay (h : ItD w T q pd pp pa p a W) (hb : Spare (fun j => ¬ T j) W W') : ItD w T q pd pp pa p a W' :=
  ⟨h.b.trans (hb.below (fun j hj => Nat.le_of_not_lt fun q => hj (h.tw j q)) h.b.size), h.td, h.tp, h.ta, h.tw, (spare_cellD hb (fun q => q h.td) (lt_of_cellD h.cd)).trans h.cd, (spare_cellD hb (fun q => q h.tp) (lt_of_cellD h.cp)).trans h.cp, (spare_cellD hb (fun q => q h.ta) (lt_of_cellD h.ca)).trans h.ca⟩
end
/-- what has been told of the names from place k on, behind j of them -/
noncomputable def toldD (X : List ByteArray) (p : ByteArray) (k j : Nat) : List ByteArray := ((X.drop k).take j).filter (dFit p)
section
variable {X : List ByteArray} {p : ByteArray} {k j : Nat} {x : ByteArray}
theorem toldD_zero : toldD X p k 0 = [] := by unfold toldD; rw [List.take_zero]; rfl
theorem toldD_snoc (hx : X[k + j]? = some x) : toldD X p k (j + 1) = if dFit p x = true then toldD X p k j ++ [x] else toldD X p k j := by
  have h1 : (X.drop k)[j]? = some x := by rw [List.getElem?_drop]; exact hx
  obtain ⟨h2, h3⟩ := List.getElem?_eq_some_iff.1 h1
  unfold toldD
  rw [List.take_succ_eq_append_getElem h2, List.filter_append, h3]
  simp only [List.filter_cons, List.filter_nil]
  split
  · rfl
  · rw [List.append_nil]
theorem toldD_all (h : X.length ≤ k + j) : toldD X p k j = (X.drop k).filter (dFit p) := by
  unfold toldD
  rw [List.take_of_length_le (by rw [List.length_drop]; omega)]
theorem toldD_len : (toldD X p k j).length ≤ j := by
  unfold toldD
  exact Nat.le_trans (List.length_filter_le _ _) (by rw [List.length_take]; omega)
theorem toldD_pre : toldD X p k j <+: (X.drop k).filter (dFit p) := by
  unfold toldD
  exact (List.take_prefix _ _).filter _
end
set_option maxHeartbeats 8000000 in
theorem fitIt_any (n : Nat) (w : World) (base q : Nat) (v : Value) (m : Nat) (D : DataW Unit) (L : List DItem) (d : PDr w base q v m D L) (hb : base ≤ w.heap.size) (htb : TabsD base w) (p a : ByteArray) (hp : p.size ≤ 1048576) (ha : a.size ≤ 1048576) (T : Nat → Prop) (pd pp pa : Nat)
    (l : Nat) (J Jx : List NmD → World → Prop) (W : World) (hJ : AbidesFrom W.heap.size J) (it : ItD w T q pd pp pa p a W)
    (hY : ∀ pre x W1, J pre W1 → pre.length < 4096 → YieldAt Fence.wide n Tryd.prog l #[.string x.1] W1 fun e W' =>
      (e = .returned (.bool true) ∧ J (pre ++ [x]) W' ∧ Spare (fun j => ¬ T j) W1 W') ∨ (e = .returned (.bool false) ∧ Jx (pre ++ [x]) W'))
    (h0 : J [] W) :
    CallsIn Fence.wide (n + 1) Tryd.prog 47 #[.func (.yield l) #[] #[], .pointer (some ⟨pd, 0, none⟩), .pointer (some ⟨pa, 0, none⟩), .pointer (some ⟨pp, 0, none⟩)] W fun e W' => (∃ v, e = .returned v) ∧
      ((∃ xs : List NmD, xs.map (·.1) = dNames L p a ∧ J xs W') ∨ (∃ pre : List NmD, pre.map (·.1) <+: dNames L p a ∧ Jx pre W')) := by
  have hmf : ∀ (fn : Fn) (first cap : Array Value) (w : World), (Instr.makeFunc fn first cap).run Tryd.prog w = .ok (.func fn first cap) w := fun _ _ _ _ => rfl
  obtain ⟨A, c, rfl⟩ := d.len
  have hsm := d.small
  have hkle : dFr L a ≤ L.length := dFr_le
  have hNM : dNames L p a = ((dNm L).drop (dFr L a)).filter (dFit p) := dNames_fr d.ok
  have hshape : L.length ≤ c ∧ c ≤ maxLen ∧ (A = none → c = 0) ∧ ∀ ad, A = some ad → ∃ g, ad = ⟨g, 0, none⟩ := by
    rcases d.row.2 with ⟨h1, h2⟩ | ⟨g, cap, cur, h1, _, _, h3, h4, _⟩
    · injection h1 with e1 e2 e3
      subst e1 e3
      exact ⟨by omega, by unfold maxLen; omega, fun _ => rfl, fun ad h => by cases h⟩
    · injection h1 with e1 e2 e3
      rw [dNm_len] at h3
      subst e1 e3
      exact ⟨h3, h4, (fun h => by cases h), fun ad h => ⟨g, by injection h with h; exact h.symm⟩⟩
  obtain ⟨hnc, hcm, hA0, hA1⟩ := hshape
  obtain ⟨A1, c1, hsl, hnk, hat⟩ := slice_names w A L.length c (dFr L a) hkle hnc hcm hA0 hA1
  have D0 := Lib.hid d
  have k0 : ∀ W, Below w.heap.size w W → W.cell? ⟨q, 0, none⟩ = some (.slice A L.length c) := fun W h => (d.below h).c0
  have CS : Hid (∀ W, ItD w T q pd pp pa p a W → CallsIn Fence.wide n Tryd.prog 48 #[.int .i64 (L.length : Nat), .func (.func 49) #[] #[.pointer (some ⟨pa, 0, none⟩), .pointer (some ⟨pd, 0, none⟩)]] W fun e w' => e = .returned (.int .i64 (dFr L a : Nat)) ∧ Below W.heap.size W w') := fun W it =>
    callsIn_wide.2 (d.frS hb htb a ha W pd pa it.b it.cd it.ca)
  have CF : Hid (∀ W (x : ByteArray), Below w.heap.size w W → x.size ≤ 1048576 → CallsIn Fence.wide n Tryd.prog 45 #[.string p, .string x] W (FitsPost W p.data.toList x.data.toList)) := fun W x h hx => callsIn_wide.2 (Fits_any p x W (by omega) (by omega) (htb.at h hb))
  unfold FitsPost at CF
  obtain ⟨N, hN⟩ : ∃ N, N = L.length := ⟨_, rfl⟩
  obtain ⟨k, hk⟩ : ∃ k, k = dFr L a := ⟨_, rfl⟩
  rw [← hN] at k0 CS hsl hkle hnk hat hsm hnc
  rw [← hk] at CS hsl hkle hnk hat hNM
  have HN := Lib.hid hN
  have HNM := Lib.hid hNM
  have HJ := Lib.hid hJ
  have HY := Lib.hid hY
  have ITW := Lib.hid it
  have J0 := Lib.hid h0
  have HAT := Lib.hid hat
  have K0 := Lib.hid k0
  have k0W := k0 W it.b
  have cdW := it.cd
  have caW := it.ca
  have kT : Hid (∀ W', Below W.heap.size W W' → J [] W' ∧ ItD w T q pd pp pa p a W') := fun W' h => ⟨hJ _ _ _ none h0 (grown_of_below h) (fun r e => by cases e), it.below h⟩
  clear hN hk d htb hb hNM hJ hY it h0 hat k0 hA0 hA1
  refine callsIn_of_wp Tryd.func47 rfl trivial ?_ rfl
  simp only [Tryd.ntmps47, List.size_toArray, List.length_cons, List.length_nil, Nat.reduceAdd, Nat.reduceSub, Array.replicate_succ, Array.replicate_zero, List.push_toArray, List.append_toArray, List.nil_append, List.cons_append]
  gi_wp2_with fail
  refine ⟨trivial, ?_⟩
  refine (CS.out W ITW.out).mono ?_
  rintro e W1 ⟨rfl, l1⟩
  have L1 := Lib.hid l1
  have IT1 := Lib.hid (kT.out W1 l1).2
  have J1 := Lib.hid (kT.out W1 l1).1
  have k01 := K0.out W1 IT1.out.b
  have cd1 := IT1.out.cd
  clear l1 CS kT
  gi_wp2_with fail
  gi_loopw [24] (fun I wr => ∃ (j : Nat) (pre : List NmD), j ≤ N - k ∧ I = .int .i64 (j : Nat) ∧ Hid (pre.map (·.1) = toldD (dNm L) p k j) ∧ Hid (J pre wr) ∧ Hid (ItD w T q pd pp pa p a wr)) (fun I _ => N - k - (intOf I).toNat)
  case atStart => exact ⟨0, [], Nat.zero_le _, rfl, toldD_zero.symm, J1.out, IT1.out⟩
  case round =>
    obtain ⟨j, pre, hj, rfl, TP, JR, IR⟩ := hrel
    by_cases hlt : j < N - k
    · obtain ⟨g, hAg, hA1g⟩ := HAT.out (by omega)
      have hil : k + j < L.length := by have := HN.out; omega
      obtain ⟨g', c', e, _, _, k4⟩ := (D0.out.below IR.out.b).at hil
      rw [hAg] at e
      injection e with e1 e2 e3
      injection e1 with e1
      injection e1 with e1
      subst e1
      have hxs : L[k + j].1.size ≤ 1048576 := D0.out.text _ (List.getElem_mem hil)
      have hX : (dNm L)[k + j]? = some L[k + j].1 := dNm_get hil
      obtain ⟨x, hx⟩ : ∃ x, x = L[k + j].1 := ⟨_, rfl⟩
      rw [← hx] at k4 hxs hX
      have cpr := IR.out.cp
      have hSN := Lib.hid (toldD_snoc (p := p) hX)
      have hpl : pre.length ≤ j := by
        have := congrArg List.length TP.out
        rw [List.length_map] at this
        rw [this]
        exact toldD_len
      have CF1 := Lib.hid (CF.out wr x IR.out.b hxs)
      obtain ⟨z, hz⟩ : ∃ z, z = fitsOf p.data.toList x.data.toList := ⟨_, rfl⟩
      obtain ⟨er, her⟩ : ∃ e, e = patErr p.data.toList x.data.toList := ⟨_, rfl⟩
      rw [← hz, ← her] at CF1
      have hz' : dFit p x = z := hz.symm
      rw [hz'] at hSN
      subst hA1g
      clear hz hz' her hX hx e2 e3 hAg
      gi_wp2_with fail
      refine ⟨trivial, ?_⟩
      refine CF1.out.mono ?_
      rintro e W2 ⟨rfl, l2⟩
      have IT2 := Lib.hid (IR.out.below l2)
      have J2 := Lib.hid (HJ.out _ _ _ none JR.out (grown_of_below l2) (fun r e => by cases e))
      clear l2 CF1
      cases z with
      | false =>
        rw [if_neg (by decide)] at hSN
        gi_wp2_with fail
        refine ⟨fun _ h => (by cases h), ?_⟩
        gi_wp2_with fail
        go_roundw
        case rel => exact ⟨j + 1, pre, by omega, by go_num, TP.out.trans hSN.out.symm, J2.out, IT2.out⟩
        case measure => simp [intOf]; omega
      | true =>
        rw [if_pos rfl] at hSN
        obtain ⟨fn, tmps, assign, body, hy, hR⟩ := HY.out pre ⟨x, hxs⟩ W2 J2.out (by omega)
        dsimp only at hy
        have HR := Lib.hid hR
        have hpx : Hid ((pre ++ [(⟨x, hxs⟩ : NmD)]).map (·.1) = toldD (dNm L) p k (j + 1)) := by
          show _ = _
          rw [List.map_append, TP.out, hSN.out]
          rfl
        clear hR
        gi_wp2_with fail
        refine HR.out.mono ?_
        rintro e W3 (⟨rfl, hJ3, hk3⟩ | ⟨rfl, hJx3⟩)
        · have J3 := Lib.hid hJ3
          have IT3 := Lib.hid (IT2.out.stay hk3)
          clear hJ3 hk3
          gi_wp2_with fail
          go_roundw
          case rel => exact ⟨j + 1, _, by omega, by go_num, hpx.out, J3.out, IT3.out⟩
          case measure => simp [intOf]; omega
        · have J3 := Lib.hid hJx3
          clear hJx3
          gi_wp2_with fail
          refine bodyPost_ret (results_none rfl _ _ _) rfl ?_
          exact ⟨⟨_, rfl⟩, .inr ⟨_, by rw [hpx.out, HNM.out]; exact toldD_pre, J3.out⟩⟩
    · obtain rfl : j = N - k := by omega
      gi_wp2_with fail
      go_end0
      exact ⟨⟨_, rfl⟩, .inl ⟨pre, by rw [TP.out, HNM.out]; exact toldD_all (by rw [dNm_len]; have := HN.out; omega), JR.out⟩⟩
end Go.Proofs.YtangkcedgelegaaDoor

namespace Go.Proofs.YtangkcedgelegaaDoor
set_option linter.all false
open Go Go.RowKit
set_option linter.unusedVariables false
section
variable {P : Program} {ops : Array Oper} {Q : Exit → Act → World → Prop} {r n : Nat}
theorem rowsIn_of {row : String} {args : Array Value} {w : World} {R : Value → World → Prop} (h : Rows P row args w R) : RowsIn (Fence.wide.inRound r) n P row args w R := fun c cs _ =>
  let ⟨v, w', a, b⟩ := h c cs
  ⟨v, w', a, stepsIn_wide.2 b⟩
theorem uponIn_of {o : Oper} {a : Act} {next next' : Act → World → Prop} (hn : ∀ a w, next a w → next' a w) : ∀ (res : Result Next), o.upon P a next Q res → o.uponIn (Fence.wide.inRound r) n P a next' Q res
  | .ok (.value v) w', h => hn _ _ h
  | .ok .skip w', h => hn _ _ h
  | .ok (.defer d) w', h => hn _ _ h
  | .ok (.enter f args) w', h => ⟨fun q => (by cases q), CallsIn.inRound r (callsIn_wide.2 (Calls.mono h fun e w q => by
      cases e with
      | returned v => exact hn _ _ q
      | panicked c => exact q
      | outgrown => exact q))⟩
  | .ok (.row row args) w', h => ⟨fun q => (by cases q), rowsIn_of (Rows.mono h fun v w q => hn _ _ q)⟩
  | .halt (.panic v) w', h => h
  | .ok (.round _ _ _ _ _) _, h => h.elim
theorem wpOpsIn_of (hd : ∀ (i : Nat) (o : Oper), ops[i]? = some o → ∀ c, o.op ≠ .defer c) (hL : ¬ LetsOut Q) : ∀ (l : List Nat) (a : Act) (w : World), wpOps P ops Q l a w → wpOpsIn (Fence.wide.inRound r) n P ops Q l a w
  | [], _, _, h => h
  | i :: rest, a, w, h => by
    unfold wpOps at h
    unfold wpOpsIn
    cases ho : ops[i]? with
    | none =>
      simp only [ho] at h ⊢
      exact wpOpsIn_of hd hL rest a w h
    | some o =>
      simp only [ho] at h ⊢
      split
      · rename_i hw
        rw [if_pos hw] at h
        rcases h with h | h
        · refine ⟨fun f _ => trivial, ?_⟩
          rw [Oper.semAt_eq _ _ _ (hd i o ho)]
          exact uponIn_of (fun a w q => wpOpsIn_of hd hL rest a w q) _ h
        · exact absurd h.2 hL
      · rename_i hw
        rw [if_neg hw] at h
        exact ⟨fun f _ => trivial, wpOpsIn_of hd hL rest _ w h⟩
/-- no operation of the list defers -/
def noDefer (ops : Array Oper) : Bool := ops.all fun o => match o.op with | .defer _ => false | _ => true
theorem noDefer_spec (h : noDefer ops = true) : ∀ (i : Nat) (o : Oper), ops[i]? = some o → ∀ c, o.op ≠ .defer c := fun i o hi c e => by
  unfold noDefer at h
  obtain ⟨hl, hv⟩ := Array.getElem?_eq_some_iff.1 hi
  have h1 := Array.all_eq_true.1 h i hl
  rw [hv, e] at h1
  cases h1
theorem wpIn_region_heldKR {id : Nat} {a : Act} {w : World} (k : Nat) (S : World → Prop) (hm : P.follows .mixedOrders = true) (hd : noDefer ops = true) (hL : ¬ LetsOut Q)
    (h : wpAnyK P .any ops Q S k ops.size (Array.replicate ops.size false) a { w with drawn := w.drawn + 1 }) : (Code.region id ops true).wpIn (Fence.wide.inRound r) n P Q a w :=
  wpIn_region_draw fun t => wpOpsIn_of (noDefer_spec hd) hL _ _ _ (by
    simp only [Region.schedule, hm, Bool.true_or, if_true]
    exact wpAny_sound ops.size t _ a _ (wpAny_of_K _ _ _ _ h))
end
section
variable {S : Nat → Prop} {w w' : World}
theorem spare_putObj (w : World) (l : Nat) (o : Obj) (h : S l) : Spare S w (w.putObj l o) := by
  have g := grownBy_putObj' w l o
  exact ⟨g.os, g.tape, g.output, g.size, fun j hj hs => g.block j hj fun e => hs (by injection e with e; rw [e]; exact h)⟩
theorem spare_setCell (w : World) (g i : Nat) (v : Value) (h : S g) : Spare S w (w.setCell ⟨g, i, none⟩ v) := (Spare.of_only ((Only.refl g w).setCell i v)).mono fun j _ e => by rw [e]; exact h
theorem KeepsOthers.of_spare (a : Spare S w w') (h : ∀ j o, S j → w.heap[j]? = some o → o.isCells = true) : KeepsOthers w w' :=
  ⟨a.size, fun k o hk ho => by
    have hlt := (Array.getElem?_eq_some_iff.1 hk).1
    rw [a.rest k hlt fun hs => by rw [h k o hs hk] at ho; cases ho]
    exact hk⟩
/-- a turn of a block that holds no cells -/
theorem Spare.of_row {row : Option Nat} {B : Nat} (hg : w.grownBy w' row) (hr : ∀ r, row = some r → B ≤ r ∧ ∃ o : Obj, w.heap[r]? = some o ∧ o.isCells = false) : Spare (fun j => B ≤ j ∧ ∃ o : Obj, w.heap[j]? = some o ∧ o.isCells = false) w w' :=
  ⟨hg.os, hg.tape, hg.output, hg.size, fun j hj hs => hg.block j hj fun e => hs (hr j e.symm)⟩
end
end Go.Proofs.YtangkcedgelegaaDoor
