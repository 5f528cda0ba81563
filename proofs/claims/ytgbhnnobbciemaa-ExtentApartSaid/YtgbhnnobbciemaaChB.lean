/-
  Lists of rows of bytes that a call has made ('OLst': each row in a block of its own), the law at an append of one such row. No function of the program is named here.
-/
import Derived.Test.YtgbhnnobbciemaaChL
import Derived.Test.YtgbhnnobbciemaaMem
namespace Go.Proofs.Ytgbhnnobbciemaa
open Go.RowKit
set_option linter.unusedVariables false

/-- a row of the call's own; Z: with noughts behind it -/
def OwnB (Z : Bool) (w : World) (base : Nat) (v : Value) (xs : List Int) : Prop := OwnK .u8 5 w base v xs ∧ (Z = true → OwnZ .u8 5 w base v xs)

structure OLst (Z : Bool) (w : World) (base : Nat) (v : Value) (ps : List PartT) : Prop where
  row : OwnF partV 29 w base v ps
  each : ∀ p ∈ ps, OwnB Z w base (partV p) p.2.2.2 ∧ Bytes p.2.2.2 ∧ p.2.2.2.length ≤ 140737488355328
  apart : ps.Pairwise fun p q => ∀ i, (partV p).ownBlock = some i → (partV q).ownBlock ≠ some i

section
variable {Z : Bool} {w w' w0 : World} {base base' : Nat} {v v' : Value} {xs : List Int} {ps : List PartT}
theorem OwnB.of_z (h : OwnZ .u8 5 w base v xs) (Z : Bool) : OwnB Z w base v xs := ⟨h.own, fun _ => h⟩
theorem OwnB.of_k (h : OwnK .u8 5 w base v xs) : OwnB false w base v xs := ⟨h, fun h => by cases h⟩
theorem OwnB.keep (h : OwnB Z w base v xs) (hk : ∀ i cs, v.ownBlock = some i → w.heap[i]? = some (.cells cs 5 (0, 0)) → w'.heap[i]? = w.heap[i]?) : OwnB Z w' base v xs := ⟨h.1.keep hk, fun z => (h.2 z).keep hk⟩
theorem OwnB.below (h : OwnB Z w base v xs) (hb : Below w.heap.size w w') : OwnB Z w' base v xs := h.keep fun i _ _ hi => hb.block i (Array.getElem?_eq_some_iff.1 hi).1
theorem OwnB.mono (h : OwnB Z w base v xs) (hb : base' ≤ base) : OwnB Z w base' v xs := ⟨h.1.mono hb, fun z => (h.2 z).mono hb⟩
theorem OwnB.holds {p : PartT} (h : OwnB Z w base (partV p) p.2.2.2) (hx : Bytes p.2.2.2) (hn : p.2.2.2.length ≤ 140737488355328) : Holds w w.heap.size p.1 p.2.1 p.2.2.1 p.2.2.2 := by
  obtain ⟨A1, c1, e, hh⟩ := Own.holds (show Own w base (partV p) p.2.2.2 from h.1) hx (by omega)
  unfold partV at e
  injection e with e1 e2 e3
  rw [e1, e2, e3]
  exact hh
theorem OLst.nil (Z : Bool) (w : World) (base : Nat) : OLst Z w base (.slice none 0 0) [] := ⟨OwnF.nil _ _ _ _, (fun p h => by cases h), List.Pairwise.nil⟩
theorem OLst.below (h : OLst Z w base v ps) (hb : Below w.heap.size w w') : OLst Z w' base v ps :=
  ⟨h.row.below hb, fun p hp => ⟨(h.each p hp).1.below hb, (h.each p hp).2⟩, h.apart⟩
theorem OLst.mono (h : OLst Z w base v ps) (hb : base' ≤ base) : OLst Z w base' v ps :=
  ⟨h.row.mono hb, fun p hp => ⟨(h.each p hp).1.mono hb, (h.each p hp).2⟩, h.apart⟩
theorem OLst.lst (h : OLst Z w base v ps) : ∃ A n c, v = .slice A n c ∧ Lst w w.heap.size A n c ps := by
  obtain ⟨A, n, c, rfl, hh⟩ := h.row.holds
  exact ⟨A, n, c, rfl, hh, fun p hp => (h.each p hp).1.holds (h.each p hp).2.1 (h.each p hp).2.2⟩

theorem Grew.otherB (hg : Grew w w' v) (h : OwnF partV 29 w base v ps) {u : Value} (h' : OwnB Z w base' u xs) : OwnB Z w' base' u xs :=
  h'.keep fun i cs hi hcs => by
    rw [hg.block hcs fun hv => ?_, hcs]
    obtain ⟨_, cs', hcs'⟩ := h.block hv
    rw [hcs'] at hcs
    have hne : 29 ≠ 5 := by decide
    simp only [Option.some.injEq, Obj.cells.injEq] at hcs
    exact absurd hcs.2.1 hne
end

theorem info_bytes : (Try.prog.info? 29).map (fun i => (i.zero, i.size, i.bytes)) = some (some (.slice none 0 0), 1, 24) := by kernel_rfl

section
variable {ops : Array Oper} {rest : List Oper} {o : Oper} {a : Act} {w w0 : World} {Q : Exit → Act → World → Prop}
end
end Go.Proofs.Ytgbhnnobbciemaa
