/-
  Layer 13 (frame), words for the statement FrameBack: which rows are put, how long they are together. No program is named here.
-/
import Derived.Test.YtjpcifmeimcikaaFr1
import Derived.Test.YtjpcifmeimcikaaSpare
namespace Go.Proofs.Ytjpcifmeimcikaa
open Go.RowKit
set_option linter.unusedVariables false

def selB (b : List Int) : Bool := decide (1 ≤ b.length) && decide (b.length ≤ 3000)
def selL (l : List (List Int)) : List (List Int) := l.filter selB
theorem selL_ok {l : List (List Int)} {b : List Int} (h : b ∈ selL l) : 1 ≤ b.length ∧ b.length ≤ 3000 := by
  have := (List.mem_filter.1 h).2
  unfold selB at this
  simpa using this
theorem selL_pe (l : List (List Int)) : ∀ b ∈ selL l, frPE b = 0 := fun b hb => by
  have := selL_ok hb
  exact frPE_of this.1 (by omega)
theorem selL_take {l : List (List Int)} {k : Nat} {x : List Int} (h : l[k]? = some x) : selL (l.take (k + 1)) = if selB x = true then selL (l.take k) ++ [x] else selL (l.take k) := by
  obtain ⟨h1, h2⟩ := List.getElem?_eq_some_iff.1 h
  unfold selL
  rw [List.take_succ_eq_append_getElem h1, List.filter_append, h2]
  by_cases hs : selB x = true
  · rw [if_pos hs]
    simp [hs]
  · rw [if_neg hs]
    simp [hs]
theorem selL_count (l : List (List Int)) (k : Nat) : (selL (l.take k)).length ≤ k := by
  have h1 := List.length_filter_le selB (l.take k)
  have h2 : (l.take k).length ≤ k := by rw [List.length_take]; omega
  exact Nat.le_trans h1 h2
theorem frAll_size (L : List (List Int)) (h : ∀ b ∈ L, 1 ≤ b.length ∧ b.length ≤ 3000) : (frAll L).length ≤ L.length * 3004 := by
  induction L with
  | nil => simp [frAll]
  | cons b L ih =>
    have hb := h b List.mem_cons_self
    have := ih fun x hx => h x (List.mem_cons_of_mem _ hx)
    rw [frAll_cons, List.length_append, frPO_len (frPE_of hb.1 (by omega)), List.length_cons]
    omega
theorem frAll_bytes (L : List (List Int)) (h : ∀ b ∈ L, Bytes b) : Bytes (frAll L) := by
  induction L with
  | nil => exact Bytes.nil
  | cons b L ih => exact (frPO_bytes (h b List.mem_cons_self)).append (ih fun x hx => h x (List.mem_cons_of_mem _ hx))
theorem selL_bytes {l : List (List Int)} (h : ∀ b ∈ l, Bytes b) : ∀ b ∈ selL l, Bytes b := fun b hb => h b (List.mem_filter.1 hb).1

section
variable {S : Nat → Prop} {w w' : World} {base base' g : Nat} {T : TypeId} {cs : List Value} {v u : Value} {xs : List Int} {ps : List PartT}
theorem OwnF.spare {α : Type} {f : α → Value} {e : TypeId} {xs : List α} (h : OwnF f e w base v xs) (a : Spare S w w') (hg : ∀ i, v.ownBlock = some i → ¬ S i) : OwnF f e w' base v xs := h.keep fun i _ hi hcs => a.rest i (Array.getElem?_eq_some_iff.1 hcs).1 (hg i hi)
theorem OwnF.notRow (h : OwnF partV 22 w base v ps) (hu : OwnK .u8 5 w base' u xs) : ∀ i, v.ownBlock = some i → u.ownBlock ≠ some i := fun i hi hui => by
  obtain ⟨_, cs', hcs⟩ := h.block hi
  obtain ⟨_, cs2, hcs2⟩ := hu.block hui
  rw [hcs] at hcs2
  have hne : 22 ≠ 5 := by decide
  simp only [Option.some.injEq, Obj.cells.injEq] at hcs2
  exact absurd hcs2.2.1 hne
end
end Go.Proofs.Ytjpcifmeimcikaa
