/-
  Objects that are kept, more: rows of values of one cell over calls that spare them; a row cut shorter; an append of a literal that tells where it heads. No function of the program is named here.
-/
import Derived.Test.YtgbhnnobbciemaaSpare
namespace Go.Proofs.Ytgbhnnobbciemaa
set_option maxRecDepth 100000
open Go.RowKit
set_option linter.unusedVariables false

section
variable {α : Type} {f : α → Value} {S : Nat → Prop} {w w' : World} {base base' g : Nat} {e e' T : TypeId} {cs : List Value} {v v' u : Value} {xs : List α} {β : Type} {h' : β → Value} {ys : List β}
theorem OwnF.sparS (h : OwnF f e w base v xs) (a : Spare S w w') (hg : ∀ i, v.ownBlock = some i → ¬ S i) : OwnF f e w' base v xs := h.keep fun i _ hi hcs => a.rest i (Array.getElem?_eq_some_iff.1 hcs).1 (hg i hi)
/-- rows of unlike types lie apart -/
theorem OwnF.unlike (h : OwnF f e w base v xs) (k : OwnF h' e' w base' u ys) (hne : e ≠ e') : ∀ i, v.ownBlock = some i → u.ownBlock ≠ some i := fun i hi hui => by
  obtain ⟨_, cs', hcs⟩ := h.block hi
  obtain ⟨_, cs2, hcs2⟩ := k.block hui
  rw [hcs] at hcs2
  simp only [Option.some.injEq, Obj.cells.injEq] at hcs2
  exact hne hcs2.2.1
theorem OwnF.offBlk (h : OwnF f e w base v xs) (hB : Blk w g T cs) (hT : T ≠ e) : v.ownBlock ≠ some g := fun hi => by
  obtain ⟨_, cs', hcs⟩ := h.block hi
  rw [show w.heap[g]? = _ from hB] at hcs
  simp only [Option.some.injEq, Obj.cells.injEq] at hcs
  exact hT hcs.2.1
theorem OwnF.cutTo {A : Option Addr} {n c m : Nat} (h : OwnF f e w base (.slice A n c) xs) (hm : m ≤ n) : OwnF f e w base (.slice A m c) (xs.take m) := by
  rcases h.2 with ⟨h1, h2⟩ | ⟨q, cap, cur, h1, hb, hg, hnc, hcm, hcs, htk⟩
  · cases h1
    obtain rfl : m = 0 := by omega
    exact ⟨by simp, .inl ⟨rfl, by simp⟩⟩
  · have hl : xs.length = n := by injection h1 with _ h3 _; exact h3.symm
    cases h1
    have hml : (xs.take m).length = m := by rw [List.length_take]; omega
    refine ⟨by simp, .inr ⟨q, c, cur, by rw [hml], hb, hg, by omega, hcm, hcs, ?_⟩⟩
    rw [hml, Nat.mul_one]
    rw [Nat.mul_one] at htk
    have := congrArg (List.take m) htk
    rw [List.take_take, Nat.min_eq_left (by omega), ← List.map_take] at this
    exact this
theorem Spare.of_grew (hg : Grew w w' v) : Spare (fun j => v.ownBlock = some j) w w' := by
  obtain ⟨o, hg⟩ := hg
  exact ⟨hg.os.trans (by rfl), hg.tape.trans (by rfl), hg.output.trans (by rfl), Nat.le_trans (by simp) hg.size, fun j hj hs => (hg.block j (by simp; omega) fun h => hs h.symm).trans (Below.heap_alloc _ _ _ hj)⟩
theorem Wander.of_whither (h : Whither w v v') : Wander w v v' := fun i hi => by
  rcases h with h1 | ⟨g, h1, h2⟩
  · exact .inl (h1 ▸ hi)
  · rw [h1] at hi
    injection hi with hi
    subst hi
    exact .inr h2
theorem Wander.trans {v2 : Value} (h : Wander w v v') (k : Wander w' v' v2) (hs : w.heap.size ≤ w'.heap.size) : Wander w v v2 := fun i hi => by
  rcases k i hi with h1 | h1
  · exact h i h1
  · exact .inr (by omega)
theorem Wander.cut {A : Option Addr} {n c m : Nat} (w : World) : Wander w (.slice A n c) (.slice A m c) := fun i hi => .inl (by cases A with | none => cases hi | some a => exact hi)
end

section
variable {α : Type} {f : α → Value} {P : Program} {w : World} {ops : Array Oper} {rest : List Oper} {o : Oper} {a : Act} {Q : Exit → Act → World → Prop}
/-- a store into a row of values of one cell -/
theorem wpList_store_rowF (hg : o.guard = none) (T : TypeId) (x y : Operand) (ho : o.op = .store T x y) (q i n c base : Nat) (e : TypeId) (hx : a.eval x = .pointer (some ⟨q, i, none⟩)) (f : α → Value) (xs : List α) (u : α) (hy : a.eval y = f u)
    (hown : OwnF f e w base (.slice (some ⟨q, 0, none⟩) n c) xs) (hi : i < n) (hs : (P.info? T).map (·.size) = some 1) (h1 : (f u).oneCell' = true)
    (h : ∀ w', Hid (OwnF f e w' base (.slice (some ⟨q, 0, none⟩) n c) (xs.set i u)) → Hid (Only q w w') → wpList P ops Q rest a w') (hd : o.dst = none := by rfl) : wpList P ops Q (o :: rest) a w := by
  obtain ⟨hb, hn, cur, hgg, hns, htk, hnc, hcm, hcs⟩ := hown.heap
  have hB : Blk w q e cur.toList := by
    unfold Blk
    rw [hgg]
  have hp : a.put o.dst undef = a := by rw [hd]; rfl
  refine wpList_plain hg fun K hK => ?_
  unfold Oper.wp execOp
  simp only [ho, hx, hy, Instr.storeAt, Instr.sureAddr, Sem.run_bind, Sem.run_pure, Result.andThen_ok, run_storeVar_fld w q i e T cur.toList (f u) hB (by simp; omega) hs h1]
  show K (a.put o.dst undef) _
  rw [hp]
  exact hK _ _ (h _ (hown.set i u) (only_setCell w q i (f u)))
end
end Go.Proofs.Ytgbhnnobbciemaa
