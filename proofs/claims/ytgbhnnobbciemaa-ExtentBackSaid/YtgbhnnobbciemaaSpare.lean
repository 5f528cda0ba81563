/-
  Objects that are kept from call to call: of the blocks that were there, nothing but those of a set may have turned ('Spare'); where the rows of an object wander ('Wander'); an append onto such a row. No function of the program is named here.
-/
import Derived.Test.YtgbhnnobbciemaaChB
import Derived.Test.YtgbhnnobbciemaaHeadM
import Derived.Test.YtgbhnnobbciemaaSide
namespace Go.Proofs.Ytgbhnnobbciemaa
set_option maxRecDepth 100000
open Go.RowKit
set_option linter.unusedVariables false

structure Spare (S : Nat → Prop) (w w' : World) : Prop where
  os : w'.os = w.os
  tape : w'.tape = w.tape
  output : w'.output = w.output
  size : w.heap.size ≤ w'.heap.size
  rest : ∀ j, j < w.heap.size → ¬ S j → w'.heap[j]? = w.heap[j]?
/-- the row of an object heads its old block, or a new one, or none -/
def Wander (w : World) (v v' : Value) : Prop := ∀ i, v'.ownBlock = some i → v.ownBlock = some i ∨ w.heap.size ≤ i
/-- none of the rows heads v's block -/
def Away (ps : List PartT) (v : Value) : Prop := ∀ p ∈ ps, ∀ i, (partV p).ownBlock = some i → v.ownBlock ≠ some i

section
variable {S S' : Nat → Prop} {w w' w2 : World} {B base g : Nat} {T T' : TypeId} {cs : List Value} {v v' u : Value} {xs : List Int} {ps qs : List PartT} {k : IntKind} {e : TypeId} {Z : Bool} {A : Option Addr} {n c : Nat}
theorem Spare.refl (S : Nat → Prop) (w : World) : Spare S w w := ⟨rfl, rfl, rfl, Nat.le_refl _, fun _ _ _ => rfl⟩
theorem Spare.trans (a : Spare S w w') (b : Spare S' w' w2) (h : ∀ j, j < w.heap.size → S' j → S j) : Spare S w w2 :=
  ⟨b.os.trans a.os, b.tape.trans a.tape, b.output.trans a.output, Nat.le_trans a.size b.size, fun j hj hs => (b.rest j (Nat.lt_of_lt_of_le hj a.size) fun h' => hs (h j hj h')).trans (a.rest j hj hs)⟩
theorem Spare.mono (a : Spare S w w') (h : ∀ j, j < w.heap.size → S j → S' j) : Spare S' w w' := ⟨a.os, a.tape, a.output, a.size, fun j hj hs => a.rest j hj fun h' => hs (h j hj h')⟩
theorem Spare.of_below (hb : Below B w w') : Spare (fun j => B ≤ j) w w' := ⟨hb.os, hb.tape, hb.output, hb.size, fun j _ hs => hb.block j (by omega)⟩
theorem Spare.of_over (S : Nat → Prop) (hb : Below w.heap.size w w') : Spare S w w' := ⟨hb.os, hb.tape, hb.output, hb.size, fun j hj _ => hb.block j hj⟩
theorem Spare.of_only (hO : Only g w w') : Spare (fun j => j = g) w w' := ⟨hO.os, hO.tape, hO.output, Nat.le_of_eq hO.size.symm, fun j _ hg => hO.rest j hg⟩
theorem Spare.of_grown (hg : w.grownBy w' v.ownBlock) : Spare (fun j => v.ownBlock = some j) w w' := ⟨hg.os, hg.tape, hg.output, hg.size, fun j hj hs => hg.block j hj fun h => hs h.symm⟩
theorem Spare.below (a : Spare S w w') (hS : ∀ j, S j → B ≤ j) (hB : B ≤ w.heap.size) : Below B w w' := ⟨a.os, a.tape, a.output, a.size, fun j hj => a.rest j (by omega) fun h => by have := hS j h; omega⟩
theorem Blk.spare (h : Blk w g T cs) (a : Spare S w w') (hg : ¬ S g) : Blk w' g T cs := (a.rest g h.lt hg).trans h
theorem Row.spare (h : Row w g xs) (a : Spare S w w') (hg : ¬ S g) : Row w' g xs := (a.rest g h.lt hg).trans h
theorem OwnK.spare (h : OwnK k e w base v xs) (a : Spare S w w') (hg : ∀ i, v.ownBlock = some i → ¬ S i) : OwnK k e w' base v xs := h.keep fun i _ hi hcs => a.rest i (Array.getElem?_eq_some_iff.1 hcs).1 (hg i hi)
theorem OwnZ.spare (h : OwnZ k e w base v xs) (a : Spare S w w') (hg : ∀ i, v.ownBlock = some i → ¬ S i) : OwnZ k e w' base v xs := h.keep fun i _ hi hcs => a.rest i (Array.getElem?_eq_some_iff.1 hcs).1 (hg i hi)
theorem OwnB.spare (h : OwnB Z w base v xs) (a : Spare S w w') (hg : ∀ i, v.ownBlock = some i → ¬ S i) : OwnB Z w' base v xs := h.keep fun i _ hi hcs => a.rest i (Array.getElem?_eq_some_iff.1 hcs).1 (hg i hi)
theorem OLst.spare (h : OLst Z w base v ps) (a : Spare S w w') (hv : ∀ i, v.ownBlock = some i → ¬ S i) (hp : ∀ p ∈ ps, ∀ i, (partV p).ownBlock = some i → ¬ S i) : OLst Z w' base v ps :=
  ⟨h.row.keep fun i _ hi hcs => a.rest i (Array.getElem?_eq_some_iff.1 hcs).1 (hv i hi), fun p hq => ⟨(h.each p hq).1.spare a (hp p hq), (h.each p hq).2⟩, h.apart⟩
/-- the block of an object is not that of a row of another type -/
theorem OwnK.notBlk (h : OwnK k e w base v xs) (hB : Blk w g T cs) (hT : T ≠ e) : v.ownBlock ≠ some g := fun hi => by
  obtain ⟨_, cs', hcs⟩ := h.block hi
  rw [show w.heap[g]? = _ from hB] at hcs
  simp only [Option.some.injEq, Obj.cells.injEq] at hcs
  exact hT hcs.2.1
theorem OLst.notBlk (h : OLst Z w base v ps) (hB : Blk w g T cs) (hT : T ≠ 29) (hT' : T ≠ 5) : v.ownBlock ≠ some g ∧ ∀ p ∈ ps, (partV p).ownBlock ≠ some g := by
  refine ⟨fun hi => ?_, fun p hp => (h.each p hp).1.1.notBlk hB hT'⟩
  obtain ⟨_, cs', hcs⟩ := h.row.block hi
  rw [show w.heap[g]? = _ from hB] at hcs
  simp only [Option.some.injEq, Obj.cells.injEq] at hcs
  exact hT hcs.2.1
theorem OLst.notRow (h : OLst Z w base v ps) {base' : Nat} (hu : OwnK .u8 5 w base' u xs) : ∀ i, v.ownBlock = some i → u.ownBlock ≠ some i := fun i hi hui => by
  obtain ⟨_, cs', hcs⟩ := h.row.block hi
  obtain ⟨_, cs2, hcs2⟩ := hu.block hui
  rw [hcs] at hcs2
  have hne : 29 ≠ 5 := by decide
  simp only [Option.some.injEq, Obj.cells.injEq] at hcs2
  exact absurd hcs2.2.1 hne
theorem Wander.refl (w : World) (v : Value) : Wander w v v := fun i hi => .inl hi
theorem Wander.none (w : World) (v : Value) : Wander w v (.slice none 0 0) := fun i hi => by cases hi
theorem Away.nil (v : Value) : Away [] v := fun p hp => by cases hp
/-- rows that were there, and new ones, while an object's row wanders -/
theorem Away.step (h : Away ps v) (hw : Wander w v v') (ho : OLst Z w base u ps) (hq : Away qs v') : Away (ps ++ qs) v' := fun p hp i hi hv => by
  rcases List.mem_append.1 hp with hp | hp
  · rcases hw i hv with h1 | h1
    · exact h p hp i hi h1
    · obtain ⟨_, cs', hcs⟩ := (ho.each p hp).1.1.block hi
      have := (Array.getElem?_eq_some_iff.1 hcs).1
      omega
  · exact hq p hp i hi hv
end

section
variable {w : World} {ops : Array Oper} {rest : List Oper} {o : Oper} {a : Act} {Q : Exit → Act → World → Prop}
/-- append(out, src...), out an object's row, src whatever reads as bytes; where the new slice heads is told -/
theorem wpList_append_bytesW (hgd : o.guard = none) (s x : Operand)
    (ho : o.op = .call { callee := .builtin .append, args := #[s, x], argTypes := #[29, 29] })
    (base : Nat) (v : Value) (xs : List Int) (hs : a.eval s = v) (hown : Own w base v xs) (B : Nat) (A : Option Addr) (m c : Nat) (ys : List Int) (hx : a.eval x = .slice A m c)
    (hr : Holds w B A m c ys) (hlen : xs.length + ys.length ≤ 140737488355328) (hbase : base ≤ w.heap.size)
    (h : ∀ v' w', Hid (Own w' base v' (xs ++ ys)) → Hid (Spare (fun j => v.ownBlock = some j) w w') → Hid (Wander w v v') → wpList Try.prog ops Q rest (a.put o.dst v') w') :
    wpList Try.prog ops Q (o :: rest) a w := by
  obtain ⟨i0, hi, hz0, hz1, hz2⟩ := info_parts info_u8
  have hl := hr.len
  rcases A with _ | ad
  · have hc := hr.bare rfl
    have hf := hr.fit
    have hm : m = 0 := by omega
    subst hm
    subst hc
    have : ys = [] := List.eq_nil_of_length_eq_zero hl
    subst this
    refine wpList_append_own_none hgd s x 29 ho base 5 i0 1 Try.underlying29 hi v xs.length _ hs hown hx ?_
    exact h v w (by rw [List.append_nil]; exact hown) (Spare.refl _ _) (Wander.refl _ _)
  · obtain ⟨v', w', hrun, ho', hg', hwh⟩ := run_append_whither (P := Try.prog) w 29 o.type 5 i0 (.int .u8 0) 1 Try.underlying29 hi hz0 hz1 hz2 rfl base v xs.length (xs.map (Value.int .u8)) hown ad m c (ys.map (Value.int .u8)) (by simp [hl])
      (fun j u hj => by
        have hjl : j < ys.length := by
          by_cases hj' : j < ys.length
          · exact hj'
          · rw [List.getElem?_eq_none (by simp; omega)] at hj
            cases hj
        obtain ⟨b, off, he, _, hcl⟩ := hr.cells (by omega)
        obtain rfl := Option.some.inj he
        have e : (⟨b, off, none⟩ : Addr).add j = ⟨b, off + j, none⟩ := by
          by_cases hj0 : j = 0
          · subst hj0; simp [Addr.add]
          · simp [Addr.add, hj0]
        rw [e, hcl j (by omega), ← hj]
        simp [hjl])
      (by intro v hv; obtain ⟨x, _, rfl⟩ := List.mem_map.1 hv; rfl) (by unfold maxLen; omega) (by omega) hbase
    refine wpList_plain hgd fun K hK => ?_
    unfold Oper.wp execOp
    simp only [ho, resolve, invoke, builtin, Sem.run_bind, Sem.run_pure, Result.andThen_ok, List.map_toArray, List.map_cons, List.map_nil, hs, hx, hrun]
    refine hK _ _ (h v' w' ?_ (Spare.of_grown hg') ?_)
    · show World.ownsRow _ _ _ _ _ _ _
      rw [List.length_append, List.map_append, hl]
      exact ho'
    · intro i hi
      rcases hwh with h1 | ⟨g, h1, h2⟩
      · exact .inl (h1 ▸ hi)
      · rw [h1] at hi
        injection hi with hi
        subst hi
        exact .inr h2
/-- append(out, src...), out the call's own row of values of one cell, src whatever holds such values; where the new slice heads is told -/
theorem wpList_append_holdW {α : Type} (f : α → Value) (hf : ∀ y, (f y).oneCell' = true) (z : Value) (hzc : z.cells.size = 1) (T e : TypeId) (bytes : Nat) {P : Program}
    (ht : P.underlying T = some (.slice e)) (hi : (P.info? e).map (fun i => (i.zero, i.size, i.bytes)) = some (some z, 1, bytes)) (hgd : o.guard = none) (s x : Operand)
    (ho : o.op = .call { callee := .builtin .append, args := #[s, x], argTypes := #[T, T] })
    (base : Nat) (v : Value) (xs : List α) (hs : a.eval s = v) (hown : OwnF f e w base v xs) (B : Nat) (A : Option Addr) (m c : Nat) (ys : List α) (hx : a.eval x = .slice A m c)
    (hr : HoldsF f w B A m c ys) (hlen : (xs.length + ys.length) * bytes ≤ 140737488355328) (h63 : xs.length + ys.length ≤ 9223372036854775807) (hbase : base ≤ w.heap.size)
    (h : ∀ v' w', Hid (OwnF f e w' base v' (xs ++ ys)) → Hid (Spare (fun j => v.ownBlock = some j) w w') → Hid (Wander w v v') → wpList P ops Q rest (a.put o.dst v') w') :
    wpList P ops Q (o :: rest) a w := by
  obtain ⟨i0, hi0, hz0, hz1, hz2⟩ := info_parts hi
  have hl := hr.len
  rcases A with _ | ad
  · have hc := hr.bare rfl
    have hft := hr.fit
    have hm : m = 0 := by omega
    subst hm
    subst hc
    have : ys = [] := List.eq_nil_of_length_eq_zero hl
    subst this
    refine wpList_append_own_none hgd s x T ho base e i0 1 ht hi0 v xs.length _ hs hown hx ?_
    exact h v w (by rw [List.append_nil]; exact hown) (Spare.refl _ _) (Wander.refl _ _)
  · obtain ⟨v', w', hrun, ho', hg', hwh⟩ := run_append_whither (P := P) w T o.type e i0 z bytes ht hi0 hz0 hz1 hz2 hzc base v xs.length (xs.map f) hown ad m c (ys.map f) (by simp [hl])
      (fun j u hj => by
        have hjl : j < ys.length := by
          by_cases hj' : j < ys.length
          · exact hj'
          · rw [List.getElem?_eq_none (by simp; omega)] at hj
            cases hj
        obtain ⟨b, off, he, _, hcl⟩ := hr.cells (by omega)
        obtain rfl := Option.some.inj he
        have e : (⟨b, off, none⟩ : Addr).add j = ⟨b, off + j, none⟩ := by
          by_cases hj0 : j = 0
          · subst hj0; simp [Addr.add]
          · simp [Addr.add, hj0]
        rw [e, hcl j ys[j] (List.getElem?_eq_getElem hjl), ← hj]
        simp [hjl])
      (by intro v hv; obtain ⟨x, _, rfl⟩ := List.mem_map.1 hv; exact hf x) (by unfold maxLen; omega) (by rw [← hl]; exact hlen) hbase
    refine wpList_plain hgd fun K hK => ?_
    unfold Oper.wp execOp
    simp only [ho, resolve, invoke, builtin, Sem.run_bind, Sem.run_pure, Result.andThen_ok, List.map_toArray, List.map_cons, List.map_nil, hs, hx, hrun]
    refine hK _ _ (h v' w' ?_ (Spare.of_grown hg') ?_)
    · show World.ownsRow _ _ _ _ _ _ _
      rw [List.length_append, List.map_append, hl]
      exact ho'
    · intro i hi
      rcases hwh with h1 | ⟨g, h1, h2⟩
      · exact .inl (h1 ▸ hi)
      · rw [h1] at hi
        injection hi with hi
        subst hi
        exact .inr h2
end
end Go.Proofs.Ytgbhnnobbciemaa
