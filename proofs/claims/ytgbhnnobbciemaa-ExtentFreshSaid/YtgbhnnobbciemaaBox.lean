/-
  A variable that a closure captures, as a block of one cell ('Box'); the store into it; that nothing but such a block and one row of the call's own has turned ('Turned'). No function of the program is named here.
-/
import Derived.Test.YtgbhnnobbciemaaSide
import Derived.OneCell
namespace Go.Proofs.Ytgbhnnobbciemaa
open Go.RowKit

/-- block b is a variable of type T that holds v -/
def Box (w : World) (b : Nat) (T : TypeId) (v : Value) : Prop := w.heap[b]? = some (.cells #[v] T (0, 0))

/-- nothing but block b and v's own row may have turned, of what was there -/
structure Turned (w w' : World) (b : Nat) (v : Value) : Prop where
  os : w'.os = w.os
  tape : w'.tape = w.tape
  output : w'.output = w.output
  size : w.heap.size ≤ w'.heap.size
  rest : ∀ i, i < w.heap.size → i ≠ b → v.ownBlock ≠ some i → w'.heap[i]? = w.heap[i]?

section
variable {w w' w2 : World} {b b' base base' : Nat} {T T' e : TypeId} {v v' u : Value} {k : IntKind} {xs : List Int}
theorem Box.lt (h : Box w b T v) : b < w.heap.size := lt_of_block h
theorem Box.cell (h : Box w b T v) : w.cell? ⟨b, 0, none⟩ = some v := cell_of_one h
theorem Box.frozen (h : Box w b T v) : w.frozen? ⟨b, 0, none⟩ = false := free_of_one h
theorem Box.below (h : Box w b T v) (hb : Below w.heap.size w w') : Box w' b T v := (hb.block b h.lt).trans h
theorem Box.alloc (h : Box w b T v) (o : Obj) : Box (w.alloc o) b T v := (Below.heap_alloc _ _ _ h.lt).trans h
theorem Box.grew (h : Box w b T v) (hg : Grew w w' u) (hu : OwnK k e w base u xs) (hT : T ≠ e) : Box w' b T v :=
  hg.block h fun hv => by
    obtain ⟨_, cs, hcs⟩ := hu.block hv
    unfold Box at h
    rw [hcs] at h
    simp only [Option.some.injEq, Obj.cells.injEq] at h
    exact hT h.2.1.symm
theorem Box.only (h : Box w b T v) (hO : Only b' w w') (hb : b ≠ b') : Box w' b T v := (hO.rest b hb).trans h
theorem Box.ne (h : Box w b T v) (h' : Box w b' T' v') (hT : T ≠ T') : b ≠ b' := by
  rintro rfl
  unfold Box at h h'
  rw [h] at h'
  simp only [Option.some.injEq, Obj.cells.injEq] at h'
  exact hT h'.2.1
theorem Box.own (h : Box w b T v) (hu : OwnK k e w base u xs) (hT : T ≠ e) : u.ownBlock ≠ some b := fun hv => by
  obtain ⟨_, cs, hcs⟩ := hu.block hv
  unfold Box at h
  rw [hcs] at h
  simp only [Option.some.injEq, Obj.cells.injEq] at h
  exact hT h.2.1.symm
theorem Box.turned (h : Box w b T v) (ht : Turned w w' b' u) (hb : b ≠ b') (hu : u.ownBlock ≠ some b) : Box w' b T v := (ht.rest b h.lt hb hu).trans h
theorem OwnK.only (h : OwnK k e w base v xs) (hO : Only b w w') (hB : Box w b T u) (hT : T ≠ e) : OwnK k e w' base v xs :=
  h.keep fun i _ hi _ => hO.rest i fun he => hB.own h hT (he ▸ hi)
theorem OwnK.turned (h : OwnK k e w base v xs) (ht : Turned w w' b u) (hb : v.ownBlock ≠ some b) (ha : Apart u v) : OwnK k e w' base v xs :=
  h.keep fun i _ hi hcs => ht.rest i (Array.getElem?_eq_some_iff.1 hcs).1 (fun he => hb (he ▸ hi)) fun hu => ha i hu hi

theorem Turned.refl (w : World) (b : Nat) (v : Value) : Turned w w b v := ⟨rfl, rfl, rfl, Nat.le_refl _, fun _ _ _ _ => rfl⟩
theorem Whither.refl (w : World) (v : Value) : Whither w v v := .inl rfl
theorem Whither.trans (h : Whither w v v') (h2 : Whither w' v' u) (hs : w.heap.size ≤ w'.heap.size) : Whither w v u := by
  rcases h2 with h2 | ⟨g, h2, h3⟩
  · rcases h with h | ⟨g, h, h4⟩
    · exact .inl (h2.trans h)
    · exact .inr ⟨g, h2.trans h, h4⟩
  · exact .inr ⟨g, h2, by omega⟩
/-- an append onto the row that the variable heads, and a store of what it answers -/
theorem Turned.append (ht : Turned w w' b v) (hw : Whither w v v') (hg : Grew w' w2 v') {w3 : World} (hO : Only b w2 w3) : Turned w w3 b v := by
  obtain ⟨o, hg⟩ := hg
  have hs := hg.size
  have ha : (w'.alloc o).heap.size = w'.heap.size + 1 := by simp
  refine ⟨hO.os.trans (hg.os.trans ht.os), hO.tape.trans (hg.tape.trans ht.tape), hO.output.trans (hg.output.trans ht.output), by rw [hO.size]; have := ht.size; omega, fun i hi hb hv => ?_⟩
  have hsz := ht.size
  rw [hO.rest i hb, hg.block i (by omega) ?_, Below.heap_alloc _ _ _ (by omega), ht.rest i hi hb hv]
  rintro he
  rcases hw with h | ⟨g, h, h4⟩
  · exact hv (h ▸ he.symm)
  · rw [h] at he
    injection he with he
    omega
theorem Turned.trans (ht : Turned w w' b v) (hw : Whither w v v') (ht2 : Turned w' w2 b v') : Turned w w2 b v := by
  have hsz := ht.size
  refine ⟨ht2.os.trans ht.os, ht2.tape.trans ht.tape, ht2.output.trans ht.output, by have := ht2.size; omega, fun i hi hb hv => ?_⟩
  rw [ht2.rest i (by omega) hb ?_, ht.rest i hi hb hv]
  intro he
  rcases hw with h | ⟨g, h, h4⟩
  · exact hv (h ▸ he)
  · rw [h] at he
    injection he with he
    omega
theorem Turned.below (ht : Turned w w' b v) (hbb : base ≤ b) (ho : OwnK k e w base v xs) (hs : base ≤ w.heap.size) : Below base w w' :=
  ⟨ht.os, ht.tape, ht.output, ht.size, fun i hi => ht.rest i (by omega) (by omega) fun hv => by
    have := (ho.block hv).1
    omega⟩

theorem run_storeVar_one {P : Program} (w : World) (g : Nat) (t ty : TypeId) (v u : Value) (hg : w.heap[g]? = some (.cells #[v] t (0, 0))) (hi : (P.info? ty).map (·.size) = some 1) (h1 : u.oneCell' = true) :
    (storeVar ty ⟨g, 0, none⟩ u).run P w = .ok () (w.setRow g #[u]) := by
  have hc : u.cells = #[u] := by cases u <;> first | rfl | (simp [Value.oneCell'] at h1)
  have := run_storeCells_from (P := P) g t [u] 0 #[v] w hg (by simp) (fun x hx => by obtain rfl := List.mem_singleton.1 hx; exact h1)
  cases hq : P.info? ty with
  | none => simp [hq] at hi
  | some i =>
    have hs : i.size = 1 := by simpa [hq] using hi
    simp [storeVar, sizeOf, typeInfo, hq, hc, hs]
    simpa using this

/-- a store into such a variable -/
theorem wpList_store_box {P : Program} {ops : Array Oper} {rest : List Oper} {o : Oper} {a : Act} {Q : Exit → Act → World → Prop} (hgd : o.guard = none) (T : TypeId) (x y : Operand) (ho : o.op = .store T x y) (b : Nat) (hx : a.eval x = .pointer (some ⟨b, 0, none⟩))
    (u : Value) (hy : a.eval y = u) (T' : TypeId) (v : Value) (hB : Box w b T' v) (hi : (P.info? T).map (·.size) = some 1) (h1 : u.oneCell' = true)
    (h : ∀ w', Hid (Box w' b T' u) → Hid (Only b w w') → wpList P ops Q rest a w') (hd : o.dst = none := by rfl) : wpList P ops Q (o :: rest) a w := by
  have hp : a.put o.dst undef = a := by rw [hd]; rfl
  refine wpList_plain hgd fun K hK => ?_
  unfold Oper.wp execOp
  simp only [ho, hx, hy, Instr.storeAt, Instr.sureAddr, Sem.run_bind, Sem.run_pure, Result.andThen_ok, run_storeVar_one w b T' T v u hB hi h1]
  show K (a.put o.dst undef) _
  rw [hp]
  refine hK _ _ (h _ ?_ ((Only.refl b w).setRow _))
  exact setRow_heap w b _ _ T' (0, 0) hB

/-- a variable that gets a block of its own -/
theorem wpList_alloc_box {P : Program} {ops : Array Oper} {rest : List Oper} {o : Oper} {a : Act} {Q : Exit → Act → World → Prop} (hg : o.guard = none) (T : TypeId) (ho : o.op = .alloc T) (z : Value) (hi : (P.info? T).map (fun i => (i.zero, i.size)) = some (some z, 1)) (hz : z.cells = #[z])
    (h : ∀ b w', w.heap.size ≤ b → b < w'.heap.size → Hid (Box w' b T z) → Hid (Below w.heap.size w w') → wpList P ops Q rest (a.put o.dst (.pointer (some ⟨b, 0, none⟩))) w') : wpList P ops Q (o :: rest) a w := by
  refine wpList_plain hg fun K hK => ?_
  unfold Oper.wp execOp
  have hz0 := (zero_of_info hi).1
  simp only [ho, Sem.run_bind, Instr.alloc, hz0, newVar, newRow, hz, run_newObj_alloc, Sem.run_pure, Result.andThen_ok]
  refine hK _ _ (h _ _ (Nat.le_refl _) (by simp) ?_ ((Below.refl _ _).alloc (Nat.le_refl _) _))
  exact heap_alloc_new w _
/-- a store into such a variable that lies above B -/
theorem Only.iter (hO : Only b w w') (hB : Box w b T v) {K : Nat} {s : ByteArray} {p : Nat} (hK : w.heap[K]? = some (.stringIter s p)) : w'.heap[K]? = some (.stringIter s p) := by
  rw [hO.rest K ?_, hK]
  rintro rfl
  unfold Box at hB
  rw [hB] at hK
  cases hK
theorem Box.iterAt (h : Box w b T v) {K : Nat} {s : ByteArray} {p : Nat} (hK : w.heap[K]? = some (.stringIter s p)) (p' : Nat) : Box (w.iterAt K s p') b T v :=
  (Lib.iterAt_other w K b s p' (fun e => by subst e; unfold Box at h; rw [h] at hK; cases hK)).trans h
end
end Go.Proofs.Ytgbhnnobbciemaa
