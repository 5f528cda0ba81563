import Derived.Test.YtepkamkgodbffaaDoorZA
import Derived.Deep.DeepCutAuto
import Derived.OneCell
import Derived.Deep.Strs
import Derived.Laws.AppendOwnNone
import Derived.SizedLaws
import Derived.Deep.MidRow
import Derived.OrdersHeld
import Derived.Laws.StructEq
import Derived.ChangeKeysEq
import Derived.WalkKit
import Derived.WalkSpells
import Derived.WalkLawsBesides
import Derived.Deep.QuietTactic
import Derived.BigQuiet
import Derived.Lib.Hide
import Derived.Deep.RegionLaw
/-
  Two rows that grow side by side: rows that lie apart ('Apart'), where an append's answer heads ('Whither'), the append that tells it. No function of the program is named here.
-/
namespace Go.Proofs.YtepkamkgodbffaaDoor
open Go.RowKit

/-! ### two rows of one kind, in blocks of their own -/

/-- the two slices head different blocks -/
def Apart (v u : Value) : Prop := ∀ i, v.ownBlock = some i → u.ownBlock ≠ some i
theorem Apart.nil (u : Value) : Apart (.slice none 0 0) u := fun i h => by cases h
theorem Apart.nil' (v : Value) : Apart v (.slice none 0 0) := fun i _ h => by cases h
theorem Apart.symm {v u : Value} (h : Apart v u) : Apart u v := fun i hu hv => h i hv hu

section
variable {k k' : IntKind} {e e' : TypeId} {w w' : World} {base base' : Nat} {v v' u : Value} {xs ys : List Int}
theorem OwnK.lt (h : OwnK k e w base v xs) {i : Nat} (hi : v.ownBlock = some i) : i < w.heap.size := (World.ownsRow.lt h i hi).2
theorem Grew.apart (hg : Grew w w' v) (h' : OwnK k' e' w base' u ys) (ha : Apart v u) : OwnK k' e' w' base' u ys :=
  h'.keep fun i cs hi hcs => by rw [hg.block hcs fun hv => ha i hv hi, hcs]
theorem OwnK.grown (h' : OwnK k' e' w base' u ys) (hg : w.grownBy w' v.ownBlock) (ha : Apart v u) : OwnK k' e' w' base' u ys :=
  h'.keep fun i _ hi hcs => hg.block i (Array.getElem?_eq_some_iff.1 hcs).1 fun he => ha i he.symm hi
theorem Arr.grew {g : Nat} {T : TypeId} {zs : List Int} (a : Arr w g k' T zs) (hg : Grew w w' v) (h : OwnK k e w base v xs) (hT : T ≠ e) : Arr w' g k' T zs :=
  hg.block a fun hv => by
    obtain ⟨_, cs, hcs⟩ := h.block hv
    unfold Arr at a
    rw [hcs] at a
    simp only [Option.some.injEq, Obj.cells.injEq] at a
    exact hT a.2.1.symm
/-- where the new slice heads: the old block, or a new one -/
def Whither (w : World) (v v' : Value) : Prop := v'.ownBlock = v.ownBlock ∨ ∃ g, v'.ownBlock = some g ∧ w.heap.size ≤ g
theorem Apart.whither (ha : Apart v u) (hw : Whither w v v') (hu : OwnK k e w base u ys) : Apart v' u := fun i hi hui => by
  rcases hw with h | ⟨g, hg, hge⟩
  · exact ha i (h ▸ hi) hui
  · rw [hg] at hi
    injection hi with hi
    subst hi
    have := hu.lt hui
    omega
end

theorem run_append_whither {P : Program} (w : World) (t ty e : TypeId) (i : TypeInfo) (z : Value) (bytes : Nat) (ht : P.underlying t = some (.slice e)) (hi : P.info? e = some i) (hz : i.zero = some z) (hsize : i.size = 1) (hby : i.bytes = bytes) (hzs : z.cells.size = 1)
    (base : Nat) (v : Value) (n : Nat) (xs : List Value) (hown : w.ownsRow base e 1 v n xs) (a : Addr) (m c : Nat) (news : List Value) (hl : news.length = m * 1) (hnews : ∀ j u, news[j]? = some u → w.cell? (a.add j) = some u) (h1 : ∀ u ∈ news, u.oneCell' = true)
    (h63 : n + m ≤ maxLen) (hbytes : (n + m) * bytes ≤ 140737488355328) (hbase : base ≤ w.heap.size) :
    ∃ v' w', (Builtin.append_ #[t, t] ty #[v, .slice (some a) m c]).run P w = .ok v' w' ∧ w'.ownsRow base e 1 v' (n + m) (xs ++ news) ∧ w.grownBy w' v.ownBlock ∧ Whither w v v' := by
  obtain ⟨v', w', hr, ho, hg, hnil⟩ := run_append_own (P := P) w base t ty e i z 1 bytes ht hi hz hsize hby hzs (by omega) v n xs hown a m c news hl hnews h1 h63 hbytes hbase
  refine ⟨v', w', hr, ho, hg, ?_⟩
  have hsmall : n + m ≤ 9223372036854775807 := by simp only [maxLen] at h63; omega
  rcases hown.2 with ⟨rfl, rfl⟩ | ⟨g, cap, cur, rfl, hbg, hgg, hnc, hcm, hcs, htake⟩
  · have hx : xs = [] := List.eq_nil_of_length_eq_zero (by simpa using hown.1)
    subst hx
    obtain ⟨v2, w2, hr2, ho2, _, _⟩ := run_append_own (P := P) w w.heap.size t ty e i z 1 bytes ht hi hz hsize hby hzs (by omega) (.slice none 0 0) 0 [] (World.ownsRow_nil w _ e 1) a m c news hl hnews h1 h63 hbytes (Nat.le_refl _)
    rw [hr] at hr2
    injection hr2 with e1 e2
    subst e1 e2
    rcases ho2.2 with ⟨rfl, _⟩ | ⟨g, cap, cur, rfl, hb, _⟩
    · exact .inl rfl
    · exact .inr ⟨g, rfl, hb⟩
  · by_cases hroom : n + m ≤ cap
    · have hfit : n * i.size + news.length ≤ cur.size := by rw [hl, hcs, hsize]; omega
      have hr2 := run_append_room (P := P) w t ty e i ht hi g n cap cur hgg a m c news (by rw [hl, hsize]) hnews h1 hroom hfit
      rw [hr] at hr2
      injection hr2 with e1 e2
      subst e1
      exact .inl rfl
    · have holds : ∀ j u, xs[j]? = some u → w.cell? ((⟨g, 0, none⟩ : Addr).add j) = some u := hown.cells (g := g) rfl
      have hr2 := run_append_grow (P := P) w t ty e i z ht hi hz ⟨g, 0, none⟩ n cap xs (by rw [hsize]; exact hown.1) holds a m c news (by rw [hl, hsize]) hnews (by omega) (by omega) (growslice_fits (by omega) (by rw [hby]; exact hbytes))
      rw [hr] at hr2
      injection hr2 with e1 e2
      subst e1
      exact .inr ⟨_, rfl, Nat.le_refl _⟩

/-- append(l, xs..), the new ones lying in a block of their own that has just been laid, onto a row of the call's own; where the new slice heads is told -/
theorem wpList_append_litW {P : Program} {w : World} {ops : Array Oper} {rest : List Oper} {o : Oper} {a : Act} {Q : Exit → Act → World → Prop} (hgd : o.guard = none) (s x : Operand) (k : IntKind) (T e : TypeId) (bytes : Nat)
    (ht : P.underlying T = some (.slice e)) (hi : (P.info? e).map (fun i => (i.zero, i.size, i.bytes)) = some (some (.int k 0), 1, bytes))
    (ho : o.op = .call { callee := .builtin .append, args := #[s, x], argTypes := #[T, T] })
    (base : Nat) (v : Value) (xs ys : List Int) (cs : Array Value) (hcs : cs = (ys.map (Value.int k)).toArray) (m c : Nat) (hm : ys.length = m) (hs : a.eval s = v) (hx : a.eval x = .slice (some ⟨w.heap.size, 0, none⟩) m c)
    (hown : OwnK k e w base v xs) (hlen : (xs.length + m) * bytes ≤ 140737488355328) (h63 : xs.length + m ≤ 9223372036854775807) (hbase : base ≤ w.heap.size)
    (h : ∀ v' w', Hid (OwnK k e w' base v' (xs ++ ys)) → Hid (Grew w w' v) → Hid (Whither w v v') → wpList P ops Q rest (a.put o.dst v') w') :
    wpList P ops Q (o :: rest) a (w.alloc (.cells cs e)) := by
  obtain ⟨i0, hi0, hz0, hz1, hz2⟩ := info_parts hi
  subst hcs
  have hr : (w.alloc (.cells (ys.map (Value.int k)).toArray e)).heap[w.heap.size]? = some (.cells (ys.map (Value.int k)).toArray e (0, 0)) := heap_alloc_new w _
  obtain ⟨v', w', hrun, ho', hg', hwh⟩ := run_append_whither (P := P) (w.alloc (.cells (ys.map (Value.int k)).toArray e)) T o.type e i0 (.int k 0) bytes ht hi0 hz0 hz1 hz2 rfl base v xs.length (xs.map (Value.int k)) (OwnK.alloc hown _) ⟨w.heap.size, 0, none⟩ m c (ys.map (Value.int k)) (by simp [hm])
    (fun j y hj => by
      have e1 : (⟨w.heap.size, 0, none⟩ : Addr).add j = ⟨w.heap.size, j, none⟩ := by
        by_cases hj0 : j = 0
        · subst hj0; simp [Addr.add]
        · simp [Addr.add, hj0]
      rw [e1, cell_of_row _ w.heap.size j _ e (0, 0) hr, ← hj]
      simp)
    (by intro v hv; obtain ⟨x, _, rfl⟩ := List.mem_map.1 hv; rfl) (by unfold maxLen; omega) hlen (by simp; omega)
  refine wpList_plain hgd fun K hK => ?_
  unfold Oper.wp execOp
  simp only [ho, resolve, invoke, builtin, Sem.run_bind, Sem.run_pure, Result.andThen_ok, List.map_toArray, List.map_cons, List.map_nil, hs, hx, hrun]
  refine hK _ _ (h v' w' ?_ ⟨_, hg'⟩ ?_)
  · show World.ownsRow _ _ _ _ _ _ _
    rw [List.length_append, List.map_append, hm]
    exact ho'
  · rcases hwh with h1 | ⟨g, h1, h2⟩
    · exact .inl h1
    · exact .inr ⟨g, h1, by simp at h2; omega⟩
end Go.Proofs.YtepkamkgodbffaaDoor

/-
  A variable that a closure captures, as a block of one cell ('Box'); the store into it; that nothing but such a block and one row of the call's own has turned ('Turned'). No function of the program is named here.
-/
namespace Go.Proofs.YtepkamkgodbffaaDoor
open Go.RowKit

/-- block b is a variable of type T that holds v -/
def Box (w : World) (b : Nat) (T : TypeId) (v : Value) : Prop := w.heap[b]? = some (.cells #[v] T (0, 0))

/-- nothing but block b and v's own row may have turned, of what was there -/
structure Turned (w w' : World) (b : Nat) (v : Value) : Prop where
  os : w'.os = w.os
  tape : w'.tape = w.tape
  output : w'.output = w.output
  size : w.heap.size ≤ w'.heap.size
  rest : ∀ i, i < w.heap.size → i ≠ b → v.ownBlock ≠ some i → w'.heap[i]? = w.heap[i]?

section
variable {w w' w2 : World} {b b' base base' : Nat} {T T' e : TypeId} {v v' u : Value} {k : IntKind} {xs : List Int}
theorem Box.lt (h : Box w b T v) : b < w.heap.size := lt_of_block h
theorem Box.cell (h : Box w b T v) : w.cell? ⟨b, 0, none⟩ = some v := cell_of_one h
theorem Box.frozen (h : Box w b T v) : w.frozen? ⟨b, 0, none⟩ = false := free_of_one h
theorem Box.below (h : Box w b T v) (hb : Below w.heap.size w w') : Box w' b T v := (hb.block b h.lt).trans h
theorem Box.alloc (h : Box w b T v) (o : Obj) : Box (w.alloc o) b T v := (Below.heap_alloc _ _ _ h.lt).trans h
theorem Box.grew (h : Box w b T v) (hg : Grew w w' u) (hu : OwnK k e w base u xs) (hT : T ≠ e) : Box w' b T v :=
  hg.block h fun hv => by
    obtain ⟨_, cs, hcs⟩ := hu.block hv
    unfold Box at h
    rw [hcs] at h
    simp only [Option.some.injEq, Obj.cells.injEq] at h
    exact hT h.2.1.symm
theorem Box.only (h : Box w b T v) (hO : Only b' w w') (hb : b ≠ b') : Box w' b T v := (hO.rest b hb).trans h
theorem Box.ne (h : Box w b T v) (h' : Box w b' T' v') (hT : T ≠ T') : b ≠ b' := by
  rintro rfl
  unfold Box at h h'
  rw [h] at h'
  simp only [Option.some.injEq, Obj.cells.injEq] at h'
  exact hT h'.2.1
theorem Box.own (h : Box w b T v) (hu : OwnK k e w base u xs) (hT : T ≠ e) : u.ownBlock ≠ some b := fun hv => by
  obtain ⟨_, cs, hcs⟩ := hu.block hv
  unfold Box at h
  rw [hcs] at h
  simp only [Option.some.injEq, Obj.cells.injEq] at h
  exact hT h.2.1.symm
theorem Box.turned (h : Box w b T v) (ht : Turned w w' b' u) (hb : b ≠ b') (hu : u.ownBlock ≠ some b) : Box w' b T v := (ht.rest b h.lt hb hu).trans h
theorem OwnK.only (h : OwnK k e w base v xs) (hO : Only b w w') (hB : Box w b T u) (hT : T ≠ e) : OwnK k e w' base v xs :=
  h.keep fun i _ hi _ => hO.rest i fun he => hB.own h hT (he ▸ hi)
theorem OwnK.turned (h : OwnK k e w base v xs) (ht : Turned w w' b u) (hb : v.ownBlock ≠ some b) (ha : Apart u v) : OwnK k e w' base v xs :=
  h.keep fun i _ hi hcs => ht.rest i (Array.getElem?_eq_some_iff.1 hcs).1 (fun he => hb (he ▸ hi)) fun hu => ha i hu hi

theorem Turned.refl (w : World) (b : Nat) (v : Value) : Turned w w b v := ⟨rfl, rfl, rfl, Nat.le_refl _, fun _ _ _ _ => rfl⟩
theorem Whither.refl (w : World) (v : Value) : Whither w v v := .inl rfl
theorem Whither.trans (h : Whither w v v') (h2 : Whither w' v' u) (hs : w.heap.size ≤ w'.heap.size) : Whither w v u := by
  rcases h2 with h2 | ⟨g, h2, h3⟩
  · rcases h with h | ⟨g, h, h4⟩
    · exact .inl (h2.trans h)
    · exact .inr ⟨g, h2.trans h, h4⟩
  · exact .inr ⟨g, h2, by omega⟩
/-- an append onto the row that the variable heads, and a store of what it answers -/
theorem Turned.append (ht : Turned w w' b v) (hw : Whither w v v') (hg : Grew w' w2 v') {w3 : World} (hO : Only b w2 w3) : Turned w w3 b v := by
  obtain ⟨o, hg⟩ := hg
  have hs := hg.size
  have ha : (w'.alloc o).heap.size = w'.heap.size + 1 := by simp
  refine ⟨hO.os.trans (hg.os.trans ht.os), hO.tape.trans (hg.tape.trans ht.tape), hO.output.trans (hg.output.trans ht.output), by rw [hO.size]; have := ht.size; omega, fun i hi hb hv => ?_⟩
  have hsz := ht.size
  rw [hO.rest i hb, hg.block i (by omega) ?_, Below.heap_alloc _ _ _ (by omega), ht.rest i hi hb hv]
  rintro he
  rcases hw with h | ⟨g, h, h4⟩
  · exact hv (h ▸ he.symm)
  · rw [h] at he
    injection he with he
    omega
theorem Turned.trans (ht : Turned w w' b v) (hw : Whither w v v') (ht2 : Turned w' w2 b v') : Turned w w2 b v := by
  have hsz := ht.size
  refine ⟨ht2.os.trans ht.os, ht2.tape.trans ht.tape, ht2.output.trans ht.output, by have := ht2.size; omega, fun i hi hb hv => ?_⟩
  rw [ht2.rest i (by omega) hb ?_, ht.rest i hi hb hv]
  intro he
  rcases hw with h | ⟨g, h, h4⟩
  · exact hv (h ▸ he)
  · rw [h] at he
    injection he with he
    omega
theorem Turned.below (ht : Turned w w' b v) (hbb : base ≤ b) (ho : OwnK k e w base v xs) (hs : base ≤ w.heap.size) : Below base w w' :=
  ⟨ht.os, ht.tape, ht.output, ht.size, fun i hi => ht.rest i (by omega) (by omega) fun hv => by
    have := (ho.block hv).1
    omega⟩

theorem run_storeVar_one {P : Program} (w : World) (g : Nat) (t ty : TypeId) (v u : Value) (hg : w.heap[g]? = some (.cells #[v] t (0, 0))) (hi : (P.info? ty).map (·.size) = some 1) (h1 : u.oneCell' = true) :
    (storeVar ty ⟨g, 0, none⟩ u).run P w = .ok () (w.setRow g #[u]) := by
  have hc : u.cells = #[u] := by cases u <;> first | rfl | (simp [Value.oneCell'] at h1)
  have := run_storeCells_from (P := P) g t [u] 0 #[v] w hg (by simp) (fun x hx => by obtain rfl := List.mem_singleton.1 hx; exact h1)
  cases hq : P.info? ty with
  | none => simp [hq] at hi
  | some i =>
    have hs : i.size = 1 := by simpa [hq] using hi
    simp [storeVar, sizeOf, typeInfo, hq, hc, hs]
    simpa using this

/-- a store into such a variable -/
theorem wpList_store_box {P : Program} {ops : Array Oper} {rest : List Oper} {o : Oper} {a : Act} {Q : Exit → Act → World → Prop} (hgd : o.guard = none) (T : TypeId) (x y : Operand) (ho : o.op = .store T x y) (b : Nat) (hx : a.eval x = .pointer (some ⟨b, 0, none⟩))
    (u : Value) (hy : a.eval y = u) (T' : TypeId) (v : Value) (hB : Box w b T' v) (hi : (P.info? T).map (·.size) = some 1) (h1 : u.oneCell' = true)
    (h : ∀ w', Hid (Box w' b T' u) → Hid (Only b w w') → wpList P ops Q rest a w') (hd : o.dst = none := by rfl) : wpList P ops Q (o :: rest) a w := by
  have hp : a.put o.dst undef = a := by rw [hd]; rfl
  refine wpList_plain hgd fun K hK => ?_
  unfold Oper.wp execOp
  simp only [ho, hx, hy, Instr.storeAt, Instr.sureAddr, Sem.run_bind, Sem.run_pure, Result.andThen_ok, run_storeVar_one w b T' T v u hB hi h1]
  show K (a.put o.dst undef) _
  rw [hp]
  refine hK _ _ (h _ ?_ ((Only.refl b w).setRow _))
  exact setRow_heap w b _ _ T' (0, 0) hB

/-- a variable that gets a block of its own -/
theorem wpList_alloc_box {P : Program} {ops : Array Oper} {rest : List Oper} {o : Oper} {a : Act} {Q : Exit → Act → World → Prop} (hg : o.guard = none) (T : TypeId) (ho : o.op = .alloc T) (z : Value) (hi : (P.info? T).map (fun i => (i.zero, i.size)) = some (some z, 1)) (hz : z.cells = #[z])
    (h : ∀ b w', w.heap.size ≤ b → b < w'.heap.size → Hid (Box w' b T z) → Hid (Below w.heap.size w w') → wpList P ops Q rest (a.put o.dst (.pointer (some ⟨b, 0, none⟩))) w') : wpList P ops Q (o :: rest) a w := by
  refine wpList_plain hg fun K hK => ?_
  unfold Oper.wp execOp
  have hz0 := (zero_of_info hi).1
  simp only [ho, Sem.run_bind, Instr.alloc, hz0, newVar, newRow, hz, run_newObj_alloc, Sem.run_pure, Result.andThen_ok]
  refine hK _ _ (h _ _ (Nat.le_refl _) (by simp) ?_ ((Below.refl _ _).alloc (Nat.le_refl _) _))
  exact heap_alloc_new w _
/-- a store into such a variable that lies above B -/
theorem Only.iter (hO : Only b w w') (hB : Box w b T v) {K : Nat} {s : ByteArray} {p : Nat} (hK : w.heap[K]? = some (.stringIter s p)) : w'.heap[K]? = some (.stringIter s p) := by
  rw [hO.rest K ?_, hK]
  rintro rfl
  unfold Box at hB
  rw [hB] at hK
  cases hK
theorem Box.iterAt (h : Box w b T v) {K : Nat} {s : ByteArray} {p : Nat} (hK : w.heap[K]? = some (.stringIter s p)) (p' : Nat) : Box (w.iterAt K s p') b T v :=
  (Lib.iterAt_other w K b s p' (fun e => by subst e; unfold Box at h; rw [h] at hK; cases hK)).trans h
end
end Go.Proofs.YtepkamkgodbffaaDoor

/-
  Rows of values of one cell each, whatever they are ('OwnF f': f lays an element as a value; texts, truth values, numbers): the call's own ('OwnF'), or such as came in ('HoldsF'); the laws at make and append over them; a []string argument opened ('open_texts'). No function of the program is named here.
-/
namespace Go.Proofs.YtepkamkgodbffaaDoor
open Go.RowKit Go.ChangeShapes Go.WideShapes

/-- the slice value v is nil, or heads a row in a block from 'base' on that begins with the elements xs -/
def OwnF {α : Type} (f : α → Value) (e : TypeId) (w : World) (base : Nat) (v : Value) (xs : List α) : Prop := w.ownsRow base e 1 v xs.length (xs.map f)

/-- the slice value '.slice A n c' holds the elements xs, in memory below block B -/
structure HoldsF {α : Type} (f : α → Value) (w : World) (B : Nat) (A : Option Addr) (n c : Nat) (xs : List α) : Prop where
  len : xs.length = n
  fit : n ≤ c
  bare : A = none → c = 0
  cells : 0 < n → ∃ b off, A = some ⟨b, off, none⟩ ∧ b < B ∧ ∀ i x, xs[i]? = some x → w.cell? ⟨b, off + i, none⟩ = some (f x)

section
variable {α : Type} {f : α → Value} {w w' w2 : World} {B B' base base' b : Nat} {A : Option Addr} {n c : Nat} {xs ys : List α} {e e' T : TypeId} {v v' u : Value}

theorem HoldsF.keep (h : HoldsF f w B A n c xs) (hk : ∀ p : Addr, p.block < B → w'.cell? p = w.cell? p) : HoldsF f w' B A n c xs :=
  ⟨h.len, h.fit, h.bare, fun hn => by
    obtain ⟨b, off, e, hb, hc⟩ := h.cells hn
    exact ⟨b, off, e, hb, fun i x hi => (hk _ hb).trans (hc i x hi)⟩⟩
theorem HoldsF.mono (h : HoldsF f w B A n c xs) (hB : B ≤ B') : HoldsF f w B' A n c xs :=
  ⟨h.len, h.fit, h.bare, fun hn => by
    obtain ⟨b, off, e, hb, hc⟩ := h.cells hn
    exact ⟨b, off, e, by omega, hc⟩⟩
theorem HoldsF.below (h : HoldsF f w B A n c xs) (hb : Below B w w') : HoldsF f w' B A n c xs := h.keep fun _ hp => hb.cell hp
theorem HoldsF.over (h : HoldsF f w w.heap.size A n c xs) (hb : Below w.heap.size w w') : HoldsF f w' w'.heap.size A n c xs := (h.below hb).mono hb.size
theorem HoldsF.head (h : HoldsF f w B A c c xs) (hn : n ≤ c) : HoldsF f w B A n c (xs.take n) :=
  ⟨by have := h.len; simp; omega, hn, h.bare, fun h0 => by
    obtain ⟨b, off, rfl, hb, hc⟩ := h.cells (by omega)
    refine ⟨b, off, rfl, hb, fun i x hi => hc i x ?_⟩
    rw [List.getElem?_take] at hi
    split at hi
    · exact hi
    · cases hi⟩
theorem HoldsF.nil (f : α → Value) (w : World) (B : Nat) : HoldsF f w B none 0 0 [] := ⟨rfl, Nat.le_refl _, fun _ => rfl, fun h => absurd h (by omega)⟩

theorem OwnF.nil (f : α → Value) (e : TypeId) (w : World) (base : Nat) : OwnF f e w base (.slice none 0 0) [] := World.ownsRow_nil w base e 1
theorem OwnF.mono (h : OwnF f e w base v xs) (hb : base' ≤ base) : OwnF f e w base' v xs := by
  refine ⟨h.1, ?_⟩
  rcases h.2 with h0 | ⟨g, cap, cur, rfl, h1, rest⟩
  · exact .inl h0
  · exact .inr ⟨g, cap, cur, rfl, by omega, rest⟩
theorem OwnF.keep (h : OwnF f e w base v xs) (hk : ∀ i cs, v.ownBlock = some i → w.heap[i]? = some (.cells cs e (0, 0)) → w'.heap[i]? = w.heap[i]?) : OwnF f e w' base v xs := by
  refine ⟨h.1, ?_⟩
  rcases h.2 with h0 | ⟨g, cap, cur, rfl, h1, hg, rest⟩
  · exact .inl h0
  · exact .inr ⟨g, cap, cur, rfl, h1, (hk g cur rfl hg).trans hg, rest⟩
theorem OwnF.below (h : OwnF f e w base v xs) (hb : Below w.heap.size w w') : OwnF f e w' base v xs := h.keep fun i _ _ hi => hb.block i (Array.getElem?_eq_some_iff.1 hi).1
theorem OwnF.alloc (h : OwnF f e w base v xs) (o : Obj) : OwnF f e (w.alloc o) base v xs := World.ownsRow.alloc h o
theorem OwnF.iterAt (h : OwnF f e w base v xs) {K : Nat} {s : ByteArray} {p : Nat} (hK : w.heap[K]? = some (.stringIter s p)) (p' : Nat) : OwnF f e (w.iterAt K s p') base v xs :=
  h.keep fun _ _ _ hi => Lib.iterAt_other w K _ s p' (fun e => by subst e; rw [hi] at hK; cases hK)
theorem OwnF.block (h : OwnF f e w base v xs) {i : Nat} (hi : v.ownBlock = some i) : base ≤ i ∧ ∃ cs, w.heap[i]? = some (.cells cs e (0, 0)) := by
  rcases h.2 with ⟨rfl, _⟩ | ⟨g, cap, cur, rfl, h1, hg, rest⟩
  · cases hi
  · simp only [Value.ownBlock, Option.some.injEq] at hi
    subst hi
    exact ⟨h1, cur, hg⟩
theorem OwnF.lt (h : OwnF f e w base v xs) {i : Nat} (hi : v.ownBlock = some i) : i < w.heap.size := (World.ownsRow.lt h i hi).2
/-- what such a row reads as -/
theorem OwnF.open (h : OwnF f e w base v xs) : ∃ A n c, v = .slice A n c ∧ xs.length = n ∧ n ≤ c ∧ n ≤ 9223372036854775807 ∧ (A = none → c = 0) ∧
    (0 < n → ∃ g, A = some ⟨g, 0, none⟩ ∧ base ≤ g ∧ g < w.heap.size ∧ ∀ i x, xs[i]? = some x → w.cell? ⟨g, i, none⟩ = some (f x)) := by
  rcases h.2 with ⟨rfl, h0⟩ | ⟨g, cap, cur, rfl, hb, hg, hnc, hcm, hcs, htk⟩
  · exact ⟨none, 0, 0, rfl, h0, Nat.le_refl _, by omega, fun _ => rfl, fun h => absurd h (by omega)⟩
  · refine ⟨_, _, _, rfl, rfl, hnc, by unfold maxLen at hcm; omega, fun hA => (by cases hA), fun h0 => ⟨g, rfl, hb, (Array.getElem?_eq_some_iff.1 hg).1, fun i x hi => ?_⟩⟩
    have hil : i < xs.length := (List.getElem?_eq_some_iff.1 hi).1
    rw [cell_of_row w g i cur e (0, 0) hg]
    have e1 : cur[i]? = (cur.toList.take (xs.length * 1))[i]? := by
      rw [List.getElem?_take, if_pos (by omega), Array.getElem?_toList]
    rw [e1, htk, List.getElem?_map, hi]
    rfl
theorem OwnF.holds (h : OwnF f e w base v xs) : ∃ A n c, v = .slice A n c ∧ HoldsF f w w.heap.size A n c xs := by
  obtain ⟨A, n, c, rfl, hl, hf, _, hA, hc⟩ := h.open
  refine ⟨A, n, c, rfl, hl, hf, hA, fun h0 => ?_⟩
  obtain ⟨g, rfl, _, hg, hcc⟩ := hc h0
  exact ⟨g, 0, rfl, hg, fun i x hi => by rw [Nat.zero_add]; exact hcc i x hi⟩
theorem OwnF.oneCell (h : OwnF f e w base v xs) : v.oneCell' = true := by
  obtain ⟨A, n, c, rfl, _⟩ := h.open
  rfl
theorem OwnF.cut0 (h : OwnF f e w base (.slice A n c) xs) : OwnF f e w base (.slice A 0 c) [] := by
  refine ⟨rfl, ?_⟩
  rcases h.2 with ⟨h1, _⟩ | ⟨g, cap, cur, h1, hb, hg, hnc, hcm, hcs, htk⟩
  · cases h1
    exact .inl ⟨rfl, rfl⟩
  · cases h1
    exact .inr ⟨g, c, cur, rfl, hb, hg, Nat.zero_le _, hcm, hcs, by simp⟩
theorem OwnF.only (h : OwnF f e w base v xs) (hO : Only b w w') (hB : Box w b T u) (hT : T ≠ e) : OwnF f e w' base v xs :=
  h.keep fun i cs _ hcs => hO.rest i fun he => by
    subst he
    unfold Box at hB
    rw [hB] at hcs
    simp only [Option.some.injEq, Obj.cells.injEq] at hcs
    exact hT hcs.2.1

theorem Grew.belowF (hg : Grew w w' v) (h : OwnF f e w base v xs) (hb : base ≤ w.heap.size) : Below base w w' := by
  obtain ⟨o, hg⟩ := hg
  exact ((Below.refl base w).alloc hb o).grown hg (by simp; omega) fun i hi => (h.block hi).1
theorem Grew.iterF (hg : Grew w w' v) (h : OwnF f e w base v xs) {K : Nat} {s : ByteArray} {p : Nat} (hK : w.heap[K]? = some (.stringIter s p)) : w'.heap[K]? = some (.stringIter s p) :=
  hg.block hK fun hi => by
    obtain ⟨_, cs, hcs⟩ := h.block hi
    rw [hcs] at hK
    cases hK
/-- a row in a block of its own stays while another one grows -/
theorem Grew.apartF (hg : Grew w w' v) (h' : OwnF f e w base u ys) (ha : Apart v u) : OwnF f e w' base u ys :=
  h'.keep fun i cs hi hcs => by rw [hg.block hcs fun hv => ha i hv hi, hcs]
theorem Apart.whitherF (ha : Apart v u) (hw : Whither w v v') (hu : OwnF f e w base u ys) : Apart v' u := fun i hi hui => by
  rcases hw with h | ⟨g, hg, hge⟩
  · exact ha i (h ▸ hi) hui
  · rw [hg] at hi
    injection hi with hi
    subst hi
    have := hu.lt hui
    omega
end

section
variable {α : Type} {f : α → Value} {P : Program} {w : World} {ops : Array Oper} {rest : List Oper} {o : Oper} {a : Act} {Q : Exit → Act → World → Prop}

/-- make([]T, 0, n) -/
theorem wpList_make_ownF (hg : o.guard = none) (f : α → Value) (z : Value) (hz : z.cells = #[z]) (T e : TypeId) (bytes : Nat)
    (ht : P.underlying T = some (.slice e)) (hi : (P.info? e).map (fun i => (i.zero, i.size, i.bytes)) = some (some z, 1, bytes))
    (l c : Operand) (hop : o.op = Op.makeSlice T l c) (C : Int) (n : Nat) (hl : a.eval l = .int .i64 0) (hc : a.eval c = .int .i64 C) (hC : C = (n : Int)) (hb : n * bytes ≤ 281474976710656) (hn : n ≤ maxLen)
    (hK : ∀ w', Hid (OwnF f e w' w.heap.size (.slice (some ⟨w.heap.size, 0, none⟩) 0 n) []) → Below w.heap.size w w' → wpList P ops Q rest (a.put o.dst (.slice (some ⟨w.heap.size, 0, none⟩) 0 n)) w') :
    wpList P ops Q (o :: rest) a w := by
  obtain ⟨i0, hi0, hz0, hz1, hz2⟩ := info_parts hi
  refine wpList_plain hg fun K hK' => ?_
  have h63 : (n : Int) ≤ 9223372036854775807 := by have := hn; rw [show maxLen = 9223372036854775807 from rfl] at this; omega
  have hbb : (i0.bytes : Int) * (n : Int) ≤ 281474976710656 := by
    have h : ((i0.bytes * n : Nat) : Int) ≤ 281474976710656 := by rw [hz2, Nat.mul_comm]; omega
    rwa [Int.natCast_mul] at h
  have hrun := run_make (P := P) w T e i0 z ht hi0 hz0 .i64 .i64 0 n (Int.le_refl _) (by omega) hbb h63
  have hcells : madeCells z.cells (n * i0.size) = (List.replicate n z).toArray := by
    rw [hz1, Nat.mul_one]
    apply Array.toList_inj.1
    rw [hz, toList_madeCells_one]
  simp only [Int.toNat_zero, Int.toNat_natCast, hcells] at hrun
  subst hC
  unfold Oper.wp
  simp [execOp, hop, hl, hc, hrun, Result.andThen]
  refine hK' _ _ (hK _ ?_ ((Below.refl _ _).alloc (Nat.le_refl _) _))
  exact World.ownsRow_made w _ n (Nat.le_refl _) hn (by simp)

/-- append(l, xs..), the new ones lying in a block of their own that has just been laid, onto a row of the call's own; where the new slice heads is told -/
theorem wpList_append_litF (hgd : o.guard = none) (s x : Operand) (f : α → Value) (hf : ∀ y, (f y).oneCell' = true) (z : Value) (hzc : z.cells.size = 1) (T e : TypeId) (bytes : Nat)
    (ht : P.underlying T = some (.slice e)) (hi : (P.info? e).map (fun i => (i.zero, i.size, i.bytes)) = some (some z, 1, bytes))
    (ho : o.op = .call { callee := .builtin .append, args := #[s, x], argTypes := #[T, T] })
    (base : Nat) (v : Value) (xs ys : List α) (cs : Array Value) (hcs : cs = (ys.map f).toArray) (m c : Nat) (hm : ys.length = m) (hs : a.eval s = v) (hx : a.eval x = .slice (some ⟨w.heap.size, 0, none⟩) m c)
    (hown : OwnF f e w base v xs) (hlen : (xs.length + m) * bytes ≤ 140737488355328) (h63 : xs.length + m ≤ 9223372036854775807) (hbase : base ≤ w.heap.size)
    (h : ∀ v' w', Hid (OwnF f e w' base v' (xs ++ ys)) → Hid (Grew w w' v) → Hid (Whither w v v') → wpList P ops Q rest (a.put o.dst v') w') :
    wpList P ops Q (o :: rest) a (w.alloc (.cells cs e)) := by
  obtain ⟨i0, hi0, hz0, hz1, hz2⟩ := info_parts hi
  subst hcs
  have hr : (w.alloc (.cells (ys.map f).toArray e)).heap[w.heap.size]? = some (.cells (ys.map f).toArray e (0, 0)) := heap_alloc_new w _
  obtain ⟨v', w', hrun, ho', hg', hwh⟩ := run_append_whither (P := P) (w.alloc (.cells (ys.map f).toArray e)) T o.type e i0 z bytes ht hi0 hz0 hz1 hz2 hzc base v xs.length (xs.map f) (OwnF.alloc hown _) ⟨w.heap.size, 0, none⟩ m c (ys.map f) (by simp [hm])
    (fun j y hj => by
      have e1 : (⟨w.heap.size, 0, none⟩ : Addr).add j = ⟨w.heap.size, j, none⟩ := by
        by_cases hj0 : j = 0
        · subst hj0; simp [Addr.add]
        · simp [Addr.add, hj0]
      rw [e1, cell_of_row _ w.heap.size j _ e (0, 0) hr, ← hj]
      simp)
    (by intro v hv; obtain ⟨x, _, rfl⟩ := List.mem_map.1 hv; exact hf x) (by unfold maxLen; omega) hlen (by simp; omega)
  refine wpList_plain hgd fun K hK => ?_
  unfold Oper.wp execOp
  simp only [ho, resolve, invoke, builtin, Sem.run_bind, Sem.run_pure, Result.andThen_ok, List.map_toArray, List.map_cons, List.map_nil, hs, hx, hrun]
  refine hK _ _ (h v' w' ?_ ⟨_, hg'⟩ ?_)
  · show World.ownsRow _ _ _ _ _ _ _
    rw [List.length_append, List.map_append, hm]
    exact ho'
  · rcases hwh with h1 | ⟨g, h1, h2⟩
    · exact .inl h1
    · exact .inr ⟨g, h1, by simp at h2; omega⟩
end

/-! ### a []string that came in -/

section
variable {H : Type} {enc : TypeId × Value → H} {P : Program} {W : World} {base : Nat} {t e : TypeId} {v : Value} {d : DataW H} {p : List MemPlace}

def sumSize (Z : List ByteArray) : Nat := (Z.map fun s => s.size + 1).sum
theorem sumSize_mem {Z : List ByteArray} {s : ByteArray} (h : s ∈ Z) : s.size + 1 ≤ sumSize Z := by
  induction Z with
  | nil => cases h
  | cons x Z ih =>
    unfold sumSize at ih ⊢
    rw [List.map_cons, List.sum_cons]
    rcases List.mem_cons.1 h with rfl | h
    · omega
    · have := ih h; omega
theorem sumSize_len (Z : List ByteArray) : Z.length ≤ sumSize Z := by
  induction Z with
  | nil => exact Nat.zero_le _
  | cons x Z ih =>
    unfold sumSize at ih ⊢
    rw [List.map_cons, List.sum_cons, List.length_cons]
    omega
theorem bulk_texts (Z : List ByteArray) : Rows.uptoBulkAll (Z.map fun s => (DataW.lit (.string s.data.toList) : DataW H)) = sumSize Z := by
  induction Z with
  | nil => simp [Rows.uptoBulkAll, sumSize]
  | cons x Z ih =>
    have e1 : x.data.toList.length = x.size := by rw [Array.length_toList]; rfl
    rw [List.map_cons]
    simp only [Rows.uptoBulkAll, Rows.uptoBulk, ih, e1]
    unfold sumSize
    rw [List.map_cons, List.sum_cons]
theorem bulk_append (l r : List (DataW H)) : Rows.uptoBulkAll (l ++ r) = Rows.uptoBulkAll l + Rows.uptoBulkAll r := by
  induction l with
  | nil => simp [Rows.uptoBulkAll]
  | cons x l ih => simp only [List.cons_append, Rows.uptoBulkAll, ih]; omega

theorem open_texts (ht : P.underlying t = some (.slice e)) (he : P.underlying e = some .string) (hc : P.cellsOf e = 1) (hv : Value.okWide P W .any base t v)
    (hk : DataW.Trod enc P W 0 (fun _ => true) true t v d p) (hp : ∀ x ∈ p, x.block < W.heap.size) :
    ∃ A n c Z, v = .slice A n c ∧ n ≤ c ∧ sumSize Z < Rows.uptoBulk d ∧ HoldsF Value.string W W.heap.size A c c Z := by
  obtain ⟨A, n, c, rfl⟩ := okWide_slice ht hv
  obtain ⟨fuel, hf⟩ := hk
  rcases Go.Deep.open_strs ht he hc hf with ⟨hcs, hx⟩ | ⟨x, l, cp, m, Sx, hcs, _, hl, hm, hmm, hx, hcell⟩
  · simp [Value.cells] at hcs
    obtain ⟨rfl, rfl, rfl⟩ := hcs
    exact ⟨none, 0, 0, [], rfl, Nat.le_refl _, bulk_one_le _, HoldsF.nil _ _ _⟩
  · simp [Value.cells] at hcs
    obtain ⟨rfl, rfl, rfl⟩ := hcs
    simp only [Prod.mk.injEq] at hx
    obtain ⟨rfl, rfl⟩ := hx
    simp only [if_true] at hmm
    subst hmm
    refine ⟨some x, n, m, (List.range m).map Sx, rfl, hl, ?_, by simp, Nat.le_refl _, (fun hA => by cases hA), fun h0 => ?_⟩
    · have e1 : Rows.uptoBulkAll ((List.range n).map fun i => (DataW.lit (.string (Sx i).data.toList) : DataW H)) + Rows.uptoBulkAll ((List.range (m - n)).map fun j => (DataW.lit (.string (Sx (n + j)).data.toList) : DataW H)) = sumSize ((List.range m).map Sx) := by
        rw [← bulk_append, ← bulk_texts (H := H)]
        congr 1
        rw [List.map_map]
        have : List.range m = List.range n ++ (List.range (m - n)).map (n + ·) := by
          rw [← List.range_add, show n + (m - n) = m by omega]
        rw [this, List.map_append, List.map_map]
        rfl
      simp only [Rows.uptoBulk]
      omega
    · obtain ⟨b, off, spot⟩ := x
      have h1 := (hcell 0 (by omega)).1
      have hspot : spot = none := by simpa [Addr.add] using World.cell?_spot h1
      subst hspot
      refine ⟨b, off, rfl, ?_, fun i s hi => ?_⟩
      · have := World.block_lt_of_cell? W _ h1
        simpa [Addr.add] using this
      · rw [List.getElem?_map] at hi
        have him : i < m := by
          rcases Nat.lt_or_ge i m with h | h
          · exact h
          · rw [List.getElem?_eq_none (by simpa using h)] at hi; cases hi
        rw [List.getElem?_range him] at hi
        injection hi with hi
        subst hi
        have h2 := (hcell i him).1
        have e : (⟨b, off, none⟩ : Addr).add i = ⟨b, off + i, none⟩ := by
          by_cases hj0 : i = 0
          · subst hj0; simp [Addr.add]
          · simp [Addr.add, hj0]
        rwa [e] at h2
end
end Go.Proofs.YtepkamkgodbffaaDoor

/-
  Rows of values of one cell each, more laws: an append of a row that came in onto a row of the call's own; a store into such a row. No function of the program is named here.
-/
namespace Go.Proofs.YtepkamkgodbffaaDoor
open Go.RowKit

section
variable {α : Type} {f : α → Value} {P : Program} {w : World} {ops : Array Oper} {rest : List Oper} {o : Oper} {a : Act} {Q : Exit → Act → World → Prop}

/-- append(out, src...), out the call's own, src whatever holds such elements -/
theorem wpList_append_holdF (hgd : o.guard = none) (s x : Operand) (f : α → Value) (hf : ∀ y, (f y).oneCell' = true) (z : Value) (hzc : z.cells.size = 1) (T e : TypeId) (bytes : Nat)
    (ht : P.underlying T = some (.slice e)) (hi : (P.info? e).map (fun i => (i.zero, i.size, i.bytes)) = some (some z, 1, bytes))
    (ho : o.op = .call { callee := .builtin .append, args := #[s, x], argTypes := #[T, T] })
    (base : Nat) (v : Value) (xs : List α) (hs : a.eval s = v) (hown : OwnF f e w base v xs) (B : Nat) (A : Option Addr) (m c : Nat) (ys : List α) (hx : a.eval x = .slice A m c)
    (hr : HoldsF f w B A m c ys) (hlen : (xs.length + ys.length) * bytes ≤ 140737488355328) (h63 : xs.length + ys.length ≤ 9223372036854775807) (hbase : base ≤ w.heap.size)
    (h : ∀ v' w', Hid (OwnF f e w' base v' (xs ++ ys)) → Hid (Below base w w') → wpList P ops Q rest (a.put o.dst v') w') :
    wpList P ops Q (o :: rest) a w := by
  obtain ⟨i0, hi0, hz0, hz1, hz2⟩ := info_parts hi
  have hl := hr.len
  rcases A with _ | ad
  · have hc := hr.bare rfl
    have hft := hr.fit
    have hm : m = 0 := by omega
    subst hm
    subst hc
    have : ys = [] := List.eq_nil_of_length_eq_zero hl
    subst this
    refine wpList_append_own_none hgd s x T ho base e i0 1 ht hi0 v xs.length _ hs hown hx ?_
    exact h v w (by rw [List.append_nil]; exact hown) (Below.refl _ _)
  · refine wpList_append_own w hgd s x T ho base e i0 z 1 bytes ht hi0 hz0 hz1 hz2 hzc (by omega) v xs.length _ hs hown ad m c (ys.map f) hx (by simp [hl]) ?_
      (by intro v hv; obtain ⟨x, _, rfl⟩ := List.mem_map.1 hv; exact hf x) (by unfold maxLen; omega) (by rw [← hl]; exact hlen) hbase ?_
    · intro j u hj
      have hjl : j < ys.length := by
        by_cases hj' : j < ys.length
        · exact hj'
        · rw [List.getElem?_eq_none (by simp; omega)] at hj
          cases hj
      obtain ⟨b, off, he, _, hcl⟩ := hr.cells (by omega)
      injection he with he
      subst he
      have e : (⟨b, off, none⟩ : Addr).add j = ⟨b, off + j, none⟩ := by
        by_cases hj0 : j = 0
        · subst hj0; simp [Addr.add]
        · simp [Addr.add, hj0]
      rw [e, hcl j ys[j] (List.getElem?_eq_getElem hjl), ← hj]
      simp [hjl]
    · intro v' w' hown' hgr _
      refine h v' w' ?_ ((Below.refl _ _).grown hgr hbase (fun k hk => (World.ownsRow.lt hown k hk).1))
      show World.ownsRow _ _ _ _ _ _ _
      rw [List.length_append, List.map_append, hl]
      exact hown'
end

section
variable {α : Type} {f : α → Value} {e : TypeId} {w : World} {base g n c : Nat} {xs : List α}
theorem OwnF.heap (h : OwnF f e w base (.slice (some ⟨g, 0, none⟩) n c) xs) : base ≤ g ∧ xs.length = n ∧ ∃ cur : Array Value, w.heap[g]? = some (.cells cur e (0, 0)) ∧ n ≤ cur.size ∧ cur.toList.take n = xs.map f ∧ n ≤ c ∧ c ≤ maxLen ∧ cur.size = c := by
  rcases h.2 with ⟨h0, _⟩ | ⟨g', cap, cur, hv, hb, hg, hnc, hcm, hcs, htk⟩
  · cases h0
  · simp only [Value.slice.injEq, Option.some.injEq, Addr.mk.injEq, and_true] at hv
    obtain ⟨rfl, hn, rfl⟩ := hv
    rw [Nat.mul_one] at htk hcs
    exact ⟨hb, hn.symm, cur, hg, by omega, by rw [hn]; exact htk, by omega, hcm, hcs⟩
theorem OwnF.set (h : OwnF f e w base (.slice (some ⟨g, 0, none⟩) n c) xs) (i : Nat) (u : α) : OwnF f e (w.setCell ⟨g, i, none⟩ (f u)) base (.slice (some ⟨g, 0, none⟩) n c) (xs.set i u) := by
  obtain ⟨hb, hn, cur, hg, hns, htk, hnc, hcm, hcs⟩ := h.heap
  have h1 := heap_setCell_same w g i cur e (f u) hg
  have hl : (xs.set i u).length = n := by rw [List.length_set, hn]
  refine ⟨by simp, .inr ⟨g, c, _, by rw [hl], hb, h1, by rw [hl]; exact hnc, hcm, by simp [hcs], ?_⟩⟩
  rw [hl, Nat.mul_one, Array.toList_setIfInBounds, List.take_set, htk, List.map_set]
theorem OwnF.frozen (h : OwnF f e w base (.slice (some ⟨g, 0, none⟩) n c) xs) (i : Nat) : w.frozen? ⟨g, i, none⟩ = false := by
  obtain ⟨_, _, cur, hg, _⟩ := h.heap
  exact frozen_of_row w g i _ e hg
theorem OwnF.cell (h : OwnF f e w base (.slice (some ⟨g, 0, none⟩) n c) xs) {i : Nat} {x : α} (hi : xs[i]? = some x) : w.cell? ⟨g, i, none⟩ = some (f x) := by
  obtain ⟨_, hn, cur, hg, hns, htk, _⟩ := h.heap
  have hl := (List.getElem?_eq_some_iff.1 hi).1
  rw [cell_of_row w g i cur e (0, 0) hg]
  have e1 : cur[i]? = (cur.toList.take n)[i]? := by
    rw [List.getElem?_take, if_pos (by omega), Array.getElem?_toList]
  rw [e1, htk, List.getElem?_map, hi]
  rfl
end

/-! ### a []string that came in, by reach -/

section
open Go.ChangeShapes Go.WideShapes
variable {H : Type} {enc : TypeId × Value → H} {P : Program} {W : World} {base : Nat} {t e : TypeId} {v : Value} {d : DataW H} {p : List MemPlace}

theorem weights_all {l : List (DataW H)} {x : DataW H} {k : Nat} (h : x ∈ l) (hk : k ∈ x.weights P e) : k ∈ DataW.weightsAll P e l := by
  induction l with
  | nil => cases h
  | cons y r ih =>
    simp only [DataW.weightsAll, List.mem_append]
    rcases List.mem_cons.1 h with rfl | h
    · exact .inl hk
    · exact .inr (ih h)

theorem open_texts_sized (ht : P.underlying t = some (.slice e)) (he : P.underlying e = some .string) (hc : P.cellsOf e = 1) (hb : P.bytesOf e = 16) (hv : Value.okWide P W .any base t v)
    (hk : DataW.Trod enc P W 0 (fun _ => true) true t v d p) (hs : ∀ n ∈ d.weights P t, n ≤ reachBytes) (hp : ∀ x ∈ p, x.block < W.heap.size) :
    ∃ A n c Z, v = .slice A n c ∧ n ≤ c ∧ (c ≤ 8796093021952 ∧ ∀ s ∈ Z, s.size ≤ 140737488351232) ∧ HoldsF Value.string W W.heap.size A c c Z := by
  obtain ⟨A, n, c, rfl⟩ := okWide_slice ht hv
  obtain ⟨fuel, hf⟩ := hk
  rcases Go.Deep.open_strs ht he hc hf with ⟨hcs, hx⟩ | ⟨x, l, cp, m, Sx, hcs, _, hl, hm, hmm, hx, hcell⟩
  · simp [Value.cells] at hcs
    obtain ⟨rfl, rfl, rfl⟩ := hcs
    exact ⟨none, 0, 0, [], rfl, Nat.le_refl _, ⟨by omega, fun s h => by cases h⟩, HoldsF.nil _ _ _⟩
  · simp [Value.cells] at hcs
    obtain ⟨rfl, rfl, rfl⟩ := hcs
    simp only [Prod.mk.injEq] at hx
    obtain ⟨rfl, rfl⟩ := hx
    simp only [if_true] at hmm
    subst hmm
    simp only [DataW.weights, ht, hb] at hs
    have hcap : m ≤ 8796093021952 := by
      have h1 := hs _ List.mem_cons_self
      simp [reachBytes] at h1
      omega
    have each : ∀ i, i < m → (Sx i).size ≤ 140737488351232 := by
      intro i hi
      have e1 : (Sx i).data.toList.length = (Sx i).size := by rw [Array.length_toList]; rfl
      have h1 := hs (Sx i).data.toList.length (List.mem_cons_of_mem _ (List.mem_append.2 (by
        by_cases hin : i < n
        · left
          exact weights_all (List.mem_map.2 ⟨i, List.mem_range.2 hin, rfl⟩) (by simp [DataW.weights])
        · right
          refine weights_all (List.mem_map.2 ⟨i - n, List.mem_range.2 (by omega), rfl⟩) ?_
          rw [show n + (i - n) = i by omega]
          simp [DataW.weights])))
      simp only [reachBytes] at h1
      omega
    refine ⟨some x, n, m, (List.range m).map Sx, rfl, hl, ⟨hcap, fun s hsm => ?_⟩, by simp, Nat.le_refl _, (fun hA => by cases hA), fun h0 => ?_⟩
    · obtain ⟨i, hi, rfl⟩ := List.mem_map.1 hsm
      exact each i (List.mem_range.1 hi)
    · obtain ⟨b, off, spot⟩ := x
      have h1 := (hcell 0 (by omega)).1
      have hspot : spot = none := by simpa [Addr.add] using World.cell?_spot h1
      subst hspot
      refine ⟨b, off, rfl, ?_, fun i s hi => ?_⟩
      · have := World.block_lt_of_cell? W _ h1
        simpa [Addr.add] using this
      · rw [List.getElem?_map] at hi
        have him : i < m := by
          rcases Nat.lt_or_ge i m with h | h
          · exact h
          · rw [List.getElem?_eq_none (by simpa using h)] at hi; cases hi
        rw [List.getElem?_range him] at hi
        injection hi with hi
        subst hi
        have h2 := (hcell i him).1
        have e : (⟨b, off, none⟩ : Addr).add i = ⟨b, off + i, none⟩ := by
          by_cases hj0 : i = 0
          · subst hj0; simp [Addr.add]
          · simp [Addr.add, hj0]
        rwa [e] at h2
end
end Go.Proofs.YtepkamkgodbffaaDoor

/-
  Rows of structs: elements of s cells each ('f' lays an element as its cells): the call's own ('OwnS'), or such as came in ('HoldsS'); the law at append over them. No function of the program is named here.
-/
namespace Go.Proofs.YtepkamkgodbffaaDoor
open Go.RowKit Go.ChangeShapes Go.WideShapes

/-- the slice value v is nil, or heads a row in a block from 'base' on that begins with the elements xs -/
def OwnS {α : Type} (f : α → List Value) (s : Nat) (e : TypeId) (w : World) (base : Nat) (v : Value) (xs : List α) : Prop := w.ownsRow base e s v xs.length (xs.flatMap f)

/-- the slice value '.slice A n c' holds the elements xs, in memory below block B -/
structure HoldsS {α : Type} (f : α → List Value) (s : Nat) (w : World) (B : Nat) (A : Option Addr) (n c : Nat) (xs : List α) : Prop where
  len : xs.length = n
  fit : n ≤ c
  bare : A = none → c = 0
  cells : 0 < n → ∃ b off, A = some ⟨b, off, none⟩ ∧ b < B ∧ ∀ i x, xs[i]? = some x → ∀ j u, (f x)[j]? = some u → w.cell? ⟨b, off + (i * s + j), none⟩ = some u

theorem flatMap_get {α : Type} {f : α → List Value} {s : Nat} (hs : 0 < s) (hf : ∀ x, (f x).length = s) : ∀ (xs : List α) (i : Nat), (xs.flatMap f)[i]? = (xs[i / s]?).bind fun x => (f x)[i % s]?
  | [], i => by simp
  | x :: r, i => by
    rw [List.flatMap_cons, List.getElem?_append, hf x]
    by_cases h : i < s
    · rw [if_pos h, Nat.div_eq_of_lt h, Nat.mod_eq_of_lt h]; rfl
    · rw [if_neg h, flatMap_get hs hf r (i - s)]
      have e1 : i / s = (i - s) / s + 1 := by
        rw [Nat.div_eq_sub_div hs (by omega)]
      have e2 : i % s = (i - s) % s := by rw [Nat.mod_eq_sub_mod (by omega)]
      rw [e1, e2, List.getElem?_cons_succ]
theorem flatMap_len {α : Type} {f : α → List Value} {s : Nat} (hf : ∀ x, (f x).length = s) (xs : List α) : (xs.flatMap f).length = xs.length * s := by
  induction xs with
  | nil => simp
  | cons x r ih => rw [List.flatMap_cons, List.length_append, ih, hf, List.length_cons, Nat.add_mul]; omega

section
variable {α : Type} {f : α → List Value} {s : Nat} {w w' w2 : World} {B B' base base' b : Nat} {A : Option Addr} {n c : Nat} {xs ys : List α} {e e' T : TypeId} {v v' u : Value}

theorem HoldsS.keep (h : HoldsS f s w B A n c xs) (hk : ∀ p : Addr, p.block < B → w'.cell? p = w.cell? p) : HoldsS f s w' B A n c xs :=
  ⟨h.len, h.fit, h.bare, fun hn => by
    obtain ⟨b, off, e, hb, hc⟩ := h.cells hn
    exact ⟨b, off, e, hb, fun i x hi j u hj => (hk _ hb).trans (hc i x hi j u hj)⟩⟩
theorem HoldsS.mono (h : HoldsS f s w B A n c xs) (hB : B ≤ B') : HoldsS f s w B' A n c xs :=
  ⟨h.len, h.fit, h.bare, fun hn => by
    obtain ⟨b, off, e, hb, hc⟩ := h.cells hn
    exact ⟨b, off, e, by omega, hc⟩⟩
theorem HoldsS.below (h : HoldsS f s w B A n c xs) (hb : Below B w w') : HoldsS f s w' B A n c xs := h.keep fun _ hp => hb.cell hp
theorem HoldsS.over (h : HoldsS f s w w.heap.size A n c xs) (hb : Below w.heap.size w w') : HoldsS f s w' w'.heap.size A n c xs := (h.below hb).mono hb.size
theorem HoldsS.drew (h : HoldsS f s w B A n c xs) : HoldsS f s w.drew B A n c xs := h.keep fun _ _ => rfl
theorem HoldsS.drewN (h : HoldsS f s w B A n c xs) (k : Nat) : HoldsS f s (w.drewN k) B A n c xs := h.keep fun _ _ => rfl
theorem HoldsF.drew {f : α → Value} (h : HoldsF f w B A n c xs) : HoldsF f w.drew B A n c xs := h.keep fun _ _ => rfl
theorem HoldsF.drewN {f : α → Value} (h : HoldsF f w B A n c xs) (k : Nat) : HoldsF f (w.drewN k) B A n c xs := h.keep fun _ _ => rfl
theorem HoldsS.head (h : HoldsS f s w B A c c xs) (hn : n ≤ c) : HoldsS f s w B A n c (xs.take n) :=
  ⟨by have := h.len; simp; omega, hn, h.bare, fun h0 => by
    obtain ⟨b, off, rfl, hb, hc⟩ := h.cells (by omega)
    refine ⟨b, off, rfl, hb, fun i x hi => hc i x ?_⟩
    rw [List.getElem?_take] at hi
    split at hi
    · exact hi
    · cases hi⟩
theorem HoldsS.nil (f : α → List Value) (s : Nat) (w : World) (B : Nat) : HoldsS f s w B none 0 0 [] := ⟨rfl, Nat.le_refl _, fun _ => rfl, fun h => absurd h (by omega)⟩
/-- an element as a whole -/
theorem HoldsS.range (h : HoldsS f s w B A n c xs) {b off i : Nat} (hA : A = some ⟨b, off, none⟩) (hi : i < n) {x : α} (hx : xs[i]? = some x) : w.rangeAt b (off + i * s) (f x) := fun j u hj => by
  obtain ⟨b', off', e, _, hc⟩ := h.cells (by omega)
  rw [hA] at e
  injection e with e
  injection e with e1 e2 e3
  subst e1 e2
  have := hc i x hx j u hj
  rwa [← Nat.add_assoc] at this

theorem OwnS.nil (f : α → List Value) (s : Nat) (e : TypeId) (w : World) (base : Nat) : OwnS f s e w base (.slice none 0 0) [] := World.ownsRow_nil w base e s
theorem OwnS.mono (h : OwnS f s e w base v xs) (hb : base' ≤ base) : OwnS f s e w base' v xs := by
  refine ⟨h.1, ?_⟩
  rcases h.2 with h0 | ⟨g, cap, cur, rfl, h1, rest⟩
  · exact .inl h0
  · exact .inr ⟨g, cap, cur, rfl, by omega, rest⟩
theorem OwnS.keep (h : OwnS f s e w base v xs) (hk : ∀ i cs, v.ownBlock = some i → w.heap[i]? = some (.cells cs e (0, 0)) → w'.heap[i]? = w.heap[i]?) : OwnS f s e w' base v xs := by
  refine ⟨h.1, ?_⟩
  rcases h.2 with h0 | ⟨g, cap, cur, rfl, h1, hg, rest⟩
  · exact .inl h0
  · exact .inr ⟨g, cap, cur, rfl, h1, (hk g cur rfl hg).trans hg, rest⟩
theorem OwnS.below (h : OwnS f s e w base v xs) (hb : Below w.heap.size w w') : OwnS f s e w' base v xs := h.keep fun i _ _ hi => hb.block i (Array.getElem?_eq_some_iff.1 hi).1
theorem OwnS.only (h : OwnS f s e w base v xs) (hO : Only b w w') (hb : b < base) : OwnS f s e w' base v xs := by
  refine ⟨h.1, ?_⟩
  rcases h.2 with h0 | ⟨g, cap, cur, rfl, h1, hg, rest⟩
  · exact .inl h0
  · exact .inr ⟨g, cap, cur, rfl, h1, (hO.rest g (by omega)).trans hg, rest⟩
theorem OwnS.lt (h : OwnS f s e w base v xs) {i : Nat} (hi : v.ownBlock = some i) : i < w.heap.size := (World.ownsRow.lt h i hi).2
/-- what such a row reads as -/
theorem OwnS.holds (hs : 0 < s) (hf : ∀ x, (f x).length = s) (h : OwnS f s e w base v xs) : ∃ A n c, v = .slice A n c ∧ HoldsS f s w w.heap.size A n c xs := by
  rcases h.2 with ⟨rfl, h0⟩ | ⟨g, cap, cur, rfl, hb, hg, hnc, hcm, hcs, htk⟩
  · have : xs = [] := List.eq_nil_of_length_eq_zero h0
    subst this
    exact ⟨none, 0, 0, rfl, HoldsS.nil f s w _⟩
  · refine ⟨_, _, _, rfl, rfl, hnc, fun hA => (by cases hA), fun h0 => ⟨g, 0, rfl, (Array.getElem?_eq_some_iff.1 hg).1, fun i x hi j u hj => ?_⟩⟩
    have hil : i < xs.length := (List.getElem?_eq_some_iff.1 hi).1
    have hjs : j < s := by rw [← hf x]; exact (List.getElem?_eq_some_iff.1 hj).1
    have hlt : i * s + j < xs.length * s := by
      have : (i + 1) * s ≤ xs.length * s := Nat.mul_le_mul_right s hil
      rw [Nat.add_mul] at this
      omega
    rw [Nat.zero_add, cell_of_row w g _ cur e (0, 0) hg]
    have e1 : cur[i * s + j]? = (cur.toList.take (xs.length * s))[i * s + j]? := by
      rw [List.getElem?_take, if_pos hlt, Array.getElem?_toList]
    rw [e1, htk, flatMap_get hs hf, show (i * s + j) / s = i from by rw [Nat.mul_comm, Nat.mul_add_div hs, Nat.div_eq_of_lt hjs, Nat.add_zero], show (i * s + j) % s = j from by rw [Nat.mul_comm, Nat.mul_add_mod, Nat.mod_eq_of_lt hjs], hi]
    exact hj
end

section
variable {α : Type} {f : α → List Value} {s : Nat} {P : Program} {w : World} {ops : Array Oper} {rest : List Oper} {o : Oper} {a : Act} {Q : Exit → Act → World → Prop}

/-- append(out, src...), out the call's own, src whatever holds such elements -/
theorem wpList_append_holdS (hgd : o.guard = none) (l x : Operand) (f : α → List Value) (s : Nat) (hs0 : 0 < s) (hfl : ∀ y, (f y).length = s) (hf : ∀ y, ∀ u ∈ f y, u.oneCell' = true) (z : Value) (hzc : z.cells.size = s) (T e : TypeId) (bytes : Nat)
    (ht : P.underlying T = some (.slice e)) (hi : (P.info? e).map (fun i => (i.zero, i.size, i.bytes)) = some (some z, s, bytes))
    (ho : o.op = .call { callee := .builtin .append, args := #[l, x], argTypes := #[T, T] })
    (base : Nat) (v : Value) (xs : List α) (hs : a.eval l = v) (hown : OwnS f s e w base v xs) (B : Nat) (A : Option Addr) (m c : Nat) (ys : List α) (hx : a.eval x = .slice A m c)
    (hr : HoldsS f s w B A m c ys) (hlen : (xs.length + ys.length) * bytes ≤ 140737488355328) (h63 : xs.length + ys.length ≤ 9223372036854775807) (hbase : base ≤ w.heap.size)
    (h : ∀ v' w', Hid (OwnS f s e w' base v' (xs ++ ys)) → Hid (Below base w w') → wpList P ops Q rest (a.put o.dst v') w') :
    wpList P ops Q (o :: rest) a w := by
  obtain ⟨i0, hi0, hz0, hz1, hz2⟩ := info_parts hi
  have hl := hr.len
  rcases A with _ | ad
  · have hc := hr.bare rfl
    have hft := hr.fit
    have hm : m = 0 := by omega
    subst hm
    subst hc
    have : ys = [] := List.eq_nil_of_length_eq_zero hl
    subst this
    refine wpList_append_own_none hgd l x T ho base e i0 s ht hi0 v xs.length _ hs hown hx ?_
    exact h v w (by rw [List.append_nil]; exact hown) (Below.refl _ _)
  · refine wpList_append_own w hgd l x T ho base e i0 z s bytes ht hi0 hz0 hz1 hz2 hzc hs0 v xs.length _ hs hown ad m c (ys.flatMap f) hx (by rw [flatMap_len hfl, hl]) ?_
      (by intro v hv; obtain ⟨x, _, hx⟩ := List.mem_flatMap.1 hv; exact hf x v hx) (by unfold maxLen; omega) (by rw [← hl]; exact hlen) hbase ?_
    · intro j u hj
      have hjl : j < (ys.flatMap f).length := (List.getElem?_eq_some_iff.1 hj).1
      rw [flatMap_len hfl] at hjl
      have hm0 : 0 < m := by
        rcases Nat.eq_zero_or_pos m with h0 | h0
        · rw [hl, h0, Nat.zero_mul] at hjl; omega
        · exact h0
      obtain ⟨b, off, he, _, hcl⟩ := hr.cells hm0
      injection he with he
      subst he
      have e : (⟨b, off, none⟩ : Addr).add j = ⟨b, off + j, none⟩ := by
        by_cases hj0 : j = 0
        · subst hj0; simp [Addr.add]
        · simp [Addr.add, hj0]
      rw [e]
      rw [flatMap_get hs0 hfl, Option.bind_eq_some_iff] at hj
      obtain ⟨y, hy, hu⟩ := hj
      have := hcl _ y hy _ u hu
      rwa [Nat.mul_comm, Nat.div_add_mod] at this
    · intro v' w' hown' hgr _
      refine h v' w' ?_ ((Below.refl _ _).grown hgr hbase (fun k hk => (World.ownsRow.lt hown k hk).1))
      show World.ownsRow _ _ _ _ _ _ _
      rw [List.length_append, List.flatMap_append, hl]
      exact hown'
end
end Go.Proofs.YtepkamkgodbffaaDoor

/-
  An Ask and a Say (api.Ask, api.Say): as values ('AskV', 'SayV'), as cells ('acells', 'scells'), and what cells in memory are one ('AskIs', 'SayIs').
-/
namespace Go.Proofs.YtepkamkgodbffaaDoor
open Go.RowKit

structure LockV where
  op : Int
  at_ : Int
  n : Int
  md : Int
def LockV.tup (l : LockV) : Int × Int × Int × Int := (l.op, l.at_, l.n, l.md)
theorem LockV.tup_inj {a b : LockV} : a.tup = b.tup ↔ a = b := by
  cases a; cases b; simp [LockV.tup]
instance : DecidableEq LockV := fun _ _ => decidable_of_iff _ LockV.tup_inj
structure LockV.ok (l : LockV) : Prop where
  op : -9223372036854775808 ≤ l.op ∧ l.op ≤ 9223372036854775807
  at_ : 0 ≤ l.at_ ∧ l.at_ ≤ 18446744073709551615
  n : 0 ≤ l.n ∧ l.n ≤ 18446744073709551615
  md : 0 ≤ l.md ∧ l.md ≤ 65535
def lockCells (l : LockV) : List Value := [.int .i64 l.op, .int .u64 l.at_, .int .u64 l.n, .int .u16 l.md]
theorem lockCells_len (l : LockV) : (lockCells l).length = 4 := rfl
theorem lockCells_one (l : LockV) : ∀ u ∈ lockCells l, u.oneCell' = true := by
  intro u hu
  simp only [lockCells, List.mem_cons, List.not_mem_nil, or_false] at hu
  rcases hu with rfl | rfl | rfl | rfl <;> rfl

structure EntryV where
  name : ByteArray
  kind : Int
  size : Int
def EntryV.tup (l : EntryV) : ByteArray × Int × Int := (l.name, l.kind, l.size)
theorem EntryV.tup_inj {a b : EntryV} : a.tup = b.tup ↔ a = b := by
  cases a; cases b; simp [EntryV.tup]
instance : DecidableEq EntryV := fun _ _ => decidable_of_iff _ EntryV.tup_inj
structure EntryV.ok (l : EntryV) : Prop where
  kind : 0 ≤ l.kind ∧ l.kind ≤ 255
  size : -9223372036854775808 ≤ l.size ∧ l.size ≤ 9223372036854775807
def entryCells (l : EntryV) : List Value := [.string l.name, .int .u8 l.kind, .int .i64 l.size]
theorem entryCells_len (l : EntryV) : (entryCells l).length = 3 := rfl
theorem entryCells_one (l : EntryV) : ∀ u ∈ entryCells l, u.oneCell' = true := by
  intro u hu
  simp only [entryCells, List.mem_cons, List.not_mem_nil, or_false] at hu
  rcases hu with rfl | rfl | rfl <;> rfl

structure AskV where
  dial : List Int
  guid : List Int
  proof : List Int
  user : ByteArray
  share : ByteArray
  acc : Int
  shr : Int
  way : Int
  opt : Int
  lev : Int
  dur : Int
  file : Int
  name : ByteArray
  at_ : Int
  n : Int
  data : List Int
  locks : List LockV
  most : Int
  pat : ByteArray
  aft : ByteArray
  cls : Int
  siz : Int
  on : Bool
def AskV.tup (a : AskV) : List (List Int) × List ByteArray × List Int × List LockV × Bool :=
  ([a.dial, a.guid, a.proof, a.data], [a.user, a.share, a.name, a.pat, a.aft], [a.acc, a.shr, a.way, a.opt, a.lev, a.dur, a.file, a.at_, a.n, a.most, a.cls, a.siz], a.locks, a.on)
theorem AskV.tup_inj {a b : AskV} : a.tup = b.tup ↔ a = b := by
  constructor
  · obtain ⟨a1, a2, a3, a4, a5, a6, a7, a8, a9, a10, a11, a12, a13, a14, a15, a16, a17, a18, a19, a20, a21, a22, a23⟩ := a
    obtain ⟨b1, b2, b3, b4, b5, b6, b7, b8, b9, b10, b11, b12, b13, b14, b15, b16, b17, b18, b19, b20, b21, b22, b23⟩ := b
    intro h
    simp only [AskV.tup, Prod.mk.injEq, List.cons.injEq, and_true] at h
    obtain ⟨⟨h1, h2, h3, h16⟩, ⟨h4, h5, h13, h19, h20⟩, ⟨h6, h7, h8, h9, h10, h11, h12, h14, h15, h18, h21, h22⟩, h17, h23⟩ := h
    subst h1 h2 h3 h4 h5 h6 h7 h8 h9 h10 h11 h12 h13 h14 h15 h16 h17 h18 h19 h20 h21 h22 h23
    rfl
  · rintro rfl
    rfl
instance : DecidableEq AskV := fun _ _ => decidable_of_iff _ AskV.tup_inj
/-- each number is one of its kind -/
structure AskV.ok (a : AskV) : Prop where
  dial : ∀ x ∈ a.dial, 0 ≤ x ∧ x ≤ 65535
  glen : a.guid.length = 16
  gbyte : Bytes a.guid
  plen : a.proof.length = 32
  pbyte : Bytes a.proof
  acc : 0 ≤ a.acc ∧ a.acc ≤ 4294967295
  shr : 0 ≤ a.shr ∧ a.shr ≤ 4294967295
  way : 0 ≤ a.way ∧ a.way ≤ 4294967295
  opt : 0 ≤ a.opt ∧ a.opt ≤ 4294967295
  lev : 0 ≤ a.lev ∧ a.lev ≤ 255
  dur : 0 ≤ a.dur ∧ a.dur ≤ 255
  file : 0 ≤ a.file ∧ a.file ≤ 18446744073709551615
  at_ : 0 ≤ a.at_ ∧ a.at_ ≤ 18446744073709551615
  n : 0 ≤ a.n ∧ a.n ≤ 4294967295
  data : Bytes a.data
  locks : ∀ l ∈ a.locks, l.ok
  most : 0 ≤ a.most ∧ a.most ≤ 65535
  cls : 0 ≤ a.cls ∧ a.cls ≤ 65535
  siz : 0 ≤ a.siz ∧ a.siz ≤ 18446744073709551615
def zeroAsk : AskV := ⟨[], List.replicate 16 0, List.replicate 32 0, .empty, .empty, 0, 0, 0, 0, 0, 0, 0, .empty, 0, 0, [], [], 0, .empty, .empty, 0, 0, false⟩
theorem zeroAsk_ok : zeroAsk.ok := ⟨(fun x h => by cases h), rfl, Bytes.zeros 16, rfl, Bytes.zeros 32, by decide, by decide, by decide, by decide, by decide, by decide, by decide, by decide, by decide, Bytes.nil, (fun l h => by cases h), by decide, by decide, by decide⟩

/-- the cells behind the two arrays -/
def atail (vx vl : Value) (a : AskV) : List Value := [.string a.user, .string a.share, .int .u32 a.acc, .int .u32 a.shr, .int .u32 a.way, .int .u32 a.opt, .int .u8 a.lev, .int .u8 a.dur, .int .u64 a.file, .string a.name, .int .u64 a.at_, .int .u32 a.n, vx, vl,
  .int .u16 a.most, .string a.pat, .string a.aft, .int .u16 a.cls, .int .u64 a.siz, .bool a.on]
def acells (vd vx vl : Value) (a : AskV) : List Value := vd :: (a.guid.map (Value.int .u8) ++ (a.proof.map (Value.int .u8) ++ atail vx vl a))
/-- the cells cs are the Ask a, its lists in memory below block B -/
def AskIs (w : World) (B : Nat) (cs : List Value) (a : AskV) : Prop := ∃ Ad nd cd Ax nx cx Al nl cl, cs = acells (.slice Ad nd cd) (.slice Ax nx cx) (.slice Al nl cl) a ∧
  HoldsF (Value.int .u16) w B Ad nd cd a.dial ∧ Holds w B Ax nx cx a.data ∧ HoldsS lockCells 4 w B Al nl cl a.locks

structure SayV where
  dia : Int
  siz : Int
  chal : List Int
  lev : Int
  dur : Int
  made : Int
  file : Int
  kind : Int
  data : List Int
  n : Int
  ents : List EntryV
  more : Bool
  gone : Bool
def SayV.tup (a : SayV) : (List Int × List Int) × (List Int × List EntryV × Bool × Bool) := (([a.dia, a.siz, a.lev, a.dur, a.made, a.file, a.kind, a.n], a.chal), (a.data, a.ents, a.more, a.gone))
theorem SayV.tup_inj {a b : SayV} : a.tup = b.tup ↔ a = b := by
  obtain ⟨a1, a2, a3, a4, a5, a6, a7, a8, a9, a10, a11, a12, a13⟩ := a
  obtain ⟨b1, b2, b3, b4, b5, b6, b7, b8, b9, b10, b11, b12, b13⟩ := b
  simp only [SayV.tup, Prod.mk.injEq, List.cons.injEq, SayV.mk.injEq, and_true]
  constructor
  · rintro ⟨⟨⟨h1, h2, h3, h4, h5, h6, h7, h8⟩, h9⟩, h10, h11, h12, h13⟩
    exact ⟨h1, h2, h9, h3, h4, h5, h6, h7, h10, h8, h11, h12, h13⟩
  · rintro ⟨h1, h2, h9, h3, h4, h5, h6, h7, h10, h8, h11, h12, h13⟩
    exact ⟨⟨⟨h1, h2, h3, h4, h5, h6, h7, h8⟩, h9⟩, h10, h11, h12, h13⟩
instance : DecidableEq SayV := fun _ _ => decidable_of_iff _ SayV.tup_inj
structure SayV.ok (a : SayV) : Prop where
  dia : 0 ≤ a.dia ∧ a.dia ≤ 65535
  siz : 0 ≤ a.siz ∧ a.siz ≤ 18446744073709551615
  clen : a.chal.length = 8
  cbyte : Bytes a.chal
  lev : 0 ≤ a.lev ∧ a.lev ≤ 255
  dur : 0 ≤ a.dur ∧ a.dur ≤ 255
  made : 0 ≤ a.made ∧ a.made ≤ 65535
  file : 0 ≤ a.file ∧ a.file ≤ 18446744073709551615
  kind : 0 ≤ a.kind ∧ a.kind ≤ 255
  data : Bytes a.data
  n : 0 ≤ a.n ∧ a.n ≤ 4294967295
  ents : ∀ l ∈ a.ents, l.ok
def zeroSay : SayV := ⟨0, 0, List.replicate 8 0, 0, 0, 0, 0, 0, [], 0, [], false, false⟩
theorem zeroSay_ok : zeroSay.ok := ⟨by decide, by decide, rfl, Bytes.zeros 8, by decide, by decide, by decide, by decide, by decide, Bytes.nil, by decide, (fun l h => by cases h)⟩
def stail (vx ve : Value) (a : SayV) : List Value := [.int .u8 a.lev, .int .u8 a.dur, .int .u16 a.made, .int .u64 a.file, .int .u8 a.kind, vx, .int .u32 a.n, ve, .bool a.more, .bool a.gone]
def scells (vx ve : Value) (a : SayV) : List Value := .int .u16 a.dia :: .int .u64 a.siz :: (a.chal.map (Value.int .u8) ++ stail vx ve a)
/-- the cells cs are the Say a, its lists in memory below block B -/
def SayIs (w : World) (B : Nat) (cs : List Value) (a : SayV) : Prop := ∃ Ax nx cx Ae ne ce, cs = scells (.slice Ax nx cx) (.slice Ae ne ce) a ∧ Holds w B Ax nx cx a.data ∧ HoldsS entryCells 3 w B Ae ne ce a.ents

section
variable {w w' : World} {B B' g : Nat} {T : TypeId} {cs : List Value} {a : AskV} {s : SayV} {vd vx vl ve : Value}
theorem AskIs.keep (h : AskIs w B cs a) (hk : ∀ p : Addr, p.block < B → w'.cell? p = w.cell? p) : AskIs w' B cs a := by
  obtain ⟨Ad, nd, cd, Ax, nx, cx, Al, nl, cl, e, h1, h2, h3⟩ := h
  exact ⟨Ad, nd, cd, Ax, nx, cx, Al, nl, cl, e, h1.keep hk, h2.keep hk, h3.keep hk⟩
theorem AskIs.mono (h : AskIs w B cs a) (hB : B ≤ B') : AskIs w B' cs a := by
  obtain ⟨Ad, nd, cd, Ax, nx, cx, Al, nl, cl, e, h1, h2, h3⟩ := h
  exact ⟨Ad, nd, cd, Ax, nx, cx, Al, nl, cl, e, h1.mono hB, h2.mono hB, h3.mono hB⟩
theorem AskIs.below (h : AskIs w B cs a) (hb : Below B w w') : AskIs w' B cs a := h.keep fun _ hp => hb.cell hp
theorem AskIs.over (h : AskIs w w.heap.size cs a) (hb : Below w.heap.size w w') : AskIs w' w'.heap.size cs a := (h.below hb).mono hb.size
theorem AskIs.drewN (h : AskIs w B cs a) (k : Nat) : AskIs (w.drewN k) B cs a := h.keep fun _ _ => rfl
theorem AskIs.drew (h : AskIs w B cs a) : AskIs w.drew B cs a := h.keep fun _ _ => rfl
theorem SayIs.keep (h : SayIs w B cs s) (hk : ∀ p : Addr, p.block < B → w'.cell? p = w.cell? p) : SayIs w' B cs s := by
  obtain ⟨Ax, nx, cx, Al, nl, cl, e, h2, h3⟩ := h
  exact ⟨Ax, nx, cx, Al, nl, cl, e, h2.keep hk, h3.keep hk⟩
theorem SayIs.mono (h : SayIs w B cs s) (hB : B ≤ B') : SayIs w B' cs s := by
  obtain ⟨Ax, nx, cx, Al, nl, cl, e, h2, h3⟩ := h
  exact ⟨Ax, nx, cx, Al, nl, cl, e, h2.mono hB, h3.mono hB⟩
theorem SayIs.below (h : SayIs w B cs s) (hb : Below B w w') : SayIs w' B cs s := h.keep fun _ hp => hb.cell hp
theorem SayIs.over (h : SayIs w w.heap.size cs s) (hb : Below w.heap.size w w') : SayIs w' w'.heap.size cs s := (h.below hb).mono hb.size
theorem SayIs.drewN (h : SayIs w B cs s) (k : Nat) : SayIs (w.drewN k) B cs s := h.keep fun _ _ => rfl
theorem SayIs.drew (h : SayIs w B cs s) : SayIs w.drew B cs s := h.keep fun _ _ => rfl

theorem acells_len (k : a.ok) : (acells vd vx vl a).length = 69 := by simp [acells, atail, k.glen, k.plen]
theorem scells_len (k : s.ok) : (scells vx ve s).length = 20 := by simp [scells, stail, k.clen]
theorem mem_nums {xs : List Int} {k : IntKind} {v : Value} (h : v ∈ xs.map (Value.int k)) : v.oneCell' = true := by
  obtain ⟨x, _, rfl⟩ := List.mem_map.1 h
  rfl
theorem acells_one (hd : vd.oneCell' = true) (hx : vx.oneCell' = true) (hl : vl.oneCell' = true) : ∀ v ∈ acells vd vx vl a, v.oneCell' = true := by
  intro v hv
  simp only [acells, List.mem_cons, List.mem_append] at hv
  rcases hv with rfl | hv | hv | hv
  · exact hd
  · exact mem_nums hv
  · exact mem_nums hv
  · simp only [atail, List.mem_cons, List.not_mem_nil, or_false] at hv
    rcases hv with rfl | rfl | rfl | rfl | rfl | rfl | rfl | rfl | rfl | rfl | rfl | rfl | rfl | rfl | rfl | rfl | rfl | rfl | rfl | rfl <;> first | rfl | assumption
theorem scells_one (hx : vx.oneCell' = true) (hl : ve.oneCell' = true) : ∀ v ∈ scells vx ve s, v.oneCell' = true := by
  intro v hv
  simp only [scells, List.mem_cons, List.mem_append] at hv
  rcases hv with rfl | rfl | hv | hv
  · rfl
  · rfl
  · exact mem_nums hv
  · simp only [stail, List.mem_cons, List.not_mem_nil, or_false] at hv
    rcases hv with rfl | rfl | rfl | rfl | rfl | rfl | rfl | rfl | rfl | rfl <;> first | rfl | assumption
theorem AskIs.one (h : AskIs w B cs a) : ∀ v ∈ cs, v.oneCell' = true := by
  obtain ⟨_, _, _, _, _, _, _, _, _, rfl, _⟩ := h
  exact acells_one rfl rfl rfl
theorem AskIs.len (h : AskIs w B cs a) (k : a.ok) : cs.length = 69 := by
  obtain ⟨_, _, _, _, _, _, _, _, _, rfl, _⟩ := h
  exact acells_len k
theorem SayIs.one (h : SayIs w B cs s) : ∀ v ∈ cs, v.oneCell' = true := by
  obtain ⟨_, _, _, _, _, _, rfl, _⟩ := h
  exact scells_one rfl rfl
theorem SayIs.len (h : SayIs w B cs s) (k : s.ok) : cs.length = 20 := by
  obtain ⟨_, _, _, _, _, _, rfl, _⟩ := h
  exact scells_len k

/-- a cell behind the arrays -/
theorem acells_get (k : a.ok) (i : Nat) : (acells vd vx vl a)[49 + i]? = (atail vx vl a)[i]? := by
  unfold acells
  rw [show 49 + i = (48 + i) + 1 from by omega, List.getElem?_cons_succ, List.getElem?_append_right (by rw [List.length_map, k.glen]; omega), List.length_map, k.glen, List.getElem?_append_right (by rw [List.length_map, k.plen]; omega), List.length_map, k.plen]
  congr 1
  omega
theorem acells_set (k : a.ok) (i : Nat) (u : Value) : (acells vd vx vl a).set (49 + i) u = vd :: (a.guid.map (Value.int .u8) ++ (a.proof.map (Value.int .u8) ++ (atail vx vl a).set i u)) := by
  unfold acells
  rw [show 49 + i = (48 + i) + 1 from by omega, List.set_cons_succ, List.set_append_right _ _ (by rw [List.length_map, k.glen]; omega), List.length_map, k.glen, List.set_append_right _ _ (by rw [List.length_map, k.plen]; omega), List.length_map, k.plen]
  congr 4
  omega
theorem scells_get (k : s.ok) (i : Nat) : (scells vx ve s)[10 + i]? = (stail vx ve s)[i]? := by
  unfold scells
  rw [show 10 + i = (8 + i) + 1 + 1 from by omega, List.getElem?_cons_succ, List.getElem?_cons_succ, List.getElem?_append_right (by rw [List.length_map, k.clen]; omega), List.length_map, k.clen]
  congr 1
  omega
theorem Blk.at (h : Blk w g T cs) {i : Nat} {v : Value} (e : cs[i]? = some v) : w.cell? ⟨g, i, none⟩ = some v := (h.cell i).trans e
end

theorem size_ask : (Tryd.prog.info? 32).map (·.size) = some 69 := by kernel_rfl
theorem zero_ask : (Tryd.prog.info? 32).map (fun i => (i.zero, i.size)) = some (some (.agg (acells (.slice none 0 0) (.slice none 0 0) (.slice none 0 0) zeroAsk).toArray), 69) := by kernel_rfl
theorem built_ask : Tryd.prog.built 32 [] = some (acells (.slice none 0 0) (.slice none 0 0) (.slice none 0 0) zeroAsk).toArray := by kernel_rfl
theorem size_say : (Tryd.prog.info? 45).map (·.size) = some 20 := by kernel_rfl
theorem zero_say : (Tryd.prog.info? 45).map (fun i => (i.zero, i.size)) = some (some (.agg (scells (.slice none 0 0) (.slice none 0 0) zeroSay).toArray), 20) := by kernel_rfl
theorem built_say : Tryd.prog.built 45 [] = some (scells (.slice none 0 0) (.slice none 0 0) zeroSay).toArray := by kernel_rfl
theorem zeroAsk_is (w : World) (B : Nat) : AskIs w B (acells (.slice none 0 0) (.slice none 0 0) (.slice none 0 0) zeroAsk) zeroAsk := ⟨none, 0, 0, none, 0, 0, none, 0, 0, rfl, HoldsF.nil _ w B, Holds.nil w B, HoldsS.nil _ _ w B⟩
theorem zeroSay_is (w : World) (B : Nat) : SayIs w B (scells (.slice none 0 0) (.slice none 0 0) zeroSay) zeroSay := ⟨none, 0, 0, none, 0, 0, rfl, Holds.nil w B, HoldsS.nil _ _ w B⟩
end Go.Proofs.YtepkamkgodbffaaDoor

/-
  A region that draws its order, walked by hand under a condition S on the world: a load of a whole array that S names may be taken first ('yieldsIf_load_arr'); where one operation alone may come up, it does ('wpAnyH_one'). And: an array is itself ('run_equalIn_arr'). No function of the program is named here.
-/
namespace Go.Proofs.YtepkamkgodbffaaDoor
open Go.RowKit

section
variable {P : Program} {ops : Array Oper} {md : Region.Mode} {S : World → Prop} {Q : Exit → Act → World → Prop}

theorem yieldsIf_load_arr {op : Oper} {a : Act} (hw : Region.wanted op (yielded ops a.tmps) = true) (T : TypeId) (x : Operand) (ho : op.op = .load T x) (g : Nat) (hx : a.eval x = .pointer (some ⟨g, 0, none⟩)) (k : IntKind) (T' : TypeId) (xs : List Int)
    (hS : ∀ w, S w → Arr w g k T' xs) (n : Nat) (e : TypeId) (hu : P.underlying T = some (.array n e)) (hi : (P.info? T).map (·.size) = some n) (hn : Hid (xs.length = n)) : YieldsIf P ops S op (.agg (xs.map (Value.int k)).toArray) a :=
  .inl ⟨hw, fun w hw' => by
    have hr := run_loadVar_row (P := P) w g T' T (xs.map (Value.int k)).toArray (0, 0) _ (hS w hw') hu rfl (by rw [hi]; have := hn.out; simp [this])
    unfold execOp
    simp only [ho, hx, Instr.loadAt, Instr.sureAddr, Sem.run_bind, Sem.run_pure, Result.andThen_ok, hr]⟩

theorem wpAnyH_one (i : Nat) (oi : Oper) {fuel : Nat} {listed : Array Bool} {a : Act} {w : World} (hr : Region.ready md ops listed = [i]) (hi : ops[i]? = some oi)
    (h : ∀ K : Act → World → Prop, (∀ a' w', S w' → wpAnyH P md ops Q S fuel (listed.setIfInBounds i true) a' w' → K a' w') → if Region.wanted oi (yielded ops a.tmps) = true then oi.wp P a w K Q else K (a.put oi.dst undef) w) : wpAnyH P md ops Q S (fuel + 1) listed a w := by
  refine wpAnyH_all hr (by simp) fun j hj => ?_
  obtain rfl : j = i := by simpa using hj
  have h1 := h (fun a' w' => S w' ∧ wpAnyH P md ops Q S fuel (listed.setIfInBounds j true) a' w') fun _ _ h2 h3 => ⟨h2, h3⟩
  unfold wpOp
  simp only [hi]
  by_cases hw : Region.wanted oi (yielded ops a.tmps) = true
  · rw [if_pos hw] at h1 ⊢
    exact .inl h1
  · rw [if_neg hw] at h1 ⊢
    exact h1

/-- an array is itself -/
theorem run_equalIn_arr {T e : TypeId} {n : Nat} {k : IntKind} (hu : P.underlying T = some (.array n e)) (he : P.underlying e = some (.int k)) (hs : (P.info? e).map (·.size) = some 1) (xs : List Int) (hl : xs.length = n) (d : Nat) (w : World) :
    (Op.equalIn (d + 2) T (.agg (xs.map (Value.int k)).toArray) (.agg (xs.map (Value.int k)).toArray)).run P w = .ok true w := by
  obtain ⟨j, hj, hj1⟩ : ∃ j, P.info? e = some j ∧ j.size = 1 := by
    cases hq : P.info? e with
    | none => simp [hq] at hs
    | some j => exact ⟨j, rfl, by simpa [hq] using hs⟩
  have hc : P.cellsOf e = 1 := by unfold Program.cellsOf; rw [hj]; simpa using hj1
  rw [show d + 2 = (d + 1) + 1 from rfl, run_equalIn_array w (d + 1) _ _ hu hj, hc]
  have key : ∀ is : List Nat, (∀ i ∈ is, i < n) → (Op.eqItems (d + 1) e 1 (xs.map (Value.int k)).toArray (xs.map (Value.int k)).toArray is).run P w = .ok true w := by
    intro is
    induction is with
    | nil => intro _; simp [Op.eqItems]
    | cons i is ih =>
      intro hi
      have hil : i < xs.length := by rw [hl]; exact hi i List.mem_cons_self
      have hp : (part e (xs.map (Value.int k)).toArray (i * 1)).run P w = .ok (.int k xs[i]) w := by
        simp [part, isAgg, run_underlying he, hil]
      simp only [Op.eqItems, Sem.run_bind, hp, Result.andThen_ok, run_equalIn_int w d e k k _ _ he]
      simp only [beq_self_eq_true, Bool.not_true, Bool.false_eq_true, if_false]
      exact ih fun i h => hi i (List.mem_cons_of_mem _ h)
  exact key _ fun i h => List.mem_range.1 h
end
end Go.Proofs.YtepkamkgodbffaaDoor

/-
  Layer 7 (head): '==' of two heads ('run_equalIn_hd'); a load of a head as a step of a region that draws its order. No function of the program is named here.
-/
namespace Go.Proofs.YtepkamkgodbffaaDoor
open Go.RowKit

section
/-- two arrays that may differ -/
theorem run_equalIn_arr3 {P : Program} {T e : TypeId} {n : Nat} {k : IntKind} (hu : P.underlying T = some (.array n e)) (he : P.underlying e = some (.int k)) (hs : (P.info? e).map (·.size) = some 1) (xs ys : List Int) (hl : xs.length = n) (hm : ys.length = n) (d : Nat) (w : World) :
    (Op.equalIn (d + 2) T (.agg (xs.map (Value.int k)).toArray) (.agg (ys.map (Value.int k)).toArray)).run P w = .ok (decide (xs = ys)) w := by
  obtain ⟨j, hj, hj1⟩ : ∃ j, P.info? e = some j ∧ j.size = 1 := by
    cases hq : P.info? e with
    | none => simp [hq] at hs
    | some j => exact ⟨j, rfl, by simpa [hq] using hs⟩
  have hc : P.cellsOf e = 1 := by unfold Program.cellsOf; rw [hj]; simpa using hj1
  rw [show d + 2 = (d + 1) + 1 from rfl, run_equalIn_array w (d + 1) _ _ hu hj, hc]
  have key : ∀ is : List Nat, (∀ i ∈ is, i < n) → (Op.eqItems (d + 1) e 1 (xs.map (Value.int k)).toArray (ys.map (Value.int k)).toArray is).run P w = .ok (is.all fun i => xs.getD i 0 == ys.getD i 0) w := by
    intro is
    induction is with
    | nil => intro _; simp [Op.eqItems]
    | cons i is ih =>
      intro hi
      have hil : i < n := hi i List.mem_cons_self
      have hx : i < xs.length := by omega
      have hy : i < ys.length := by omega
      have hp : (part e (xs.map (Value.int k)).toArray (i * 1)).run P w = .ok (.int k xs[i]) w := by simp [part, isAgg, run_underlying he, hx]
      have hp2 : (part e (ys.map (Value.int k)).toArray (i * 1)).run P w = .ok (.int k ys[i]) w := by simp [part, isAgg, run_underlying he, hy]
      simp only [Op.eqItems, Sem.run_bind, hp, hp2, Result.andThen_ok, run_equalIn_int w d e k k _ _ he]
      have e1 : xs.getD i 0 = xs[i] := by simp [List.getD_eq_getElem?_getD, hx]
      have e2 : ys.getD i 0 = ys[i] := by simp [List.getD_eq_getElem?_getD, hy]
      rw [List.all_cons, e1, e2]
      by_cases hq : xs[i] = ys[i]
      · rw [hq]
        simp only [beq_self_eq_true, Bool.not_true, Bool.false_eq_true, if_false, Bool.true_and]
        exact ih fun i h => hi i (List.mem_cons_of_mem _ h)
      · have hb : (xs[i] == ys[i]) = false := by simpa using hq
        simp [hb]
  rw [key _ fun i h => List.mem_range.1 h]
  congr 1
  by_cases hq : xs = ys
  · subst hq
    simp
  · rw [decide_eq_false hq, List.all_eq_false]
    have hne : ¬ ∀ i, i < n → xs.getD i 0 = ys.getD i 0 := fun hall => hq (by
      apply List.ext_getElem (by omega)
      intro i h1 h2
      have := hall i (by omega)
      simpa [List.getD_eq_getElem?_getD, h1, h2] using this)
    obtain ⟨i, hi⟩ := Classical.not_forall.1 hne
    obtain ⟨hi1, hi2⟩ := Classical.not_imp.1 hi
    exact ⟨i, List.mem_range.2 hi1, by simpa using hi2⟩

/-- '==' over the fields, by their types and places alone -/
def eqSpec (d : Nat) (xs ys : Array Value) : List (Bool × TypeId × Nat) → Sem Bool
  | [] => pure true
  | (u, t, o) :: r =>
    if u = true then eqSpec d xs ys r else do
      let a ← part t xs o
      let b ← part t ys o
      let q ← Op.equalIn d t a b
      if (!q) = true then pure false else eqSpec d xs ys r
theorem eqFields_spec (d : Nat) (xs ys : Array Value) (l : List Field) : Op.eqFields d xs ys l = eqSpec d xs ys (l.map fun f => (decide (f.name = "_"), f.type, f.offset)) := by
  induction l with
  | nil => rfl
  | cons f l ih =>
    simp only [Op.eqFields, List.map_cons, eqSpec, ih]
    by_cases h : f.name = "_"
    · simp [h]
    · simp [h]

section
variable {P : Program} {w : World} {d : Nat} {xs ys : Array Value} {r : List (Bool × TypeId × Nat)} {q : Bool}
theorem eqSpec_int (t : TypeId) (k : IntKind) (o : Nat) (x y : Int) (ht : P.underlying t = some (.int k)) (hx : xs[o]? = some (.int k x)) (hy : ys[o]? = some (.int k y)) (hr : (eqSpec (d + 1) xs ys r).run P w = .ok q w) :
    (eqSpec (d + 1) xs ys ((false, t, o) :: r)).run P w = .ok (x == y && q) w := by
  have p1 : (part t xs o).run P w = .ok (.int k x) w := by simp [part, isAgg, run_underlying ht, hx]
  have p2 : (part t ys o).run P w = .ok (.int k y) w := by simp [part, isAgg, run_underlying ht, hy]
  simp only [eqSpec, Bool.false_eq_true, if_false, Sem.run_bind, p1, p2, Result.andThen_ok, run_equalIn_int w d t k k _ _ ht]
  by_cases h : x = y
  · subst h
    simpa using hr
  · have hb : (x == y) = false := by simpa using h
    simp [hb]
theorem eqSpec_arr (t e : TypeId) (n : Nat) (k : IntKind) (o : Nat) (us vs : List Int) (ht : P.underlying t = some (.array n e)) (he : P.underlying e = some (.int k)) (hs : (P.info? e).map (·.size) = some 1) (hz : (P.info? t).map (·.size) = some n)
    (hx : xs.extract o (o + n) = (us.map (Value.int k)).toArray) (hy : ys.extract o (o + n) = (vs.map (Value.int k)).toArray) (ha : us.length = n) (hb : vs.length = n) :
    (eqSpec (d + 2) xs ys [(false, t, o)]).run P w = .ok (decide (us = vs)) w := by
  obtain ⟨j, hj, hj1⟩ : ∃ j, P.info? t = some j ∧ j.size = n := by
    cases hq : P.info? t with
    | none => simp [hq] at hz
    | some j => exact ⟨j, rfl, by simpa [hq] using hz⟩
  have p1 : (part t xs o).run P w = .ok (.agg (us.map (Value.int k)).toArray) w := by simp [part, isAgg, run_underlying ht, sizeOf, typeInfo, hj, hj1, hx]
  have p2 : (part t ys o).run P w = .ok (.agg (vs.map (Value.int k)).toArray) w := by simp [part, isAgg, run_underlying ht, sizeOf, typeInfo, hj, hj1, hy]
  simp only [eqSpec, Bool.false_eq_true, if_false, Sem.run_bind, p1, p2, Result.andThen_ok, run_equalIn_arr3 ht he hs us vs ha hb d w]
  by_cases h : us = vs
  · simp [h]
  · simp [h]
end

section
variable {P : Program} {ops : Array Oper} {S : World → Prop}
theorem yieldsIf_load_one {op : Oper} {a : Act} (hw : Region.wanted op (yielded ops a.tmps) = true) (T : TypeId) (x : Operand) (ho : op.op = .load T x) (g i : Nat) (hx : a.eval x = .pointer (some ⟨g, i, none⟩)) (v : Value)
    (hS : ∀ w, S w → w.cell? ⟨g, i, none⟩ = some v) (d : TypeDesc) (hu : P.underlying T = some d) (hd : (match d with | .struct _ | .array _ _ => true | _ => false) = false) : YieldsIf P ops S op v a :=
  .inl ⟨hw, fun w hw' => by
    have hc := hS w hw'
    have hagg : (isAgg T).run P w = .ok false w := by
      unfold isAgg
      rw [Sem.run_bind, run_underlying hu w]
      cases d <;> simp_all
    unfold execOp
    simp [ho, hx, Instr.loadAt, Instr.sureAddr, Sem.run_bind, Result.andThen_ok, loadVar, hagg, hc]⟩
theorem yieldsIf_build_blk {op : Oper} {a : Act} (hw : Region.wanted op (yielded ops a.tmps) = true) (T : TypeId) (parts : Array (Nat × Operand)) (ho : op.op = .build T parts) (cs : List Value)
    (hf : P.built T (parts.map fun (i, x) => (i, a.eval x)).toList = some cs.toArray) : YieldsIf P ops S op (.agg cs.toArray) a :=
  .inl ⟨hw, fun w _ => by
    unfold execOp
    simp only [ho, Sem.run_bind, run_build w T _ _ hf, Result.andThen_ok]
    rfl⟩
theorem yieldsIf_nil {op : Oper} {a : Act} (hw : Region.wanted op (yielded ops a.tmps) = true) (x : Operand) (ho : op.op = .nilCheck x) (ad : Addr) (hx : a.eval x = .pointer (some ad)) : YieldsIf P ops S op (.pointer (some ad)) a :=
  .inl ⟨hw, fun w _ => by
    unfold execOp
    simp [ho, hx]⟩
theorem yieldsIf_move {op : Oper} {a : Act} (hw : Region.wanted op (yielded ops a.tmps) = true) (x : Operand) (ho : op.op = .move x) (v : Value) (hx : a.eval x = v) : YieldsIf P ops S op v a :=
  .inl ⟨hw, fun w _ => by
    unfold execOp
    simp [ho, hx]⟩
theorem yieldsIf_asg {op : Oper} {a : Act} (hw : Region.wanted op (yielded ops a.tmps) = true) (x : Operand) (ho : op.op = .assign x) (v : Value) (hx : a.eval x = v) : YieldsIf P ops S op v a :=
  .inl ⟨hw, fun w _ => by
    unfold execOp
    simp [ho, hx]⟩
theorem wpAnyH_frame {md : Region.Mode} {Q : Exit → Act → World → Prop} {fuel : Nat} {listed : Array Bool} {a : Act} {w : World} (h : ∀ a', a' = a → wpAnyH P md ops Q S fuel listed a' w) : wpAnyH P md ops Q S fuel listed a w := h a rfl
theorem yieldsIf_fn {op : Oper} {a : Act} (hw : Region.wanted op (yielded ops a.tmps) = true) (fn : Fn) (xs ys : Array Operand) (ho : op.op = .makeFunc fn xs ys) (us vs : Array Value) (hx : xs.map a.eval = us) (hy : ys.map a.eval = vs)
    (hf : ∀ w, (Instr.makeFunc fn us vs).run P w = .ok (.func fn us vs) w) : YieldsIf P ops S op (.func fn us vs) a :=
  .inl ⟨hw, fun w _ => by
    unfold execOp
    simp only [ho, hx, hy, Sem.run_bind, hf, Result.andThen_ok]
    rfl⟩
theorem yieldsIf_fld {op : Oper} {a : Act} (hw : Region.wanted op (yielded ops a.tmps) = true) (T : TypeId) (x : Operand) (i : Nat) (ho : op.op = .fieldAddr T x i) (u v : Value) (hx : a.eval x = u) (hf : ∀ w, (Instr.fieldAt T u i).run P w = .ok v w) : YieldsIf P ops S op v a :=
  .inl ⟨hw, fun w _ => by
    unfold execOp
    simp only [ho, hx, Sem.run_bind, hf, Result.andThen_ok]
    rfl⟩
theorem yieldsIf_conv {op : Oper} {a : Act} (hw : Region.wanted op (yielded ops a.tmps) = true) (T T' : TypeId) (x : Operand) (ho : op.op = .convert T T' x) (u v : Value) (hx : a.eval x = u) (hf : ∀ w, (convert T T' u).run P w = .ok v w) : YieldsIf P ops S op v a :=
  .inl ⟨hw, fun w _ => by
    unfold execOp
    simp only [ho, hx, Sem.run_bind, hf, Result.andThen_ok]
    rfl⟩
theorem yieldsIf_load_blk {op : Oper} {a : Act} (hw : Region.wanted op (yielded ops a.tmps) = true) (T : TypeId) (x : Operand) (ho : op.op = .load T x) (g : Nat) (hx : a.eval x = .pointer (some ⟨g, 0, none⟩)) (T' : TypeId) (cs : List Value)
    (hS : ∀ w, S w → Blk w g T' cs) (n : Nat) (d : TypeDesc) (hu : P.underlying T = some d) (hd : (match d with | .struct _ | .array _ _ => true | _ => false) = true) (hi : (P.info? T).map (·.size) = some n) (hn : Hid (cs.length = n)) : YieldsIf P ops S op (.agg cs.toArray) a :=
  .inl ⟨hw, fun w hw' => by
    have hr := run_loadVar_row (P := P) w g T' T cs.toArray (0, 0) _ (hS w hw') hu hd (by rw [hi]; have := hn.out; simp [this])
    unfold execOp
    simp only [ho, hx, Instr.loadAt, Instr.sureAddr, Sem.run_bind, Sem.run_pure, Result.andThen_ok, hr]⟩
end

theorem conv_u16 (n : Int) (h0 : 0 ≤ n) (h1 : n ≤ 65535) (w : World) : (convert 22 28 (.int .u16 n)).run Tryd.prog w = .ok (.int .u64 n) w := by
  have e : IntKind.u64.wrap n = n := by rw [IntKind.wrap_u64]; omega
  go_simp
theorem conv_cmd (n : Int) (h0 : 0 ≤ n) (h1 : n ≤ 65535) (w : World) : (convert 23 28 (.int .u16 n)).run Tryd.prog w = .ok (.int .u64 n) w := by
  have e : IntKind.u64.wrap n = n := by rw [IntKind.wrap_u64]; omega
  go_simp
theorem conv_u32 (n : Int) (h0 : 0 ≤ n) (h1 : n ≤ 4294967295) (w : World) : (convert 27 28 (.int .u32 n)).run Tryd.prog w = .ok (.int .u64 n) w := by
  have e : IntKind.u64.wrap n = n := by rw [IntKind.wrap_u64]; omega
  go_simp
end
end Go.Proofs.YtepkamkgodbffaaDoor

/-
  Contracts of what the statements share (refectoryref00, refectoryref08): rows of numbers, of locks, of entries held against each other (words, Locks, Entries) and copied (CopyLocks); '==' of locks and of entries.
-/
namespace Go.Proofs.YtepkamkgodbffaaDoor
open Go.RowKit
set_option maxRecDepth 100000
set_option linter.unusedVariables false

theorem take_eq_stepA {α : Type} {xs ys : List α} {k : Nat} {x : α} (hx : xs[k]? = some x) (hy : ys[k]? = some x) (h : xs.take k = ys.take k) : xs.take (k + 1) = ys.take (k + 1) := by
  obtain ⟨h1, e1⟩ := List.getElem?_eq_some_iff.1 hx
  obtain ⟨h2, e2⟩ := List.getElem?_eq_some_iff.1 hy
  rw [List.take_succ_eq_append_getElem h1, List.take_succ_eq_append_getElem h2, h, e1, e2]
theorem ne_of_getA {α : Type} [DecidableEq α] {xs ys : List α} {k : Nat} {x y : α} (hx : xs[k]? = some x) (hy : ys[k]? = some y) (h : x ≠ y) : decide (xs = ys) = false := by
  rw [decide_eq_false_iff_not]
  rintro rfl
  rw [hx] at hy
  injection hy with hy
  exact h hy
theorem eq_of_takeA {α : Type} [DecidableEq α] {xs ys : List α} {n : Nat} (hx : xs.length = n) (hy : ys.length = n) (h : xs.take n = ys.take n) : decide (xs = ys) = true := by
  rw [decide_eq_true_iff]
  rwa [List.take_of_length_le (by omega), List.take_of_length_le (by omega)] at h

set_option maxHeartbeats 400000 in
theorem words16_any (w : World) (B B' : Nat) (A A' : Option Addr) (n c n' c' : Nat) (xs ys : List Int) (h : HoldsF (Value.int .u16) w B A n c xs) (h' : HoldsF (Value.int .u16) w B' A' n' c' ys) (hr : n ≤ 281474976710656) (hr' : n' ≤ 281474976710656) :
    Calls Tryd.prog 44 #[.slice A n c, .slice A' n' c'] w fun e w' => e = .returned (.bool (decide (xs = ys))) ∧ ∃ k, w.drewN k = w' := by
  have hl := h.len
  have hl' := h'.len
  have hf := h.fit
  have hf' := h'.fit
  by_cases hn : n = n'
  · subst hn
    have HL := Lib.hid hl
    have HL' := Lib.hid hl'
    clear hl hl'
    go_enter Tryd.func44, Tryd.ntmps44
    go_wp2
    go_loopw [5] (fun i wr => ∃ k : Nat, k ≤ n ∧ i = .int .i64 k ∧ Hid (xs.take k = ys.take k) ∧ ∃ j, wr = w.drewN j) (fun i _ => n - (intOf i).toNat)
    case atStart => exact ⟨0, Nat.zero_le _, rfl, by simp [Hid], 0, rfl⟩
    case round =>
      obtain ⟨k, hk, rfl, HT, j, rfl⟩ := hrel
      by_cases hlt : k < n
      · obtain ⟨b, off, rfl, hb, hc⟩ := h.cells (by omega)
        obtain ⟨b', off', rfl, hb', hc'⟩ := h'.cells (by omega)
        obtain ⟨x, hx⟩ : ∃ x, xs[k]? = some x := ⟨_, List.getElem?_eq_getElem (by have := HL.out; omega)⟩
        obtain ⟨y, hy⟩ : ∃ y, ys[k]? = some y := ⟨_, List.getElem?_eq_getElem (by have := HL'.out; omega)⟩
        have gc := hc k x hx
        have gc' := hc' k y hy
        clear hc hc'
        have HX := Lib.hid hx
        have HY := Lib.hid hy
        clear hx hy
        by_cases he : x = y
        · have hS : Hid (xs.take (k + 1) = ys.take (k + 1)) := take_eq_stepA HX.out (by rw [HY.out, he]) HT.out
          clear HX HY HT
          subst he
          have hb0 : (x != x) = false := by simp
          go_wp2
          go_quiet (fail)
          go_wp2
          go_roundw
          case rel => exact ⟨k + 1, by omega, by go_num, hS, _, rfl⟩
          case measure => simp [intOf]; omega
        · have hS := Lib.hid (ne_of_getA HX.out HY.out he)
          clear HX HY HT
          have hb0 : (x != y) = true := by simpa using he
          clear he
          go_wp2
          go_quiet (fail)
          go_wp2
          go_ret
          exact ⟨ret_bool hS.out.symm, _, (World.drewN_drewN ..).symm⟩
      · have hS := Lib.hid (eq_of_takeA (n := n) HL.out HL'.out (by have := HT.out; rwa [show k = n from by omega] at this))
        clear HT
        go_wp2
        go_ret
        exact ⟨ret_bool hS.out.symm, _, rfl⟩
  · have e1 : decide (xs = ys) = false := by
      rw [decide_eq_false_iff_not]
      rintro rfl
      omega
    have hne : ((n : Int) == (n' : Int)) = false := by simp; omega
    have hne' : ((n : Int) != (n' : Int)) = true := by simp; omega
    rw [e1]
    clear e1 hl hl'
    go_enter Tryd.func44, Tryd.ntmps44
    go_wp2
    go_ret
    exact ⟨rfl, 0, rfl⟩

section
variable {P : Program} {w : World} {d : Nat} {xs ys : Array Value} {r : List (Bool × TypeId × Nat)} {q : Bool}
theorem bytes_beq (a b : ByteArray) : (a.toList == b.toList) = decide (a = b) := by
  rw [Bool.eq_iff_iff, beq_iff_eq, decide_eq_true_iff, ByteArray.toList_eq, ByteArray.toList_eq]
  obtain ⟨⟨x⟩⟩ := a
  obtain ⟨⟨y⟩⟩ := b
  simp
theorem eqSpec_str (t : TypeId) (o : Nat) (x y : ByteArray) (ht : P.underlying t = some .string) (hx : xs[o]? = some (.string x)) (hy : ys[o]? = some (.string y)) (hr : (eqSpec (d + 1) xs ys r).run P w = .ok q w) :
    (eqSpec (d + 1) xs ys ((false, t, o) :: r)).run P w = .ok (decide (x = y) && q) w := by
  have p1 : (part t xs o).run P w = .ok (.string x) w := by simp [part, isAgg, run_underlying ht, hx]
  have p2 : (part t ys o).run P w = .ok (.string y) w := by simp [part, isAgg, run_underlying ht, hy]
  simp only [eqSpec, Bool.false_eq_true, if_false, Sem.run_bind, p1, p2, Result.andThen_ok, run_equalIn_string w d t _ _ ht, bytes_beq]
  by_cases h : x = y
  · subst h
    simpa using hr
  · simp [h]
end
theorem fields_lock : (Tryd.prog.fieldsOf 107).toList.map (fun f => (decide (f.name = "_"), f.type, f.offset)) = [(false, 3, 0), (false, 28, 1), (false, 28, 2), (false, 22, 3)] := by kernel_rfl
theorem run_equalIn_lock (a b : LockV) (w : World) : (Op.equalIn 10000 107 (.agg (lockCells a).toArray) (.agg (lockCells b).toArray)).run Tryd.prog w = .ok (decide (a = b)) w := by
  rw [show (10000 : Nat) = 9999 + 1 from rfl, run_equalIn_struct w 9999 107 _ _ Tryd.underlying107 (by kernel_rfl), eqFields_spec, fields_lock]
  have h := eqSpec_int (P := Tryd.prog) (w := w) (d := 9998) (xs := (lockCells a).toArray) (ys := (lockCells b).toArray) 3 .i64 0 a.op b.op Tryd.underlying3 rfl rfl
    (eqSpec_int 28 .u64 1 a.at_ b.at_ Tryd.underlying28 rfl rfl
    (eqSpec_int 28 .u64 2 a.n b.n Tryd.underlying28 rfl rfl
    (eqSpec_int (r := []) (q := true) 22 .u16 3 a.md b.md Tryd.underlying22 rfl rfl (by simp [eqSpec]))))
  refine h.trans ?_
  congr 1
  obtain ⟨a0, a1, a2, a3⟩ := a
  obtain ⟨b0, b1, b2, b3⟩ := b
  rw [Bool.eq_iff_iff]
  simp
theorem guard_lock : Tryd.prog.eqGuardType Tryd.prog.depth 107 = false := by kernel_rfl
theorem size_lock : (Tryd.prog.info? 107).map (·.size) = some 4 := by kernel_rfl

set_option maxRecDepth 100000 in
set_option maxHeartbeats 1000000 in
theorem Locks_any (w : World) (B B' : Nat) (A A' : Option Addr) (n c n' c' : Nat) (xs ys : List LockV) (h : HoldsS lockCells 4 w B A n c xs) (h' : HoldsS lockCells 4 w B' A' n' c' ys) (hr : n ≤ 281474976710656) (hr' : n' ≤ 281474976710656) :
    Calls Tryd.prog 45 #[.slice A n c, .slice A' n' c'] w fun e w' => e = .returned (.bool (decide (xs = ys))) ∧ ∃ k, w.drewN k = w' := by
  have hl := h.len
  have hl' := h'.len
  have hf := h.fit
  have hf' := h'.fit
  by_cases hn : n = n'
  · subst hn
    have HL := Lib.hid hl
    have HL' := Lib.hid hl'
    clear hl hl'
    go_enter Tryd.func45, Tryd.ntmps45
    go_wp2
    go_loopw [5] (fun i wr => ∃ k : Nat, k ≤ n ∧ i = .int .i64 k ∧ Hid (xs.take k = ys.take k) ∧ ∃ j, wr = w.drewN j) (fun i _ => n - (intOf i).toNat)
    case atStart => exact ⟨0, Nat.zero_le _, rfl, by simp [Hid], 0, rfl⟩
    case round =>
      obtain ⟨k, hk, rfl, HT, j, rfl⟩ := hrel
      by_cases hlt : k < n
      · obtain ⟨b, off, rfl, hb, hc⟩ := h.cells (by omega)
        obtain ⟨b', off', rfl, hb', hc'⟩ := h'.cells (by omega)
        obtain ⟨x, hx⟩ : ∃ x, xs[k]? = some x := ⟨_, List.getElem?_eq_getElem (by have := HL.out; omega)⟩
        obtain ⟨y, hy⟩ : ∃ y, ys[k]? = some y := ⟨_, List.getElem?_eq_getElem (by have := HL'.out; omega)⟩
        have rx := h.range rfl hlt hx
        have ry := h'.range rfl hlt hy
        clear hc hc'
        have HX := Lib.hid hx
        have HY := Lib.hid hy
        have q0 : ∀ w : World, (Op.equalIn 10000 107 (.agg (lockCells x).toArray) (.agg (lockCells y).toArray)).run Tryd.prog w = .ok (decide (x = y)) w := fun w => run_equalIn_lock x y w
        have qg := guard_lock
        obtain ⟨wj, hwj⟩ : ∃ wj, wj = w.drewN j := ⟨_, rfl⟩
        have Rx : Hid (wj.rangeAt b (off + k * 4) (lockCells x)) := by rw [hwj]; exact rx
        have Ry : Hid (wj.rangeAt b' (off' + k * 4) (lockCells y)) := by rw [hwj]; exact ry
        rw [← hwj]
        have HW := Lib.hid hwj
        have LX : Hid ((lockCells x).length = 4) := rfl
        have LY : Hid ((lockCells y).length = 4) := rfl
        obtain ⟨cx, hcx⟩ : ∃ cx, cx = lockCells x := ⟨_, rfl⟩
        obtain ⟨cy, hcy⟩ : ∃ cy, cy = lockCells y := ⟨_, rfl⟩
        rw [← hcx] at Rx LX q0
        rw [← hcy] at Ry LY q0
        obtain ⟨z, hz⟩ : ∃ z, z = decide (x = y) := ⟨_, rfl⟩
        rw [← hz] at q0
        have HZ := Lib.hid hz
        clear hx hy hwj rx ry hcx hcy hz
        go_upto_region 6 with fail
        refine wp_region_held (S := fun w' => World.rangeAt w' b (off + k * 4) cx ∧ World.rangeAt w' b' (off' + k * 4) cy) (by kernel_rfl) ?_
        change wpAnyH _ _ _ _ _ _ _ _ wj.drew
        have S0 : Hid (World.rangeAt wj.drew b (off + k * 4) cx ∧ World.rangeAt wj.drew b' (off' + k * 4) cy) := ⟨Rx.out, Ry.out⟩
        have b0 : Hid (Below w.heap.size w wj.drew) := by rw [HW.out]; exact drewed w (j + 1)
        refine wpAnyH_take (i := 0) (v := _) rfl (by kernel_rfl) (by kernel_rfl) (by kernel_rfl) (fun _ _ _ h => h) (yieldsIf_move (by kernel_rfl) (.tmp 0) rfl (.slice (some ⟨b, off, none⟩) n c) (by kernel_rfl)) S0.out ?_
        refine wpAnyH_take (i := 1) (v := _) rfl (by kernel_rfl) (by kernel_rfl) (by kernel_rfl) (fun _ _ _ h => h) (yieldsIf_move (by kernel_rfl) (.tmp 5) rfl (.int .i64 k) (by kernel_rfl)) S0.out ?_
        refine wpAnyH_take (i := 2) (v := .pointer (some ⟨b, off + k * 4, none⟩)) rfl (by kernel_rfl) (by kernel_rfl) (by kernel_rfl) (fun _ _ _ h => h) (.inl ⟨by kernel_rfl, fun w _ => by go_simp⟩) S0.out ?_
        refine wpAnyH_take (i := 3) (v := _) rfl (by kernel_rfl) (by kernel_rfl) (by kernel_rfl) (fun _ _ _ h => h) (yieldsIf_load_mid (by kernel_rfl) _ (.tmp 19) rfl b (off + k * 4) (by kernel_rfl) cx _ (fun _ h => h.1) Tryd.underlying107 rfl (by rw [size_lock, LX.out])) S0.out ?_
        refine wpAnyH_take (i := 4) (v := _) rfl (by kernel_rfl) (by kernel_rfl) (by kernel_rfl) (fun _ _ _ h => h) (yieldsIf_move (by kernel_rfl) (.tmp 1) rfl (.slice (some ⟨b', off', none⟩) n c') (by kernel_rfl)) S0.out ?_
        refine wpAnyH_take (i := 5) (v := _) rfl (by kernel_rfl) (by kernel_rfl) (by kernel_rfl) (fun _ _ _ h => h) (yieldsIf_move (by kernel_rfl) (.tmp 5) rfl (.int .i64 k) (by kernel_rfl)) S0.out ?_
        refine wpAnyH_take (i := 6) (v := .pointer (some ⟨b', off' + k * 4, none⟩)) rfl (by kernel_rfl) (by kernel_rfl) (by kernel_rfl) (fun _ _ _ h => h) (.inl ⟨by kernel_rfl, fun w _ => by go_simp⟩) S0.out ?_
        refine wpAnyH_take (i := 7) (v := _) rfl (by kernel_rfl) (by kernel_rfl) (by kernel_rfl) (fun _ _ _ h => h) (yieldsIf_load_mid (by kernel_rfl) _ (.tmp 23) rfl b' (off' + k * 4) (by kernel_rfl) cy _ (fun _ h => h.2) Tryd.underlying107 rfl (by rw [size_lock, LY.out])) S0.out ?_
        refine wpAnyH_one 8 _ (by kernel_rfl) rfl fun K hK => ?_
        go_simp
        refine hK _ _ S0.out ?_
        clear hK K
        refine wpAnyH_done (by kernel_rfl) ?_ _
        have HE : Hid (wj.drew = w.drewN (j + 1)) := by show _ = _; rw [HW.out]; exact World.drewN_drewN w j 1
        cases z
        · have hS := Lib.hid (ne_of_getA HX.out HY.out (by have := HZ.out; simpa using this.symm))
          go_wp2_with fail
          go_ret
          exact ⟨ret_bool hS.out.symm, _, HE.out.symm⟩
        · have hxy : x = y := by have := HZ.out; simpa using this.symm
          have hS : Hid (xs.take (k + 1) = ys.take (k + 1)) := take_eq_stepA HX.out (by rw [HY.out, hxy]) HT.out
          clear hxy
          go_wp2_with fail
          go_roundw
          case rel => exact ⟨k + 1, by omega, by go_num, hS, _, HE.out⟩
          case measure => simp [intOf]; omega
      · have hS := Lib.hid (eq_of_takeA (n := n) HL.out HL'.out (by have := HT.out; rwa [show k = n from by omega] at this))
        clear HT
        go_wp2
        go_ret
        exact ⟨ret_bool hS.out.symm, _, rfl⟩
  · have e1 : decide (xs = ys) = false := by
      rw [decide_eq_false_iff_not]
      rintro rfl
      omega
    have hne : ((n : Int) == (n' : Int)) = false := by simp; omega
    have hne' : ((n : Int) != (n' : Int)) = true := by simp; omega
    rw [e1]
    clear e1 hl hl'
    go_enter Tryd.func45, Tryd.ntmps45
    go_wp2
    go_ret
    exact ⟨rfl, 0, rfl⟩

theorem fields_stat : (Tryd.prog.fieldsOf 110).toList.map (fun f => (decide (f.name = "_"), f.type, f.offset)) = [(false, 42, 0), (false, 3, 1)] := by kernel_rfl
theorem fields_entry : (Tryd.prog.fieldsOf 112).toList.map (fun f => (decide (f.name = "_"), f.type, f.offset)) = [(false, 9, 0), (false, 110, 1)] := by kernel_rfl
theorem size_stat : (Tryd.prog.info? 110).map (·.size) = some 2 := by kernel_rfl
theorem run_equalIn_stat (a b c d : Int) (w : World) : (Op.equalIn 9999 110 (.agg #[.int .u8 a, .int .i64 b]) (.agg #[.int .u8 c, .int .i64 d])).run Tryd.prog w = .ok (decide (a = c ∧ b = d)) w := by
  rw [show (9999 : Nat) = 9998 + 1 from rfl, run_equalIn_struct w 9998 110 _ _ Tryd.underlying110 (by kernel_rfl), eqFields_spec, fields_stat]
  have h := eqSpec_int (P := Tryd.prog) (w := w) (d := 9997) (xs := #[.int .u8 a, .int .i64 b]) (ys := #[.int .u8 c, .int .i64 d]) 42 .u8 0 a c Tryd.underlying42 rfl rfl
    (eqSpec_int (r := []) (q := true) 3 .i64 1 b d Tryd.underlying3 rfl rfl (by simp [eqSpec]))
  refine h.trans ?_
  congr 1
  rw [Bool.eq_iff_iff]
  simp
theorem run_equalIn_entry (a b : EntryV) (w : World) : (Op.equalIn 10000 112 (.agg (entryCells a).toArray) (.agg (entryCells b).toArray)).run Tryd.prog w = .ok (decide (a = b)) w := by
  rw [show (10000 : Nat) = 9999 + 1 from rfl, run_equalIn_struct w 9999 112 _ _ Tryd.underlying112 (by kernel_rfl), eqFields_spec, fields_entry]
  have hs : (eqSpec 9999 (entryCells a).toArray (entryCells b).toArray [(false, 110, 1)]).run Tryd.prog w = .ok (decide (a.kind = b.kind ∧ a.size = b.size)) w := by
    obtain ⟨j, hj, hj1⟩ : ∃ j, Tryd.prog.info? 110 = some j ∧ j.size = 2 := by
      have h2 := size_stat
      cases hq : Tryd.prog.info? 110 with
      | none => rw [hq] at h2; cases h2
      | some j => exact ⟨j, rfl, by rw [hq] at h2; simpa using h2⟩
    have p1 : ∀ c : EntryV, (part 110 (entryCells c).toArray 1).run Tryd.prog w = .ok (.agg #[.int .u8 c.kind, .int .i64 c.size]) w := fun c => by
      simp [part, isAgg, run_underlying Tryd.underlying110, sizeOf, typeInfo, hj, hj1, entryCells]
    simp only [eqSpec, Bool.false_eq_true, if_false, Sem.run_bind, p1, Result.andThen_ok, run_equalIn_stat]
    by_cases h : a.kind = b.kind ∧ a.size = b.size
    · simp [h]
    · simp [h]
  have h := eqSpec_str (P := Tryd.prog) (w := w) (d := 9998) (xs := (entryCells a).toArray) (ys := (entryCells b).toArray) 9 0 a.name b.name Tryd.underlying9 rfl rfl hs
  refine h.trans ?_
  congr 1
  obtain ⟨a0, a1, a2⟩ := a
  obtain ⟨b0, b1, b2⟩ := b
  rw [Bool.eq_iff_iff]
  simp
theorem guard_entry : Tryd.prog.eqGuardType Tryd.prog.depth 112 = false := by kernel_rfl
theorem size_entry : (Tryd.prog.info? 112).map (·.size) = some 3 := by kernel_rfl

set_option maxRecDepth 100000 in
set_option maxHeartbeats 1000000 in
theorem Entries_any (w : World) (B B' : Nat) (A A' : Option Addr) (n c n' c' : Nat) (xs ys : List EntryV) (h : HoldsS entryCells 3 w B A n c xs) (h' : HoldsS entryCells 3 w B' A' n' c' ys) (hr : n ≤ 281474976710656) (hr' : n' ≤ 281474976710656) :
    Calls Tryd.prog 50 #[.slice A n c, .slice A' n' c'] w fun e w' => e = .returned (.bool (decide (xs = ys))) ∧ ∃ k, w.drewN k = w' := by
  have hl := h.len
  have hl' := h'.len
  have hf := h.fit
  have hf' := h'.fit
  by_cases hn : n = n'
  · subst hn
    have HL := Lib.hid hl
    have HL' := Lib.hid hl'
    clear hl hl'
    go_enter Tryd.func50, Tryd.ntmps50
    go_wp2
    go_loopw [5] (fun i wr => ∃ k : Nat, k ≤ n ∧ i = .int .i64 k ∧ Hid (xs.take k = ys.take k) ∧ ∃ j, wr = w.drewN j) (fun i _ => n - (intOf i).toNat)
    case atStart => exact ⟨0, Nat.zero_le _, rfl, by simp [Hid], 0, rfl⟩
    case round =>
      obtain ⟨k, hk, rfl, HT, j, rfl⟩ := hrel
      by_cases hlt : k < n
      · obtain ⟨b, off, rfl, hb, hc⟩ := h.cells (by omega)
        obtain ⟨b', off', rfl, hb', hc'⟩ := h'.cells (by omega)
        obtain ⟨x, hx⟩ : ∃ x, xs[k]? = some x := ⟨_, List.getElem?_eq_getElem (by have := HL.out; omega)⟩
        obtain ⟨y, hy⟩ : ∃ y, ys[k]? = some y := ⟨_, List.getElem?_eq_getElem (by have := HL'.out; omega)⟩
        have rx := h.range rfl hlt hx
        have ry := h'.range rfl hlt hy
        clear hc hc'
        have HX := Lib.hid hx
        have HY := Lib.hid hy
        have q0 : ∀ w : World, (Op.equalIn 10000 112 (.agg (entryCells x).toArray) (.agg (entryCells y).toArray)).run Tryd.prog w = .ok (decide (x = y)) w := fun w => run_equalIn_entry x y w
        have qg := guard_entry
        obtain ⟨wj, hwj⟩ : ∃ wj, wj = w.drewN j := ⟨_, rfl⟩
        have Rx : Hid (wj.rangeAt b (off + k * 3) (entryCells x)) := by rw [hwj]; exact rx
        have Ry : Hid (wj.rangeAt b' (off' + k * 3) (entryCells y)) := by rw [hwj]; exact ry
        rw [← hwj]
        have HW := Lib.hid hwj
        have LX : Hid ((entryCells x).length = 3) := rfl
        have LY : Hid ((entryCells y).length = 3) := rfl
        obtain ⟨cx, hcx⟩ : ∃ cx, cx = entryCells x := ⟨_, rfl⟩
        obtain ⟨cy, hcy⟩ : ∃ cy, cy = entryCells y := ⟨_, rfl⟩
        rw [← hcx] at Rx LX q0
        rw [← hcy] at Ry LY q0
        obtain ⟨z, hz⟩ : ∃ z, z = decide (x = y) := ⟨_, rfl⟩
        rw [← hz] at q0
        have HZ := Lib.hid hz
        clear hx hy hwj rx ry hcx hcy hz
        go_upto_region 6 with fail
        refine wp_region_held (S := fun w' => World.rangeAt w' b (off + k * 3) cx ∧ World.rangeAt w' b' (off' + k * 3) cy) (by kernel_rfl) ?_
        change wpAnyH _ _ _ _ _ _ _ _ wj.drew
        have S0 : Hid (World.rangeAt wj.drew b (off + k * 3) cx ∧ World.rangeAt wj.drew b' (off' + k * 3) cy) := ⟨Rx.out, Ry.out⟩
        have b0 : Hid (Below w.heap.size w wj.drew) := by rw [HW.out]; exact drewed w (j + 1)
        refine wpAnyH_take (i := 0) (v := _) rfl (by kernel_rfl) (by kernel_rfl) (by kernel_rfl) (fun _ _ _ h => h) (yieldsIf_move (by kernel_rfl) (.tmp 0) rfl (.slice (some ⟨b, off, none⟩) n c) (by kernel_rfl)) S0.out ?_
        refine wpAnyH_take (i := 1) (v := _) rfl (by kernel_rfl) (by kernel_rfl) (by kernel_rfl) (fun _ _ _ h => h) (yieldsIf_move (by kernel_rfl) (.tmp 5) rfl (.int .i64 k) (by kernel_rfl)) S0.out ?_
        refine wpAnyH_take (i := 2) (v := .pointer (some ⟨b, off + k * 3, none⟩)) rfl (by kernel_rfl) (by kernel_rfl) (by kernel_rfl) (fun _ _ _ h => h) (.inl ⟨by kernel_rfl, fun w _ => by go_simp⟩) S0.out ?_
        refine wpAnyH_take (i := 3) (v := _) rfl (by kernel_rfl) (by kernel_rfl) (by kernel_rfl) (fun _ _ _ h => h) (yieldsIf_load_mid (by kernel_rfl) _ (.tmp 19) rfl b (off + k * 3) (by kernel_rfl) cx _ (fun _ h => h.1) Tryd.underlying112 rfl (by rw [size_entry, LX.out])) S0.out ?_
        refine wpAnyH_take (i := 4) (v := _) rfl (by kernel_rfl) (by kernel_rfl) (by kernel_rfl) (fun _ _ _ h => h) (yieldsIf_move (by kernel_rfl) (.tmp 1) rfl (.slice (some ⟨b', off', none⟩) n c') (by kernel_rfl)) S0.out ?_
        refine wpAnyH_take (i := 5) (v := _) rfl (by kernel_rfl) (by kernel_rfl) (by kernel_rfl) (fun _ _ _ h => h) (yieldsIf_move (by kernel_rfl) (.tmp 5) rfl (.int .i64 k) (by kernel_rfl)) S0.out ?_
        refine wpAnyH_take (i := 6) (v := .pointer (some ⟨b', off' + k * 3, none⟩)) rfl (by kernel_rfl) (by kernel_rfl) (by kernel_rfl) (fun _ _ _ h => h) (.inl ⟨by kernel_rfl, fun w _ => by go_simp⟩) S0.out ?_
        refine wpAnyH_take (i := 7) (v := _) rfl (by kernel_rfl) (by kernel_rfl) (by kernel_rfl) (fun _ _ _ h => h) (yieldsIf_load_mid (by kernel_rfl) _ (.tmp 23) rfl b' (off' + k * 3) (by kernel_rfl) cy _ (fun _ h => h.2) Tryd.underlying112 rfl (by rw [size_entry, LY.out])) S0.out ?_
        refine wpAnyH_one 8 _ (by kernel_rfl) rfl fun K hK => ?_
        go_simp
        refine hK _ _ S0.out ?_
        clear hK K
        refine wpAnyH_done (by kernel_rfl) ?_ _
        have HE : Hid (wj.drew = w.drewN (j + 1)) := by show _ = _; rw [HW.out]; exact World.drewN_drewN w j 1
        cases z
        · have hS := Lib.hid (ne_of_getA HX.out HY.out (by have := HZ.out; simpa using this.symm))
          go_wp2_with fail
          go_ret
          exact ⟨ret_bool hS.out.symm, _, HE.out.symm⟩
        · have hxy : x = y := by have := HZ.out; simpa using this.symm
          have hS : Hid (xs.take (k + 1) = ys.take (k + 1)) := take_eq_stepA HX.out (by rw [HY.out, hxy]) HT.out
          clear hxy
          go_wp2_with fail
          go_roundw
          case rel => exact ⟨k + 1, by omega, by go_num, hS, _, HE.out⟩
          case measure => simp [intOf]; omega
      · have hS := Lib.hid (eq_of_takeA (n := n) HL.out HL'.out (by have := HT.out; rwa [show k = n from by omega] at this))
        clear HT
        go_wp2
        go_ret
        exact ⟨ret_bool hS.out.symm, _, rfl⟩
  · have e1 : decide (xs = ys) = false := by
      rw [decide_eq_false_iff_not]
      rintro rfl
      omega
    have hne : ((n : Int) == (n' : Int)) = false := by simp; omega
    have hne' : ((n : Int) != (n' : Int)) = true := by simp; omega
    rw [e1]
    clear e1 hl hl'
    go_enter Tryd.func50, Tryd.ntmps50
    go_wp2
    go_ret
    exact ⟨rfl, 0, rfl⟩

theorem info_lock : (Tryd.prog.info? 107).map (fun i => (i.zero, i.size, i.bytes)) = some (some (.agg (lockCells ⟨0, 0, 0, 0⟩).toArray), 4, 32) := by kernel_rfl
theorem info_entry : (Tryd.prog.info? 112).map (fun i => (i.zero, i.size, i.bytes)) = some (some (.agg (entryCells ⟨.empty, 0, 0⟩).toArray), 3, 32) := by kernel_rfl

set_option maxHeartbeats 400000 in
theorem CopyLocks_any (w : World) (A : Option Addr) (n c : Nat) (xs : List LockV) (h : HoldsS lockCells 4 w w.heap.size A n c xs) (hn : n ≤ 4398046511103) :
    Calls Tryd.prog 37 #[.slice A n c] w fun e w' => ∃ v, e = .returned v ∧ OwnS lockCells 4 107 w' w.heap.size v xs ∧ Below w.heap.size w w' := by
  have hxl : xs.length ≤ 4398046511103 := by have := h.len; omega
  go_enter Tryd.func37, Tryd.ntmps37
  go_wp2_with (at_builtin; refine wpList_append_holdS rfl (.tmp 4) (.tmp 5) lockCells 4 (by omega) lockCells_len lockCells_one _ rfl 30 107 32 Tryd.underlying30 info_lock rfl w.heap.size _ [] rfl (OwnS.nil _ _ _ _ _) w.heap.size A n c xs rfl h (by simp; omega) (by simp; omega) (Nat.le_refl _) ?_; intro v1 w1 ho1 hb1)
  have ho := ho1.out
  rw [List.nil_append] at ho
  go_ret
  exact ⟨_, rfl, ho, hb1.out⟩
end Go.Proofs.YtepkamkgodbffaaDoor

/-
  Contracts of refectoryref08's CopyAsk and CopySay: an Ask, a Say of its own memory.
-/
namespace Go.Proofs.YtepkamkgodbffaaDoor
open Go.RowKit
set_option linter.unusedVariables false

theorem info_u16w : (Tryd.prog.info? 22).map (fun i => (i.zero, i.size, i.bytes)) = some (some (.int .u16 0), 1, 2) := by kernel_rfl
section
variable {a : AskV} {s : SayV} {vd vx vl ve v : Value}
theorem acells_d : (acells vd vx vl a).set 0 v = acells v vx vl a := rfl
theorem acells_x (k : a.ok) : (acells vd vx vl a).set 61 v = acells vd v vl a := acells_set k 12 v
theorem acells_l (k : a.ok) : (acells vd vx vl a).set 62 v = acells vd vx v a := acells_set k 13 v
theorem scells_set (k : s.ok) (i : Nat) (u : Value) : (scells vx ve s).set (10 + i) u = .int .u16 s.dia :: .int .u64 s.siz :: (s.chal.map (Value.int .u8) ++ (stail vx ve s).set i u) := by
  unfold scells
  rw [show 10 + i = (8 + i) + 1 + 1 from by omega, List.set_cons_succ, List.set_cons_succ, List.set_append_right _ _ (by rw [List.length_map, k.clen]; omega), List.length_map, k.clen]
  congr 4
  omega
theorem scells_x (k : s.ok) : (scells vx ve s).set 15 v = scells v ve s := scells_set k 5 v
theorem scells_e (k : s.ok) : (scells vx ve s).set 17 v = scells vx v s := scells_set k 7 v
end

set_option maxRecDepth 100000 in
set_option maxHeartbeats 1000000 in
theorem CopyAsk_any (w : World) (cs : List Value) (a : AskV) (k : a.ok) (h : AskIs w w.heap.size cs a) (hb : a.dial.length ≤ 70368744177663 ∧ a.data.length ≤ 140737488355328 ∧ a.locks.length ≤ 4398046511103) :
    Calls Tryd.prog 11 #[.agg cs.toArray] w fun e w' => ∃ cs', e = .returned (.agg cs'.toArray) ∧ AskIs w' w'.heap.size cs' a ∧ Below w.heap.size w w' := by
  obtain ⟨hbd, hbx, hbl⟩ := hb
  have HL := Lib.hid (h.len k)
  have HO := Lib.hid h.one
  obtain ⟨Ad, nd, cd, Ax, nx, cx, Al, nl, cl, rfl, hd, hx, hl⟩ := h
  have HD := Lib.hid hd
  have HX := Lib.hid hx
  have HLK := Lib.hid hl
  have hnx : nx ≤ 140737488355328 := by have := hx.len; omega
  have hnl : nl ≤ 4398046511103 := by have := hl.len; omega
  have E0 : Hid ((acells (.slice Ad nd cd) (.slice Ax nx cx) (.slice Al nl cl) a)[0]? = some (.slice Ad nd cd)) := rfl
  have E1 : Hid (∀ v, (acells v (.slice Ax nx cx) (.slice Al nl cl) a)[61]? = some (.slice Ax nx cx)) := fun v => acells_get k 12
  have E2 : Hid (∀ v u, (acells v u (.slice Al nl cl) a)[62]? = some (.slice Al nl cl)) := fun v u => acells_get k 13
  have S0 : Hid (∀ v, (acells (.slice Ad nd cd) (.slice Ax nx cx) (.slice Al nl cl) a).set 0 v = acells v (.slice Ax nx cx) (.slice Al nl cl) a) := fun v => acells_d
  have S1 : Hid (∀ v u, (acells v (.slice Ax nx cx) (.slice Al nl cl) a).set 61 u = acells v u (.slice Al nl cl) a) := fun v u => acells_x k
  have S2 : Hid (∀ v u t, (acells v u (.slice Al nl cl) a).set 62 t = acells v u t a) := fun v u t => acells_l k
  have LN : Hid (∀ v u t, (acells v u t a).length = 69) := fun v u t => acells_len k
  have ON : Hid (∀ v u t, v.oneCell' = true → u.oneCell' = true → t.oneCell' = true → ∀ x ∈ acells v u t a, x.oneCell' = true) := fun v u t h1 h2 h3 => acells_one h1 h2 h3
  have ZH := Lib.hid zero_ask
  have HZ : Hid ((acells (.slice none 0 0) (.slice none 0 0) (.slice none 0 0) zeroAsk).length = 69) := acells_len zeroAsk_ok
  obtain ⟨zs, hzs⟩ : ∃ zs, zs = acells (.slice none 0 0) (.slice none 0 0) (.slice none 0 0) zeroAsk := ⟨_, rfl⟩
  rw [← hzs] at ZH HZ
  obtain ⟨cs, hcs⟩ : ∃ cs, cs = acells (.slice Ad nd cd) (.slice Ax nx cx) (.slice Al nl cl) a := ⟨_, rfl⟩
  obtain ⟨c1, hc1⟩ : ∃ c1 : Value → List Value, c1 = fun v => acells v (.slice Ax nx cx) (.slice Al nl cl) a := ⟨_, rfl⟩
  obtain ⟨c2, hc2⟩ : ∃ c2 : Value → Value → List Value, c2 = fun v u => acells v u (.slice Al nl cl) a := ⟨_, rfl⟩
  have T0 : Hid (∀ v, cs.set 0 v = c1 v) := by intro v; rw [hcs, hc1]; exact S0.out v
  have T1 : Hid (∀ v u, (c1 v).set 61 u = c2 v u) := by intro v u; rw [hc1, hc2]; exact S1.out v u
  have T2 : Hid (∀ v u t, (c2 v u).set 62 t = acells v u t a) := by intro v u t; rw [hc2]; exact S2.out v u t
  have F1 : Hid (∀ v, (c1 v)[61]? = some (.slice Ax nx cx)) := by intro v; rw [hc1]; exact E1.out v
  have F2 : Hid (∀ v u, (c2 v u)[62]? = some (.slice Al nl cl)) := by intro v u; rw [hc2]; exact E2.out v u
  have N1 : Hid (∀ v, (c1 v).length = 69) := by intro v; rw [hc1]; exact LN.out _ _ _
  have N2 : Hid (∀ v u, (c2 v u).length = 69) := by intro v u; rw [hc2]; exact LN.out _ _ _
  rw [← hcs] at E0 HL HO ⊢
  have hdl := hd.len
  clear hd hx hl k hzs hcs hc1 hc2 E1 E2 S0 S1 S2
  go_enter Tryd.func11, Tryd.ntmps11
  go_wp2_with (first
    | ((with_reducible show wpList _ _ _ (⟨some 1, _, _, _, _, _⟩ :: _) _ _); refine wpList_box_blk rfl _ (.tmp 0) rfl cs rfl ?_; intro g w1 hg1 hg2 B1 L1)
    | ((with_reducible show wpList _ _ _ (⟨some 2, _, _, _, _, _⟩ :: _) _ _); refine wpList_alloc_blk rfl _ rfl zs _ ZH ?_; intro g2 w2 hg3 hg4 Z2 L2; have B2 := Lib.hid (B1.out.over L2.out); have L12 := Lib.hid (step L1.out L2.out); have g0 := B2.out.at E0.out)
    | (at_builtin; refine wpList_append_holdF rfl (.tmp 4) (.tmp 6) (Value.int .u16) (fun _ => rfl) (.int .u16 0) rfl 24 22 2 Tryd.underlying24 info_u16w rfl w2.heap.size _ [] rfl (OwnF.nil _ _ _ _) w.heap.size Ad nd cd a.dial rfl (HD.out.below L12.out) (by simp; omega) (by simp; omega) (Nat.le_refl _) ?_; intro v3 w3 O3 L3; have B3 := Lib.hid (B2.out.over L3.out); have hv3 := O3.out.oneCell)
    | ((with_reducible show wpList _ _ _ (⟨none, .store _ (.tmp 8) _, _, _, _, _⟩ :: _) _ _); refine wpList_store_fld rfl _ (.tmp 8) (.tmp 7) rfl g 0 rfl _ cs v3 rfl B3 (by have := HL.out; show 0 < _; omega) (by kernel_rfl) hv3 ?_; intro w4 B4 P4 hg5; rw [T0.out] at B4; have g61 := B4.out.at (F1.out v3))
    | fail)
  have hgw2 := B2.out.lt
  have L14 : Hid (Below w.heap.size w w4) := below_only (L12.out.trans (L3.out.mono (by have := L12.out.size; omega))) P4.out hg1
  have hzg : g2 ≠ g := by have := B1.out.lt; omega
  have Z4 : Hid (Blk w4 g2 32 zs) := (Z2.out.over L3.out).only P4.out hzg
  have O4 : Hid (OwnF (Value.int .u16) 22 w4 w2.heap.size v3 a.dial) := by
    have := O3.out
    rw [List.nil_append] at this
    exact this.keep fun i _ hi _ => P4.out.rest i (by have := (this.block hi).1; omega)
  clear O3 B3 P4 Z2 B1 B2 L1 L2 L3 L12 g0
  refine (Copy_any w4 Ax nx cx a.data (HX.out.over L14.out) hnx).mono ?_
  rintro e w5 ⟨v5, rfl, O5, L5⟩
  have B5 := Lib.hid (B4.out.over L5)
  have Z5 := Lib.hid (Z4.out.over L5)
  have O45 := Lib.hid (O4.out.below L5)
  have L15 := Lib.hid (step L14.out L5)
  have O5' := Lib.hid O5
  have hv5 : v5.oneCell' = true := by obtain ⟨A1, c1, rfl⟩ := O5.len; rfl
  have hgw4 := B4.out.lt
  have hzw4 := Z4.out.lt
  have hs45 := L14.out.size
  clear B4 Z4 O4 L14 O5 g61
  go_wp2_with (first
    | ((with_reducible show wpList _ _ _ (⟨none, .store _ (.tmp 12) _, _, _, _, _⟩ :: _) _ _); refine wpList_store_fld rfl _ (.tmp 12) (.tmp 11) rfl g 61 rfl _ (c1 v3) v5 rfl B5 (by have := N1.out v3; show 61 < _; omega) (by kernel_rfl) hv5 ?_; intro w6 B6 P6 hg6; rw [T1.out] at B6; have g62 := B6.out.at (F2.out v3 v5))
    | fail)
  have L16 : Hid (Below w.heap.size w w6) := below_only L15.out P6.out hg1
  have Z6 : Hid (Blk w6 g2 32 zs) := Z5.out.only P6.out hzg
  have O46 : Hid (OwnF (Value.int .u16) 22 w6 w2.heap.size v3 a.dial) := O45.out.keep fun i _ hi _ => P6.out.rest i (by have := (O45.out.block hi).1; omega)
  have O56 : Hid (Own w6 w4.heap.size v5 a.data) := by
    refine ⟨O5'.out.1, ?_⟩
    rcases O5'.out.2 with h0 | ⟨q, cap, cur, rfl, h1, hq, rest⟩
    · exact .inl h0
    · exact .inr ⟨q, cap, cur, rfl, h1, (P6.out.rest q (by omega)).trans hq, rest⟩
  clear B5 Z5 O45 L15 O5' P6
  refine (CopyLocks_any w6 Al nl cl a.locks (HLK.out.over L16.out) hnl).mono ?_
  rintro e w7 ⟨v7, rfl, O7, L7⟩
  have B7 := Lib.hid (B6.out.over L7)
  have Z7 := Lib.hid (Z6.out.over L7)
  have O47 := Lib.hid (O46.out.below L7)
  have O57 := Lib.hid (O56.out.below L7)
  have L17 := Lib.hid (step L16.out L7)
  have O7' := Lib.hid O7
  have hv7 : v7.oneCell' = true := by obtain ⟨A1, n1, c1, rfl, _⟩ := O7.holds (by omega) lockCells_len; rfl
  have hgw6 := B6.out.lt
  have hzw6 := Z6.out.lt
  clear B6 Z6 O46 O56 L16 O7 g62
  have HN3 : Hid ((acells v3 v5 v7 a).length = 69) := LN.out _ _ _
  have HO3 : Hid (∀ x ∈ acells v3 v5 v7 a, x.oneCell' = true) := ON.out _ _ _ hv3 hv5 hv7
  obtain ⟨c3, hc3⟩ : ∃ c3, c3 = acells v3 v5 v7 a := ⟨_, rfl⟩
  have T3 : Hid ((c2 v3 v5).set 62 v7 = c3) := by show _ = _; rw [hc3]; exact T2.out _ _ _
  rw [← hc3] at HN3 HO3
  have HC3 := Lib.hid hc3
  clear hc3
  go_wp2_with (first
    | ((with_reducible show wpList _ _ _ (⟨none, .store _ (.tmp 16) _, _, _, _, _⟩ :: _) _ _); refine wpList_store_fld rfl _ (.tmp 16) (.tmp 15) rfl g 62 rfl _ (c2 v3 v5) v7 rfl B7 (by have := N2.out v3 v5; show 62 < _; omega) (by kernel_rfl) hv7 ?_; intro w8 B8 P8 hg8; rw [T3.out] at B8; have Z8 : Hid (Blk w8 g2 32 zs) := Z7.out.only P8.out hzg)
    | ((with_reducible show wpList _ _ _ (⟨some 17, _, _, _, _, _⟩ :: _) _ _); refine wpList_load_blk rfl _ (.tmp 1) rfl g rfl _ c3 B8 69 _ Tryd.underlying32 rfl size_ask HN3 ?_)
    | ((with_reducible show wpList _ _ _ (⟨none, .store _ (.tmp 2) _, _, _, _, _⟩ :: _) _ _); refine wpList_store_blk rfl _ (.tmp 2) (.tmp 17) rfl g2 rfl _ zs c3 rfl Z8 69 size_ask HZ HN3 HO3 ?_; intro w9 Z9 P9 hg9)
    | fail)
  have hg2w : w.heap.size ≤ g2 := by have := L17.out.size; omega
  have L19 : Below w.heap.size w w9 := below_only (below_only L17.out P8.out hg1) P9.out hg2w
  refine bodyPost_ret (v := .agg c3.toArray) ?_ rfl ⟨c3, rfl, ?_, L19⟩
  · exact results_cell_row rfl _ _ g2 _ _ (0, 0) _ rfl Z9.out Tryd.underlying32 rfl (by rw [size_ask]; have := HN3.out; simp [this])
  · have keep : ∀ i, i ≠ g → i ≠ g2 → w9.heap[i]? = w7.heap[i]? := fun i h1 h2 => (P9.out.rest i h2).trans (P8.out.rest i h1)
    have hs9 : w9.heap.size = w7.heap.size := by rw [P9.out.size, P8.out.size]
    have D9 : OwnF (Value.int .u16) 22 w9 w2.heap.size v3 a.dial := O47.out.keep fun i _ hi _ => keep i (by have := (O47.out.block hi).1; omega) (by have := (O47.out.block hi).1; omega)
    have X9 : Own w9 w4.heap.size v5 a.data := by
      refine ⟨O57.out.1, ?_⟩
      rcases O57.out.2 with h0 | ⟨q, cap, cur, rfl, h1, hq, rest⟩
      · exact .inl h0
      · exact .inr ⟨q, cap, cur, rfl, h1, (keep q (by omega) (by omega)).trans hq, rest⟩
    have K9 : OwnS lockCells 4 107 w9 w6.heap.size v7 a.locks := O7'.out.keep fun i cs hi hcs => keep i (by
      rcases O7'.out.2 with ⟨h0, _⟩ | ⟨q, cap, cur, h0, h1, _⟩
      · rw [h0] at hi; cases hi
      · rw [h0] at hi; simp only [Value.ownBlock, Option.some.injEq] at hi; omega) (by
      rcases O7'.out.2 with ⟨h0, _⟩ | ⟨q, cap, cur, h0, h1, _⟩
      · rw [h0] at hi; cases hi
      · rw [h0] at hi; simp only [Value.ownBlock, Option.some.injEq] at hi; omega)
    obtain ⟨A3, n3, k3, rfl, H3⟩ := D9.holds
    obtain ⟨A5, k5, rfl, H5⟩ := X9.holds HX.out.byte (by omega)
    obtain ⟨A7, n7, k7, rfl, H7⟩ := K9.holds (by omega) lockCells_len
    exact ⟨A3, n3, k3, A5, _, k5, A7, n7, k7, HC3.out, H3, H5, H7⟩
end Go.Proofs.YtepkamkgodbffaaDoor

/-
  Laws for two Asks, two Says that are held against each other, field by field.
-/
namespace Go.Proofs.YtepkamkgodbffaaDoor
open Go.RowKit
set_option linter.unusedVariables false

/-- an array out of the midst of a block, where the operation's guard is met -/
theorem wpList_load_midw {P : Program} {ops : Array Oper} {rest : List Oper} {o : Oper} {a : Act} {w : World} {Q : Exit → Act → World → Prop} (hw : Region.wanted o (yielded ops a.tmps) = true) (ty : TypeId) (x : Operand) (ho : o.op = .load ty x)
    (b i : Nat) (hx : a.eval x = .pointer (some ⟨b, i, none⟩)) (cs : List Value) (d : TypeDesc) (hc : Hid (w.rangeAt b i cs)) (hu : P.underlying ty = some d) (hd : d.isRow = true) (n : Nat) (hi : (P.info? ty).map (·.size) = some n) (hn : Hid (cs.length = n))
    (h : wpList P ops Q rest (a.put o.dst (.agg cs.toArray)) w) : wpList P ops Q (o :: rest) a w :=
  wpList_step fun K hK => by
    rw [if_pos hw]
    exact wp_load_mid ty x ho b i hx cs d hc.out hu hd (by rw [hi, hn.out]) (hK _ _ h)
theorem wpList_load_midu {P : Program} {ops : Array Oper} {rest : List Oper} {o : Oper} {a : Act} {w : World} {Q : Exit → Act → World → Prop} (hg : o.guard = none) (ty : TypeId) (x : Operand) (ho : o.op = .load ty x)
    (b i : Nat) (hx : a.eval x = .pointer (some ⟨b, i, none⟩)) (cs : List Value) (d : TypeDesc) (hc : Hid (w.rangeAt b i cs)) (hu : P.underlying ty = some d) (hd : d.isRow = true) (n : Nat) (hi : (P.info? ty).map (·.size) = some n) (hn : Hid (cs.length = n))
    (h : wpList P ops Q rest (a.put o.dst (.agg cs.toArray)) w) : wpList P ops Q (o :: rest) a w :=
  wpList_load_mid hg ty x ho b i hx cs d hc.out hu hd (by rw [hi, hn.out]) h
/-- a field's address, where the operation's guard is met -/
theorem wpList_fld_w {P : Program} {ops : Array Oper} {rest : List Oper} {o : Oper} {a : Act} {w : World} {Q : Exit → Act → World → Prop} (hw : Region.wanted o (yielded ops a.tmps) = true) (T : TypeId) (x : Operand) (i : Nat) (ho : o.op = .fieldAddr T x i) (u v : Value)
    (hx : a.eval x = u) (hf : ∀ w, (Instr.fieldAt T u i).run P w = .ok v w) (h : wpList P ops Q rest (a.put o.dst v) w) : wpList P ops Q (o :: rest) a w :=
  wpList_step fun K hK => by
    rw [if_pos hw]
    unfold Oper.wp execOp
    simp only [ho, hx, Sem.run_bind, hf, Result.andThen_ok]
    exact hK _ _ h
theorem fld_ask1 (g : Nat) (w : World) : (Instr.fieldAt 32 (.pointer (some ⟨g, 0, none⟩)) 1).run Tryd.prog w = .ok (.pointer (some ⟨g, 1, none⟩)) w := by go_simp
theorem fld_ask2 (g : Nat) (w : World) : (Instr.fieldAt 32 (.pointer (some ⟨g, 0, none⟩)) 2).run Tryd.prog w = .ok (.pointer (some ⟨g, 17, none⟩)) w := by go_simp
theorem fld_say2 (g : Nat) (w : World) : (Instr.fieldAt 45 (.pointer (some ⟨g, 0, none⟩)) 2).run Tryd.prog w = .ok (.pointer (some ⟨g, 2, none⟩)) w := by go_simp
theorem size_guid : (Tryd.prog.info? 25).map (·.size) = some 16 := by kernel_rfl
theorem size_proof : (Tryd.prog.info? 26).map (·.size) = some 32 := by kernel_rfl
theorem size_chal : (Tryd.prog.info? 41).map (·.size) = some 8 := by kernel_rfl
theorem guard_guid : Tryd.prog.eqGuardType Tryd.prog.depth 25 = false := by kernel_rfl
theorem guard_proof : Tryd.prog.eqGuardType Tryd.prog.depth 26 = false := by kernel_rfl
theorem guard_chal : Tryd.prog.eqGuardType Tryd.prog.depth 41 = false := by kernel_rfl
theorem size_u8e : (Tryd.prog.info? 5).map (·.size) = some 1 := by kernel_rfl
theorem rangeAt_drewN {w : World} {b o : Nat} {cs : List Value} (h : w.rangeAt b o cs) (k : Nat) : (w.drewN k).rangeAt b o cs := h
theorem acells_guid {vd vx vl : Value} {a : AskV} {w : World} {g : Nat} {T : TypeId} (h : Blk w g T (acells vd vx vl a)) (k : a.ok) : w.rangeAt g 1 (a.guid.map (Value.int .u8)) := fun j v hj => by
  rw [h.cell, show 1 + j = j + 1 from by omega]
  show (a.guid.map (Value.int .u8) ++ (a.proof.map (Value.int .u8) ++ atail vx vl a))[j]? = some v
  rw [List.getElem?_append_left (List.getElem?_eq_some_iff.1 hj).1, hj]
theorem acells_proof {vd vx vl : Value} {a : AskV} {w : World} {g : Nat} {T : TypeId} (h : Blk w g T (acells vd vx vl a)) (k : a.ok) : w.rangeAt g 17 (a.proof.map (Value.int .u8)) := fun j v hj => by
  rw [h.cell, show 17 + j = (16 + j) + 1 from by omega]
  show (a.guid.map (Value.int .u8) ++ (a.proof.map (Value.int .u8) ++ atail vx vl a))[16 + j]? = some v
  rw [List.getElem?_append_right (by rw [List.length_map, k.glen]; omega), List.length_map, k.glen, show 16 + j - 16 = j from by omega, List.getElem?_append_left (List.getElem?_eq_some_iff.1 hj).1, hj]
theorem scells_chal {vx ve : Value} {a : SayV} {w : World} {g : Nat} {T : TypeId} (h : Blk w g T (scells vx ve a)) (k : a.ok) : w.rangeAt g 2 (a.chal.map (Value.int .u8)) := fun j v hj => by
  rw [h.cell, show 2 + j = j + 1 + 1 from by omega]
  show (a.chal.map (Value.int .u8) ++ stail vx ve a)[j]? = some v
  rw [List.getElem?_append_left (List.getElem?_eq_some_iff.1 hj).1, hj]

end Go.Proofs.YtepkamkgodbffaaDoor

/-
  A long '&&' over the fields of a struct in one block, each test guarded by the ones ahead of it: walked test by test with truth values that stay letters ('chain_num', 'chain_len', 'chain_arr', 'chain_not'). No function of the program is named here.
-/
namespace Go.Proofs.YtepkamkgodbffaaDoor
open Go.RowKit
set_option linter.unusedVariables false
set_option maxRecDepth 100000

/-- what is told of a frame: how many slots it has, no defer, the pointer in slot x0 -/
structure Fr (N x0 : Nat) (pv : Value) (a : Act) : Prop where
  size : a.tmps.size = N
  df : a.defers = []
  ptr : a.eval (.tmp x0) = pv

section
variable {P : Program} {ops : Array Oper} {rest : List Oper} {o : Oper} {a : Act} {w : World} {Q : Exit → Act → World → Prop} {N x0 : Nat} {pv v : Value}

theorem put_self {d : Nat} (h : d < a.tmps.size) : (a.put (some d) v).eval (.tmp d) = v := by
  simp [Act.put, Act.eval, h]
theorem put_other {d t : Nat} (h : d ≠ t) : (a.put (some d) v).eval (.tmp t) = a.eval (.tmp t) := by
  simp [Act.put, Act.eval, Array.getElem?_setIfInBounds_ne h]
theorem Fr.put {d : Nat} (h : Fr N x0 pv a) (hd : d ≠ x0) : Fr N x0 pv (a.put (some d) v) :=
  ⟨by simp [Act.put, h.size], by simp [Act.put, h.df], by rw [put_other hd]; exact h.ptr⟩
theorem at_self {d : Nat} (h : d < a.tmps.size) : (a.put (some d) v).tmps[d]? = some v := by
  simp [Act.put, h]
theorem at_other {d t : Nat} (h : d ≠ t) : (a.put (some d) v).tmps[t]? = a.tmps[t]? := by
  simp [Act.put, Array.getElem?_setIfInBounds_ne h]
theorem eval_at {t : Nat} {u : Value} (h : a.tmps[t]? = some u) : a.eval (.tmp t) = u := by
  simp [Act.eval, h]
theorem wanted_at {gi m : Nat} {b : Bool} (hgd : o.guard = some (gi, true)) (hgi : (ops[gi]?.bind fun x => x.dst) = some m) (h : a.tmps[m]? = some (.bool b)) : Region.wanted o (yielded ops a.tmps) = b := by
  unfold Region.wanted yielded
  rw [hgd]
  simp only [hgi, Option.bind_some, h]
  cases b <;> rfl
theorem wpList_yields (hy : YieldsIf P ops (fun w' => w' = w) o v a) (h : wpList P ops Q rest (a.put o.dst v) w) : wpList P ops Q (o :: rest) a w :=
  wpList_step fun K hK => by
    rcases hy with ⟨hw, hv⟩ | ⟨hw, rfl⟩
    · rw [if_pos hw]
      unfold Oper.wp
      rw [hv w rfl]
      exact hK _ _ h
    · rw [if_neg (by rw [hw]; decide)]
      exact hK _ _ h

/-- operations that are not wanted -/
theorem skips {gi m : Nat} (hgi : (ops[gi]?.bind fun x => x.dst) = some m) : ∀ (mids : List Oper) (a : Act), (∀ o ∈ mids, o.guard = some (gi, true) ∧ ∃ d, o.dst = some d ∧ d ≠ x0 ∧ d ≠ m) → Fr N x0 pv a → a.tmps[m]? = some (.bool false) →
    (∀ a', Fr N x0 pv a' → a'.tmps[m]? = some (.bool false) → wpList P ops Q rest a' w) → wpList P ops Q (mids ++ rest) a w
  | [], a, _, hF, hm, h => h a hF hm
  | o :: mids, a, hs, hF, hm, h => by
    obtain ⟨hg, d, hd, h1, h2⟩ := hs o List.mem_cons_self
    refine wpList_yields (.inr ⟨wanted_at hg hgi hm, rfl⟩) ?_
    rw [hd]
    exact skips hgi mids _ (fun o ho => hs o (List.mem_cons_of_mem _ ho)) (hF.put h1) (by rw [at_other h2]; exact hm) h

/-- one test of the chain -/
theorem chain {gi p m e q : Nat} {b t : Bool} {mids : List Oper} {o1 o5 : Oper} (hgi : (ops[gi]?.bind fun x => x.dst) = some m)
    (q1 : o1.op = .move (.tmp p) ∧ o1.dst = some m ∧ o1.guard = none) (q5 : o5.op = .pick (.tmp m) (.tmp e) (.const (.bool false)) ∧ o5.dst = some q ∧ o5.guard = none)
    (hn : m ≠ x0 ∧ q ≠ x0 ∧ m < N ∧ q < N) (hF : Fr N x0 pv a) (hp : a.eval (.tmp p) = .bool b)
    (hs : ∀ o ∈ mids, o.guard = some (gi, true) ∧ ∃ d, o.dst = some d ∧ d ≠ x0 ∧ d ≠ m)
    (hmid : ∀ a1, Fr N x0 pv a1 → a1.tmps[m]? = some (.bool true) → (∀ a2, Fr N x0 pv a2 → a2.tmps[m]? = some (.bool true) → a2.eval (.tmp e) = .bool t → wpList P ops Q (o5 :: rest) a2 w) → wpList P ops Q (mids ++ (o5 :: rest)) a1 w)
    (h : ∀ a', Fr N x0 pv a' → a'.eval (.tmp q) = .bool (b && t) → wpList P ops Q rest a' w) : wpList P ops Q (o1 :: (mids ++ (o5 :: rest))) a w := by
  obtain ⟨n1, n2, n3, n4⟩ := hn
  refine wpList_yields (yieldsIf_move (by simp [Region.wanted, q1.2.2]) (.tmp p) q1.1 (.bool b) hp) ?_
  rw [q1.2.1]
  have hF1 : Fr N x0 pv (a.put (some m) (.bool b)) := hF.put n1
  have hm1 : (a.put (some m) (.bool b)).tmps[m]? = some (.bool b) := at_self (by rw [hF.size]; exact n3)
  cases b
  · refine skips hgi mids _ hs hF1 hm1 fun a' hF' hm' => ?_
    refine wpList_yields (v := .bool false) (.inl ⟨by simp [Region.wanted, q5.2.2], fun w _ => by have hc : a'.eval (.const (.bool false)) = .bool false := rfl; unfold execOp; simp [q5.1, eval_at hm', hc, asBool]⟩) ?_
    rw [q5.2.1]
    exact h _ (hF'.put n2) (put_self (by rw [hF'.size]; exact n4))
  · refine hmid _ hF1 hm1 fun a' hF' hm' he => ?_
    refine wpList_yields (v := .bool t) (.inl ⟨by simp [Region.wanted, q5.2.2], fun w _ => by unfold execOp; simp [q5.1, eval_at hm', asBool, he]⟩) ?_
    rw [q5.2.1]
    exact h _ (hF'.put n2) (put_self (by rw [hF'.size]; exact n4))

/-- a field's load, and what is done with it -/
theorem mids_load {gi m f l i off g : Nat} {T ty : TypeId} {o2 o3 : Oper} {tail : List Oper} (hgi : (ops[gi]?.bind fun x => x.dst) = some m)
    (q2 : o2.op = .fieldAddr T (.tmp x0) i ∧ o2.dst = some f ∧ o2.guard = some (gi, true)) (q3 : o3.op = .load ty (.tmp f) ∧ o3.dst = some l ∧ o3.guard = some (gi, true))
    (hn : f ≠ x0 ∧ l ≠ x0 ∧ f ≠ m ∧ l ≠ m ∧ f < N ∧ l < N)
    (hf : ∀ w, (Instr.fieldAt T pv i).run P w = .ok (.pointer (some ⟨g, off, none⟩)) w)
    (hl : (Instr.loadAt ty (.pointer (some ⟨g, off, none⟩))).run P w = .ok v w)
    (a1 : Act) (hF : Fr N x0 pv a1) (hm : a1.tmps[m]? = some (.bool true))
    (h : ∀ a2, Fr N x0 pv a2 → a2.tmps[m]? = some (.bool true) → a2.eval (.tmp l) = v → wpList P ops Q tail a2 w) : wpList P ops Q (o2 :: o3 :: tail) a1 w := by
  obtain ⟨n1, n2, n3, n4, n5, n6⟩ := hn
  refine wpList_yields (yieldsIf_fld (wanted_at q2.2.2 hgi hm) T (.tmp x0) i q2.1 pv _ hF.ptr hf) ?_
  rw [q2.2.1]
  have hF2 : Fr N x0 pv (a1.put (some f) (.pointer (some ⟨g, off, none⟩))) := hF.put n1
  have hm2 : (a1.put (some f) (.pointer (some ⟨g, off, none⟩))).tmps[m]? = some (.bool true) := by rw [at_other n3]; exact hm
  refine wpList_yields (v := v) (.inl ⟨wanted_at q3.2.2 hgi hm2, fun w' hw' => by
    subst hw'
    unfold execOp
    simp only [q3.1, put_self (show f < a1.tmps.size by rw [hF.size]; exact n5), Sem.run_bind, hl, Result.andThen_ok, Sem.run_pure]⟩) ?_
  rw [q3.2.1]
  exact h _ (hF2.put n2) (by rw [at_other n4]; exact hm2) (put_self (by rw [hF2.size]; exact n6))
/-- an operation on what has been loaded -/
theorem mids_next {gi m l e : Nat} {u : Value} {o4 : Oper} {tail : List Oper} (hgi : (ops[gi]?.bind fun x => x.dst) = some m)
    (q4 : o4.dst = some e ∧ o4.guard = some (gi, true)) (hn : e ≠ x0 ∧ e ≠ m ∧ e < N) (a1 : Act) (hF : Fr N x0 pv a1) (hm : a1.tmps[m]? = some (.bool true))
    (hv : (execOp a1.eval o4).run P w = .ok (.value u) w)
    (h : ∀ a2, Fr N x0 pv a2 → a2.tmps[m]? = some (.bool true) → a2.eval (.tmp e) = u → (∀ t, t ≠ e → a2.eval (.tmp t) = a1.eval (.tmp t)) → wpList P ops Q tail a2 w) : wpList P ops Q (o4 :: tail) a1 w := by
  obtain ⟨n1, n2, n3⟩ := hn
  refine wpList_yields (v := u) (.inl ⟨wanted_at q4.2 hgi hm, fun w' hw' => by subst hw'; exact hv⟩) ?_
  rw [q4.1]
  exact h _ (hF.put n1) (by rw [at_other n2]; exact hm) (put_self (by rw [hF.size]; exact n3)) (fun t ht => put_other (Ne.symm ht))

theorem wpList_abs (hF : Fr N x0 pv a) (h : ∀ a', Fr N x0 pv a' → wpList P ops Q rest a' w) : wpList P ops Q rest a w := h a hF
/-- the same ahead of any guard -/
theorem head_load {f l i off g : Nat} {T ty : TypeId} {o2 o3 : Oper} {tail : List Oper}
    (q2 : o2.op = .fieldAddr T (.tmp x0) i ∧ o2.dst = some f ∧ o2.guard = none) (q3 : o3.op = .load ty (.tmp f) ∧ o3.dst = some l ∧ o3.guard = none)
    (hn : f ≠ x0 ∧ l ≠ x0 ∧ f < N ∧ l < N)
    (hf : ∀ w, (Instr.fieldAt T pv i).run P w = .ok (.pointer (some ⟨g, off, none⟩)) w)
    (hl : (Instr.loadAt ty (.pointer (some ⟨g, off, none⟩))).run P w = .ok v w)
    (a1 : Act) (hF : Fr N x0 pv a1)
    (h : ∀ a2, Fr N x0 pv a2 → a2.eval (.tmp l) = v → wpList P ops Q tail a2 w) : wpList P ops Q (o2 :: o3 :: tail) a1 w := by
  obtain ⟨n1, n2, n5, n6⟩ := hn
  refine wpList_yields (yieldsIf_fld (by simp [Region.wanted, q2.2.2]) T (.tmp x0) i q2.1 pv _ hF.ptr hf) ?_
  rw [q2.2.1]
  have hF2 : Fr N x0 pv (a1.put (some f) (.pointer (some ⟨g, off, none⟩))) := hF.put n1
  refine wpList_yields (v := v) (.inl ⟨by simp [Region.wanted, q3.2.2], fun w' hw' => by
    subst hw'
    unfold execOp
    simp only [q3.1, put_self (show f < a1.tmps.size by rw [hF.size]; exact n5), Sem.run_bind, hl, Result.andThen_ok, Sem.run_pure]⟩) ?_
  rw [q3.2.1]
  exact h _ (hF2.put n2) (put_self (by rw [hF2.size]; exact n6))
theorem head_next {e : Nat} {u : Value} {o4 : Oper} {tail : List Oper}
    (q4 : o4.dst = some e ∧ o4.guard = none) (hn : e ≠ x0 ∧ e < N) (a1 : Act) (hF : Fr N x0 pv a1)
    (hv : (execOp a1.eval o4).run P w = .ok (.value u) w)
    (h : ∀ a2, Fr N x0 pv a2 → a2.eval (.tmp e) = u → wpList P ops Q tail a2 w) : wpList P ops Q (o4 :: tail) a1 w := by
  obtain ⟨n1, n3⟩ := hn
  refine wpList_yields (v := u) (.inl ⟨by simp [Region.wanted, q4.2], fun w' hw' => by subst hw'; exact hv⟩) ?_
  rw [q4.1]
  exact h _ (hF.put n1) (put_self (by rw [hF.size]; exact n3))

theorem load_one {g off : Nat} {ty : TypeId} (hc : w.cell? ⟨g, off, none⟩ = some v) (d : TypeDesc) (hu : P.underlying ty = some d) (hd : (match d with | .struct _ | .array _ _ => true | _ => false) = false) :
    (Instr.loadAt ty (.pointer (some ⟨g, off, none⟩))).run P w = .ok v w := by
  have hagg : (isAgg ty).run P w = .ok false w := by
    unfold isAgg
    rw [Sem.run_bind, run_underlying hu w]
    cases d <;> simp_all
  simp [Instr.loadAt, Instr.sureAddr, Sem.run_bind, Result.andThen_ok, loadVar, hagg, hc]
end
end Go.Proofs.YtepkamkgodbffaaDoor

/-
  Contracts of the program's isZeroAsk, isZeroSay (written by tools/gen_zero.py).
-/
namespace Go.Proofs.YtepkamkgodbffaaDoor
open Go.RowKit
set_option linter.unusedVariables false
set_option maxRecDepth 100000

theorem built_guid : Tryd.prog.built 25 [] = some ((List.replicate 16 (0 : Int)).map (Value.int .u8)).toArray := by kernel_rfl
theorem built_proof : Tryd.prog.built 26 [] = some ((List.replicate 32 (0 : Int)).map (Value.int .u8)).toArray := by kernel_rfl
theorem built_chal : Tryd.prog.built 41 [] = some ((List.replicate 8 (0 : Int)).map (Value.int .u8)).toArray := by kernel_rfl

theorem zeroAsk_iff (a : AskV) : a = zeroAsk ↔ a.dial = [] ∧ a.data = [] ∧ a.locks = [] ∧ a.guid = List.replicate 16 0 ∧ a.proof = List.replicate 32 0 ∧ a.user = .empty ∧ a.share = .empty ∧ a.name = .empty ∧ a.pat = .empty ∧ a.aft = .empty ∧ a.acc = 0 ∧ a.shr = 0 ∧ a.way = 0 ∧ a.opt = 0 ∧ a.lev = 0 ∧ a.dur = 0 ∧ a.file = 0 ∧ a.at_ = 0 ∧ a.n = 0 ∧ a.most = 0 ∧ a.cls = 0 ∧ a.siz = 0 ∧ a.on = false := by
  constructor
  · rintro rfl
    exact ⟨rfl, rfl, rfl, rfl, rfl, rfl, rfl, rfl, rfl, rfl, rfl, rfl, rfl, rfl, rfl, rfl, rfl, rfl, rfl, rfl, rfl, rfl, rfl⟩
  · rintro ⟨h_dial, h_data, h_locks, h_guid, h_proof, h_user, h_share, h_name, h_pat, h_aft, h_acc, h_shr, h_way, h_opt, h_lev, h_dur, h_file, h_at_, h_n, h_most, h_cls, h_siz, h_on⟩
    cases a
    simp only at h_dial h_data h_locks h_guid h_proof h_user h_share h_name h_pat h_aft h_acc h_shr h_way h_opt h_lev h_dur h_file h_at_ h_n h_most h_cls h_siz h_on
    subst h_dial h_data h_locks h_guid h_proof h_user h_share h_name h_pat h_aft h_acc h_shr h_way h_opt h_lev h_dur h_file h_at_ h_n h_most h_cls h_siz h_on
    rfl

theorem zeroSay_iff (a : SayV) : a = zeroSay ↔ a.data = [] ∧ a.ents = [] ∧ a.chal = List.replicate 8 0 ∧ a.dia = 0 ∧ a.siz = 0 ∧ a.lev = 0 ∧ a.dur = 0 ∧ a.made = 0 ∧ a.file = 0 ∧ a.kind = 0 ∧ a.n = 0 ∧ a.more = false ∧ a.gone = false := by
  constructor
  · rintro rfl
    exact ⟨rfl, rfl, rfl, rfl, rfl, rfl, rfl, rfl, rfl, rfl, rfl, rfl, rfl⟩
  · rintro ⟨h_data, h_ents, h_chal, h_dia, h_siz, h_lev, h_dur, h_made, h_file, h_kind, h_n, h_more, h_gone⟩
    cases a
    simp only at h_data h_ents h_chal h_dia h_siz h_lev h_dur h_made h_file h_kind h_n h_more h_gone
    subst h_data h_ents h_chal h_dia h_siz h_lev h_dur h_made h_file h_kind h_n h_more h_gone
    rfl

theorem fld_isZeroAsk_0 (g : Nat) (w : World) : (Instr.fieldAt 32 (.pointer (some ⟨g, 0, none⟩)) 0).run Tryd.prog w = .ok (.pointer (some ⟨g, 0, none⟩)) w := by go_simp
theorem fld_isZeroAsk_1 (g : Nat) (w : World) : (Instr.fieldAt 32 (.pointer (some ⟨g, 0, none⟩)) 1).run Tryd.prog w = .ok (.pointer (some ⟨g, 1, none⟩)) w := by go_simp
theorem fld_isZeroAsk_2 (g : Nat) (w : World) : (Instr.fieldAt 32 (.pointer (some ⟨g, 0, none⟩)) 2).run Tryd.prog w = .ok (.pointer (some ⟨g, 17, none⟩)) w := by go_simp
theorem fld_isZeroAsk_3 (g : Nat) (w : World) : (Instr.fieldAt 32 (.pointer (some ⟨g, 0, none⟩)) 3).run Tryd.prog w = .ok (.pointer (some ⟨g, 49, none⟩)) w := by go_simp
theorem fld_isZeroAsk_4 (g : Nat) (w : World) : (Instr.fieldAt 32 (.pointer (some ⟨g, 0, none⟩)) 4).run Tryd.prog w = .ok (.pointer (some ⟨g, 50, none⟩)) w := by go_simp
theorem fld_isZeroAsk_5 (g : Nat) (w : World) : (Instr.fieldAt 32 (.pointer (some ⟨g, 0, none⟩)) 5).run Tryd.prog w = .ok (.pointer (some ⟨g, 51, none⟩)) w := by go_simp
theorem fld_isZeroAsk_6 (g : Nat) (w : World) : (Instr.fieldAt 32 (.pointer (some ⟨g, 0, none⟩)) 6).run Tryd.prog w = .ok (.pointer (some ⟨g, 52, none⟩)) w := by go_simp
theorem fld_isZeroAsk_7 (g : Nat) (w : World) : (Instr.fieldAt 32 (.pointer (some ⟨g, 0, none⟩)) 7).run Tryd.prog w = .ok (.pointer (some ⟨g, 53, none⟩)) w := by go_simp
theorem fld_isZeroAsk_8 (g : Nat) (w : World) : (Instr.fieldAt 32 (.pointer (some ⟨g, 0, none⟩)) 8).run Tryd.prog w = .ok (.pointer (some ⟨g, 54, none⟩)) w := by go_simp
theorem fld_isZeroAsk_9 (g : Nat) (w : World) : (Instr.fieldAt 32 (.pointer (some ⟨g, 0, none⟩)) 9).run Tryd.prog w = .ok (.pointer (some ⟨g, 55, none⟩)) w := by go_simp
theorem fld_isZeroAsk_10 (g : Nat) (w : World) : (Instr.fieldAt 32 (.pointer (some ⟨g, 0, none⟩)) 10).run Tryd.prog w = .ok (.pointer (some ⟨g, 56, none⟩)) w := by go_simp
theorem fld_isZeroAsk_11 (g : Nat) (w : World) : (Instr.fieldAt 32 (.pointer (some ⟨g, 0, none⟩)) 11).run Tryd.prog w = .ok (.pointer (some ⟨g, 57, none⟩)) w := by go_simp
theorem fld_isZeroAsk_12 (g : Nat) (w : World) : (Instr.fieldAt 32 (.pointer (some ⟨g, 0, none⟩)) 12).run Tryd.prog w = .ok (.pointer (some ⟨g, 58, none⟩)) w := by go_simp
theorem fld_isZeroAsk_13 (g : Nat) (w : World) : (Instr.fieldAt 32 (.pointer (some ⟨g, 0, none⟩)) 13).run Tryd.prog w = .ok (.pointer (some ⟨g, 59, none⟩)) w := by go_simp
theorem fld_isZeroAsk_14 (g : Nat) (w : World) : (Instr.fieldAt 32 (.pointer (some ⟨g, 0, none⟩)) 14).run Tryd.prog w = .ok (.pointer (some ⟨g, 60, none⟩)) w := by go_simp
theorem fld_isZeroAsk_15 (g : Nat) (w : World) : (Instr.fieldAt 32 (.pointer (some ⟨g, 0, none⟩)) 15).run Tryd.prog w = .ok (.pointer (some ⟨g, 61, none⟩)) w := by go_simp
theorem fld_isZeroAsk_16 (g : Nat) (w : World) : (Instr.fieldAt 32 (.pointer (some ⟨g, 0, none⟩)) 16).run Tryd.prog w = .ok (.pointer (some ⟨g, 62, none⟩)) w := by go_simp
theorem fld_isZeroAsk_17 (g : Nat) (w : World) : (Instr.fieldAt 32 (.pointer (some ⟨g, 0, none⟩)) 17).run Tryd.prog w = .ok (.pointer (some ⟨g, 63, none⟩)) w := by go_simp
theorem fld_isZeroAsk_18 (g : Nat) (w : World) : (Instr.fieldAt 32 (.pointer (some ⟨g, 0, none⟩)) 18).run Tryd.prog w = .ok (.pointer (some ⟨g, 64, none⟩)) w := by go_simp
theorem fld_isZeroAsk_19 (g : Nat) (w : World) : (Instr.fieldAt 32 (.pointer (some ⟨g, 0, none⟩)) 19).run Tryd.prog w = .ok (.pointer (some ⟨g, 65, none⟩)) w := by go_simp
theorem fld_isZeroAsk_20 (g : Nat) (w : World) : (Instr.fieldAt 32 (.pointer (some ⟨g, 0, none⟩)) 20).run Tryd.prog w = .ok (.pointer (some ⟨g, 66, none⟩)) w := by go_simp
theorem fld_isZeroAsk_21 (g : Nat) (w : World) : (Instr.fieldAt 32 (.pointer (some ⟨g, 0, none⟩)) 21).run Tryd.prog w = .ok (.pointer (some ⟨g, 67, none⟩)) w := by go_simp
theorem fld_isZeroAsk_22 (g : Nat) (w : World) : (Instr.fieldAt 32 (.pointer (some ⟨g, 0, none⟩)) 22).run Tryd.prog w = .ok (.pointer (some ⟨g, 68, none⟩)) w := by go_simp
theorem fld_isZeroSay_0 (g : Nat) (w : World) : (Instr.fieldAt 45 (.pointer (some ⟨g, 0, none⟩)) 0).run Tryd.prog w = .ok (.pointer (some ⟨g, 0, none⟩)) w := by go_simp
theorem fld_isZeroSay_1 (g : Nat) (w : World) : (Instr.fieldAt 45 (.pointer (some ⟨g, 0, none⟩)) 1).run Tryd.prog w = .ok (.pointer (some ⟨g, 1, none⟩)) w := by go_simp
theorem fld_isZeroSay_2 (g : Nat) (w : World) : (Instr.fieldAt 45 (.pointer (some ⟨g, 0, none⟩)) 2).run Tryd.prog w = .ok (.pointer (some ⟨g, 2, none⟩)) w := by go_simp
theorem fld_isZeroSay_3 (g : Nat) (w : World) : (Instr.fieldAt 45 (.pointer (some ⟨g, 0, none⟩)) 3).run Tryd.prog w = .ok (.pointer (some ⟨g, 10, none⟩)) w := by go_simp
theorem fld_isZeroSay_4 (g : Nat) (w : World) : (Instr.fieldAt 45 (.pointer (some ⟨g, 0, none⟩)) 4).run Tryd.prog w = .ok (.pointer (some ⟨g, 11, none⟩)) w := by go_simp
theorem fld_isZeroSay_5 (g : Nat) (w : World) : (Instr.fieldAt 45 (.pointer (some ⟨g, 0, none⟩)) 5).run Tryd.prog w = .ok (.pointer (some ⟨g, 12, none⟩)) w := by go_simp
theorem fld_isZeroSay_6 (g : Nat) (w : World) : (Instr.fieldAt 45 (.pointer (some ⟨g, 0, none⟩)) 6).run Tryd.prog w = .ok (.pointer (some ⟨g, 13, none⟩)) w := by go_simp
theorem fld_isZeroSay_7 (g : Nat) (w : World) : (Instr.fieldAt 45 (.pointer (some ⟨g, 0, none⟩)) 7).run Tryd.prog w = .ok (.pointer (some ⟨g, 14, none⟩)) w := by go_simp
theorem fld_isZeroSay_8 (g : Nat) (w : World) : (Instr.fieldAt 45 (.pointer (some ⟨g, 0, none⟩)) 8).run Tryd.prog w = .ok (.pointer (some ⟨g, 15, none⟩)) w := by go_simp
theorem fld_isZeroSay_9 (g : Nat) (w : World) : (Instr.fieldAt 45 (.pointer (some ⟨g, 0, none⟩)) 9).run Tryd.prog w = .ok (.pointer (some ⟨g, 16, none⟩)) w := by go_simp
theorem fld_isZeroSay_10 (g : Nat) (w : World) : (Instr.fieldAt 45 (.pointer (some ⟨g, 0, none⟩)) 10).run Tryd.prog w = .ok (.pointer (some ⟨g, 17, none⟩)) w := by go_simp
theorem fld_isZeroSay_11 (g : Nat) (w : World) : (Instr.fieldAt 45 (.pointer (some ⟨g, 0, none⟩)) 11).run Tryd.prog w = .ok (.pointer (some ⟨g, 18, none⟩)) w := by go_simp
theorem fld_isZeroSay_12 (g : Nat) (w : World) : (Instr.fieldAt 45 (.pointer (some ⟨g, 0, none⟩)) 12).run Tryd.prog w = .ok (.pointer (some ⟨g, 19, none⟩)) w := by go_simp

theorem load_mid_run {w : World} {g off : Nat} {cs : List Value} {ty : TypeId} {d : TypeDesc} (hc : w.rangeAt g off cs) (hu : Tryd.prog.underlying ty = some d) (hd : d.isRow = true) (hs : (Tryd.prog.info? ty).map (·.size) = some cs.length) :
    (Instr.loadAt ty (.pointer (some ⟨g, off, none⟩))).run Tryd.prog w = .ok (.agg cs.toArray) w := by
  have := run_loadVar_mid (P := Tryd.prog) w g off ty cs d hc hu hd hs
  simpa [Instr.loadAt, Instr.sureAddr, Sem.run_bind, Result.andThen_ok] using this
theorem bytes_isEmpty (s : ByteArray) : s.toList.isEmpty = decide (s = .empty) := by
  rw [ByteArray.toList_eq]
  obtain ⟨⟨l⟩⟩ := s
  cases l with
  | nil => exact (decide_eq_true rfl).symm
  | cons x l => rw [decide_eq_false (fun h => by injection h with h; injection h with h; cases h)]; rfl
theorem build_run {a : Act} {w : World} {T : TypeId} {o : Oper} {ys : Array Value} (ho : o.op = .build T #[]) (hf : Tryd.prog.built T [] = some ys) : (execOp a.eval o).run Tryd.prog w = .ok (.value (.agg ys)) w := by
  obtain ⟨cs, rfl⟩ : ∃ cs : List Value, ys = cs.toArray := ⟨ys.toList, by simp⟩
  have h := yieldsIf_build_blk (P := Tryd.prog) (ops := #[]) (S := fun _ => True) (op := { o with guard := none }) (a := a) (by simp [Region.wanted]) T #[] ho cs (by simpa using hf)
  rcases h with ⟨_, h⟩ | ⟨h, _⟩
  · exact h w trivial
  · simp [Region.wanted] at h
theorem eval_getD {a : Act} {t : Nat} {v : Value} (h : a.eval (.tmp t) = v) : a.tmps[t]?.getD undef = v := by rw [← h]; simp [Act.eval]
set_option maxHeartbeats 4000000 in
theorem isZeroAsk_any (w : World) (cs : List Value) (a : AskV) (ka : a.ok) (ha : AskIs w w.heap.size cs a) :
    Calls Tryd.prog 39 #[.agg cs.toArray] w fun e w' => e = .returned (.bool (decide (a = zeroAsk))) ∧ Below w.heap.size w w' := by
  have HL := Lib.hid (ha.len ka)
  obtain ⟨D1, D2, D3, X1, X2, X3, M1, M2, M3, rfl, h_D, h_X, h_M⟩ := ha
  have l_D := h_D.len
  have l_X := h_X.len
  have l_M := h_M.len
  have HT : Hid ((((((((((((((((((((((((a.dial.length == 0) && (a.data.length == 0)) && (a.locks.length == 0)) && (decide (a.guid = List.replicate 16 0))) && (decide (a.proof = List.replicate 32 0))) && (decide (a.user = .empty))) && (decide (a.share = .empty))) && (decide (a.name = .empty))) && (decide (a.pat = .empty))) && (decide (a.aft = .empty))) && (a.acc == 0)) && (a.shr == 0)) && (a.way == 0)) && (a.opt == 0)) && (a.lev == 0)) && (a.dur == 0)) && (a.file == 0)) && (a.at_ == 0)) && (a.n == 0)) && (a.most == 0)) && (a.cls == 0)) && (a.siz == 0)) && (!a.on)) = decide (a = zeroAsk)) := by
    show _ = _
    rw [Bool.eq_iff_iff, decide_eq_true_iff, zeroAsk_iff]
    simp only [Bool.and_eq_true, beq_iff_eq, decide_eq_true_iff, Bool.not_eq_true', List.length_eq_zero_iff, and_assoc]
  have FA : Hid (∀ (w : World) (g : Nat), Blk w g 32 (acells (.slice D1 D2 D3) (.slice X1 X2 X3) (.slice M1 M2 M3) a) → w.cell? ⟨g, 0, none⟩ = some (.slice D1 D2 D3) ∧ w.cell? ⟨g, 49, none⟩ = some (.string a.user) ∧ w.cell? ⟨g, 50, none⟩ = some (.string a.share) ∧ w.cell? ⟨g, 51, none⟩ = some (.int .u32 a.acc) ∧ w.cell? ⟨g, 52, none⟩ = some (.int .u32 a.shr) ∧ w.cell? ⟨g, 53, none⟩ = some (.int .u32 a.way) ∧ w.cell? ⟨g, 54, none⟩ = some (.int .u32 a.opt) ∧ w.cell? ⟨g, 55, none⟩ = some (.int .u8 a.lev) ∧ w.cell? ⟨g, 56, none⟩ = some (.int .u8 a.dur) ∧ w.cell? ⟨g, 57, none⟩ = some (.int .u64 a.file) ∧ w.cell? ⟨g, 58, none⟩ = some (.string a.name) ∧ w.cell? ⟨g, 59, none⟩ = some (.int .u64 a.at_) ∧ w.cell? ⟨g, 60, none⟩ = some (.int .u32 a.n) ∧ w.cell? ⟨g, 61, none⟩ = some (.slice X1 X2 X3) ∧ w.cell? ⟨g, 62, none⟩ = some (.slice M1 M2 M3) ∧ w.cell? ⟨g, 63, none⟩ = some (.int .u16 a.most) ∧ w.cell? ⟨g, 64, none⟩ = some (.string a.pat) ∧ w.cell? ⟨g, 65, none⟩ = some (.string a.aft) ∧ w.cell? ⟨g, 66, none⟩ = some (.int .u16 a.cls) ∧ w.cell? ⟨g, 67, none⟩ = some (.int .u64 a.siz) ∧ w.cell? ⟨g, 68, none⟩ = some (.bool a.on)) := fun w g h =>
    ⟨h.at rfl, h.at (acells_get ka 0), h.at (acells_get ka 1), h.at (acells_get ka 2), h.at (acells_get ka 3), h.at (acells_get ka 4), h.at (acells_get ka 5), h.at (acells_get ka 6), h.at (acells_get ka 7), h.at (acells_get ka 8), h.at (acells_get ka 9), h.at (acells_get ka 10), h.at (acells_get ka 11), h.at (acells_get ka 12), h.at (acells_get ka 13), h.at (acells_get ka 14), h.at (acells_get ka 15), h.at (acells_get ka 16), h.at (acells_get ka 17), h.at (acells_get ka 18), h.at (acells_get ka 19)⟩
  have R_guid : Hid (∀ (w : World) (g : Nat), Blk w g 32 (acells (.slice D1 D2 D3) (.slice X1 X2 X3) (.slice M1 M2 M3) a) → w.rangeAt g 1 (a.guid.map (Value.int .u8))) := fun w g h => acells_guid h ka
  have N_guid : Hid ((a.guid.map (Value.int .u8)).length = 16) := by show _ = _; rw [List.length_map]; exact ka.glen
  have q_guid : ∀ w : World, (Op.equalIn 10000 25 (.agg (a.guid.map (Value.int .u8)).toArray) (.agg ((List.replicate 16 (0 : Int)).map (Value.int .u8)).toArray)).run Tryd.prog w = .ok (decide (a.guid = List.replicate 16 0)) w := fun w => run_equalIn_arr3 Tryd.underlying25 Tryd.underlying5 size_u8e _ _ ka.glen (by simp) _ w
  have R_proof : Hid (∀ (w : World) (g : Nat), Blk w g 32 (acells (.slice D1 D2 D3) (.slice X1 X2 X3) (.slice M1 M2 M3) a) → w.rangeAt g 17 (a.proof.map (Value.int .u8))) := fun w g h => acells_proof h ka
  have N_proof : Hid ((a.proof.map (Value.int .u8)).length = 32) := by show _ = _; rw [List.length_map]; exact ka.plen
  have q_proof : ∀ w : World, (Op.equalIn 10000 26 (.agg (a.proof.map (Value.int .u8)).toArray) (.agg ((List.replicate 32 (0 : Int)).map (Value.int .u8)).toArray)).run Tryd.prog w = .ok (decide (a.proof = List.replicate 32 0)) w := fun w => run_equalIn_arr3 Tryd.underlying26 Tryd.underlying5 size_u8e _ _ ka.plen (by simp) _ w
  obtain ⟨z_dial, k_dial⟩ : ∃ z, (a.dial.length == 0) = z := ⟨_, rfl⟩
  obtain ⟨z_data, k_data⟩ : ∃ z, (a.data.length == 0) = z := ⟨_, rfl⟩
  obtain ⟨z_locks, k_locks⟩ : ∃ z, (a.locks.length == 0) = z := ⟨_, rfl⟩
  obtain ⟨z_guid, k_guid⟩ : ∃ z, (decide (a.guid = List.replicate 16 0)) = z := ⟨_, rfl⟩
  obtain ⟨z_proof, k_proof⟩ : ∃ z, (decide (a.proof = List.replicate 32 0)) = z := ⟨_, rfl⟩
  obtain ⟨z_user, k_user⟩ : ∃ z, (decide (a.user = .empty)) = z := ⟨_, rfl⟩
  obtain ⟨z_share, k_share⟩ : ∃ z, (decide (a.share = .empty)) = z := ⟨_, rfl⟩
  obtain ⟨z_name, k_name⟩ : ∃ z, (decide (a.name = .empty)) = z := ⟨_, rfl⟩
  obtain ⟨z_pat, k_pat⟩ : ∃ z, (decide (a.pat = .empty)) = z := ⟨_, rfl⟩
  obtain ⟨z_aft, k_aft⟩ : ∃ z, (decide (a.aft = .empty)) = z := ⟨_, rfl⟩
  obtain ⟨z_acc, k_acc⟩ : ∃ z, (a.acc == 0) = z := ⟨_, rfl⟩
  obtain ⟨z_shr, k_shr⟩ : ∃ z, (a.shr == 0) = z := ⟨_, rfl⟩
  obtain ⟨z_way, k_way⟩ : ∃ z, (a.way == 0) = z := ⟨_, rfl⟩
  obtain ⟨z_opt, k_opt⟩ : ∃ z, (a.opt == 0) = z := ⟨_, rfl⟩
  obtain ⟨z_lev, k_lev⟩ : ∃ z, (a.lev == 0) = z := ⟨_, rfl⟩
  obtain ⟨z_dur, k_dur⟩ : ∃ z, (a.dur == 0) = z := ⟨_, rfl⟩
  obtain ⟨z_file, k_file⟩ : ∃ z, (a.file == 0) = z := ⟨_, rfl⟩
  obtain ⟨z_at_, k_at_⟩ : ∃ z, (a.at_ == 0) = z := ⟨_, rfl⟩
  obtain ⟨z_n, k_n⟩ : ∃ z, (a.n == 0) = z := ⟨_, rfl⟩
  obtain ⟨z_most, k_most⟩ : ∃ z, (a.most == 0) = z := ⟨_, rfl⟩
  obtain ⟨z_cls, k_cls⟩ : ∃ z, (a.cls == 0) = z := ⟨_, rfl⟩
  obtain ⟨z_siz, k_siz⟩ : ∃ z, (a.siz == 0) = z := ⟨_, rfl⟩
  obtain ⟨z_on, k_on⟩ : ∃ z, (!a.on) = z := ⟨_, rfl⟩
  rw [k_dial, k_data, k_locks, k_guid, k_proof, k_user, k_share, k_name, k_pat, k_aft, k_acc, k_shr, k_way, k_opt, k_lev, k_dur, k_file, k_at_, k_n, k_most, k_cls, k_siz, k_on] at HT
  rw [l_D] at k_dial
  have kk_dial : ((D2 : Int) == 0) = z_dial := by rw [← k_dial]; rw [Bool.eq_iff_iff]; simp
  rw [l_X] at k_data
  have kk_data : ((X2 : Int) == 0) = z_data := by rw [← k_data]; rw [Bool.eq_iff_iff]; simp
  rw [l_M] at k_locks
  have kk_locks : ((M2 : Int) == 0) = z_locks := by rw [← k_locks]; rw [Bool.eq_iff_iff]; simp
  rw [k_guid] at q_guid
  obtain ⟨y_guid, hy⟩ : ∃ y, y = ((List.replicate 16 (0 : Int)).map (Value.int .u8)).toArray := ⟨_, rfl⟩
  rw [← hy] at q_guid
  have bt_guid : Tryd.prog.built 25 [] = some y_guid := by rw [hy]; exact built_guid
  clear hy
  rw [k_proof] at q_proof
  obtain ⟨y_proof, hy⟩ : ∃ y, y = ((List.replicate 32 (0 : Int)).map (Value.int .u8)).toArray := ⟨_, rfl⟩
  rw [← hy] at q_proof
  have bt_proof : Tryd.prog.built 26 [] = some y_proof := by rw [hy]; exact built_proof
  clear hy
  have kk_user : a.user.toList.isEmpty = z_user := by rw [← k_user]; exact bytes_isEmpty _
  have kk_share : a.share.toList.isEmpty = z_share := by rw [← k_share]; exact bytes_isEmpty _
  have kk_name : a.name.toList.isEmpty = z_name := by rw [← k_name]; exact bytes_isEmpty _
  have kk_pat : a.pat.toList.isEmpty = z_pat := by rw [← k_pat]; exact bytes_isEmpty _
  have kk_aft : a.aft.toList.isEmpty = z_aft := by rw [← k_aft]; exact bytes_isEmpty _
  obtain ⟨r, hr⟩ : ∃ r, r = decide (a = zeroAsk) := ⟨_, rfl⟩
  rw [← hr] at HT ⊢
  obtain ⟨cs, hcs⟩ : ∃ c, c = acells (.slice D1 D2 D3) (.slice X1 X2 X3) (.slice M1 M2 M3) a := ⟨_, rfl⟩
  rw [← hcs] at FA HL R_guid R_proof ⊢
  clear hr hcs h_D h_X h_M
  go_enter Tryd.func39, Tryd.ntmps39
  go_upto_region 1 with (first
    | ((with_reducible show wpList _ _ _ (⟨some 1, _, _, _, _, _⟩ :: _) _ _); refine wpList_box_blk rfl _ (.tmp 0) rfl cs rfl ?_; intro g w1 hg1 hg2 K1 L1)
    | fail)
  rename_i hret
  simp only [List.append_eq, List.cons_append, List.nil_append]
  refine wp_region_lit ?_
  have HK := K1
  obtain ⟨c_dial, c_user, c_share, c_acc, c_shr, c_way, c_opt, c_lev, c_dur, c_file, c_name, c_at_, c_n, c_data, c_locks, c_most, c_pat, c_aft, c_cls, c_siz, c_on⟩ := FA.out _ _ K1.out
  have r_guid := R_guid.out _ _ K1.out
  have r_proof := R_proof.out _ _ K1.out
  refine wpList_abs (N := 121) (x0 := 1) (pv := .pointer (some ⟨g, 0, none⟩)) ⟨rfl, rfl, rfl⟩ fun a0 F0 => ?_
  refine head_load (v := (.slice D1 D2 D3)) (f := 3) (l := 4) (i := 0) (off := 0) (g := g) ⟨rfl, rfl, rfl⟩ ⟨rfl, rfl, rfl⟩ (by decide) (fld_isZeroAsk_0 g) (load_one c_dial _ Tryd.underlying24 rfl) a0 F0 fun a1 F1 e1 => ?_
  refine head_next (e := 5) (u := .int .i64 (D2 : Int)) ⟨rfl, rfl⟩ (by decide) a1 F1 (by have e' := eval_getD e1; go_simp) fun a2 F2 e2 => ?_
  refine head_next (e := 6) (u := .bool z_dial) ⟨rfl, rfl⟩ (by decide) a2 F2 (by have e' := eval_getD e2; go_simp) fun b0 G0 h0 => ?_
  clear F0 F1 F2 e1 e2
  refine chain (gi := 4) (p := 6) (m := 7) (e := 11) (q := 12) (t := z_data) (mids := [_, _, _, _]) rfl ⟨rfl, rfl, rfl⟩ ⟨rfl, rfl, rfl⟩ (by decide) G0 h0 (by
    intro o ho
    simp only [List.mem_cons, List.not_mem_nil, or_false] at ho
    rcases ho with rfl | rfl | rfl | rfl
    all_goals exact ⟨rfl, _, rfl, by decide, by decide⟩) (fun a1 F1 m1 hk => ?_) fun b1 G1 h1 => ?_
  · refine mids_load (v := (.slice X1 X2 X3)) (f := 8) (l := 9) (i := 15) (off := 61) (g := g) (tail := _) (gi := 4) (m := 7) rfl ⟨rfl, rfl, rfl⟩ ⟨rfl, rfl, rfl⟩ (by decide) (fld_isZeroAsk_15 g) (load_one c_data _ Tryd.underlying29 rfl) a1 F1 m1 fun a2 F2 m2 e2 => ?_
    refine mids_next (l := 0) (e := 10) (u := .int .i64 (X2 : Int)) (gi := 4) (m := 7) rfl ⟨rfl, rfl⟩ (by decide) a2 F2 m2 (by have e' := eval_getD e2; go_simp) fun a3 F3 m3 e3 _ => ?_
    refine mids_next (l := 0) (e := 11) (u := .bool z_data) (gi := 4) (m := 7) rfl ⟨rfl, rfl⟩ (by decide) a3 F3 m3 (by have e' := eval_getD e3; go_simp) fun a4 F4 m4 e4 _ => ?_
    exact hk a4 F4 m4 e4
  refine chain (gi := 10) (p := 12) (m := 13) (e := 17) (q := 18) (t := z_locks) (mids := [_, _, _, _]) rfl ⟨rfl, rfl, rfl⟩ ⟨rfl, rfl, rfl⟩ (by decide) G1 h1 (by
    intro o ho
    simp only [List.mem_cons, List.not_mem_nil, or_false] at ho
    rcases ho with rfl | rfl | rfl | rfl
    all_goals exact ⟨rfl, _, rfl, by decide, by decide⟩) (fun a1 F1 m1 hk => ?_) fun b2 G2 h2 => ?_
  · refine mids_load (v := (.slice M1 M2 M3)) (f := 14) (l := 15) (i := 16) (off := 62) (g := g) (tail := _) (gi := 10) (m := 13) rfl ⟨rfl, rfl, rfl⟩ ⟨rfl, rfl, rfl⟩ (by decide) (fld_isZeroAsk_16 g) (load_one c_locks _ Tryd.underlying30 rfl) a1 F1 m1 fun a2 F2 m2 e2 => ?_
    refine mids_next (l := 0) (e := 16) (u := .int .i64 (M2 : Int)) (gi := 10) (m := 13) rfl ⟨rfl, rfl⟩ (by decide) a2 F2 m2 (by have e' := eval_getD e2; go_simp) fun a3 F3 m3 e3 _ => ?_
    refine mids_next (l := 0) (e := 17) (u := .bool z_locks) (gi := 10) (m := 13) rfl ⟨rfl, rfl⟩ (by decide) a3 F3 m3 (by have e' := eval_getD e3; go_simp) fun a4 F4 m4 e4 _ => ?_
    exact hk a4 F4 m4 e4
  clear G1 h1
  refine chain (gi := 16) (p := 18) (m := 19) (e := 23) (q := 24) (t := z_guid) (mids := [_, _, _, _]) rfl ⟨rfl, rfl, rfl⟩ ⟨rfl, rfl, rfl⟩ (by decide) G2 h2 (by
    intro o ho
    simp only [List.mem_cons, List.not_mem_nil, or_false] at ho
    rcases ho with rfl | rfl | rfl | rfl
    all_goals exact ⟨rfl, _, rfl, by decide, by decide⟩) (fun a1 F1 m1 hk => ?_) fun b3 G3 h3 => ?_
  · refine mids_load (v := (.agg (a.guid.map (Value.int .u8)).toArray)) (f := 20) (l := 21) (i := 1) (off := 1) (g := g) (tail := _) (gi := 16) (m := 19) rfl ⟨rfl, rfl, rfl⟩ ⟨rfl, rfl, rfl⟩ (by decide) (fld_isZeroAsk_1 g) (load_mid_run r_guid Tryd.underlying25 rfl (by rw [size_guid, N_guid.out])) a1 F1 m1 fun a2 F2 m2 e2 => ?_
    refine mids_next (l := 0) (e := 22) (u := .agg y_guid) (gi := 16) (m := 19) rfl ⟨rfl, rfl⟩ (by decide) a2 F2 m2 (build_run rfl bt_guid) fun a3 F3 m3 e3 o3 => ?_
    have e2' := (o3 21 (by decide)).trans e2
    refine mids_next (l := 0) (e := 23) (u := .bool z_guid) (gi := 16) (m := 19) rfl ⟨rfl, rfl⟩ (by decide) a3 F3 m3 (by have e' := eval_getD e2'; have e'' := eval_getD e3; have qg := guard_guid; go_simp) fun a4 F4 m4 e4 _ => ?_
    exact hk a4 F4 m4 e4
  clear G2 h2
  refine chain (gi := 22) (p := 24) (m := 25) (e := 29) (q := 30) (t := z_proof) (mids := [_, _, _, _]) rfl ⟨rfl, rfl, rfl⟩ ⟨rfl, rfl, rfl⟩ (by decide) G3 h3 (by
    intro o ho
    simp only [List.mem_cons, List.not_mem_nil, or_false] at ho
    rcases ho with rfl | rfl | rfl | rfl
    all_goals exact ⟨rfl, _, rfl, by decide, by decide⟩) (fun a1 F1 m1 hk => ?_) fun b4 G4 h4 => ?_
  · refine mids_load (v := (.agg (a.proof.map (Value.int .u8)).toArray)) (f := 26) (l := 27) (i := 2) (off := 17) (g := g) (tail := _) (gi := 22) (m := 25) rfl ⟨rfl, rfl, rfl⟩ ⟨rfl, rfl, rfl⟩ (by decide) (fld_isZeroAsk_2 g) (load_mid_run r_proof Tryd.underlying26 rfl (by rw [size_proof, N_proof.out])) a1 F1 m1 fun a2 F2 m2 e2 => ?_
    refine mids_next (l := 0) (e := 28) (u := .agg y_proof) (gi := 22) (m := 25) rfl ⟨rfl, rfl⟩ (by decide) a2 F2 m2 (build_run rfl bt_proof) fun a3 F3 m3 e3 o3 => ?_
    have e2' := (o3 27 (by decide)).trans e2
    refine mids_next (l := 0) (e := 29) (u := .bool z_proof) (gi := 22) (m := 25) rfl ⟨rfl, rfl⟩ (by decide) a3 F3 m3 (by have e' := eval_getD e2'; have e'' := eval_getD e3; have qg := guard_proof; go_simp) fun a4 F4 m4 e4 _ => ?_
    exact hk a4 F4 m4 e4
  clear G3 h3
  refine chain (gi := 28) (p := 30) (m := 31) (e := 34) (q := 35) (t := z_user) (mids := [_, _, _]) rfl ⟨rfl, rfl, rfl⟩ ⟨rfl, rfl, rfl⟩ (by decide) G4 h4 (by
    intro o ho
    simp only [List.mem_cons, List.not_mem_nil, or_false] at ho
    rcases ho with rfl | rfl | rfl
    all_goals exact ⟨rfl, _, rfl, by decide, by decide⟩) (fun a1 F1 m1 hk => ?_) fun b5 G5 h5 => ?_
  · refine mids_load (v := (.string a.user)) (f := 32) (l := 33) (i := 3) (off := 49) (g := g) (tail := _) (gi := 28) (m := 31) rfl ⟨rfl, rfl, rfl⟩ ⟨rfl, rfl, rfl⟩ (by decide) (fld_isZeroAsk_3 g) (load_one c_user _ Tryd.underlying9 rfl) a1 F1 m1 fun a2 F2 m2 e2 => ?_
    refine mids_next (l := 0) (e := 34) (u := .bool z_user) (gi := 28) (m := 31) rfl ⟨rfl, rfl⟩ (by decide) a2 F2 m2 (by have e' := eval_getD e2; go_simp) fun a4 F4 m4 e4 _ => ?_
    exact hk a4 F4 m4 e4
  clear G4 h4
  refine chain (gi := 33) (p := 35) (m := 36) (e := 39) (q := 40) (t := z_share) (mids := [_, _, _]) rfl ⟨rfl, rfl, rfl⟩ ⟨rfl, rfl, rfl⟩ (by decide) G5 h5 (by
    intro o ho
    simp only [List.mem_cons, List.not_mem_nil, or_false] at ho
    rcases ho with rfl | rfl | rfl
    all_goals exact ⟨rfl, _, rfl, by decide, by decide⟩) (fun a1 F1 m1 hk => ?_) fun b6 G6 h6 => ?_
  · refine mids_load (v := (.string a.share)) (f := 37) (l := 38) (i := 4) (off := 50) (g := g) (tail := _) (gi := 33) (m := 36) rfl ⟨rfl, rfl, rfl⟩ ⟨rfl, rfl, rfl⟩ (by decide) (fld_isZeroAsk_4 g) (load_one c_share _ Tryd.underlying9 rfl) a1 F1 m1 fun a2 F2 m2 e2 => ?_
    refine mids_next (l := 0) (e := 39) (u := .bool z_share) (gi := 33) (m := 36) rfl ⟨rfl, rfl⟩ (by decide) a2 F2 m2 (by have e' := eval_getD e2; go_simp) fun a4 F4 m4 e4 _ => ?_
    exact hk a4 F4 m4 e4
  clear G5 h5
  refine chain (gi := 38) (p := 40) (m := 41) (e := 44) (q := 45) (t := z_name) (mids := [_, _, _]) rfl ⟨rfl, rfl, rfl⟩ ⟨rfl, rfl, rfl⟩ (by decide) G6 h6 (by
    intro o ho
    simp only [List.mem_cons, List.not_mem_nil, or_false] at ho
    rcases ho with rfl | rfl | rfl
    all_goals exact ⟨rfl, _, rfl, by decide, by decide⟩) (fun a1 F1 m1 hk => ?_) fun b7 G7 h7 => ?_
  · refine mids_load (v := (.string a.name)) (f := 42) (l := 43) (i := 12) (off := 58) (g := g) (tail := _) (gi := 38) (m := 41) rfl ⟨rfl, rfl, rfl⟩ ⟨rfl, rfl, rfl⟩ (by decide) (fld_isZeroAsk_12 g) (load_one c_name _ Tryd.underlying9 rfl) a1 F1 m1 fun a2 F2 m2 e2 => ?_
    refine mids_next (l := 0) (e := 44) (u := .bool z_name) (gi := 38) (m := 41) rfl ⟨rfl, rfl⟩ (by decide) a2 F2 m2 (by have e' := eval_getD e2; go_simp) fun a4 F4 m4 e4 _ => ?_
    exact hk a4 F4 m4 e4
  clear G6 h6
  refine chain (gi := 43) (p := 45) (m := 46) (e := 49) (q := 50) (t := z_pat) (mids := [_, _, _]) rfl ⟨rfl, rfl, rfl⟩ ⟨rfl, rfl, rfl⟩ (by decide) G7 h7 (by
    intro o ho
    simp only [List.mem_cons, List.not_mem_nil, or_false] at ho
    rcases ho with rfl | rfl | rfl
    all_goals exact ⟨rfl, _, rfl, by decide, by decide⟩) (fun a1 F1 m1 hk => ?_) fun b8 G8 h8 => ?_
  · refine mids_load (v := (.string a.pat)) (f := 47) (l := 48) (i := 18) (off := 64) (g := g) (tail := _) (gi := 43) (m := 46) rfl ⟨rfl, rfl, rfl⟩ ⟨rfl, rfl, rfl⟩ (by decide) (fld_isZeroAsk_18 g) (load_one c_pat _ Tryd.underlying9 rfl) a1 F1 m1 fun a2 F2 m2 e2 => ?_
    refine mids_next (l := 0) (e := 49) (u := .bool z_pat) (gi := 43) (m := 46) rfl ⟨rfl, rfl⟩ (by decide) a2 F2 m2 (by have e' := eval_getD e2; go_simp) fun a4 F4 m4 e4 _ => ?_
    exact hk a4 F4 m4 e4
  clear G7 h7
  refine chain (gi := 48) (p := 50) (m := 51) (e := 54) (q := 55) (t := z_aft) (mids := [_, _, _]) rfl ⟨rfl, rfl, rfl⟩ ⟨rfl, rfl, rfl⟩ (by decide) G8 h8 (by
    intro o ho
    simp only [List.mem_cons, List.not_mem_nil, or_false] at ho
    rcases ho with rfl | rfl | rfl
    all_goals exact ⟨rfl, _, rfl, by decide, by decide⟩) (fun a1 F1 m1 hk => ?_) fun b9 G9 h9 => ?_
  · refine mids_load (v := (.string a.aft)) (f := 52) (l := 53) (i := 19) (off := 65) (g := g) (tail := _) (gi := 48) (m := 51) rfl ⟨rfl, rfl, rfl⟩ ⟨rfl, rfl, rfl⟩ (by decide) (fld_isZeroAsk_19 g) (load_one c_aft _ Tryd.underlying9 rfl) a1 F1 m1 fun a2 F2 m2 e2 => ?_
    refine mids_next (l := 0) (e := 54) (u := .bool z_aft) (gi := 48) (m := 51) rfl ⟨rfl, rfl⟩ (by decide) a2 F2 m2 (by have e' := eval_getD e2; go_simp) fun a4 F4 m4 e4 _ => ?_
    exact hk a4 F4 m4 e4
  clear G8 h8
  refine chain (gi := 53) (p := 55) (m := 56) (e := 59) (q := 60) (t := z_acc) (mids := [_, _, _]) rfl ⟨rfl, rfl, rfl⟩ ⟨rfl, rfl, rfl⟩ (by decide) G9 h9 (by
    intro o ho
    simp only [List.mem_cons, List.not_mem_nil, or_false] at ho
    rcases ho with rfl | rfl | rfl
    all_goals exact ⟨rfl, _, rfl, by decide, by decide⟩) (fun a1 F1 m1 hk => ?_) fun b10 G10 h10 => ?_
  · refine mids_load (v := (.int .u32 a.acc)) (f := 57) (l := 58) (i := 5) (off := 51) (g := g) (tail := _) (gi := 53) (m := 56) rfl ⟨rfl, rfl, rfl⟩ ⟨rfl, rfl, rfl⟩ (by decide) (fld_isZeroAsk_5 g) (load_one c_acc _ Tryd.underlying27 rfl) a1 F1 m1 fun a2 F2 m2 e2 => ?_
    refine mids_next (l := 0) (e := 59) (u := .bool z_acc) (gi := 53) (m := 56) rfl ⟨rfl, rfl⟩ (by decide) a2 F2 m2 (by have e' := eval_getD e2; go_simp) fun a4 F4 m4 e4 _ => ?_
    exact hk a4 F4 m4 e4
  clear G9 h9
  refine chain (gi := 58) (p := 60) (m := 61) (e := 64) (q := 65) (t := z_shr) (mids := [_, _, _]) rfl ⟨rfl, rfl, rfl⟩ ⟨rfl, rfl, rfl⟩ (by decide) G10 h10 (by
    intro o ho
    simp only [List.mem_cons, List.not_mem_nil, or_false] at ho
    rcases ho with rfl | rfl | rfl
    all_goals exact ⟨rfl, _, rfl, by decide, by decide⟩) (fun a1 F1 m1 hk => ?_) fun b11 G11 h11 => ?_
  · refine mids_load (v := (.int .u32 a.shr)) (f := 62) (l := 63) (i := 6) (off := 52) (g := g) (tail := _) (gi := 58) (m := 61) rfl ⟨rfl, rfl, rfl⟩ ⟨rfl, rfl, rfl⟩ (by decide) (fld_isZeroAsk_6 g) (load_one c_shr _ Tryd.underlying27 rfl) a1 F1 m1 fun a2 F2 m2 e2 => ?_
    refine mids_next (l := 0) (e := 64) (u := .bool z_shr) (gi := 58) (m := 61) rfl ⟨rfl, rfl⟩ (by decide) a2 F2 m2 (by have e' := eval_getD e2; go_simp) fun a4 F4 m4 e4 _ => ?_
    exact hk a4 F4 m4 e4
  clear G10 h10
  refine chain (gi := 63) (p := 65) (m := 66) (e := 69) (q := 70) (t := z_way) (mids := [_, _, _]) rfl ⟨rfl, rfl, rfl⟩ ⟨rfl, rfl, rfl⟩ (by decide) G11 h11 (by
    intro o ho
    simp only [List.mem_cons, List.not_mem_nil, or_false] at ho
    rcases ho with rfl | rfl | rfl
    all_goals exact ⟨rfl, _, rfl, by decide, by decide⟩) (fun a1 F1 m1 hk => ?_) fun b12 G12 h12 => ?_
  · refine mids_load (v := (.int .u32 a.way)) (f := 67) (l := 68) (i := 7) (off := 53) (g := g) (tail := _) (gi := 63) (m := 66) rfl ⟨rfl, rfl, rfl⟩ ⟨rfl, rfl, rfl⟩ (by decide) (fld_isZeroAsk_7 g) (load_one c_way _ Tryd.underlying27 rfl) a1 F1 m1 fun a2 F2 m2 e2 => ?_
    refine mids_next (l := 0) (e := 69) (u := .bool z_way) (gi := 63) (m := 66) rfl ⟨rfl, rfl⟩ (by decide) a2 F2 m2 (by have e' := eval_getD e2; go_simp) fun a4 F4 m4 e4 _ => ?_
    exact hk a4 F4 m4 e4
  clear G11 h11
  refine chain (gi := 68) (p := 70) (m := 71) (e := 74) (q := 75) (t := z_opt) (mids := [_, _, _]) rfl ⟨rfl, rfl, rfl⟩ ⟨rfl, rfl, rfl⟩ (by decide) G12 h12 (by
    intro o ho
    simp only [List.mem_cons, List.not_mem_nil, or_false] at ho
    rcases ho with rfl | rfl | rfl
    all_goals exact ⟨rfl, _, rfl, by decide, by decide⟩) (fun a1 F1 m1 hk => ?_) fun b13 G13 h13 => ?_
  · refine mids_load (v := (.int .u32 a.opt)) (f := 72) (l := 73) (i := 8) (off := 54) (g := g) (tail := _) (gi := 68) (m := 71) rfl ⟨rfl, rfl, rfl⟩ ⟨rfl, rfl, rfl⟩ (by decide) (fld_isZeroAsk_8 g) (load_one c_opt _ Tryd.underlying27 rfl) a1 F1 m1 fun a2 F2 m2 e2 => ?_
    refine mids_next (l := 0) (e := 74) (u := .bool z_opt) (gi := 68) (m := 71) rfl ⟨rfl, rfl⟩ (by decide) a2 F2 m2 (by have e' := eval_getD e2; go_simp) fun a4 F4 m4 e4 _ => ?_
    exact hk a4 F4 m4 e4
  clear G12 h12
  refine chain (gi := 73) (p := 75) (m := 76) (e := 79) (q := 80) (t := z_lev) (mids := [_, _, _]) rfl ⟨rfl, rfl, rfl⟩ ⟨rfl, rfl, rfl⟩ (by decide) G13 h13 (by
    intro o ho
    simp only [List.mem_cons, List.not_mem_nil, or_false] at ho
    rcases ho with rfl | rfl | rfl
    all_goals exact ⟨rfl, _, rfl, by decide, by decide⟩) (fun a1 F1 m1 hk => ?_) fun b14 G14 h14 => ?_
  · refine mids_load (v := (.int .u8 a.lev)) (f := 77) (l := 78) (i := 9) (off := 55) (g := g) (tail := _) (gi := 73) (m := 76) rfl ⟨rfl, rfl, rfl⟩ ⟨rfl, rfl, rfl⟩ (by decide) (fld_isZeroAsk_9 g) (load_one c_lev _ Tryd.underlying5 rfl) a1 F1 m1 fun a2 F2 m2 e2 => ?_
    refine mids_next (l := 0) (e := 79) (u := .bool z_lev) (gi := 73) (m := 76) rfl ⟨rfl, rfl⟩ (by decide) a2 F2 m2 (by have e' := eval_getD e2; go_simp) fun a4 F4 m4 e4 _ => ?_
    exact hk a4 F4 m4 e4
  clear G13 h13
  refine chain (gi := 78) (p := 80) (m := 81) (e := 84) (q := 85) (t := z_dur) (mids := [_, _, _]) rfl ⟨rfl, rfl, rfl⟩ ⟨rfl, rfl, rfl⟩ (by decide) G14 h14 (by
    intro o ho
    simp only [List.mem_cons, List.not_mem_nil, or_false] at ho
    rcases ho with rfl | rfl | rfl
    all_goals exact ⟨rfl, _, rfl, by decide, by decide⟩) (fun a1 F1 m1 hk => ?_) fun b15 G15 h15 => ?_
  · refine mids_load (v := (.int .u8 a.dur)) (f := 82) (l := 83) (i := 10) (off := 56) (g := g) (tail := _) (gi := 78) (m := 81) rfl ⟨rfl, rfl, rfl⟩ ⟨rfl, rfl, rfl⟩ (by decide) (fld_isZeroAsk_10 g) (load_one c_dur _ Tryd.underlying5 rfl) a1 F1 m1 fun a2 F2 m2 e2 => ?_
    refine mids_next (l := 0) (e := 84) (u := .bool z_dur) (gi := 78) (m := 81) rfl ⟨rfl, rfl⟩ (by decide) a2 F2 m2 (by have e' := eval_getD e2; go_simp) fun a4 F4 m4 e4 _ => ?_
    exact hk a4 F4 m4 e4
  clear G14 h14
  refine chain (gi := 83) (p := 85) (m := 86) (e := 89) (q := 90) (t := z_file) (mids := [_, _, _]) rfl ⟨rfl, rfl, rfl⟩ ⟨rfl, rfl, rfl⟩ (by decide) G15 h15 (by
    intro o ho
    simp only [List.mem_cons, List.not_mem_nil, or_false] at ho
    rcases ho with rfl | rfl | rfl
    all_goals exact ⟨rfl, _, rfl, by decide, by decide⟩) (fun a1 F1 m1 hk => ?_) fun b16 G16 h16 => ?_
  · refine mids_load (v := (.int .u64 a.file)) (f := 87) (l := 88) (i := 11) (off := 57) (g := g) (tail := _) (gi := 83) (m := 86) rfl ⟨rfl, rfl, rfl⟩ ⟨rfl, rfl, rfl⟩ (by decide) (fld_isZeroAsk_11 g) (load_one c_file _ Tryd.underlying28 rfl) a1 F1 m1 fun a2 F2 m2 e2 => ?_
    refine mids_next (l := 0) (e := 89) (u := .bool z_file) (gi := 83) (m := 86) rfl ⟨rfl, rfl⟩ (by decide) a2 F2 m2 (by have e' := eval_getD e2; go_simp) fun a4 F4 m4 e4 _ => ?_
    exact hk a4 F4 m4 e4
  clear G15 h15
  refine chain (gi := 88) (p := 90) (m := 91) (e := 94) (q := 95) (t := z_at_) (mids := [_, _, _]) rfl ⟨rfl, rfl, rfl⟩ ⟨rfl, rfl, rfl⟩ (by decide) G16 h16 (by
    intro o ho
    simp only [List.mem_cons, List.not_mem_nil, or_false] at ho
    rcases ho with rfl | rfl | rfl
    all_goals exact ⟨rfl, _, rfl, by decide, by decide⟩) (fun a1 F1 m1 hk => ?_) fun b17 G17 h17 => ?_
  · refine mids_load (v := (.int .u64 a.at_)) (f := 92) (l := 93) (i := 13) (off := 59) (g := g) (tail := _) (gi := 88) (m := 91) rfl ⟨rfl, rfl, rfl⟩ ⟨rfl, rfl, rfl⟩ (by decide) (fld_isZeroAsk_13 g) (load_one c_at_ _ Tryd.underlying28 rfl) a1 F1 m1 fun a2 F2 m2 e2 => ?_
    refine mids_next (l := 0) (e := 94) (u := .bool z_at_) (gi := 88) (m := 91) rfl ⟨rfl, rfl⟩ (by decide) a2 F2 m2 (by have e' := eval_getD e2; go_simp) fun a4 F4 m4 e4 _ => ?_
    exact hk a4 F4 m4 e4
  clear G16 h16
  refine chain (gi := 93) (p := 95) (m := 96) (e := 99) (q := 100) (t := z_n) (mids := [_, _, _]) rfl ⟨rfl, rfl, rfl⟩ ⟨rfl, rfl, rfl⟩ (by decide) G17 h17 (by
    intro o ho
    simp only [List.mem_cons, List.not_mem_nil, or_false] at ho
    rcases ho with rfl | rfl | rfl
    all_goals exact ⟨rfl, _, rfl, by decide, by decide⟩) (fun a1 F1 m1 hk => ?_) fun b18 G18 h18 => ?_
  · refine mids_load (v := (.int .u32 a.n)) (f := 97) (l := 98) (i := 14) (off := 60) (g := g) (tail := _) (gi := 93) (m := 96) rfl ⟨rfl, rfl, rfl⟩ ⟨rfl, rfl, rfl⟩ (by decide) (fld_isZeroAsk_14 g) (load_one c_n _ Tryd.underlying27 rfl) a1 F1 m1 fun a2 F2 m2 e2 => ?_
    refine mids_next (l := 0) (e := 99) (u := .bool z_n) (gi := 93) (m := 96) rfl ⟨rfl, rfl⟩ (by decide) a2 F2 m2 (by have e' := eval_getD e2; go_simp) fun a4 F4 m4 e4 _ => ?_
    exact hk a4 F4 m4 e4
  clear G17 h17
  refine chain (gi := 98) (p := 100) (m := 101) (e := 104) (q := 105) (t := z_most) (mids := [_, _, _]) rfl ⟨rfl, rfl, rfl⟩ ⟨rfl, rfl, rfl⟩ (by decide) G18 h18 (by
    intro o ho
    simp only [List.mem_cons, List.not_mem_nil, or_false] at ho
    rcases ho with rfl | rfl | rfl
    all_goals exact ⟨rfl, _, rfl, by decide, by decide⟩) (fun a1 F1 m1 hk => ?_) fun b19 G19 h19 => ?_
  · refine mids_load (v := (.int .u16 a.most)) (f := 102) (l := 103) (i := 17) (off := 63) (g := g) (tail := _) (gi := 98) (m := 101) rfl ⟨rfl, rfl, rfl⟩ ⟨rfl, rfl, rfl⟩ (by decide) (fld_isZeroAsk_17 g) (load_one c_most _ Tryd.underlying22 rfl) a1 F1 m1 fun a2 F2 m2 e2 => ?_
    refine mids_next (l := 0) (e := 104) (u := .bool z_most) (gi := 98) (m := 101) rfl ⟨rfl, rfl⟩ (by decide) a2 F2 m2 (by have e' := eval_getD e2; go_simp) fun a4 F4 m4 e4 _ => ?_
    exact hk a4 F4 m4 e4
  clear G18 h18
  refine chain (gi := 103) (p := 105) (m := 106) (e := 109) (q := 110) (t := z_cls) (mids := [_, _, _]) rfl ⟨rfl, rfl, rfl⟩ ⟨rfl, rfl, rfl⟩ (by decide) G19 h19 (by
    intro o ho
    simp only [List.mem_cons, List.not_mem_nil, or_false] at ho
    rcases ho with rfl | rfl | rfl
    all_goals exact ⟨rfl, _, rfl, by decide, by decide⟩) (fun a1 F1 m1 hk => ?_) fun b20 G20 h20 => ?_
  · refine mids_load (v := (.int .u16 a.cls)) (f := 107) (l := 108) (i := 20) (off := 66) (g := g) (tail := _) (gi := 103) (m := 106) rfl ⟨rfl, rfl, rfl⟩ ⟨rfl, rfl, rfl⟩ (by decide) (fld_isZeroAsk_20 g) (load_one c_cls _ Tryd.underlying22 rfl) a1 F1 m1 fun a2 F2 m2 e2 => ?_
    refine mids_next (l := 0) (e := 109) (u := .bool z_cls) (gi := 103) (m := 106) rfl ⟨rfl, rfl⟩ (by decide) a2 F2 m2 (by have e' := eval_getD e2; go_simp) fun a4 F4 m4 e4 _ => ?_
    exact hk a4 F4 m4 e4
  clear G19 h19
  refine chain (gi := 108) (p := 110) (m := 111) (e := 114) (q := 115) (t := z_siz) (mids := [_, _, _]) rfl ⟨rfl, rfl, rfl⟩ ⟨rfl, rfl, rfl⟩ (by decide) G20 h20 (by
    intro o ho
    simp only [List.mem_cons, List.not_mem_nil, or_false] at ho
    rcases ho with rfl | rfl | rfl
    all_goals exact ⟨rfl, _, rfl, by decide, by decide⟩) (fun a1 F1 m1 hk => ?_) fun b21 G21 h21 => ?_
  · refine mids_load (v := (.int .u64 a.siz)) (f := 112) (l := 113) (i := 21) (off := 67) (g := g) (tail := _) (gi := 108) (m := 111) rfl ⟨rfl, rfl, rfl⟩ ⟨rfl, rfl, rfl⟩ (by decide) (fld_isZeroAsk_21 g) (load_one c_siz _ Tryd.underlying28 rfl) a1 F1 m1 fun a2 F2 m2 e2 => ?_
    refine mids_next (l := 0) (e := 114) (u := .bool z_siz) (gi := 108) (m := 111) rfl ⟨rfl, rfl⟩ (by decide) a2 F2 m2 (by have e' := eval_getD e2; go_simp) fun a4 F4 m4 e4 _ => ?_
    exact hk a4 F4 m4 e4
  clear G20 h20
  refine chain (gi := 113) (p := 115) (m := 116) (e := 119) (q := 120) (t := z_on) (mids := [_, _, _]) rfl ⟨rfl, rfl, rfl⟩ ⟨rfl, rfl, rfl⟩ (by decide) G21 h21 (by
    intro o ho
    simp only [List.mem_cons, List.not_mem_nil, or_false] at ho
    rcases ho with rfl | rfl | rfl
    all_goals exact ⟨rfl, _, rfl, by decide, by decide⟩) (fun a1 F1 m1 hk => ?_) fun b22 G22 h22 => ?_
  · refine mids_load (v := (.bool a.on)) (f := 117) (l := 118) (i := 22) (off := 68) (g := g) (tail := _) (gi := 113) (m := 116) rfl ⟨rfl, rfl, rfl⟩ ⟨rfl, rfl, rfl⟩ (by decide) (fld_isZeroAsk_22 g) (load_one c_on _ Tryd.underlying4 rfl) a1 F1 m1 fun a2 F2 m2 e2 => ?_
    refine mids_next (l := 0) (e := 119) (u := .bool z_on) (gi := 113) (m := 116) rfl ⟨rfl, rfl⟩ (by decide) a2 F2 m2 (by have e' := eval_getD e2; go_simp) fun a4 F4 m4 e4 _ => ?_
    exact hk a4 F4 m4 e4
  clear G21 h21
  have HT1 := HT.out
  rw [HT1] at h22
  refine wpList_yields (v := .bool r) (yieldsIf_asg (by simp [Region.wanted]) (.tmp 120) rfl _ h22) ?_
  refine wpList_nil (hret _ _ (wp_ret ?_))
  have F9 := G22.put (d := 2) (v := .bool r) (by decide)
  refine bodyPost_ret (results_tmp rfl _ _ _) F9.df ?_
  refine ⟨?_, L1.out⟩
  have e9 : (b22.put (some 2) (.bool r)).eval (.tmp 2) = .bool r := put_self (by rw [G22.size]; decide)
  exact congrArg Ending.returned e9
set_option maxHeartbeats 4000000 in
theorem isZeroSay_any (w : World) (cs : List Value) (a : SayV) (ka : a.ok) (ha : SayIs w w.heap.size cs a) :
    Calls Tryd.prog 47 #[.agg cs.toArray] w fun e w' => e = .returned (.bool (decide (a = zeroSay))) ∧ Below w.heap.size w w' := by
  have HL := Lib.hid (ha.len ka)
  obtain ⟨X1, X2, X3, E1, E2, E3, rfl, h_X, h_E⟩ := ha
  have l_X := h_X.len
  have l_E := h_E.len
  have HT : Hid ((((((((((((((a.data.length == 0) && (a.ents.length == 0)) && (decide (a.chal = List.replicate 8 0))) && (a.dia == 0)) && (a.siz == 0)) && (a.lev == 0)) && (a.dur == 0)) && (a.made == 0)) && (a.file == 0)) && (a.kind == 0)) && (a.n == 0)) && (!a.more)) && (!a.gone)) = decide (a = zeroSay)) := by
    show _ = _
    rw [Bool.eq_iff_iff, decide_eq_true_iff, zeroSay_iff]
    simp only [Bool.and_eq_true, beq_iff_eq, decide_eq_true_iff, Bool.not_eq_true', List.length_eq_zero_iff, and_assoc]
  have FA : Hid (∀ (w : World) (g : Nat), Blk w g 45 (scells (.slice X1 X2 X3) (.slice E1 E2 E3) a) → w.cell? ⟨g, 0, none⟩ = some (.int .u16 a.dia) ∧ w.cell? ⟨g, 1, none⟩ = some (.int .u64 a.siz) ∧ w.cell? ⟨g, 10, none⟩ = some (.int .u8 a.lev) ∧ w.cell? ⟨g, 11, none⟩ = some (.int .u8 a.dur) ∧ w.cell? ⟨g, 12, none⟩ = some (.int .u16 a.made) ∧ w.cell? ⟨g, 13, none⟩ = some (.int .u64 a.file) ∧ w.cell? ⟨g, 14, none⟩ = some (.int .u8 a.kind) ∧ w.cell? ⟨g, 15, none⟩ = some (.slice X1 X2 X3) ∧ w.cell? ⟨g, 16, none⟩ = some (.int .u32 a.n) ∧ w.cell? ⟨g, 17, none⟩ = some (.slice E1 E2 E3) ∧ w.cell? ⟨g, 18, none⟩ = some (.bool a.more) ∧ w.cell? ⟨g, 19, none⟩ = some (.bool a.gone)) := fun w g h =>
    ⟨h.at rfl, h.at rfl, h.at (scells_get ka 0), h.at (scells_get ka 1), h.at (scells_get ka 2), h.at (scells_get ka 3), h.at (scells_get ka 4), h.at (scells_get ka 5), h.at (scells_get ka 6), h.at (scells_get ka 7), h.at (scells_get ka 8), h.at (scells_get ka 9)⟩
  have R_chal : Hid (∀ (w : World) (g : Nat), Blk w g 45 (scells (.slice X1 X2 X3) (.slice E1 E2 E3) a) → w.rangeAt g 2 (a.chal.map (Value.int .u8))) := fun w g h => scells_chal h ka
  have N_chal : Hid ((a.chal.map (Value.int .u8)).length = 8) := by show _ = _; rw [List.length_map]; exact ka.clen
  have q_chal : ∀ w : World, (Op.equalIn 10000 41 (.agg (a.chal.map (Value.int .u8)).toArray) (.agg ((List.replicate 8 (0 : Int)).map (Value.int .u8)).toArray)).run Tryd.prog w = .ok (decide (a.chal = List.replicate 8 0)) w := fun w => run_equalIn_arr3 Tryd.underlying41 Tryd.underlying5 size_u8e _ _ ka.clen (by simp) _ w
  obtain ⟨z_data, k_data⟩ : ∃ z, (a.data.length == 0) = z := ⟨_, rfl⟩
  obtain ⟨z_ents, k_ents⟩ : ∃ z, (a.ents.length == 0) = z := ⟨_, rfl⟩
  obtain ⟨z_chal, k_chal⟩ : ∃ z, (decide (a.chal = List.replicate 8 0)) = z := ⟨_, rfl⟩
  obtain ⟨z_dia, k_dia⟩ : ∃ z, (a.dia == 0) = z := ⟨_, rfl⟩
  obtain ⟨z_siz, k_siz⟩ : ∃ z, (a.siz == 0) = z := ⟨_, rfl⟩
  obtain ⟨z_lev, k_lev⟩ : ∃ z, (a.lev == 0) = z := ⟨_, rfl⟩
  obtain ⟨z_dur, k_dur⟩ : ∃ z, (a.dur == 0) = z := ⟨_, rfl⟩
  obtain ⟨z_made, k_made⟩ : ∃ z, (a.made == 0) = z := ⟨_, rfl⟩
  obtain ⟨z_file, k_file⟩ : ∃ z, (a.file == 0) = z := ⟨_, rfl⟩
  obtain ⟨z_kind, k_kind⟩ : ∃ z, (a.kind == 0) = z := ⟨_, rfl⟩
  obtain ⟨z_n, k_n⟩ : ∃ z, (a.n == 0) = z := ⟨_, rfl⟩
  obtain ⟨z_more, k_more⟩ : ∃ z, (!a.more) = z := ⟨_, rfl⟩
  obtain ⟨z_gone, k_gone⟩ : ∃ z, (!a.gone) = z := ⟨_, rfl⟩
  rw [k_data, k_ents, k_chal, k_dia, k_siz, k_lev, k_dur, k_made, k_file, k_kind, k_n, k_more, k_gone] at HT
  rw [l_X] at k_data
  have kk_data : ((X2 : Int) == 0) = z_data := by rw [← k_data]; rw [Bool.eq_iff_iff]; simp
  rw [l_E] at k_ents
  have kk_ents : ((E2 : Int) == 0) = z_ents := by rw [← k_ents]; rw [Bool.eq_iff_iff]; simp
  rw [k_chal] at q_chal
  obtain ⟨y_chal, hy⟩ : ∃ y, y = ((List.replicate 8 (0 : Int)).map (Value.int .u8)).toArray := ⟨_, rfl⟩
  rw [← hy] at q_chal
  have bt_chal : Tryd.prog.built 41 [] = some y_chal := by rw [hy]; exact built_chal
  clear hy
  obtain ⟨r, hr⟩ : ∃ r, r = decide (a = zeroSay) := ⟨_, rfl⟩
  rw [← hr] at HT ⊢
  obtain ⟨cs, hcs⟩ : ∃ c, c = scells (.slice X1 X2 X3) (.slice E1 E2 E3) a := ⟨_, rfl⟩
  rw [← hcs] at FA HL R_chal ⊢
  clear hr hcs h_X h_E
  go_enter Tryd.func47, Tryd.ntmps47
  go_upto_region 1 with (first
    | ((with_reducible show wpList _ _ _ (⟨some 1, _, _, _, _, _⟩ :: _) _ _); refine wpList_box_blk rfl _ (.tmp 0) rfl cs rfl ?_; intro g w1 hg1 hg2 K1 L1)
    | fail)
  rename_i hret
  simp only [List.append_eq, List.cons_append, List.nil_append]
  refine wp_region_lit ?_
  have HK := K1
  obtain ⟨c_dia, c_siz, c_lev, c_dur, c_made, c_file, c_kind, c_data, c_n, c_ents, c_more, c_gone⟩ := FA.out _ _ K1.out
  have r_chal := R_chal.out _ _ K1.out
  refine wpList_abs (N := 69) (x0 := 1) (pv := .pointer (some ⟨g, 0, none⟩)) ⟨rfl, rfl, rfl⟩ fun a0 F0 => ?_
  refine head_load (v := (.slice X1 X2 X3)) (f := 3) (l := 4) (i := 8) (off := 15) (g := g) ⟨rfl, rfl, rfl⟩ ⟨rfl, rfl, rfl⟩ (by decide) (fld_isZeroSay_8 g) (load_one c_data _ Tryd.underlying29 rfl) a0 F0 fun a1 F1 e1 => ?_
  refine head_next (e := 5) (u := .int .i64 (X2 : Int)) ⟨rfl, rfl⟩ (by decide) a1 F1 (by have e' := eval_getD e1; go_simp) fun a2 F2 e2 => ?_
  refine head_next (e := 6) (u := .bool z_data) ⟨rfl, rfl⟩ (by decide) a2 F2 (by have e' := eval_getD e2; go_simp) fun b0 G0 h0 => ?_
  clear F0 F1 F2 e1 e2
  refine chain (gi := 4) (p := 6) (m := 7) (e := 11) (q := 12) (t := z_ents) (mids := [_, _, _, _]) rfl ⟨rfl, rfl, rfl⟩ ⟨rfl, rfl, rfl⟩ (by decide) G0 h0 (by
    intro o ho
    simp only [List.mem_cons, List.not_mem_nil, or_false] at ho
    rcases ho with rfl | rfl | rfl | rfl
    all_goals exact ⟨rfl, _, rfl, by decide, by decide⟩) (fun a1 F1 m1 hk => ?_) fun b1 G1 h1 => ?_
  · refine mids_load (v := (.slice E1 E2 E3)) (f := 8) (l := 9) (i := 10) (off := 17) (g := g) (tail := _) (gi := 4) (m := 7) rfl ⟨rfl, rfl, rfl⟩ ⟨rfl, rfl, rfl⟩ (by decide) (fld_isZeroSay_10 g) (load_one c_ents _ Tryd.underlying43 rfl) a1 F1 m1 fun a2 F2 m2 e2 => ?_
    refine mids_next (l := 0) (e := 10) (u := .int .i64 (E2 : Int)) (gi := 4) (m := 7) rfl ⟨rfl, rfl⟩ (by decide) a2 F2 m2 (by have e' := eval_getD e2; go_simp) fun a3 F3 m3 e3 _ => ?_
    refine mids_next (l := 0) (e := 11) (u := .bool z_ents) (gi := 4) (m := 7) rfl ⟨rfl, rfl⟩ (by decide) a3 F3 m3 (by have e' := eval_getD e3; go_simp) fun a4 F4 m4 e4 _ => ?_
    exact hk a4 F4 m4 e4
  refine chain (gi := 10) (p := 12) (m := 13) (e := 17) (q := 18) (t := z_chal) (mids := [_, _, _, _]) rfl ⟨rfl, rfl, rfl⟩ ⟨rfl, rfl, rfl⟩ (by decide) G1 h1 (by
    intro o ho
    simp only [List.mem_cons, List.not_mem_nil, or_false] at ho
    rcases ho with rfl | rfl | rfl | rfl
    all_goals exact ⟨rfl, _, rfl, by decide, by decide⟩) (fun a1 F1 m1 hk => ?_) fun b2 G2 h2 => ?_
  · refine mids_load (v := (.agg (a.chal.map (Value.int .u8)).toArray)) (f := 14) (l := 15) (i := 2) (off := 2) (g := g) (tail := _) (gi := 10) (m := 13) rfl ⟨rfl, rfl, rfl⟩ ⟨rfl, rfl, rfl⟩ (by decide) (fld_isZeroSay_2 g) (load_mid_run r_chal Tryd.underlying41 rfl (by rw [size_chal, N_chal.out])) a1 F1 m1 fun a2 F2 m2 e2 => ?_
    refine mids_next (l := 0) (e := 16) (u := .agg y_chal) (gi := 10) (m := 13) rfl ⟨rfl, rfl⟩ (by decide) a2 F2 m2 (build_run rfl bt_chal) fun a3 F3 m3 e3 o3 => ?_
    have e2' := (o3 15 (by decide)).trans e2
    refine mids_next (l := 0) (e := 17) (u := .bool z_chal) (gi := 10) (m := 13) rfl ⟨rfl, rfl⟩ (by decide) a3 F3 m3 (by have e' := eval_getD e2'; have e'' := eval_getD e3; have qg := guard_chal; go_simp) fun a4 F4 m4 e4 _ => ?_
    exact hk a4 F4 m4 e4
  clear G1 h1
  refine chain (gi := 16) (p := 18) (m := 19) (e := 22) (q := 23) (t := z_dia) (mids := [_, _, _]) rfl ⟨rfl, rfl, rfl⟩ ⟨rfl, rfl, rfl⟩ (by decide) G2 h2 (by
    intro o ho
    simp only [List.mem_cons, List.not_mem_nil, or_false] at ho
    rcases ho with rfl | rfl | rfl
    all_goals exact ⟨rfl, _, rfl, by decide, by decide⟩) (fun a1 F1 m1 hk => ?_) fun b3 G3 h3 => ?_
  · refine mids_load (v := (.int .u16 a.dia)) (f := 20) (l := 21) (i := 0) (off := 0) (g := g) (tail := _) (gi := 16) (m := 19) rfl ⟨rfl, rfl, rfl⟩ ⟨rfl, rfl, rfl⟩ (by decide) (fld_isZeroSay_0 g) (load_one c_dia _ Tryd.underlying22 rfl) a1 F1 m1 fun a2 F2 m2 e2 => ?_
    refine mids_next (l := 0) (e := 22) (u := .bool z_dia) (gi := 16) (m := 19) rfl ⟨rfl, rfl⟩ (by decide) a2 F2 m2 (by have e' := eval_getD e2; go_simp) fun a4 F4 m4 e4 _ => ?_
    exact hk a4 F4 m4 e4
  clear G2 h2
  refine chain (gi := 21) (p := 23) (m := 24) (e := 27) (q := 28) (t := z_siz) (mids := [_, _, _]) rfl ⟨rfl, rfl, rfl⟩ ⟨rfl, rfl, rfl⟩ (by decide) G3 h3 (by
    intro o ho
    simp only [List.mem_cons, List.not_mem_nil, or_false] at ho
    rcases ho with rfl | rfl | rfl
    all_goals exact ⟨rfl, _, rfl, by decide, by decide⟩) (fun a1 F1 m1 hk => ?_) fun b4 G4 h4 => ?_
  · refine mids_load (v := (.int .u64 a.siz)) (f := 25) (l := 26) (i := 1) (off := 1) (g := g) (tail := _) (gi := 21) (m := 24) rfl ⟨rfl, rfl, rfl⟩ ⟨rfl, rfl, rfl⟩ (by decide) (fld_isZeroSay_1 g) (load_one c_siz _ Tryd.underlying28 rfl) a1 F1 m1 fun a2 F2 m2 e2 => ?_
    refine mids_next (l := 0) (e := 27) (u := .bool z_siz) (gi := 21) (m := 24) rfl ⟨rfl, rfl⟩ (by decide) a2 F2 m2 (by have e' := eval_getD e2; go_simp) fun a4 F4 m4 e4 _ => ?_
    exact hk a4 F4 m4 e4
  clear G3 h3
  refine chain (gi := 26) (p := 28) (m := 29) (e := 32) (q := 33) (t := z_lev) (mids := [_, _, _]) rfl ⟨rfl, rfl, rfl⟩ ⟨rfl, rfl, rfl⟩ (by decide) G4 h4 (by
    intro o ho
    simp only [List.mem_cons, List.not_mem_nil, or_false] at ho
    rcases ho with rfl | rfl | rfl
    all_goals exact ⟨rfl, _, rfl, by decide, by decide⟩) (fun a1 F1 m1 hk => ?_) fun b5 G5 h5 => ?_
  · refine mids_load (v := (.int .u8 a.lev)) (f := 30) (l := 31) (i := 3) (off := 10) (g := g) (tail := _) (gi := 26) (m := 29) rfl ⟨rfl, rfl, rfl⟩ ⟨rfl, rfl, rfl⟩ (by decide) (fld_isZeroSay_3 g) (load_one c_lev _ Tryd.underlying5 rfl) a1 F1 m1 fun a2 F2 m2 e2 => ?_
    refine mids_next (l := 0) (e := 32) (u := .bool z_lev) (gi := 26) (m := 29) rfl ⟨rfl, rfl⟩ (by decide) a2 F2 m2 (by have e' := eval_getD e2; go_simp) fun a4 F4 m4 e4 _ => ?_
    exact hk a4 F4 m4 e4
  clear G4 h4
  refine chain (gi := 31) (p := 33) (m := 34) (e := 37) (q := 38) (t := z_dur) (mids := [_, _, _]) rfl ⟨rfl, rfl, rfl⟩ ⟨rfl, rfl, rfl⟩ (by decide) G5 h5 (by
    intro o ho
    simp only [List.mem_cons, List.not_mem_nil, or_false] at ho
    rcases ho with rfl | rfl | rfl
    all_goals exact ⟨rfl, _, rfl, by decide, by decide⟩) (fun a1 F1 m1 hk => ?_) fun b6 G6 h6 => ?_
  · refine mids_load (v := (.int .u8 a.dur)) (f := 35) (l := 36) (i := 4) (off := 11) (g := g) (tail := _) (gi := 31) (m := 34) rfl ⟨rfl, rfl, rfl⟩ ⟨rfl, rfl, rfl⟩ (by decide) (fld_isZeroSay_4 g) (load_one c_dur _ Tryd.underlying5 rfl) a1 F1 m1 fun a2 F2 m2 e2 => ?_
    refine mids_next (l := 0) (e := 37) (u := .bool z_dur) (gi := 31) (m := 34) rfl ⟨rfl, rfl⟩ (by decide) a2 F2 m2 (by have e' := eval_getD e2; go_simp) fun a4 F4 m4 e4 _ => ?_
    exact hk a4 F4 m4 e4
  clear G5 h5
  refine chain (gi := 36) (p := 38) (m := 39) (e := 42) (q := 43) (t := z_made) (mids := [_, _, _]) rfl ⟨rfl, rfl, rfl⟩ ⟨rfl, rfl, rfl⟩ (by decide) G6 h6 (by
    intro o ho
    simp only [List.mem_cons, List.not_mem_nil, or_false] at ho
    rcases ho with rfl | rfl | rfl
    all_goals exact ⟨rfl, _, rfl, by decide, by decide⟩) (fun a1 F1 m1 hk => ?_) fun b7 G7 h7 => ?_
  · refine mids_load (v := (.int .u16 a.made)) (f := 40) (l := 41) (i := 5) (off := 12) (g := g) (tail := _) (gi := 36) (m := 39) rfl ⟨rfl, rfl, rfl⟩ ⟨rfl, rfl, rfl⟩ (by decide) (fld_isZeroSay_5 g) (load_one c_made _ Tryd.underlying22 rfl) a1 F1 m1 fun a2 F2 m2 e2 => ?_
    refine mids_next (l := 0) (e := 42) (u := .bool z_made) (gi := 36) (m := 39) rfl ⟨rfl, rfl⟩ (by decide) a2 F2 m2 (by have e' := eval_getD e2; go_simp) fun a4 F4 m4 e4 _ => ?_
    exact hk a4 F4 m4 e4
  clear G6 h6
  refine chain (gi := 41) (p := 43) (m := 44) (e := 47) (q := 48) (t := z_file) (mids := [_, _, _]) rfl ⟨rfl, rfl, rfl⟩ ⟨rfl, rfl, rfl⟩ (by decide) G7 h7 (by
    intro o ho
    simp only [List.mem_cons, List.not_mem_nil, or_false] at ho
    rcases ho with rfl | rfl | rfl
    all_goals exact ⟨rfl, _, rfl, by decide, by decide⟩) (fun a1 F1 m1 hk => ?_) fun b8 G8 h8 => ?_
  · refine mids_load (v := (.int .u64 a.file)) (f := 45) (l := 46) (i := 6) (off := 13) (g := g) (tail := _) (gi := 41) (m := 44) rfl ⟨rfl, rfl, rfl⟩ ⟨rfl, rfl, rfl⟩ (by decide) (fld_isZeroSay_6 g) (load_one c_file _ Tryd.underlying28 rfl) a1 F1 m1 fun a2 F2 m2 e2 => ?_
    refine mids_next (l := 0) (e := 47) (u := .bool z_file) (gi := 41) (m := 44) rfl ⟨rfl, rfl⟩ (by decide) a2 F2 m2 (by have e' := eval_getD e2; go_simp) fun a4 F4 m4 e4 _ => ?_
    exact hk a4 F4 m4 e4
  clear G7 h7
  refine chain (gi := 46) (p := 48) (m := 49) (e := 52) (q := 53) (t := z_kind) (mids := [_, _, _]) rfl ⟨rfl, rfl, rfl⟩ ⟨rfl, rfl, rfl⟩ (by decide) G8 h8 (by
    intro o ho
    simp only [List.mem_cons, List.not_mem_nil, or_false] at ho
    rcases ho with rfl | rfl | rfl
    all_goals exact ⟨rfl, _, rfl, by decide, by decide⟩) (fun a1 F1 m1 hk => ?_) fun b9 G9 h9 => ?_
  · refine mids_load (v := (.int .u8 a.kind)) (f := 50) (l := 51) (i := 7) (off := 14) (g := g) (tail := _) (gi := 46) (m := 49) rfl ⟨rfl, rfl, rfl⟩ ⟨rfl, rfl, rfl⟩ (by decide) (fld_isZeroSay_7 g) (load_one c_kind _ Tryd.underlying42 rfl) a1 F1 m1 fun a2 F2 m2 e2 => ?_
    refine mids_next (l := 0) (e := 52) (u := .bool z_kind) (gi := 46) (m := 49) rfl ⟨rfl, rfl⟩ (by decide) a2 F2 m2 (by have e' := eval_getD e2; go_simp) fun a4 F4 m4 e4 _ => ?_
    exact hk a4 F4 m4 e4
  clear G8 h8
  refine chain (gi := 51) (p := 53) (m := 54) (e := 57) (q := 58) (t := z_n) (mids := [_, _, _]) rfl ⟨rfl, rfl, rfl⟩ ⟨rfl, rfl, rfl⟩ (by decide) G9 h9 (by
    intro o ho
    simp only [List.mem_cons, List.not_mem_nil, or_false] at ho
    rcases ho with rfl | rfl | rfl
    all_goals exact ⟨rfl, _, rfl, by decide, by decide⟩) (fun a1 F1 m1 hk => ?_) fun b10 G10 h10 => ?_
  · refine mids_load (v := (.int .u32 a.n)) (f := 55) (l := 56) (i := 9) (off := 16) (g := g) (tail := _) (gi := 51) (m := 54) rfl ⟨rfl, rfl, rfl⟩ ⟨rfl, rfl, rfl⟩ (by decide) (fld_isZeroSay_9 g) (load_one c_n _ Tryd.underlying27 rfl) a1 F1 m1 fun a2 F2 m2 e2 => ?_
    refine mids_next (l := 0) (e := 57) (u := .bool z_n) (gi := 51) (m := 54) rfl ⟨rfl, rfl⟩ (by decide) a2 F2 m2 (by have e' := eval_getD e2; go_simp) fun a4 F4 m4 e4 _ => ?_
    exact hk a4 F4 m4 e4
  clear G9 h9
  refine chain (gi := 56) (p := 58) (m := 59) (e := 62) (q := 63) (t := z_more) (mids := [_, _, _]) rfl ⟨rfl, rfl, rfl⟩ ⟨rfl, rfl, rfl⟩ (by decide) G10 h10 (by
    intro o ho
    simp only [List.mem_cons, List.not_mem_nil, or_false] at ho
    rcases ho with rfl | rfl | rfl
    all_goals exact ⟨rfl, _, rfl, by decide, by decide⟩) (fun a1 F1 m1 hk => ?_) fun b11 G11 h11 => ?_
  · refine mids_load (v := (.bool a.more)) (f := 60) (l := 61) (i := 11) (off := 18) (g := g) (tail := _) (gi := 56) (m := 59) rfl ⟨rfl, rfl, rfl⟩ ⟨rfl, rfl, rfl⟩ (by decide) (fld_isZeroSay_11 g) (load_one c_more _ Tryd.underlying4 rfl) a1 F1 m1 fun a2 F2 m2 e2 => ?_
    refine mids_next (l := 0) (e := 62) (u := .bool z_more) (gi := 56) (m := 59) rfl ⟨rfl, rfl⟩ (by decide) a2 F2 m2 (by have e' := eval_getD e2; go_simp) fun a4 F4 m4 e4 _ => ?_
    exact hk a4 F4 m4 e4
  clear G10 h10
  refine chain (gi := 61) (p := 63) (m := 64) (e := 67) (q := 68) (t := z_gone) (mids := [_, _, _]) rfl ⟨rfl, rfl, rfl⟩ ⟨rfl, rfl, rfl⟩ (by decide) G11 h11 (by
    intro o ho
    simp only [List.mem_cons, List.not_mem_nil, or_false] at ho
    rcases ho with rfl | rfl | rfl
    all_goals exact ⟨rfl, _, rfl, by decide, by decide⟩) (fun a1 F1 m1 hk => ?_) fun b12 G12 h12 => ?_
  · refine mids_load (v := (.bool a.gone)) (f := 65) (l := 66) (i := 12) (off := 19) (g := g) (tail := _) (gi := 61) (m := 64) rfl ⟨rfl, rfl, rfl⟩ ⟨rfl, rfl, rfl⟩ (by decide) (fld_isZeroSay_12 g) (load_one c_gone _ Tryd.underlying4 rfl) a1 F1 m1 fun a2 F2 m2 e2 => ?_
    refine mids_next (l := 0) (e := 67) (u := .bool z_gone) (gi := 61) (m := 64) rfl ⟨rfl, rfl⟩ (by decide) a2 F2 m2 (by have e' := eval_getD e2; go_simp) fun a4 F4 m4 e4 _ => ?_
    exact hk a4 F4 m4 e4
  clear G11 h11
  have HT1 := HT.out
  rw [HT1] at h12
  refine wpList_yields (v := .bool r) (yieldsIf_asg (by simp [Region.wanted]) (.tmp 68) rfl _ h12) ?_
  refine wpList_nil (hret _ _ (wp_ret ?_))
  have F9 := G12.put (d := 2) (v := .bool r) (by decide)
  refine bodyPost_ret (results_tmp rfl _ _ _) F9.df ?_
  refine ⟨?_, L1.out⟩
  have e9 : (b12.put (some 2) (.bool r)).eval (.tmp 2) = .bool r := put_self (by rw [G12.size]; decide)
  exact congrArg Ending.returned e9
end Go.Proofs.YtepkamkgodbffaaDoor

/-
  A store into the midst of a block of cells: of one cell, of an array; in a plain region, and as a step of a region that draws its order. No function of the program is named here.
-/
namespace Go.Proofs.YtepkamkgodbffaaDoor
open Go.RowKit

theorem World.setCells_only (g : Nat) : ∀ (vs : List Value) (o : Nat) (w : World), Only g w (w.setCells g o vs)
  | [], _, w => Only.refl g w
  | v :: r, o, w => by
    have h1 := only_setCell w g o v
    have h2 := World.setCells_only g r (o + 1) (w.setCell ⟨g, o, none⟩ v)
    exact ⟨h2.os.trans h1.os, h2.tape.trans h1.tape, h2.output.trans h1.output, h2.size.trans h1.size, fun i hi => (h2.rest i hi).trans (h1.rest i hi)⟩

theorem Blk.setCells {g : Nat} {T : TypeId} : ∀ (vs : List Value) (o : Nat) (w : World) (cs : List Value), Blk w g T cs → o + vs.length ≤ cs.length → Blk (w.setCells g o vs) g T (cs.take o ++ (vs ++ cs.drop (o + vs.length)))
  | [], o, w, cs, h, _ => by
    show Blk w g T _
    rw [List.nil_append, List.length_nil, Nat.add_zero, List.take_append_drop]
    exact h
  | v :: r, o, w, cs, h, hl => by
    have hl' : o + 1 + r.length ≤ cs.length := by simp at hl; omega
    have h1 := h.set o v
    have h2 := Blk.setCells r (o + 1) _ _ h1 (by rw [List.length_set]; exact hl')
    have e : (cs.set o v).take (o + 1) ++ (r ++ (cs.set o v).drop (o + 1 + r.length)) = cs.take o ++ ((v :: r) ++ cs.drop (o + (v :: r).length)) := by
      have ho : o < cs.length := by omega
      have e1 : (cs.set o v).take (o + 1) = cs.take o ++ [v] := by
        rw [List.take_succ_eq_append_getElem (by rw [List.length_set]; exact ho), List.take_set_of_le (Nat.le_refl o)]
        simp
      have e2 : (cs.set o v).drop (o + 1 + r.length) = cs.drop (o + (v :: r).length) := by
        rw [List.drop_set_of_lt (by omega), List.length_cons]
        congr 1
        omega
      rw [e1, e2]
      simp
    rw [e] at h2
    exact h2

section
variable {P : Program} {ops : Array Oper} {rest : List Oper} {o : Oper} {a : Act} {w : World} {Q : Exit → Act → World → Prop}
theorem there_blk {g : Nat} {T : TypeId} {cs : List Value} (h : Blk w g T cs) (i n : Nat) (hn : i + n ≤ cs.length) : w.there g i n := fun j hj => by
  refine ⟨?_, h.frozen _⟩
  rw [h.cell]
  have : i + j < cs.length := by omega
  simp [this]
/-- an array into the midst -/
theorem wpList_store_midb (hgd : o.guard = none) (ty : TypeId) (x y : Operand) (ho : o.op = .store ty x y) (g i : Nat) (hx : a.eval x = .pointer (some ⟨g, i, none⟩)) (T : TypeId) (cs vs : List Value) (hy : a.eval y = .agg vs.toArray)
    (hA : Hid (Blk w g T cs)) (n : Nat) (hi : (P.info? ty).map (·.size) = some n) (hn : Hid (vs.length = n)) (hl : Hid (i + n ≤ cs.length)) (h1 : Hid (∀ v ∈ vs, v.oneCell' = true))
    (h : ∀ w', Hid (Blk w' g T (cs.take i ++ (vs ++ cs.drop (i + n)))) → Hid (Only g w w') → g < w'.heap.size → wpList P ops Q rest a w') (hd : o.dst = none := by rfl) : wpList P ops Q (o :: rest) a w := by
  have hp : a.put o.dst undef = a := by rw [hd]; rfl
  have hnn := hn.out
  refine wpList_store_mid hgd ty x y ho g i vs.toArray hx hy (there_blk hA.out i _ (by have := hl.out; simp; omega)) (by rw [hi]; simp [hnn]) (all_oneCell_toArray h1.out) ?_
  rw [hp]
  have hb := Blk.setCells vs i w cs hA.out (by have := hl.out; omega)
  rw [hnn] at hb
  have hO := World.setCells_only g vs i w
  refine h _ hb hO ?_
  have := hO.size
  rw [show (w.setCells g i vs.toArray.toList) = w.setCells g i vs from rfl, this]
  exact hA.out.lt
/-- the same as a step of a region that draws its order -/
theorem step_store_midb {K : Act → World → Prop} {E : Prop} (hg : o.guard = none) (ty : TypeId) (x y : Operand) (ho : o.op = .store ty x y) (g i : Nat) (hx : a.eval x = .pointer (some ⟨g, i, none⟩)) (T : TypeId) (cs vs : List Value) (hy : a.eval y = .agg vs.toArray)
    (hA : Hid (Blk w g T cs)) (n : Nat) (hi : (P.info? ty).map (·.size) = some n) (hn : Hid (vs.length = n)) (hl : Hid (i + n ≤ cs.length)) (h1 : Hid (∀ v ∈ vs, v.oneCell' = true))
    (h : ∀ w', Hid (Blk w' g T (cs.take i ++ (vs ++ cs.drop (i + n)))) → Hid (Only g w w') → g < w'.heap.size → K (a.put o.dst undef) w') :
    if Region.wanted o (yielded ops a.tmps) = true then Oper.wp P o a w K Q else E := by
  have hw : Region.wanted o (yielded ops a.tmps) = true := by simp [Region.wanted, hg]
  rw [if_pos hw]
  have hnn := hn.out
  refine wp_store_mid ty x y ho g i vs.toArray hx hy (there_blk hA.out i _ (by have := hl.out; simp; omega)) (by rw [hi]; simp [hnn]) (all_oneCell_toArray h1.out) ?_
  have hb := Blk.setCells vs i w cs hA.out (by have := hl.out; omega)
  rw [hnn] at hb
  have hO := World.setCells_only g vs i w
  refine h _ hb hO ?_
  have := hO.size
  rw [show (w.setCells g i vs.toArray.toList) = w.setCells g i vs from rfl, this]
  exact hA.out.lt
/-- an array out of the midst, as a step of a region that draws its order -/
theorem step_load_midb {K : Act → World → Prop} {E : Prop} (hg : o.guard = none) (ty : TypeId) (x : Operand) (ho : o.op = .load ty x) (g i : Nat) (hx : a.eval x = .pointer (some ⟨g, i, none⟩)) (cs : List Value) (d : TypeDesc) (hc : Hid (w.rangeAt g i cs))
    (hu : P.underlying ty = some d) (hd : d.isRow = true) (n : Nat) (hi : (P.info? ty).map (·.size) = some n) (hn : Hid (cs.length = n)) (h : K (a.put o.dst (.agg cs.toArray)) w) :
    if Region.wanted o (yielded ops a.tmps) = true then Oper.wp P o a w K Q else E := by
  have hw : Region.wanted o (yielded ops a.tmps) = true := by simp [Region.wanted, hg]
  rw [if_pos hw]
  exact wp_load_mid ty x ho g i hx cs d hc.out hu hd (by rw [hi, hn.out]) h
/-- one cell, as a step of a region that draws its order -/
theorem step_store_fld {K : Act → World → Prop} {E : Prop} (hg : o.guard = none) (T : TypeId) (x y : Operand) (ho : o.op = .store T x y) (g i : Nat) (hx : a.eval x = .pointer (some ⟨g, i, none⟩)) (T' : TypeId) (cs : List Value) (u : Value) (hy : a.eval y = u)
    (hA : Hid (Blk w g T' cs)) (hi : Hid (i < cs.length)) (hs : (P.info? T).map (·.size) = some 1) (h1 : u.oneCell' = true)
    (h : ∀ w', Hid (Blk w' g T' (cs.set i u)) → Hid (Only g w w') → g < w'.heap.size → K (a.put o.dst undef) w') :
    if Region.wanted o (yielded ops a.tmps) = true then Oper.wp P o a w K Q else E := by
  have hw : Region.wanted o (yielded ops a.tmps) = true := by simp [Region.wanted, hg]
  rw [if_pos hw]
  unfold Oper.wp execOp
  simp only [ho, hx, hy, Instr.storeAt, Instr.sureAddr, Sem.run_bind, Sem.run_pure, Result.andThen_ok, run_storeVar_fld w g i T' T cs u hA.out hi.out hs h1]
  refine h _ (hA.out.set i u) (only_setCell w g i u) ?_
  have := (only_setCell w g i u).size
  rw [this]
  exact hA.out.lt
end

/-- the whole of a variable out of its block, where the operation's guard is met -/
theorem wpList_load_want {P : Program} {ops : Array Oper} {rest : List Oper} {o : Oper} {a : Act} {w : World} {Q : Exit → Act → World → Prop} (hw : Region.wanted o (yielded ops a.tmps) = true) (T : TypeId) (x : Operand) (ho : o.op = .load T x) (g : Nat) (hx : a.eval x = .pointer (some ⟨g, 0, none⟩)) (T' : TypeId) (cs : List Value)
    (hA : Hid (Blk w g T' cs)) (n : Nat) (d : TypeDesc) (hu : P.underlying T = some d) (hd : (match d with | .struct _ | .array _ _ => true | _ => false) = true) (hi : (P.info? T).map (·.size) = some n) (hn : Hid (cs.length = n))
    (h : wpList P ops Q rest (a.put o.dst (.agg cs.toArray)) w) : wpList P ops Q (o :: rest) a w :=
  wpList_step fun K hK => by
    rw [if_pos hw]
    exact wp_load_row T x ho g hx T' _ (0, 0) d hA.out hu hd (by rw [hi]; have := hn.out; simp [this]) (hK _ _ h)
end Go.Proofs.YtepkamkgodbffaaDoor

/-
  Contracts of the program's layer 2 (utf): loose, folded, Fold, Alike, Ahead; of the library's Compare over runes.
-/
namespace Go.Proofs.YtepkamkgodbffaaDoor
open Go.RowKit

theorem decodeGo_eq (s : ByteArray) : Lib.decodeGo s = if s.size = 0 then (65533, 0) else Lib.decodeL s.data.toList := by
  unfold Lib.decodeGo
  split
  · rfl
  · have := Lib.decodeL_drop s 0
    rw [List.drop_zero] at this
    rw [this]

/-- what folded answers -/
def FoldedPost (w : World) (l : List UInt8) (e : Ending) (w' : World) : Prop :=
  ∃ v, e = .returned v ∧ OwnK .i32 21 w' w.heap.size v (foldedOf l) ∧ Below w.heap.size w w'

theorem get_drop (s : ByteArray) (pos : Nat) (h : pos < s.size) : (s.data.toList.drop pos).getD 0 0 = s[pos]'h := by
  have e : s.data[pos]? = some (s[pos]'h) := Array.getElem?_eq_getElem h
  rw [List.getD_eq_getElem?_getD, List.getElem?_drop, Nat.add_zero, Array.getElem?_toList, e]
  rfl
theorem extract_drop (s : ByteArray) (pos : Nat) : (s.extract pos s.size).data.toList = s.data.toList.drop pos := by
  rw [Lib.extract_eq]
  exact List.take_of_length_le (by rw [List.length_drop, ← Lib.size_eq]; exact Nat.le_refl _)

/-- the head of what is left, as the walk decides it -/
theorem head_at (s : ByteArray) (pos : Nat) (h : pos < s.size) :
    ((Utf8.decode s pos).1 = 65533 ∧ (Utf8.decode s pos).2 = 1 ∧ headOf (s.data.toList.drop pos) = 1114112 + ((s[pos]'h).toNat : Int)) ∨
    (¬ ((Utf8.decode s pos).1 = 65533 ∧ (Utf8.decode s pos).2 = 1) ∧ headOf (s.data.toList.drop pos) = ((Utf8.decode s pos).1 : Int) ∧ IsLetter ((Utf8.decode s pos).1 : Int)) := by
  have hl : s.data.toList.drop pos ≠ [] := by
    intro e
    have := congrArg List.length e
    rw [List.length_drop, ← Lib.size_eq] at this
    simp at this
    omega
  rcases head_shape _ hl with ⟨h0, h1, h2⟩ | ⟨h0, h1, h2, _⟩
  · rw [Lib.decodeL_drop] at h0 h1 h2
    exact .inr ⟨h0, h1, h2⟩
  · rw [Lib.decodeL_drop] at h0 h1
    rw [get_drop s pos h] at h2
    exact .inl ⟨h0, h1, h2⟩

/-! ### Fold -/

def encZ (r : Int) : List Int := if 1114112 ≤ r then [r - 1114112] else Lib.encodeRuneZ r
theorem encZ_le (r : Int) : (encZ r).length ≤ 4 := by
  unfold encZ
  split
  · simp
  · exact (Lib.encodeRuneZ_length r).2
theorem strOf_encZ (rs : List Int) : strOfNums (rs.flatMap encZ) = ⟨(rs.flatMap enc).toArray⟩ := by
  unfold strOfNums
  have e : (rs.flatMap encZ).map (fun n => UInt8.ofNat n.toNat) = rs.flatMap enc := by
    induction rs with
    | nil => rfl
    | cons r rs ih =>
      rw [List.flatMap_cons, List.map_append, ih, List.flatMap_cons]
      congr 1
      unfold encZ enc
      split <;> rfl
  rw [e]

/-- what Fold answers -/
def FoldPost (w : World) (l : List UInt8) (e : Ending) (w' : World) : Prop := e = .returned (.string ⟨(foldB l).toArray⟩) ∧ Below w.heap.size w w'

/-! ### Alike, Ahead -/

theorem mk_inj (a b : List UInt8) : ((⟨a.toArray⟩ : ByteArray) = ⟨b.toArray⟩) ↔ a = b := by
  constructor
  · intro h
    have := congrArg ByteArray.data h
    exact List.toArray_inj this
  · intro h; rw [h]

theorem lexc_step {xs ys : List Int} {k : Nat} (h1 : k < xs.length) (h2 : k < ys.length) :
    lexc (xs.drop k) (ys.drop k) = if cmpI (xs.getD k 0) (ys.getD k 0) = 0 then lexc (xs.drop (k + 1)) (ys.drop (k + 1)) else cmpI (xs.getD k 0) (ys.getD k 0) := by
  rw [List.drop_eq_getElem_cons h1, List.drop_eq_getElem_cons h2]
  simp only [List.getD_eq_getElem?_getD, List.getElem?_eq_getElem h1, List.getElem?_eq_getElem h2, Option.getD_some, lexc]
  unfold cmpI
  repeat' split
  all_goals first | rfl | omega
theorem lexc_long {xs ys : List Int} {k : Nat} (h1 : k < xs.length) (h2 : ¬ k < ys.length) : lexc (xs.drop k) (ys.drop k) = 1 := by
  rw [List.drop_eq_getElem_cons h1, List.drop_of_length_le (l := ys) (by omega)]
  rfl
theorem lexc_short {xs ys : List Int} {k : Nat} (h1 : ¬ k < xs.length) : lexc (xs.drop k) (ys.drop k) = if k < ys.length then -1 else 0 := by
  rw [List.drop_of_length_le (l := xs) (by omega)]
  split
  · rw [List.drop_eq_getElem_cons (l := ys) (by omega)]
    rfl
  · rw [List.drop_of_length_le (l := ys) (by omega)]
    rfl

end Go.Proofs.YtepkamkgodbffaaDoor

/-
  Contracts of the document's answers for layer 2 (refectoryref02): Letter, lead, first, Letters.
-/
namespace Go.Proofs.YtepkamkgodbffaaDoor
open Go.RowKit

def letterB (n : Int) : Bool := decide (0 ≤ n) && decide (n ≤ 1114111) && (decide (n < 55296) || decide (57343 < n))

set_option maxHeartbeats 400000 in
theorem Letter_any (w : World) (n : Int) (_hn : -9223372036854775808 ≤ n ∧ n ≤ 9223372036854775807) :
    Calls Tryd.prog 78 #[.int .i64 n] w fun e w' => e = .returned (.bool (letterB n)) ∧ w = w' := by
  by_cases h1 : 0 ≤ n
  · by_cases h2 : n ≤ 1114111
    · by_cases h3 : n < 55296
      · have e : letterB n = true := by simp [letterB, h1, h2, h3]
        rw [e]
        clear e
        go_enter Tryd.func78, Tryd.ntmps78
        go_wp2
        go_ret
        exact ⟨rfl, rfl⟩
      · by_cases h4 : 57343 < n
        · have e : letterB n = true := by simp [letterB, h1, h2, h4]
          rw [e]
          clear e
          go_enter Tryd.func78, Tryd.ntmps78
          go_wp2
          go_ret
          exact ⟨rfl, rfl⟩
        · have e : letterB n = false := by simp [letterB, h3, h4]
          rw [e]
          clear e
          go_enter Tryd.func78, Tryd.ntmps78
          go_wp2
          go_ret
          exact ⟨rfl, rfl⟩
    · have e : letterB n = false := by simp [letterB, h2]
      rw [e]
      clear e
      go_enter Tryd.func78, Tryd.ntmps78
      go_wp2
      go_ret
      exact ⟨rfl, rfl⟩
  · have e : letterB n = false := by simp [letterB, h1]
    rw [e]
    clear e
    go_enter Tryd.func78, Tryd.ntmps78
    go_wp2
    go_ret
    exact ⟨rfl, rfl⟩

/-- what a first byte says: how many bytes; the number's beginning; the least number -/
def leadN (b : Int) : Nat := if b < 128 then 1 else if b < 192 then 0 else if b < 224 then 2 else if b < 240 then 3 else if b < 248 then 4 else 0
def leadV (b : Int) : Int := if b < 128 then b else if b < 192 then 0 else if b < 224 then b - 192 else if b < 240 then b - 224 else if b < 248 then b - 240 else 0
def leadL (b : Int) : Int := if b < 128 then 0 else if b < 192 then 0 else if b < 224 then 128 else if b < 240 then 2048 else if b < 248 then 65536 else 0

set_option maxHeartbeats 1000000 in
theorem lead_any (w : World) (b : Int) (hb : 0 ≤ b ∧ b ≤ 255) :
    Calls Tryd.prog 89 #[.int .u8 b] w fun e w' => e = .returned (.tuple #[.int .i64 (leadN b), .int .i64 (leadV b), .int .i64 (leadL b)]) ∧ w = w' := by
  obtain ⟨hb0, hb1⟩ := hb
  unfold leadN leadV leadL
  by_cases h1 : b < 128
  · rw [if_pos h1, if_pos h1, if_pos h1]
    go_enter Tryd.func89, Tryd.ntmps89
    go_wp2
    go_ret3
    exact ⟨rfl, rfl⟩
  rw [if_neg h1, if_neg h1, if_neg h1]
  by_cases h2 : b < 192
  · rw [if_pos h2, if_pos h2, if_pos h2]
    go_enter Tryd.func89, Tryd.ntmps89
    go_wp2
    go_ret3
    exact ⟨rfl, rfl⟩
  rw [if_neg h2, if_neg h2, if_neg h2]
  by_cases h3 : b < 224
  · rw [if_pos h3, if_pos h3, if_pos h3]
    go_enter Tryd.func89, Tryd.ntmps89
    go_wp2
    go_ret3
    exact ⟨rfl, rfl⟩
  rw [if_neg h3, if_neg h3, if_neg h3]
  by_cases h4 : b < 240
  · rw [if_pos h4, if_pos h4, if_pos h4]
    go_enter Tryd.func89, Tryd.ntmps89
    go_wp2
    go_ret3
    exact ⟨rfl, rfl⟩
  rw [if_neg h4, if_neg h4, if_neg h4]
  by_cases h5 : b < 248
  · rw [if_pos h5, if_pos h5, if_pos h5]
    go_enter Tryd.func89, Tryd.ntmps89
    go_wp2
    go_ret3
    exact ⟨rfl, rfl⟩
  · rw [if_neg h5, if_neg h5, if_neg h5]
    go_enter Tryd.func89, Tryd.ntmps89
    go_wp2
    go_ret3
    exact ⟨rfl, rfl⟩


def gB (l : List UInt8) (i : Nat) : Int := ((l.getD i 0).toNat : Int)
/-- the number behind k more bytes -/
def valK (l : List UInt8) : Nat → Int
  | 0 => leadV (gB l 0)
  | k + 1 => 64 * valK l k + gB l (k + 1) - 128
def contB (x : Int) : Bool := decide (128 ≤ x) && decide (x < 192)
def contsK (l : List UInt8) : Nat → Bool
  | 0 => true
  | k + 1 => contsK l k && contB (gB l (k + 1))
/-- what first answers -/
def firstOf (l : List UInt8) : Int × Nat :=
  if leadN (gB l 0) = 0 ∨ l.length < leadN (gB l 0) then (0, 0)
  else if contsK l (leadN (gB l 0) - 1) = false then (0, 0)
  else if valK l (leadN (gB l 0) - 1) < leadL (gB l 0) ∨ letterB (valK l (leadN (gB l 0) - 1)) = false then (0, 0)
  else (valK l (leadN (gB l 0) - 1), leadN (gB l 0))
theorem gB_bounds (l : List UInt8) (i : Nat) : 0 ≤ gB l i ∧ gB l i ≤ 255 := by
  have := (l.getD i 0).toNat_lt
  unfold gB
  omega
theorem leadN_le (b : Int) : leadN b ≤ 4 := by
  unfold leadN
  repeat' split
  all_goals omega
theorem leadV_bounds {b : Int} (h : 0 ≤ b ∧ b ≤ 255) : 0 ≤ leadV b ∧ leadV b ≤ 127 := by unfold leadV; repeat' split <;> omega
theorem leadL_bounds (b : Int) : 0 ≤ leadL b ∧ leadL b ≤ 65536 := by unfold leadL; repeat' split <;> omega
theorem contB_iff (x : Int) : contB x = true ↔ 128 ≤ x ∧ x < 192 := by simp [contB]
theorem contsK_mono (l : List UInt8) {k : Nat} (h : contsK l k = false) : ∀ j, k ≤ j → contsK l j = false := by
  intro j hj
  induction j with
  | zero => obtain rfl : k = 0 := by omega
            exact h
  | succ j ih =>
    by_cases e : k = j + 1
    · rw [← e]; exact h
    · rw [contsK, ih (by omega)]; rfl
theorem valK_bounds (l : List UInt8) (k : Nat) (hk : k ≤ 3) (hc : contsK l k = true) : 0 ≤ valK l k ∧ valK l k ≤ 67108864 := by
  have h0 := leadV_bounds (gB_bounds l 0)
  have hcase : k = 0 ∨ k = 1 ∨ k = 2 ∨ k = 3 := by omega
  rcases hcase with rfl | rfl | rfl | rfl
  · simp only [valK]; omega
  · simp only [contsK, Bool.and_eq_true, contB_iff, true_and] at hc
    simp only [valK]; omega
  · simp only [contsK, Bool.and_eq_true, contB_iff, true_and] at hc
    simp only [valK]; omega
  · simp only [contsK, Bool.and_eq_true, contB_iff, true_and] at hc
    simp only [valK]; omega
theorem letterB_iff (n : Int) : letterB n = true ↔ IsLetter n := by
  unfold letterB IsLetter
  simp only [Bool.and_eq_true, Bool.or_eq_true, decide_eq_true_eq]
  omega
theorem letterB_false (n : Int) : letterB n = false ↔ ¬ IsLetter n := by rw [← letterB_iff]; simp

def pick (d : Nat × Nat) : Int × Nat := if d.1 = 65533 ∧ d.2 = 1 then (0, 0) else ((d.1 : Int), d.2)
theorem pick_bad : pick (65533, 1) = (0, 0) := rfl
theorem pick_ok (x w : Nat) (h : ¬ (x = 65533 ∧ w = 1)) : pick (x, w) = ((x : Int), w) := if_neg h
theorem pick_head (l : List UInt8) : (if (Lib.decodeL l).1 = 65533 ∧ (Lib.decodeL l).2 = 1 then ((0 : Int), 0) else (headOf l, (Lib.decodeL l).2)) = pick (Lib.decodeL l) := by
  unfold pick
  by_cases c : (Lib.decodeL l).1 = 65533 ∧ (Lib.decodeL l).2 = 1
  · rw [if_pos c, if_pos c]
  · rw [if_neg c, if_neg c]
    unfold headOf
    rw [if_neg c]

set_option maxRecDepth 100000 in
theorem first_decode (l : List UInt8) (hne : l ≠ []) :
    firstOf l = if (Lib.decodeL l).1 = 65533 ∧ (Lib.decodeL l).2 = 1 then (0, 0) else (headOf l, (Lib.decodeL l).2) := by
  have hl : 0 < l.length := List.length_pos_iff.2 hne
  have k0 := (l.getD 0 0).toNat_lt
  have k1 := (l.getD 1 0).toNat_lt
  have k2 := (l.getD 2 0).toNat_lt
  have k3 := (l.getD 3 0).toNat_lt
  rw [pick_head, Lib.decodeL_N]
  have g0 : gB l 0 = ((l.getD 0 0).toNat : Int) := rfl
  have g1 : gB l 1 = ((l.getD 1 0).toNat : Int) := rfl
  have g2 : gB l 2 = ((l.getD 2 0).toNat : Int) := rfl
  have g3 : gB l 3 = ((l.getD 3 0).toNat : Int) := rfl
  unfold firstOf
  generalize (l.getD 0 0).toNat = b0 at *
  generalize (l.getD 1 0).toNat = b1 at *
  generalize (l.getD 2 0).toNat = b2 at *
  generalize (l.getD 3 0).toNat = b3 at *
  generalize l.length = n at *
  by_cases c1 : b0 < 128
  · have e1 : leadN (gB l 0) = 1 := by rw [g0]; unfold leadN; rw [if_pos (by omega)]
    have e2 : leadL (gB l 0) = 0 := by rw [g0]; unfold leadL; rw [if_pos (by omega)]
    have e3 : valK l 0 = b0 := by rw [valK, g0]; unfold leadV; rw [if_pos (by omega)]
    have e4 : letterB (b0 : Int) = true := by rw [letterB_iff]; exact ⟨by omega, by omega, by omega⟩
    rw [Lib.decodeN_ascii _ _ _ _ _ c1, pick_ok _ _ (by omega), e1, e2, Nat.sub_self, if_neg (by omega), contsK, if_neg (by decide), e3, e4, if_neg (by simp)]
  by_cases c2 : b0 < 192
  · have e1 : leadN (gB l 0) = 0 := by rw [g0]; unfold leadN; rw [if_neg (by omega), if_pos (by omega)]
    have hd : Lib.decodeN n b0 b1 b2 b3 = (65533, 1) := by unfold Lib.decodeN; rw [if_neg c1, if_neg (by omega), if_neg (by omega), if_neg (by omega)]
    rw [hd, pick_bad, if_pos (.inl e1)]
  by_cases c3 : b0 < 224
  · have e1 : leadN (gB l 0) = 2 := by rw [g0]; unfold leadN; rw [if_neg (by omega), if_neg (by omega), if_pos (by omega)]
    have e2 : leadL (gB l 0) = 128 := by rw [g0]; unfold leadL; rw [if_neg (by omega), if_neg (by omega), if_pos (by omega)]
    have e3 : valK l 1 = 64 * (b0 - 192) + b1 - 128 := by rw [valK, valK, g0, g1]; unfold leadV; rw [if_neg (by omega), if_neg (by omega), if_pos (by omega)]
    have e4 : contsK l 1 = contB (gB l 1) := by rw [contsK, contsK, Bool.true_and]
    by_cases d1 : 1 < n ∧ b1 / 64 = 2
    · have f1 : contB (b1 : Int) = true := by rw [contB_iff]; omega
      by_cases d2 : b0 % 32 * 64 + b1 % 64 ≥ 128
      · have hd : Lib.decodeN n b0 b1 b2 b3 = (b0 % 32 * 64 + b1 % 64, 2) := by unfold Lib.decodeN; rw [if_neg c1, if_pos ⟨by omega, d1⟩, if_pos d2]
        have e5 : letterB (64 * ((b0 : Int) - 192) + b1 - 128) = true := by rw [letterB_iff]; exact ⟨by omega, by omega, by omega⟩
        rw [hd, pick_ok _ _ (by omega), e1, e2, show 2 - 1 = 1 from rfl, e3, e4, g1, f1, e5, if_neg (by omega), if_neg (by decide), if_neg (by simp; omega)]
        exact Prod.ext (by dsimp only; omega) rfl
      · have hd : Lib.decodeN n b0 b1 b2 b3 = (65533, 1) := by unfold Lib.decodeN; rw [if_neg c1, if_pos ⟨by omega, d1⟩, if_neg d2]
        rw [hd, pick_bad, e1, e2, show 2 - 1 = 1 from rfl, e3, e4, g1, f1, if_neg (by omega), if_neg (by decide), if_pos (.inl (by omega))]
    · have hd : Lib.decodeN n b0 b1 b2 b3 = (65533, 1) := by unfold Lib.decodeN; rw [if_neg c1, if_neg (fun h => d1 h.2), if_neg (by omega), if_neg (by omega)]
      rw [hd, pick_bad, e1, show 2 - 1 = 1 from rfl, e4, g1]
      by_cases d2 : n < 2
      · rw [if_pos (.inr d2)]
      · have f1 : contB (b1 : Int) = false := by rw [Bool.eq_false_iff, Ne, contB_iff]; omega
        rw [if_neg (by omega), f1, if_pos rfl]
  by_cases c4 : b0 < 240
  · have e1 : leadN (gB l 0) = 3 := by rw [g0]; unfold leadN; rw [if_neg (by omega), if_neg (by omega), if_neg (by omega), if_pos (by omega)]
    have e2 : leadL (gB l 0) = 2048 := by rw [g0]; unfold leadL; rw [if_neg (by omega), if_neg (by omega), if_neg (by omega), if_pos (by omega)]
    have e3 : valK l 2 = 64 * (64 * (b0 - 224) + b1 - 128) + b2 - 128 := by rw [valK, valK, valK, g0, g1, g2]; unfold leadV; rw [if_neg (by omega), if_neg (by omega), if_neg (by omega), if_pos (by omega)]
    have e4 : contsK l 2 = (contB (gB l 1) && contB (gB l 2)) := by rw [contsK, contsK, contsK, Bool.true_and]
    by_cases d1 : (1 < n ∧ b1 / 64 = 2) ∧ (2 < n ∧ b2 / 64 = 2)
    · have f1 : contB (b1 : Int) = true := by rw [contB_iff]; omega
      have f2 : contB (b2 : Int) = true := by rw [contB_iff]; omega
      by_cases d2 : b0 % 16 * 4096 + b1 % 64 * 64 + b2 % 64 ≥ 2048 ∧ (b0 % 16 * 4096 + b1 % 64 * 64 + b2 % 64 < 55296 ∨ (57344 ≤ b0 % 16 * 4096 + b1 % 64 * 64 + b2 % 64 ∧ b0 % 16 * 4096 + b1 % 64 * 64 + b2 % 64 ≤ 1114111))
      · have hd : Lib.decodeN n b0 b1 b2 b3 = (b0 % 16 * 4096 + b1 % 64 * 64 + b2 % 64, 3) := by unfold Lib.decodeN; rw [if_neg c1, if_neg (by omega), if_pos ⟨by omega, d1⟩, if_pos d2]
        have e5 : letterB (64 * (64 * ((b0 : Int) - 224) + b1 - 128) + b2 - 128) = true := by rw [letterB_iff]; exact ⟨by omega, by omega, by omega⟩
        rw [hd, pick_ok _ _ (by omega), e1, e2, show 3 - 1 = 2 from rfl, e3, e4, g1, g2, f1, f2, e5, if_neg (by omega), if_neg (by decide), if_neg (by simp; omega)]
        exact Prod.ext (by dsimp only; omega) rfl
      · have hd : Lib.decodeN n b0 b1 b2 b3 = (65533, 1) := by unfold Lib.decodeN; rw [if_neg c1, if_neg (by omega), if_pos ⟨by omega, d1⟩, if_neg d2]
        rw [hd, pick_bad, e1, e2, show 3 - 1 = 2 from rfl, e3, e4, g1, g2, f1, f2, if_neg (by omega), if_neg (by decide), if_pos]
        rw [letterB_false]
        unfold IsLetter
        omega
    · have hd : Lib.decodeN n b0 b1 b2 b3 = (65533, 1) := by unfold Lib.decodeN; rw [if_neg c1, if_neg (by omega), if_neg (fun h => d1 h.2), if_neg (by omega)]
      rw [hd, pick_bad, e1, show 3 - 1 = 2 from rfl, e4, g1, g2]
      by_cases d2 : n < 3
      · rw [if_pos (.inr d2)]
      · have f1 : (contB (b1 : Int) && contB (b2 : Int)) = false := by rw [Bool.eq_false_iff, Ne, Bool.and_eq_true, contB_iff, contB_iff]; omega
        rw [if_neg (by omega), f1, if_pos rfl]
  by_cases c5 : b0 < 248
  · have e1 : leadN (gB l 0) = 4 := by rw [g0]; unfold leadN; rw [if_neg (by omega), if_neg (by omega), if_neg (by omega), if_neg (by omega), if_pos (by omega)]
    have e2 : leadL (gB l 0) = 65536 := by rw [g0]; unfold leadL; rw [if_neg (by omega), if_neg (by omega), if_neg (by omega), if_neg (by omega), if_pos (by omega)]
    have e3 : valK l 3 = 64 * (64 * (64 * (b0 - 240) + b1 - 128) + b2 - 128) + b3 - 128 := by rw [valK, valK, valK, valK, g0, g1, g2, g3]; unfold leadV; rw [if_neg (by omega), if_neg (by omega), if_neg (by omega), if_neg (by omega), if_pos (by omega)]
    have e4 : contsK l 3 = (contB (gB l 1) && contB (gB l 2) && contB (gB l 3)) := by rw [contsK, contsK, contsK, contsK, Bool.true_and]
    by_cases d1 : (1 < n ∧ b1 / 64 = 2) ∧ (2 < n ∧ b2 / 64 = 2) ∧ (3 < n ∧ b3 / 64 = 2)
    · have f1 : contB (b1 : Int) = true := by rw [contB_iff]; omega
      have f2 : contB (b2 : Int) = true := by rw [contB_iff]; omega
      have f3 : contB (b3 : Int) = true := by rw [contB_iff]; omega
      by_cases d2 : b0 % 8 * 262144 + b1 % 64 * 4096 + b2 % 64 * 64 + b3 % 64 ≥ 65536 ∧ (b0 % 8 * 262144 + b1 % 64 * 4096 + b2 % 64 * 64 + b3 % 64 < 55296 ∨ (57344 ≤ b0 % 8 * 262144 + b1 % 64 * 4096 + b2 % 64 * 64 + b3 % 64 ∧ b0 % 8 * 262144 + b1 % 64 * 4096 + b2 % 64 * 64 + b3 % 64 ≤ 1114111))
      · have hd : Lib.decodeN n b0 b1 b2 b3 = (b0 % 8 * 262144 + b1 % 64 * 4096 + b2 % 64 * 64 + b3 % 64, 4) := by unfold Lib.decodeN; rw [if_neg c1, if_neg (by omega), if_neg (by omega), if_pos ⟨by omega, d1⟩, if_pos d2]
        have e5 : letterB (64 * (64 * (64 * ((b0 : Int) - 240) + b1 - 128) + b2 - 128) + b3 - 128) = true := by rw [letterB_iff]; exact ⟨by omega, by omega, by omega⟩
        rw [hd, pick_ok _ _ (by omega), e1, e2, show 4 - 1 = 3 from rfl, e3, e4, g1, g2, g3, f1, f2, f3, e5, if_neg (by omega), if_neg (by decide), if_neg (by simp; omega)]
        exact Prod.ext (by dsimp only; omega) rfl
      · have hd : Lib.decodeN n b0 b1 b2 b3 = (65533, 1) := by unfold Lib.decodeN; rw [if_neg c1, if_neg (by omega), if_neg (by omega), if_pos ⟨by omega, d1⟩, if_neg d2]
        rw [hd, pick_bad, e1, e2, show 4 - 1 = 3 from rfl, e3, e4, g1, g2, g3, f1, f2, f3, if_neg (by omega), if_neg (by decide), if_pos]
        rw [letterB_false]
        unfold IsLetter
        omega
    · have hd : Lib.decodeN n b0 b1 b2 b3 = (65533, 1) := by unfold Lib.decodeN; rw [if_neg c1, if_neg (by omega), if_neg (by omega), if_neg (fun h => d1 h.2)]
      rw [hd, pick_bad, e1, show 4 - 1 = 3 from rfl, e4, g1, g2, g3]
      by_cases d2 : n < 4
      · rw [if_pos (.inr d2)]
      · have f1 : (contB (b1 : Int) && contB (b2 : Int) && contB (b3 : Int)) = false := by rw [Bool.eq_false_iff, Ne, Bool.and_eq_true, Bool.and_eq_true, contB_iff, contB_iff, contB_iff]; omega
        rw [if_neg (by omega), f1, if_pos rfl]
  · have e1 : leadN (gB l 0) = 0 := by rw [g0]; unfold leadN; rw [if_neg (by omega), if_neg (by omega), if_neg (by omega), if_neg (by omega), if_neg (by omega)]
    have hd : Lib.decodeN n b0 b1 b2 b3 = (65533, 1) := by unfold Lib.decodeN; rw [if_neg c1, if_neg (by omega), if_neg (by omega), if_neg (by omega)]
    rw [hd, pick_bad, if_pos (.inl e1)]

theorem gB_drop (s : ByteArray) (pos i : Nat) (h : pos + i < s.size) : gB (s.data.toList.drop pos) i = ((s[pos + i]'h).toNat : Int) := by
  unfold gB
  have e : s.data[pos + i]? = some (s[pos + i]'h) := Array.getElem?_eq_getElem h
  rw [List.getD_eq_getElem?_getD, List.getElem?_drop, Array.getElem?_toList, e]
  rfl

set_option maxRecDepth 100000 in
set_option maxHeartbeats 2000000 in
theorem first_any (s : ByteArray) (pos : Nat) (w : World) (hp : pos < s.size) (hs : s.size ≤ 4398046511104) :
    Calls Tryd.prog 87 #[.string s, .int .i64 pos] w fun e w' => e = .returned (.tuple #[.int .i64 (firstOf (s.data.toList.drop pos)).1, .int .i64 (firstOf (s.data.toList.drop pos)).2]) ∧ w = w' := by
  obtain ⟨l, hl⟩ : ∃ l, l = s.data.toList.drop pos := ⟨_, rfl⟩
  have hll : l.length = s.size - pos := by rw [hl, List.length_drop, ← Lib.size_eq]
  have hb0 := gB_bounds l 0
  have hg0 : gB (s.data.toList.drop pos) 0 = ((s[pos]'hp).toNat : Int) := gB_drop s pos 0 (by omega)
  have hge : ∀ i, (h : pos + i < s.size) → gB l i = ((s[pos + i]'h).toNat : Int) := fun i h => by rw [hl]; exact gB_drop s pos i h
  have hq : ∀ r : Int × Nat, firstOf l = r → ∀ (e : Ending) (w' : World), (e = .returned (.tuple #[.int .i64 r.1, .int .i64 r.2]) ∧ w = w') → (e = .returned (.tuple #[.int .i64 (firstOf l).1, .int .i64 (firstOf l).2]) ∧ w = w') := fun r hr e w' h => by rw [hr]; exact h
  rw [← hl]
  rw [← hl] at hg0
  have HQ := Lib.hid hq
  have c1 := lead_any w (gB l 0) hb0
  have hN4 := leadN_le (gB l 0)
  have hL := leadL_bounds (gB l 0)
  have hV := leadV_bounds hb0
  have hf : ∀ r, firstOf l = r ↔ firstOf l = r := fun _ => Iff.rfl
  unfold firstOf at hf
  obtain ⟨N, hN⟩ : ∃ N, N = leadN (gB l 0) := ⟨_, rfl⟩
  obtain ⟨M, hM⟩ : ∃ M, M = leadL (gB l 0) := ⟨_, rfl⟩
  obtain ⟨V, hVV⟩ : ∃ V, V = leadV (gB l 0) := ⟨_, rfl⟩
  rw [← hN, ← hM, ← hVV] at c1
  rw [← hN] at hN4
  rw [← hM] at hL
  rw [← hVV] at hV
  rw [hg0] at c1
  obtain ⟨hL0, hL1⟩ := hL
  obtain ⟨hV0, hV1⟩ := hV
  have C1 := Lib.hid c1
  have HN := Lib.hid hN
  have HM := Lib.hid hM
  have HV := Lib.hid hVV
  have HG := Lib.hid hge
  have HLL := Lib.hid hll
  have hf0 : (N = 0 ∨ l.length < N) → firstOf l = (0, 0) := fun h => by unfold firstOf; rw [← HN.out, if_pos h]
  have hf1 : ¬ (N = 0 ∨ l.length < N) → contsK l (N - 1) = false → firstOf l = (0, 0) := fun h h1 => by unfold firstOf; rw [← HN.out, if_neg h, if_pos h1]
  have hf2 : ¬ (N = 0 ∨ l.length < N) → contsK l (N - 1) = true → (valK l (N - 1) < M ∨ letterB (valK l (N - 1)) = false) → firstOf l = (0, 0) := fun h h1 h2 => by unfold firstOf; rw [← HN.out, ← HM.out, if_neg h, if_neg (by rw [h1]; decide), if_pos h2]
  have hf3 : ¬ (N = 0 ∨ l.length < N) → contsK l (N - 1) = true → ¬ (valK l (N - 1) < M ∨ letterB (valK l (N - 1)) = false) → firstOf l = (valK l (N - 1), N) := fun h h1 h2 => by unfold firstOf; rw [← HN.out, ← HM.out, if_neg h, if_neg (by rw [h1]; decide), if_neg h2]
  have HF0 := Lib.hid hf0
  have HF1 := Lib.hid hf1
  have HF2 := Lib.hid hf2
  have HF3 := Lib.hid hf3
  clear hl hb0 hg0 hge hq c1 hf hN hM hVV hll hf0 hf1 hf2 hf3
  by_cases h0 : N = 0
  · have HE := Lib.hid (HF0.out (.inl h0))
    subst h0
    go_enter Tryd.func87, Tryd.ntmps87
    go_wp2_with fail
    refine C1.out.mono ?_
    rintro e w' ⟨rfl, rfl⟩
    go_wp2
    go_ret2
    exact HQ.out _ HE.out _ _ ⟨rfl, rfl⟩
  have h0b : ((N : Int) == 0) = false := by rw [beq_eq_false_iff_ne]; omega
  by_cases hlen : s.size < pos + N
  · have HE := Lib.hid (HF0.out (.inr (by rw [HLL.out]; omega)))
    go_enter Tryd.func87, Tryd.ntmps87
    go_wp2_with fail
    refine C1.out.mono ?_
    rintro e w' ⟨rfl, rfl⟩
    go_wp2
    go_ret2
    exact HQ.out _ HE.out _ _ ⟨rfl, rfl⟩
  have HNN : Hid (¬ (N = 0 ∨ l.length < N)) := by show ¬ _; rw [HLL.out]; omega
  have cL := fun w n h => Lib.hid (Letter_any w n h)
  go_enter Tryd.func87, Tryd.ntmps87
  go_wp2_with fail
  refine C1.out.mono ?_
  rintro e w' ⟨rfl, rfl⟩
  clear C1
  go_wp2
  go_loop [7, 9, 10] (fun n i _ => ∃ k : Nat, i = .int .i64 (k + 1 : Nat) ∧ k + 1 ≤ N ∧ Hid (contsK l k = true) ∧ ∃ z : Int, n = .int .i64 z ∧ Hid (z = valK l k)) (fun _ i _ => N - (intOf i).toNat)
  case atStart => exact ⟨0, rfl, by omega, rfl, V, rfl, HV.out⟩
  case round =>
    obtain ⟨k, rfl, hk, HC, z, rfl, HZ⟩ := hrel
    have hzb := valK_bounds l k (by omega) HC.out
    rw [← HZ.out] at hzb
    obtain ⟨hz0, hz1⟩ := hzb
    by_cases hlt : k + 1 < N
    · have hi : pos + (k + 1) < s.size := by omega
      have hx := HG.out (k + 1) hi
      have hxb := gB_bounds l (k + 1)
      obtain ⟨x, hxx⟩ : ∃ x, x = gB l (k + 1) := ⟨_, rfl⟩
      rw [← hxx] at hx hxb
      have HX := Lib.hid hxx
      have hxv : ((s[pos + (k + 1)]'hi).toNat : Int) = x := hx.symm
      have hmc := fun h => contsK_mono l (k := k + 1) h (N - 1) (by omega)
      have hcs : contsK l (k + 1) = (contsK l k && contB (gB l (k + 1))) := rfl
      rw [HC.out, Bool.true_and, ← HX.out] at hcs
      obtain ⟨hx0, hx1⟩ := hxb
      by_cases hb1 : x < 128
      · have HE := Lib.hid (HF1.out HNN.out (hmc (by rw [hcs]; simp [contB]; omega)))
        clear hxx hmc hcs hx
        go_wp2
        go_ret2
        exact HQ.out _ HE.out _ _ ⟨rfl, rfl⟩
      by_cases hb2 : 192 ≤ x
      · have HE := Lib.hid (HF1.out HNN.out (hmc (by rw [hcs]; simp [contB]; omega)))
        clear hxx hmc hcs hx
        go_wp2
        go_ret2
        exact HQ.out _ HE.out _ _ ⟨rfl, rfl⟩
      · have HC' : Hid (contsK l (k + 1) = true) := by show _ = _; rw [hcs, contB_iff]; omega
        have HZ' : Hid (64 * z + x - 128 = valK l (k + 1)) := by show _ = _; rw [valK, ← HX.out, ← HZ.out]
        clear hxx hmc hcs hx
        go_wp2
        go_round
        case rel => exact ⟨k + 1, by go_num, hlt, HC', _, by go_num, HZ'⟩
        case measure => simp [intOf]; omega
    · obtain rfl : N = k + 1 := by omega
      rw [Nat.add_sub_cancel] at HF1 HF2 HF3
      by_cases hm : z < M
      · have HE := Lib.hid (HF2.out HNN.out HC.out (.inl (by rw [← HZ.out]; exact hm)))
        go_wp2
        go_ret2
        exact HQ.out _ HE.out _ _ ⟨rfl, rfl⟩
      · by_cases hlb : letterB z = true
        · have HE := Lib.hid (HF3.out HNN.out HC.out (by rw [← HZ.out, hlb]; simp; omega))
          have c2 := (cL w z (by omega)).out
          rw [hlb] at c2
          have C2 := Lib.hid c2
          clear c2 cL hlb
          go_wp2_with fail
          refine C2.out.mono ?_
          rintro e w' ⟨rfl, rfl⟩
          go_wp2
          go_ret2
          exact HQ.out _ HE.out _ _ ⟨by rw [HZ.out]; rfl, rfl⟩
        · have hlb' : letterB z = false := by simpa using hlb
          have HE := Lib.hid (HF2.out HNN.out HC.out (.inr (by rw [← HZ.out]; exact hlb')))
          have c2 := (cL w z (by omega)).out
          rw [hlb'] at c2
          have C2 := Lib.hid c2
          clear c2 cL hlb hlb'
          go_wp2_with fail
          refine C2.out.mono ?_
          rintro e w' ⟨rfl, rfl⟩
          go_wp2
          go_ret2
          exact HQ.out _ HE.out _ _ ⟨rfl, rfl⟩
end Go.Proofs.YtepkamkgodbffaaDoor

/-
  Contracts of the document's answers for layer 2 (refectoryref02): Letters, units, bytes, Put, Units, Get.
-/
namespace Go.Proofs.YtepkamkgodbffaaDoor
open Go.RowKit

/-- what Letters answers -/
def LettersPost (w : World) (l : List UInt8) (e : Ending) (w' : World) : Prop :=
  ∃ v, e = .returned (.tuple #[v, .bool (isText l)]) ∧ OwnK .i64 3 w' w.heap.size v (letters l) ∧ Below w.heap.size w w'

set_option maxRecDepth 100000 in
set_option maxHeartbeats 2000000 in
theorem Letters_any (s : ByteArray) (w : World) (hs : s.size ≤ 4398046511104) :
    Calls Tryd.prog 82 #[.string s] w (LettersPost w s.data.toList) := by
  have hq : ∀ b, isText s.data.toList = b → ∀ (e : Ending) (w' : World), (∃ v, e = .returned (.tuple #[v, .bool b]) ∧ OwnK .i64 3 w' w.heap.size v (letters s.data.toList) ∧ Below w.heap.size w w') → LettersPost w s.data.toList e w' := fun b hb e w' h => by
    unfold LettersPost
    rw [hb]
    exact h
  have HQ := Lib.hid hq
  have HS := Lib.hid (Lib.size_eq s)
  clear hq
  go_enter Tryd.func82, Tryd.ntmps82
  go_wp2
  go_loopw [4, 5, 6, 7, 8] (fun v b i _ _ wr => ∃ (pos : Nat) (zs : List Int) (t : Bool), i = .int .i64 pos ∧ b = .bool t ∧ Hid (OwnK .i64 3 wr w.heap.size v zs) ∧ Below w.heap.size w wr ∧ Hid (zs ++ letters (s.data.toList.drop pos) = letters s.data.toList) ∧ Hid ((t && isText (s.data.toList.drop pos)) = isText s.data.toList) ∧ zs.length ≤ pos ∧ pos ≤ s.size) (fun _ _ i _ _ _ => s.size - (intOf i).toNat)
  case atStart =>
    refine ⟨0, [], true, rfl, rfl, OwnK.nil _ _ _ _, Below.refl _ _, ?_, ?_, by simp, by omega⟩
    · show _ = _; rw [List.drop_zero, List.nil_append]
    · show _ = _; rw [List.drop_zero, Bool.true_and]
  case round =>
    obtain ⟨pos, zs, t, rfl, rfl, HO, hb, HE, HT, hzl, hps⟩ := hrel
    have hbs := hb.size
    by_cases hp : pos < s.size
    · have hne : s.data.toList.drop pos ≠ [] := by
        intro e
        have := congrArg List.length e
        rw [List.length_drop, ← HS.out] at this
        simp at this
        omega
      obtain ⟨n1, n2, n3⟩ := next_any s pos hp
      have hfd := first_decode _ hne
      have hts := isText_step _ hne
      rw [Lib.decodeL_drop] at hfd hts
      rw [List.drop_drop] at hts
      have c1 := first_any s pos wr hp hs
      have hh := head_at s pos hp
      obtain ⟨h, hh0⟩ : ∃ h, h = headOf (s.data.toList.drop pos) := ⟨_, rfl⟩
      rw [← hh0] at n1 hfd hts hh
      obtain ⟨Z, hZ⟩ : ∃ Z, Z = (Utf8.decode s pos).2 := ⟨_, rfl⟩
      rw [← hZ] at n1 n2 n3 hfd hts hh
      rcases hh with ⟨h1, h2, h3⟩ | ⟨h1, h2, h3⟩
      · rw [if_pos ⟨h1, h2⟩] at hfd
        rw [hfd] at c1
        have C1 := Lib.hid c1
        subst h2
        have HN : Hid (zs ++ [1114112 + ((s[pos]'hp).toNat : Int)] ++ letters (s.data.toList.drop (pos + 1)) = letters s.data.toList) := by
          show _ = _
          rw [← HE.out, n1, h3]
          simp
        have HT' : Hid ((false && isText (s.data.toList.drop (pos + 1))) = isText s.data.toList) := by
          show _ = _
          rw [← HT.out, hts, h3, decide_eq_false (by omega)]
          simp
        have hbyte : 0 ≤ ((s[pos]'hp).toNat : Int) ∧ ((s[pos]'hp).toNat : Int) ≤ 255 := by have := (s[pos]'hp).toNat_lt; omega
        obtain ⟨hy0, hy1⟩ := hbyte
        clear hne hfd hts c1 hh0 hZ n1 h1 h3 HE HT
        go_wp2_with fail
        refine C1.out.mono ?_
        rintro e w' ⟨rfl, rfl⟩
        go_wp2_with (at_builtin; go_loud (refine wpList_append_lit rfl (.tmp 21) (.tmp 27) .i64 122 3 8 Tryd.underlying122 info_i64 rfl w.heap.size _ zs [1114112 + ((s[pos]'hp).toNat : Int)] _ rfl 1 1 rfl rfl rfl HO.out (by omega) (by omega) hbs ?_; intro v5 w5 ho5 hg5))
        have hb5 := hg5.out.below HO.out hbs
        clear hg5
        go_roundw
        case rel => exact ⟨pos + 1, _, false, by go_num, rfl, ho5, hb.trans hb5, HN, HT', by simp; omega, by omega⟩
        case measure => simp [intOf]; omega
      · rw [if_neg h1] at hfd
        rw [hfd] at c1
        have C1 := Lib.hid c1
        have HN : Hid (zs ++ [h] ++ letters (s.data.toList.drop (pos + Z)) = letters s.data.toList) := by
          show _ = _
          rw [← HE.out, n1]
          simp
        have HT' : Hid ((t && isText (s.data.toList.drop (pos + Z))) = isText s.data.toList) := by
          show _ = _
          have := h3.2.1
          rw [← HT.out, hts, h2, decide_eq_true (by omega), Bool.true_and]
        have hZb : ((Z : Int) == 0) = false := by rw [beq_eq_false_iff_ne]; omega
        have hbd : 0 ≤ h ∧ h ≤ 1114111 := by rw [h2]; exact ⟨h3.1, h3.2.1⟩
        obtain ⟨hy0, hy1⟩ := hbd
        clear hne hfd hts c1 hh0 hZ n1 h1 h2 h3 HE HT
        go_wp2_with fail
        refine C1.out.mono ?_
        rintro e w' ⟨rfl, rfl⟩
        go_wp2_with (at_builtin; go_loud (refine wpList_append_lit rfl (.tmp 31) (.tmp 33) .i64 122 3 8 Tryd.underlying122 info_i64 rfl w.heap.size _ zs [h] _ rfl 1 1 rfl rfl rfl HO.out (by omega) (by omega) hbs ?_; intro v5 w5 ho5 hg5))
        have hb5 := hg5.out.below HO.out hbs
        clear hg5
        go_roundw
        case rel => exact ⟨pos + Z, _, t, by go_num, rfl, ho5, hb.trans hb5, HN, HT', by simp; omega, n3⟩
        case measure => simp [intOf]; omega
    · obtain rfl : pos = s.size := by omega
      have HEE : Hid (zs = letters s.data.toList) := by
        have := HE.out
        rw [next_end s _ hp, List.append_nil] at this
        exact this
      have HTT : Hid (isText s.data.toList = t) := by
        show _ = _
        rw [← HT.out, List.drop_of_length_le (by rw [← HS.out]; omega), isText_nil, Bool.and_true]
      clear HE HT
      go_wp2
      go_ret2
      refine HQ.out t HTT.out _ _ ⟨_, rfl, ?_, hb⟩
      rw [← HEE.out]
      exact HO.out

/-- the units of a letter -/
def unitInts (r : Int) : List Int := if r < 65536 then [r] else [55296 + (r - 65536) / 1024, 56320 + (r - 65536) % 1024]
def twoBytes (u : Int) : List Int := [u % 256, u / 256]
theorem unitBytes_two (r : Int) : unitBytes r = (unitInts r).flatMap twoBytes := by
  unfold unitBytes unitInts twoBytes
  split <;> rfl
theorem unitInts_bounds {r : Int} (h : IsLetter r) : ∀ u ∈ unitInts r, 0 ≤ u ∧ u ≤ 65535 := by
  obtain ⟨h0, h1, _⟩ := h
  intro u hu
  unfold unitInts at hu
  split at hu
  · simp at hu; omega
  · simp at hu; omega
theorem twoBytes_length (us : List Int) : (us.flatMap twoBytes).length = 2 * us.length := by
  induction us with
  | nil => rfl
  | cons a q ih =>
    rw [List.flatMap_cons, List.length_append, ih, List.length_cons]
    show 2 + _ = _
    omega
theorem unitInts_length (r : Int) : (unitInts r).length ≤ 2 := by unfold unitInts; split <;> simp

set_option maxHeartbeats 1000000 in
theorem units_any (w : World) (r : Int) (hr : IsLetter r) :
    Calls Tryd.prog 83 #[.int .i64 r] w fun e w' => ∃ v, e = .returned v ∧ OwnK .i64 3 w' w.heap.size v (unitInts r) ∧ Below w.heap.size w w' := by
  obtain ⟨r0, r1, _⟩ := hr
  unfold unitInts
  by_cases h : r < 65536
  · rw [if_pos h]
    have hO := Lib.hid (OwnK.lit .i64 3 w [r] #[.int .i64 r] 1 rfl rfl (by decide))
    go_enter Tryd.func83, Tryd.ntmps83
    go_wp2
    go_ret
    exact ⟨_, rfl, hO.out, (Below.refl _ _).alloc (Nat.le_refl _) _⟩
  · rw [if_neg h]
    have hO := Lib.hid (OwnK.lit .i64 3 w [55296 + (r - 65536) / 1024, 56320 + (r - 65536) % 1024] #[.int .i64 (55296 + (r - 65536) / 1024), .int .i64 (56320 + (r - 65536) % 1024)] 2 rfl rfl (by decide))
    have q1 : (r - 65536).tdiv 1024 = (r - 65536) / 1024 := Int.tdiv_eq_ediv_of_nonneg (by omega)
    have q2 : (r - 65536).tmod 1024 = (r - 65536) % 1024 := Int.tmod_eq_emod_of_nonneg (by omega)
    go_enter Tryd.func83, Tryd.ntmps83
    go_wp2
    go_ret
    exact ⟨_, rfl, hO.out, (Below.refl _ _).alloc (Nat.le_refl _) _⟩

/-- what the document's Put answers -/
def TRPutPost (w : World) (l : List UInt8) (e : Ending) (w' : World) : Prop :=
  ∃ v, e = .returned (.tuple #[v, .int .i64 (textErr l)]) ∧ OwnK .u8 5 w' w.heap.size v (putOfL l) ∧ Below w.heap.size w w'

set_option maxRecDepth 100000 in
set_option maxHeartbeats 4000000 in
theorem TRPut_any (s : ByteArray) (w : World) (hs : s.size ≤ 4398046511104) :
    Calls Tryd.prog 68 #[.string s] w (TRPutPost w s.data.toList) := by
  have hq : ∀ (e : Ending) (w' : World), (∃ v, e = .returned (.tuple #[v, .int .i64 (textErr s.data.toList)]) ∧ OwnK .u8 5 w' w.heap.size v (putOfL s.data.toList) ∧ Below w.heap.size w w') → TRPutPost w s.data.toList e w' := fun _ _ h => h
  have c1 := Letters_any s w hs
  unfold LettersPost at c1
  by_cases ht : isText s.data.toList = true
  · have e2 : textErr s.data.toList = 0 := if_pos ht
    have e3 : putOfL s.data.toList = putBytes (letters s.data.toList) := if_pos ht
    have hlet := isText_letters ht
    have hlen := letters_le s.data.toList
    rw [← Lib.size_eq] at hlen
    obtain ⟨L, hL⟩ : ∃ L, L = letters s.data.toList := ⟨_, rfl⟩
    rw [e2, e3, ← hL] at hq
    rw [ht, ← hL] at c1
    rw [← hL] at hlet hlen
    have HQ := Lib.hid hq
    have C1 := Lib.hid c1
    have HLE := Lib.hid hlet
    clear e2 e3 hq c1 hL ht hlet
    go_enter Tryd.func68, Tryd.ntmps68
    go_wp2_with fail
    refine C1.out.mono ?_
    rintro e w1 ⟨v1, rfl, ho1, hb1⟩
    have HO1 := Lib.hid ho1
    obtain ⟨A1, n1, m1, rfl, hn1, hnm1, hn63, _, _⟩ := ho1.open
    have HN1 := Lib.hid hn1
    have hn4 : n1 ≤ 4398046511104 := by omega
    clear ho1 hn1 C1 hlen
    go_wp2
    go_loopw [6, 7, 8, 9] (fun v i _ _ wr => ∃ k : Nat, i = .int .i64 k ∧ k ≤ n1 ∧ Hid (OwnK .u8 5 wr w.heap.size v (putBytes (L.take k))) ∧ Hid (OwnK .i64 3 wr w.heap.size (.slice A1 n1 m1) L) ∧ Hid ((putBytes (L.take k)).length ≤ 4 * k) ∧ Below w.heap.size w wr) (fun _ i _ _ _ => n1 - (intOf i).toNat)
    case atStart => exact ⟨0, rfl, Nat.zero_le _, OwnK.nil _ _ _ _, HO1, (by show _ ≤ _; simp [putBytes]), hb1⟩
    case round =>
      obtain ⟨k, rfl, hk, HO, HR, HL4, hb⟩ := hrel
      have hbs := hb.size
      by_cases hlt : k < n1
      · obtain ⟨A3, n3, m3, he3, _, _, _, _, hc3⟩ := HR.out.open
        cases he3
        obtain ⟨g, rfl, _, _, hc⟩ := hc3 (by omega)
        have gc := hc k hlt
        have hrL := HLE.out (L.getD k 0) (by
          have := HN1.out
          rw [List.getD_eq_getElem?_getD, List.getElem?_eq_getElem (by omega)]
          exact List.getElem_mem _)
        have htk : L.take (k + 1) = L.take k ++ [L.getD k 0] := by
          have := HN1.out
          rw [List.take_succ_eq_append_getElem (by omega)]
          simp [List.getD_eq_getElem?_getD, show k < L.length by omega]
        obtain ⟨r, hrr⟩ : ∃ r, r = L.getD k 0 := ⟨_, rfl⟩
        rw [← hrr] at gc hrL htk
        have hfl : putBytes (L.take (k + 1)) = putBytes (L.take k) ++ (unitInts r).flatMap twoBytes := by
          rw [htk, putBytes_append, ← unitBytes_two]
          simp [putBytes]
        have hub := unitInts_bounds hrL
        have hul := unitInts_length r
        have c2 := Lib.hid (units_any wr r hrL)
        obtain ⟨U, hU⟩ : ∃ U, U = unitInts r := ⟨_, rfl⟩
        rw [← hU] at c2 hfl hub hul
        obtain ⟨P, hP⟩ : ∃ P, P = putBytes (L.take k) := ⟨_, rfl⟩
        rw [← hP] at hfl HO HL4
        have HFL := Lib.hid hfl
        have HUB := Lib.hid hub
        have HUL := Lib.hid hul
        clear hc hc3 htk hrr hrL hfl hub hul hU hP
        go_wp2_with fail
        refine c2.out.mono ?_
        rintro e w2 ⟨v2, rfl, ho2, hb2⟩
        have HU2 := Lib.hid (ho2.mono hbs)
        obtain ⟨A2, n2, m2, rfl, hn2, hnm2, hn263, _, _⟩ := ho2.open
        have HN2 := Lib.hid hn2
        have hn22 : n2 ≤ 2 := by have := HUL.out; omega
        have HO2 := Lib.hid (HO.out.below hb2)
        have HR2 := Lib.hid (HR.out.below hb2)
        have hbb : Below w.heap.size w w2 := hb.trans (hb2.mono hbs)
        clear ho2 hn2 c2 hb2
        go_wp2
        go_loopw [6, 9] (fun v i wr => ∃ j : Nat, i = .int .i64 j ∧ j ≤ n2 ∧ Hid (OwnK .u8 5 wr w.heap.size v (P ++ (U.take j).flatMap twoBytes)) ∧ Hid (OwnK .i64 3 wr w.heap.size (.slice (some ⟨g, 0, none⟩) n1 m1) L) ∧ Hid (OwnK .i64 3 wr w.heap.size (.slice A2 n2 m2) U) ∧ Below w.heap.size w wr) (fun _ i _ => n2 - (intOf i).toNat)
        case atStart => exact ⟨0, rfl, Nat.zero_le _, (by show OwnK _ _ _ _ _ _; simpa using HO2.out), HR2, HU2, hbb⟩
        case round =>
          obtain ⟨j, rfl, hj, HO, HR, HU, hb⟩ := hrel
          have hbs := hb.size
          by_cases hlt2 : j < n2
          · obtain ⟨A4, n4, m4, he4, _, _, _, _, hc4⟩ := HU.out.open
            cases he4
            obtain ⟨g2, rfl, _, _, hcc⟩ := hc4 (by omega)
            have gx := hcc j hlt2
            have hxb := HUB.out (U.getD j 0) (by
              have := HN2.out
              rw [List.getD_eq_getElem?_getD, List.getElem?_eq_getElem (by omega)]
              exact List.getElem_mem _)
            have htk2 : U.take (j + 1) = U.take j ++ [U.getD j 0] := by
              have := HN2.out
              rw [List.take_succ_eq_append_getElem (by omega)]
              simp [List.getD_eq_getElem?_getD, show j < U.length by omega]
            obtain ⟨x, hx⟩ : ∃ x, x = U.getD j 0 := ⟨_, rfl⟩
            rw [← hx] at gx hxb htk2
            have HF2 : Hid (P ++ (U.take (j + 1)).flatMap twoBytes = P ++ (U.take j).flatMap twoBytes ++ [x % 256, x / 256]) := by
              show _ = _
              rw [htk2]
              simp [twoBytes]
            have hlen2 : (P ++ (U.take j).flatMap twoBytes).length ≤ 4 * 4398046511104 + 8 := by
              have h1 := HL4.out
              have h2 := twoBytes_length (U.take j)
              have h3 : (U.take j).length ≤ 2 := by have := HUL.out; rw [List.length_take]; omega
              rw [List.length_append]
              omega
            obtain ⟨hx0, hx1⟩ := hxb
            have q1 : x.tmod 256 = x % 256 := Int.tmod_eq_emod_of_nonneg hx0
            have q2 : x.tdiv 256 = x / 256 := Int.tdiv_eq_ediv_of_nonneg hx0
            have q3 : IntKind.u8.wrap (x % 256) = x % 256 := by rw [IntKind.wrap_u8']; omega
            have q4 : IntKind.u8.wrap (x / 256) = x / 256 := by rw [IntKind.wrap_u8']; omega
            have q5 : IntKind.i64.wrap (x / 256) = x / 256 := by rw [IntKind.wrap_i64]; omega
            have q6 : IntKind.i64.wrap (x % 256) = x % 256 := by rw [IntKind.wrap_i64]; omega
            have hj0 : (0 : Int) ≤ (j : Int) := Int.natCast_nonneg _
            have hj1 : (j : Int) < (n2 : Int) := by omega
            clear hx htk2 hcc hc4
            go_wp2
            go_region_law ((refine step_append_lit rfl (.tmp 34) (.tmp 47) .u8 29 5 1 Tryd.underlying29 info_u8 rfl w.heap.size _ _ [x % 256, x / 256] _ rfl 2 2 rfl rfl rfl HO.out (by omega) (by omega) hbs ?_; intro v5 w5 ho5 hg5))
            all_goals
              have hb5 := hg5.out.below HO.out hbs
              have HR5 := Lib.hid (hg5.out.other HO.out HR.out (by decide))
              have HU5 := Lib.hid (hg5.out.other HO.out HU.out (by decide))
              have HO5 : Hid (OwnK .u8 5 w5 w.heap.size v5 (P ++ (U.take (j + 1)).flatMap twoBytes)) := by rw [HF2.out]; exact ho5.out
              clear ho5 hg5 q1 q2 q3 q4 q5 q6
              go_wp2
              go_roundw
              case rel => exact ⟨j + 1, by go_num, hlt2, HO5, HR5, HU5, hb.trans hb5⟩
              case measure => simp [intOf]; omega
          · obtain rfl : j = n2 := by omega
            have HTK : Hid (P ++ (U.take j).flatMap twoBytes = putBytes (L.take (k + 1))) := by
              show _ = _
              rw [HFL.out, List.take_of_length_le (by have := HN2.out; omega)]
            have HLEN : Hid ((putBytes (L.take (k + 1))).length ≤ 4 * (k + 1)) := by
              show _ ≤ _
              have h1 := HL4.out
              have h2 := HUL.out
              rw [HFL.out, List.length_append, twoBytes_length]
              omega
            have ho6 := HO.out
            rw [HTK.out] at ho6
            have HO6 := Lib.hid ho6
            clear HTK HO HU ho6
            go_wp2
            go_roundw
            case rel => exact ⟨k + 1, by go_num, hlt, HO6, HR, HLEN, hb⟩
            case measure => simp [intOf]; omega
      · obtain rfl : k = n1 := by omega
        have HTK : Hid (L.take k = L) := by
          show _ = _
          exact List.take_of_length_le (by have := HN1.out; omega)
        go_wp2
        go_ret2
        refine HQ.out _ _ ⟨_, rfl, ?_, hb⟩
        rw [← HTK.out]
        exact HO.out
  · have ht' : isText s.data.toList = false := by simpa using ht
    have e2 : textErr s.data.toList = 5 := if_neg ht
    have e3 : putOfL s.data.toList = [] := if_neg ht
    rw [e2, e3] at hq
    rw [ht'] at c1
    have HQ := Lib.hid hq
    have C1 := Lib.hid c1
    clear e2 e3 hq c1 ht ht'
    go_enter Tryd.func68, Tryd.ntmps68
    go_wp2_with fail
    refine C1.out.mono ?_
    rintro e w1 ⟨v1, rfl, ho1, hb1⟩
    go_wp2
    go_ret2
    exact HQ.out _ _ ⟨_, rfl, OwnK.nil _ _ _ _, hb1⟩

set_option maxHeartbeats 2000000 in
theorem bytes_any (w : World) (r : Int) (hr : IsLetter r) :
    Calls Tryd.prog 79 #[.int .i64 r] w fun e w' => ∃ v, e = .returned v ∧ OwnK .u8 5 w' w.heap.size v (Lib.encodeRuneZ r) ∧ Below w.heap.size w w' := by
  obtain ⟨r0, r1, r2⟩ := hr
  have p1 : r.tdiv 64 = r / 64 := Int.tdiv_eq_ediv_of_nonneg r0
  have p2 : r.tdiv 4096 = r / 4096 := Int.tdiv_eq_ediv_of_nonneg r0
  have p3 : r.tdiv 262144 = r / 262144 := Int.tdiv_eq_ediv_of_nonneg r0
  have p4 : r.tmod 64 = r % 64 := Int.tmod_eq_emod_of_nonneg r0
  have p5 : (r / 64).tmod 64 = r / 64 % 64 := Int.tmod_eq_emod_of_nonneg (by omega)
  have p6 : (r / 4096).tmod 64 = r / 4096 % 64 := Int.tmod_eq_emod_of_nonneg (by omega)
  by_cases c1 : r < 128
  · rw [Lib.encodeRuneZ_one r0 (by omega)]
    have hO := Lib.hid (OwnK.lit .u8 5 w [r] #[.int .u8 r] 1 rfl rfl (by decide))
    go_enter Tryd.func79, Tryd.ntmps79
    go_wp2
    go_ret
    exact ⟨_, rfl, hO.out, (Below.refl _ _).alloc (Nat.le_refl _) _⟩
  by_cases c2 : r < 2048
  · rw [Lib.encodeRuneZ_two (by omega) (by omega)]
    have hO := Lib.hid (OwnK.lit .u8 5 w [192 + r / 64, 128 + r % 64] #[.int .u8 (192 + r / 64), .int .u8 (128 + r % 64)] 2 rfl rfl (by decide))
    go_enter Tryd.func79, Tryd.ntmps79
    go_wp2
    go_ret
    exact ⟨_, rfl, hO.out, (Below.refl _ _).alloc (Nat.le_refl _) _⟩
  by_cases c3 : r < 65536
  · rw [Lib.encodeRuneZ_three (by omega)]
    have hO := Lib.hid (OwnK.lit .u8 5 w [224 + r / 4096, 128 + r / 64 % 64, 128 + r % 64] #[.int .u8 (224 + r / 4096), .int .u8 (128 + r / 64 % 64), .int .u8 (128 + r % 64)] 3 rfl rfl (by decide))
    go_enter Tryd.func79, Tryd.ntmps79
    go_wp2
    go_ret
    exact ⟨_, rfl, hO.out, (Below.refl _ _).alloc (Nat.le_refl _) _⟩
  · rw [Lib.encodeRuneZ_four (by omega) r1]
    have hO := Lib.hid (OwnK.lit .u8 5 w [240 + r / 262144, 128 + r / 4096 % 64, 128 + r / 64 % 64, 128 + r % 64] #[.int .u8 (240 + r / 262144), .int .u8 (128 + r / 4096 % 64), .int .u8 (128 + r / 64 % 64), .int .u8 (128 + r % 64)] 4 rfl rfl (by decide))
    go_enter Tryd.func79, Tryd.ntmps79
    go_wp2
    go_ret
    exact ⟨_, rfl, hO.out, (Below.refl _ _).alloc (Nat.le_refl _) _⟩
end Go.Proofs.YtepkamkgodbffaaDoor

/-
  Contract of the statements' own 'works' of layer 2: texts that the document tells.
-/
namespace Go.Proofs.YtepkamkgodbffaaDoor
open Go.RowKit

theorem OwnK.holds {w : World} {base : Nat} {v : Value} {xs : List Int} (h : OwnK .u8 5 w base v xs) (hx : Bytes xs) (hn : xs.length ≤ 281474976710656) :
    ∃ A c, v = .slice A xs.length c ∧ Holds w w.heap.size A xs.length c xs := Own.holds (base := base) h hx hn

end Go.Proofs.YtepkamkgodbffaaDoor
