/-
  Rows of numbers that a call has made ('OwnK': of whatever kind; 'OwnZ': with noughts behind them), the laws at make and append over them, what stays of all else ('Grew'), and the place of an iterator over a text. No function of the program is named here.
-/
import Derived.Test.YtgbhnnobbciemaaRow
import Derived.Laws.AppendOwn
import Derived.OwnWalk
import Derived.Lib.OthersKept
import Derived.Laws.BytesArg
namespace Go.Proofs.Ytgbhnnobbciemaa
open Go.RowKit

/-- the slice value v is nil, or heads a row of numbers of kind k (cells of type e) in a block from 'base' on that begins with xs -/
def OwnK (k : IntKind) (e : TypeId) (w : World) (base : Nat) (v : Value) (xs : List Int) : Prop := w.ownsRow base e 1 v xs.length (xs.map (Value.int k))
/-- the same, with noughts behind xs as far as the row goes -/
def OwnZ (k : IntKind) (e : TypeId) (w : World) (base : Nat) (v : Value) (xs : List Int) : Prop :=
  (v = .slice none 0 0 ∧ xs = []) ∨ ∃ g m, v = .slice (some ⟨g, 0, none⟩) xs.length (xs.length + m) ∧ base ≤ g ∧ xs.length + m ≤ maxLen ∧ w.heap[g]? = some (.cells ((xs ++ List.replicate m 0).map (Value.int k)).toArray e (0, 0))
/-- the world has grown, and of what was there nothing but v's own row may have turned -/
def Grew (w w' : World) (v : Value) : Prop := ∃ o, (w.alloc o).grownBy w' v.ownBlock

section
variable {k k' : IntKind} {e e' : TypeId} {w w' : World} {base base' : Nat} {v u : Value} {xs ys : List Int}

theorem OwnK.nil (k : IntKind) (e : TypeId) (w : World) (base : Nat) : OwnK k e w base (.slice none 0 0) [] := World.ownsRow_nil w base e 1
theorem OwnZ.nil (k : IntKind) (e : TypeId) (w : World) (base : Nat) : OwnZ k e w base (.slice none 0 0) [] := .inl ⟨rfl, rfl⟩
theorem OwnZ.own (h : OwnZ k e w base v xs) : OwnK k e w base v xs := by
  rcases h with ⟨rfl, rfl⟩ | ⟨g, m, rfl, hb, hm, hg⟩
  · exact OwnK.nil k e w base
  · exact ⟨by simp, .inr ⟨g, _, _, rfl, hb, hg, by omega, hm, by simp, by simp⟩⟩
theorem OwnK.mono (h : OwnK k e w base v xs) (hb : base' ≤ base) : OwnK k e w base' v xs := by
  refine ⟨h.1, ?_⟩
  rcases h.2 with h0 | ⟨g, cap, cur, rfl, h1, rest⟩
  · exact .inl h0
  · exact .inr ⟨g, cap, cur, rfl, by omega, rest⟩
theorem OwnZ.mono (h : OwnZ k e w base v xs) (hb : base' ≤ base) : OwnZ k e w base' v xs := by
  rcases h with h0 | ⟨g, m, rfl, h1, rest⟩
  · exact .inl h0
  · exact .inr ⟨g, m, rfl, by omega, rest⟩
theorem OwnK.keep (h : OwnK k e w base v xs) (hk : ∀ i cs, v.ownBlock = some i → w.heap[i]? = some (.cells cs e (0, 0)) → w'.heap[i]? = w.heap[i]?) : OwnK k e w' base v xs := by
  refine ⟨h.1, ?_⟩
  rcases h.2 with h0 | ⟨g, cap, cur, rfl, h1, hg, rest⟩
  · exact .inl h0
  · exact .inr ⟨g, cap, cur, rfl, h1, (hk g cur rfl hg).trans hg, rest⟩
theorem OwnZ.keep (h : OwnZ k e w base v xs) (hk : ∀ i cs, v.ownBlock = some i → w.heap[i]? = some (.cells cs e (0, 0)) → w'.heap[i]? = w.heap[i]?) : OwnZ k e w' base v xs := by
  rcases h with h0 | ⟨g, m, rfl, h1, hm, hg⟩
  · exact .inl h0
  · exact .inr ⟨g, m, rfl, h1, hm, (hk g _ rfl hg).trans hg⟩
theorem OwnK.below (h : OwnK k e w base v xs) (hb : Below w.heap.size w w') : OwnK k e w' base v xs := h.keep fun i _ _ hi => hb.block i (Array.getElem?_eq_some_iff.1 hi).1
theorem OwnZ.below (h : OwnZ k e w base v xs) (hb : Below w.heap.size w w') : OwnZ k e w' base v xs := h.keep fun i _ _ hi => hb.block i (Array.getElem?_eq_some_iff.1 hi).1
theorem OwnK.alloc (h : OwnK k e w base v xs) (o : Obj) : OwnK k e (w.alloc o) base v xs := h.keep fun _ _ _ hi => Below.heap_alloc _ _ _ (Array.getElem?_eq_some_iff.1 hi).1
theorem OwnZ.alloc (h : OwnZ k e w base v xs) (o : Obj) : OwnZ k e (w.alloc o) base v xs := h.keep fun _ _ _ hi => Below.heap_alloc _ _ _ (Array.getElem?_eq_some_iff.1 hi).1
theorem OwnK.iterAt (h : OwnK k e w base v xs) {K : Nat} {s : ByteArray} {p : Nat} (hK : w.heap[K]? = some (.stringIter s p)) (p' : Nat) : OwnK k e (w.iterAt K s p') base v xs :=
  h.keep fun _ _ _ hi => Lib.iterAt_other w K _ s p' (fun e => by subst e; rw [hi] at hK; cases hK)
theorem OwnZ.iterAt (h : OwnZ k e w base v xs) {K : Nat} {s : ByteArray} {p : Nat} (hK : w.heap[K]? = some (.stringIter s p)) (p' : Nat) : OwnZ k e (w.iterAt K s p') base v xs :=
  h.keep fun _ _ _ hi => Lib.iterAt_other w K _ s p' (fun e => by subst e; rw [hi] at hK; cases hK)
theorem OwnK.block (h : OwnK k e w base v xs) {i : Nat} (hi : v.ownBlock = some i) : base ≤ i ∧ ∃ cs, w.heap[i]? = some (.cells cs e (0, 0)) := by
  rcases h.2 with ⟨rfl, _⟩ | ⟨g, cap, cur, rfl, h1, hg, rest⟩
  · cases hi
  · simp only [Value.ownBlock, Option.some.injEq] at hi
    subst hi
    exact ⟨h1, cur, hg⟩

/-- what a row of the call's own reads as -/
theorem OwnK.open (h : OwnK k e w base v xs) : ∃ A n c, v = .slice A n c ∧ xs.length = n ∧ n ≤ c ∧ n ≤ 9223372036854775807 ∧ (A = none → c = 0) ∧
    (0 < n → ∃ g, A = some ⟨g, 0, none⟩ ∧ base ≤ g ∧ g < w.heap.size ∧ ∀ i, i < n → w.cell? ⟨g, i, none⟩ = some (.int k (xs.getD i 0))) := by
  rcases h.2 with ⟨rfl, h0⟩ | ⟨g, cap, cur, rfl, hb, hg, hnc, hcm, hcs, htk⟩
  · exact ⟨none, 0, 0, rfl, h0, Nat.le_refl _, by omega, fun _ => rfl, fun h => absurd h (by omega)⟩
  · refine ⟨_, _, _, rfl, rfl, hnc, by unfold maxLen at hcm; omega, fun hA => (by cases hA), fun h0 => ⟨g, rfl, hb, (Array.getElem?_eq_some_iff.1 hg).1, fun i hi => ?_⟩⟩
    rw [cell_of_row w g i cur e (0, 0) hg]
    have e1 : cur[i]? = (cur.toList.take (xs.length * 1))[i]? := by
      rw [List.getElem?_take, if_pos (by omega), Array.getElem?_toList]
    rw [e1, htk]
    simp [hi]

theorem Grew.below (hg : Grew w w' v) (h : OwnK k e w base v xs) (hb : base ≤ w.heap.size) : Below base w w' := by
  obtain ⟨o, hg⟩ := hg
  exact ((Below.refl base w).alloc hb o).grown hg (by simp; omega) fun i hi => (h.block hi).1
theorem Grew.block (hg : Grew w w' v) {i : Nat} {x : Obj} (hi : w.heap[i]? = some x) (hn : v.ownBlock ≠ some i) : w'.heap[i]? = some x := by
  obtain ⟨o, hg⟩ := hg
  have hlt := (Array.getElem?_eq_some_iff.1 hi).1
  rw [hg.block i (by simp; omega) (fun e => hn e.symm), Below.heap_alloc _ _ _ hlt, hi]
theorem Grew.iter (hg : Grew w w' v) (h : OwnK k e w base v xs) {K : Nat} {s : ByteArray} {p : Nat} (hK : w.heap[K]? = some (.stringIter s p)) : w'.heap[K]? = some (.stringIter s p) :=
  hg.block hK fun hi => by
    obtain ⟨_, cs, hcs⟩ := h.block hi
    rw [hcs] at hK
    cases hK
/-- a row of another kind stays -/
theorem Grew.other (hg : Grew w w' v) (h : OwnK k e w base v xs) (h' : OwnK k' e' w base' u ys) (hne : e ≠ e') : OwnK k' e' w' base' u ys :=
  h'.keep fun _ _ _ hi => by
    rw [hg.block hi fun hv => ?_, hi]
    obtain ⟨_, cs', hcs⟩ := h.block hv
    rw [hcs] at hi
    cases hi
    exact hne rfl

/-! ### make and append -/

theorem zeroCells_int (k : IntKind) (n : Nat) : (Builtin.zeroCells (Value.int k 0).cells n) = (List.replicate n (Value.int k 0)).toArray := by
  apply Array.ext
  · simp [Builtin.zeroCells, Value.cells]
  · intro i h1 h2
    simp [Builtin.zeroCells, Value.cells, Nat.mod_one]

/-- make([]T, 0, n) -/
theorem wpList_make_own0 {P : Program} {ops : Array Oper} {rest : List Oper} {o : Oper} {a : Act} {Q : Exit → Act → World → Prop} (hg : o.guard = none) (k : IntKind) (T e : TypeId) (bytes : Nat)
    (ht : P.underlying T = some (.slice e)) (hi : (P.info? e).map (fun i => (i.zero, i.size, i.bytes)) = some (some (.int k 0), 1, bytes))
    (l c : Operand) (hop : o.op = Op.makeSlice T l c) (C : Int) (n : Nat) (hl : a.eval l = .int .i64 0) (hc : a.eval c = .int .i64 C) (hC : C = (n : Int)) (hb : n * bytes ≤ 281474976710656) (hn : n ≤ maxLen)
    (hK : ∀ w', Hid (OwnZ k e w' w.heap.size (.slice (some ⟨w.heap.size, 0, none⟩) 0 n) []) → Below w.heap.size w w' → wpList P ops Q rest (a.put o.dst (.slice (some ⟨w.heap.size, 0, none⟩) 0 n)) w') :
    wpList P ops Q (o :: rest) a w := by
  obtain ⟨i0, hi0, hz0, hz1, hz2⟩ := info_parts hi
  refine wpList_plain hg fun K hK' => ?_
  have h63 : (n : Int) ≤ 9223372036854775807 := by have := hn; rw [show maxLen = 9223372036854775807 from rfl] at this; omega
  have hbb : (i0.bytes : Int) * (n : Int) ≤ 281474976710656 := by
    have h : ((i0.bytes * n : Nat) : Int) ≤ 281474976710656 := by rw [hz2, Nat.mul_comm]; omega
    rwa [Int.natCast_mul] at h
  have hrun := run_make (P := P) w T e i0 (.int k 0) ht hi0 hz0 .i64 .i64 0 n (Int.le_refl _) (by omega) hbb h63
  have hcells : madeCells (Value.int k 0).cells (n * i0.size) = (List.replicate n (Value.int k 0)).toArray := by
    rw [hz1, Nat.mul_one]
    apply Array.toList_inj.1
    rw [show (Value.int k 0).cells = #[Value.int k 0] from rfl, toList_madeCells_one]
  simp only [Int.toNat_zero, Int.toNat_natCast, hcells] at hrun
  subst hC
  unfold Oper.wp
  simp [execOp, hop, hl, hc, hrun, Result.andThen]
  refine hK' _ _ (hK _ ?_ ((Below.refl _ _).alloc (Nat.le_refl _) _))
  exact .inr ⟨w.heap.size, n, by simp, Nat.le_refl _, by simpa using hn, by
    rw [List.nil_append, List.map_replicate]
    exact heap_alloc_new w _⟩

/-- append(l, xs..), the new ones lying in a block of their own that has just been laid, onto a row of the call's own -/
theorem wpList_append_lit {P : Program} {ops : Array Oper} {rest : List Oper} {o : Oper} {a : Act} {Q : Exit → Act → World → Prop} (hgd : o.guard = none) (s x : Operand) (k : IntKind) (T e : TypeId) (bytes : Nat)
    (ht : P.underlying T = some (.slice e)) (hi : (P.info? e).map (fun i => (i.zero, i.size, i.bytes)) = some (some (.int k 0), 1, bytes))
    (ho : o.op = .call { callee := .builtin .append, args := #[s, x], argTypes := #[T, T] })
    (base : Nat) (v : Value) (xs ys : List Int) (cs : Array Value) (hcs : cs = (ys.map (Value.int k)).toArray) (m c : Nat) (hm : ys.length = m) (hs : a.eval s = v) (hx : a.eval x = .slice (some ⟨w.heap.size, 0, none⟩) m c)
    (hown : OwnK k e w base v xs) (hlen : (xs.length + m) * bytes ≤ 140737488355328) (h63 : xs.length + m ≤ 9223372036854775807) (hbase : base ≤ w.heap.size)
    (h : ∀ v' w', Hid (OwnK k e w' base v' (xs ++ ys)) → Hid (Grew w w' v) → wpList P ops Q rest (a.put o.dst v') w') :
    wpList P ops Q (o :: rest) a (w.alloc (.cells cs e)) := by
  obtain ⟨i0, hi0, hz0, hz1, hz2⟩ := info_parts hi
  subst hcs
  have hr : (w.alloc (.cells (ys.map (Value.int k)).toArray e)).heap[w.heap.size]? = some (.cells (ys.map (Value.int k)).toArray e (0, 0)) := heap_alloc_new w _
  refine wpList_append_own _ hgd s x T ho base e i0 (.int k 0) 1 bytes ht hi0 hz0 hz1 hz2 rfl (by omega) v xs.length (xs.map (Value.int k)) hs (OwnK.alloc hown _) ⟨w.heap.size, 0, none⟩ m c (ys.map (Value.int k)) hx (by simp [hm]) ?_
    (by intro v hv; obtain ⟨x, _, rfl⟩ := List.mem_map.1 hv; rfl) (by unfold maxLen; omega) hlen (by simp; omega) ?_
  · intro j y hj
    have e1 : (⟨w.heap.size, 0, none⟩ : Addr).add j = ⟨w.heap.size, j, none⟩ := by
      by_cases hj0 : j = 0
      · subst hj0; simp [Addr.add]
      · simp [Addr.add, hj0]
    rw [e1, cell_of_row _ w.heap.size j _ e (0, 0) hr, ← hj]
    simp
  · intro v' w' hown' hgr _
    refine h v' w' ?_ ⟨_, hgr⟩
    show World.ownsRow _ _ _ _ _ _ _
    rw [List.length_append, List.map_append, hm]
    exact hown'

theorem maxLen_eq : maxLen = 9223372036854775807 := rfl
end

section
variable {k : IntKind} {e : TypeId} {w : World} {base : Nat} {v : Value} {xs ys : List Int}
theorem grew_new (k : IntKind) (e : TypeId) (w : World) (base : Nat) (zs : List Int) (old m : Nat) (hz : zs.length = m) (hb : base ≤ w.heap.size) (hm : m ≤ maxLen) :
    OwnZ k e (w.drew.alloc (.cells ((zs.map (Value.int k)).toArray ++ Builtin.zeroCells (Value.int k 0).cells (grownCap w m old e - m)) e)) base (.slice (some ⟨w.heap.size, 0, none⟩) m (grownCap w m old e)) zs := by
  have hge := grownCap_ge w m old e
  have hle := grownCap_le_maxLen w m old e hm
  refine .inr ⟨w.heap.size, grownCap w m old e - m, by rw [hz, show m + (grownCap w m old e - m) = grownCap w m old e by omega], hb, by omega, ?_⟩
  rw [zeroCells_int, List.map_append, List.map_replicate, ← List.append_toArray]
  exact heap_alloc_new w.drew _

/-- the same append, noughts behind the row before and after -/
theorem wpList_append_litZ {P : Program} {ops : Array Oper} {rest : List Oper} {o : Oper} {a : Act} {Q : Exit → Act → World → Prop} (hgd : o.guard = none) (s x : Operand) (k : IntKind) (T e : TypeId) (bytes : Nat)
    (ht : P.underlying T = some (.slice e)) (hi : (P.info? e).map (fun i => (i.zero, i.size, i.bytes)) = some (some (.int k 0), 1, bytes))
    (ho : o.op = .call { callee := .builtin .append, args := #[s, x], argTypes := #[T, T] })
    (base : Nat) (v : Value) (xs ys : List Int) (cs : Array Value) (hcs : cs = (ys.map (Value.int k)).toArray) (m c : Nat) (hm : ys.length = m) (hm0 : 0 < m) (hs : a.eval s = v) (hx : a.eval x = .slice (some ⟨w.heap.size, 0, none⟩) m c)
    (hown : OwnZ k e w base v xs) (hlen : (xs.length + m) * bytes ≤ 140737488355328) (h63 : xs.length + m ≤ 9223372036854775807) (hbase : base ≤ w.heap.size)
    (h : ∀ v' w', Hid (OwnZ k e w' base v' (xs ++ ys)) → Hid (Grew w w' v) → wpList P ops Q rest (a.put o.dst v') w') :
    wpList P ops Q (o :: rest) a (w.alloc (.cells cs e)) := by
  obtain ⟨i0, hi0, hz0, hz1, hz2⟩ := info_parts hi
  subst hcs
  obtain ⟨w1, hw1⟩ : ∃ w1, w1 = w.alloc (.cells (ys.map (Value.int k)).toArray e) := ⟨_, rfl⟩
  have hr : w1.heap[w.heap.size]? = some (.cells (ys.map (Value.int k)).toArray e (0, 0)) := by rw [hw1]; exact heap_alloc_new w _
  have hnews : ∀ j y, (ys.map (Value.int k))[j]? = some y → w1.cell? ((⟨w.heap.size, 0, none⟩ : Addr).add j) = some y := by
    intro j y hj
    have e1 : (⟨w.heap.size, 0, none⟩ : Addr).add j = ⟨w.heap.size, j, none⟩ := by
      by_cases hj0 : j = 0
      · subst hj0; simp [Addr.add]
      · simp [Addr.add, hj0]
    rw [e1, cell_of_row _ w.heap.size j _ e (0, 0) hr, ← hj]
    simp
  have h1 : ∀ y ∈ ys.map (Value.int k), y.oneCell' = true := by intro v hv; obtain ⟨x, _, rfl⟩ := List.mem_map.1 hv; rfl
  have hsz : w.heap.size < w1.heap.size := (Array.getElem?_eq_some_iff.1 hr).1
  have key : ∀ ty, ∃ v' w', (Builtin.append_ #[T, T] ty #[v, .slice (some ⟨w.heap.size, 0, none⟩) m c]).run P w1 = .ok v' w' ∧ OwnZ k e w' base v' (xs ++ ys) ∧ w1.grownBy w' v.ownBlock := by
    intro ty
    rcases hown with ⟨rfl, rfl⟩ | ⟨g, z, rfl, hb, hz, hg⟩
    · have hrun := run_append_nil (P := P) w1 T ty e i0 (.int k 0) ht hi0 hz0 ⟨w.heap.size, 0, none⟩ m c (ys.map (Value.int k)) (by simp [hm, hz1]) hnews hm0 (by omega) (by rw [hz2]; simp at hlen; omega)
      exact ⟨_, _, hrun, by simpa using grew_new k e w1 base ys 0 m hm (by omega) (by rw [maxLen_eq]; simp at h63; omega), ⟨rfl, rfl, rfl, by simp, fun j hj _ => Below.heap_alloc w1.drew _ j hj⟩⟩
    · have hg1 : w1.heap[g]? = some (.cells ((xs ++ List.replicate z 0).map (Value.int k)).toArray e (0, 0)) := by
        rw [hw1, Below.heap_alloc _ _ _ (Array.getElem?_eq_some_iff.1 hg).1, hg]
      by_cases hroom : xs.length + m ≤ xs.length + z
      · have hrun := run_append_room (P := P) w1 T ty e i0 ht hi0 g xs.length (xs.length + z) _ hg1 ⟨w.heap.size, 0, none⟩ m c (ys.map (Value.int k)) (by simp [hm, hz1]) hnews h1 hroom (by simp [hz1]; omega)
        refine ⟨_, _, hrun, .inr ⟨g, z - m, by simp [hm]; omega, hb, by simp; omega, ?_⟩, ⟨rfl, rfl, rfl, by simp, fun j _ hj => setRow_other w1 g j _ (fun e => hj (by simp [Value.ownBlock, e]))⟩⟩
        rw [setRow_heap w1 g _ _ e _ hg1]
        congr 2
        have e1 : ((xs ++ List.replicate z 0).map (Value.int k)).take (xs.length * i0.size) = xs.map (Value.int k) := by
          rw [hz1, Nat.mul_one, List.map_append, List.take_left' (by simp)]
        have e2 : ((xs ++ List.replicate z 0).map (Value.int k)).drop (xs.length * i0.size + (ys.map (Value.int k)).length) = (List.replicate (z - m) 0).map (Value.int k) := by
          rw [hz1, Nat.mul_one, List.length_map, hm, ← List.drop_drop, List.map_append, List.drop_left' (by simp), ← List.map_drop, List.drop_replicate]
        rw [e1, e2]
        simp
      · have hcells : ∀ j y, (xs.map (Value.int k))[j]? = some y → w1.cell? ((⟨g, 0, none⟩ : Addr).add j) = some y := by
          intro j y hj
          have hjl : j < xs.length := by
            rcases Nat.lt_or_ge j xs.length with h | h
            · exact h
            · rw [List.getElem?_eq_none (by simpa using h)] at hj; cases hj
          have e1 : (⟨g, 0, none⟩ : Addr).add j = ⟨g, j, none⟩ := by
            by_cases hj0 : j = 0
            · subst hj0; simp [Addr.add]
            · simp [Addr.add, hj0]
          rw [e1, cell_of_row _ g j _ e (0, 0) hg1, ← hj]
          simp [hjl, List.getElem?_append]
        have hrun := run_append_grow (P := P) w1 T ty e i0 (.int k 0) ht hi0 hz0 ⟨g, 0, none⟩ xs.length (xs.length + z) (xs.map (Value.int k)) (by simp [hz1]) hcells ⟨w.heap.size, 0, none⟩ m c (ys.map (Value.int k)) (by simp [hm, hz1]) hnews (by omega) (by omega) (growslice_fits (by omega) (by rw [hz2]; exact hlen))
        refine ⟨_, _, hrun, ?_, ⟨rfl, rfl, rfl, by simp, fun j hj _ => Below.heap_alloc w1.drew _ j hj⟩⟩
        have := grew_new k e w1 base (xs ++ ys) (xs.length + z) (xs.length + m) (by simp [hm]) (by omega) (by rw [maxLen_eq]; omega)
        simpa using this
  refine wpList_plain hgd fun K hK' => ?_
  obtain ⟨v', w', hrun, h2, h3⟩ := key o.type
  rw [← hw1]
  unfold Oper.wp execOp
  simp only [ho, resolve, invoke, builtin, Sem.run_bind, Sem.run_pure, Result.andThen_ok, List.map_toArray, List.map_cons, List.map_nil, hs, hx, hrun]
  exact hK' _ _ (h v' w' h2 ⟨_, by rw [← hw1]; exact h3⟩)

/-- the same append as a step of a region that draws its order -/
theorem step_append_lit {P : Program} {ops : Array Oper} {o : Oper} {a : Act} {K : Act → World → Prop} {Q : Exit → Act → World → Prop} {E : Prop} (hgd : o.guard = none) (s x : Operand) (k : IntKind) (T e : TypeId) (bytes : Nat)
    (ht : P.underlying T = some (.slice e)) (hi : (P.info? e).map (fun i => (i.zero, i.size, i.bytes)) = some (some (.int k 0), 1, bytes))
    (ho : o.op = .call { callee := .builtin .append, args := #[s, x], argTypes := #[T, T] })
    (base : Nat) (v : Value) (xs ys : List Int) (cs : Array Value) (hcs : cs = (ys.map (Value.int k)).toArray) (m c : Nat) (hm : ys.length = m) (hs : a.eval s = v) (hx : a.eval x = .slice (some ⟨w.heap.size, 0, none⟩) m c)
    (hown : OwnK k e w base v xs) (hlen : (xs.length + m) * bytes ≤ 140737488355328) (h63 : xs.length + m ≤ 9223372036854775807) (hbase : base ≤ w.heap.size)
    (h : ∀ v' w', Hid (OwnK k e w' base v' (xs ++ ys)) → Hid (Grew w w' v) → K (a.put o.dst v') w') :
    if Region.wanted o (yielded ops a.tmps) = true then Oper.wp P o a (w.alloc (.cells cs e)).drew K Q else E := by
  have hw : Region.wanted o (yielded ops a.tmps) = true := by simp [Region.wanted, hgd]
  rw [if_pos hw]
  obtain ⟨i0, hi0, hz0, hz1, hz2⟩ := info_parts hi
  subst hcs
  have hr : (w.alloc (.cells (ys.map (Value.int k)).toArray e)).drew.heap[w.heap.size]? = some (.cells (ys.map (Value.int k)).toArray e (0, 0)) := heap_alloc_new w _
  refine wp_append_own _ s x T ho base e i0 (.int k 0) 1 bytes ht hi0 hz0 hz1 hz2 rfl (by omega) v xs.length (xs.map (Value.int k)) hs (show OwnK k e (w.alloc _).drew base v xs from (OwnK.alloc hown _).keep fun _ _ _ _ => rfl) ⟨w.heap.size, 0, none⟩ m c (ys.map (Value.int k)) hx (by simp [hm]) ?_
    (by intro v hv; obtain ⟨x, _, rfl⟩ := List.mem_map.1 hv; rfl) (by unfold maxLen; omega) hlen (by show base ≤ (w.alloc _).heap.size; simp; omega) ?_
  · intro j y hj
    have e1 : (⟨w.heap.size, 0, none⟩ : Addr).add j = ⟨w.heap.size, j, none⟩ := by
      by_cases hj0 : j = 0
      · subst hj0; simp [Addr.add]
      · simp [Addr.add, hj0]
    rw [e1, cell_of_row _ w.heap.size j _ e (0, 0) hr, ← hj]
    simp
  · intro v' w' hown' hgr _
    refine h v' w' ?_ ⟨_, ⟨hgr.os, hgr.tape, hgr.output, hgr.size, hgr.block⟩⟩
    show World.ownsRow _ _ _ _ _ _ _
    rw [List.length_append, List.map_append, hm]
    exact hown'

/-- a literal: a block that has just been laid -/
theorem OwnK.lit (k : IntKind) (e : TypeId) (w : World) (xs : List Int) (cs : Array Value) (n : Nat) (hcs : cs = (xs.map (Value.int k)).toArray) (hn : xs.length = n) (hm : n ≤ maxLen) :
    OwnK k e (w.alloc (.cells cs e)) w.heap.size (.slice (some ⟨w.heap.size, 0, none⟩) n n) xs := by
  subst hcs
  subst hn
  exact ⟨by simp, .inr ⟨w.heap.size, _, _, rfl, Nat.le_refl _, heap_alloc_new w _, Nat.le_refl _, hm, by simp, List.take_of_length_le (by simp)⟩⟩

/-- string(b), b a row of bytes of the call's own -/
theorem run_string_own {P : Program} {src e : TypeId} (hs : P.underlying src = some (.slice e)) (he : P.underlying e = some (.int .u8)) (h : OwnK .u8 e w base v xs) :
    ∀ dst, P.underlying dst = some .string → (convert src dst v).run P w = .ok (.string (strOfNums xs)) w := by
  intro dst hd
  obtain ⟨A, n, c, rfl, hl, _, _, hA, hc⟩ := h.open
  by_cases h0 : 0 < n
  · obtain ⟨g, rfl, _, _, hc⟩ := hc h0
    exact run_convert_bytes_arg w src e hs he g 0 n c xs hl (fun i hi => by rw [Nat.zero_add]; exact hc i hi) dst hd
  · obtain rfl : n = 0 := by omega
    obtain rfl : xs = [] := List.eq_nil_of_length_eq_zero hl
    rcases h.2 with ⟨h1, _⟩ | ⟨g, cap, cur, h1, _⟩
    · cases h1
      exact run_convert_bytes_nil w src e hs he 0 0 dst hd
    · cases h1
      exact run_convert_bytes_arg w src e hs he g 0 0 c [] rfl (fun i hi => absurd hi (by omega)) dst hd
end
end Go.Proofs.Ytgbhnnobbciemaa
