/-
  Rows of values of one cell each, whatever they are ('OwnF f': f lays an element as a value; texts, truth values, numbers): the call's own ('OwnF'), or such as came in ('HoldsF'); the laws at make and append over them; a []string argument opened ('open_texts'). No function of the program is named here.
-/
import Derived.Test.YtgbhnnobbciemaaBox
import Derived.Test.YtgbhnnobbciemaaOpen
import Derived.Deep.Strs
namespace Go.Proofs.Ytgbhnnobbciemaa
open Go.RowKit Go.ChangeShapes Go.WideShapes

/-- the slice value v is nil, or heads a row in a block from 'base' on that begins with the elements xs -/
def OwnF {α : Type} (f : α → Value) (e : TypeId) (w : World) (base : Nat) (v : Value) (xs : List α) : Prop := w.ownsRow base e 1 v xs.length (xs.map f)

/-- the slice value '.slice A n c' holds the elements xs, in memory below block B -/
structure HoldsF {α : Type} (f : α → Value) (w : World) (B : Nat) (A : Option Addr) (n c : Nat) (xs : List α) : Prop where
  len : xs.length = n
  fit : n ≤ c
  bare : A = none → c = 0
  cells : 0 < n → ∃ b off, A = some ⟨b, off, none⟩ ∧ b < B ∧ ∀ i x, xs[i]? = some x → w.cell? ⟨b, off + i, none⟩ = some (f x)

section
variable {α : Type} {f : α → Value} {w w' w2 : World} {B B' base base' b : Nat} {A : Option Addr} {n c : Nat} {xs ys : List α} {e e' T : TypeId} {v v' u : Value}

theorem HoldsF.keep (h : HoldsF f w B A n c xs) (hk : ∀ p : Addr, p.block < B → w'.cell? p = w.cell? p) : HoldsF f w' B A n c xs :=
  ⟨h.len, h.fit, h.bare, fun hn => by
    obtain ⟨b, off, e, hb, hc⟩ := h.cells hn
    exact ⟨b, off, e, hb, fun i x hi => (hk _ hb).trans (hc i x hi)⟩⟩
theorem HoldsF.mono (h : HoldsF f w B A n c xs) (hB : B ≤ B') : HoldsF f w B' A n c xs :=
  ⟨h.len, h.fit, h.bare, fun hn => by
    obtain ⟨b, off, e, hb, hc⟩ := h.cells hn
    exact ⟨b, off, e, by omega, hc⟩⟩
theorem HoldsF.below (h : HoldsF f w B A n c xs) (hb : Below B w w') : HoldsF f w' B A n c xs := h.keep fun _ hp => hb.cell hp
theorem HoldsF.over (h : HoldsF f w w.heap.size A n c xs) (hb : Below w.heap.size w w') : HoldsF f w' w'.heap.size A n c xs := (h.below hb).mono hb.size
theorem HoldsF.head (h : HoldsF f w B A c c xs) (hn : n ≤ c) : HoldsF f w B A n c (xs.take n) :=
  ⟨by have := h.len; simp; omega, hn, h.bare, fun h0 => by
    obtain ⟨b, off, rfl, hb, hc⟩ := h.cells (by omega)
    refine ⟨b, off, rfl, hb, fun i x hi => hc i x ?_⟩
    rw [List.getElem?_take] at hi
    split at hi
    · exact hi
    · cases hi⟩
theorem HoldsF.nil (f : α → Value) (w : World) (B : Nat) : HoldsF f w B none 0 0 [] := ⟨rfl, Nat.le_refl _, fun _ => rfl, fun h => absurd h (by omega)⟩

theorem OwnF.nil (f : α → Value) (e : TypeId) (w : World) (base : Nat) : OwnF f e w base (.slice none 0 0) [] := World.ownsRow_nil w base e 1
theorem OwnF.mono (h : OwnF f e w base v xs) (hb : base' ≤ base) : OwnF f e w base' v xs := by
  refine ⟨h.1, ?_⟩
  rcases h.2 with h0 | ⟨g, cap, cur, rfl, h1, rest⟩
  · exact .inl h0
  · exact .inr ⟨g, cap, cur, rfl, by omega, rest⟩
theorem OwnF.keep (h : OwnF f e w base v xs) (hk : ∀ i cs, v.ownBlock = some i → w.heap[i]? = some (.cells cs e (0, 0)) → w'.heap[i]? = w.heap[i]?) : OwnF f e w' base v xs := by
  refine ⟨h.1, ?_⟩
  rcases h.2 with h0 | ⟨g, cap, cur, rfl, h1, hg, rest⟩
  · exact .inl h0
  · exact .inr ⟨g, cap, cur, rfl, h1, (hk g cur rfl hg).trans hg, rest⟩
theorem OwnF.below (h : OwnF f e w base v xs) (hb : Below w.heap.size w w') : OwnF f e w' base v xs := h.keep fun i _ _ hi => hb.block i (Array.getElem?_eq_some_iff.1 hi).1
theorem OwnF.alloc (h : OwnF f e w base v xs) (o : Obj) : OwnF f e (w.alloc o) base v xs := World.ownsRow.alloc h o
theorem OwnF.iterAt (h : OwnF f e w base v xs) {K : Nat} {s : ByteArray} {p : Nat} (hK : w.heap[K]? = some (.stringIter s p)) (p' : Nat) : OwnF f e (w.iterAt K s p') base v xs :=
  h.keep fun _ _ _ hi => Lib.iterAt_other w K _ s p' (fun e => by subst e; rw [hi] at hK; cases hK)
theorem OwnF.block (h : OwnF f e w base v xs) {i : Nat} (hi : v.ownBlock = some i) : base ≤ i ∧ ∃ cs, w.heap[i]? = some (.cells cs e (0, 0)) := by
  rcases h.2 with ⟨rfl, _⟩ | ⟨g, cap, cur, rfl, h1, hg, rest⟩
  · cases hi
  · simp only [Value.ownBlock, Option.some.injEq] at hi
    subst hi
    exact ⟨h1, cur, hg⟩
theorem OwnF.lt (h : OwnF f e w base v xs) {i : Nat} (hi : v.ownBlock = some i) : i < w.heap.size := (World.ownsRow.lt h i hi).2
/-- what such a row reads as -/
theorem OwnF.open (h : OwnF f e w base v xs) : ∃ A n c, v = .slice A n c ∧ xs.length = n ∧ n ≤ c ∧ n ≤ 9223372036854775807 ∧ (A = none → c = 0) ∧
    (0 < n → ∃ g, A = some ⟨g, 0, none⟩ ∧ base ≤ g ∧ g < w.heap.size ∧ ∀ i x, xs[i]? = some x → w.cell? ⟨g, i, none⟩ = some (f x)) := by
  rcases h.2 with ⟨rfl, h0⟩ | ⟨g, cap, cur, rfl, hb, hg, hnc, hcm, hcs, htk⟩
  · exact ⟨none, 0, 0, rfl, h0, Nat.le_refl _, by omega, fun _ => rfl, fun h => absurd h (by omega)⟩
  · refine ⟨_, _, _, rfl, rfl, hnc, by unfold maxLen at hcm; omega, fun hA => (by cases hA), fun h0 => ⟨g, rfl, hb, (Array.getElem?_eq_some_iff.1 hg).1, fun i x hi => ?_⟩⟩
    have hil : i < xs.length := (List.getElem?_eq_some_iff.1 hi).1
    rw [cell_of_row w g i cur e (0, 0) hg]
    have e1 : cur[i]? = (cur.toList.take (xs.length * 1))[i]? := by
      rw [List.getElem?_take, if_pos (by omega), Array.getElem?_toList]
    rw [e1, htk, List.getElem?_map, hi]
    rfl
theorem OwnF.holds (h : OwnF f e w base v xs) : ∃ A n c, v = .slice A n c ∧ HoldsF f w w.heap.size A n c xs := by
  obtain ⟨A, n, c, rfl, hl, hf, _, hA, hc⟩ := h.open
  refine ⟨A, n, c, rfl, hl, hf, hA, fun h0 => ?_⟩
  obtain ⟨g, rfl, _, hg, hcc⟩ := hc h0
  exact ⟨g, 0, rfl, hg, fun i x hi => by rw [Nat.zero_add]; exact hcc i x hi⟩
theorem OwnF.oneCell (h : OwnF f e w base v xs) : v.oneCell' = true := by
  obtain ⟨A, n, c, rfl, _⟩ := h.open
  rfl
theorem OwnF.cut0 (h : OwnF f e w base (.slice A n c) xs) : OwnF f e w base (.slice A 0 c) [] := by
  refine ⟨rfl, ?_⟩
  rcases h.2 with ⟨h1, _⟩ | ⟨g, cap, cur, h1, hb, hg, hnc, hcm, hcs, htk⟩
  · cases h1
    exact .inl ⟨rfl, rfl⟩
  · cases h1
    exact .inr ⟨g, c, cur, rfl, hb, hg, Nat.zero_le _, hcm, hcs, by simp⟩
theorem OwnF.only (h : OwnF f e w base v xs) (hO : Only b w w') (hB : Box w b T u) (hT : T ≠ e) : OwnF f e w' base v xs :=
  h.keep fun i cs _ hcs => hO.rest i fun he => by
    subst he
    unfold Box at hB
    rw [hB] at hcs
    simp only [Option.some.injEq, Obj.cells.injEq] at hcs
    exact hT hcs.2.1

theorem Grew.belowF (hg : Grew w w' v) (h : OwnF f e w base v xs) (hb : base ≤ w.heap.size) : Below base w w' := by
  obtain ⟨o, hg⟩ := hg
  exact ((Below.refl base w).alloc hb o).grown hg (by simp; omega) fun i hi => (h.block hi).1
theorem Grew.iterF (hg : Grew w w' v) (h : OwnF f e w base v xs) {K : Nat} {s : ByteArray} {p : Nat} (hK : w.heap[K]? = some (.stringIter s p)) : w'.heap[K]? = some (.stringIter s p) :=
  hg.block hK fun hi => by
    obtain ⟨_, cs, hcs⟩ := h.block hi
    rw [hcs] at hK
    cases hK
/-- a row in a block of its own stays while another one grows -/
theorem Grew.apartF (hg : Grew w w' v) (h' : OwnF f e w base u ys) (ha : Apart v u) : OwnF f e w' base u ys :=
  h'.keep fun i cs hi hcs => by rw [hg.block hcs fun hv => ha i hv hi, hcs]
theorem Apart.whitherF (ha : Apart v u) (hw : Whither w v v') (hu : OwnF f e w base u ys) : Apart v' u := fun i hi hui => by
  rcases hw with h | ⟨g, hg, hge⟩
  · exact ha i (h ▸ hi) hui
  · rw [hg] at hi
    injection hi with hi
    subst hi
    have := hu.lt hui
    omega
end

section
variable {α : Type} {f : α → Value} {P : Program} {w : World} {ops : Array Oper} {rest : List Oper} {o : Oper} {a : Act} {Q : Exit → Act → World → Prop}

/-- make([]T, 0, n) -/
theorem wpList_make_ownF (hg : o.guard = none) (f : α → Value) (z : Value) (hz : z.cells = #[z]) (T e : TypeId) (bytes : Nat)
    (ht : P.underlying T = some (.slice e)) (hi : (P.info? e).map (fun i => (i.zero, i.size, i.bytes)) = some (some z, 1, bytes))
    (l c : Operand) (hop : o.op = Op.makeSlice T l c) (C : Int) (n : Nat) (hl : a.eval l = .int .i64 0) (hc : a.eval c = .int .i64 C) (hC : C = (n : Int)) (hb : n * bytes ≤ 281474976710656) (hn : n ≤ maxLen)
    (hK : ∀ w', Hid (OwnF f e w' w.heap.size (.slice (some ⟨w.heap.size, 0, none⟩) 0 n) []) → Below w.heap.size w w' → wpList P ops Q rest (a.put o.dst (.slice (some ⟨w.heap.size, 0, none⟩) 0 n)) w') :
    wpList P ops Q (o :: rest) a w := by
  obtain ⟨i0, hi0, hz0, hz1, hz2⟩ := info_parts hi
  refine wpList_plain hg fun K hK' => ?_
  have h63 : (n : Int) ≤ 9223372036854775807 := by have := hn; rw [show maxLen = 9223372036854775807 from rfl] at this; omega
  have hbb : (i0.bytes : Int) * (n : Int) ≤ 281474976710656 := by
    have h : ((i0.bytes * n : Nat) : Int) ≤ 281474976710656 := by rw [hz2, Nat.mul_comm]; omega
    rwa [Int.natCast_mul] at h
  have hrun := run_make (P := P) w T e i0 z ht hi0 hz0 .i64 .i64 0 n (Int.le_refl _) (by omega) hbb h63
  have hcells : madeCells z.cells (n * i0.size) = (List.replicate n z).toArray := by
    rw [hz1, Nat.mul_one]
    apply Array.toList_inj.1
    rw [hz, toList_madeCells_one]
  simp only [Int.toNat_zero, Int.toNat_natCast, hcells] at hrun
  subst hC
  unfold Oper.wp
  simp [execOp, hop, hl, hc, hrun, Result.andThen]
  refine hK' _ _ (hK _ ?_ ((Below.refl _ _).alloc (Nat.le_refl _) _))
  exact World.ownsRow_made w _ n (Nat.le_refl _) hn (by simp)

/-- append(l, xs..), the new ones lying in a block of their own that has just been laid, onto a row of the call's own; where the new slice heads is told -/
theorem wpList_append_litF (hgd : o.guard = none) (s x : Operand) (f : α → Value) (hf : ∀ y, (f y).oneCell' = true) (z : Value) (hzc : z.cells.size = 1) (T e : TypeId) (bytes : Nat)
    (ht : P.underlying T = some (.slice e)) (hi : (P.info? e).map (fun i => (i.zero, i.size, i.bytes)) = some (some z, 1, bytes))
    (ho : o.op = .call { callee := .builtin .append, args := #[s, x], argTypes := #[T, T] })
    (base : Nat) (v : Value) (xs ys : List α) (cs : Array Value) (hcs : cs = (ys.map f).toArray) (m c : Nat) (hm : ys.length = m) (hs : a.eval s = v) (hx : a.eval x = .slice (some ⟨w.heap.size, 0, none⟩) m c)
    (hown : OwnF f e w base v xs) (hlen : (xs.length + m) * bytes ≤ 140737488355328) (h63 : xs.length + m ≤ 9223372036854775807) (hbase : base ≤ w.heap.size)
    (h : ∀ v' w', Hid (OwnF f e w' base v' (xs ++ ys)) → Hid (Grew w w' v) → Hid (Whither w v v') → wpList P ops Q rest (a.put o.dst v') w') :
    wpList P ops Q (o :: rest) a (w.alloc (.cells cs e)) := by
  obtain ⟨i0, hi0, hz0, hz1, hz2⟩ := info_parts hi
  subst hcs
  have hr : (w.alloc (.cells (ys.map f).toArray e)).heap[w.heap.size]? = some (.cells (ys.map f).toArray e (0, 0)) := heap_alloc_new w _
  obtain ⟨v', w', hrun, ho', hg', hwh⟩ := run_append_whither (P := P) (w.alloc (.cells (ys.map f).toArray e)) T o.type e i0 z bytes ht hi0 hz0 hz1 hz2 hzc base v xs.length (xs.map f) (OwnF.alloc hown _) ⟨w.heap.size, 0, none⟩ m c (ys.map f) (by simp [hm])
    (fun j y hj => by
      have e1 : (⟨w.heap.size, 0, none⟩ : Addr).add j = ⟨w.heap.size, j, none⟩ := by
        by_cases hj0 : j = 0
        · subst hj0; simp [Addr.add]
        · simp [Addr.add, hj0]
      rw [e1, cell_of_row _ w.heap.size j _ e (0, 0) hr, ← hj]
      simp)
    (by intro v hv; obtain ⟨x, _, rfl⟩ := List.mem_map.1 hv; exact hf x) (by unfold maxLen; omega) hlen (by simp; omega)
  refine wpList_plain hgd fun K hK => ?_
  unfold Oper.wp execOp
  simp only [ho, resolve, invoke, builtin, Sem.run_bind, Sem.run_pure, Result.andThen_ok, List.map_toArray, List.map_cons, List.map_nil, hs, hx, hrun]
  refine hK _ _ (h v' w' ?_ ⟨_, hg'⟩ ?_)
  · show World.ownsRow _ _ _ _ _ _ _
    rw [List.length_append, List.map_append, hm]
    exact ho'
  · rcases hwh with h1 | ⟨g, h1, h2⟩
    · exact .inl h1
    · exact .inr ⟨g, h1, by simp at h2; omega⟩
end

/-! ### a []string that came in -/

section
variable {H : Type} {enc : TypeId × Value → H} {P : Program} {W : World} {base : Nat} {t e : TypeId} {v : Value} {d : DataW H} {p : List MemPlace}

def sumSize (Z : List ByteArray) : Nat := (Z.map fun s => s.size + 1).sum
theorem sumSize_mem {Z : List ByteArray} {s : ByteArray} (h : s ∈ Z) : s.size + 1 ≤ sumSize Z := by
  induction Z with
  | nil => cases h
  | cons x Z ih =>
    unfold sumSize at ih ⊢
    rw [List.map_cons, List.sum_cons]
    rcases List.mem_cons.1 h with rfl | h
    · omega
    · have := ih h; omega
theorem sumSize_len (Z : List ByteArray) : Z.length ≤ sumSize Z := by
  induction Z with
  | nil => exact Nat.zero_le _
  | cons x Z ih =>
    unfold sumSize at ih ⊢
    rw [List.map_cons, List.sum_cons, List.length_cons]
    omega
theorem bulk_texts (Z : List ByteArray) : Rows.uptoBulkAll (Z.map fun s => (DataW.lit (.string s.data.toList) : DataW H)) = sumSize Z := by
  induction Z with
  | nil => simp [Rows.uptoBulkAll, sumSize]
  | cons x Z ih =>
    have e1 : x.data.toList.length = x.size := by rw [Array.length_toList]; rfl
    rw [List.map_cons]
    simp only [Rows.uptoBulkAll, Rows.uptoBulk, ih, e1]
    unfold sumSize
    rw [List.map_cons, List.sum_cons]
theorem bulk_append (l r : List (DataW H)) : Rows.uptoBulkAll (l ++ r) = Rows.uptoBulkAll l + Rows.uptoBulkAll r := by
  induction l with
  | nil => simp [Rows.uptoBulkAll]
  | cons x l ih => simp only [List.cons_append, Rows.uptoBulkAll, ih]; omega

theorem open_texts (ht : P.underlying t = some (.slice e)) (he : P.underlying e = some .string) (hc : P.cellsOf e = 1) (hv : Value.okWide P W .any base t v)
    (hk : DataW.Trod enc P W 0 (fun _ => true) true t v d p) (hp : ∀ x ∈ p, x.block < W.heap.size) :
    ∃ A n c Z, v = .slice A n c ∧ n ≤ c ∧ sumSize Z < Rows.uptoBulk d ∧ HoldsF Value.string W W.heap.size A c c Z := by
  obtain ⟨A, n, c, rfl⟩ := okWide_slice ht hv
  obtain ⟨fuel, hf⟩ := hk
  rcases Go.Deep.open_strs ht he hc hf with ⟨hcs, hx⟩ | ⟨x, l, cp, m, Sx, hcs, _, hl, hm, hmm, hx, hcell⟩
  · simp [Value.cells] at hcs
    obtain ⟨rfl, rfl, rfl⟩ := hcs
    exact ⟨none, 0, 0, [], rfl, Nat.le_refl _, bulk_one_le _, HoldsF.nil _ _ _⟩
  · simp [Value.cells] at hcs
    obtain ⟨rfl, rfl, rfl⟩ := hcs
    simp only [Prod.mk.injEq] at hx
    obtain ⟨rfl, rfl⟩ := hx
    simp only [if_true] at hmm
    subst hmm
    refine ⟨some x, n, m, (List.range m).map Sx, rfl, hl, ?_, by simp, Nat.le_refl _, (fun hA => by cases hA), fun h0 => ?_⟩
    · have e1 : Rows.uptoBulkAll ((List.range n).map fun i => (DataW.lit (.string (Sx i).data.toList) : DataW H)) + Rows.uptoBulkAll ((List.range (m - n)).map fun j => (DataW.lit (.string (Sx (n + j)).data.toList) : DataW H)) = sumSize ((List.range m).map Sx) := by
        rw [← bulk_append, ← bulk_texts (H := H)]
        congr 1
        rw [List.map_map]
        have : List.range m = List.range n ++ (List.range (m - n)).map (n + ·) := by
          rw [← List.range_add, show n + (m - n) = m by omega]
        rw [this, List.map_append, List.map_map]
        rfl
      simp only [Rows.uptoBulk]
      omega
    · obtain ⟨b, off, spot⟩ := x
      have h1 := (hcell 0 (by omega)).1
      have hspot : spot = none := by simpa [Addr.add] using World.cell?_spot h1
      subst hspot
      refine ⟨b, off, rfl, ?_, fun i s hi => ?_⟩
      · have := World.block_lt_of_cell? W _ h1
        simpa [Addr.add] using this
      · rw [List.getElem?_map] at hi
        have him : i < m := by
          rcases Nat.lt_or_ge i m with h | h
          · exact h
          · rw [List.getElem?_eq_none (by simpa using h)] at hi; cases hi
        rw [List.getElem?_range him] at hi
        injection hi with hi
        subst hi
        have h2 := (hcell i him).1
        have e : (⟨b, off, none⟩ : Addr).add i = ⟨b, off + i, none⟩ := by
          by_cases hj0 : i = 0
          · subst hj0; simp [Addr.add]
          · simp [Addr.add, hj0]
        rwa [e] at h2
end
end Go.Proofs.Ytgbhnnobbciemaa
