/-
  Rows of structs that a call has made, more: an append of one that lies in a block of its own, a store into one field; as steps of a region that draws, too. No function of the program is named here.
-/
import Derived.Test.YtgbhnnobbciemaaRowS
import Derived.Test.YtgbhnnobbciemaaSpare2
namespace Go.Proofs.Ytgbhnnobbciemaa
set_option maxRecDepth 100000
open Go.RowKit
set_option linter.unusedVariables false

section
variable {α : Type} {f : α → List Value} {s : Nat} {w w' : World} {base q n c : Nat} {e : TypeId} {xs : List α} {v : Value} {S : Nat → Prop}
theorem flatMap_set (hs : 0 < s) (hf : ∀ x, (f x).length = s) (u : Value) (y : α) {j : Nat} (hj : j < s) : ∀ (xs : List α) (k : Nat) (x : α), xs[k]? = some x → f y = (f x).set j u → (xs.flatMap f).set (k * s + j) u = (xs.set k y).flatMap f
  | [], _, _, h, _ => by cases h
  | z :: r, 0, x, h, hy => by
    injection h with h
    subst h
    rw [List.flatMap_cons, List.set_cons_zero, List.flatMap_cons, Nat.zero_mul, Nat.zero_add, List.set_append_left _ _ (by rw [hf]; exact hj), hy]
  | z :: r, k + 1, x, h, hy => by
    rw [List.flatMap_cons, List.set_cons_succ, List.flatMap_cons, List.set_append_right _ _ (by rw [hf, Nat.add_mul]; omega), hf, show (k + 1) * s + j - s = k * s + j by rw [Nat.add_mul]; omega, flatMap_set hs hf u y hj r k x h hy]
theorem OwnS.heap (h : OwnS f s e w base (.slice (some ⟨q, 0, none⟩) n c) xs) : base ≤ q ∧ xs.length = n ∧ ∃ cur : Array Value, w.heap[q]? = some (.cells cur e (0, 0)) ∧ n * s ≤ cur.size ∧ cur.toList.take (n * s) = xs.flatMap f ∧ n ≤ c ∧ c ≤ maxLen ∧ cur.size = c * s := by
  rcases h.2 with ⟨h0, _⟩ | ⟨g', cap, cur, hv, hb, hg, hnc, hcm, hcs, htk⟩
  · cases h0
  · simp only [Value.slice.injEq, Option.some.injEq, Addr.mk.injEq, and_true] at hv
    obtain ⟨rfl, hn, rfl⟩ := hv
    exact ⟨hb, hn.symm, cur, hg, by rw [hcs, hn]; exact Nat.mul_le_mul_right s hnc, by rw [hn]; exact htk, by omega, hcm, hcs⟩
theorem OwnS.sparS (h : OwnS f s e w base v xs) (a : Spare S w w') (hg : ∀ i, v.ownBlock = some i → ¬ S i) : OwnS f s e w' base v xs := h.keep fun i _ hi hcs => a.rest i (Array.getElem?_eq_some_iff.1 hcs).1 (hg i hi)
/-- a field of one of them is set -/
theorem OwnS.setFld (hs : 0 < s) (hf : ∀ x, (f x).length = s) (h : OwnS f s e w base (.slice (some ⟨q, 0, none⟩) n c) xs) {k j : Nat} {x y : α} (hk : xs[k]? = some x) (hj : j < s) (u : Value) (hy : f y = (f x).set j u) :
    OwnS f s e (w.setCell ⟨q, k * s + j, none⟩ u) base (.slice (some ⟨q, 0, none⟩) n c) (xs.set k y) := by
  obtain ⟨hb, hn, cur, hg, hns, htk, hnc, hcm, hcs⟩ := h.heap
  have h1 := heap_setCell_same w q (k * s + j) cur e u hg
  have hl : (xs.set k y).length = n := by rw [List.length_set, hn]
  refine ⟨by rw [flatMap_len hf], .inr ⟨q, c, _, by rw [hl], hb, h1, by rw [hl]; exact hnc, hcm, by simp [hcs], ?_⟩⟩
  rw [hl, Array.toList_setIfInBounds, List.take_set, htk, flatMap_set hs hf u y hj xs k x hk hy]
end

section
variable {α : Type} {P : Program} {w : World} {ops : Array Oper} {rest : List Oper} {o : Oper} {a : Act} {Q : Exit → Act → World → Prop} {K : Act → World → Prop} {E : Prop}
/-- append(l, x), the new one in a block of its own that has just been laid -/
theorem wpList_append_litS (f : α → List Value) (s : Nat) (hs0 : 0 < s) (hfl : ∀ y, (f y).length = s) (hf : ∀ y, ∀ u ∈ f y, u.oneCell' = true) (z : Value) (hzc : z.cells.size = s) (T e : TypeId) (bytes : Nat) (hgd : o.guard = none) (l x : Operand)
    (ht : P.underlying T = some (.slice e)) (hi : (P.info? e).map (fun i => (i.zero, i.size, i.bytes)) = some (some z, s, bytes))
    (ho : o.op = .call { callee := .builtin .append, args := #[l, x], argTypes := #[T, T] })
    (base : Nat) (v : Value) (xs : List α) (y : α) (cs : Array Value) (hcs : cs = (f y).toArray) (hs : a.eval l = v) (hx : a.eval x = .slice (some ⟨w.heap.size, 0, none⟩) 1 1)
    (hown : OwnS f s e w base v xs) (hlen : (xs.length + 1) * bytes ≤ 140737488355328) (h63 : xs.length + 1 ≤ 9223372036854775807) (hbase : base ≤ w.heap.size)
    (h : ∀ v' w', Hid (OwnS f s e w' base v' (xs ++ [y])) → Hid (Spare (fun j => v.ownBlock = some j) w w') → wpList P ops Q rest (a.put o.dst v') w') :
    wpList P ops Q (o :: rest) a (w.alloc (.cells cs e)) := by
  obtain ⟨i0, hi0, hz0, hz1, hz2⟩ := info_parts hi
  subst hcs
  have hr : (w.alloc (.cells (f y).toArray e)).heap[w.heap.size]? = some (.cells (f y).toArray e (0, 0)) := heap_alloc_new w _
  refine wpList_append_own _ hgd l x T ho base e i0 z s bytes ht hi0 hz0 hz1 hz2 hzc hs0 v xs.length _ hs (World.ownsRow.alloc hown _) ⟨w.heap.size, 0, none⟩ 1 1 (f y) hx (by rw [hfl, Nat.one_mul]) ?_ (hf y) (by unfold maxLen; omega) hlen (by simp; omega) ?_
  · intro j u hj
    have e1 : (⟨w.heap.size, 0, none⟩ : Addr).add j = ⟨w.heap.size, j, none⟩ := by
      by_cases hj0 : j = 0
      · subst hj0; simp [Addr.add]
      · simp [Addr.add, hj0]
    rw [e1, cell_of_row _ w.heap.size j _ e (0, 0) hr, ← hj]
    simp
  · intro v' w' hown' hgr _
    refine h v' w' ?_ (Spare.of_grew ⟨_, hgr⟩)
    show World.ownsRow _ _ _ _ _ _ _
    rw [List.length_append, List.flatMap_append]
    simpa using hown'

/-- append(l, ys...) as a step of a region that draws, ys lying in a block b: onto a row of values of one cell; where it heads is told -/
theorem step_append_any (f : α → Value) (hf : ∀ y, (f y).oneCell' = true) (z : Value) (hzc : z.cells.size = 1) (T e : TypeId) (bytes : Nat) (hgd : o.guard = none) (l x : Operand)
    (ht : P.underlying T = some (.slice e)) (hi : (P.info? e).map (fun i => (i.zero, i.size, i.bytes)) = some (some z, 1, bytes))
    (ho : o.op = .call { callee := .builtin .append, args := #[l, x], argTypes := #[T, T] })
    (base : Nat) (v : Value) (xs ys : List α) (m c b : Nat) (hm : ys.length = m) (hs : a.eval l = v) (hx : a.eval x = .slice (some ⟨b, 0, none⟩) m c) (hb : w.heap[b]? = some (.cells (ys.map f).toArray e (0, 0)))
    (hown : OwnF f e w base v xs) (hlen : (xs.length + m) * bytes ≤ 140737488355328) (h63 : xs.length + m ≤ 9223372036854775807) (hbase : base ≤ w.heap.size)
    (h : ∀ v' w', Hid (OwnF f e w' base v' (xs ++ ys)) → Hid (Spare (fun j => v.ownBlock = some j) w w') → Hid (Wander w v v') → K (a.put o.dst v') w') :
    if Region.wanted o (yielded ops a.tmps) = true then Oper.wp P o a w K Q else E := by
  have hw : Region.wanted o (yielded ops a.tmps) = true := by simp [Region.wanted, hgd]
  rw [if_pos hw]
  obtain ⟨i0, hi0, hz0, hz1, hz2⟩ := info_parts hi
  obtain ⟨v', w', hrun, ho', hg', hwh⟩ := run_append_whither (P := P) w T o.type e i0 z bytes ht hi0 hz0 hz1 hz2 hzc base v xs.length (xs.map f) hown ⟨b, 0, none⟩ m c (ys.map f) (by simp [hm])
    (fun j y hj => by
      have e1 : (⟨b, 0, none⟩ : Addr).add j = ⟨b, j, none⟩ := by
        by_cases hj0 : j = 0
        · subst hj0; simp [Addr.add]
        · simp [Addr.add, hj0]
      rw [e1, cell_of_row _ b j _ e (0, 0) hb, ← hj]
      simp)
    (by intro v hv; obtain ⟨x, _, rfl⟩ := List.mem_map.1 hv; exact hf x) (by unfold maxLen; omega) hlen hbase
  unfold Oper.wp execOp
  simp only [ho, resolve, invoke, builtin, Sem.run_bind, Sem.run_pure, Result.andThen_ok, List.map_toArray, List.map_cons, List.map_nil, hs, hx, hrun]
  refine h v' w' ?_ (Spare.of_grown hg') (Wander.of_whither hwh)
  show World.ownsRow _ _ _ _ _ _ _
  rw [List.length_append, List.map_append, hm]
  exact ho'

/-- a store into a field of a struct of a row, as a step -/
theorem step_store_rowS (f : α → List Value) (s : Nat) (hs0 : 0 < s) (hfl : ∀ y, (f y).length = s) (hg : o.guard = none) (T : TypeId) (x y : Operand) (ho : o.op = .store T x y) (q k j n c base : Nat) (e : TypeId) (hx : a.eval x = .pointer (some ⟨q, k * s + j, none⟩)) (xs : List α) (x0 y0 : α) (u : Value) (hy : a.eval y = u)
    (hown : OwnS f s e w base (.slice (some ⟨q, 0, none⟩) n c) xs) (hk : xs[k]? = some x0) (hj : j < s) (hset : f y0 = (f x0).set j u) (hsz : (P.info? T).map (·.size) = some 1) (h1 : u.oneCell' = true)
    (h : ∀ w', Hid (OwnS f s e w' base (.slice (some ⟨q, 0, none⟩) n c) (xs.set k y0)) → Hid (Only q w w') → K a w') (hd : o.dst = none := by rfl) :
    if Region.wanted o (yielded ops a.tmps) = true then Oper.wp P o a w K Q else E := by
  have hw : Region.wanted o (yielded ops a.tmps) = true := by simp [Region.wanted, hg]
  rw [if_pos hw]
  obtain ⟨hb, hn, cur, hgg, hns, htk, hnc, hcm, hcs⟩ := hown.heap
  have hB : Blk w q e cur.toList := by
    unfold Blk
    rw [hgg]
  have hkl := (List.getElem?_eq_some_iff.1 hk).1
  have hin : k * s + j < cur.size := by
    have : (k + 1) * s ≤ n * s := Nat.mul_le_mul_right s (by omega)
    rw [Nat.add_mul] at this
    omega
  have hp : a.put o.dst undef = a := by rw [hd]; rfl
  unfold Oper.wp execOp
  simp only [ho, hx, hy, Instr.storeAt, Instr.sureAddr, Sem.run_bind, Sem.run_pure, Result.andThen_ok, run_storeVar_fld w q (k * s + j) e T cur.toList u hB (by simpa using hin) hsz h1]
  show K (a.put o.dst undef) _
  rw [hp]
  exact h _ (hown.setFld hs0 hfl hk hj u hset) (only_setCell w q _ u)
end
end Go.Proofs.Ytgbhnnobbciemaa
