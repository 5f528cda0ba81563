/-
  Rows of values of one cell each, more laws: an append of a row that came in onto a row of the call's own; a store into such a row. No function of the program is named here.
-/
import Derived.Test.YtgbhnnobbciemaaOwnF
import Derived.Laws.AppendOwnNone
import Derived.SizedLaws
namespace Go.Proofs.Ytgbhnnobbciemaa
open Go.RowKit

section
variable {α : Type} {f : α → Value} {P : Program} {w : World} {ops : Array Oper} {rest : List Oper} {o : Oper} {a : Act} {Q : Exit → Act → World → Prop}

/-- append(out, src...), out the call's own, src whatever holds such elements -/
theorem wpList_append_holdF (hgd : o.guard = none) (s x : Operand) (f : α → Value) (hf : ∀ y, (f y).oneCell' = true) (z : Value) (hzc : z.cells.size = 1) (T e : TypeId) (bytes : Nat)
    (ht : P.underlying T = some (.slice e)) (hi : (P.info? e).map (fun i => (i.zero, i.size, i.bytes)) = some (some z, 1, bytes))
    (ho : o.op = .call { callee := .builtin .append, args := #[s, x], argTypes := #[T, T] })
    (base : Nat) (v : Value) (xs : List α) (hs : a.eval s = v) (hown : OwnF f e w base v xs) (B : Nat) (A : Option Addr) (m c : Nat) (ys : List α) (hx : a.eval x = .slice A m c)
    (hr : HoldsF f w B A m c ys) (hlen : (xs.length + ys.length) * bytes ≤ 140737488355328) (h63 : xs.length + ys.length ≤ 9223372036854775807) (hbase : base ≤ w.heap.size)
    (h : ∀ v' w', Hid (OwnF f e w' base v' (xs ++ ys)) → Hid (Below base w w') → wpList P ops Q rest (a.put o.dst v') w') :
    wpList P ops Q (o :: rest) a w := by
  obtain ⟨i0, hi0, hz0, hz1, hz2⟩ := info_parts hi
  have hl := hr.len
  rcases A with _ | ad
  · have hc := hr.bare rfl
    have hft := hr.fit
    have hm : m = 0 := by omega
    subst hm
    subst hc
    have : ys = [] := List.eq_nil_of_length_eq_zero hl
    subst this
    refine wpList_append_own_none hgd s x T ho base e i0 1 ht hi0 v xs.length _ hs hown hx ?_
    exact h v w (by rw [List.append_nil]; exact hown) (Below.refl _ _)
  · refine wpList_append_own w hgd s x T ho base e i0 z 1 bytes ht hi0 hz0 hz1 hz2 hzc (by omega) v xs.length _ hs hown ad m c (ys.map f) hx (by simp [hl]) ?_
      (by intro v hv; obtain ⟨x, _, rfl⟩ := List.mem_map.1 hv; exact hf x) (by unfold maxLen; omega) (by rw [← hl]; exact hlen) hbase ?_
    · intro j u hj
      have hjl : j < ys.length := by
        by_cases hj' : j < ys.length
        · exact hj'
        · rw [List.getElem?_eq_none (by simp; omega)] at hj
          cases hj
      obtain ⟨b, off, he, _, hcl⟩ := hr.cells (by omega)
      injection he with he
      subst he
      have e : (⟨b, off, none⟩ : Addr).add j = ⟨b, off + j, none⟩ := by
        by_cases hj0 : j = 0
        · subst hj0; simp [Addr.add]
        · simp [Addr.add, hj0]
      rw [e, hcl j ys[j] (List.getElem?_eq_getElem hjl), ← hj]
      simp [hjl]
    · intro v' w' hown' hgr _
      refine h v' w' ?_ ((Below.refl _ _).grown hgr hbase (fun k hk => (World.ownsRow.lt hown k hk).1))
      show World.ownsRow _ _ _ _ _ _ _
      rw [List.length_append, List.map_append, hl]
      exact hown'
end

section
variable {α : Type} {f : α → Value} {e : TypeId} {w : World} {base g n c : Nat} {xs : List α}
theorem OwnF.heap (h : OwnF f e w base (.slice (some ⟨g, 0, none⟩) n c) xs) : base ≤ g ∧ xs.length = n ∧ ∃ cur : Array Value, w.heap[g]? = some (.cells cur e (0, 0)) ∧ n ≤ cur.size ∧ cur.toList.take n = xs.map f ∧ n ≤ c ∧ c ≤ maxLen ∧ cur.size = c := by
  rcases h.2 with ⟨h0, _⟩ | ⟨g', cap, cur, hv, hb, hg, hnc, hcm, hcs, htk⟩
  · cases h0
  · simp only [Value.slice.injEq, Option.some.injEq, Addr.mk.injEq, and_true] at hv
    obtain ⟨rfl, hn, rfl⟩ := hv
    rw [Nat.mul_one] at htk hcs
    exact ⟨hb, hn.symm, cur, hg, by omega, by rw [hn]; exact htk, by omega, hcm, hcs⟩
theorem OwnF.set (h : OwnF f e w base (.slice (some ⟨g, 0, none⟩) n c) xs) (i : Nat) (u : α) : OwnF f e (w.setCell ⟨g, i, none⟩ (f u)) base (.slice (some ⟨g, 0, none⟩) n c) (xs.set i u) := by
  obtain ⟨hb, hn, cur, hg, hns, htk, hnc, hcm, hcs⟩ := h.heap
  have h1 := heap_setCell_same w g i cur e (f u) hg
  have hl : (xs.set i u).length = n := by rw [List.length_set, hn]
  refine ⟨by simp, .inr ⟨g, c, _, by rw [hl], hb, h1, by rw [hl]; exact hnc, hcm, by simp [hcs], ?_⟩⟩
  rw [hl, Nat.mul_one, Array.toList_setIfInBounds, List.take_set, htk, List.map_set]
theorem OwnF.frozen (h : OwnF f e w base (.slice (some ⟨g, 0, none⟩) n c) xs) (i : Nat) : w.frozen? ⟨g, i, none⟩ = false := by
  obtain ⟨_, _, cur, hg, _⟩ := h.heap
  exact frozen_of_row w g i _ e hg
theorem OwnF.cell (h : OwnF f e w base (.slice (some ⟨g, 0, none⟩) n c) xs) {i : Nat} {x : α} (hi : xs[i]? = some x) : w.cell? ⟨g, i, none⟩ = some (f x) := by
  obtain ⟨_, hn, cur, hg, hns, htk, _⟩ := h.heap
  have hl := (List.getElem?_eq_some_iff.1 hi).1
  rw [cell_of_row w g i cur e (0, 0) hg]
  have e1 : cur[i]? = (cur.toList.take n)[i]? := by
    rw [List.getElem?_take, if_pos (by omega), Array.getElem?_toList]
  rw [e1, htk, List.getElem?_map, hi]
  rfl
end

/-! ### a []string that came in, by reach -/

section
open Go.ChangeShapes Go.WideShapes
variable {H : Type} {enc : TypeId × Value → H} {P : Program} {W : World} {base : Nat} {t e : TypeId} {v : Value} {d : DataW H} {p : List MemPlace}

theorem weights_all {l : List (DataW H)} {x : DataW H} {k : Nat} (h : x ∈ l) (hk : k ∈ x.weights P e) : k ∈ DataW.weightsAll P e l := by
  induction l with
  | nil => cases h
  | cons y r ih =>
    simp only [DataW.weightsAll, List.mem_append]
    rcases List.mem_cons.1 h with rfl | h
    · exact .inl hk
    · exact .inr (ih h)

theorem open_texts_sized (ht : P.underlying t = some (.slice e)) (he : P.underlying e = some .string) (hc : P.cellsOf e = 1) (hb : P.bytesOf e = 16) (hv : Value.okWide P W .any base t v)
    (hk : DataW.Trod enc P W 0 (fun _ => true) true t v d p) (hs : ∀ n ∈ d.weights P t, n ≤ reachBytes) (hp : ∀ x ∈ p, x.block < W.heap.size) :
    ∃ A n c Z, v = .slice A n c ∧ n ≤ c ∧ (c ≤ 8796093021952 ∧ ∀ s ∈ Z, s.size ≤ 140737488351232) ∧ HoldsF Value.string W W.heap.size A c c Z := by
  obtain ⟨A, n, c, rfl⟩ := okWide_slice ht hv
  obtain ⟨fuel, hf⟩ := hk
  rcases Go.Deep.open_strs ht he hc hf with ⟨hcs, hx⟩ | ⟨x, l, cp, m, Sx, hcs, _, hl, hm, hmm, hx, hcell⟩
  · simp [Value.cells] at hcs
    obtain ⟨rfl, rfl, rfl⟩ := hcs
    exact ⟨none, 0, 0, [], rfl, Nat.le_refl _, ⟨by omega, fun s h => by cases h⟩, HoldsF.nil _ _ _⟩
  · simp [Value.cells] at hcs
    obtain ⟨rfl, rfl, rfl⟩ := hcs
    simp only [Prod.mk.injEq] at hx
    obtain ⟨rfl, rfl⟩ := hx
    simp only [if_true] at hmm
    subst hmm
    simp only [DataW.weights, ht, hb] at hs
    have hcap : m ≤ 8796093021952 := by
      have h1 := hs _ List.mem_cons_self
      simp [reachBytes] at h1
      omega
    have each : ∀ i, i < m → (Sx i).size ≤ 140737488351232 := by
      intro i hi
      have e1 : (Sx i).data.toList.length = (Sx i).size := by rw [Array.length_toList]; rfl
      have h1 := hs (Sx i).data.toList.length (List.mem_cons_of_mem _ (List.mem_append.2 (by
        by_cases hin : i < n
        · left
          exact weights_all (List.mem_map.2 ⟨i, List.mem_range.2 hin, rfl⟩) (by simp [DataW.weights])
        · right
          refine weights_all (List.mem_map.2 ⟨i - n, List.mem_range.2 (by omega), rfl⟩) ?_
          rw [show n + (i - n) = i by omega]
          simp [DataW.weights])))
      simp only [reachBytes] at h1
      omega
    refine ⟨some x, n, m, (List.range m).map Sx, rfl, hl, ⟨hcap, fun s hsm => ?_⟩, by simp, Nat.le_refl _, (fun hA => by cases hA), fun h0 => ?_⟩
    · obtain ⟨i, hi, rfl⟩ := List.mem_map.1 hsm
      exact each i (List.mem_range.1 hi)
    · obtain ⟨b, off, spot⟩ := x
      have h1 := (hcell 0 (by omega)).1
      have hspot : spot = none := by simpa [Addr.add] using World.cell?_spot h1
      subst hspot
      refine ⟨b, off, rfl, ?_, fun i s hi => ?_⟩
      · have := World.block_lt_of_cell? W _ h1
        simpa [Addr.add] using this
      · rw [List.getElem?_map] at hi
        have him : i < m := by
          rcases Nat.lt_or_ge i m with h | h
          · exact h
          · rw [List.getElem?_eq_none (by simpa using h)] at hi; cases hi
        rw [List.getElem?_range him] at hi
        injection hi with hi
        subst hi
        have h2 := (hcell i him).1
        have e : (⟨b, off, none⟩ : Addr).add i = ⟨b, off + i, none⟩ := by
          by_cases hj0 : i = 0
          · subst hj0; simp [Addr.add]
          · simp [Addr.add, hj0]
        rwa [e] at h2
end
end Go.Proofs.Ytgbhnnobbciemaa
