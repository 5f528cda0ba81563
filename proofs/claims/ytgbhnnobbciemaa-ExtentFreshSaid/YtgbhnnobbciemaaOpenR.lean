/-
  Slices of structs that came in, opened: by reach and by bulk, each element with what it holds ('open_rows'). No program is named here.
-/
import Derived.Test.YtgbhnnobbciemaaChL
import Derived.Test.YtgbhnnobbciemaaRowS
namespace Go.Proofs.Ytgbhnnobbciemaa
open Go.RowKit Go.ChangeShapes Go.WideShapes
set_option linter.unusedVariables false

section
variable {H : Type} {enc : TypeId × Value → H} {P : Program} {W : World} {base : Nat} {t e : TypeId} {v : Value} {d : DataW H} {p : List MemPlace}
theorem weights_fld {t : TypeId} {k : Nat} {x : DataW H} (hk : k ∈ x.weights P t) : ∀ {i : Nat} {ts : List TypeId} {l : List (DataW H)}, ts[i]? = some t → l[i]? = some x → k ∈ DataW.weightsEach P ts l
  | _, [], _, h, _ => by simp at h
  | _, _ :: _, [], _, h => by simp at h
  | 0, _ :: _, _ :: _, h, g => by
    simp only [List.getElem?_cons_zero, Option.some.injEq] at h g
    subst h
    subst g
    simp only [DataW.weightsEach, List.mem_append]
    exact .inl hk
  | i + 1, _ :: _, _ :: _, h, g => by
    simp only [List.getElem?_cons_succ] at h g
    simp only [DataW.weightsEach, List.mem_append]
    exact .inr (weights_fld hk h g)
theorem bulk_fld {l : List (DataW H)} {x : DataW H} (h : x ∈ l) : Rows.uptoBulk x < Rows.uptoBulk (.agg l) := by
  have := bulk_memL h
  simp only [Rows.uptoBulk]
  omega
/-- a slice of structs that came in: all of its room -/
theorem open_rows {α : Type} [Inhabited α] {f : α → List Value} {s q : Nat} {ok : α → Prop} {g : α → Nat} (ht : P.underlying t = some (.slice e)) (hc : P.cellsOf e = s) (hs : 0 < s) (hb : P.bytesOf e = q) (hfl : ∀ y, (f y).length = s)
    (hel : ∀ (n : Nat) (cs : List Value) (x : DataW H × List MemPlace), DataW.trod enc P W 0 (fun _ => true) true n e cs = some x → (∀ k ∈ x.1.weights P e, k ≤ reachBytes) → ∃ y : α, cs = f y ∧ ok y ∧ g y < Rows.uptoBulk x.1)
    (hv : Value.okWide P W .any base t v) (hk : DataW.Trod enc P W 0 (fun _ => true) true t v d p) (hw : ∀ n ∈ d.weights P t, n ≤ reachBytes) :
    ∃ A n c zs, v = .slice A n c ∧ n ≤ c ∧ c * q ≤ 140737488351232 ∧ c < Rows.uptoBulk d ∧ HoldsS f s W W.heap.size A c c zs ∧ ∀ z ∈ zs, ok z ∧ g z < Rows.uptoBulk d := by
  obtain ⟨A, n, c, rfl⟩ := okWide_slice ht hv
  obtain ⟨fuel, hf⟩ := hk
  rcases Go.Deep.open_slice ht hf with ⟨hcs, hx⟩ | ⟨a, len, cap, m, n', D, Pl, hcs, _, hl, hm, hmm, hx, hcell⟩
  · simp [Value.cells] at hcs
    obtain ⟨rfl, rfl, rfl⟩ := hcs
    exact ⟨none, 0, 0, [], rfl, Nat.le_refl _, by omega, bulk_one_le _, HoldsS.nil _ _ _ _, fun z h => by cases h⟩
  · simp [Value.cells] at hcs
    obtain ⟨rfl, rfl, rfl⟩ := hcs
    simp only [Prod.mk.injEq] at hx
    obtain ⟨rfl, rfl⟩ := hx
    simp only [if_true] at hmm
    subst hmm
    simp only [DataW.weights, ht, hb] at hw
    have hcap : m * q ≤ 140737488351232 := by
      have h1 := hw _ List.mem_cons_self
      simp only [reachBytes, List.length_map, List.length_range] at h1
      rw [show n + (m - n) = m by omega] at h1
      omega
    have hwi : ∀ i, i < m → ∀ k ∈ (D i).weights P e, k ≤ reachBytes := fun i hi k hk => hw k (List.mem_cons_of_mem _ (List.mem_append.2 (by
      by_cases hin : i < n
      · left
        exact weights_all (List.mem_map.2 ⟨i, List.mem_range.2 hin, rfl⟩) hk
      · right
        refine weights_all (List.mem_map.2 ⟨i - n, List.mem_range.2 (by omega), rfl⟩) ?_
        rw [show n + (i - n) = i by omega]
        exact hk)))
    rw [hc] at hcell
    have each : ∀ i, i < m → ∃ y : α, W.cells? 0 (a.add (i * s)) s = some (f y) ∧ ok y ∧ g y < Rows.uptoBulk (D i) := fun i hi => by
      obtain ⟨cs', h1, h2⟩ := hcell i hi
      obtain ⟨y, rfl, hy⟩ := hel _ _ _ h2 (hwi i hi)
      exact ⟨y, h1, hy⟩
    obtain ⟨Y, hY⟩ := Go.Deep.choose_lt each
    have hbk : ∀ i, i < m → Rows.uptoBulk (D i) < Rows.uptoBulk (DataW.slice ((List.range n).map D) ((List.range (m - n)).map fun j => D (n + j))) := fun i hi => by
      simp only [Rows.uptoBulk]
      rcases Nat.lt_or_ge i n with h | h
      · have := bulk_memL (l := (List.range n).map D) (List.mem_map.2 ⟨i, List.mem_range.2 h, rfl⟩)
        omega
      · have := bulk_memL (l := (List.range (m - n)).map fun j => D (n + j)) (List.mem_map.2 ⟨i - n, List.mem_range.2 (by omega), rfl⟩)
        rw [show n + (i - n) = i from by omega] at this
        omega
    refine ⟨some a, n, m, (List.range m).map Y, rfl, hl, hcap, ?_, ⟨by simp, Nat.le_refl _, (fun hA => by cases hA), fun h0 => ?_⟩, fun z hz => ?_⟩
    · have h1 := bulk_length_le ((List.range n).map D)
      have h2 := bulk_length_le ((List.range (m - n)).map fun j => D (n + j))
      rw [List.length_map, List.length_range] at h1 h2
      simp only [Rows.uptoBulk]
      omega
    · obtain ⟨b, off, spot⟩ := a
      obtain ⟨_, h01, h02⟩ := World.cells?_some (hY 0 h0).1
      have hf0 : 0 < (f (Y 0)).length := by rw [hfl]; exact hs
      have h03 := h02 0 (by omega)
      rw [List.getElem?_eq_getElem hf0] at h03
      have hspot : spot = none := by simpa [Addr.add] using World.cell?_spot h03
      subst hspot
      have add_at : ∀ i, (⟨b, off, none⟩ : Addr).add i = ⟨b, off + i, none⟩ := fun i => by
        by_cases hj0 : i = 0
        · subst hj0; simp [Addr.add]
        · simp [Addr.add, hj0]
      have add_at2 : ∀ i j, (⟨b, off + i, none⟩ : Addr).add j = ⟨b, off + (i + j), none⟩ := fun i j => by
        by_cases hj0 : j = 0
        · subst hj0; simp [Addr.add]
        · simp [Addr.add, hj0, Nat.add_assoc]
      refine ⟨b, off, rfl, ?_, fun i z hi j u hj => ?_⟩
      · have := World.block_lt_of_cell? W _ h03
        simpa [Addr.add] using this
      · rw [List.getElem?_map] at hi
        have him : i < m := by
          rcases Nat.lt_or_ge i m with h | h
          · exact h
          · rw [List.getElem?_eq_none (by simpa using h)] at hi; cases hi
        rw [List.getElem?_range him] at hi
        injection hi with hi
        subst hi
        obtain ⟨_, _, h2⟩ := World.cells?_some (hY i him).1
        have hjl : j < s := by rw [← hfl (Y i)]; exact (List.getElem?_eq_some_iff.1 hj).1
        have h3 := h2 j hjl
        rw [add_at, add_at2, hj] at h3
        exact h3
    · obtain ⟨i, hi, rfl⟩ := List.mem_map.1 hz
      have hi' := List.mem_range.1 hi
      exact ⟨(hY i hi').2.1, Nat.lt_trans (hY i hi').2.2 (hbk i hi')⟩
end
end Go.Proofs.Ytgbhnnobbciemaa
