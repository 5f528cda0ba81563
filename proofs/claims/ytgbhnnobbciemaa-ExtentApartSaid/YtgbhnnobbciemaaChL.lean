/-
  Lists of rows of bytes ([][]byte): such as came in ('Lst'), opened ('open_lists': by reach and by bulk). No function of the program is named here.
-/
import Derived.Test.YtgbhnnobbciemaaCat
import Derived.Test.YtgbhnnobbciemaaOwnF2
import Derived.Deep.Slices
import Derived.Deep.Strs
namespace Go.Proofs.Ytgbhnnobbciemaa
open Go.RowKit Go.ChangeShapes Go.WideShapes
set_option linter.unusedVariables false

/-- the slice value '.slice A n c' holds rows of bytes, in memory below block B -/
structure Lst (w : World) (B : Nat) (A : Option Addr) (n c : Nat) (ps : List PartT) : Prop where
  row : HoldsF partV w B A n c ps
  each : ∀ p ∈ ps, Holds w B p.1 p.2.1 p.2.2.1 p.2.2.2
/-- what the rows hold -/
def rowsL (ps : List PartT) : List (List Int) := ps.map (·.2.2.2)

section
variable {w w' : World} {B B' : Nat} {A : Option Addr} {n c : Nat} {ps : List PartT}
theorem Lst.below (h : Lst w B A n c ps) (hb : Below B w w') : Lst w' B A n c ps := ⟨h.row.below hb, fun p hp => (h.each p hp).below hb⟩
theorem Lst.mono (h : Lst w B A n c ps) (hB : B ≤ B') : Lst w B' A n c ps := ⟨h.row.mono hB, fun p hp => (h.each p hp).mono hB⟩
theorem Lst.over (h : Lst w w.heap.size A n c ps) (hb : Below w.heap.size w w') : Lst w' w'.heap.size A n c ps := (h.below hb).mono hb.size
theorem HoldsF.drewL {α : Type} {f : α → Value} {xs : List α} (h : HoldsF f w B A n c xs) (k : Nat) : HoldsF f (w.drewN k) B A n c xs := h.keep fun _ _ => rfl
theorem Lst.drewN (h : Lst w B A n c ps) (k : Nat) : Lst (w.drewN k) B A n c ps := ⟨h.row.drewL k, fun p hp => (h.each p hp).drewN k⟩
theorem Lst.head (h : Lst w B A c c ps) (hn : n ≤ c) : Lst w B A n c (ps.take n) := ⟨h.row.head hn, fun p hp => h.each p (List.mem_of_mem_take hp)⟩
theorem Lst.nil (w : World) (B : Nat) : Lst w B none 0 0 [] := ⟨HoldsF.nil _ _ _, fun p hp => by cases hp⟩
/-- the cell of one row -/
theorem Lst.at (h : Lst w B A n c ps) {i : Nat} (hi : i < n) : ∃ b off p, A = some ⟨b, off, none⟩ ∧ b < B ∧ ps[i]? = some p ∧ w.cell? ⟨b, off + i, none⟩ = some (.slice p.1 p.2.1 p.2.2.1) ∧ Holds w B p.1 p.2.1 p.2.2.1 p.2.2.2 := by
  obtain ⟨b, off, e, hb, hc⟩ := h.row.cells (by omega)
  have hl := h.row.len
  have hp : ps[i]? = some ps[i] := List.getElem?_eq_getElem (by omega)
  exact ⟨b, off, ps[i], e, hb, hp, hc i _ hp, h.each _ (List.getElem_mem _)⟩
end

section
variable {H : Type} {enc : TypeId × Value → H} {P : Program} {W : World} {base : Nat} {t e q : TypeId} {v : Value} {d : DataW H} {p : List MemPlace}

theorem bulk_memL {l : List (DataW H)} {x : DataW H} (h : x ∈ l) : Rows.uptoBulk x ≤ Rows.uptoBulkAll l := by
  induction l with
  | nil => cases h
  | cons y r ih =>
    simp only [Rows.uptoBulkAll]
    rcases List.mem_cons.1 h with rfl | h
    · omega
    · have := ih h; omega
/-- a row of bytes among the cells -/
theorem trod_bytes {fuel : Nat} {cs : List Value} {x : DataW H × List MemPlace} (ht : P.underlying t = some (.slice e)) (he : P.underlying e = some (.int .u8)) (hc : P.cellsOf e = 1) (hb : P.bytesOf e = 1)
    (hf : DataW.trod enc P W 0 (fun _ => true) true fuel t cs = some x) (hs : ∀ n ∈ x.1.weights P t, n ≤ reachBytes) :
    ∃ y : PartT, cs = [partV y] ∧ Holds W W.heap.size y.1 y.2.1 y.2.2.1 y.2.2.2 ∧ y.2.2.1 ≤ 140737488351232 ∧ y.2.2.1 < Rows.uptoBulk x.1 := by
  rcases open_ints ht he hc hf with ⟨hcs, hx⟩ | ⟨a, l, cp, zs, hcs, _, hl, hm, hz, hx, hcell, hwz⟩
  · exact ⟨(none, 0, 0, []), hcs, Holds.nil _ _, by show 0 ≤ _; omega, bulk_one_le _⟩
  · subst hx
    simp only [if_true] at hz
    have hcap : cp ≤ 140737488351232 := by
      have h1 := hs ((lits (H := H) .u8 (zs.take l)).length * 1 + (lits (H := H) .u8 (zs.drop l)).length * 1) (by
        simp only [DataW.weights, ht, hb]
        rw [← Nat.add_mul]
        exact List.mem_cons_self)
      simp [lits, reachBytes] at h1
      omega
    have hH : Holds W W.heap.size (some a) cp cp zs := by
      refine ⟨hz, Nat.le_refl _, by omega, ?_, (fun hA => by cases hA), fun h0 => ?_⟩
      · intro y hy
        have := hwz y hy
        simpa [Lit.wf, IntKind.min, IntKind.max, IntKind.signed, IntKind.bits] using this
      · obtain ⟨b, off, spot⟩ := a
        have h1 := hcell 0 (by omega)
        have hspot : spot = none := by simpa [Addr.add] using World.cell?_spot h1
        subst hspot
        refine ⟨b, off, rfl, ?_, fun i hi => ?_⟩
        · have := World.block_lt_of_cell? W _ h1
          simpa [Addr.add] using this
        · have h2 := hcell i (by omega)
          have e : (⟨b, off, none⟩ : Addr).add i = ⟨b, off + i, none⟩ := by
            by_cases hj0 : i = 0
            · subst hj0; simp [Addr.add]
            · simp [Addr.add, hj0]
          rwa [e] at h2
    refine ⟨(some a, l, cp, zs.take l), hcs, hH.head hl, hcap, ?_⟩
    have h1 := bulk_length_le (lits (H := H) .u8 (zs.take l))
    have h2 := bulk_length_le (lits (H := H) .u8 (zs.drop l))
    rw [show (lits (H := H) .u8 (zs.take l)).length = (zs.take l).length from by simp [lits], List.length_take] at h1
    rw [show (lits (H := H) .u8 (zs.drop l)).length = (zs.drop l).length from by simp [lits], List.length_drop] at h2
    show cp < _
    simp only [Rows.uptoBulk]
    omega

/-- a [][]byte that came in: all of its room -/
theorem open_lists (ht : P.underlying t = some (.slice e)) (he : P.underlying e = some (.slice q)) (hq : P.underlying q = some (.int .u8)) (hce : P.cellsOf e = 1) (hcq : P.cellsOf q = 1) (hbe : P.bytesOf e = 24) (hbq : P.bytesOf q = 1)
    (hv : Value.okWide P W .any base t v) (hk : DataW.Trod enc P W 0 (fun _ => true) true t v d p) (hs : ∀ n ∈ d.weights P t, n ≤ reachBytes) (hp : ∀ x ∈ p, x.block < W.heap.size) :
    ∃ A n c ps, v = .slice A n c ∧ n ≤ c ∧ c ≤ 5864062014634 ∧ c < Rows.uptoBulk d ∧ (∀ y ∈ ps, y.2.2.1 ≤ 140737488351232) ∧ (∀ y ∈ ps, y.2.2.1 < Rows.uptoBulk d) ∧ Lst W W.heap.size A c c ps := by
  obtain ⟨A, n, c, rfl⟩ := okWide_slice ht hv
  obtain ⟨fuel, hf⟩ := hk
  rcases Go.Deep.open_slice1 ht hce hf with ⟨hcs, hx⟩ | ⟨a, len, cap, m, n', V, D, Pl, hcs, _, hl, hm, hmm, hx, hcell⟩
  · simp [Value.cells] at hcs
    obtain ⟨rfl, rfl, rfl⟩ := hcs
    exact ⟨none, 0, 0, [], rfl, Nat.le_refl _, by omega, bulk_one_le _, (fun y h => by cases h), (fun y h => by cases h), Lst.nil _ _⟩
  · simp [Value.cells] at hcs
    obtain ⟨rfl, rfl, rfl⟩ := hcs
    simp only [Prod.mk.injEq] at hx
    obtain ⟨rfl, rfl⟩ := hx
    simp only [if_true] at hmm
    subst hmm
    simp only [DataW.weights, ht, hbe] at hs
    have hcap : m ≤ 5864062014634 := by
      have h1 := hs _ List.mem_cons_self
      simp [reachBytes] at h1
      omega
    have hw : ∀ i, i < m → ∀ k ∈ (D i).weights P e, k ≤ reachBytes := fun i hi k hk => hs k (List.mem_cons_of_mem _ (List.mem_append.2 (by
      by_cases hin : i < n
      · left
        exact weights_all (List.mem_map.2 ⟨i, List.mem_range.2 hin, rfl⟩) hk
      · right
        refine weights_all (List.mem_map.2 ⟨i - n, List.mem_range.2 (by omega), rfl⟩) ?_
        rw [show n + (i - n) = i by omega]
        exact hk)))
    have each : ∀ i, i < m → ∃ y : PartT, W.cell? (a.add i) = some (partV y) ∧ Holds W W.heap.size y.1 y.2.1 y.2.2.1 y.2.2.2 ∧ y.2.2.1 ≤ 140737488351232 ∧ y.2.2.1 < Rows.uptoBulk (D i) := fun i hi => by
      obtain ⟨h1, h2⟩ := hcell i hi
      obtain ⟨y, e1, hy⟩ := trod_bytes he hq hcq hbq h2 (hw i hi)
      injection e1 with e1
      exact ⟨y, by rw [h1, e1], hy⟩
    obtain ⟨Y, hY⟩ := Go.Deep.choose_lt each
    have hbk : ∀ i, i < m → Rows.uptoBulk (D i) < Rows.uptoBulk (DataW.slice ((List.range n).map D) ((List.range (m - n)).map fun j => D (n + j))) := fun i hi => by
      simp only [Rows.uptoBulk]
      rcases Nat.lt_or_ge i n with h | h
      · have := bulk_memL (l := (List.range n).map D) (List.mem_map.2 ⟨i, List.mem_range.2 h, rfl⟩)
        omega
      · have := bulk_memL (l := (List.range (m - n)).map fun j => D (n + j)) (List.mem_map.2 ⟨i - n, List.mem_range.2 (by omega), rfl⟩)
        rw [show n + (i - n) = i from by omega] at this
        omega
    refine ⟨some a, n, m, (List.range m).map Y, rfl, hl, hcap, ?_, fun y hy => ?_, fun y hy => ?_, ⟨⟨by simp, Nat.le_refl _, (fun hA => by cases hA), fun h0 => ?_⟩, fun y hy => ?_⟩⟩
    · have h1 := bulk_length_le ((List.range n).map D)
      have h2 := bulk_length_le ((List.range (m - n)).map fun j => D (n + j))
      rw [List.length_map, List.length_range] at h1 h2
      simp only [Rows.uptoBulk]
      omega
    · obtain ⟨i, hi, rfl⟩ := List.mem_map.1 hy
      exact (hY i (List.mem_range.1 hi)).2.2.1
    · obtain ⟨i, hi, rfl⟩ := List.mem_map.1 hy
      have hi' := List.mem_range.1 hi
      exact Nat.lt_trans (hY i hi').2.2.2 (hbk i hi')
    · obtain ⟨b, off, spot⟩ := a
      have h1 := (hY 0 h0).1
      have hspot : spot = none := by simpa [Addr.add] using World.cell?_spot h1
      subst hspot
      refine ⟨b, off, rfl, ?_, fun i y hi => ?_⟩
      · have := World.block_lt_of_cell? W _ h1
        simpa [Addr.add] using this
      · rw [List.getElem?_map] at hi
        have him : i < m := by
          rcases Nat.lt_or_ge i m with h | h
          · exact h
          · rw [List.getElem?_eq_none (by simpa using h)] at hi; cases hi
        rw [List.getElem?_range him] at hi
        injection hi with hi
        subst hi
        have h2 := (hY i him).1
        have e : (⟨b, off, none⟩ : Addr).add i = ⟨b, off + i, none⟩ := by
          by_cases hj0 : i = 0
          · subst hj0; simp [Addr.add]
          · simp [Addr.add, hj0]
        rwa [e] at h2
    · obtain ⟨i, hi, rfl⟩ := List.mem_map.1 hy
      exact (hY i (List.mem_range.1 hi)).2.1
end
end Go.Proofs.Ytgbhnnobbciemaa
