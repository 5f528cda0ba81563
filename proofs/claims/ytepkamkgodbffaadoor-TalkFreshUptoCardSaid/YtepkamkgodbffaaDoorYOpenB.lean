/-
  An argument that is an Ask, a Say: opened ('open_ask', 'open_say'), with what each list and text weighs.
-/
import Derived.Test.YtepkamkgodbffaaDoorYOpenA
namespace Go.Proofs.YtepkamkgodbffaaDoor
open Go.RowKit Go.ChangeShapes Go.WideShapes
set_option linter.unusedVariables false
set_option maxRecDepth 100000

section
variable {H : Type} {enc : TypeId × Value → H} {W : World} {base : Nat} {v : Value} {d : DataW H} {p : List MemPlace}

instance : Inhabited LockV := ⟨⟨0, 0, 0, 0⟩⟩
instance : Inhabited EntryV := ⟨⟨.empty, 0, 0⟩⟩

theorem drop_cons1 {l : List Value} {i : Nat} {a : Value} (h : (l.drop i).take 1 = [a]) : l.drop i = a :: l.drop (i + 1) := by
  have e : l.drop (i + 1) = (l.drop i).drop 1 := by rw [List.drop_drop]
  rw [e]
  cases hq : l.drop i with
  | nil => rw [hq] at h; cases h
  | cons u r => rw [hq] at h; simp at h; rw [h]; rfl
theorem one_num {P : Program} {t : TypeId} {k : IntKind} {fuel : Nat} {cs : List Value} {y : Option (DataW H × List MemPlace)} (he : P.underlying t = some (.int k)) (hy : y.isSome = true)
    (hf : DataW.trod enc P W 0 (fun _ => true) true fuel t cs = y) : ∃ x, cs = [.int k x] ∧ (Lit.int k x).wf = true := by
  obtain ⟨z, rfl⟩ := Option.isSome_iff_exists.1 hy
  obtain ⟨x, e0, _, wx⟩ := DataW.trod_int he hf
  exact ⟨x, e0, wx⟩

theorem trod_lock (n : Nat) (cs : List Value) (x : DataW H × List MemPlace) (hf : DataW.trod enc Tryd.prog W 0 (fun _ => true) true n 107 cs = some x) : ∃ l : LockV, cs = lockCells l ∧ l.ok := by
  obtain ⟨xs, m, _, _, hl, hx, hel⟩ := DataW.trod_struct Tryd.underlying107 hf
  have hx4 : xs.length = 4 := hx
  have h4 : cs.length = 4 := hl.trans (by kernel_rfl)
  have some_at : ∀ i, i < 4 → (xs[i]?).isSome = true := fun i hi => by simp [hx4, hi]
  have c1 : ∀ t, t = 3 ∨ t = 28 ∨ t = 22 → Tryd.prog.cellsOf t = 1 := by
    rintro t (rfl | rfl | rfl) <;> kernel_rfl
  have e0 := hel 0 _ rfl
  have e1 := hel 1 _ rfl
  have e2 := hel 2 _ rfl
  have e3 := hel 3 _ rfl
  rw [c1 _ (by simp)] at e0 e1 e2 e3
  obtain ⟨x0, d0, w0⟩ := one_num Tryd.underlying3 (some_at 0 (by omega)) e0
  obtain ⟨x1, d1, w1⟩ := one_num Tryd.underlying28 (some_at 1 (by omega)) e1
  obtain ⟨x2, d2, w2⟩ := one_num Tryd.underlying28 (some_at 2 (by omega)) e2
  obtain ⟨x3, d3, w3⟩ := one_num Tryd.underlying22 (some_at 3 (by omega)) e3
  refine ⟨⟨x0, x1, x2, x3⟩, ?_, ⟨int_bounds_i64 w0, int_bounds_u64 w1, int_bounds_u64 w2, int_bounds_u16 w3⟩⟩
  have f0 := drop_cons1 (i := 0) d0
  have f1 := drop_cons1 (i := 1) d1
  have f2 := drop_cons1 (i := 2) d2
  have f3 := drop_cons1 (i := 3) d3
  rw [List.drop_zero] at f0
  rw [f0, f1, f2, f3, List.drop_of_length_le (by omega)]
  rfl

theorem trod_entry (n : Nat) (cs : List Value) (x : DataW H × List MemPlace) (hf : DataW.trod enc Tryd.prog W 0 (fun _ => true) true n 112 cs = some x) : ∃ l : EntryV, cs = entryCells l ∧ l.ok := by
  obtain ⟨xs, m, _, _, hl, hx, hel⟩ := DataW.trod_struct Tryd.underlying112 hf
  have hx2 : xs.length = 2 := hx
  have h3 : cs.length = 3 := hl.trans (by kernel_rfl)
  have e0 := hel 0 _ rfl
  have e1 := hel 1 _ rfl
  have cs1 : Tryd.prog.cellsOf 9 = 1 := by kernel_rfl
  have cs2 : Tryd.prog.cellsOf 110 = 2 := by kernel_rfl
  change DataW.trod enc Tryd.prog W 0 (fun _ => true) true m 9 ((cs.drop 0).take (Tryd.prog.cellsOf 9)) = xs[0]? at e0
  change DataW.trod enc Tryd.prog W 0 (fun _ => true) true m 110 ((cs.drop 1).take (Tryd.prog.cellsOf 110)) = xs[1]? at e1
  rw [cs1] at e0
  rw [cs2] at e1
  obtain ⟨z0, hz0⟩ := Option.isSome_iff_exists.1 (show (xs[0]?).isSome = true by simp [hx2])
  obtain ⟨z1, hz1⟩ := Option.isSome_iff_exists.1 (show (xs[1]?).isSome = true by simp [hx2])
  rw [hz0] at e0
  rw [hz1] at e1
  obtain ⟨s, d0, _, _⟩ := DataW.trod_string (P := Tryd.prog) Tryd.underlying9 e0
  obtain ⟨ys, m2, _, _, hl2, hy, hel2⟩ := DataW.trod_struct Tryd.underlying110 e1
  have hy2 : ys.length = 2 := hy
  have g0 := hel2 0 _ rfl
  have g1 := hel2 1 _ rfl
  have c1 : ∀ t, t = 3 ∨ t = 42 → Tryd.prog.cellsOf t = 1 := by
    rintro t (rfl | rfl) <;> kernel_rfl
  rw [c1 _ (by simp)] at g0 g1
  obtain ⟨x1, d1, w1⟩ := one_num Tryd.underlying42 (by simp [hy2]) g0
  obtain ⟨x2, d2, w2⟩ := one_num Tryd.underlying3 (by simp [hy2]) g1
  refine ⟨⟨s, x1, x2⟩, ?_, ⟨int_bounds_u8 w1, int_bounds_i64 w2⟩⟩
  match cs, h3 with
  | [a, b, c], _ =>
    simp at d0 d1 d2
    simp [entryCells, d0, d1, d2]
end
end Go.Proofs.YtepkamkgodbffaaDoor
