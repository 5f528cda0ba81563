/-
  An argument that is a head (a struct of ten numbers and an array of bytes), opened.
-/
import Derived.Test.YthoddihoccpidaaOpen
import Derived.Test.YthoddihoccpidaaHeadM
namespace Go.Proofs.Ythoddihoccpidaa
open Go.RowKit Go.ChangeShapes Go.WideShapes

section
variable {H : Type} {enc : TypeId × Value → H} {P : Program} {W : World} {base : Nat} {t e : TypeId} {v : Value} {d : DataW H} {p : List MemPlace}

/-- the cells of an array of numbers -/
theorem trod_row {k : IntKind} {m b fuel : Nat} {sp : Nat → Bool} {hd : Bool} {l : List Value} {x : DataW H × List MemPlace} (ht : P.underlying t = some (.array m e)) (he : P.underlying e = some (.int k)) (hc : P.cellsOf e = 1) (hl : l.length = m)
    (hf : DataW.trod enc P W b sp hd fuel t l = some x) : ∃ xs : List Int, l = xs.map (Value.int k) ∧ ∀ x ∈ xs, (Lit.int k x).wf = true := by
  obtain ⟨ys, n, _, _, hlc, hyl, hel⟩ := DataW.trod_array ht hf
  rw [hc] at hel
  have each : ∀ i (h : i < l.length), ∃ x, l[i] = .int k x ∧ (Lit.int k x).wf = true := by
    intro i hi
    have h1 := hel i (by omega)
    rw [Nat.mul_one] at h1
    rw [List.drop_eq_getElem_cons hi, List.take_succ_cons, List.take_zero] at h1
    have hy : i < ys.length := by omega
    rw [List.getElem?_eq_getElem hy] at h1
    obtain ⟨x, e0, _, wx⟩ := DataW.trod_int he h1
    exact ⟨x, by simpa using e0, wx⟩
  clear hf hel hl hlc hyl
  induction l with
  | nil => exact ⟨[], rfl, fun _ h => by cases h⟩
  | cons u r ih =>
    obtain ⟨x, hx, wx⟩ := each 0 (by simp)
    obtain ⟨xs, hr, hw⟩ := ih fun i hi => by
      have := each (i + 1) (by simpa using hi)
      simpa using this
    refine ⟨x :: xs, by rw [hr]; simpa using hx, fun y hy => ?_⟩
    rcases List.mem_cons.1 hy with rfl | hy
    · exact wx
    · exact hw y hy

theorem drop_cons_of_take {l : List Value} {i : Nat} {a : Value} (h : (l.drop i).take 1 = [a]) : l.drop i = a :: l.drop (i + 1) := by
  have e : l.drop (i + 1) = (l.drop i).drop 1 := by rw [List.drop_drop]
  rw [e]
  cases hq : l.drop i with
  | nil => rw [hq] at h; cases h
  | cons u r => rw [hq] at h; simp at h; rw [h]; rfl

/-- one number among the cells -/
theorem trod_num {k : IntKind} {b fuel i : Nat} {sp : Nat → Bool} {hd : Bool} {l : List Value} {y : Option (DataW H × List MemPlace)} (he : P.underlying e = some (.int k)) (hy : y.isSome = true)
    (hf : DataW.trod enc P W b sp hd fuel e ((l.drop i).take 1) = y) : ∃ x, l.drop i = .int k x :: l.drop (i + 1) ∧ (Lit.int k x).wf = true := by
  obtain ⟨z, rfl⟩ := Option.isSome_iff_exists.1 hy
  obtain ⟨x, e0, _, wx⟩ := DataW.trod_int he hf
  exact ⟨x, drop_cons_of_take e0, wx⟩

/-- a head by value -/
theorem open_head (hv : Value.okWide Try.prog W .any base 28 v) (hk : DataW.Trod enc Try.prog W 0 (fun _ => true) true 28 v d p) : ∃ h : Hd, h.ok ∧ v = Go.Proofs.Ythoddihoccpidaa.hv h := by
  obtain ⟨cs, rfl, hsz, _⟩ : ∃ cs, v = .agg cs ∧ cs.size = Try.prog.cellsOf 28 ∧ Row.okWide Try.prog W .any base 28 cs := by
    simpa [Value.okWide, Try.underlying28] using hv
  have h26 : Try.prog.cellsOf 28 = 26 := by kernel_rfl
  rw [h26] at hsz
  obtain ⟨fuel, hf⟩ := hk
  obtain ⟨xs, n, _, _, hl, hx, hel⟩ := DataW.trod_struct Try.underlying28 hf
  have hx11 : xs.length = 11 := hx
  have some_at : ∀ i, i < 11 → (xs[i]?).isSome = true := fun i hi => by simp [hx11, hi]
  have hcl : (Value.agg cs).cells.toList = cs.toList := rfl
  rw [hcl] at hel
  obtain ⟨l, hll⟩ : ∃ l, l = cs.toList := ⟨_, rfl⟩
  rw [← hll] at hel
  have hln : l.length = 26 := by rw [hll]; simpa using hsz
  have c1 : ∀ t, t = 22 ∨ t = 23 ∨ t = 25 ∨ t = 24 → Try.prog.cellsOf t = 1 := by
    rintro t (rfl | rfl | rfl | rfl) <;> kernel_rfl
  have e0 := hel 0 _ rfl
  have e1 := hel 1 _ rfl
  have e2 := hel 2 _ rfl
  have e3 := hel 3 _ rfl
  have e4 := hel 4 _ rfl
  have e5 := hel 5 _ rfl
  have e6 := hel 6 _ rfl
  have e7 := hel 7 _ rfl
  have e8 := hel 8 _ rfl
  have e9 := hel 9 _ rfl
  have e10 := hel 10 _ rfl
  rw [c1 _ (by simp)] at e0 e1 e2 e3 e4 e5 e6 e7 e8 e9
  obtain ⟨x0, d0, w0⟩ := trod_num (i := 0) Try.underlying22 (some_at 0 (by omega)) e0
  obtain ⟨x1, d1, w1⟩ := trod_num (i := 1) Try.underlying23 (some_at 1 (by omega)) e1
  obtain ⟨x2, d2, w2⟩ := trod_num (i := 2) Try.underlying24 (some_at 2 (by omega)) e2
  obtain ⟨x3, d3, w3⟩ := trod_num (i := 3) Try.underlying22 (some_at 3 (by omega)) e3
  obtain ⟨x4, d4, w4⟩ := trod_num (i := 4) Try.underlying23 (some_at 4 (by omega)) e4
  obtain ⟨x5, d5, w5⟩ := trod_num (i := 5) Try.underlying23 (some_at 5 (by omega)) e5
  obtain ⟨x6, d6, w6⟩ := trod_num (i := 6) Try.underlying25 (some_at 6 (by omega)) e6
  obtain ⟨x7, d7, w7⟩ := trod_num (i := 7) Try.underlying25 (some_at 7 (by omega)) e7
  obtain ⟨x8, d8, w8⟩ := trod_num (i := 8) Try.underlying23 (some_at 8 (by omega)) e8
  obtain ⟨x9, d9, w9⟩ := trod_num (i := 9) Try.underlying25 (some_at 9 (by omega)) e9
  have c16 : Try.prog.cellsOf 26 = 16 := by kernel_rfl
  change DataW.trod enc Try.prog W 0 (fun _ => true) true n 26 ((l.drop 10).take (Try.prog.cellsOf 26)) = xs[10]? at e10
  rw [c16] at e10
  obtain ⟨z, hz⟩ := Option.isSome_iff_exists.1 (some_at 10 (by omega))
  rw [hz] at e10
  have ht : (l.drop 10).take 16 = l.drop 10 := List.take_of_length_le (by simp; omega)
  rw [ht] at e10
  obtain ⟨ss, hss, wss⟩ := trod_row Try.underlying26 Try.underlying5 (by kernel_rfl) (by simp; omega) e10
  have hsl : ss.length = 16 := by
    have := congrArg List.length hss
    simp at this
    omega
  refine ⟨⟨x0, x1, x2, x3, x4, x5, x6, x7, x8, x9, ss⟩, ⟨int_bounds_u16 w0, int_bounds_u32 w1, int_bounds_u16 w2, int_bounds_u16 w3, int_bounds_u32 w4, int_bounds_u32 w5, int_bounds_u64 w6, int_bounds_u64 w7, int_bounds_u32 w8, int_bounds_u64 w9, hsl, fun y hy => int_bounds_u8 (wss y hy)⟩, ?_⟩
  show Value.agg cs = .agg _
  congr 1
  have h0 : l = hcells ⟨x0, x1, x2, x3, x4, x5, x6, x7, x8, x9, ss⟩ := by
    rw [← List.drop_zero (l := l), d0, d1, d2, d3, d4, d5, d6, d7, d8, d9, hss]
    rfl
  rw [← h0, hll]
end
end Go.Proofs.Ythoddihoccpidaa
