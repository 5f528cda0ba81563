/-
  What a statement's argument is, as the walks are told: opened once for each shape (bytes, arrays of numbers, texts), with the form's own reach and the bulk that it weighs.
-/
import Derived.Test.YtgbhnnobbciemaaWords
import Derived.Test.YtgbhnnobbciemaaRows
import Derived.ProofKit
import Derived.OpenShut
import Derived.ShutString
import Derived.SizedLaws
import Derived.ChangeOld
namespace Go.Proofs.Ytgbhnnobbciemaa
open Go.RowKit Go.ChangeShapes Go.WideShapes

section
variable {H : Type} {enc : TypeId × Value → H} {P : Program} {W : World} {base : Nat} {t e : TypeId} {v : Value} {d : DataW H} {p : List MemPlace}

theorem bulk_one_le (d : DataW H) : 1 ≤ Rows.uptoBulk d := by
  cases d with
  | lit l => cases l <;> simp [Rows.uptoBulk]
  | nil => simp [Rows.uptoBulk]
  | ptr d => simp [Rows.uptoBulk]
  | slice elems spare => simp [Rows.uptoBulk]
  | agg parts => simp [Rows.uptoBulk]
  | iface t d => simp [Rows.uptoBulk]
  | map entries => simp [Rows.uptoBulk]
  | held h => simp [Rows.uptoBulk]
theorem bulk_length_le (l : List (DataW H)) : l.length ≤ Rows.uptoBulkAll l := by
  induction l with
  | nil => simp [Rows.uptoBulkAll]
  | cons x r ih => have := bulk_one_le x; simp only [Rows.uptoBulkAll, List.length_cons]; omega

theorem Holds.head {w : World} {B c n : Nat} {A : Option Addr} {xs : List Int} (h : Holds w B A c c xs) (hn : n ≤ c) : Holds w B A n c (xs.take n) :=
  ⟨by have := h.len; simp; omega, hn, by have := h.room; omega, h.byte.take n, h.bare, fun h0 => by
    obtain ⟨b, off, rfl, hb, hc⟩ := h.cells (by omega)
    refine ⟨b, off, rfl, hb, fun i hi => ?_⟩
    rw [hc i (by omega)]
    simp [List.getD_eq_getElem?_getD, hi]⟩

/-- a slice of bytes that came in: all of its room -/
theorem open_bytes (ht : P.underlying t = some (.slice e)) (he : P.underlying e = some (.int .u8)) (hc : P.cellsOf e = 1) (hb : P.bytesOf e = 1) (hv : Value.okWide P W .any base t v)
    (hk : DataW.Trod enc P W 0 (fun _ => true) true t v d p) (hs : ∀ n ∈ d.weights P t, n ≤ reachBytes) (hp : ∀ x ∈ p, x.block < W.heap.size) :
    ∃ A n c zs, v = .slice A n c ∧ n ≤ c ∧ c ≤ 140737488351232 ∧ c < Rows.uptoBulk d ∧ Holds W W.heap.size A c c zs := by
  obtain ⟨A, n, c, rfl⟩ := okWide_slice ht hv
  obtain ⟨fuel, hf⟩ := hk
  rcases open_ints ht he hc hf with ⟨hcs, hx⟩ | ⟨x, l, cp, zs, hcs, _, hl, hm, hz, hx, hcell, hwz⟩
  · simp [Value.cells] at hcs
    obtain ⟨rfl, rfl, rfl⟩ := hcs
    simp only [Prod.mk.injEq] at hx
    obtain ⟨rfl, _⟩ := hx
    exact ⟨none, 0, 0, [], rfl, Nat.le_refl _, by omega, bulk_one_le _, Holds.nil _ _⟩
  · simp [Value.cells] at hcs
    obtain ⟨rfl, rfl, rfl⟩ := hcs
    simp only [Prod.mk.injEq] at hx
    obtain ⟨rfl, rfl⟩ := hx
    simp only [if_true] at hz
    have hcap : c ≤ 140737488351232 := by
      have h1 := hs ((lits (H := H) .u8 (zs.take n)).length * 1 + (lits (H := H) .u8 (zs.drop n)).length * 1) (by
        simp only [DataW.weights, ht, hb]
        rw [← Nat.add_mul]
        exact List.mem_cons_self)
      simp [lits, reachBytes] at h1
      omega
    refine ⟨some x, n, c, zs, rfl, hl, hcap, ?_, hz, Nat.le_refl _, by omega, ?_, (fun hA => by cases hA), fun h0 => ?_⟩
    · have h1 := bulk_length_le (lits (H := H) .u8 (zs.take n))
      have h2 := bulk_length_le (lits (H := H) .u8 (zs.drop n))
      rw [show (lits (H := H) .u8 (zs.take n)).length = (zs.take n).length from by simp [lits], List.length_take] at h1
      rw [show (lits (H := H) .u8 (zs.drop n)).length = (zs.drop n).length from by simp [lits], List.length_drop] at h2
      simp only [Rows.uptoBulk]
      omega
    · intro y hy
      have := hwz y hy
      simpa [Lit.wf, IntKind.min, IntKind.max, IntKind.signed, IntKind.bits] using this
    · obtain ⟨b, off, spot⟩ := x
      have h1 := hcell 0 (by omega)
      have hspot : spot = none := by simpa [Addr.add] using World.cell?_spot h1
      subst hspot
      refine ⟨b, off, rfl, ?_, fun i hi => ?_⟩
      · have := World.block_lt_of_cell? W _ h1
        simpa [Addr.add] using this
      · have h2 := hcell i (by omega)
        have e : (⟨b, off, none⟩ : Addr).add i = ⟨b, off + i, none⟩ := by
          by_cases hj0 : i = 0
          · subst hj0; simp [Addr.add]
          · simp [Addr.add, hj0]
        rwa [e] at h2

theorem int_bounds_u8 {x : Int} (h : (Lit.int .u8 x).wf = true) : 0 ≤ x ∧ x ≤ 255 := by simpa [Lit.wf, IntKind.min, IntKind.max, IntKind.signed, IntKind.bits] using h
theorem int_bounds_u16 {x : Int} (h : (Lit.int .u16 x).wf = true) : 0 ≤ x ∧ x ≤ 65535 := by simpa [Lit.wf, IntKind.min, IntKind.max, IntKind.signed, IntKind.bits] using h
theorem int_bounds_u32 {x : Int} (h : (Lit.int .u32 x).wf = true) : 0 ≤ x ∧ x ≤ 4294967295 := by simpa [Lit.wf, IntKind.min, IntKind.max, IntKind.signed, IntKind.bits] using h
theorem int_bounds_u64 {x : Int} (h : (Lit.int .u64 x).wf = true) : 0 ≤ x ∧ x ≤ 18446744073709551615 := by simpa [Lit.wf, IntKind.min, IntKind.max, IntKind.signed, IntKind.bits] using h
theorem int_bounds_i64 {x : Int} (h : (Lit.int .i64 x).wf = true) : -9223372036854775808 ≤ x ∧ x ≤ 9223372036854775807 := by simpa [Lit.wf, IntKind.min, IntKind.max, IntKind.signed, IntKind.bits] using h

/-- an array of numbers by value -/
theorem open_array {k : IntKind} {m : Nat} (ht : P.underlying t = some (.array m e)) (he : P.underlying e = some (.int k)) (hc : P.cellsOf e = 1) (hct : P.cellsOf t = m) (hv : Value.okWide P W .any base t v)
    (hk : DataW.Trod enc P W 0 (fun _ => true) true t v d p) : ∃ xs : List Int, v = .agg (xs.map (Value.int k)).toArray ∧ xs.length = m ∧ ∀ x ∈ xs, (Lit.int k x).wf = true := by
  obtain ⟨cs, rfl, hsz, _⟩ : ∃ cs, v = .agg cs ∧ cs.size = P.cellsOf t ∧ Row.okWide P W .any base t cs := by
    simpa [Value.okWide, ht] using hv
  obtain ⟨fuel, hf⟩ := hk
  obtain ⟨ys, n, _, _, _, _, hel⟩ := DataW.trod_array ht hf
  rw [hct] at hsz
  rw [hc] at hel
  have each : ∀ i (h : i < cs.size), ∃ x, cs[i] = .int k x ∧ (Lit.int k x).wf = true := by
    intro i hi
    have h1 := hel i (by omega)
    rw [Nat.mul_one] at h1
    have hcl : i < (Value.agg cs).cells.toList.length := by simpa [Value.cells] using hi
    rw [List.drop_eq_getElem_cons hcl, List.take_succ_cons, List.take_zero] at h1
    have hy : i < ys.length := by omega
    rw [List.getElem?_eq_getElem hy] at h1
    obtain ⟨x, e0, _, wx⟩ := DataW.trod_int he h1
    refine ⟨x, ?_, wx⟩
    simpa [Value.cells] using e0
  have hall : ∀ l : List Value, (∀ i (h : i < l.length), ∃ x, l[i] = .int k x ∧ (Lit.int k x).wf = true) → ∃ xs : List Int, l = xs.map (Value.int k) ∧ ∀ x ∈ xs, (Lit.int k x).wf = true := by
    intro l
    induction l with
    | nil => exact fun _ => ⟨[], rfl, fun _ h => by cases h⟩
    | cons u r ih =>
      intro h
      obtain ⟨x, hx, wx⟩ := h 0 (by simp)
      obtain ⟨xs, hr, hw⟩ := ih fun i hi => by
        have := h (i + 1) (by simpa using hi)
        simpa using this
      refine ⟨x :: xs, by rw [hr]; simpa using hx, fun y hy => ?_⟩
      rcases List.mem_cons.1 hy with rfl | hy
      · exact wx
      · exact hw y hy
  obtain ⟨xs, hl, hw⟩ := hall cs.toList (fun i hi => by
    have := each i (by simpa using hi)
    simpa using this)
  refine ⟨xs, ?_, ?_, hw⟩
  · rw [← hl]
  · have := congrArg List.length hl
    simp at this
    omega
end
end Go.Proofs.Ytgbhnnobbciemaa
