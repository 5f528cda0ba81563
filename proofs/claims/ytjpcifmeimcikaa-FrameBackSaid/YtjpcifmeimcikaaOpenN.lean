/-
  A slice of numbers of any kind that came in, opened: by reach and by bulk. No program is named here.
-/
import Derived.Test.YtjpcifmeimcikaaOpen
import Derived.Test.YtjpcifmeimcikaaOwnF
namespace Go.Proofs.Ytjpcifmeimcikaa
open Go.RowKit Go.ChangeShapes Go.WideShapes
set_option linter.unusedVariables false

section
variable {H : Type} {enc : TypeId × Value → H} {P : Program} {W : World} {base : Nat} {t e : TypeId} {v : Value} {d : DataW H} {p : List MemPlace}
theorem open_nums {k : IntKind} {q : Nat} (ht : P.underlying t = some (.slice e)) (he : P.underlying e = some (.int k)) (hc : P.cellsOf e = 1) (hb : P.bytesOf e = q) (hv : Value.okWide P W .any base t v)
    (hk : DataW.Trod enc P W 0 (fun _ => true) true t v d p) (hs : ∀ n ∈ d.weights P t, n ≤ reachBytes) (hp : ∀ x ∈ p, x.block < W.heap.size) :
    ∃ A n c zs, v = .slice A n c ∧ n ≤ c ∧ c * q ≤ 140737488351232 ∧ c < Rows.uptoBulk d ∧ HoldsF (Value.int k) W W.heap.size A c c zs ∧ ∀ z ∈ zs, (Lit.int k z).wf = true := by
  obtain ⟨A, n, c, rfl⟩ := okWide_slice ht hv
  obtain ⟨fuel, hf⟩ := hk
  rcases open_ints ht he hc hf with ⟨hcs, hx⟩ | ⟨x, l, cp, zs, hcs, _, hl, hm, hz, hx, hcell, hwz⟩
  · simp [Value.cells] at hcs
    obtain ⟨rfl, rfl, rfl⟩ := hcs
    simp only [Prod.mk.injEq] at hx
    obtain ⟨rfl, _⟩ := hx
    exact ⟨none, 0, 0, [], rfl, Nat.le_refl _, by omega, bulk_one_le _, HoldsF.nil _ _ _, fun z h => by cases h⟩
  · simp [Value.cells] at hcs
    obtain ⟨rfl, rfl, rfl⟩ := hcs
    simp only [Prod.mk.injEq] at hx
    obtain ⟨rfl, rfl⟩ := hx
    simp only [if_true] at hz
    have hcap : c * q ≤ 140737488351232 := by
      have h1 := hs ((lits (H := H) k (zs.take n)).length * q + (lits (H := H) k (zs.drop n)).length * q) (by
        simp only [DataW.weights, ht, hb]
        rw [← Nat.add_mul]
        exact List.mem_cons_self)
      rw [← Nat.add_mul] at h1
      have e : (lits (H := H) k (zs.take n)).length + (lits (H := H) k (zs.drop n)).length = c := by simp [lits]; omega
      rw [e] at h1
      simp only [reachBytes] at h1
      omega
    refine ⟨some x, n, c, zs, rfl, hl, hcap, ?_, ⟨hz, Nat.le_refl _, (fun hA => by cases hA), fun h0 => ?_⟩, hwz⟩
    · have h1 := bulk_length_le (lits (H := H) k (zs.take n))
      have h2 := bulk_length_le (lits (H := H) k (zs.drop n))
      rw [show (lits (H := H) k (zs.take n)).length = (zs.take n).length from by simp [lits], List.length_take] at h1
      rw [show (lits (H := H) k (zs.drop n)).length = (zs.drop n).length from by simp [lits], List.length_drop] at h2
      simp only [Rows.uptoBulk]
      omega
    · obtain ⟨b, off, spot⟩ := x
      have h1 := hcell 0 (by omega)
      have hspot : spot = none := by simpa [Addr.add] using World.cell?_spot h1
      subst hspot
      refine ⟨b, off, rfl, ?_, fun i z hi => ?_⟩
      · have := World.block_lt_of_cell? W _ h1
        simpa [Addr.add] using this
      · have hil := (List.getElem?_eq_some_iff.1 hi).1
        have h2 := hcell i (by omega)
        have e : (⟨b, off, none⟩ : Addr).add i = ⟨b, off + i, none⟩ := by
          by_cases hj0 : i = 0
          · subst hj0; simp [Addr.add]
          · simp [Addr.add, hj0]
        rw [e] at h2
        rw [h2]
        congr 2
        simp [List.getD_eq_getElem?_getD, hi]
end
end Go.Proofs.Ytjpcifmeimcikaa
