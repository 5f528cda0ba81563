/-
  The cells of an array of numbers among an argument's cells. No function of the program is named here.
-/
import Derived.Test.YtepkamkgodbffaaDoorZA
namespace Go.Proofs.YtepkamkgodbffaaDoor
open Go.RowKit Go.ChangeShapes Go.WideShapes

section
variable {H : Type} {enc : TypeId × Value → H} {P : Program} {W : World} {base : Nat} {t e : TypeId} {v : Value} {d : DataW H} {p : List MemPlace}

/-- the cells of an array of numbers -/
theorem trod_arr {k : IntKind} {m b fuel : Nat} {sp : Nat → Bool} {hd : Bool} {l : List Value} {x : DataW H × List MemPlace} (ht : P.underlying t = some (.array m e)) (he : P.underlying e = some (.int k)) (hc : P.cellsOf e = 1) (hl : l.length = m)
    (hf : DataW.trod enc P W b sp hd fuel t l = some x) : ∃ xs : List Int, l = xs.map (Value.int k) ∧ ∀ x ∈ xs, (Lit.int k x).wf = true := by
  obtain ⟨ys, n, _, _, hlc, hyl, hel⟩ := DataW.trod_array ht hf
  rw [hc] at hel
  have each : ∀ i (h : i < l.length), ∃ x, l[i] = .int k x ∧ (Lit.int k x).wf = true := by
    intro i hi
    have h1 := hel i (by omega)
    rw [Nat.mul_one] at h1
    rw [List.drop_eq_getElem_cons hi, List.take_succ_cons, List.take_zero] at h1
    have hy : i < ys.length := by omega
    rw [List.getElem?_eq_getElem hy] at h1
    obtain ⟨x, e0, _, wx⟩ := DataW.trod_int he h1
    exact ⟨x, by simpa using e0, wx⟩
  clear hf hel hl hlc hyl
  induction l with
  | nil => exact ⟨[], rfl, fun _ h => by cases h⟩
  | cons u r ih =>
    obtain ⟨x, hx, wx⟩ := each 0 (by simp)
    obtain ⟨xs, hr, hw⟩ := ih fun i hi => by
      have := each (i + 1) (by simpa using hi)
      simpa using this
    refine ⟨x :: xs, by rw [hr]; simpa using hx, fun y hy => ?_⟩
    rcases List.mem_cons.1 hy with rfl | hy
    · exact wx
    · exact hw y hy

end
end Go.Proofs.YtepkamkgodbffaaDoor
