/-
  Contract of the statements' own 'Copy' (refectoryref00); a row of the call's own, while one block turns.
-/
import Derived.Test.YtjpcifmeimcikaaSame
import Derived.Test.YtjpcifmeimcikaaRow
import Derived.Test.YtjpcifmeimcikaaHeadM
namespace Go.Proofs.Ytjpcifmeimcikaa
open Go.RowKit

theorem Own.only {w w' : World} {base g : Nat} {v : Value} {xs : List Int} (h : Own w base v xs) (hO : Only g w w') (hg : g < base) : Own w' base v xs := by
  refine ⟨h.1, ?_⟩
  rcases h.2 with h0 | ⟨q, cap, cur, rfl, h1, hq, rest⟩
  · exact .inl h0
  · exact .inr ⟨q, cap, cur, rfl, h1, (hO.rest q (by omega)).trans hq, rest⟩
theorem Own.holds_at {w : World} {base n c : Nat} {A : Option Addr} {xs : List Int} (h : Own w base (.slice A n c) xs) (hl : xs.length = n) (hx : Bytes xs) (hn : n ≤ 281474976710656) : Holds w w.heap.size A n c xs := by
  obtain ⟨A1, c1, e, hh⟩ := h.holds hx (by omega)
  rw [hl] at e hh
  injection e with e1 e2 e3
  subst e1
  subst e3
  exact hh
end Go.Proofs.Ytjpcifmeimcikaa
