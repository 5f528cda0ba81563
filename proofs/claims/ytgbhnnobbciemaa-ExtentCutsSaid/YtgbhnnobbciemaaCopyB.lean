/-
  Contract of the statements' own 'Copy' (refectoryref00); a row of the call's own, while one block turns.
-/
import Derived.Test.YtgbhnnobbciemaaSame
import Derived.Test.YtgbhnnobbciemaaRow
import Derived.Test.YtgbhnnobbciemaaHeadM
namespace Go.Proofs.Ytgbhnnobbciemaa
open Go.RowKit

set_option maxHeartbeats 400000 in
theorem Copy_any (w : World) (A : Option Addr) (n c : Nat) (xs : List Int) (h : Holds w w.heap.size A n c xs) (hn : n ≤ 140737488355328) :
    Calls Try.prog 24 #[.slice A n c] w fun e w' => ∃ v, e = .returned v ∧ Own w' w.heap.size v xs ∧ Below w.heap.size w w' := by
  have hxl : xs.length ≤ 140737488355328 := by have := h.len; omega
  go_enter Try.func24, Try.ntmps24
  go_wp2_with (at_builtin; refine wpList_append_bytes rfl (.tmp 4) (.tmp 5) rfl w.heap.size _ [] rfl (Own.nil _ _) w.heap.size A n c xs rfl h (by simpa using hxl) (Nat.le_refl _) ?_; intro v1 w1 ho1 hb1 hgr)
  have ho := ho1.out
  rw [List.nil_append] at ho
  go_ret
  exact ⟨_, rfl, ho, hb1⟩

theorem Own.only {w w' : World} {base g : Nat} {v : Value} {xs : List Int} (h : Own w base v xs) (hO : Only g w w') (hg : g < base) : Own w' base v xs := by
  refine ⟨h.1, ?_⟩
  rcases h.2 with h0 | ⟨q, cap, cur, rfl, h1, hq, rest⟩
  · exact .inl h0
  · exact .inr ⟨q, cap, cur, rfl, h1, (hO.rest q (by omega)).trans hq, rest⟩
theorem Own.holds_at {w : World} {base n c : Nat} {A : Option Addr} {xs : List Int} (h : Own w base (.slice A n c) xs) (hl : xs.length = n) (hx : Bytes xs) (hn : n ≤ 281474976710656) : Holds w w.heap.size A n c xs := by
  obtain ⟨A1, c1, e, hh⟩ := h.holds hx (by omega)
  rw [hl] at e hh
  injection e with e1 e2 e3
  subst e1
  subst e3
  exact hh
end Go.Proofs.Ytgbhnnobbciemaa
