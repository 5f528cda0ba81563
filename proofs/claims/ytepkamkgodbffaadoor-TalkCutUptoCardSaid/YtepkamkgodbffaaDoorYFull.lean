/-
  append onto a slice of bytes that is cut to its own length (a full slice expression): the row that comes is the call's own.
-/
import Derived.Test.YtepkamkgodbffaaDoorZA
import Derived.ArgAppend
namespace Go.Proofs.YtepkamkgodbffaaDoor
open Go.RowKit
set_option linter.unusedVariables false
set_option maxRecDepth 100000

theorem holds_news {w : World} {B : Nat} {ad : Addr} {n c : Nat} {xs : List Int} (hr : Holds w B (some ad) n c xs) : ∀ j u, (xs.map (Value.int .u8))[j]? = some u → w.cell? (ad.add j) = some u := by
  have hl := hr.len
  intro j u hj
  have hjl : j < xs.length := by
    by_cases hj' : j < xs.length
    · exact hj'
    · rw [List.getElem?_eq_none (by simp; omega)] at hj
      cases hj
  obtain ⟨b, off, he, _, hcl⟩ := hr.cells (by omega)
  obtain rfl := Option.some.inj he
  have e : (⟨b, off, none⟩ : Addr).add j = ⟨b, off + j, none⟩ := by
    by_cases hj0 : j = 0
    · subst hj0; simp [Addr.add]
    · simp [Addr.add, hj0]
  rw [e, hcl j (by omega), ← hj]
  simp [hjl]
theorem wpList_append_full {w : World} {ops : Array Oper} {rest : List Oper} {o : Oper} {a : Act} {Q : Exit → Act → World → Prop} (hgd : o.guard = none) (s x : Operand)
    (ho : o.op = .call { callee := .builtin .append, args := #[s, x], argTypes := #[29, 29] })
    (B : Nat) (A : Option Addr) (n c : Nat) (xs : List Int) (hs : a.eval s = .slice A n n) (hX : Holds w B A n c xs) (B' : Nat) (A' : Option Addr) (m c' : Nat) (ys : List Int) (hx : a.eval x = .slice A' m c')
    (hY : Holds w B' A' m c' ys) (hm : 0 < m) (hlen : n + m ≤ 140737488355328)
    (h : ∀ v' w', Hid (Own w' w.heap.size v' (xs ++ ys)) → Below w.heap.size w w' → wpList Tryd.prog ops Q rest (a.put o.dst v') w') :
    wpList Tryd.prog ops Q (o :: rest) a w := by
  obtain ⟨i0, hi, hz0, hz1, hz2⟩ := info_parts info_u8
  have hl := hX.len
  have hl' := hY.len
  rcases A' with _ | ad
  · exact absurd (hY.bare rfl) (by have := hY.fit; omega)
  refine wpList_append_grows w hgd s x 29 ho 5 i0 (.int .u8 0) 1 1 Tryd.underlying29 hi hz0 hz1 hz2 rfl (by omega) A n n (xs.map (Value.int .u8)) hs (fun hA => ?_) (by simp [hl]) (fun b hb => ?_)
    ad m c' (ys.map (Value.int .u8)) hx (by simp [hl']) (holds_news hY) (by intro v hv; obtain ⟨x, _, rfl⟩ := List.mem_map.1 hv; rfl) (by omega) (by unfold maxLen; omega) (by omega) ?_
  · have := hX.bare hA
    have := hX.fit
    exact ⟨by omega, by omega⟩
  · subst hb
    exact holds_news hX
  · intro v' w' h1 h2
    refine h v' w' ?_ ((Below.refl _ _).grown h2 (Nat.le_refl _) (fun k hk => by cases hk))
    show w'.ownsRow w.heap.size 5 1 v' (xs ++ ys).length ((xs ++ ys).map (Value.int .u8))
    rw [List.map_append, List.length_append, hl, hl']
    exact h1
end Go.Proofs.YtepkamkgodbffaaDoor
