/-
  Rows of structs: elements of s cells each ('f' lays an element as its cells): the call's own ('OwnS'), or such as came in ('HoldsS'); the law at append over them. No function of the program is named here.
-/
import Derived.Test.YtgbhnnobbciemaaOwnF2
import Derived.Deep.MidRow
namespace Go.Proofs.Ytgbhnnobbciemaa
open Go.RowKit Go.ChangeShapes Go.WideShapes

/-- the slice value v is nil, or heads a row in a block from 'base' on that begins with the elements xs -/
def OwnS {α : Type} (f : α → List Value) (s : Nat) (e : TypeId) (w : World) (base : Nat) (v : Value) (xs : List α) : Prop := w.ownsRow base e s v xs.length (xs.flatMap f)

/-- the slice value '.slice A n c' holds the elements xs, in memory below block B -/
structure HoldsS {α : Type} (f : α → List Value) (s : Nat) (w : World) (B : Nat) (A : Option Addr) (n c : Nat) (xs : List α) : Prop where
  len : xs.length = n
  fit : n ≤ c
  bare : A = none → c = 0
  cells : 0 < n → ∃ b off, A = some ⟨b, off, none⟩ ∧ b < B ∧ ∀ i x, xs[i]? = some x → ∀ j u, (f x)[j]? = some u → w.cell? ⟨b, off + (i * s + j), none⟩ = some u

theorem flatMap_get {α : Type} {f : α → List Value} {s : Nat} (hs : 0 < s) (hf : ∀ x, (f x).length = s) : ∀ (xs : List α) (i : Nat), (xs.flatMap f)[i]? = (xs[i / s]?).bind fun x => (f x)[i % s]?
  | [], i => by simp
  | x :: r, i => by
    rw [List.flatMap_cons, List.getElem?_append, hf x]
    by_cases h : i < s
    · rw [if_pos h, Nat.div_eq_of_lt h, Nat.mod_eq_of_lt h]; rfl
    · rw [if_neg h, flatMap_get hs hf r (i - s)]
      have e1 : i / s = (i - s) / s + 1 := by
        rw [Nat.div_eq_sub_div hs (by omega)]
      have e2 : i % s = (i - s) % s := by rw [Nat.mod_eq_sub_mod (by omega)]
      rw [e1, e2, List.getElem?_cons_succ]
theorem flatMap_len {α : Type} {f : α → List Value} {s : Nat} (hf : ∀ x, (f x).length = s) (xs : List α) : (xs.flatMap f).length = xs.length * s := by
  induction xs with
  | nil => simp
  | cons x r ih => rw [List.flatMap_cons, List.length_append, ih, hf, List.length_cons, Nat.add_mul]; omega

section
variable {α : Type} {f : α → List Value} {s : Nat} {w w' w2 : World} {B B' base base' b : Nat} {A : Option Addr} {n c : Nat} {xs ys : List α} {e e' T : TypeId} {v v' u : Value}

theorem HoldsS.keep (h : HoldsS f s w B A n c xs) (hk : ∀ p : Addr, p.block < B → w'.cell? p = w.cell? p) : HoldsS f s w' B A n c xs :=
  ⟨h.len, h.fit, h.bare, fun hn => by
    obtain ⟨b, off, e, hb, hc⟩ := h.cells hn
    exact ⟨b, off, e, hb, fun i x hi j u hj => (hk _ hb).trans (hc i x hi j u hj)⟩⟩
theorem HoldsS.mono (h : HoldsS f s w B A n c xs) (hB : B ≤ B') : HoldsS f s w B' A n c xs :=
  ⟨h.len, h.fit, h.bare, fun hn => by
    obtain ⟨b, off, e, hb, hc⟩ := h.cells hn
    exact ⟨b, off, e, by omega, hc⟩⟩
theorem HoldsS.below (h : HoldsS f s w B A n c xs) (hb : Below B w w') : HoldsS f s w' B A n c xs := h.keep fun _ hp => hb.cell hp
theorem HoldsS.over (h : HoldsS f s w w.heap.size A n c xs) (hb : Below w.heap.size w w') : HoldsS f s w' w'.heap.size A n c xs := (h.below hb).mono hb.size
theorem HoldsS.drew (h : HoldsS f s w B A n c xs) : HoldsS f s w.drew B A n c xs := h.keep fun _ _ => rfl
theorem HoldsS.drewN (h : HoldsS f s w B A n c xs) (k : Nat) : HoldsS f s (w.drewN k) B A n c xs := h.keep fun _ _ => rfl
theorem HoldsF.drew {f : α → Value} (h : HoldsF f w B A n c xs) : HoldsF f w.drew B A n c xs := h.keep fun _ _ => rfl
theorem HoldsF.drewN {f : α → Value} (h : HoldsF f w B A n c xs) (k : Nat) : HoldsF f (w.drewN k) B A n c xs := h.keep fun _ _ => rfl
theorem HoldsS.head (h : HoldsS f s w B A c c xs) (hn : n ≤ c) : HoldsS f s w B A n c (xs.take n) :=
  ⟨by have := h.len; simp; omega, hn, h.bare, fun h0 => by
    obtain ⟨b, off, rfl, hb, hc⟩ := h.cells (by omega)
    refine ⟨b, off, rfl, hb, fun i x hi => hc i x ?_⟩
    rw [List.getElem?_take] at hi
    split at hi
    · exact hi
    · cases hi⟩
theorem HoldsS.nil (f : α → List Value) (s : Nat) (w : World) (B : Nat) : HoldsS f s w B none 0 0 [] := ⟨rfl, Nat.le_refl _, fun _ => rfl, fun h => absurd h (by omega)⟩
/-- an element as a whole -/
theorem HoldsS.range (h : HoldsS f s w B A n c xs) {b off i : Nat} (hA : A = some ⟨b, off, none⟩) (hi : i < n) {x : α} (hx : xs[i]? = some x) : w.rangeAt b (off + i * s) (f x) := fun j u hj => by
  obtain ⟨b', off', e, _, hc⟩ := h.cells (by omega)
  rw [hA] at e
  injection e with e
  injection e with e1 e2 e3
  subst e1 e2
  have := hc i x hx j u hj
  rwa [← Nat.add_assoc] at this

theorem OwnS.nil (f : α → List Value) (s : Nat) (e : TypeId) (w : World) (base : Nat) : OwnS f s e w base (.slice none 0 0) [] := World.ownsRow_nil w base e s
theorem OwnS.mono (h : OwnS f s e w base v xs) (hb : base' ≤ base) : OwnS f s e w base' v xs := by
  refine ⟨h.1, ?_⟩
  rcases h.2 with h0 | ⟨g, cap, cur, rfl, h1, rest⟩
  · exact .inl h0
  · exact .inr ⟨g, cap, cur, rfl, by omega, rest⟩
theorem OwnS.keep (h : OwnS f s e w base v xs) (hk : ∀ i cs, v.ownBlock = some i → w.heap[i]? = some (.cells cs e (0, 0)) → w'.heap[i]? = w.heap[i]?) : OwnS f s e w' base v xs := by
  refine ⟨h.1, ?_⟩
  rcases h.2 with h0 | ⟨g, cap, cur, rfl, h1, hg, rest⟩
  · exact .inl h0
  · exact .inr ⟨g, cap, cur, rfl, h1, (hk g cur rfl hg).trans hg, rest⟩
theorem OwnS.below (h : OwnS f s e w base v xs) (hb : Below w.heap.size w w') : OwnS f s e w' base v xs := h.keep fun i _ _ hi => hb.block i (Array.getElem?_eq_some_iff.1 hi).1
theorem OwnS.only (h : OwnS f s e w base v xs) (hO : Only b w w') (hb : b < base) : OwnS f s e w' base v xs := by
  refine ⟨h.1, ?_⟩
  rcases h.2 with h0 | ⟨g, cap, cur, rfl, h1, hg, rest⟩
  · exact .inl h0
  · exact .inr ⟨g, cap, cur, rfl, h1, (hO.rest g (by omega)).trans hg, rest⟩
theorem OwnS.lt (h : OwnS f s e w base v xs) {i : Nat} (hi : v.ownBlock = some i) : i < w.heap.size := (World.ownsRow.lt h i hi).2
/-- what such a row reads as -/
theorem OwnS.holds (hs : 0 < s) (hf : ∀ x, (f x).length = s) (h : OwnS f s e w base v xs) : ∃ A n c, v = .slice A n c ∧ HoldsS f s w w.heap.size A n c xs := by
  rcases h.2 with ⟨rfl, h0⟩ | ⟨g, cap, cur, rfl, hb, hg, hnc, hcm, hcs, htk⟩
  · have : xs = [] := List.eq_nil_of_length_eq_zero h0
    subst this
    exact ⟨none, 0, 0, rfl, HoldsS.nil f s w _⟩
  · refine ⟨_, _, _, rfl, rfl, hnc, fun hA => (by cases hA), fun h0 => ⟨g, 0, rfl, (Array.getElem?_eq_some_iff.1 hg).1, fun i x hi j u hj => ?_⟩⟩
    have hil : i < xs.length := (List.getElem?_eq_some_iff.1 hi).1
    have hjs : j < s := by rw [← hf x]; exact (List.getElem?_eq_some_iff.1 hj).1
    have hlt : i * s + j < xs.length * s := by
      have : (i + 1) * s ≤ xs.length * s := Nat.mul_le_mul_right s hil
      rw [Nat.add_mul] at this
      omega
    rw [Nat.zero_add, cell_of_row w g _ cur e (0, 0) hg]
    have e1 : cur[i * s + j]? = (cur.toList.take (xs.length * s))[i * s + j]? := by
      rw [List.getElem?_take, if_pos hlt, Array.getElem?_toList]
    rw [e1, htk, flatMap_get hs hf, show (i * s + j) / s = i from by rw [Nat.mul_comm, Nat.mul_add_div hs, Nat.div_eq_of_lt hjs, Nat.add_zero], show (i * s + j) % s = j from by rw [Nat.mul_comm, Nat.mul_add_mod, Nat.mod_eq_of_lt hjs], hi]
    exact hj
end

section
variable {α : Type} {f : α → List Value} {s : Nat} {P : Program} {w : World} {ops : Array Oper} {rest : List Oper} {o : Oper} {a : Act} {Q : Exit → Act → World → Prop}

/-- append(out, src...), out the call's own, src whatever holds such elements -/
theorem wpList_append_holdS (hgd : o.guard = none) (l x : Operand) (f : α → List Value) (s : Nat) (hs0 : 0 < s) (hfl : ∀ y, (f y).length = s) (hf : ∀ y, ∀ u ∈ f y, u.oneCell' = true) (z : Value) (hzc : z.cells.size = s) (T e : TypeId) (bytes : Nat)
    (ht : P.underlying T = some (.slice e)) (hi : (P.info? e).map (fun i => (i.zero, i.size, i.bytes)) = some (some z, s, bytes))
    (ho : o.op = .call { callee := .builtin .append, args := #[l, x], argTypes := #[T, T] })
    (base : Nat) (v : Value) (xs : List α) (hs : a.eval l = v) (hown : OwnS f s e w base v xs) (B : Nat) (A : Option Addr) (m c : Nat) (ys : List α) (hx : a.eval x = .slice A m c)
    (hr : HoldsS f s w B A m c ys) (hlen : (xs.length + ys.length) * bytes ≤ 140737488355328) (h63 : xs.length + ys.length ≤ 9223372036854775807) (hbase : base ≤ w.heap.size)
    (h : ∀ v' w', Hid (OwnS f s e w' base v' (xs ++ ys)) → Hid (Below base w w') → wpList P ops Q rest (a.put o.dst v') w') :
    wpList P ops Q (o :: rest) a w := by
  obtain ⟨i0, hi0, hz0, hz1, hz2⟩ := info_parts hi
  have hl := hr.len
  rcases A with _ | ad
  · have hc := hr.bare rfl
    have hft := hr.fit
    have hm : m = 0 := by omega
    subst hm
    subst hc
    have : ys = [] := List.eq_nil_of_length_eq_zero hl
    subst this
    refine wpList_append_own_none hgd l x T ho base e i0 s ht hi0 v xs.length _ hs hown hx ?_
    exact h v w (by rw [List.append_nil]; exact hown) (Below.refl _ _)
  · refine wpList_append_own w hgd l x T ho base e i0 z s bytes ht hi0 hz0 hz1 hz2 hzc hs0 v xs.length _ hs hown ad m c (ys.flatMap f) hx (by rw [flatMap_len hfl, hl]) ?_
      (by intro v hv; obtain ⟨x, _, hx⟩ := List.mem_flatMap.1 hv; exact hf x v hx) (by unfold maxLen; omega) (by rw [← hl]; exact hlen) hbase ?_
    · intro j u hj
      have hjl : j < (ys.flatMap f).length := (List.getElem?_eq_some_iff.1 hj).1
      rw [flatMap_len hfl] at hjl
      have hm0 : 0 < m := by
        rcases Nat.eq_zero_or_pos m with h0 | h0
        · rw [hl, h0, Nat.zero_mul] at hjl; omega
        · exact h0
      obtain ⟨b, off, he, _, hcl⟩ := hr.cells hm0
      injection he with he
      subst he
      have e : (⟨b, off, none⟩ : Addr).add j = ⟨b, off + j, none⟩ := by
        by_cases hj0 : j = 0
        · subst hj0; simp [Addr.add]
        · simp [Addr.add, hj0]
      rw [e]
      rw [flatMap_get hs0 hfl, Option.bind_eq_some_iff] at hj
      obtain ⟨y, hy, hu⟩ := hj
      have := hcl _ y hy _ u hu
      rwa [Nat.mul_comm, Nat.div_add_mod] at this
    · intro v' w' hown' hgr _
      refine h v' w' ?_ ((Below.refl _ _).grown hgr hbase (fun k hk => (World.ownsRow.lt hown k hk).1))
      show World.ownsRow _ _ _ _ _ _ _
      rw [List.length_append, List.flatMap_append, hl]
      exact hown'
end
end Go.Proofs.Ytgbhnnobbciemaa
