/-
  Layer 14 (extent), words: pieces as the program keeps them ('Can': they rise, don't touch, have the bytes, cover what was written), what is told of a file is the one such list; what a write and a cut make of them. No program is named here.
-/
import Derived.Test.YtgbhnnobbciemaaEx0
namespace Go.Proofs.Ytgbhnnobbciemaa
open Go.RowKit
set_option linter.unusedVariables false

/-- the pieces l are just what P says was written of B -/
structure Can (B : List Int) (P : Nat → Prop) (l : List (Nat × List Int)) : Prop where
  full : ∀ e ∈ l, e.2 ≠ []
  ends : ∀ e ∈ l, e.1 + e.2.length ≤ B.length
  have_ : ∀ e ∈ l, e.2 = (B.drop e.1).take e.2.length
  rise : l.Pairwise fun e f => e.1 + e.2.length < f.1
  cover : ∀ i, P i ↔ ∃ e ∈ l, e.1 ≤ i ∧ i < e.1 + e.2.length

theorem Can.tail {B : List Int} {P : Nat → Prop} {x : Nat × List Int} {l : List (Nat × List Int)} (h : Can B P (x :: l)) : Can B (fun i => P i ∧ x.1 + x.2.length ≤ i) l := by
  obtain ⟨p1, p2⟩ := List.pairwise_cons.1 h.rise
  refine ⟨fun e he => h.full e (List.mem_cons_of_mem _ he), fun e he => h.ends e (List.mem_cons_of_mem _ he), fun e he => h.have_ e (List.mem_cons_of_mem _ he), p2, fun i => ⟨fun ⟨hi, hx⟩ => ?_, fun ⟨e, he, h1, h2⟩ => ⟨(h.cover i).2 ⟨e, List.mem_cons_of_mem _ he, h1, h2⟩, ?_⟩⟩⟩
  · obtain ⟨e, he, h1, h2⟩ := (h.cover i).1 hi
    rcases List.mem_cons.1 he with rfl | he
    · omega
    · exact ⟨e, he, h1, h2⟩
  · have := p1 e he
    omega
theorem Can.head_least {B : List Int} {P : Nat → Prop} {x : Nat × List Int} {l : List (Nat × List Int)} (h : Can B P (x :: l)) : P x.1 ∧ ∀ i, P i → x.1 ≤ i := by
  have hp := List.length_pos_iff.2 (h.full x (List.mem_cons_self ..))
  refine ⟨(h.cover _).2 ⟨x, List.mem_cons_self .., Nat.le_refl _, by omega⟩, fun i hi => ?_⟩
  obtain ⟨e, he, h1, h2⟩ := (h.cover i).1 hi
  rcases List.mem_cons.1 he with rfl | he
  · exact h1
  · have := (List.pairwise_cons.1 h.rise).1 e he
    omega
/-- behind the first piece nothing was written -/
theorem Can.head_end {B : List Int} {P : Nat → Prop} {x : Nat × List Int} {l : List (Nat × List Int)} (h : Can B P (x :: l)) : ¬ P (x.1 + x.2.length) := fun hp => by
  obtain ⟨e, he, h1, h2⟩ := (h.cover _).1 hp
  rcases List.mem_cons.1 he with rfl | he
  · omega
  · have := (List.pairwise_cons.1 h.rise).1 e he
    omega
theorem Can.unique {B : List Int} : ∀ {l m : List (Nat × List Int)} {P : Nat → Prop}, Can B P l → Can B P m → l = m
  | [], [], _, _, _ => rfl
  | [], y :: m, P, h, k => by
    obtain ⟨e, he, _⟩ := (h.cover _).1 k.head_least.1
    cases he
  | x :: l, [], P, h, k => by
    obtain ⟨e, he, _⟩ := (k.cover _).1 h.head_least.1
    cases he
  | x :: l, y :: m, P, h, k => by
    have e1 : x.1 = y.1 := Nat.le_antisymm (h.head_least.2 _ k.head_least.1) (k.head_least.2 _ h.head_least.1)
    have e2 : x.2.length = y.2.length := by
      rcases Nat.lt_trichotomy x.2.length y.2.length with h1 | h1 | h1
      · exact absurd ((k.cover _).2 ⟨y, List.mem_cons_self .., by omega, by omega⟩) h.head_end
      · exact h1
      · exact absurd ((h.cover _).2 ⟨x, List.mem_cons_self .., by omega, by omega⟩) k.head_end
    have e3 : x.2 = y.2 := by rw [h.have_ x (List.mem_cons_self ..), k.have_ y (List.mem_cons_self ..), e1, e2]
    have e4 : x = y := Prod.ext e1 e3
    subst e4
    rw [h.tail.unique k.tail]

theorem extN_cover (B : List Int) (Z : List Bool) (i : Nat) (hi : i ≤ B.length) : ∀ j, (j < i ∧ Z.getD j false = true) ↔ ∃ e ∈ extN B Z i, e.1 ≤ j ∧ j < e.1 + e.2.length := by
  induction i with
  | zero => exact fun j => ⟨fun h => absurd h.1 (Nat.not_lt_zero _), fun ⟨e, he, _⟩ => by cases he⟩
  | succ i ih =>
    have ih := ih (by omega)
    obtain ⟨h1, h2, h3⟩ := extN_ok B Z i (by omega)
    intro j
    by_cases hz : Z.getD i false = true
    · by_cases hp : i = 0 ∨ Z.getD (i - 1) false = false
      · have e : extN B Z (i + 1) = extN B Z i ++ [(i, [B.getD i 0])] := by
          show (if _ then (if _ then _ else _) else _) = _
          rw [if_pos hz, if_pos hp]
        rw [e]
        constructor
        · rintro ⟨hj, hzj⟩
          by_cases hji : j = i
          · exact ⟨(i, [B.getD i 0]), List.mem_append_right _ (List.mem_singleton.2 rfl), by simp; omega, by simp; omega⟩
          · obtain ⟨x, hx, hh⟩ := (ih j).1 ⟨by omega, hzj⟩
            exact ⟨x, List.mem_append_left _ hx, hh⟩
        · rintro ⟨x, hx, a1, a2⟩
          rcases List.mem_append.1 hx with hx | hx
          · obtain ⟨b1, b2⟩ := (ih j).2 ⟨x, hx, a1, a2⟩
            exact ⟨by omega, b2⟩
          · rw [List.mem_singleton.1 hx] at a1 a2
            obtain rfl : j = i := by simp at a1 a2; omega
            exact ⟨by omega, hz⟩
      · have hi0 : 0 < i := by omega
        have hzi : Z.getD (i - 1) false = true := by
          cases hq : Z.getD (i - 1) false
          · exact absurd (.inr hq) hp
          · rfl
        obtain ⟨r, a, bs, hr, hab⟩ := h2 hi0 hzi
        have e : extN B Z (i + 1) = r ++ [(a, bs ++ [B.getD i 0])] := by
          show (if _ then (if _ then _ else _) else _) = _
          rw [if_pos hz, if_neg hp, hr]
          simp
        rw [hr] at ih
        rw [e]
        constructor
        · rintro ⟨hj, hzj⟩
          by_cases hji : j = i
          · exact ⟨_, List.mem_append_right _ (List.mem_singleton.2 rfl), by show a ≤ j; omega, by simp; omega⟩
          · obtain ⟨x, hx, b1, b2⟩ := (ih j).1 ⟨by omega, hzj⟩
            rcases List.mem_append.1 hx with hx | hx
            · exact ⟨x, List.mem_append_left _ hx, b1, b2⟩
            · rw [List.mem_singleton.1 hx] at b1 b2
              exact ⟨_, List.mem_append_right _ (List.mem_singleton.2 rfl), b1, by simp at b2 ⊢; omega⟩
        · rintro ⟨x, hx, a1, a2⟩
          rcases List.mem_append.1 hx with hx | hx
          · obtain ⟨b1, b2⟩ := (ih j).2 ⟨x, List.mem_append_left _ hx, a1, a2⟩
            exact ⟨by omega, b2⟩
          · rw [List.mem_singleton.1 hx] at a1 a2
            by_cases hji : j = i
            · subst hji
              exact ⟨by omega, hz⟩
            · obtain ⟨b1, b2⟩ := (ih j).2 ⟨(a, bs), List.mem_append_right _ (List.mem_singleton.2 rfl), a1, by simp at a2 ⊢; omega⟩
              exact ⟨by omega, b2⟩
    · have e : extN B Z (i + 1) = extN B Z i := by
        show (if _ then (if _ then _ else _) else _) = _
        rw [if_neg hz]
      rw [e, ← ih j]
      constructor
      · rintro ⟨hj, hzj⟩
        exact ⟨by rcases Nat.lt_or_eq_of_le (Nat.le_of_lt_succ hj) with h | h; exact h; subst h; exact absurd hzj hz, hzj⟩
      · rintro ⟨hj, hzj⟩
        exact ⟨by omega, hzj⟩
/-- what was written -/
def mark (Z : List Bool) (i : Nat) : Prop := Z.getD i false = true
theorem mark_lt {Z : List Bool} {i : Nat} (h : mark Z i) : i < Z.length := by
  unfold mark at h
  rw [List.getD_eq_getElem?_getD] at h
  rcases Nat.lt_or_ge i Z.length with h1 | h1
  · exact h1
  · rw [List.getElem?_eq_none h1] at h
    cases h
theorem exts_can {B : List Int} {Z : List Bool} (h : B.length = Z.length) : Can B (mark Z) (exts B Z) := by
  have k := exts_ok B Z
  refine ⟨k.some, k.ends, k.have_, k.rise, fun i => ?_⟩
  have := extN_cover B Z B.length (Nat.le_refl _) i
  rw [show exts B Z = extN B Z B.length from rfl, ← this]
  exact ⟨fun hi => ⟨by rw [h]; exact mark_lt hi, hi⟩, fun hi => hi.2⟩
theorem Can.is_exts {B : List Int} {Z : List Bool} {l : List (Nat × List Int)} (h : B.length = Z.length) (k : Can B (mark Z) l) : l = exts B Z := k.unique (exts_can h)

/-! ### by places -/
theorem list_getD {α : Type} {z : α} {l m : List α} (hl : l.length = m.length) (h : ∀ i, i < l.length → l.getD i z = m.getD i z) : l = m := by
  refine List.ext_getElem hl fun i h1 h2 => ?_
  have := h i h1
  rw [List.getD_eq_getElem?_getD, List.getD_eq_getElem?_getD, List.getElem?_eq_getElem h1, List.getElem?_eq_getElem h2] at this
  exact this
theorem cut_getD (B : List Int) (a n i : Nat) (hi : i < n) : ((B.drop a).take n).getD i 0 = B.getD (a + i) 0 := by
  rw [List.getD_eq_getElem?_getD, List.getElem?_take, if_pos hi, List.getElem?_drop, ← List.getD_eq_getElem?_getD]
theorem cut_len (B : List Int) (a n : Nat) (h : a + n ≤ B.length) : ((B.drop a).take n).length = n := by rw [List.length_take, List.length_drop]; omega
theorem Can.at {B : List Int} {P : Nat → Prop} {l : List (Nat × List Int)} (h : Can B P l) {e : Nat × List Int} (he : e ∈ l) {i : Nat} (hi : i < e.2.length) : e.2.getD i 0 = B.getD (e.1 + i) 0 := by
  rw [← cut_getD B e.1 e.2.length i hi, ← h.have_ e he]
/-- a piece has the bytes of B', too, if these are the same there -/
theorem Can.same {B B' : List Int} {P : Nat → Prop} {l : List (Nat × List Int)} (h : Can B P l) {e : Nat × List Int} (he : e ∈ l) (hB : e.1 + e.2.length ≤ B'.length) (hs : ∀ i, e.1 ≤ i → i < e.1 + e.2.length → B'.getD i 0 = B.getD i 0) : e.2 = (B'.drop e.1).take e.2.length := by
  refine list_getD (z := 0) (by rw [cut_len _ _ _ hB]) fun i hi => ?_
  rw [cut_getD _ _ _ _ hi, hs _ (by omega) (by omega), h.at he hi]
theorem Can.lt {B : List Int} {P : Nat → Prop} {l : List (Nat × List Int)} (h : Can B P l) {i j : Nat} {e f : Nat × List Int} (hi : l[i]? = some e) (hj : l[j]? = some f) (hij : i < j) : e.1 + e.2.length < f.1 := by
  obtain ⟨a1, a2⟩ := List.getElem?_eq_some_iff.1 hi
  obtain ⟨b1, b2⟩ := List.getElem?_eq_some_iff.1 hj
  have := List.pairwise_iff_getElem.1 h.rise i j a1 b1 hij
  rw [a2, b2] at this
  exact this
theorem mem_at {α : Type} {l : List α} {x : α} (h : x ∈ l) : ∃ i, i < l.length ∧ l[i]? = some x := by
  obtain ⟨i, hi, e⟩ := List.mem_iff_getElem.1 h
  exact ⟨i, hi, by rw [List.getElem?_eq_getElem hi, e]⟩
theorem mem_take_at {α : Type} {l : List α} {x : α} {f : Nat} (h : x ∈ l.take f) : ∃ i, i < f ∧ l[i]? = some x := by
  obtain ⟨i, hi, e⟩ := mem_at h
  rw [List.length_take] at hi
  exact ⟨i, by omega, by rwa [List.getElem?_take, if_pos (by omega)] at e⟩
theorem mem_drop_at {α : Type} {l : List α} {x : α} {f : Nat} (h : x ∈ l.drop f) : ∃ i, f ≤ i ∧ l[i]? = some x := by
  obtain ⟨i, hi, e⟩ := mem_at h
  rw [List.getElem?_drop] at e
  exact ⟨f + i, by omega, e⟩
theorem take_mem_at {α : Type} {l : List α} {x : α} {f i : Nat} (h : l[i]? = some x) (hi : i < f) : x ∈ l.take f := by
  refine List.mem_of_getElem? (i := i) ?_
  rw [List.getElem?_take, if_pos hi, h]
theorem drop_mem_at {α : Type} {l : List α} {x : α} {f i : Nat} (h : l[i]? = some x) (hi : f ≤ i) : x ∈ l.drop f := by
  refine List.mem_of_getElem? (i := i - f) ?_
  rw [List.getElem?_drop, show f + (i - f) = i by omega, h]

/-- a new piece in the place of those from f up to h: what it touches is in it -/
theorem Can.put {B B' : List Int} {P P' : Nat → Prop} {l : List (Nat × List Int)} (k : Can B P l) {f h a t : Nat} {x : List Int} (hfh : f ≤ h) (hat : a < t) (htB : t ≤ B'.length) (hBB : B.length ≤ B'.length)
    (hx : x = (B'.drop a).take (t - a)) (hlo : ∀ i e, i < f → l[i]? = some e → e.1 + e.2.length < a) (hhi : ∀ i e, h ≤ i → l[i]? = some e → t < e.1)
    (hmid : ∀ i e, f ≤ i → i < h → l[i]? = some e → a ≤ e.1 ∧ e.1 + e.2.length ≤ t)
    (hP : ∀ i, P' i ↔ (a ≤ i ∧ i < t) ∨ P i) (hsame : ∀ i, i < a ∨ t ≤ i → i < B.length → B'.getD i 0 = B.getD i 0) : Can B' P' (l.take f ++ [(a, x)] ++ l.drop h) := by
  have hxl : x.length = t - a := by rw [hx, cut_len _ _ _ (by omega)]
  have hmem : ∀ e, e ∈ l.take f ++ [(a, x)] ++ l.drop h → (e ∈ l ∧ (e.1 + e.2.length < a ∨ t < e.1)) ∨ e = (a, x) := fun e he => by
    rcases List.mem_append.1 he with he | he
    · rcases List.mem_append.1 he with he | he
      · obtain ⟨i, hi, hl⟩ := mem_take_at he
        exact .inl ⟨List.mem_of_mem_take he, .inl (hlo i e hi hl)⟩
      · exact .inr (List.mem_singleton.1 he)
    · obtain ⟨i, hi, hl⟩ := mem_drop_at he
      exact .inl ⟨List.mem_of_mem_drop he, .inr (hhi i e hi hl)⟩
  refine ⟨fun e he => ?_, fun e he => ?_, fun e he => ?_, ?_, fun i => ?_⟩
  · rcases hmem e he with ⟨h1, _⟩ | rfl
    · exact k.full e h1
    · exact List.length_pos_iff.1 (by show 0 < x.length; omega)
  · rcases hmem e he with ⟨h1, _⟩ | rfl
    · have := k.ends e h1
      omega
    · show a + x.length ≤ _
      omega
  · rcases hmem e he with ⟨h1, h2⟩ | rfl
    · have h3 := k.ends e h1
      exact k.same h1 (by omega) fun i i1 i2 => hsame i (by omega) (by omega)
    · show x = (B'.drop a).take x.length
      rw [hxl, ← hx]
  · have p1 : (l.take f).Pairwise fun e f => e.1 + e.2.length < f.1 := k.rise.sublist (List.take_sublist _ _)
    have p2 : (l.drop h).Pairwise fun e f => e.1 + e.2.length < f.1 := k.rise.sublist (List.drop_sublist _ _)
    refine List.pairwise_append.2 ⟨List.pairwise_append.2 ⟨p1, List.pairwise_singleton _ _, fun e he g hg => ?_⟩, p2, fun e he g hg => ?_⟩
    · rw [List.mem_singleton.1 hg]
      obtain ⟨i, hi, hl⟩ := mem_take_at he
      exact hlo i e hi hl
    · obtain ⟨j, hj, hlj⟩ := mem_drop_at hg
      rcases List.mem_append.1 he with he | he
      · obtain ⟨i, hi, hl⟩ := mem_take_at he
        exact k.lt hl hlj (by omega)
      · rw [List.mem_singleton.1 he]
        have := hhi j g hj hlj
        show a + x.length < _
        omega
  · rw [hP i, k.cover i]
    constructor
    · rintro (h1 | ⟨e, he, h1, h2⟩)
      · exact ⟨(a, x), List.mem_append_left _ (List.mem_append_right _ (List.mem_singleton.2 rfl)), h1.1, by show i < a + x.length; omega⟩
      · obtain ⟨j, hj, hl⟩ := mem_at he
        by_cases hjf : j < f
        · exact ⟨e, List.mem_append_left _ (List.mem_append_left _ (take_mem_at hl hjf)), h1, h2⟩
        · by_cases hjh : j < h
          · obtain ⟨m1, m2⟩ := hmid j e (by omega) hjh hl
            exact ⟨(a, x), List.mem_append_left _ (List.mem_append_right _ (List.mem_singleton.2 rfl)), by show a ≤ i; omega, by show i < a + x.length; omega⟩
          · exact ⟨e, List.mem_append_right _ (drop_mem_at hl (by omega)), h1, h2⟩
    · rintro ⟨e, he, h1, h2⟩
      rcases hmem e he with ⟨h3, _⟩ | rfl
      · exact .inr ⟨e, h3, h1, h2⟩
      · exact .inl ⟨h1, by have : i < a + x.length := h2; omega⟩

/-- pieces ahead of a place, the last of them cut there -/
theorem Can.cutOff {B B' : List Int} {P P' : Nat → Prop} {l : List (Nat × List Int)} (k : Can B P l) {f s : Nat} (hlo : ∀ i e, i < f → l[i]? = some e → e.1 < s) (hhi : ∀ i e, f ≤ i → l[i]? = some e → s ≤ e.1)
    (hB : s ≤ B'.length) (hP : ∀ i, P' i ↔ i < s ∧ P i) (hsame : ∀ i, i < s → B'.getD i 0 = B.getD i 0) : Can B' P' ((l.take f).map fun e => (e.1, e.2.take (s - e.1))) := by
  have hmem : ∀ y, y ∈ (l.take f).map (fun e => (e.1, e.2.take (s - e.1))) → ∃ e, e ∈ l ∧ e.1 < s ∧ y = (e.1, e.2.take (s - e.1)) := fun y hy => by
    obtain ⟨e, he, rfl⟩ := List.mem_map.1 hy
    obtain ⟨i, hi, hl⟩ := mem_take_at he
    exact ⟨e, List.mem_of_mem_take he, hlo i e hi hl, rfl⟩
  refine ⟨fun y hy => ?_, fun y hy => ?_, fun y hy => ?_, ?_, fun i => ?_⟩
  · obtain ⟨e, he, h1, rfl⟩ := hmem y hy
    have := List.length_pos_iff.2 (k.full e he)
    exact List.length_pos_iff.1 (by show 0 < (e.2.take (s - e.1)).length; rw [List.length_take]; omega)
  · obtain ⟨e, he, h1, rfl⟩ := hmem y hy
    show e.1 + (e.2.take (s - e.1)).length ≤ _
    rw [List.length_take]
    omega
  · obtain ⟨e, he, h1, rfl⟩ := hmem y hy
    show e.2.take (s - e.1) = (B'.drop e.1).take (e.2.take (s - e.1)).length
    have hl : (e.2.take (s - e.1)).length = min (s - e.1) e.2.length := List.length_take
    refine list_getD (z := 0) (by rw [cut_len _ _ _ (by omega)]) fun i hi => ?_
    rw [cut_getD _ _ _ _ hi, hsame _ (by omega), List.getD_eq_getElem?_getD, List.getElem?_take, if_pos (by omega), ← List.getD_eq_getElem?_getD, k.at he (by omega)]
  · refine List.pairwise_map.2 ?_
    refine (k.rise.sublist (List.take_sublist f l)).imp fun {e g} h => ?_
    show e.1 + (e.2.take (s - e.1)).length < g.1
    rw [List.length_take]
    omega
  · rw [hP i, k.cover i]
    constructor
    · rintro ⟨hi, e, he, h1, h2⟩
      obtain ⟨j, hj, hl⟩ := mem_at he
      have hjf : j < f := by
        rcases Nat.lt_or_ge j f with h | h
        · exact h
        · have := hhi j e h hl
          omega
      refine ⟨_, List.mem_map.2 ⟨e, take_mem_at hl hjf, rfl⟩, h1, ?_⟩
      show i < e.1 + (e.2.take (s - e.1)).length
      rw [List.length_take]
      omega
    · rintro ⟨y, hy, h1, h2⟩
      obtain ⟨e, he, h3, rfl⟩ := hmem y hy
      have h2 : i < e.1 + (e.2.take (s - e.1)).length := h2
      have h1 : e.1 ≤ i := h1
      rw [List.length_take] at h2
      exact ⟨by omega, e, he, h1, by omega⟩
end Go.Proofs.Ytgbhnnobbciemaa
