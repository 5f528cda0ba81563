/-
  Layer 14 (extent), words: what pieces laid over noughts come to; what a write, a cut and a read of the program's pieces are. No program is named here.
-/
import Derived.Test.YtgbhnnobbciemaaExV
namespace Go.Proofs.Ytgbhnnobbciemaa
open Go.RowKit
set_option linter.unusedVariables false

theorem layB_eq {X ys : List Int} {o : Nat} (h : o + ys.length ≤ X.length) : layB X o ys = layAt 0 X o ys := by
  unfold layB layAt
  rw [Nat.max_eq_left h, padTo_self]
theorem layB_get {X ys : List Int} {o : Nat} (h : o + ys.length ≤ X.length) (i : Nat) : (layB X o ys).getD i 0 = if o ≤ i ∧ i < o + ys.length then ys.getD (i - o) 0 else X.getD i 0 := by
  rw [layB_eq h, layAt_get]
/-- a place in the i-th piece has its byte, a place in none is 0 -/
theorem joinB_get {B : List Int} {a N : Nat} {lo : List ExtV} (hfit : ∀ x ∈ lo, a ≤ x.1 ∧ x.1 - a + x.2.2.2.2.length ≤ N) (hB : ∀ x ∈ lo, ∀ i, i < x.2.2.2.2.length → x.2.2.2.2.getD i 0 = B.getD (x.1 + i) 0) (i : Nat) (hi : i < N) (j : Nat) :
    ((∃ k x, k < j ∧ lo[k]? = some x ∧ x.1 ≤ a + i ∧ a + i < x.1 + x.2.2.2.2.length) → (joinB a N lo j).getD i 0 = B.getD (a + i) 0) ∧
    ((∀ k x, k < j → lo[k]? = some x → ¬ (x.1 ≤ a + i ∧ a + i < x.1 + x.2.2.2.2.length)) → (joinB a N lo j).getD i 0 = 0) := by
  induction j with
  | zero =>
    refine ⟨fun ⟨k, x, hk, _⟩ => absurd hk (Nat.not_lt_zero _), fun _ => ?_⟩
    unfold joinB
    simp [List.getD_eq_getElem?_getD, hi]
  | succ j ih =>
    have hjl := joinB_len (a := a) (N := N) (fun x hx => (hfit x hx).2) j
    rcases Nat.lt_or_ge j lo.length with h1 | h1
    · have hx : lo[j]? = some lo[j] := List.getElem?_eq_getElem h1
      have hm : lo[j] ∈ lo := List.getElem_mem _
      obtain ⟨f1, f2⟩ := hfit _ hm
      rw [joinB_succ hx, layB_get (by rw [hjl]; exact f2)]
      by_cases hin : lo[j].1 ≤ a + i ∧ a + i < lo[j].1 + lo[j].2.2.2.2.length
      · rw [if_pos (by omega), hB _ hm _ (by omega), show lo[j].1 + (i - (lo[j].1 - a)) = a + i by omega]
        exact ⟨fun _ => rfl, fun h => absurd hin (h j _ (by omega) hx)⟩
      · rw [if_neg (by omega)]
        refine ⟨fun ⟨k, x, hk, hkx, h3⟩ => ih.1 ⟨k, x, ?_, hkx, h3⟩, fun h => ih.2 fun k x hk => h k x (by omega)⟩
        rcases Nat.lt_or_ge k j with h4 | h4
        · exact h4
        · obtain rfl : k = j := by omega
          rw [hx] at hkx
          injection hkx with hkx
          subst hkx
          exact absurd h3 hin
    · have e : joinB a N lo (j + 1) = joinB a N lo j := by
        unfold joinB
        rw [List.take_of_length_le (by omega), List.take_of_length_le h1]
      rw [e]
      refine ⟨fun ⟨k, x, hk, hkx, h3⟩ => ih.1 ⟨k, x, ?_, hkx, h3⟩, fun h => ih.2 fun k x hk => h k x (by omega)⟩
      have := (List.getElem?_eq_some_iff.1 hkx).1
      omega
theorem extsL_at {l : List ExtV} {i : Nat} {e : Nat × List Int} (h : (extsL l)[i]? = some e) : ∃ x, l[i]? = some x ∧ e = (x.1, x.2.2.2.2) := by
  unfold extsL at h
  rw [List.getElem?_map] at h
  cases hx : l[i]? with
  | none => rw [hx] at h; cases h
  | some x => rw [hx] at h; injection h with h; exact ⟨x, rfl, h.symm⟩
theorem extsL_get {l : List ExtV} {i : Nat} {x : ExtV} (h : l[i]? = some x) : (extsL l)[i]? = some (x.1, x.2.2.2.2) := by
  unfold extsL
  rw [List.getElem?_map, h]
  rfl
theorem extsL_mem {l : List ExtV} {x : ExtV} (h : x ∈ l) : (x.1, x.2.2.2.2) ∈ extsL l := List.mem_map.2 ⟨x, h, rfl⟩
theorem sub_at {l : List ExtV} {f h k : Nat} {x : ExtV} (hx : ((l.take h).drop f)[k]? = some x) : f + k < h ∧ l[f + k]? = some x := by
  rw [List.getElem?_drop, List.getElem?_take] at hx
  by_cases h1 : f + k < h
  · rw [if_pos h1] at hx; exact ⟨h1, hx⟩
  · rw [if_neg h1] at hx; cases hx
theorem sub_get {l : List ExtV} {f h k : Nat} {x : ExtV} (h1 : f ≤ k) (h2 : k < h) (hx : l[k]? = some x) : ((l.take h).drop f)[k - f]? = some x := by
  rw [List.getElem?_drop, List.getElem?_take, show f + (k - f) = k by omega, if_pos h2, hx]

/-- what a write comes to: pieces f up to h and the new one become one -/
structure WrOk (l : List ExtV) (p n f h a t : Nat) : Prop where
  fh : f ≤ h
  hl : h ≤ l.length
  ap : a ≤ p
  pt : p + n ≤ t
  none : h - f = 0 → a = p ∧ t = p + n
  fst : ∀ x, ((l.take h).drop f)[0]? = some x → a = min p x.1
  lst : ∀ x, 0 < h - f → ((l.take h).drop f)[h - f - 1]? = some x → t = max (p + n) (x.1 + x.2.2.1)
  fit : ∀ x ∈ (l.take h).drop f, a ≤ x.1 ∧ x.1 + x.2.2.1 ≤ t ∧ 0 < x.2.2.1
  tf : ∀ x, ((l.take h).drop f)[0]? = some x → p ≤ x.1 + x.2.2.1
  tl : ∀ x, ((l.take h).drop f)[h - f - 1]? = some x → x.1 ≤ p + n
  lo : ∀ (i : Nat) x, i < f → l[i]? = some x → x.1 + x.2.2.1 < a
  hi : ∀ (i : Nat) x, h ≤ i → l[i]? = some x → t < x.1
theorem sub_len {l : List ExtV} {f h : Nat} (hl : h ≤ l.length) : ((l.take h).drop f).length = h - f := by rw [List.length_drop, List.length_take]; omega
theorem wr_ok {B : List Int} {P : Nat → Prop} {l : List ExtV} (k : Can B P (extsL l)) (hlen : ∀ x ∈ l, x.2.2.2.2.length = x.2.2.1) {p n f h : Nat} (hn : 0 < n) (hfl : f ≤ l.length) (hhl : h ≤ l.length)
    (f0 : ∀ (i : Nat) x, i < f → l[i]? = some x → ¬ (p : Int) - 1 < ((x.1 + x.2.2.1 : Nat) : Int)) (f1 : ∀ (i : Nat) x, f ≤ i → l[i]? = some x → (p : Int) - 1 < ((x.1 + x.2.2.1 : Nat) : Int))
    (h0 : ∀ (i : Nat) x, i < h → l[i]? = some x → ¬ ((p + n + 1 : Nat) : Int) ≤ (x.1 : Int)) (h1 : ∀ (i : Nat) x, h ≤ i → l[i]? = some x → ((p + n + 1 : Nat) : Int) ≤ (x.1 : Int)) : ∃ a t, WrOk l p n f h a t := by
  have lt : ∀ (i j : Nat) (x y : ExtV), l[i]? = some x → l[j]? = some y → i < j → x.1 + x.2.2.1 < y.1 := fun i j x y hx hy hij => by
    have := k.lt (extsL_get hx) (extsL_get hy) hij
    rw [← hlen x (List.mem_of_getElem? hx)]
    exact this
  have pos : ∀ x ∈ l, 0 < x.2.2.1 := fun x hx => by
    rw [← hlen x hx]
    exact List.length_pos_iff.2 (k.full (x.1, x.2.2.2.2) (extsL_mem hx))
  have hfh : f ≤ h := by
    rcases Nat.lt_or_ge h f with h2 | h2
    · have hx : l[h]? = some l[h] := List.getElem?_eq_getElem (by omega)
      have h3 := f0 h _ h2 hx
      have h4 := h1 h _ (Nat.le_refl _) hx
      omega
    · exact h2
  rcases Nat.eq_or_lt_of_le hfh with h2 | h2
  · subst h2
    refine ⟨p, p + n, hfh, hhl, Nat.le_refl _, Nat.le_refl _, fun _ => ⟨rfl, rfl⟩, fun x hx => absurd (sub_at hx).1 (by omega), fun x h3 => by omega, fun x hx => ?_, fun x hx => absurd (sub_at hx).1 (by omega), fun x hx => absurd (sub_at hx).1 (by omega), fun i x hi hx => ?_, fun i x hi hx => ?_⟩
    · obtain ⟨i, hi, hx⟩ := mem_at hx
      exact absurd (sub_at hx).1 (by omega)
    · have := f0 i x hi hx
      omega
    · have := h1 i x hi hx
      omega
  · have hx : l[f]? = some l[f] := List.getElem?_eq_getElem (by omega)
    have hy : l[h - 1]? = some l[h - 1] := List.getElem?_eq_getElem (by omega)
    refine ⟨min p l[f].1, max (p + n) (l[h - 1].1 + l[h - 1].2.2.1), hfh, hhl, Nat.min_le_left _ _, Nat.le_max_left _ _, fun h3 => by omega, fun x h3 => ?_, fun x _ h3 => ?_, fun x h3 => ?_, fun x h3 => ?_, fun x h3 => ?_, fun i x hi h3 => ?_, fun i x hi h3 => ?_⟩
    · obtain ⟨_, h4⟩ := sub_at h3
      rw [Nat.add_zero, hx] at h4
      injection h4 with h4
      rw [h4]
    · obtain ⟨_, h4⟩ := sub_at h3
      rw [show f + (h - f - 1) = h - 1 by omega, hy] at h4
      injection h4 with h4
      rw [h4]
    · obtain ⟨i, hi, h4⟩ := mem_at h3
      obtain ⟨h5, h6⟩ := sub_at h4
      have h7 := pos x (List.mem_of_getElem? h6)
      have h8 : l[f].1 ≤ x.1 := by
        rcases Nat.eq_zero_or_pos i with h9 | h9
        · subst h9
          rw [Nat.add_zero, hx] at h6
          injection h6 with h6
          rw [h6]
          exact Nat.le_refl _
        · have := lt f (f + i) _ _ hx h6 (by omega)
          omega
      have h9 : x.1 + x.2.2.1 ≤ l[h - 1].1 + l[h - 1].2.2.1 := by
        rcases Nat.eq_or_lt_of_le (show f + i ≤ h - 1 by omega) with h9 | h9
        · rw [h9, hy] at h6
          injection h6 with h6
          rw [h6]
          exact Nat.le_refl _
        · have := lt _ _ _ _ h6 hy h9
          omega
      refine ⟨?_, ?_, h7⟩ <;> omega
    · have := f1 _ x (Nat.le_add_right f 0) (sub_at h3).2
      omega
    · obtain ⟨h4, h5⟩ := sub_at h3
      have := h0 _ x h4 h5
      omega
    · have h4 := f0 i x hi h3
      have h5 := lt i f _ _ h3 hx hi
      omega
    · have h4 := h1 i x hi h3
      have h5 := lt (h - 1) i _ _ hy h3 (by omega)
      omega
theorem getD_true {n i : Nat} (h : i < n) : (List.replicate n true).getD i false = true := by
  rw [List.getD_eq_getElem?_getD, List.getElem?_replicate, if_pos h]; rfl
/-- the pieces behind a write -/
theorem WrOk.can {B : List Int} {Z : List Bool} {l : List ExtV} {p n f h a t : Nat} (r : WrOk l p n f h a t) (k : Can B (mark Z) (extsL l)) (hlen : ∀ x ∈ l, x.2.2.2.2.length = x.2.2.1) (hz : ∀ i, ¬ mark Z i → B.getD i 0 = 0) (hBZ : B.length = Z.length)
    {ox : List Int} (hox : ox.length = n) (hn : 0 < n) (hj : Option Addr) (m : Nat) (c : Nat) :
    Can (layAt 0 B p ox) (mark (layAt false Z p (List.replicate n true))) (extsL (l.take f ++ [((a, hj, m, c, layB (joinB a (t - a) ((l.take h).drop f) (h - f)) (p - a) ox) : ExtV)] ++ l.drop h)) ∧
    (layB (joinB a (t - a) ((l.take h).drop f) (h - f)) (p - a) ox).length = t - a := by
  have hap := r.ap
  have hpt := r.pt
  have hsub : ∀ x ∈ (l.take h).drop f, x ∈ l := fun x hx => List.mem_of_mem_take (List.mem_of_mem_drop hx)
  have hfit : ∀ x ∈ (l.take h).drop f, a ≤ x.1 ∧ x.1 - a + x.2.2.2.2.length ≤ t - a := fun x hx => by
    obtain ⟨h1, h2, h3⟩ := r.fit x hx
    rw [hlen x (hsub x hx)]
    omega
  have hjl := joinB_len (a := a) (N := t - a) (fun x hx => (hfit x hx).2) (h - f)
  have hXl : (layB (joinB a (t - a) ((l.take h).drop f) (h - f)) (p - a) ox).length = t - a := by rw [layB_len (by rw [hjl, hox]; omega), hjl]
  have ends : ∀ x ∈ l, x.1 + x.2.2.1 ≤ B.length := fun x hx => by
    have := k.ends _ (extsL_mem hx)
    rw [← hlen x hx]
    exact this
  have htB : t ≤ (layAt 0 B p ox).length := by
    rw [layAt_len, hox]
    rcases Nat.eq_zero_or_pos (h - f) with h0 | h0
    · have := (r.none h0).2
      omega
    · obtain ⟨y, hx⟩ : ∃ y, ((l.take h).drop f)[h - f - 1]? = some y := ⟨_, List.getElem?_eq_getElem (show h - f - 1 < _ by rw [sub_len r.hl]; omega)⟩
      have h1 := r.lst _ h0 hx
      have h2 := ends _ (List.mem_of_getElem? (sub_at hx).2)
      omega
  have hX : layB (joinB a (t - a) ((l.take h).drop f) (h - f)) (p - a) ox = ((layAt 0 B p ox).drop a).take (t - a) := by
    refine list_getD (z := 0) (by rw [hXl, cut_len _ _ _ (by omega)]) fun i hi => ?_
    rw [hXl] at hi
    rw [cut_getD _ _ _ _ hi, layB_get (by rw [hjl, hox]; omega), layAt_get, hox]
    by_cases hin : p ≤ a + i ∧ a + i < p + n
    · rw [if_pos (by omega), if_pos hin, show i - (p - a) = a + i - p by omega]
    · rw [if_neg (by omega), if_neg hin]
      obtain ⟨j1, j2⟩ := joinB_get (B := B) hfit (fun x hx i hi => k.at (extsL_mem (hsub x hx)) hi) i hi (h - f)
      by_cases hc : ∃ k x, k < h - f ∧ ((l.take h).drop f)[k]? = some x ∧ x.1 ≤ a + i ∧ a + i < x.1 + x.2.2.2.2.length
      · exact j1 hc
      · rw [j2 fun k x h1 h2 h3 => hc ⟨k, x, h1, h2, h3⟩]
        refine (hz _ fun hm => ?_).symm
        obtain ⟨e, he, h1, h2⟩ := (k.cover _).1 hm
        obtain ⟨j, hj, hje⟩ := mem_at he
        obtain ⟨x, hx, rfl⟩ := extsL_at hje
        have h2 : a + i < x.1 + x.2.2.2.2.length := h2
        rw [hlen x (List.mem_of_getElem? hx)] at h2
        rcases Nat.lt_or_ge j f with h3 | h3
        · have := r.lo j x h3 hx
          omega
        · rcases Nat.lt_or_ge j h with h4 | h4
          · exact hc ⟨j - f, x, by omega, sub_get h3 h4 hx, h1, by rw [hlen x (List.mem_of_getElem? hx)]; exact h2⟩
          · have := r.hi j x h4 hx
            have h1 : x.1 ≤ a + i := h1
            omega
  refine ⟨?_, hXl⟩
  have hext : extsL (l.take f ++ [((a, hj, m, c, layB (joinB a (t - a) ((l.take h).drop f) (h - f)) (p - a) ox) : ExtV)] ++ l.drop h) = (extsL l).take f ++ [(a, layB (joinB a (t - a) ((l.take h).drop f) (h - f)) (p - a) ox)] ++ (extsL l).drop h := by
    unfold extsL
    rw [List.map_append, List.map_append, List.map_take, List.map_drop]
    rfl
  rw [hext]
  refine k.put r.fh (by omega) htB (by rw [layAt_len]; omega) hX (fun i e hi he => ?_) (fun i e hi he => ?_) (fun i e h1 h2 he => ?_) (fun i => ?_) (fun i hi hiB => ?_)
  · obtain ⟨x, hx, rfl⟩ := extsL_at he
    show x.1 + x.2.2.2.2.length < a
    rw [hlen x (List.mem_of_getElem? hx)]
    exact r.lo i x hi hx
  · obtain ⟨x, hx, rfl⟩ := extsL_at he
    exact r.hi i x hi hx
  · obtain ⟨x, hx, rfl⟩ := extsL_at he
    have := r.fit x (List.mem_of_getElem? (sub_get h1 h2 hx))
    show a ≤ x.1 ∧ x.1 + x.2.2.2.2.length ≤ t
    rw [hlen x (List.mem_of_getElem? hx)]
    omega
  · have hmk : mark (layAt false Z p (List.replicate n true)) i ↔ (p ≤ i ∧ i < p + n) ∨ mark Z i := by
      unfold mark
      rw [layAt_get, List.length_replicate]
      by_cases h1 : p ≤ i ∧ i < p + n
      · rw [if_pos h1, getD_true (by omega)]
        exact ⟨fun _ => .inl h1, fun _ => rfl⟩
      · rw [if_neg h1]
        exact ⟨fun h => .inr h, fun h => h.resolve_left h1⟩
    rw [hmk]
    constructor
    · rintro (h1 | h1)
      · exact .inl (by omega)
      · exact .inr h1
    · rintro (h1 | h1)
      · by_cases h2 : p ≤ i ∧ i < p + n
        · exact .inl h2
        · refine .inr ((k.cover i).2 ?_)
          rcases Nat.eq_zero_or_pos (h - f) with h0 | h0
          · have := r.none h0
            omega
          · obtain ⟨x, hx⟩ : ∃ y, ((l.take h).drop f)[0]? = some y := ⟨_, List.getElem?_eq_getElem (show 0 < _ by rw [sub_len r.hl]; omega)⟩
            obtain ⟨y, hy⟩ : ∃ y, ((l.take h).drop f)[h - f - 1]? = some y := ⟨_, List.getElem?_eq_getElem (show h - f - 1 < _ by rw [sub_len r.hl]; omega)⟩
            have h3 := r.fst _ hx
            have h4 := r.lst _ h0 hy
            have h5 := hlen _ (List.mem_of_getElem? (sub_at hx).2)
            have h6 := hlen _ (List.mem_of_getElem? (sub_at hy).2)
            have h8 := r.tf _ hx
            have h9 := r.tl _ hy
            rcases Nat.lt_or_ge i p with h7 | h7
            · refine ⟨_, extsL_mem (List.mem_of_getElem? (sub_at hx).2), ?_, ?_⟩
              · show x.1 ≤ i
                omega
              · show i < x.1 + x.2.2.2.2.length
                omega
            · refine ⟨_, extsL_mem (List.mem_of_getElem? (sub_at hy).2), ?_, ?_⟩
              · show y.1 ≤ i
                omega
              · show i < y.1 + y.2.2.2.2.length
                omega
      · exact .inr h1
  · rw [layAt_get, if_neg (by rw [hox]; omega)]
/-! ### a cut -/
theorem pad_mark {Z : List Bool} {s i : Nat} : mark (padTo false Z s) i ↔ i < s ∧ mark Z i := by
  unfold mark
  by_cases h : i < s
  · rw [padTo_get h]
    exact ⟨fun h1 => ⟨h, h1⟩, fun h1 => h1.2⟩
  · refine ⟨fun h1 => ?_, fun h1 => absurd h1.1 h⟩
    have := mark_lt (Z := padTo false Z s) h1
    rw [padTo_len] at this
    exact absurd this h
theorem pad_zero {B : List Int} {Z : List Bool} {s : Nat} (hz : ∀ i, ¬ mark Z i → B.getD i 0 = 0) : ∀ i, ¬ mark (padTo false Z s) i → (padTo 0 B s).getD i 0 = 0 := fun i hi => by
  by_cases h : i < s
  · rw [padTo_get h]
    exact hz i fun hm => hi (pad_mark.2 ⟨h, hm⟩)
  · rw [List.getD_eq_getElem?_getD, List.getElem?_eq_none (by rw [padTo_len]; omega)]
    rfl
theorem lay_zero {B : List Int} {Z : List Bool} {p n : Nat} {ox : List Int} (hox : ox.length = n) (hz : ∀ i, ¬ mark Z i → B.getD i 0 = 0) : ∀ i, ¬ mark (layAt false Z p (List.replicate n true)) i → (layAt 0 B p ox).getD i 0 = 0 := fun i hi => by
  unfold mark at hi
  rw [layAt_get, List.length_replicate] at hi
  rw [layAt_get, hox]
  by_cases h : p ≤ i ∧ i < p + n
  · rw [if_pos h, getD_true (by omega)] at hi
    exact absurd rfl hi
  · rw [if_neg h] at hi ⊢
    exact hz i hi
theorem Can.cut_map {B : List Int} {P : Nat → Prop} {l l' : List ExtV} (k : Can B P (extsL l)) (hlen : ∀ x ∈ l, x.2.2.2.2.length = x.2.2.1) {f s : Nat} (hfl : f ≤ l.length) (f0 : ∀ (i : Nat) x, i < f → l[i]? = some x → x.1 < s)
    (hl' : l'.length = f) (h1 : ∀ i x, i + 1 < f → l[i]? = some x → l'[i]? = some x) (h2 : ∀ x, 0 < f → l[f - 1]? = some x → ∃ y, l'[f - 1]? = some y ∧ y.1 = x.1 ∧ y.2.2.2.2 = x.2.2.2.2.take (s - x.1)) :
    extsL l' = ((extsL l).take f).map fun e => (e.1, e.2.take (s - e.1)) := by
  refine List.ext_getElem? fun i => ?_
  rw [List.getElem?_map, List.getElem?_take]
  by_cases hi : i < f
  · rw [if_pos hi]
    have hx : l[i]? = some l[i] := List.getElem?_eq_getElem (by omega)
    rw [extsL_get hx]
    by_cases hl : i + 1 < f
    · rw [extsL_get (h1 i _ hl hx)]
      have hy : l[i + 1]? = some l[i + 1] := List.getElem?_eq_getElem (by omega)
      have h3 := k.lt (extsL_get hx) (extsL_get hy) (by omega)
      have h4 := f0 _ _ hl hy
      simp only at h3
      show some (l[i].1, l[i].2.2.2.2) = some (l[i].1, l[i].2.2.2.2.take (s - l[i].1))
      rw [List.take_of_length_le (by omega)]
    · obtain rfl : i = f - 1 := by omega
      obtain ⟨y, hy, e1, e2⟩ := h2 _ (by omega) hx
      rw [extsL_get hy, e1, e2]
      rfl
  · rw [if_neg hi, List.getElem?_eq_none (by rw [extsL_len]; omega)]
    rfl
theorem Can.cutP {B : List Int} {Z : List Bool} {l l' : List ExtV} (k : Can B (mark Z) (extsL l)) {f s : Nat} (f0 : ∀ (i : Nat) x, i < f → l[i]? = some x → x.1 < s) (f1 : ∀ (i : Nat) x, f ≤ i → l[i]? = some x → s ≤ x.1)
    (hm : extsL l' = ((extsL l).take f).map fun e => (e.1, e.2.take (s - e.1))) : Can (padTo 0 B s) (mark (padTo false Z s)) (extsL l') := by
  rw [hm]
  refine k.cutOff (fun i e hi he => ?_) (fun i e hi he => ?_) (by rw [padTo_len]; exact Nat.le_refl _) (fun i => pad_mark) fun i hi => padTo_get hi
  · obtain ⟨x, hx, rfl⟩ := extsL_at he
    exact f0 i x hi hx
  · obtain ⟨x, hx, rfl⟩ := extsL_at he
    exact f1 i x hi hx

/-! ### a read -/
def clipV (p t : Nat) (x : ExtV) : ExtV := (max p x.1, none, 0, 0, (x.2.2.2.2.drop (max p x.1 - x.1)).take (min t (x.1 + x.2.2.1) - max p x.1))
def readB (p N : Nat) (lo : List ExtV) (j : Nat) : List Int := joinB p N (lo.map (clipV p (p + N))) j
theorem readB_succ {p N : Nat} {lo : List ExtV} {j : Nat} {x : ExtV} (h : lo[j]? = some x) : readB p N lo (j + 1) = layB (readB p N lo j) (max p x.1 - p) ((x.2.2.2.2.drop (max p x.1 - x.1)).take (min (p + N) (x.1 + x.2.2.1) - max p x.1)) := by
  unfold readB
  rw [joinB_succ (x := clipV p (p + N) x) (by rw [List.getElem?_map, h]; rfl)]
  rfl
structure RdOk (l : List ExtV) (p N f h : Nat) : Prop where
  fh : f ≤ h
  meet : ∀ x ∈ (l.take h).drop f, max p x.1 < min (p + N) (x.1 + x.2.2.1)
theorem rd_ok {B : List Int} {P : Nat → Prop} {l : List ExtV} (k : Can B P (extsL l)) (hlen : ∀ x ∈ l, x.2.2.2.2.length = x.2.2.1) (hz : ∀ i, ¬ P i → B.getD i 0 = 0) {p N f h : Nat} (hN : 0 < N) (hB : p + N ≤ B.length) (hfl : f ≤ l.length) (hhl : h ≤ l.length)
    (f0 : ∀ (i : Nat) x, i < f → l[i]? = some x → ¬ (p : Int) < ((x.1 + x.2.2.1 : Nat) : Int)) (f1 : ∀ (i : Nat) x, f ≤ i → l[i]? = some x → (p : Int) < ((x.1 + x.2.2.1 : Nat) : Int))
    (h0 : ∀ (i : Nat) x, i < h → l[i]? = some x → ¬ ((p + N : Nat) : Int) ≤ (x.1 : Int)) (h1 : ∀ (i : Nat) x, h ≤ i → l[i]? = some x → ((p + N : Nat) : Int) ≤ (x.1 : Int)) :
    RdOk l p N f h ∧ (∀ j, (readB p N ((l.take h).drop f) j).length = N) ∧ readB p N ((l.take h).drop f) (h - f) = (B.drop p).take N := by
  have pos : ∀ x ∈ l, 0 < x.2.2.1 := fun x hx => by
    rw [← hlen x hx]
    exact List.length_pos_iff.2 (k.full (x.1, x.2.2.2.2) (extsL_mem hx))
  have hfh : f ≤ h := by
    rcases Nat.lt_or_ge h f with h2 | h2
    · have hx : l[h]? = some l[h] := List.getElem?_eq_getElem (by omega)
      have h3 := f0 h _ h2 hx
      have h4 := h1 h _ (Nat.le_refl _) hx
      have h5 := pos _ (List.mem_of_getElem? hx)
      omega
    · exact h2
  have hmeet : ∀ x ∈ (l.take h).drop f, max p x.1 < min (p + N) (x.1 + x.2.2.1) := fun x hx => by
    obtain ⟨i, hi, h4⟩ := mem_at hx
    obtain ⟨h5, h6⟩ := sub_at h4
    have h7 := pos x (List.mem_of_getElem? h6)
    have h8 := f1 _ x (Nat.le_add_right f i) h6
    have h9 := h0 _ x h5 h6
    omega
  have hsub : ∀ x ∈ (l.take h).drop f, x ∈ l := fun x hx => List.mem_of_mem_take (List.mem_of_mem_drop hx)
  have clen : ∀ x ∈ (l.take h).drop f, (clipV p (p + N) x).2.2.2.2.length = min (p + N) (x.1 + x.2.2.1) - max p x.1 := fun x hx => by
    have h2 := hmeet x hx
    have h3 := hlen x (hsub x hx)
    show ((x.2.2.2.2.drop _).take _).length = _
    rw [List.length_take, List.length_drop]
    omega
  have hfit : ∀ x ∈ ((l.take h).drop f).map (clipV p (p + N)), p ≤ x.1 ∧ x.1 - p + x.2.2.2.2.length ≤ N := fun y hy => by
    obtain ⟨x, hx, rfl⟩ := List.mem_map.1 hy
    have h2 := hmeet x hx
    rw [clen x hx]
    show p ≤ max p x.1 ∧ max p x.1 - p + _ ≤ N
    omega
  have hcB : ∀ x ∈ ((l.take h).drop f).map (clipV p (p + N)), ∀ i, i < x.2.2.2.2.length → x.2.2.2.2.getD i 0 = B.getD (x.1 + i) 0 := fun y hy i hi => by
    obtain ⟨x, hx, rfl⟩ := List.mem_map.1 hy
    rw [clen x hx] at hi
    have h2 := hmeet x hx
    have h3 := hlen x (hsub x hx)
    show ((x.2.2.2.2.drop (max p x.1 - x.1)).take (min (p + N) (x.1 + x.2.2.1) - max p x.1)).getD i 0 = B.getD (max p x.1 + i) 0
    rw [cut_getD _ _ _ _ hi]
    have h4 := k.at (extsL_mem (hsub x hx)) (i := max p x.1 - x.1 + i) (by show _ < x.2.2.2.2.length; omega)
    rw [show (x.1, x.2.2.2.2).1 + (max p x.1 - x.1 + i) = max p x.1 + i from by show x.1 + _ = _; omega] at h4
    exact h4
  refine ⟨⟨hfh, hmeet⟩, fun j => joinB_len (fun x hx => (hfit x hx).2) j, ?_⟩
  refine list_getD (z := 0) (by rw [cut_len _ _ _ hB]; exact joinB_len (fun x hx => (hfit x hx).2) _) fun i hi => ?_
  have hi : i < N := by
    have := joinB_len (fun x hx => (hfit x hx).2) (h - f)
    unfold readB at hi
    omega
  rw [cut_getD _ _ _ _ hi]
  obtain ⟨j1, j2⟩ := joinB_get hfit hcB i hi (h - f)
  by_cases hc : ∃ k x, k < h - f ∧ (((l.take h).drop f).map (clipV p (p + N)))[k]? = some x ∧ x.1 ≤ p + i ∧ p + i < x.1 + x.2.2.2.2.length
  · exact j1 hc
  · unfold readB
    rw [j2 fun k x h1 h2 h3 => hc ⟨k, x, h1, h2, h3⟩]
    refine (hz _ fun hm => ?_).symm
    obtain ⟨e, he, g1, g2⟩ := (k.cover _).1 hm
    obtain ⟨j, hj, hje⟩ := mem_at he
    obtain ⟨x, hx, rfl⟩ := extsL_at hje
    have g1 : x.1 ≤ p + i := g1
    have g2 : p + i < x.1 + x.2.2.2.2.length := g2
    rw [hlen x (List.mem_of_getElem? hx)] at g2
    rcases Nat.lt_or_ge j f with h3 | h3
    · have := f0 j x h3 hx
      omega
    · rcases Nat.lt_or_ge j h with h4 | h4
      · have hs := sub_get h3 h4 hx
        have hms := List.mem_of_getElem? hs
        refine hc ⟨j - f, clipV p (p + N) x, by omega, by rw [List.getElem?_map, hs]; rfl, ?_, ?_⟩
        · show max p x.1 ≤ p + i
          omega
        · rw [clen x hms]
          show p + i < max p x.1 + _
          have := hmeet x hms
          omega
      · have := h1 j x h4 hx
        omega
end Go.Proofs.Ytgbhnnobbciemaa
