/-
  Layer 5 without the program: the places of a pattern at which a text's next letter is waited for; that telling them rising, each with what stands behind it, tells all. No program is named here.
-/
import Derived.Test.YtfligggojiboeaaDoorGlob0
namespace Go.Proofs.YtfligggojiboeaaDoor

theorem getD_lt {p : List Int} {k : Nat} {c : Int} (hc : c ≠ 0) (h : p.getD k 0 = c) : k < p.length := by
  rcases Nat.lt_or_ge k p.length with h1 | h1
  · exact h1
  · rw [List.getD_eq_getElem?_getD, List.getElem?_eq_none h1] at h
    exact absurd h.symm hc

/-- is place k waited at, behind the letters t -/
noncomputable def live (p : List Int) (k : Nat) (t : List Int) : Bool := fitAt p (if p.getD k 0 = 42 then k + 1 else k) t

theorem fitAt_grow_star {p t : List Int} {k : Nat} (hc : p.getD k 0 = 42) (h : fitAt p k t = true) : fitAt p (k + 1) t = true := by
  have hk := getD_lt (by omega) hc
  rw [fitAt_iff] at h ⊢
  rw [take_getD p k hk, hc]
  exact fit_append.2 ⟨t, [], by simp, h, fit_any _⟩
theorem live_of_fitAt {p t : List Int} {k : Nat} (h : fitAt p k t = true) : live p k t = true := by
  unfold live
  split
  · exact fitAt_grow_star (by assumption) h
  · exact h
theorem live_star {p t : List Int} {k : Nat} (x : Int) (hc : p.getD k 0 = 42) (h : live p k t = true) : live p k (t ++ [x]) = true := by
  unfold live at h ⊢
  rw [if_pos hc] at h ⊢
  rw [fitAt_star p t x k (getD_lt (by omega) hc) hc, h]
  rfl
theorem live_one {p t : List Int} {k : Nat} {x : Int} (hk : k < p.length) (hc : p.getD k 0 ≠ 42) (hx : p.getD k 0 = 63 ∨ p.getD k 0 = x) (h : live p k t = true) : live p (k + 1) (t ++ [x]) = true := by
  refine live_of_fitAt ?_
  unfold live at h
  rw [if_neg hc] at h
  rw [fitAt_one p t x k hk hc hx, h]
theorem live_next {p t : List Int} {k : Nat} (hc : p.getD k 0 = 42) (h : live p k t = true) : live p (k + 1) t = true := by
  unfold live at h
  rw [if_pos hc] at h
  exact live_of_fitAt h
theorem live_back {p t : List Int} {k : Nat} {x : Int} (hk : k ≤ p.length) (h : live p k (t ++ [x]) = true) :
    (p.getD k 0 = 42 ∧ live p k t = true) ∨ (∃ j, k = j + 1 ∧ p.getD j 0 ≠ 42 ∧ (p.getD j 0 = 63 ∨ p.getD j 0 = x) ∧ live p j t = true) ∨ (∃ j, k = j + 1 ∧ p.getD j 0 = 42 ∧ live p j (t ++ [x]) = true) := by
  have key : fitAt p k (t ++ [x]) = true → (∃ j, k = j + 1 ∧ p.getD j 0 ≠ 42 ∧ (p.getD j 0 = 63 ∨ p.getD j 0 = x) ∧ live p j t = true) ∨ (∃ j, k = j + 1 ∧ p.getD j 0 = 42 ∧ live p j (t ++ [x]) = true) := by
    intro h
    match k, hk, h with
    | 0, _, h => rw [fitAt_none] at h; cases h
    | j + 1, hk, h =>
      by_cases hc : p.getD j 0 = 42
      · refine .inr ⟨j, rfl, hc, ?_⟩
        unfold live
        rw [if_pos hc]
        exact h
      · by_cases hx : p.getD j 0 = 63 ∨ p.getD j 0 = x
        · refine .inl ⟨j, rfl, hc, hx, ?_⟩
          unfold live
          rw [if_neg hc]
          rwa [fitAt_one p t x j hk hc hx] at h
        · rw [fitAt_other p t x j hk hc hx] at h
          cases h
  unfold live at h
  by_cases hc : p.getD k 0 = 42
  · rw [if_pos hc, fitAt_star p t x k (getD_lt (by omega) hc) hc, Bool.or_eq_true, Bool.or_eq_true] at h
    rcases h with (h | h) | h
    · refine .inl ⟨hc, ?_⟩
      unfold live
      rw [if_pos hc]
      exact h
    · exact .inl ⟨hc, live_of_fitAt h⟩
    · exact .inr (key h)
  · rw [if_neg hc] at h
    exact .inr (key h)
theorem live_nil (p : List Int) : live p 0 [] = true := live_of_fitAt (fitAt_zero p)
theorem live_nil_back {p : List Int} {k : Nat} (hk : k + 1 ≤ p.length) (h : live p (k + 1) [] = true) : p.getD k 0 = 42 ∧ live p k [] = true := by
  have key : fitAt p (k + 1) [] = true → p.getD k 0 = 42 ∧ live p k [] = true := by
    intro h
    by_cases hc : p.getD k 0 = 42
    · refine ⟨hc, ?_⟩
      unfold live
      rw [if_pos hc]
      exact h
    · rw [fitAt_nil_other p k hk hc] at h
      cases h
  unfold live at h
  by_cases hc : p.getD (k + 1) 0 = 42
  · rw [if_pos hc, fitAt_nil_star p (k + 1) (getD_lt (by omega) hc) hc] at h
    exact key h
  · rw [if_neg hc] at h
    exact key h
theorem live_end (p t : List Int) : live p p.length t = true ↔ Fit p t := by
  unfold live
  rw [if_neg ?_, fitAt_all p t _ (Nat.le_refl _)]
  intro h
  exact absurd (getD_lt (by omega) h) (by omega)

/-! ### rows of places -/

/-- all places below m that are waited at -/
noncomputable def pre (p t : List Int) (m : Nat) : List Nat := (List.range m).filter fun k => live p k t
/-- all of them -/
noncomputable def places (p t : List Int) : List Nat := pre p t (p.length + 1)
/-- how many stars stand in a row from k on -/
def stars (p : List Int) (k : Nat) : Nat := ((p.drop k).takeWhile fun c => decide (c = 42)).length
/-- what 'wait' makes of a row whose last place is m - 1 -/
def waitL (p : List Int) (m : Nat) (L : List Nat) (k : Nat) : List Nat := if m ≤ k then L ++ List.range' k (stars p k + 1) else L

theorem stars_step (p : List Int) (k : Nat) : stars p k = if p.getD k 0 = 42 then stars p (k + 1) + 1 else 0 := by
  unfold stars
  by_cases hk : k < p.length
  · rw [List.drop_eq_getElem_cons hk]
    have e : p.getD k 0 = p[k] := by simp [hk]
    rw [e]
    by_cases h : p[k] = 42
    · rw [List.takeWhile_cons_of_pos (by simpa using h), if_pos h, List.length_cons]
    · rw [List.takeWhile_cons_of_neg (by simpa using h), if_neg h, List.length_nil]
  · rw [List.drop_of_length_le (by omega), if_neg (by rw [List.getD_eq_getElem?_getD, List.getElem?_eq_none (by omega)]; decide)]
    rfl
theorem stars_spec (p : List Int) (n k : Nat) (hn : stars p k = n) : (∀ i, i < n → p.getD (k + i) 0 = 42) ∧ p.getD (k + n) 0 ≠ 42 := by
  induction n generalizing k with
  | zero =>
    refine ⟨fun i hi => by omega, fun h => ?_⟩
    rw [Nat.add_zero] at h
    rw [stars_step, if_pos h] at hn
    omega
  | succ n ih =>
    have hc : p.getD k 0 = 42 := by
      by_cases h : p.getD k 0 = 42
      · exact h
      · rw [stars_step, if_neg h] at hn; omega
    rw [stars_step, if_pos hc] at hn
    obtain ⟨h1, h2⟩ := ih (k + 1) (by omega)
    refine ⟨fun i hi => ?_, by rw [show k + (n + 1) = k + 1 + n by omega]; exact h2⟩
    match i, hi with
    | 0, _ => exact hc
    | i + 1, hi => rw [show k + (i + 1) = k + 1 + i by omega]; exact h1 i (by omega)
theorem stars_le (p : List Int) (k : Nat) (hk : k ≤ p.length) : k + stars p k ≤ p.length := by
  obtain ⟨h1, _⟩ := stars_spec p _ k rfl
  by_cases h : stars p k = 0
  · omega
  · have := getD_lt (by omega) (h1 (stars p k - 1) (by omega))
    omega

theorem pre_step (p t : List Int) (m : Nat) : pre p t (m + 1) = pre p t m ++ if live p m t = true then [m] else [] := by
  unfold pre
  rw [List.range_succ, List.filter_append]
  by_cases h : live p m t = true
  · rw [if_pos h]
    simp [List.filter, h]
  · rw [if_neg h]
    simp [List.filter, h]
theorem pre_gap (p t : List Int) (m d : Nat) (h : ∀ j, m ≤ j → j < m + d → ¬ live p j t = true) : pre p t (m + d) = pre p t m := by
  induction d with
  | zero => rfl
  | succ d ih => rw [← Nat.add_assoc, pre_step, if_neg (h (m + d) (by omega) (by omega)), List.append_nil, ih fun j h1 h2 => h j h1 (by omega)]
theorem pre_run (p t : List Int) (k s : Nat) (h : ∀ i, i < s → live p (k + i) t = true) : pre p t (k + s) = pre p t k ++ List.range' k s := by
  induction s with
  | zero => simp
  | succ s ih => rw [← Nat.add_assoc, pre_step, if_pos (h s (by omega)), ih fun i hi => h i (by omega), List.append_assoc, List.range'_concat, Nat.one_mul]
theorem live_run {p t : List Int} {k : Nat} (h : live p k t = true) (i : Nat) (hi : i ≤ stars p k) : live p (k + i) t = true := by
  induction i with
  | zero => exact h
  | succ i ih => exact live_next ((stars_spec p _ k rfl).1 i (by omega)) (ih (by omega))

/-- behind those of the places before that D tells: all below m are told -/
structure Told (p t : List Int) (x : Int) (D : Nat → Prop) (m : Nat) : Prop where
  le : m ≤ p.length + 1
  top : m = 0 ∨ (live p (m - 1) (t ++ [x]) = true ∧ p.getD (m - 1) 0 ≠ 42)
  star : ∀ a, D a → p.getD a 0 = 42 → a < m
  one : ∀ a, D a → a < p.length → p.getD a 0 ≠ 42 → (p.getD a 0 = 63 ∨ p.getD a 0 = x) → a + 1 < m

theorem Told.gap {p t : List Int} {x : Int} {D : Nat → Prop} {m k : Nat} (T : Told p t x D m) (hk : k ≤ p.length + 1) (h1 : ∀ a, a < k → live p a t = true → p.getD a 0 = 42 → D a) (h2 : ∀ a, a + 1 < k → live p a t = true → p.getD a 0 ≠ 42 → D a) :
    ∀ j, m ≤ j → j < k → ¬ live p j (t ++ [x]) = true := by
  intro j
  induction j using Nat.strongRecOn with
  | ind j ih =>
    intro hm hj h
    rcases live_back (by omega) h with ⟨hc, hl⟩ | ⟨i, rfl, hc, hx, hl⟩ | ⟨i, rfl, hc, hl⟩
    · have := T.star j (h1 j hj hl hc) hc
      omega
    · have := T.one i (h2 i hj hl hc) (by omega) hc hx
      omega
    · by_cases hi : m ≤ i
      · exact ih i (by omega) hi (by omega) hl
      · rcases T.top with h0 | ⟨_, h0⟩
        · omega
        · rw [show m - 1 = i by omega] at h0
          exact h0 hc

/-- where the last place is behind 'wait' -/
def waitM (p : List Int) (m k : Nat) : Nat := if m ≤ k then k + stars p k + 1 else m
theorem waitM_ge (p : List Int) (m k : Nat) : m ≤ waitM p m k ∧ k < waitM p m k := by
  unfold waitM
  split <;> omega

theorem Told.wait {p t : List Int} {x : Int} {D : Nat → Prop} {m k : Nat} (T : Told p t x D m) (hk : k ≤ p.length) (hl : live p k (t ++ [x]) = true) (h1 : ∀ a, a < k → live p a t = true → p.getD a 0 = 42 → D a) (h2 : ∀ a, a + 1 < k → live p a t = true → p.getD a 0 ≠ 42 → D a) :
    waitL p m (pre p (t ++ [x]) m) k = pre p (t ++ [x]) (waitM p m k) ∧ waitM p m k ≤ p.length + 1 ∧ (live p (waitM p m k - 1) (t ++ [x]) = true ∧ p.getD (waitM p m k - 1) 0 ≠ 42) := by
  unfold waitL waitM
  by_cases hm : m ≤ k
  · rw [if_pos hm, if_pos hm]
    have hs := stars_le p k hk
    have hg := pre_gap p (t ++ [x]) m (k - m) fun j a b => T.gap (by omega) h1 h2 j a (by omega)
    rw [show m + (k - m) = k by omega] at hg
    refine ⟨?_, by omega, ?_⟩
    · rw [← hg, Nat.add_assoc, pre_run p (t ++ [x]) k (stars p k + 1) fun i hi => live_run hl i (by omega)]
    · rw [Nat.add_sub_cancel]
      exact ⟨live_run hl _ (Nat.le_refl _), (stars_spec p _ k rfl).2⟩
  · rw [if_neg hm, if_neg hm]
    refine ⟨rfl, T.le, ?_⟩
    rcases T.top with h0 | h0
    · omega
    · exact h0

theorem Told.start (p t : List Int) (x : Int) : Told p t x (fun _ => False) 0 := ⟨by omega, .inl rfl, fun _ h => h.elim, fun _ h => h.elim⟩
theorem Told.all {p t : List Int} {x : Int} {D : Nat → Prop} {m : Nat} (T : Told p t x D m) (h : ∀ a, a ≤ p.length → live p a t = true → (a < p.length → D a)) : pre p (t ++ [x]) m = places p (t ++ [x]) := by
  have hle := T.le
  have hg := pre_gap p (t ++ [x]) m (p.length + 1 - m) fun j a b => T.gap (k := p.length + 1) (Nat.le_refl _)
    (fun a ha hl hc => h a (by omega) hl (getD_lt (by omega) hc)) (fun a ha hl hc => h a (by omega) hl (by omega)) j a (by omega)
  rw [show m + (p.length + 1 - m) = p.length + 1 by omega] at hg
  exact hg.symm
theorem Told.mono {p t : List Int} {x : Int} {D D' : Nat → Prop} {m : Nat} (T : Told p t x D m) (h : ∀ a, D' a → D a) : Told p t x D' m := ⟨T.le, T.top, fun a ha => T.star a (h a ha), fun a ha => T.one a (h a ha)⟩

/-- at first -/
theorem wait_first (p : List Int) : waitL p 0 [] 0 = places p [] := by
  unfold waitL places
  rw [if_pos (Nat.le_refl _), List.nil_append]
  have hs := stars_le p 0 (Nat.zero_le _)
  have hr := pre_run p [] 0 (stars p 0 + 1) fun i hi => live_run (live_nil p) i (by omega)
  rw [Nat.zero_add] at hr
  have h0 : pre p [] 0 = [] := rfl
  rw [h0, List.nil_append] at hr
  rw [← hr]
  have hne := (stars_spec p _ 0 rfl).2
  have hg := pre_gap p [] (stars p 0 + 1) (p.length - stars p 0) (by
    intro j
    induction j with
    | zero => intro h; omega
    | succ j ih =>
      intro h1 h2 hl
      obtain ⟨hc, hl'⟩ := live_nil_back (by omega) hl
      by_cases hj : stars p 0 + 1 ≤ j
      · exact ih hj (by omega) hl'
      · rw [show 0 + stars p 0 = j by omega] at hne
        exact hne hc)
  rw [show stars p 0 + 1 + (p.length - stars p 0) = p.length + 1 by omega] at hg
  exact hg.symm

theorem places_mem (p t : List Int) (k : Nat) : k ∈ places p t ↔ k ≤ p.length ∧ live p k t = true := by
  unfold places pre
  rw [List.mem_filter, List.mem_range]
  exact and_congr Nat.lt_succ_iff Iff.rfl
theorem places_end (p t : List Int) : p.length ∈ places p t ↔ Fit p t := by
  rw [places_mem, live_end]
  exact ⟨fun h => h.2, fun h => ⟨Nat.le_refl _, h⟩⟩
theorem pre_sorted (p t : List Int) (m : Nat) : (pre p t m).Pairwise (· < ·) := List.pairwise_lt_range.filter _
theorem pre_len (p t : List Int) (m : Nat) : (pre p t m).length ≤ m := by
  have := List.length_filter_le (fun k => live p k t) (List.range m)
  rwa [List.length_range] at this
/-- what is below the place at c stands ahead of it -/
theorem sorted_take {L : List Nat} (h : L.Pairwise (· < ·)) {c : Nat} (hc : c < L.length) {a : Nat} (ha : a ∈ L) (hlt : a < L.getD c 0) : a ∈ L.take c := by
  have e : L = L.take c ++ L.getD c 0 :: L.drop (c + 1) := by
    rw [List.getD_eq_getElem?_getD, List.getElem?_eq_getElem hc, Option.getD_some, ← List.drop_eq_getElem_cons hc, List.take_append_drop]
  rw [e] at ha h
  rcases List.mem_append.1 ha with h1 | h1
  · exact h1
  · have h2 := (List.pairwise_append.1 h).2.1
    rcases List.mem_cons.1 h1 with h3 | h3
    · omega
    · have := List.rel_of_pairwise_cons h2 h3
      omega

/-- the last place of a row that is told -/
def LastIs (L : List Nat) (m : Nat) : Prop := (L = [] ∧ m = 0) ∨ (L ≠ [] ∧ L.getD (L.length - 1) 0 + 1 = m)
theorem pre_last {p t : List Int} {m : Nat} (h : m = 0 ∨ live p (m - 1) t = true) : LastIs (pre p t m) m := by
  by_cases h0 : m = 0
  · subst h0
    exact .inl ⟨rfl, rfl⟩
  · obtain ⟨j, rfl⟩ : ∃ j, m = j + 1 := ⟨m - 1, by omega⟩
    have hl := h.resolve_left h0
    rw [Nat.add_sub_cancel] at hl
    rw [pre_step, if_pos hl]
    exact .inr ⟨by simp, by simp⟩

/-! ### one letter of the text: place by place of those before -/

/-- behind the first c of the places before -/
def Done (p t : List Int) (x : Int) (c m : Nat) : Prop := Told p t x (fun a => a ∈ (places p t).take c) m

theorem take_next {L : List Nat} {c : Nat} (hc : c < L.length) {a : Nat} (h : a ∈ L.take (c + 1)) : a ∈ L.take c ∨ a = L.getD c 0 := by
  rw [List.take_succ_eq_append_getElem hc, List.mem_append, List.mem_singleton] at h
  rcases h with h | h
  · exact .inl h
  · exact .inr (by rw [h]; simp [hc])
theorem places_at (p t : List Int) {c : Nat} (hc : c < (places p t).length) : (places p t).getD c 0 ≤ p.length ∧ live p ((places p t).getD c 0) t = true := by
  rw [← places_mem, List.getD_eq_getElem?_getD, List.getElem?_eq_getElem hc]
  exact List.getElem_mem hc
theorem Done.start (p t : List Int) (x : Int) : Done p t x 0 0 := (Told.start p t x).mono fun a h => by simp at h
/-- a star: it waits on, and what stands behind it -/
theorem Done.star {p t : List Int} {x : Int} {c m : Nat} (T : Done p t x c m) (hc : c < (places p t).length) (h : p.getD ((places p t).getD c 0) 0 = 42) :
    waitL p m (pre p (t ++ [x]) m) ((places p t).getD c 0) = pre p (t ++ [x]) (waitM p m ((places p t).getD c 0)) ∧ Done p t x (c + 1) (waitM p m ((places p t).getD c 0)) := by
  obtain ⟨hle, hl⟩ := places_at p t hc
  have hD : ∀ a, a < (places p t).getD c 0 → live p a t = true → a ∈ (places p t).take c := fun a ha hla => sorted_take (pre_sorted p t _) hc ((places_mem p t a).2 ⟨by omega, hla⟩) ha
  obtain ⟨h1, h2, h3⟩ := Told.wait T hle (live_star x h hl) (fun a ha hla _ => hD a ha hla) (fun a ha hla _ => hD a (by omega) hla)
  have hge := waitM_ge p m ((places p t).getD c 0)
  refine ⟨h1, h2, .inr h3, fun a ha hs => ?_, fun a ha hlt hs hx => ?_⟩
  · rcases take_next hc ha with ha | rfl
    · have := Told.star T a ha hs
      omega
    · exact hge.2
  · rcases take_next hc ha with ha | rfl
    · have := Told.one T a ha hlt hs hx
      omega
    · exact absurd h hs
/-- a letter that fits -/
theorem Done.one {p t : List Int} {x : Int} {c m : Nat} (T : Done p t x c m) (hc : c < (places p t).length) (hlt : (places p t).getD c 0 < p.length) (h : p.getD ((places p t).getD c 0) 0 ≠ 42) (hx : p.getD ((places p t).getD c 0) 0 = 63 ∨ p.getD ((places p t).getD c 0) 0 = x) :
    waitL p m (pre p (t ++ [x]) m) ((places p t).getD c 0 + 1) = pre p (t ++ [x]) (waitM p m ((places p t).getD c 0 + 1)) ∧ Done p t x (c + 1) (waitM p m ((places p t).getD c 0 + 1)) := by
  obtain ⟨hle, hl⟩ := places_at p t hc
  have hD : ∀ a, a < (places p t).getD c 0 → live p a t = true → a ∈ (places p t).take c := fun a ha hla => sorted_take (pre_sorted p t _) hc ((places_mem p t a).2 ⟨by omega, hla⟩) ha
  obtain ⟨h1, h2, h3⟩ := Told.wait T hlt (live_one hlt h hx hl) (fun a ha hla hs => hD a (by
    by_cases e : a = (places p t).getD c 0
    · rw [e] at hs; exact absurd hs h
    · omega) hla) (fun a ha hla _ => hD a (by omega) hla)
  have hge := waitM_ge p m ((places p t).getD c 0 + 1)
  refine ⟨h1, h2, .inr h3, fun a ha hs => ?_, fun a ha hlt hs hx => ?_⟩
  · rcases take_next hc ha with ha | rfl
    · have := Told.star T a ha hs
      omega
    · exact absurd hs h
  · rcases take_next hc ha with ha | rfl
    · have := Told.one T a ha hlt hs hx
      omega
    · exact hge.2
/-- a letter that does not -/
theorem Done.none {p t : List Int} {x : Int} {c m : Nat} (T : Done p t x c m) (hc : c < (places p t).length) (h : p.getD ((places p t).getD c 0) 0 ≠ 42) (hx : ¬ (p.getD ((places p t).getD c 0) 0 = 63 ∨ p.getD ((places p t).getD c 0) 0 = x)) : Done p t x (c + 1) m := by
  refine ⟨Told.le T, Told.top T, fun a ha hs => ?_, fun a ha hlt hs hx' => ?_⟩
  · rcases take_next hc ha with ha | rfl
    · exact Told.star T a ha hs
    · exact absurd hs h
  · rcases take_next hc ha with ha | rfl
    · exact Told.one T a ha hlt hs hx'
    · exact absurd hx' hx
theorem Done.last {p t : List Int} {x : Int} {c m : Nat} (T : Done p t x c m) : LastIs (pre p (t ++ [x]) m) m := pre_last ((Told.top T).imp_right fun h => h.1)
/-- all are gone over, or the end was met -/
theorem Done.all {p t : List Int} {x : Int} {c m : Nat} (T : Done p t x c m) (h : c = (places p t).length ∨ (c < (places p t).length ∧ (places p t).getD c 0 = p.length)) : pre p (t ++ [x]) m = places p (t ++ [x]) := by
  refine Told.all T fun a hle hl hlt => ?_
  have ha := (places_mem p t a).2 ⟨hle, hl⟩
  rcases h with rfl | ⟨hc, he⟩
  · rw [List.take_of_length_le (Nat.le_refl _)]
    exact ha
  · exact sorted_take (L := places p t) (pre_sorted p t _) hc ha (by omega)
end Go.Proofs.YtfligggojiboeaaDoor
