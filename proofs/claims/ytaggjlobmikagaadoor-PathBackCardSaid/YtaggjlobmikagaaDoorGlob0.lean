/-
  Layer 5 without the program: patterns and what they fit, on letters (42: any many, 63: any one); the short form. No program is named here.
-/
import Derived.Test.YtaggjlobmikagaaDoorWords
namespace Go.Proofs.YtaggjlobmikagaaDoor

/-- the pattern fits the text -/
inductive Fit : List Int → List Int → Prop
  | nil : Fit [] []
  | one {c x : Int} {p t : List Int} (h : c = 63 ∨ c = x) (hc : c ≠ 42) (r : Fit p t) : Fit (c :: p) (x :: t)
  | skip {p t : List Int} (r : Fit p t) : Fit (42 :: p) t
  | take {x : Int} {p t : List Int} (r : Fit (42 :: p) t) : Fit (42 :: p) (x :: t)

theorem fit_nil_left {t : List Int} : Fit [] t ↔ t = [] := by
  constructor
  · intro h; cases h; rfl
  · rintro rfl; exact .nil
theorem fit_cons {c : Int} {p t : List Int} (hc : c ≠ 42) : Fit (c :: p) t ↔ ∃ x r, t = x :: r ∧ (c = 63 ∨ c = x) ∧ Fit p r := by
  constructor
  · intro h
    cases h with
    | one h _ r => exact ⟨_, _, rfl, h, r⟩
    | skip r => exact absurd rfl hc
    | take r => exact absurd rfl hc
  · rintro ⟨x, r, rfl, h1, h2⟩
    exact .one h1 hc h2
/-- behind a star -/
theorem fit_star {p t : List Int} : Fit (42 :: p) t ↔ ∃ a b, t = a ++ b ∧ Fit p b := by
  constructor
  · intro h
    generalize hq : 42 :: p = q at h
    induction h with
    | nil => cases hq
    | one h hc r _ => injection hq with e; exact absurd e.symm hc
    | skip r _ => injection hq with _ e; subst e; exact ⟨[], _, rfl, r⟩
    | take r ih => obtain ⟨a, b, rfl, hb⟩ := ih hq; exact ⟨_ :: a, b, rfl, hb⟩
  · rintro ⟨a, b, rfl, hb⟩
    induction a with
    | nil => exact .skip hb
    | cons x a ih => exact .take ih
theorem fit_star_nil {p : List Int} : Fit (42 :: p) [] ↔ Fit p [] := by
  rw [fit_star]
  constructor
  · rintro ⟨a, b, h, hb⟩
    obtain ⟨rfl, rfl⟩ : a = [] ∧ b = [] := by simpa using h.symm
    exact hb
  · intro h; exact ⟨[], [], rfl, h⟩
theorem fit_star_cons {p : List Int} {x : Int} {t : List Int} : Fit (42 :: p) (x :: t) ↔ Fit p (x :: t) ∨ Fit (42 :: p) t := by
  constructor
  · intro h
    cases h with
    | one _ hc _ => exact absurd rfl hc
    | skip r => exact .inl r
    | take r => exact .inr r
  · rintro (h | h)
    · exact .skip h
    · exact .take h
theorem fit_any (t : List Int) : Fit [42] t := fit_star.2 ⟨t, [], by simp, .nil⟩

/-- two patterns, one behind the other -/
theorem fit_append {p q t : List Int} : Fit (p ++ q) t ↔ ∃ a b, t = a ++ b ∧ Fit p a ∧ Fit q b := by
  induction p generalizing t with
  | nil =>
    constructor
    · intro h; exact ⟨[], t, rfl, .nil, h⟩
    · rintro ⟨a, b, rfl, ha, hb⟩
      obtain rfl := fit_nil_left.1 ha
      exact hb
  | cons c p ih =>
    rw [List.cons_append]
    by_cases hc : c = 42
    · subst hc
      rw [fit_star]
      constructor
      · rintro ⟨a, b, rfl, hb⟩
        obtain ⟨d, e, rfl, hd, he⟩ := ih.1 hb
        exact ⟨a ++ d, e, by simp, fit_star.2 ⟨a, d, rfl, hd⟩, he⟩
      · rintro ⟨a, b, rfl, ha, hb⟩
        obtain ⟨d, e, rfl, he⟩ := fit_star.1 ha
        exact ⟨d, e ++ b, by simp, ih.2 ⟨e, b, rfl, he, hb⟩⟩
    · rw [fit_cons hc]
      constructor
      · rintro ⟨x, r, rfl, h1, h2⟩
        obtain ⟨d, e, rfl, hd, he⟩ := ih.1 h2
        exact ⟨x :: d, e, rfl, .one h1 hc hd, he⟩
      · rintro ⟨a, b, rfl, ha, hb⟩
        obtain ⟨x, r, rfl, h1, h2⟩ := (fit_cons hc).1 ha
        exact ⟨x, r ++ b, rfl, h1, ih.2 ⟨r, b, rfl, h2, hb⟩⟩
/-- P5.3: what is put together fits what is put together -/
theorem fit_join {p q s t : List Int} (h1 : Fit p s) (h2 : Fit q t) : Fit (p ++ q) (s ++ t) := fit_append.2 ⟨s, t, rfl, h1, h2⟩
theorem fit_join_star {p q s t : List Int} (b : List Int) (h1 : Fit p s) (h2 : Fit q t) : Fit (p ++ [42] ++ q) (s ++ b ++ t) := fit_join (fit_join h1 (fit_any b)) h2

/-! ### the last letter (the rows of the document's own reckoning) -/

theorem fit_snoc {p t : List Int} {c x : Int} (hc : c ≠ 42) : Fit (p ++ [c]) (t ++ [x]) ↔ (c = 63 ∨ c = x) ∧ Fit p t := by
  rw [fit_append]
  constructor
  · rintro ⟨a, b, he, ha, hb⟩
    obtain ⟨y, r, rfl, h1, h2⟩ := (fit_cons hc).1 hb
    obtain rfl := fit_nil_left.1 h2
    obtain ⟨rfl, h3⟩ := List.append_inj' he (by simp)
    injection h3 with h3
    subst h3
    exact ⟨h1, ha⟩
  · rintro ⟨h1, h2⟩
    exact ⟨t, [x], rfl, h2, .one h1 hc .nil⟩
theorem fit_snoc_nil {p : List Int} {c : Int} (hc : c ≠ 42) : ¬ Fit (p ++ [c]) [] := by
  rw [fit_append]
  rintro ⟨a, b, he, ha, hb⟩
  obtain ⟨y, r, rfl, _⟩ := (fit_cons hc).1 hb
  simp at he
theorem fit_snoc_star {p t : List Int} {x : Int} : Fit (p ++ [42]) (t ++ [x]) ↔ Fit (p ++ [42]) t ∨ Fit p (t ++ [x]) := by
  constructor
  · intro h
    obtain ⟨a, b, he, ha, _⟩ := fit_append.1 h
    rcases List.eq_nil_or_concat b with rfl | ⟨b', y, hb⟩
    · rw [List.append_nil] at he
      subst he
      exact .inr ha
    · rw [List.concat_eq_append] at hb
      subst hb
      rw [← List.append_assoc] at he
      obtain ⟨rfl, _⟩ := List.append_inj' he (by simp)
      exact .inl (fit_append.2 ⟨a, b', rfl, ha, fit_any _⟩)
  · rintro (h | h)
    · obtain ⟨a, b, rfl, ha, _⟩ := fit_append.1 h
      exact fit_append.2 ⟨a, b ++ [x], by simp, ha, fit_any _⟩
    · exact fit_append.2 ⟨t ++ [x], [], by simp, h, fit_any _⟩
theorem fit_snoc_star_nil {p : List Int} : Fit (p ++ [42]) [] ↔ Fit p [] := by
  rw [fit_append]
  constructor
  · rintro ⟨a, b, he, ha, _⟩
    obtain ⟨rfl, rfl⟩ : a = [] ∧ b = [] := by simpa using he.symm
    exact ha
  · intro h; exact ⟨[], [], rfl, h, fit_any _⟩

/-! ### plain patterns, marks -/

theorem fit_plain {p t : List Int} (h : ∀ c ∈ p, c ≠ 42 ∧ c ≠ 63) : Fit p t ↔ p = t := by
  induction p generalizing t with
  | nil => rw [fit_nil_left]; exact eq_comm
  | cons c p ih =>
    obtain ⟨h1, h2⟩ := h c List.mem_cons_self
    have hp := fun d hd => h d (List.mem_cons_of_mem _ hd)
    rw [fit_cons h1]
    constructor
    · rintro ⟨x, r, rfl, h3, h4⟩
      rw [(ih hp).1 h4, h3.resolve_left h2]
    · rintro rfl
      exact ⟨c, p, rfl, .inr rfl, (ih hp).2 rfl⟩
theorem fit_marks (k : Nat) (t : List Int) : Fit (List.replicate k 63) t ↔ t.length = k := by
  induction k generalizing t with
  | zero => rw [List.replicate_zero, fit_nil_left]; exact List.length_eq_zero_iff.symm
  | succ k ih =>
    rw [List.replicate_succ, fit_cons (by omega)]
    constructor
    · rintro ⟨x, r, rfl, _, h⟩
      rw [List.length_cons, (ih r).1 h]
    · intro h
      match t, h with
      | x :: r, h => exact ⟨x, r, rfl, .inl rfl, (ih r).2 (by simpa using h)⟩
theorem fit_marks_star (k : Nat) (t : List Int) : Fit (List.replicate k 63 ++ [42]) t ↔ k ≤ t.length := by
  rw [fit_append]
  constructor
  · rintro ⟨a, b, rfl, ha, _⟩
    rw [fit_marks] at ha
    simp; omega
  · intro h
    exact ⟨t.take k, t.drop k, by simp, (fit_marks _ _).2 (by simp; omega), fit_any _⟩
theorem fit_star_marks (k : Nat) (t : List Int) : Fit (42 :: List.replicate k 63) t ↔ k ≤ t.length := by
  rw [fit_star]
  constructor
  · rintro ⟨a, b, rfl, hb⟩
    rw [fit_marks] at hb
    simp; omega
  · intro h
    exact ⟨t.take (t.length - k), t.drop (t.length - k), by simp, (fit_marks _ _).2 (by simp; omega)⟩

/-! ### the short form -/

/-- the rest of the short form, a star being owed or not -/
def shortF : Bool → List Int → List Int
  | s, [] => if s then [42] else []
  | s, c :: r => if c = 42 then shortF true r else if c = 63 then 63 :: shortF s r else (if s then [42] else []) ++ c :: shortF false r
def shortL (p : List Int) : List Int := shortF false p

theorem shortF_len (p : List Int) (s : Bool) : (shortF s p).length ≤ p.length + (if s then 1 else 0) := by
  induction p generalizing s with
  | nil => cases s <;> simp [shortF]
  | cons c r ih =>
    unfold shortF
    have h1 := ih true
    have h2 := ih false
    have h3 := ih s
    split
    · simp at h1 ⊢; omega
    · split
      · simp only [List.length_cons]; omega
      · cases s <;> simp at h2 ⊢ <;> omega
theorem shortL_len (p : List Int) : (shortL p).length ≤ p.length := by
  have := shortF_len p false
  simpa [shortL] using this

/-- a star is owed: the same as a star ahead, for it goes over marks -/
theorem fit_star_mark {p t : List Int} : Fit (42 :: 63 :: p) t ↔ Fit (63 :: 42 :: p) t := by
  rw [fit_star, fit_cons (by omega)]
  constructor
  · rintro ⟨a, b, rfl, hb⟩
    obtain ⟨x, r, rfl, _, hr⟩ := (fit_cons (by omega)).1 hb
    cases a with
    | nil => exact ⟨x, r, rfl, .inl rfl, fit_star.2 ⟨[], r, rfl, hr⟩⟩
    | cons y a => exact ⟨y, a ++ x :: r, rfl, .inl rfl, fit_star.2 ⟨a ++ [x], r, by simp, hr⟩⟩
  · rintro ⟨x, r, rfl, _, hr⟩
    obtain ⟨a, b, rfl, hb⟩ := fit_star.1 hr
    cases a with
    | nil => exact ⟨[], x :: b, rfl, .one (.inl rfl) (by omega) hb⟩
    | cons y a =>
      rcases List.eq_nil_or_concat (y :: a) with h | ⟨a', z, h⟩
      · cases h
      · rw [List.concat_eq_append] at h
        exact ⟨x :: a', z :: b, by rw [h]; simp, .one (.inl rfl) (by omega) hb⟩
theorem fit_star_star {p t : List Int} : Fit (42 :: 42 :: p) t ↔ Fit (42 :: p) t := by
  rw [fit_star]
  constructor
  · rintro ⟨a, b, rfl, hb⟩
    obtain ⟨d, e, rfl, he⟩ := fit_star.1 hb
    exact fit_star.2 ⟨a ++ d, e, by simp, he⟩
  · intro h; exact ⟨[], t, rfl, h⟩
theorem fit_congr_cons {p q : List Int} (h : ∀ t, Fit p t ↔ Fit q t) (c : Int) (t : List Int) : Fit (c :: p) t ↔ Fit (c :: q) t := by
  by_cases hc : c = 42
  · subst hc
    rw [fit_star, fit_star]
    exact ⟨fun ⟨a, b, e, hb⟩ => ⟨a, b, e, (h b).1 hb⟩, fun ⟨a, b, e, hb⟩ => ⟨a, b, e, (h b).2 hb⟩⟩
  · rw [fit_cons hc, fit_cons hc]
    exact ⟨fun ⟨x, r, e, h1, h2⟩ => ⟨x, r, e, h1, (h r).1 h2⟩, fun ⟨x, r, e, h1, h2⟩ => ⟨x, r, e, h1, (h r).2 h2⟩⟩
theorem fit_shortF (p : List Int) (s : Bool) (t : List Int) : Fit (shortF s p) t ↔ Fit ((if s then [42] else []) ++ p) t := by
  induction p generalizing s t with
  | nil => cases s <;> simp [shortF]
  | cons c r ih =>
    unfold shortF
    by_cases hc : c = 42
    · rw [if_pos hc, ih true t]
      subst hc
      cases s
      · exact Iff.rfl
      · exact fit_star_star.symm
    · rw [if_neg hc]
      by_cases hq : c = 63
      · rw [if_pos hq]
        subst hq
        rw [fit_congr_cons (fun t => ih s t) 63 t]
        cases s
        · exact Iff.rfl
        · exact fit_star_mark.symm
      · rw [if_neg hq]
        have h1 := fit_congr_cons (fun t => ih false t) c
        cases s
        · exact h1 t
        · exact fit_congr_cons h1 42 t
/-- P5.3: the short form fits just what the pattern fits -/
theorem fit_shortL (p t : List Int) : Fit (shortL p) t ↔ Fit p t := fit_shortF p false t

/-- of a short form the short form is the same -/
theorem shortF_again (p : List Int) (s : Bool) : shortF false (shortF s p) = shortF s p ∧ shortF true (shortF s p) = shortF true p := by
  induction p generalizing s with
  | nil => cases s <;> simp [shortF]
  | cons c r ih =>
    by_cases hc : c = 42
    · subst hc
      have e1 : shortF s (42 :: r) = shortF true r := by simp [shortF]
      have e2 : shortF true (42 :: r) = shortF true r := by simp [shortF]
      rw [e1, e2]
      exact ih true
    · by_cases hq : c = 63
      · subst hq
        have e0 : ∀ b l, shortF b (63 :: l) = 63 :: shortF b l := fun b l => by simp [shortF]
        rw [e0, e0, e0, e0, (ih s).1, (ih s).2]
        exact ⟨rfl, rfl⟩
      · have e0 : ∀ b l, shortF b (c :: l) = (if b then [42] else []) ++ c :: shortF false l := fun b l => by
          rw [shortF, if_neg hc, if_neg hq]
        have e4 : ∀ b l, shortF b (42 :: l) = shortF true l := fun b l => by simp [shortF]
        cases s
        · rw [e0 false]
          simp only [Bool.false_eq_true, if_false, List.nil_append, e0, (ih false).1, if_true]
          constructor <;> first | rfl | trivial
        · rw [e0 true]
          simp only [if_true, List.cons_append, List.nil_append, e4, e0, (ih false).1]
          constructor <;> first | rfl | trivial
theorem shortL_again (p : List Int) : shortL (shortL p) = shortL p := (shortF_again p false).1

/-- letter by letter or byte by byte: letters but 42 and 63 stand for bytes that are neither -/
theorem shortF_other (xs r : List Int) (s : Bool) (h : ∀ c ∈ xs, c ≠ 42 ∧ c ≠ 63) (hne : xs ≠ []) : shortF s (xs ++ r) = (if s then [42] else []) ++ xs ++ shortF false r := by
  have key : ∀ (xs : List Int), (∀ c ∈ xs, c ≠ 42 ∧ c ≠ 63) → shortF false (xs ++ r) = xs ++ shortF false r := by
    intro xs
    induction xs with
    | nil => intro _; rfl
    | cons c xs ih =>
      intro h
      obtain ⟨h1, h2⟩ := h c List.mem_cons_self
      rw [List.cons_append, shortF, if_neg h1, if_neg h2, ih fun d hd => h d (List.mem_cons_of_mem _ hd)]
      rfl
  match xs, hne with
  | c :: xs, _ =>
    obtain ⟨h1, h2⟩ := h c List.mem_cons_self
    rw [List.cons_append, shortF, if_neg h1, if_neg h2, key xs fun d hd => h d (List.mem_cons_of_mem _ hd)]
    simp
theorem shortF_flat (f : Int → List Int) (h42 : f 42 = [42]) (h63 : f 63 = [63]) (rs : List Int) (ho : ∀ c ∈ rs, c ≠ 42 → c ≠ 63 → f c ≠ [] ∧ ∀ b ∈ f c, b ≠ 42 ∧ b ≠ 63) (s : Bool) :
    shortF s (rs.flatMap f) = (shortF s rs).flatMap f := by
  induction rs generalizing s with
  | nil => cases s <;> simp [shortF, h42]
  | cons c r ih =>
    have ih := ih fun d hd => ho d (List.mem_cons_of_mem _ hd)
    rw [List.flatMap_cons]
    by_cases hc : c = 42
    · subst hc
      rw [h42, List.singleton_append]
      simp only [shortF, if_true]
      exact ih true
    · by_cases hq : c = 63
      · subst hq
        rw [h63, List.singleton_append]
        simp only [shortF, if_neg hc, if_true, List.flatMap_cons, h63, ih s]
        rfl
      · obtain ⟨h1, h2⟩ := ho c List.mem_cons_self hc hq
        rw [shortF_other _ _ _ h2 h1, shortF, if_neg hc, if_neg hq, ih false]
        cases s <;> simp [h42]

/-! ### the document's own rows: may the first k letters of the pattern be the letters t -/

noncomputable def fitAt (p : List Int) (k : Nat) (t : List Int) : Bool := @decide (Fit (p.take k) t) (Classical.propDecidable _)
theorem fitAt_iff (p : List Int) (k : Nat) (t : List Int) : fitAt p k t = true ↔ Fit (p.take k) t := @decide_eq_true_iff _ (Classical.propDecidable _)
theorem fitAt_not (p : List Int) (k : Nat) (t : List Int) (h : ¬ Fit (p.take k) t) : fitAt p k t = false := by
  cases he : fitAt p k t
  · rfl
  · exact absurd ((fitAt_iff _ _ _).1 he) h
theorem fitAt_all (p t : List Int) (k : Nat) (h : p.length ≤ k) : fitAt p k t = true ↔ Fit p t := by
  rw [fitAt_iff, List.take_of_length_le h]
theorem fitAt_zero (p : List Int) : fitAt p 0 [] = true := (fitAt_iff _ _ _).2 .nil
theorem fitAt_none (p t : List Int) (x : Int) : fitAt p 0 (t ++ [x]) = false := fitAt_not _ _ _ (by
  rw [List.take_zero, fit_nil_left]
  simp)
theorem take_getD (p : List Int) (k : Nat) (h : k < p.length) : p.take (k + 1) = p.take k ++ [p.getD k 0] := by
  rw [List.take_succ_eq_append_getElem h]
  simp [h]
theorem fitAt_nil_star (p : List Int) (k : Nat) (h : k < p.length) (hc : p.getD k 0 = 42) : fitAt p (k + 1) [] = fitAt p k [] := by
  rw [Bool.eq_iff_iff, fitAt_iff, fitAt_iff, take_getD p k h, hc, fit_snoc_star_nil]
theorem fitAt_nil_other (p : List Int) (k : Nat) (h : k < p.length) (hc : p.getD k 0 ≠ 42) : fitAt p (k + 1) [] = false := fitAt_not _ _ _ (by
  rw [take_getD p k h]
  exact fit_snoc_nil hc)
theorem fitAt_star (p t : List Int) (x : Int) (k : Nat) (h : k < p.length) (hc : p.getD k 0 = 42) : fitAt p (k + 1) (t ++ [x]) = (fitAt p (k + 1) t || fitAt p k t || fitAt p k (t ++ [x])) := by
  rw [Bool.eq_iff_iff, Bool.or_eq_true, Bool.or_eq_true, fitAt_iff, fitAt_iff, fitAt_iff, fitAt_iff, take_getD p k h, hc, fit_snoc_star]
  constructor
  · rintro (h1 | h1)
    · exact .inl (.inl h1)
    · exact .inr h1
  · rintro ((h1 | h1) | h1)
    · exact .inl h1
    · exact .inl (fit_append.2 ⟨t, [], by simp, h1, fit_any _⟩)
    · exact .inr h1
theorem fitAt_one (p t : List Int) (x : Int) (k : Nat) (h : k < p.length) (hc : p.getD k 0 ≠ 42) (hx : p.getD k 0 = 63 ∨ p.getD k 0 = x) : fitAt p (k + 1) (t ++ [x]) = fitAt p k t := by
  rw [Bool.eq_iff_iff, fitAt_iff, fitAt_iff, take_getD p k h, fit_snoc hc]
  exact ⟨fun h => h.2, fun h => ⟨hx, h⟩⟩
theorem fitAt_other (p t : List Int) (x : Int) (k : Nat) (h : k < p.length) (hc : p.getD k 0 ≠ 42) (hx : ¬ (p.getD k 0 = 63 ∨ p.getD k 0 = x)) : fitAt p (k + 1) (t ++ [x]) = false := fitAt_not _ _ _ (by
  rw [take_getD p k h, fit_snoc hc]
  exact fun h => hx h.1)

/-! ### the least place suffices: what a star has gone over need not be taken back once a further star is met -/

theorem fit_starless_len {m s : List Int} (hm : ∀ c ∈ m, c ≠ 42) (h : Fit m s) : s.length = m.length := by
  induction m generalizing s with
  | nil => rw [fit_nil_left.1 h]
  | cons c m ih =>
    obtain ⟨x, r, rfl, _, h2⟩ := (fit_cons (hm c List.mem_cons_self)).1 h
    rw [List.length_cons, List.length_cons, ih (fun d hd => hm d (List.mem_cons_of_mem _ hd)) h2]
theorem fit_two_stars {m q t : List Int} {n : Nat} (hm : ∀ c ∈ m, c ≠ 42) (hmin : ∀ u s v, t = u ++ s ++ v → Fit m s → n ≤ u.length) (h : Fit (42 :: (m ++ 42 :: q)) t) : Fit (42 :: q) (t.drop (n + m.length)) := by
  obtain ⟨u, b, rfl, hb⟩ := fit_star.1 h
  obtain ⟨s, r, rfl, hs, hr⟩ := fit_append.1 hb
  obtain ⟨y, z, rfl, hz⟩ := fit_star.1 hr
  have h1 := hmin u s (y ++ z) (by simp) hs
  have h2 := fit_starless_len hm hs
  refine fit_star.2 ⟨(u ++ s ++ y).drop (n + m.length), z, ?_, hz⟩
  rw [show u ++ (s ++ (y ++ z)) = (u ++ s ++ y) ++ z by simp, List.drop_append_of_le_length (by simp; omega)]
end Go.Proofs.YtaggjlobmikagaaDoor
