/-
  Layer 5 without the program: patterns as bytes: what they fit, plain ones, the short form, the error. No program is named here.
-/
import Derived.Test.YtaggjlobmikagaaDoorGlob0
import Derived.Test.YtaggjlobmikagaaDoorUtf
namespace Go.Proofs.YtaggjlobmikagaaDoor
open Go.Lib

theorem foldR_star {r : Int} : foldR r = 42 ↔ r = 42 := by unfold foldR; split <;> omega
theorem foldR_mark {r : Int} : foldR r = 63 ↔ r = 63 := by unfold foldR; split <;> omega
theorem foldR_lt {r : Int} : foldR r < 1114112 ↔ r < 1114112 := by unfold foldR; split <;> omega
theorem isText_fold (l : List UInt8) : isText (foldB l) = isText l := by
  unfold isText
  rw [letters_low, List.all_map]
  congr 1
  funext r
  simp only [Function.comp, foldR_lt]
theorem foldedOf_length (l : List UInt8) : (foldedOf l).length = (letters l).length := by simp [foldedOf]

/-- the pattern p fits the text t -/
def FitB (p t : List UInt8) : Prop := Fit (foldedOf p) (foldedOf t)
/-- the error of a pattern and a text -/
def patErr (p t : List UInt8) : Int := if isText p = false ∨ isText t = false then 5 else if 64 < (letters p).length ∨ 256 < (letters t).length then 3 else 0
def plainOf (p : List UInt8) : Bool := isText p && p.all fun b => decide (b.toNat ≠ 42) && decide (b.toNat ≠ 63)
/-- the short form -/
def shortB (p : List UInt8) : List UInt8 := (shortL (letters p)).flatMap enc
def shortO (p : List UInt8) : List UInt8 := if patErr p [] = 0 then shortB p else []

theorem patErr_ok {p t : List UInt8} : patErr p t = 0 ↔ isText p = true ∧ isText t = true ∧ (letters p).length ≤ 64 ∧ (letters t).length ≤ 256 := by
  unfold patErr
  cases isText p <;> cases isText t <;> simp
theorem patErr_empty {p : List UInt8} : patErr p [] = 0 ↔ isText p = true ∧ (letters p).length ≤ 64 := by
  rw [patErr_ok]
  constructor
  · rintro ⟨h1, _, h3, _⟩; exact ⟨h1, h3⟩
  · rintro ⟨h1, h3⟩; exact ⟨h1, rfl, h3, by simp [letters_nil]⟩

theorem patErr_fold (p t : List UInt8) : patErr (foldB p) (foldB t) = patErr p t := by
  unfold patErr
  rw [isText_fold, isText_fold, letters_low, letters_low, List.length_map, List.length_map]

theorem foldedOf_append {a : List UInt8} (h : isText a = true) (t : List UInt8) : foldedOf (a ++ t) = foldedOf a ++ foldedOf t := by
  unfold foldedOf
  rw [text_append h, List.map_append]
theorem foldedOf_fold (l : List UInt8) : foldedOf (foldB l) = foldedOf l := by
  unfold foldedOf
  rw [letters_low, List.map_map]
  congr 1
  funext r
  show foldR (foldR r) = foldR r
  unfold foldR
  split <;> (try split) <;> omega
theorem fitB_fold (p t : List UInt8) : FitB (foldB p) (foldB t) ↔ FitB p t := by
  unfold FitB
  rw [foldedOf_fold, foldedOf_fold]

/-! ### the bytes of a letter that is neither * nor ? -/

theorem mem_enc_ne {r : Int} (h : IsOne r) (h1 : r ≠ 42) (h2 : r ≠ 63) : ∀ b ∈ enc r, b.toNat ≠ 42 ∧ b.toNat ≠ 63 := by
  rcases h with h | h
  · rw [enc_letter h]
    obtain ⟨h0, h3, h4⟩ := h
    intro b hb
    unfold encodeRune at hb
    obtain ⟨z, hz, rfl⟩ := List.mem_map.1 hb
    have key : (z = r ∧ r ≤ 127) ∨ (128 ≤ z ∧ z ≤ 255) := by
      by_cases c1 : r ≤ 127
      · rw [encodeRuneZ_one h0 c1] at hz
        exact .inl ⟨by simpa using hz, c1⟩
      · right
        revert hz
        unfold encodeRuneZ
        repeat' split
        all_goals (intro hz; simp only [List.mem_cons, List.not_mem_nil, or_false] at hz; omega)
    rw [u8_toNat]
    rcases key with ⟨rfl, _⟩ | _ <;> omega
  · intro b hb
    unfold enc at hb
    rw [if_pos (by omega)] at hb
    obtain rfl := List.mem_singleton.1 hb
    rw [u8_toNat]
    omega
theorem enc_star : enc 42 = [42] := by decide
theorem enc_mark : enc 63 = [63] := by decide

/-- no byte of a row is * or ?: no letter is -/
theorem plain_letters {p : List UInt8} (h : ∀ b ∈ p, b.toNat ≠ 42 ∧ b.toNat ≠ 63) : ∀ c ∈ foldedOf p, c ≠ 42 ∧ c ≠ 63 := by
  intro c hc
  obtain ⟨r, hr, rfl⟩ := List.mem_map.1 hc
  have hm : ∀ b ∈ enc r, b ∈ p := fun b hb => by
    rw [← letters_enc p]
    exact List.mem_flatMap.2 ⟨r, hr, hb⟩
  refine ⟨fun he => ?_, fun he => ?_⟩
  · rw [foldR_star] at he
    subst he
    exact (h 42 (hm 42 (by rw [enc_star]; exact List.mem_cons_self))).1 rfl
  · rw [foldR_mark] at he
    subst he
    exact (h 63 (hm 63 (by rw [enc_mark]; exact List.mem_cons_self))).2 rfl
/-- P5.3: a plain pattern fits just what is alike -/
theorem fitB_plain {p t : List UInt8} (h : plainOf p = true) : FitB p t ↔ foldB p = foldB t := by
  unfold plainOf at h
  rw [Bool.and_eq_true, List.all_eq_true] at h
  unfold FitB
  rw [fit_plain (plain_letters fun b hb => by have := h.2 b hb; simpa using this), alike_iff]

/-! ### two patterns -/

theorem fitB_join {p q s t : List UInt8} (hp : isText p = true) (hs : isText s = true) (h1 : FitB p s) (h2 : FitB q t) : FitB (p ++ q) (s ++ t) := by
  unfold FitB at *
  rw [foldedOf_append hp, foldedOf_append hs]
  exact fit_join h1 h2
theorem text_star : isText [42] = true := by decide +kernel
theorem folded_star : foldedOf [42] = [42] := by decide +kernel
theorem fitB_any (t : List UInt8) : FitB [42] t := by
  unfold FitB
  rw [folded_star]
  exact fit_any _
theorem fitB_join_star {p q s t b : List UInt8} (hp : isText p = true) (hs : isText s = true) (hb : isText b = true) (h1 : FitB p s) (h2 : FitB q t) : FitB (p ++ ([42] ++ q)) (s ++ (b ++ t)) :=
  fitB_join hp hs h1 (fitB_join text_star hb (fitB_any b) h2)

/-! ### marks -/

theorem letters_marks (k : Nat) : letters (List.replicate k 63) = List.replicate k 63 := by
  have h := letters_of (List.replicate k 63) (fun r hr => by rw [List.eq_of_mem_replicate hr]; exact ⟨by omega, by omega, by omega⟩)
  have e : (List.replicate k (63 : Int)).flatMap enc = List.replicate k 63 := by
    induction k with
    | zero => rfl
    | succ k ih => rw [List.replicate_succ, List.flatMap_cons, ih (letters_of _ fun r hr => by rw [List.eq_of_mem_replicate hr]; exact ⟨by omega, by omega, by omega⟩), enc_mark]; rfl
  rwa [e] at h
theorem text_marks (k : Nat) : isText (List.replicate k 63) = true := by
  unfold isText
  rw [letters_marks, List.all_eq_true]
  intro r hr
  rw [List.eq_of_mem_replicate hr]
  rfl
theorem folded_marks (k : Nat) : foldedOf (List.replicate k 63) = List.replicate k 63 := by
  unfold foldedOf
  rw [letters_marks, List.map_replicate]
  rfl
theorem fitB_marks (k : Nat) (t : List UInt8) : FitB (List.replicate k 63) t ↔ (letters t).length = k := by
  unfold FitB
  rw [folded_marks, fit_marks, foldedOf_length]
theorem fitB_marks_star (k : Nat) (t : List UInt8) : FitB (List.replicate k 63 ++ [42]) t ↔ k ≤ (letters t).length := by
  unfold FitB
  rw [foldedOf_append (text_marks k), folded_marks, folded_star, fit_marks_star, foldedOf_length]
theorem fitB_star_marks (k : Nat) (t : List UInt8) : FitB ([42] ++ List.replicate k 63) t ↔ k ≤ (letters t).length := by
  unfold FitB
  rw [foldedOf_append text_star, folded_star, folded_marks]
  exact (fit_star_marks k _).trans (by rw [foldedOf_length])

/-! ### the short form -/

theorem shortF_mem (p : List Int) (s : Bool) : ∀ c ∈ shortF s p, c ∈ p ∨ c = 42 := by
  induction p generalizing s with
  | nil => intro c hc; cases s <;> simp [shortF] at hc; exact .inr hc
  | cons d r ih =>
    intro c hc
    unfold shortF at hc
    split at hc
    · rcases ih true c hc with h | h
      · exact .inl (List.mem_cons_of_mem _ h)
      · exact .inr h
    · split at hc
      · rename_i h63
        rcases List.mem_cons.1 hc with h | hc
        · exact .inl (by rw [h, h63]; exact List.mem_cons_self)
        · rcases ih s c hc with h | h
          · exact .inl (List.mem_cons_of_mem _ h)
          · exact .inr h
      · rcases List.mem_append.1 hc with hc | hc
        · cases s <;> simp at hc
          exact .inr hc
        · rcases List.mem_cons.1 hc with h | hc
          · exact .inl (by rw [h]; exact List.mem_cons_self)
          · rcases ih false c hc with h | h
            · exact .inl (List.mem_cons_of_mem _ h)
            · exact .inr h
theorem shortL_letters {p : List UInt8} (h : isText p = true) : ∀ r ∈ shortL (letters p), IsLetter r := fun r hr => by
  rcases shortF_mem _ _ r hr with h1 | rfl
  · exact isText_letters h r h1
  · exact ⟨by omega, by omega, by omega⟩
theorem letters_short {p : List UInt8} (h : isText p = true) : letters (shortB p) = shortL (letters p) := letters_of _ (shortL_letters h)
theorem text_short {p : List UInt8} (h : isText p = true) : isText (shortB p) = true := isText_of _ (shortL_letters h)
theorem short_again {p : List UInt8} (h : isText p = true) : shortB (shortB p) = shortB p := by
  show (shortL (letters (shortB p))).flatMap enc = _
  rw [letters_short h, shortL_again]
  rfl
theorem flat_single (rs : List Int) (f : Int → Int) : rs.flatMap (fun r => [f r]) = rs.map f := by
  induction rs with
  | nil => rfl
  | cons r rs ih => rw [List.flatMap_cons, List.map_cons, ih]; rfl
theorem folded_short {p : List UInt8} (h : isText p = true) : foldedOf (shortB p) = shortL (foldedOf p) := by
  unfold foldedOf
  rw [letters_short h, ← flat_single, ← flat_single]
  exact (shortF_flat (fun r => [foldR r]) rfl rfl (letters p) (fun c _ h1 h2 => ⟨by simp, fun b hb => by
    obtain rfl := List.mem_singleton.1 hb
    exact ⟨fun e => h1 (foldR_star.1 e), fun e => h2 (foldR_mark.1 e)⟩⟩) false).symm
/-- P5.3: the short form fits just what the pattern fits -/
theorem fitB_short {p : List UInt8} (h : isText p = true) (t : List UInt8) : FitB (shortB p) t ↔ FitB p t := by
  unfold FitB
  rw [folded_short h, fit_shortL]

/-- the bytes as numbers -/
def intsB (l : List UInt8) : List Int := l.map fun b => (b.toNat : Int)
theorem intsB_flat (rs : List Int) : intsB (rs.flatMap enc) = rs.flatMap fun r => intsB (enc r) := by
  unfold intsB
  rw [List.map_flatMap]
/-- byte by byte, as the document has it -/
theorem short_bytes (l : List UInt8) (s : Bool) : shortF s (intsB l) = intsB ((shortF s (letters l)).flatMap enc) := by
  rw [intsB_flat, ← shortF_flat (fun r => intsB (enc r)) (by rw [enc_star]; rfl) (by rw [enc_mark]; rfl) (letters l) (fun c hc h1 h2 => ⟨by
    have := enc_pos (r := c)
    intro e
    have e2 := congrArg List.length e
    simp [intsB] at e2
    rw [e2] at this
    simp at this, fun b hb => by
    obtain ⟨u, hu, rfl⟩ := List.mem_map.1 hb
    have := mem_enc_ne (letters_one l c hc) h1 h2 u hu
    omega⟩), ← intsB_flat, letters_enc]
theorem short_bytes_len (l : List UInt8) : (shortB l).length ≤ l.length := by
  have h := short_bytes l false
  have h2 := shortF_len (intsB l) false
  rw [h] at h2
  have e1 : (intsB ((shortF false (letters l)).flatMap enc)).length = (shortB l).length := by simp [intsB, shortB, shortL]
  have e2 : (intsB l).length = l.length := by simp [intsB]
  rw [e1, e2] at h2
  simpa using h2
end Go.Proofs.YtaggjlobmikagaaDoor
