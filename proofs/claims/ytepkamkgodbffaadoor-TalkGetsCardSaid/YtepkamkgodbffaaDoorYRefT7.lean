/-
  What the document's reader takes, held against the program's (pure).
-/
import Derived.Test.YtepkamkgodbffaaDoorZD
namespace Go.Proofs.YtepkamkgodbffaaDoor
open Go.RowKit
set_option linter.unusedVariables false
set_option maxRecDepth 100000

theorem num_zero {ys : List Int} (h : Bytes ys) : num ys = 0 ↔ ys.all (· == 0) = true := by
  induction ys with
  | nil => simp [num]
  | cons y ys ih =>
    have hy := h y List.mem_cons_self
    have hb : Bytes ys := fun x hx => h x (List.mem_cons_of_mem _ hx)
    have hn := (num_bounds ys hb).1
    have ih' := ih hb
    simp only [num, List.all_cons, Bool.and_eq_true, beq_iff_eq]
    constructor
    · intro he
      exact ⟨by omega, ih'.1 (by omega)⟩
    · rintro ⟨h1, h2⟩
      have := ih'.2 h2
      omega
theorem rdMost_Z {xs : List Int} (hx : Bytes xs) {s : Nat} {r : Rd} (hs : sizeOk (s : Int) = true) : (rdMost xs s 0 5 r).2 = rdZ xs s r := by
  obtain ⟨e2, e1⟩ := rdPart_N (xs := xs) (r := r) hs
  have hb := rdPart_bytes hx s r
  have hs8 : 1 ≤ s ∧ s ≤ 8 := by rcases sizeOk_cases hs with h | h | h | h <;> omega
  unfold rdMost rdZ
  rw [e2]
  by_cases he : (rdN xs s r).2.e = 0
  · rw [if_pos he]
    have hl : (rdPart xs s r).1.length = s := rdPart_ok (n := xs.length) rfl (by rw [e2]; exact he)
    obtain ⟨ys, hys⟩ : ∃ ys, ys = (rdPart xs s r).1 := ⟨_, rfl⟩
    rw [← hys] at e1 hb hl ⊢
    have ep : partErr s 0 (s : Int) = 0 := by unfold partErr; rw [if_neg (by omega), if_neg (by omega)]
    have eg : getErr s 0 (s : Int) = 0 := by unfold getErr; rw [if_pos hs, ep]
    have e3 : (rdN xs s r).1 = num ys := by
      rw [← e1]
      unfold getOf
      rw [hl, eg, if_pos rfl]
      simp [List.take_of_length_le (Nat.le_of_eq hl)]
    have e4 : zeroOf ys 0 (s : Int) = ys.all (· == 0) := by
      unfold zeroOf partOf
      rw [hl, ep, if_pos rfl]
      simp [List.take_of_length_le (Nat.le_of_eq hl)]
    rw [e4, e3]
    by_cases hz : ys.all (· == 0) = true
    · rw [if_pos hz, if_neg (fun h => by have := (num_zero hb).2 hz; omega)]
    · rw [if_neg hz, if_pos ⟨he, by have h1 := (num_bounds ys hb).1; have h2 : ¬ num ys = 0 := fun h => hz ((num_zero hb).1 h); omega⟩]
  · rw [if_neg he, if_neg (fun h => he h.1)]
/-- a text: where the two readers stand behind an error differs, what is told does not -/
theorem rdText_P (xs : List Int) (r : Rd) : (rdText xs r).1 = (prdText xs r).1 ∧ rdEnd xs (rdText xs r).2 = rdEnd xs (prdText xs r).2 := by
  unfold rdText prdText
  by_cases he : r.e = 0
  · rw [if_pos he, if_pos he]
    refine ⟨rfl, ?_⟩
    by_cases hg : gtextErr xs r.p = 0
    · rw [if_pos hg]
    · rw [if_neg hg]
      unfold rdEnd
      rw [if_neg (fun h => hg h.1), if_neg (fun h => hg h.1)]
  · rw [if_neg he, if_neg he]
    exact ⟨rfl, rfl⟩
theorem rdText_place {xs : List Int} {n : Nat} {r : Rd} (hx : Bytes xs) (hl : xs.length = n) (h : r.p ≤ n) : (rdText xs r).2.p ≤ n := by
  unfold rdText
  split
  · have := gtextNext_nonneg hx (r.p : Int) (by omega)
    show (if gtextErr xs r.p = 0 then (gtextNext xs r.p).toNat else r.p) ≤ n
    split
    · omega
    · exact h
  · exact h
theorem rdMost_place {xs : List Int} {s n : Nat} {most er : Int} {r : Rd} (hl : xs.length = n) (h : r.p ≤ n) : (rdMost xs s most er r).2.p ≤ n := by
  have := rdN_place (s := s) hl h
  unfold rdMost
  split
  · exact this
  · exact this
theorem rdDials_stop {xs : List Int} {r : Rd} {j : Nat} (h : ¬ (rdDials xs r j).2.e = 0) : ∀ k, rdDials xs r (j + k) = rdDials xs r j := by
  intro k
  induction k with
  | zero => rfl
  | succ k ih =>
    rw [Nat.add_succ]
    simp only [rdDials]
    rw [ih, if_neg h]
/-- what the document's loop over dialects takes -/
def docDial (xs : List Int) (r : Rd) : List Int × Rd := rdDials xs (rdMost xs 2 16 3 r).2 (rdMost xs 2 16 3 r).1.toNat
theorem rdMost16 {xs : List Int} (hx : Bytes xs) (r : Rd) : 0 ≤ (rdMost xs 2 16 3 r).1 ∧ (rdMost xs 2 16 3 r).1 ≤ 16 := by
  have hb := rdN_bounds hx r
  unfold rdMost
  by_cases h : (rdN xs 2 r).2.e = 0 ∧ 16 < (rdN xs 2 r).1
  · rw [if_pos h]; exact ⟨Int.le_refl 0, by show (0 : Int) ≤ 16; decide⟩
  · rw [if_neg h]
    refine ⟨hb.1, ?_⟩
    by_cases he : (rdN xs 2 r).2.e = 0
    · have : ¬ 16 < (rdN xs 2 r).1 := fun h2 => h ⟨he, h2⟩
      omega
    · have : (rdN xs 2 r).1 = 0 := by
        unfold rdN at he ⊢
        by_cases h1 : r.e = 0
        · rw [if_pos h1] at he ⊢
          by_cases h2 : xs.length < r.p + 2
          · rw [if_pos h2]
          · rw [if_neg h2] at he; exact absurd rfl he
        · rw [if_neg h1]
      omega
theorem docDial_take {xs : List Int} (hx : Bytes xs) (r : Rd) : (docDial xs r).2 = (rdTake xs r).2 ∧ ((rdTake xs r).2.e = 0 → (docDial xs r).1 = (rdTake xs r).1) := by
  unfold docDial rdTake rdMost
  by_cases h16 : 16 < (rdN xs 2 r).1
  · have he : (rdN xs 2 r).2.e = 0 := by
      unfold rdN at h16 ⊢
      by_cases h1 : r.e = 0
      · rw [if_pos h1] at h16 ⊢
        by_cases h2 : xs.length < r.p + 2
        · rw [if_pos h2] at h16; exact absurd h16 (by show ¬ (16 : Int) < 0; decide)
        · rw [if_neg h2]
      · rw [if_neg h1] at h16; exact absurd h16 (by show ¬ (16 : Int) < 0; decide)
    rw [if_pos ⟨he, h16⟩, if_pos h16]
    exact ⟨rfl, fun _ => rfl⟩
  · rw [if_neg (fun h => h16 h.2), if_neg h16]
    have h := rdNums_dials xs (rdN xs 2 r).2 (rdN xs 2 r).1.toNat
    exact ⟨h.1.symm, fun he => (h.2 (by rw [← h.1]; exact he)).symm⟩
theorem rdDials_place {xs : List Int} {n : Nat} {r : Rd} (hl : xs.length = n) (h : r.p ≤ n) (k : Nat) : (rdDials xs r k).2.p ≤ n := by
  rw [← (rdNums_dials xs r k).1]
  exact rdNums_place hl h k
theorem rdDials_len {xs : List Int} {r : Rd} (k : Nat) : (rdDials xs r k).1.length ≤ k := by
  induction k with
  | zero => exact Nat.le_refl 0
  | succ k ih =>
    simp only [rdDials]
    split
    · simp; exact ih
    · omega
end Go.Proofs.YtepkamkgodbffaaDoor
