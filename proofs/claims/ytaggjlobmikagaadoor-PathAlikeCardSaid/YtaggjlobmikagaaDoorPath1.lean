/-
  Layer 6 without the program: the first part of a path, what is behind it; which letters stand at a name's end; alike by letters. No program is named here.
-/
import Derived.Test.YtaggjlobmikagaaDoorPath0
namespace Go.Proofs.YtaggjlobmikagaaDoor
open Go.Lib

/-- the first part, what is behind it, is there more -/
def headP (l : List UInt8) : List UInt8 := (splitB l).headD []
def restP (l : List UInt8) : List UInt8 := joinB (splitB l).tail
def moreP (l : List UInt8) : Bool := !(splitB l).tail.isEmpty
/-- the parts that are still to come -/
def restQ (more : Bool) (l : List UInt8) : List (List UInt8) := if more then splitB l else []

theorem cut_plain {l : List UInt8} (h : ∀ b ∈ l, b ≠ 92) : headP l = l ∧ restP l = [] ∧ moreP l = false := by
  unfold headP restP moreP
  rw [split_plain h]
  exact ⟨rfl, rfl, rfl⟩
theorem cut_more {p r : List UInt8} (h : ∀ b ∈ p, b ≠ 92) : headP (p ++ 92 :: r) = p ∧ restP (p ++ 92 :: r) = r ∧ moreP (p ++ 92 :: r) = true := by
  unfold headP restP moreP
  rw [split_front h]
  refine ⟨rfl, join_split r, ?_⟩
  cases hs : splitB r with
  | nil => exact absurd hs (split_ne r)
  | cons q qs => rfl
theorem cut_split (l : List UInt8) : splitB l = headP l :: restQ (moreP l) (restP l) := by
  by_cases h : ∀ b ∈ l, b ≠ 92
  · obtain ⟨h1, h2, h3⟩ := cut_plain h
    rw [h1, h3, split_plain h]
    rfl
  · have key : ∀ l : List UInt8, (¬ ∀ b ∈ l, b ≠ 92) → ∃ p r, l = p ++ 92 :: r ∧ ∀ b ∈ p, b ≠ 92 := by
      intro l
      induction l with
      | nil => intro h; exact absurd (fun b hb => by cases hb) h
      | cons b l ih =>
        intro h
        by_cases hb : b = 92
        · exact ⟨[], l, by rw [hb]; rfl, fun c hc => by cases hc⟩
        · obtain ⟨p, r, rfl, hp⟩ := ih fun h2 => h fun c hc => by
            rcases List.mem_cons.1 hc with rfl | hc
            · exact hb
            · exact h2 c hc
          refine ⟨b :: p, r, rfl, fun c hc => ?_⟩
          rcases List.mem_cons.1 hc with rfl | hc
          · exact hb
          · exact hp c hc
    obtain ⟨p, r, rfl, hp⟩ := key l h
    obtain ⟨h1, h2, h3⟩ := cut_more (r := r) hp
    rw [h1, h2, h3, split_front hp]
    rfl
theorem parts_rest (l : List UInt8) : partsOf l = restQ (decide (l ≠ [])) l := by
  unfold partsOf restQ
  by_cases h : l = [] <;> simp [h]
theorem rest_le {l : List UInt8} (h : l ≠ []) : (restP l).length < l.length := by
  have h1 := join_split l
  unfold restP
  obtain ⟨p, ps, hs⟩ : ∃ p ps, splitB l = p :: ps := by
    cases hs : splitB l with
    | nil => exact absurd hs (split_ne l)
    | cons p ps => exact ⟨p, ps, rfl⟩
  rw [hs] at h1 ⊢
  show (joinB ps).length < _
  by_cases hp : ps = []
  · subst hp
    exact List.length_pos_iff.2 h
  · rw [← h1, join_cons p hp]
    simp
    omega
theorem head_le (l : List UInt8) : (headP l).length ≤ l.length := by
  have h1 := join_split l
  rw [cut_split l] at h1
  by_cases hp : restQ (moreP l) (restP l) = []
  · rw [hp] at h1
    have h1 : headP l = l := h1
    rw [h1]; exact Nat.le_refl _
  · rw [join_cons _ hp] at h1
    have := congrArg List.length h1
    simp at this
    omega

/-! ### what a loop over the parts knows -/

theorem namesErr_bad {ps : List (List UInt8)} {p : List UInt8} (hp : p ∈ ps) (h : nameOf p = false) : namesErr ps = 2 := by
  unfold namesErr
  rw [if_pos]
  rw [List.all_eq_false]
  exact ⟨p, hp, by simp [h]⟩
theorem namesErr_all {ps : List (List UInt8)} (h : ∀ p ∈ ps, nameOf p = true) : namesErr ps = if 8 < ps.length then 3 else 0 := by
  unfold namesErr
  rw [if_neg (by simp [List.all_eq_true.2 h])]
theorem parseOf_bad {l : List UInt8} (h : parseErr l ≠ 0) : parseOf l = [] := if_neg h

/-! ### a name's last letter -/

theorem nameL_cons (rs : List Int) : nameL rs = (decide (1 ≤ rs.length) && decide (rs.length ≤ 32) && rs.all (fun r => !barB r) && (!(rs.getD (rs.length - 1) 0 == 32) && !(rs.getD (rs.length - 1) 0 == 46))) := by
  unfold nameL
  simp only [Bool.and_assoc]

/-! ### alike, by letters -/

/-- the document's order of two rows of letters -/
def ordL : List Int → List Int → Int
  | [], [] => 0
  | [], y :: ys => -((y :: ys).length : Int)
  | x :: xs, [] => ((x :: xs).length : Int)
  | x :: xs, y :: ys => if foldR x = foldR y then ordL xs ys else foldR x - foldR y
theorem ordL_zero (xs ys : List Int) : ordL xs ys = 0 ↔ xs.map foldR = ys.map foldR := by
  induction xs generalizing ys with
  | nil => cases ys with
    | nil => simp [ordL]
    | cons y ys => simp [ordL]; omega
  | cons x xs ih => cases ys with
    | nil => simp [ordL]; omega
    | cons y ys =>
      unfold ordL
      split
      · rename_i h
        rw [ih, List.map_cons, List.map_cons, h]
        simp
      · rename_i h
        constructor
        · intro h2; omega
        · intro h2
          rw [List.map_cons, List.map_cons] at h2
          exact absurd (List.cons.inj h2).1 h
end Go.Proofs.YtaggjlobmikagaaDoor
