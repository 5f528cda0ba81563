/-
  Layer 13 (frame), words: what several frames, put one behind the other, come to; what any beginning of them comes to. No program is named here.
-/
import Derived.Test.YtjpcifmeimcikaaFr0
namespace Go.Proofs.Ytjpcifmeimcikaa
open Go.RowKit
set_option linter.unusedVariables false

/-- frames, one behind the other -/
def frAll (L : List (List Int)) : List Int := (L.map frPO).flatten
theorem frAll_cons (b : List Int) (L : List (List Int)) : frAll (b :: L) = frPO b ++ frAll L := rfl
theorem frAll_snoc (L : List (List Int)) (b : List Int) : frAll (L ++ [b]) = frAll L ++ frPO b := by
  unfold frAll
  rw [List.map_append, List.flatten_append]
  simp
theorem frs_all (L : List (List Int)) (h : ∀ b ∈ L, frPE b = 0) : frs (frAll L) = (L, [], 0) := by
  induction L with
  | nil => exact frs_nil
  | cons b L ih => rw [frAll_cons, frs_put (h b List.mem_cons_self), ih fun x hx => h x (List.mem_cons_of_mem _ hx)]
theorem frPO_len {b : List Int} (h : frPE b = 0) : (frPO b).length = 4 + b.length := by
  unfold frPO
  rw [if_pos h, List.length_append]
  rfl
theorem frPE_ok {b : List Int} (h : frPE b = 0) : 1 ≤ b.length ∧ b.length ≤ 65536 := by
  unfold frPE at h
  by_cases h0 : b.length = 0
  · rw [if_pos h0] at h; cases h
  · rw [if_neg h0] at h
    by_cases h1 : 65536 < b.length
    · rw [if_pos h1] at h; cases h
    · omega
theorem frPE_of {b : List Int} (h1 : 1 ≤ b.length) (h2 : b.length ≤ 65536) : frPE b = 0 := by
  unfold frPE
  rw [if_neg (by omega), if_neg (by omega)]
theorem frPO_bytes {b : List Int} (hb : Bytes b) : Bytes (frPO b) := by
  unfold frPO
  by_cases h : frPE b = 0
  · rw [if_pos h]
    exact (frHead_bytes (frPE_ok h).2).append hb
  · rw [if_neg h]
    exact Bytes.nil
/-- a beginning of bytes that are in order is in order -/
theorem frs_ahead (c y : List Int) (h : (frs (c ++ y)).2.2 = 0) : (frs c).2.2 = 0 := by
  by_cases h0 : (frs c).2.2 = 0
  · exact h0
  · rw [frs_more_bad c y h0] at h
    exact absurd h h0
/-- where no frame is whole, all bytes are left -/
theorem frs_none {r : List Int} (h1 : (frs r).1 = []) (h2 : (frs r).2.2 = 0) : (frs r).2.1 = r := by
  by_cases he : frE r = 0
  · by_cases hw : frW r = true
    · rw [frs_step hw] at h1
      cases h1
    · rw [frs_wait he hw]
  · rw [frs_bad he] at h2
    exact absurd h2 he
/-- how many frames there are -/
theorem frs_count (r : List Int) : (frs r).1.length ≤ r.length := by
  generalize hn : r.length = n
  induction n using Nat.strongRecOn generalizing r with
  | ind n ih =>
    by_cases he : frE r = 0
    · by_cases hw : frW r = true
      · obtain ⟨h1, h2, h3, h4, h5, h6⟩ := frW_facts hw
        have ih1 := ih (r.drop (4 + frN r)).length (by rw [List.length_drop]; omega) (r.drop (4 + frN r)) rfl
        rw [frs_step hw]
        rw [List.length_drop] at ih1
        show (frs (r.drop (4 + frN r))).1.length + 1 ≤ n
        omega
      · rw [frs_wait he hw]
        exact Nat.zero_le _
    · rw [frs_bad he]
      exact Nat.zero_le _
/-- what is left has bytes -/
theorem frs_left_bytes {r : List Int} (hb : Bytes r) : Bytes (frs r).2.1 := by
  generalize hn : r.length = n
  induction n using Nat.strongRecOn generalizing r with
  | ind n ih =>
    by_cases he : frE r = 0
    · by_cases hw : frW r = true
      · obtain ⟨h1, h2, h3, h4, h5, h6⟩ := frW_facts hw
        rw [frs_step hw]
        exact ih (r.drop (4 + frN r)).length (by rw [List.length_drop]; omega) (hb.drop _) rfl
      · rw [frs_wait he hw]
        exact hb
    · rw [frs_bad he]
      exact Bytes.nil
/-- the error is one of three -/
theorem frE_range (r : List Int) : frE r = 0 ∨ frE r = 3 ∨ frE r = 5 := by
  unfold frE
  repeat' split
  all_goals simp
theorem frs_error (r : List Int) : (frs r).2.2 = 0 ∨ (frs r).2.2 = 3 ∨ (frs r).2.2 = 5 := by
  generalize hn : r.length = n
  induction n using Nat.strongRecOn generalizing r with
  | ind n ih =>
    by_cases he : frE r = 0
    · by_cases hw : frW r = true
      · obtain ⟨h1, h2, h3, h4, h5, h6⟩ := frW_facts hw
        rw [frs_step hw]
        exact ih (r.drop (4 + frN r)).length (by rw [List.length_drop]; omega) _ rfl
      · rw [frs_wait he hw]
        exact .inl rfl
    · rw [frs_bad he]
      exact frE_range r
end Go.Proofs.Ytjpcifmeimcikaa
