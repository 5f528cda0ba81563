/-
  Layer 6: contracts of strings.Cut at the letter 92, strings.Clone, path.isText, path.barred.
-/
import Derived.Test.YtaggjlobmikagaaDoorUtfB
import Derived.Test.YtaggjlobmikagaaDoorPath1
import Derived.Test.YtaggjlobmikagaaDoorOwnF
import Derived.Lib.IndexLaws
import Derived.BigQuiet
namespace Go.Proofs.YtaggjlobmikagaaDoor
open Go.RowKit

theorem extract_mk (s : ByteArray) (a b : Nat) : s.extract a b = ⟨((s.data.toList.drop a).take (b - a)).toArray⟩ := by
  apply ByteArray.ext
  rw [← Lib.extract_eq]

/-- what a cut answers -/
def CutPost (w : World) (l : List UInt8) (e : Ending) (w' : World) : Prop := e = .returned (.tuple #[.string ⟨(headP l).toArray⟩, .string ⟨(restP l).toArray⟩, .bool (moreP l)]) ∧ Below w.heap.size w w'

set_option maxHeartbeats 1000000 in
theorem SCut_any (s : ByteArray) (w : World) (hs : s.size ≤ 140737488355328) :
    Calls Tryd.prog 41 #[.string s, .string ⟨#[92]⟩] w (CutPost w s.data.toList) := by
  have c1 := Tryd.stringslite_Index_one s 92 w
  have hge := Lib.indexByte_ge s.data.toList 92
  have hq : ∀ e w', (e = .returned (.tuple #[.string ⟨(headP s.data.toList).toArray⟩, .string ⟨(restP s.data.toList).toArray⟩, .bool (moreP s.data.toList)]) ∧ Below w.heap.size w w') → CutPost w s.data.toList e w' := fun _ _ h => h
  by_cases h : Lib.indexByte s.data.toList 92 = -1
  · have hn : ∀ b ∈ s.data.toList, b ≠ 92 := by
      rintro b hb rfl
      obtain ⟨k, hk⟩ := List.getElem?_of_mem hb
      exact Lib.indexByte_none h k hk
    obtain ⟨h1, h2, h3⟩ := cut_plain hn
    rw [h1, h2, h3, show (⟨s.data.toList.toArray⟩ : ByteArray) = s from rfl] at hq
    rw [h] at c1
    have C1 := Lib.hid c1
    have HQ := Lib.hid hq
    clear c1 hq h hn h1 h2 h3 hge
    go_enter Tryd.func41, Tryd.ntmps41
    go_wp2_with fail
    refine C1.out.mono ?_
    rintro e w1 ⟨rfl, rfl⟩
    go_wp2
    go_ret3
    exact HQ.out _ _ ⟨rfl, Below.refl _ _⟩
  · obtain ⟨o, ho⟩ := Int.eq_ofNat_of_zero_le (show 0 ≤ Lib.indexByte s.data.toList 92 by omega)
    obtain ⟨g1, g2⟩ := Lib.indexByte_some ho
    have hol : o < s.data.toList.length := (List.getElem?_eq_some_iff.1 g1).1
    have hos : o < s.size := by rw [Lib.size_eq]; exact hol
    have hcut : s.data.toList = s.data.toList.take o ++ 92 :: s.data.toList.drop (o + 1) := by
      have h1 : s.data.toList[o] = 92 := (List.getElem?_eq_some_iff.1 g1).2
      rw [← h1, ← List.drop_eq_getElem_cons hol, List.take_append_drop]
    have hb : ∀ b ∈ s.data.toList.take o, b ≠ 92 := by
      rintro b hb rfl
      obtain ⟨k, hk⟩ := List.getElem?_of_mem hb
      rw [List.getElem?_take] at hk
      split at hk
      · exact g2 k (by assumption) hk
      · cases hk
    obtain ⟨h1, h2, h3⟩ := cut_more (r := s.data.toList.drop (o + 1)) hb
    rw [← hcut] at h1 h2 h3
    have e1 := extract_mk s 0 o
    have e2 := extract_mk s (o + 1) s.size
    rw [List.drop_zero, Nat.sub_zero, ← h1] at e1
    rw [List.take_of_length_le (by rw [List.length_drop, ← Lib.size_eq]; omega), ← h2] at e2
    rw [← e1, ← e2, h3] at hq
    rw [ho] at c1
    have C1 := Lib.hid c1
    have HQ := Lib.hid hq
    have hw : Below w.heap.size w w := Below.refl _ _
    clear c1 hq h g1 g2 hol hcut hb h1 h2 h3 e1 e2 hge ho
    go_enter Tryd.func41, Tryd.ntmps41
    go_wp2_with fail
    refine C1.out.mono ?_
    rintro e w1 ⟨rfl, rfl⟩
    go_wp2
    go_quiet (fail)
    go_wp2
    go_ret3
    exact HQ.out _ _ ⟨rfl, drewed _ _⟩

set_option maxHeartbeats 400000 in
theorem Cut_any (s : ByteArray) (w : World) (hs : s.size ≤ 140737488355328) :
    Calls Tryd.prog 27 #[.string s, .string ⟨#[92]⟩] w (CutPost w s.data.toList) := by
  have c1 := SCut_any s w hs
  have hq : ∀ e w', (e = .returned (.tuple #[.string ⟨(headP s.data.toList).toArray⟩, .string ⟨(restP s.data.toList).toArray⟩, .bool (moreP s.data.toList)]) ∧ Below w.heap.size w w') → CutPost w s.data.toList e w' := fun _ _ h => h
  unfold CutPost at c1
  obtain ⟨X, hX⟩ : ∃ X : ByteArray, X = ⟨(headP s.data.toList).toArray⟩ := ⟨_, rfl⟩
  obtain ⟨Y, hY⟩ : ∃ X : ByteArray, X = ⟨(restP s.data.toList).toArray⟩ := ⟨_, rfl⟩
  obtain ⟨b, hb⟩ : ∃ b, b = moreP s.data.toList := ⟨_, rfl⟩
  rw [← hX, ← hY, ← hb] at c1 hq
  have C1 := Lib.hid c1
  have HQ := Lib.hid hq
  clear c1 hq hX hY hb
  go_enter Tryd.func27, Tryd.ntmps27
  go_wp2_with fail
  refine C1.out.mono ?_
  rintro e w1 ⟨rfl, hb1⟩
  go_wp2
  go_ret3
  exact HQ.out _ _ ⟨rfl, hb1⟩

set_option maxHeartbeats 400000 in
theorem Clone_any (s : ByteArray) (w : World) (hs : s.size ≤ 140737488355328) :
    Calls Tryd.prog 28 #[.string s] w fun e w' => e = .returned (.string s) ∧ Below w.heap.size w w' := by
  have c1 := Lib.hid (Tryd.stringslite_Clone s w (by omega))
  go_enter Tryd.func28, Tryd.ntmps28
  go_wp2_with fail
  refine c1.out.mono ?_
  rintro e w1 ⟨rfl, hb1⟩
  go_wp2
  go_ret
  exact ⟨rfl, hb1⟩

theorem textErr_zeroP (l : List UInt8) : (textErr l == 0) = isText l := by
  unfold textErr
  cases isText l <;> rfl

set_option maxHeartbeats 400000 in
theorem PIsText_any (s : ByteArray) (w : World) (hs : s.size ≤ 140737488355328) (hT : Tabs w) :
    Calls Tryd.prog 30 #[.string s] w fun e w' => e = .returned (.bool (isText s.data.toList)) ∧ Below w.heap.size w w' := by
  have c1 := Units_any s w hs hT
  rw [← textErr_zeroP]
  obtain ⟨U, hU⟩ : ∃ U, U = unitsOfL s.data.toList := ⟨_, rfl⟩
  obtain ⟨E, hE⟩ : ∃ E, E = textErr s.data.toList := ⟨_, rfl⟩
  rw [← hU, ← hE] at c1
  rw [← hE]
  have C1 := Lib.hid c1
  clear c1 hU hE
  go_enter Tryd.func30, Tryd.ntmps30
  go_wp2_with fail
  refine C1.out.mono ?_
  rintro e w1 ⟨rfl, hb1⟩
  go_wp2
  go_ret
  exact ⟨rfl, hb1⟩

theorem barB_sum (r : Int) : barB r = ((r == 92) || (r == 47) || (r == 58) || (r == 42) || (r == 63) || (r == 34) || (r == 60) || (r == 62) || (r == 124) || decide (r < 32)) := by
  unfold barB
  rw [Bool.eq_iff_iff]
  simp only [Bool.or_eq_true, beq_iff_eq, decide_eq_true_eq]
  omega

set_option maxHeartbeats 1000000 in
theorem PBarred_any (r : Int) (w : World) :
    Calls Tryd.prog 31 #[.int .i32 r] w fun e w' => e = .returned (.bool (barB r)) ∧ w = w' := by
  rw [barB_sum]
  by_cases h : r = 92 ∨ r = 47 ∨ r = 58 ∨ r = 42 ∨ r = 63 ∨ r = 34 ∨ r = 60 ∨ r = 62 ∨ r = 124
  · rcases h with rfl | rfl | rfl | rfl | rfl | rfl | rfl | rfl | rfl
    all_goals
      go_enter Tryd.func31, Tryd.ntmps31
      go_wp2
      go_ret
      exact ⟨rfl, rfl⟩
  · have h1 : (r == 92) = false := by simp; omega
    have h2 : (r == 47) = false := by simp; omega
    have h3 : (r == 58) = false := by simp; omega
    have h4 : (r == 42) = false := by simp; omega
    have h5 : (r == 63) = false := by simp; omega
    have h6 : (r == 34) = false := by simp; omega
    have h7 : (r == 60) = false := by simp; omega
    have h8 : (r == 62) = false := by simp; omega
    have h9 : (r == 124) = false := by simp; omega
    rw [h1, h2, h3, h4, h5, h6, h7, h8, h9]
    clear h
    go_enter Tryd.func31, Tryd.ntmps31
    go_wp2
    go_ret
    exact ⟨rfl, rfl⟩
end Go.Proofs.YtaggjlobmikagaaDoor
