/-
  The walk of the statement UtfAgain: folded twice is folded; a text and its folded one are alike; alike are just those that are folded to one.
-/
import Derived.Test.YtdidileadiockaaDoorRefU3
namespace Go.Proofs.YtdidileadiockaaDoor
open Go.RowKit
set_option linter.unusedVariables false

theorem str_back (s : ByteArray) : (⟨s.data.toList.toArray⟩ : ByteArray) = s := rfl
theorem str_size (l : List UInt8) : (⟨l.toArray⟩ : ByteArray).size = l.length := by simp [ByteArray.size]
theorem str_eq (X Y : ByteArray) : (X.toList == Y.toList) = decide (X.data.toList = Y.data.toList) := by
  rw [Lib.toList_data, Lib.toList_data, Bool.eq_iff_iff, beq_iff_eq, decide_eq_true_eq]

set_option maxHeartbeats 1000000 in
theorem walk_UtfAgain (W : World) (hT : Tabs W) (a0 : ByteArray) (r0 : a0.size ≤ 1048576) (a1 : ByteArray) (r1 : a1.size ≤ 1048576) :
    Calls Tryd.prog 8 #[.string a0, .string a1] W fun e W' => e = .returned (.bool true) ∧ Below W.heap.size W W' := by
  have c1 := fun w hT => Fold_any a0 w (by omega) hT
  have c2 := fun w hT => Fold_any a1 w (by omega) hT
  have hxs : (⟨(foldB a0.data.toList).toArray⟩ : ByteArray).size = a0.size := by rw [str_size, foldB_length, ← Lib.size_eq]
  have c3 := fun w hT => Fold_any ⟨(foldB a0.data.toList).toArray⟩ w (by omega) hT
  have c4 := fun w hT => Alike_any a0 ⟨(foldB a0.data.toList).toArray⟩ w (by omega) (by omega) hT
  have c5 := fun w hT => Alike_any a0 a1 w (by omega) (by omega) hT
  unfold FoldPost at c1 c2 c3
  have e3 : foldB (⟨(foldB a0.data.toList).toArray⟩ : ByteArray).data.toList = foldB a0.data.toList := foldB_twice _
  have e4 : alikeOf a0.data.toList (⟨(foldB a0.data.toList).toArray⟩ : ByteArray).data.toList = true := by
    unfold alikeOf
    rw [e3]
    exact decide_eq_true rfl
  rw [e3] at c3
  rw [e4] at c4
  have e5 : ((⟨(foldB a0.data.toList).toArray⟩ : ByteArray).toList == (⟨(foldB a1.data.toList).toArray⟩ : ByteArray).toList) = alikeOf a0.data.toList a1.data.toList := by
    rw [str_eq]
    rfl
  obtain ⟨X, hX⟩ : ∃ X : ByteArray, X = ⟨(foldB a0.data.toList).toArray⟩ := ⟨_, rfl⟩
  obtain ⟨Y, hY⟩ : ∃ Y : ByteArray, Y = ⟨(foldB a1.data.toList).toArray⟩ := ⟨_, rfl⟩
  obtain ⟨k, hk⟩ : ∃ k, k = alikeOf a0.data.toList a1.data.toList := ⟨_, rfl⟩
  rw [← hX] at c1 c3 c4 hxs e5
  rw [← hY] at c2 e5
  rw [← hk] at c5 e5
  have C1 := Lib.hid c1
  have C2 := Lib.hid c2
  have C3 := Lib.hid c3
  have C4 := Lib.hid c4
  have C5 := Lib.hid c5
  have c6 := fun w hT => Lib.hid (works_any w hT)
  clear c1 c2 c3 c4 c5 e3 e4 hX hY hk
  go_enter Tryd.func8, Tryd.ntmps8
  go_wp2_with fail
  refine (C1.out _ hT).mono ?_
  rintro e w1 ⟨rfl, hb1⟩
  have hT1 := hT.below hb1
  go_wp2_with fail
  refine (C2.out _ hT1).mono ?_
  rintro e w2 ⟨rfl, hb2⟩
  have hT2 := hT1.below hb2
  go_wp2_with fail
  refine (C3.out _ hT2).mono ?_
  rintro e w3 ⟨rfl, hb3⟩
  have hT3 := hT2.below hb3
  go_wp2_with fail
  refine (C4.out _ hT3).mono ?_
  rintro e w4 ⟨rfl, hb4⟩
  have hT4 := hT3.below hb4
  go_wp2_with fail
  refine (C5.out _ hT4).mono ?_
  rintro e w5 ⟨rfl, hb5⟩
  have hT5 := hT4.below hb5
  go_wp2_with fail
  refine (c6 _ hT5).out.mono ?_
  rintro e w6 ⟨rfl, hb6⟩
  go_wp2
  go_ret
  exact ⟨rfl, step (step (step (step (step hb1 hb2) hb3) hb4) hb5) hb6⟩
end Go.Proofs.YtdidileadiockaaDoor
