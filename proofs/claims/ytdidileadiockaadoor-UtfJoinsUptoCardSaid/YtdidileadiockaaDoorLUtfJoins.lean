/-
  The walk of the statement UtfJoins: the bytes of two texts, one behind the other, are those of both.
-/
import Derived.Test.YtdidileadiockaaDoorRefU3
import Derived.Test.YtdidileadiockaaDoorOpen
import Derived.Test.YtdidileadiockaaDoorLUtfAgain
namespace Go.Proofs.YtdidileadiockaaDoor
open Go.RowKit
set_option linter.unusedVariables false

set_option maxHeartbeats 2000000 in
theorem walk_UtfJoins (W : World) (hT : Tabs W) (a0 : ByteArray) (r0 : a0.size ≤ 1048576) (a1 : ByteArray) (r1 : a1.size ≤ 1048576) :
    Calls Tryd.prog 6 #[.string a0, .string a1] W fun e W' => e = .returned (.bool true) ∧ Below W.heap.size W W' := by
  have hsz : (a0 ++ a1).size = a0.size + a1.size := ByteArray.size_append
  have hdt : (a0 ++ a1).data.toList = a0.data.toList ++ a1.data.toList := by simp [ByteArray.data_append]
  have c1 := fun w hT => Put_any a0 w (by omega) hT
  have c2 := fun w hT => Put_any a1 w (by omega) hT
  have c3 := fun w hT => Put_any (a0 ++ a1) w (by omega) hT
  have c6 := fun w hT => Lib.hid (works_any w hT)
  unfold PutPost at c1 c2 c3
  rw [hdt] at c3
  have hby0 := putOfL_byte a0.data.toList
  have hby1 := putOfL_byte a1.data.toList
  have hby2 := putOfL_byte (a0.data.toList ++ a1.data.toList)
  have hl0 : (putOfL a0.data.toList).length ≤ 4194304 := by have h1 := putOfL_length a0.data.toList; have h2 := unitsOfL_le a0.data.toList; rw [← Lib.size_eq] at h2; omega
  have hl1 : (putOfL a1.data.toList).length ≤ 4194304 := by have h1 := putOfL_length a1.data.toList; have h2 := unitsOfL_le a1.data.toList; rw [← Lib.size_eq] at h2; omega
  have hl2 : (putOfL (a0.data.toList ++ a1.data.toList)).length ≤ 8388608 := by have h1 := putOfL_length (a0.data.toList ++ a1.data.toList); have h2 := unitsOfL_le (a0.data.toList ++ a1.data.toList); rw [List.length_append, ← Lib.size_eq, ← Lib.size_eq] at h2; omega
  obtain ⟨E2, hE2⟩ : ∃ E2, E2 = textErr (a0.data.toList ++ a1.data.toList) := ⟨_, rfl⟩
  rw [← hE2] at c3
  by_cases t0 : isText a0.data.toList = true
  · by_cases t1 : isText a1.data.toList = true
    · have e0 : textErr a0.data.toList = 0 := if_pos t0
      have e1 : textErr a1.data.toList = 0 := if_pos t1
      have e2 : E2 = 0 := by rw [hE2]; exact if_pos (isText_append t0 t1)
      have ep : putOfL (a0.data.toList ++ a1.data.toList) = putOfL a0.data.toList ++ putOfL a1.data.toList := by
        unfold putOfL
        rw [if_pos t0, if_pos t1, if_pos (isText_append t0 t1), text_append t0, putBytes_append]
      rw [e0] at c1
      rw [e1] at c2
      rw [e2, ep] at c3
      rw [ep] at hby2 hl2
      obtain ⟨Z0, hZ0⟩ : ∃ Z, Z = putOfL a0.data.toList := ⟨_, rfl⟩
      obtain ⟨Z1, hZ1⟩ : ∃ Z, Z = putOfL a1.data.toList := ⟨_, rfl⟩
      rw [← hZ0] at c1 c3 hby0 hby2 hl0 hl2
      rw [← hZ1] at c2 c3 hby1 hby2 hl1 hl2
      have c4 := fun w hT => Fold_any (a0 ++ a1) w (by omega) hT
      have c7 := fun w hT => Fold_any a0 w (by omega) hT
      have c8 := fun w hT => Fold_any a1 w (by omega) hT
      unfold FoldPost at c4 c7 c8
      rw [hdt, foldB_append] at c4
      obtain ⟨X, hX⟩ : ∃ X : ByteArray, X = ⟨(foldB a0.data.toList).toArray⟩ := ⟨_, rfl⟩
      obtain ⟨Y, hY⟩ : ∃ Y : ByteArray, Y = ⟨(foldB a1.data.toList).toArray⟩ := ⟨_, rfl⟩
      have hXY : (⟨(foldB a0.data.toList ++ foldB a1.data.toList).toArray⟩ : ByteArray) = X ++ Y := by
        rw [hX, hY]
        apply ByteArray.ext
        simp [ByteArray.data_append]
      rw [hXY] at c4
      rw [← hX] at c7
      rw [← hY] at c8
      have hXs : X.size = a0.size := by rw [hX, str_size, foldB_length, ← Lib.size_eq]
      have hYs : Y.size = a1.size := by rw [hY, str_size, foldB_length, ← Lib.size_eq]
      have c5 := fun w B B' A A' n c n' c' h h' => Lib.hid (Same_any w B B' A A' n c n' c' (Z0 ++ Z1) (Z0 ++ Z1) h h')
      rw [decide_eq_true rfl] at c5
      have C1 := Lib.hid c1
      have C2 := Lib.hid c2
      have C3 := Lib.hid c3
      have C4 := Lib.hid c4
      have C7 := Lib.hid c7
      have C8 := Lib.hid c8
      have hXl : X.size ≤ 1048576 := by omega
      have hYl : Y.size ≤ 1048576 := by omega
      obtain ⟨m0, hm0⟩ : ∃ m, m = Z0.length := ⟨_, rfl⟩
      obtain ⟨m1, hm1⟩ : ∃ m, m = Z1.length := ⟨_, rfl⟩
      have HM0 := Lib.hid hm0
      have HM1 := Lib.hid hm1
      clear c1 c2 c3 c4 c7 c8 e0 e1 e2 ep t0 t1 hE2 hZ0 hZ1 hX hY hXY hXs hYs hdt hsz hm0 hm1
      go_enter Tryd.func6, Tryd.ntmps6
      go_wp2_with fail
      refine (C1.out _ hT).mono ?_
      rintro e w1 ⟨v1, rfl, ho1, hb1⟩
      obtain ⟨A1, k1, rfl, hh1⟩ := ho1.own.holds hby0 (by omega)
      rw [← HM0.out] at hh1 ⊢
      have hT1 := hT.below hb1
      clear ho1
      go_wp2_with fail
      refine (C2.out _ hT1).mono ?_
      rintro e w2 ⟨v2, rfl, ho2, hb2⟩
      obtain ⟨A2, k2, rfl, hh2⟩ := ho2.own.holds hby1 (by omega)
      rw [← HM1.out] at hh2 ⊢
      have hT2 := hT1.below hb2
      have hh12 := hh1.over hb2
      clear ho2
      go_wp2_with fail
      refine (C3.out _ hT2).mono ?_
      rintro e w3 ⟨v3, rfl, ho3, hb3⟩
      obtain ⟨A3, k3, rfl, hh3⟩ := ho3.own.holds hby2 (by omega)
      have hT3 := hT2.below hb3
      have hh13 := hh12.over hb3
      have hh23 := hh2.over hb3
      have hB3 := step (step hb1 hb2) hb3
      rw [List.length_append, ← HM0.out, ← HM1.out] at hh3 ⊢
      clear ho3
      go_wp2_with (first
        | (at_builtin; refine wpList_append_bytes rfl (.tmp 36) (.tmp 37) rfl w3.heap.size _ [] rfl (Own.nil _ _) _ _ _ _ _ rfl hh13 (by have := HM0.out; simp; omega) (Nat.le_refl _) ?_; intro v4 w4 ho4 hb4 hg4)
        | (at_builtin; refine wpList_append_bytes rfl (.tmp 39) (.tmp 40) rfl w3.heap.size _ _ rfl ho4.out _ _ _ _ _ rfl (hh23.over hb4) (by have := HM0.out; have := HM1.out; simp; omega) hb4.size ?_; intro v5 w5 ho5 hb5 hg5)
        | fail)
      have hb35 : Below w3.heap.size w3 w5 := hb4.trans hb5
      have hh35 := hh3.over hb35
      have hT5 := hT3.below hb35
      have hv5 := ho5.out
      rw [List.nil_append] at hv5
      obtain ⟨A5, k5, rfl, hh5⟩ := hv5.holds hby2 (by rw [List.length_append]; omega)
      rw [List.length_append, ← HM0.out, ← HM1.out] at hh5 ⊢
      clear ho4 ho5 hv5
      refine (c5 _ _ _ _ _ _ _ _ _ hh5 hh35).out.mono ?_
      rintro e w6 ⟨rfl, j6, rfl⟩
      have hb36 : Below w3.heap.size w3 (w5.drewN j6) := hb35.trans ⟨rfl, rfl, rfl, Nat.le_refl _, fun _ _ => rfl⟩
      have hT6 := hT3.below hb36
      go_wp2_with fail
      refine (C4.out _ hT6).mono ?_
      rintro e w7 ⟨rfl, hb7⟩
      have hT7 := hT6.below hb7
      go_wp2_with fail
      refine (C7.out _ hT7).mono ?_
      rintro e w8 ⟨rfl, hb8⟩
      have hT8 := hT7.below hb8
      go_wp2_with fail
      refine (C8.out _ hT8).mono ?_
      rintro e w9 ⟨rfl, hb9⟩
      have hT9 := hT8.below hb9
      go_wp2_with fail
      refine (c6 _ hT9).out.mono ?_
      rintro e w10 ⟨rfl, hb10⟩
      go_wp2
      go_ret
      exact ⟨rfl, step (step (step (step (step hB3 hb36) hb7) hb8) hb9) hb10⟩
    · have e0 : textErr a0.data.toList = 0 := if_pos t0
      have e1 : textErr a1.data.toList = 5 := if_neg t1
      rw [e0] at c1
      rw [e1] at c2
      obtain ⟨Z0, hZ0⟩ : ∃ Z, Z = putOfL a0.data.toList := ⟨_, rfl⟩
      obtain ⟨Z1, hZ1⟩ : ∃ Z, Z = putOfL a1.data.toList := ⟨_, rfl⟩
      obtain ⟨Z2, hZ2⟩ : ∃ Z, Z = putOfL (a0.data.toList ++ a1.data.toList) := ⟨_, rfl⟩
      rw [← hZ0] at c1
      rw [← hZ1] at c2
      rw [← hZ2] at c3
      have C1 := Lib.hid c1
      have C2 := Lib.hid c2
      have C3 := Lib.hid c3
      clear c1 c2 c3 e0 e1 t0 t1 hE2 hZ0 hZ1 hZ2 hdt hsz hby0 hby1 hby2 hl0 hl1 hl2
      go_enter Tryd.func6, Tryd.ntmps6
      go_wp2_with fail
      refine (C1.out _ hT).mono ?_
      rintro e w1 ⟨v1, rfl, ho1, hb1⟩
      have hT1 := hT.below hb1
      go_wp2_with fail
      refine (C2.out _ hT1).mono ?_
      rintro e w2 ⟨v2, rfl, ho2, hb2⟩
      have hT2 := hT1.below hb2
      go_wp2_with fail
      refine (C3.out _ hT2).mono ?_
      rintro e w3 ⟨v3, rfl, ho3, hb3⟩
      have hT3 := hT2.below hb3
      clear ho1 ho2 ho3
      go_wp2_with fail
      refine (c6 _ hT3).out.mono ?_
      rintro e w4 ⟨rfl, hb4⟩
      go_wp2
      go_ret
      exact ⟨rfl, step (step (step hb1 hb2) hb3) hb4⟩
  · have e0 : textErr a0.data.toList = 5 := if_neg t0
    rw [e0] at c1
    obtain ⟨E1, hE1⟩ : ∃ E1, E1 = textErr a1.data.toList := ⟨_, rfl⟩
    obtain ⟨Z0, hZ0⟩ : ∃ Z, Z = putOfL a0.data.toList := ⟨_, rfl⟩
    obtain ⟨Z1, hZ1⟩ : ∃ Z, Z = putOfL a1.data.toList := ⟨_, rfl⟩
    obtain ⟨Z2, hZ2⟩ : ∃ Z, Z = putOfL (a0.data.toList ++ a1.data.toList) := ⟨_, rfl⟩
    rw [← hZ0] at c1
    rw [← hZ1, ← hE1] at c2
    rw [← hZ2] at c3
    have C1 := Lib.hid c1
    have C2 := Lib.hid c2
    have C3 := Lib.hid c3
    clear c1 c2 c3 e0 t0 hE1 hE2 hZ0 hZ1 hZ2 hdt hsz hby0 hby1 hby2 hl0 hl1 hl2
    go_enter Tryd.func6, Tryd.ntmps6
    go_wp2_with fail
    refine (C1.out _ hT).mono ?_
    rintro e w1 ⟨v1, rfl, ho1, hb1⟩
    have hT1 := hT.below hb1
    go_wp2_with fail
    refine (C2.out _ hT1).mono ?_
    rintro e w2 ⟨v2, rfl, ho2, hb2⟩
    have hT2 := hT1.below hb2
    go_wp2_with fail
    refine (C3.out _ hT2).mono ?_
    rintro e w3 ⟨v3, rfl, ho3, hb3⟩
    have hT3 := hT2.below hb3
    clear ho1 ho2 ho3
    go_wp2_with fail
    refine (c6 _ hT3).out.mono ?_
    rintro e w4 ⟨rfl, hb4⟩
    go_wp2
    go_ret
    exact ⟨rfl, step (step (step hb1 hb2) hb3) hb4⟩
end Go.Proofs.YtdidileadiockaaDoor
