/-
  Layer 14 (extent): the law ExtentReads, walked.
-/
import Derived.Test.YtgbhnnobbciemaaExP
import Derived.Test.YtgbhnnobbciemaaExW
namespace Go.Proofs.Ytgbhnnobbciemaa
set_option maxRecDepth 100000
open Go.RowKit
set_option linter.unusedVariables false

set_option maxHeartbeats 2000000 in
theorem law_ExtentReads (I : ExtI) (W : World) (A : Option Addr) (n c : Nat) (l : List ActV) (h : LAct W W.heap.size A n c l) (hn : n ≤ 140737488355328) (a k : Int) (ha : I64 a) (hk : I64 k) :
    Calls Try.prog 4 #[.slice A n c, .int .i64 a, .int .i64 k] W fun e w' => e = .returned (.bool true) ∧ Below W.heap.size W w' := by
  have CP := Lib.hid (Played_any I W A n c l h hn)
  unfold PlayPost at CP
  obtain ⟨B, hB⟩ : ∃ B, B = actsB l (min n 60) := ⟨_, rfl⟩
  obtain ⟨Z, hZ⟩ : ∃ Z, Z = actsZ l (min n 60) := ⟨_, rfl⟩
  rw [← hB, ← hZ] at CP
  clear h hB hZ
  have HA := Lib.hid ha
  have HK := Lib.hid hk
  go_enter Try.func4, Try.ntmps4
  go_wp2_with fail
  refine CP.out.mono ?_
  rintro e w1 ⟨q, g, S, vB, vZ, rfl, t1, l1⟩
  have T1 := Lib.hid t1
  have L1 := Lib.hid l1
  have HRB : Hid (Bytes (exRd B a k)) := exRd_bytes (I.okB t1.x).2.2 _ _
  have HRL : Hid ((exRd B a k).length ≤ 281474976710656) := Nat.le_trans (exRd_len _ _ _) (Nat.le_trans (I.okB t1.x).2.1 (by decide))
  clear t1 l1 CP
  go_wp2_with fail
  refine (I.read T1.out.x HA.out HK.out).mono ?_
  rintro e w2 ⟨v, rfl, o2, _, l2⟩
  obtain ⟨Av, cv, rfl, y2⟩ := o2.holds HRB.out HRL.out
  have Y2 := Lib.hid y2
  have T2 := Lib.hid (T1.out.below l2)
  have L2 := Lib.hid (L1.out.trans (l2.mono L1.out.size))
  clear o2 y2 l2
  go_wp2_with fail
  refine (RExRead_any w2 _ g vB vZ B Z T2.out.r a k HA.out HK.out).mono ?_
  rintro e w3 ⟨v, rfl, o3, l3⟩
  obtain ⟨Au, cu, rfl, y3⟩ := o3.holds HRB.out HRL.out
  have Y3 := Lib.hid y3
  have Y2' := Lib.hid (Y2.out.over l3)
  have L3 := Lib.hid (L2.out.trans (l3.mono L2.out.size))
  have C3 := Lib.hid (Same_any w3 _ _ _ _ _ _ _ _ _ _ Y2'.out y3)
  clear o3 y3 l3
  go_wp2_with fail
  refine C3.out.mono ?_
  rintro e w4 ⟨rfl, j, rfl⟩
  go_wp2_with fail
  refine (WorksX_any I (w3.drewN j)).mono ?_
  rintro e w5 ⟨rfl, l5⟩
  have L5 := Lib.hid ((L3.out.trans ((drewed w3 j).mono L3.out.size)).trans (l5.mono (by have := L3.out.size; exact this)))
  clear l5
  go_wp2_with fail
  go_ret
  exact ⟨by simp, L5.out⟩
end Go.Proofs.Ytgbhnnobbciemaa
