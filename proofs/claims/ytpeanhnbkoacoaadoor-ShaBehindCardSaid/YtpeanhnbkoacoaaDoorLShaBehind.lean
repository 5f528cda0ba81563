/-
  The walk of the statement ShaBehind: what stands behind n bytes is the document's: from 9 to 72 bytes, to a multiple of 64, or none.
-/
import Derived.Test.YtpeanhnbkoacoaaDoorWorksS
import Derived.Test.YtpeanhnbkoacoaaDoorRefS4
import Derived.Test.YtpeanhnbkoacoaaDoorSame
namespace Go.Proofs.YtpeanhnbkoacoaaDoor
open Go.RowKit
set_option linter.unusedVariables false

set_option maxHeartbeats 2000000 in
theorem walk_ShaBehind (W : World) (hT : KTab W) (a0 : Int) (w0 : 0 ≤ a0 ∧ a0 ≤ 18446744073709551615) :
    Calls Tryd.prog 4 #[.int .u64 a0] W fun e W' => e = .returned (.bool true) ∧ Below W.heap.size W W' := by
  have c1 := fun w => Behind_any w a0 w0
  unfold BehPost at c1
  have c2 := fun w => RBehind_any w a0 w0
  have cw := fun w hK => Lib.hid (works_any w hK)
  have hb := behindOf_bytes a0
  have hl1 := behindOf_len a0
  have hl2 := behindOf_none a0
  have hnl := noughts_lt a0
  have hnn : ((noughts a0 : Nat) : Int) = (55 - a0) % 64 := by unfold noughts; omega
  obtain ⟨E, hE⟩ : ∃ E, E = behindOf a0 := ⟨_, rfl⟩
  rw [← hE] at c1 c2 hb hl1 hl2
  have c3 := fun w B B' A A' n c n' c' h h' => Lib.hid (Same_any w B B' A A' n c n' c' E E h h')
  rw [decide_eq_true rfl] at c3
  have C1 := fun w => Lib.hid (c1 w)
  have C2 := fun w => Lib.hid (c2 w)
  obtain ⟨L, hL⟩ : ∃ L, L = E.length := ⟨_, rfl⟩
  rw [← hL] at hl1 C1
  have HL := Lib.hid hL
  have HT := Lib.hid hT
  obtain ⟨w00, w01⟩ := w0
  clear c1 c2 hT hE
  by_cases hlt : a0 < 1152921504606846976
  · have h9 : 9 ≤ L := by have := hl1 hlt; omega
    have h72 : L ≤ 72 := by have := hl1 hlt; omega
    have h64 : (a0 + (L : Int)) % 64 = 0 := by have := hl1 hlt; omega
    clear hl1 hl2 hnl hnn hL
    go_enter Tryd.func4, Tryd.ntmps4
    go_wp2_with fail
    refine (C1 _).out.mono ?_
    rintro e w1 ⟨A1, rfl, f1, b1⟩
    have F1 := Lib.hid (f1.holds HL.out.symm hb (by omega))
    clear f1
    go_wp2_with fail
    refine (C2 _).out.mono ?_
    rintro e w2 ⟨v2, rfl, o2, b2⟩
    obtain ⟨A2, k2, rfl, hh2⟩ := o2.holds hb (by rw [← HL.out]; omega)
    rw [← HL.out] at hh2 ⊢
    have F12 := Lib.hid (F1.out.over b2)
    have F2 := Lib.hid hh2
    have B2 : Hid (Below W.heap.size W w2) := step b1 b2
    clear o2 hh2 F1 b1 b2
    go_wp2_with fail
    refine (c3 _ _ _ _ _ _ _ _ _ F12.out F2.out).out.mono ?_
    rintro e w3 ⟨rfl, j3, rfl⟩
    have B3 : Hid (Below W.heap.size W (w2.drewN j3)) := below_drewN B2.out j3
    have hq1 : ((L : Int) == 0) = false := by simp; omega
    have hq2 : decide ((1152921504606846976 : Int) ≤ a0) = false := by simp; omega
    go_wp2_with fail
    refine (cw _ (HT.out.below B3.out)).out.mono ?_
    rintro e w4 ⟨rfl, b4⟩
    go_wp2_with fail
    go_ret
    exact ⟨rfl, step B3.out b4⟩
  · have hE0 := hl2 hlt
    have hL0 : L = 0 := by rw [hL, hE0]; rfl
    subst hL0
    have hge : (1152921504606846976 : Int) ≤ a0 := by omega
    clear hl1 hl2 hnl hnn hL hE0 hlt
    go_enter Tryd.func4, Tryd.ntmps4
    go_wp2_with fail
    refine (C1 _).out.mono ?_
    rintro e w1 ⟨A1, rfl, f1, b1⟩
    have F1 := Lib.hid (f1.holds HL.out.symm hb (by omega))
    clear f1
    go_wp2_with fail
    refine (C2 _).out.mono ?_
    rintro e w2 ⟨v2, rfl, o2, b2⟩
    obtain ⟨A2, k2, rfl, hh2⟩ := o2.holds hb (by rw [← HL.out]; omega)
    rw [← HL.out] at hh2 ⊢
    have F12 := Lib.hid (F1.out.over b2)
    have F2 := Lib.hid hh2
    have B2 : Hid (Below W.heap.size W w2) := step b1 b2
    clear o2 hh2 F1 b1 b2
    go_wp2_with fail
    refine (c3 _ _ _ _ _ _ _ _ _ F12.out F2.out).out.mono ?_
    rintro e w3 ⟨rfl, j3, rfl⟩
    have B3 : Hid (Below W.heap.size W (w2.drewN j3)) := below_drewN B2.out j3
    have hq2 : decide ((1152921504606846976 : Int) ≤ a0) = true := by simp; omega
    go_wp2_with fail
    refine (cw _ (HT.out.below B3.out)).out.mono ?_
    rintro e w4 ⟨rfl, b4⟩
    go_wp2_with fail
    go_ret
    exact ⟨rfl, step B3.out b4⟩
end Go.Proofs.YtpeanhnbkoacoaaDoor
