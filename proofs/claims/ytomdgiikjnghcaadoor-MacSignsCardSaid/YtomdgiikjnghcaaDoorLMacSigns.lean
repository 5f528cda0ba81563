/-
  The walk of the statement MacSigns: a signed message is the document's, or its error; so is whether one is signed.
-/
import Derived.Test.YtomdgiikjnghcaaDoorWorksM
import Derived.Test.YtomdgiikjnghcaaDoorRefM4
import Derived.Test.YtomdgiikjnghcaaDoorSame
import Derived.Test.YtomdgiikjnghcaaDoorOpen
namespace Go.Proofs.YtomdgiikjnghcaaDoor
open Go.RowKit
set_option linter.unusedVariables false

set_option maxHeartbeats 2000000 in
theorem walk_MacSigns (W : World) (hT : KTab W) (A0 : Option Addr) (n0 c0 : Nat) (z0 : List Int) (l0 : n0 ≤ c0) (r0 : c0 ≤ 140737488351232) (h0 : Holds W W.heap.size A0 c0 c0 z0)
    (A1 : Option Addr) (n1 c1 : Nat) (z1 : List Int) (l1 : n1 ≤ c1) (r1 : c1 ≤ 140737488351232) (h1 : Holds W W.heap.size A1 c1 c1 z1) :
    Calls Tryd.prog 4 #[.slice A0 n0 c0, .slice A1 n1 c1] W fun e W' => e = .returned (.bool true) ∧ Below W.heap.size W W' := by
  have hk := h0.head l0
  have hm := h1.head l1
  obtain ⟨ks, hks⟩ : ∃ xs, xs = z0.take n0 := ⟨_, rfl⟩
  obtain ⟨ms, hms⟩ : ∃ xs, xs = z1.take n1 := ⟨_, rfl⟩
  rw [← hks] at hk
  rw [← hms] at hm
  have c1' := fun w h h2 hK => Sign_any w A0 n0 c0 ks (by omega) h A1 n1 c1 ms (by omega) h2 hK
  have c2' := fun w h h2 => RSign_any w A0 n0 c0 ks (by omega) h A1 n1 c1 ms (by omega) h2
  have c3' := fun w h h2 hK => Check_any w A0 n0 c0 ks (by omega) h A1 n1 c1 ms (by omega) h2 hK
  have c4' := fun w h h2 => RCheck_any w A0 n0 c0 ks (by omega) h A1 n1 c1 ms (by omega) h2
  have hle := signO_le ks ms
  have hsb := signO_bytes ks ms hm.byte
  rw [hm.len] at hle
  unfold SignPost at c1' c2'
  obtain ⟨E, hE⟩ : ∃ E, E = signErr ms.length := ⟨_, rfl⟩
  obtain ⟨S, hS⟩ : ∃ S, S = signO ks ms := ⟨_, rfl⟩
  obtain ⟨F, hF⟩ : ∃ F, F = checkErr ks ms := ⟨_, rfl⟩
  rw [← hE, ← hS] at c1' c2'
  rw [← hF] at c3' c4'
  rw [← hS] at hle hsb
  obtain ⟨L, hL⟩ : ∃ L, L = S.length := ⟨_, rfl⟩
  rw [← hL] at hle
  have HL := Lib.hid hL
  have C1 := fun w h h2 hK => Lib.hid (c1' w h h2 hK)
  have C2 := fun w h h2 => Lib.hid (c2' w h h2)
  have C3 := fun w h h2 hK => Lib.hid (c3' w h h2 hK)
  have C4 := fun w h h2 => Lib.hid (c4' w h h2)
  have c5 := fun w B B' A A' n c n' c' h h' => Lib.hid (Same_any w B B' A A' n c n' c' S S h h')
  rw [decide_eq_true rfl] at c5
  have cw := fun w hK => Lib.hid (works_any w hK)
  have HT := Lib.hid hT
  have HK := Lib.hid hk
  have HM := Lib.hid hm
  have hLb : L ≤ 140737488351232 := by omega
  clear hks hms h0 h1 hE hS hF c1' c2' c3' c4' hL hT hk hm
  go_enter Tryd.func4, Tryd.ntmps4
  go_wp2_with fail
  refine (C1 _ HK.out HM.out HT.out).out.mono ?_
  rintro e w2 ⟨v2, rfl, o2, b2⟩
  obtain ⟨A2, k2, rfl, h2⟩ := o2.holds hsb (by rw [← HL.out]; omega)
  rw [← HL.out] at h2 ⊢
  have H2 := Lib.hid h2
  have B2 := Lib.hid b2
  clear o2 h2 b2
  go_wp2_with fail
  refine (C2 _ (HK.out.over B2.out) (HM.out.over B2.out)).out.mono ?_
  rintro e w3 ⟨v3, rfl, o3, b3⟩
  obtain ⟨A3, k3, rfl, h3⟩ := o3.holds hsb (by rw [← HL.out]; omega)
  rw [← HL.out] at h3 ⊢
  have H3 := Lib.hid h3
  have H23 := Lib.hid (H2.out.over b3)
  have B3 := Lib.hid (step B2.out b3)
  clear o3 h3 b3 H2 B2
  go_wp2_with fail
  refine (c5 _ _ _ _ _ _ _ _ _ H23.out H3.out).out.mono ?_
  rintro e w4 ⟨rfl, j4, rfl⟩
  have B4 : Hid (Below W.heap.size W (w3.drewN j4)) := below_drewN B3.out j4
  obtain ⟨w4, hw4⟩ : ∃ x, x = w3.drewN j4 := ⟨_, rfl⟩
  rw [← hw4] at B4 ⊢
  clear hw4 H23 H3 B3
  go_wp2_with fail
  refine (C3 _ (HK.out.over B4.out) (HM.out.over B4.out) (HT.out.below B4.out)).out.mono ?_
  rintro e w5 ⟨rfl, b5⟩
  have B5 := Lib.hid (step B4.out b5)
  clear b5 B4
  go_wp2_with fail
  refine (C4 _ (HK.out.over B5.out) (HM.out.over B5.out)).out.mono ?_
  rintro e w6 ⟨rfl, b6⟩
  have B6 := Lib.hid (step B5.out b6)
  clear b6 B5
  go_wp2_with fail
  refine (cw _ (HT.out.below B6.out)).out.mono ?_
  rintro e w7 ⟨rfl, b7⟩
  go_wp2_with fail
  go_ret
  exact ⟨rfl, step B6.out b7⟩
end Go.Proofs.YtomdgiikjnghcaaDoor
