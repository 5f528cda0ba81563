/-
  The walk of the statement FramePuts: the frame of any bytes is the document's, or its error; what is handed in stays.
-/
import Derived.Test.YtjpcifmeimcikaaFrV
import Derived.Test.YtjpcifmeimcikaaMem
import Derived.Test.YtjpcifmeimcikaaOpen
namespace Go.Proofs.Ytjpcifmeimcikaa
set_option maxRecDepth 100000
open Go.RowKit
set_option linter.unusedVariables false

theorem frPO_small (b : List Int) : (frPO b).length ≤ 65540 := by
  by_cases h : frPE b = 0
  · rw [frPO_len h]
    have := (frPE_ok h).2
    omega
  · unfold frPO
    rw [if_neg h]
    simp

set_option maxHeartbeats 4000000 in
theorem walk_FramePuts (W : World) (A0 : Option Addr) (n0 c0 : Nat) (z0 : List Int) (l0 : n0 ≤ c0) (r0 : c0 ≤ 140737488351232) (h0 : Holds W W.heap.size A0 c0 c0 z0) :
    Calls Try.prog 3 #[.slice A0 n0 c0] W fun e W' => e = .returned (.bool true) ∧ Below W.heap.size W W' := by
  have hx := h0.head l0
  obtain ⟨xs, hxs⟩ : ∃ xs, xs = z0.take n0 := ⟨_, rfl⟩
  rw [← hxs] at hx
  have hxl := hx.len
  have cw := Wide_any W A0 n0 c0 xs hx (by omega)
  unfold WidePost at cw
  rw [hxl] at cw
  have cp := fun (w : World) A c (h : Holds w w.heap.size A n0 c xs) => PutF_any w A n0 c xs h
  have cr := fun (w : World) (h : Holds w w.heap.size A0 n0 c0 xs) => RPutF_any w A0 n0 c0 xs h
  unfold PutFPost at cp
  have hsm := frPO_small xs
  have hby : Bytes (frPO xs) := frPO_bytes hx.byte
  obtain ⟨E, hE⟩ : ∃ E, E = frPE xs := ⟨_, rfl⟩
  obtain ⟨F, hF⟩ : ∃ F, F = frPO xs := ⟨_, rfl⟩
  rw [← hF] at hsm hby
  simp only [← hE, ← hF] at cp cr
  obtain ⟨m, hm⟩ : ∃ m, m = F.length := ⟨_, rfl⟩
  have HM := Lib.hid hm
  rw [← hm] at hsm
  have HBY := Lib.hid hby
  have CW := Lib.hid cw
  have CP := fun w A c h => Lib.hid (cp w A c h)
  have CR := fun w h => Lib.hid (cr w h)
  have CS := fun (w : World) A c A' c' (h : Holds w w.heap.size A m c F) (h' : Holds w w.heap.size A' m c' F) => Lib.hid (Same_any w _ _ A A' _ c _ c' F F h h')
  simp only [decide_eq_true] at CS
  have CL := fun w g h1 h2 => Lib.hid (Left_any w g A0 n0 c0 xs h1 h2)
  have HX := Lib.hid hx
  have HXL := Lib.hid hxl
  have wide : Hid (∀ w g, Row w g (xs ++ [7, 7, 7]) → Holds w w.heap.size (some ⟨g, 0, none⟩) n0 (n0 + 3) xs) := fun w g hr =>
    ⟨hxl, by omega, by omega, hx.byte, fun hA => (by cases hA), fun h0 => ⟨g, 0, rfl, hr.lt, fun i hi => by
      rw [Nat.zero_add, hr.cell (by simp; omega)]
      simp [List.getD_eq_getElem?_getD, List.getElem?_append, hxl, hi]⟩⟩
  have t1 : (E == E) = true := by simp
  clear hxs hx h0 cw cp cr hE hF hby hxl hm
  go_enter Try.func3, Try.ntmps3
  go_wp2_with fail
  refine CW.out.mono ?_
  rintro e w1 ⟨rfl, rw1, b1⟩
  obtain ⟨g, hg⟩ : ∃ g, g = W.heap.size := ⟨_, rfl⟩
  rw [← hg] at rw1 ⊢
  have R1 := Lib.hid rw1
  have B1 := Lib.hid b1
  clear rw1 b1 CW hg
  go_wp2_with fail
  refine (CP w1 _ _ (wide.out _ _ R1.out)).out.mono ?_
  rintro e w2 ⟨v2, rfl, o2, b2⟩
  obtain ⟨A2, c2, rfl, ob2⟩ := own_rowF o2 HM.out.symm
  have H2 := Lib.hid (Own.holds_at (show Own w2 _ (.slice A2 m c2) _ from ob2.1) HM.out.symm HBY.out (by omega))
  have R2 : Hid (Row w2 g (xs ++ [7, 7, 7])) := R1.out.below b2 R1.out.lt
  have B2 := Lib.hid (step B1.out b2)
  clear o2 ob2 b2 R1 B1 CP
  go_wp2_with fail
  refine (CR w2 (HX.out.over B2.out)).out.mono ?_
  rintro e w3 ⟨v3, rfl, o3, b3⟩
  obtain ⟨A3, c3, rfl⟩ := o3.len
  rw [← HM.out] at o3 ⊢
  have H3 := Lib.hid (Own.holds_at o3 HM.out.symm HBY.out (by omega))
  have H23 := Lib.hid (H2.out.over b3)
  have R3 : Hid (Row w3 g (xs ++ [7, 7, 7])) := R2.out.below b3 R2.out.lt
  have B3 := Lib.hid (step B2.out b3)
  clear o3 b3 R2 B2 CR H2
  have CSa := CS w3 A2 c2 A3 c3 H23.out H3.out
  clear CS
  go_wp2_with fail
  refine CSa.out.mono ?_
  rintro e w4 ⟨rfl, j, rfl⟩
  obtain ⟨w4, hw4⟩ : ∃ w, w = w3.drewN j := ⟨_, rfl⟩
  have R4 : Hid (Row w4 g (xs ++ [7, 7, 7])) := by rw [hw4]; exact R3.out
  have B4 : Hid (Below W.heap.size W w4) := by rw [hw4]; exact below_drewN B3.out j
  rw [← hw4]
  clear CSa hw4 R3 B3 H23 H3
  go_wp2_with fail
  refine (CL w4 g R4.out (HX.out.over B4.out)).out.mono ?_
  rintro e w5 ⟨rfl, j5, rfl⟩
  obtain ⟨w5, hw5⟩ : ∃ w, w = w4.drewN j5 := ⟨_, rfl⟩
  have B5 : Hid (Below W.heap.size W w5) := by rw [hw5]; exact below_drewN B4.out j5
  rw [← hw5]
  clear hw5 R4 B4 CL
  go_wp2_with fail
  refine (livesF_any _).mono ?_
  rintro e w6 ⟨rfl, b6⟩
  go_wp2
  go_ret
  exact ⟨rfl, step B5.out b6⟩
end Go.Proofs.Ytjpcifmeimcikaa
