/-
  The walk of the statement PathBack: names come back of their path, a path of its names.
-/
import Derived.Test.YtaggjlobmikagaaDoorWorksP
import Derived.Test.YtaggjlobmikagaaDoorOwnF2
namespace Go.Proofs.YtaggjlobmikagaaDoor
open Go.RowKit
set_option linter.unusedVariables false

theorem back_tail (L : List (List UInt8)) : namesErr L ≠ 0 ∨ (namesErr L = 0 ∧ parseErr (joinOf L) = 0 ∧ parseOf (joinOf L) = L) := by
  by_cases h : namesErr L = 0
  · right
    rw [show joinOf L = joinB L from if_pos h]
    exact ⟨h, parse_join h⟩
  · exact .inl h

set_option maxRecDepth 100000 in
set_option maxHeartbeats 4000000 in
theorem walk_PathBack (W : World) (hT : Tabs W) (a0 : ByteArray) (r0 : a0.size ≤ 140737488351232) (A1 : Option Addr) (n1 c1 : Nat) (z1 : List ByteArray) (l1 : n1 ≤ c1) (r1 : c1 ≤ 8796093021952 ∧ ∀ s ∈ z1, s.size ≤ 140737488351232) (h1 : HoldsF Value.string W W.heap.size A1 c1 c1 z1) :
    Calls Tryd.prog 7 #[.string a0, .slice A1 n1 c1] W fun e W' => e = .returned (.bool true) ∧ Below W.heap.size W W' := by
  have hx := h1.texts l1
  have hxl := argL_each (n := n1) r1.2
  have hcl := r1.1
  have hz := h1.len
  have hln := hx.len
  obtain ⟨L, hL⟩ : ∃ L, L = argL z1 n1 := ⟨_, rfl⟩
  rw [← hL] at hx hxl hln
  have cJ := fun (w : World) (hb : Below W.heap.size W w) hT => Join_any w A1 n1 c1 L (hx.over hb) (fun p hp => by have := hxl p hp; omega) hT (by omega)
  have c9 := fun w hT => Lib.hid (works_any w hT)
  have cP := Parse_any a0 W (by omega) hT
  have h8 := parse_le8 a0.data.toList
  have hnm := parse_names (l := a0.data.toList)
  have hjp : parseErr a0.data.toList = 0 → joinOf (parseOf a0.data.toList) = a0.data.toList ∧ namesErr (parseOf a0.data.toList) = 0 := fun h => by
    obtain ⟨h1, h2⟩ := join_parse h
    exact ⟨(if_pos h1).trans h2, h1⟩
  unfold ParsePost at cP
  obtain ⟨M, hM⟩ : ∃ M, M = parseOf a0.data.toList := ⟨_, rfl⟩
  obtain ⟨E, hE⟩ : ∃ E, E = parseErr a0.data.toList := ⟨_, rfl⟩
  rw [← hM, ← hE] at cP hjp
  rw [← hM] at h8 hnm
  have cQ := fun (w : World) A n c (hx : HoldsF strV w w.heap.size A n c M) hT => Join_any w A n c M hx (fun p hp => by have := name_bytes (hnm p hp); omega) hT
  have hn1 : n1 ≤ 8796093021952 := by omega
  have HX := Lib.hid hx
  have HLN := Lib.hid hln
  have H8 := Lib.hid h8
  unfold JoinPost at cJ cQ
  have CP := Lib.hid cP
  clear cP hL hM hE hz hcl h1 hxl hln h8 hnm hx r1
  rcases back_tail L with hb | ⟨hb, hb2, hb3⟩
  · rw [joinOf_bad hb] at cJ
    obtain ⟨F, hF⟩ : ∃ F, F = namesErr L := ⟨_, rfl⟩
    rw [← hF] at cJ hb
    have tF : (F != 0) = true := by simpa using hb
    have CJ := Lib.hid cJ
    clear cJ hF hb
    by_cases hE0 : E = 0
    · subst hE0
      obtain ⟨q1, q2⟩ := hjp rfl
      rw [q1, q2, show (⟨a0.data.toList.toArray⟩ : ByteArray) = a0 from rfl] at cQ
      have CQ := Lib.hid cQ
      have t1 : (a0.toList != a0.toList) = false := by simp
      clear hjp q1 q2 cQ
      go_enter Tryd.func7, Tryd.ntmps7
      go_wp2_with fail
      refine CP.out.mono ?_
      rintro e w1 ⟨v, rfl, ho, hb1⟩
      obtain ⟨A, n, c, rfl, hh⟩ := ho.holds
      have hn := hh.len
      have hn8 : n ≤ 8 := by have := H8.out; omega
      have hn8' : (n : Int) ≤ 8 := by omega
      have hT1 := hT.below hb1
      have D1 := Lib.hid (CQ.out _ _ _ _ hh hT1 (by omega))
      clear ho hh hn CQ CP
      go_wp2_with fail
      refine D1.out.mono ?_
      rintro e w2 ⟨rfl, hb2⟩
      have hB2 := step hb1 hb2
      have hT2 := hT1.below hb2
      go_wp2_with fail
      refine (CJ.out _ hB2 hT2 ).mono ?_
      rintro e w3 ⟨rfl, hb3⟩
      have hT3 := hT2.below hb3
      go_wp2_with fail
      refine (c9 _ hT3).out.mono ?_
      rintro e w4 ⟨rfl, hb4⟩
      go_wp2
      go_ret
      exact ⟨rfl, step (step hB2 hb3) hb4⟩
    · have tE : (E == 0) = false := by simpa using hE0
      clear hjp hE0 cQ
      go_enter Tryd.func7, Tryd.ntmps7
      go_wp2_with fail
      refine CP.out.mono ?_
      rintro e w1 ⟨v, rfl, ho, hb1⟩
      have hT1 := hT.below hb1
      clear ho CP
      go_wp2_with fail
      refine (CJ.out _ hb1 hT1).mono ?_
      rintro e w3 ⟨rfl, hb3⟩
      have hT3 := hT1.below hb3
      go_wp2_with fail
      refine (c9 _ hT3).out.mono ?_
      rintro e w4 ⟨rfl, hb4⟩
      go_wp2
      go_ret
      exact ⟨rfl, step (step hb1 hb3) hb4⟩
  · rw [hb] at cJ
    have hjl : (joinOf L).length ≤ 10000 := by
      rw [show joinOf L = joinB L from if_pos hb]
      obtain ⟨k1, k2⟩ := namesErr_ok.1 hb
      have k3 := joinB_le L 128 fun p hp => name_bytes (k1 p hp)
      have k4 : L.length * (128 + 1) ≤ 8 * 129 := Nat.mul_le_mul k2 (Nat.le_refl _)
      omega
    have cR := fun (w : World) hT => Parse_any ⟨(joinOf L).toArray⟩ w (by rw [mk_size]; omega) hT
    unfold ParsePost at cR
    rw [show (⟨(joinOf L).toArray⟩ : ByteArray).data.toList = joinOf L from rfl, hb2, hb3] at cR
    obtain ⟨J, hJ⟩ : ∃ J : ByteArray, J = ⟨(joinOf L).toArray⟩ := ⟨_, rfl⟩
    rw [← hJ] at cR cJ
    have CJ := Lib.hid cJ
    have CR := Lib.hid cR
    clear cJ cR hJ hjl hb hb2 hb3
    by_cases hE0 : E = 0
    · subst hE0
      obtain ⟨q1, q2⟩ := hjp rfl
      rw [q1, q2, show (⟨a0.data.toList.toArray⟩ : ByteArray) = a0 from rfl] at cQ
      have CQ := Lib.hid cQ
      have t1 : (a0.toList != a0.toList) = false := by simp
      clear hjp q1 q2 cQ
      go_enter Tryd.func7, Tryd.ntmps7
      go_wp2_with fail
      refine CP.out.mono ?_
      rintro e w1 ⟨v, rfl, ho, hb1⟩
      obtain ⟨A, n, c, rfl, hh⟩ := ho.holds
      have hn := hh.len
      have hn8 : n ≤ 8 := by have := H8.out; omega
      have hn8' : (n : Int) ≤ 8 := by omega
      have hT1 := hT.below hb1
      have D1 := Lib.hid (CQ.out _ _ _ _ hh hT1 (by omega))
      clear ho hh hn CQ CP
      go_wp2_with fail
      refine D1.out.mono ?_
      rintro e w2 ⟨rfl, hb2⟩
      have hB2 := step hb1 hb2
      have hT2 := hT1.below hb2
      go_wp2_with fail
      refine (CJ.out _ hB2 hT2).mono ?_
      rintro e w3 ⟨rfl, hb3⟩
      have hT3 := hT2.below hb3
      go_wp2_with fail
      refine (CR.out _ hT3).mono ?_
      rintro e w4 ⟨u, rfl, ho4, hb4⟩
      have hT4 := hT3.below hb4
      have hB4 := step (step hB2 hb3) hb4
      obtain ⟨A4, n4, c4, rfl, hh4⟩ := ho4.holds
      have hn4 := hh4.len
      have d5 := Texts_any w4 _ _ _ _ _ _ _ _ L L hh4 (HX.out.over hB4) (by have := HLN.out; omega) (by omega)
      rw [decide_eq_true rfl] at d5
      have D5 := Lib.hid d5
      clear ho4 hh4 hn4 d5
      go_wp2_with fail
      refine D5.out.mono ?_
      rintro e w5 ⟨rfl, k5, rfl⟩
      have hb5 := step hB4 (drewed w4 k5)
      have hT5 := hT.below hb5
      go_wp2_with fail
      refine (c9 _ hT5).out.mono ?_
      rintro e w6 ⟨rfl, hb6⟩
      go_wp2
      go_ret
      exact ⟨rfl, step hb5 hb6⟩
    · have tE : (E == 0) = false := by simpa using hE0
      clear hjp hE0 cQ
      go_enter Tryd.func7, Tryd.ntmps7
      go_wp2_with fail
      refine CP.out.mono ?_
      rintro e w1 ⟨v, rfl, ho, hb1⟩
      have hT1 := hT.below hb1
      clear ho CP
      go_wp2_with fail
      refine (CJ.out _ hb1 hT1).mono ?_
      rintro e w3 ⟨rfl, hb3⟩
      have hT3 := hT1.below hb3
      go_wp2_with fail
      refine (CR.out _ hT3).mono ?_
      rintro e w4 ⟨u, rfl, ho4, hb4⟩
      have hT4 := hT3.below hb4
      have hB4 := step (step hb1 hb3) hb4
      obtain ⟨A4, n4, c4, rfl, hh4⟩ := ho4.holds
      have hn4 := hh4.len
      have d5 := Texts_any w4 _ _ _ _ _ _ _ _ L L hh4 (HX.out.over hB4) (by have := HLN.out; omega) (by omega)
      rw [decide_eq_true rfl] at d5
      have D5 := Lib.hid d5
      clear ho4 hh4 hn4 d5
      go_wp2_with fail
      refine D5.out.mono ?_
      rintro e w5 ⟨rfl, k5, rfl⟩
      have hb5 := step hB4 (drewed w4 k5)
      have hT5 := hT.below hb5
      go_wp2_with fail
      refine (c9 _ hT5).out.mono ?_
      rintro e w6 ⟨rfl, hb6⟩
      go_wp2
      go_ret
      exact ⟨rfl, step hb5 hb6⟩
end Go.Proofs.YtaggjlobmikagaaDoor
