/-
  The walk of the statement MacBack: what Sign answers is signed, and has all other bytes as they were; Sign of Sign is Sign.
-/
import Derived.Test.YtomdgiikjnghcaaDoorWorksM
import Derived.Test.YtomdgiikjnghcaaDoorSame
import Derived.Test.YtomdgiikjnghcaaDoorOpen
namespace Go.Proofs.YtomdgiikjnghcaaDoor
open Go.RowKit
set_option linter.unusedVariables false

theorem Holds.preC {w : World} {B b off n c : Nat} {xs : List Int} (h : Holds w B (some ⟨b, off, none⟩) n c xs) {k : Nat} (hk : k ≤ n) : Holds w B (some ⟨b, off, none⟩) k c (xs.take k) := by
  have hl := h.len
  have hf := h.fit
  refine ⟨by simp; omega, by omega, by have := h.room; omega, h.byte.take k, fun hA => (by cases hA), fun h0 => ?_⟩
  obtain ⟨hb, hc⟩ := h.some_of (by omega)
  refine ⟨b, off, rfl, hb, fun i hi => ?_⟩
  rw [hc i (by omega)]
  simp [List.getD_eq_getElem?_getD, hi]

set_option maxHeartbeats 2000000 in
theorem walk_MacBack (W : World) (hT : KTab W) (A0 : Option Addr) (n0 c0 : Nat) (z0 : List Int) (l0 : n0 ≤ c0) (r0 : c0 ≤ 140737488351232) (h0 : Holds W W.heap.size A0 c0 c0 z0)
    (A1 : Option Addr) (n1 c1 : Nat) (z1 : List Int) (l1 : n1 ≤ c1) (r1 : c1 ≤ 140737488351232) (h1 : Holds W W.heap.size A1 c1 c1 z1) :
    Calls Tryd.prog 5 #[.slice A0 n0 c0, .slice A1 n1 c1] W fun e W' => e = .returned (.bool true) ∧ Below W.heap.size W W' := by
  have hk := h0.head l0
  have hm := h1.head l1
  obtain ⟨ks, hks⟩ : ∃ xs, xs = z0.take n0 := ⟨_, rfl⟩
  obtain ⟨ms, hms⟩ : ∃ xs, xs = z1.take n1 := ⟨_, rfl⟩
  rw [← hks] at hk
  rw [← hms] at hm
  have c1' := fun w h h2 hK => Sign_any w A0 n0 c0 ks (by omega) h A1 n1 c1 ms (by omega) h2 hK
  have cw := fun w hK => Lib.hid (works_any w hK)
  have HT := Lib.hid hT
  have HK := Lib.hid hk
  have HM := Lib.hid hm
  unfold SignPost at c1'
  have hml := hm.len
  clear hks hms h0 h1 hT hk hm
  by_cases hlt : n1 < 64
  · have c3' := fun w h h2 hK => Check_any w A0 n0 c0 ks (by omega) h A1 n1 c1 ms (by omega) h2 hK
    rw [checkErr_short ks ms (by rw [hml]; exact hlt)] at c3'
    rw [hml, signErr_short hlt] at c1'
    have C1 := fun w h h2 hK => Lib.hid (c1' w h h2 hK)
    have C3 := fun w h h2 hK => Lib.hid (c3' w h h2 hK)
    clear c1' c3' hml
    go_enter Tryd.func5, Tryd.ntmps5
    go_wp2_with fail
    refine (C1 _ HK.out HM.out HT.out).out.mono ?_
    rintro e w2 ⟨v2, rfl, _, b2⟩
    have B2 := Lib.hid b2
    clear b2
    go_wp2_with fail
    refine (C3 _ (HK.out.over B2.out) (HM.out.over B2.out) (HT.out.below B2.out)).out.mono ?_
    rintro e w3 ⟨rfl, b3⟩
    have B3 := Lib.hid (step B2.out b3)
    clear b3 B2
    go_wp2_with fail
    refine (cw _ (HT.out.below B3.out)).out.mono ?_
    rintro e w4 ⟨rfl, b4⟩
    go_wp2_with fail
    go_ret
    exact ⟨rfl, step B3.out b4⟩
  · have hge : 64 ≤ ms.length := by omega
    have hgi : (64 : Int) ≤ (n1 : Int) := by omega
    have hsl := signO_len ks ms hge
    have hsb := signO_bytes ks ms HM.out.byte
    have c2' := fun w h A2 k2 h2 hK => Sign_any w A0 n0 c0 ks (by omega) h A2 n1 k2 (signO ks ms) (by omega) h2 hK
    have c3' := fun w h A2 k2 h2 hK => Check_any w A0 n0 c0 ks (by omega) h A2 n1 k2 (signO ks ms) (by omega) h2 hK
    unfold SignPost at c2'
    rw [checkErr_sign ks ms hge] at c3'
    rw [hsl, hml, signErr_long (by omega), signO_sign ks ms hge] at c2'
    rw [hml, signErr_long (by omega)] at c1'
    have hhead : (signO ks ms).take 48 = ms.take 48 := by rw [signO_long _ _ hge, signL_head hge]
    have htail : (signO ks ms).drop 64 = ms.drop 64 := by rw [signO_long _ _ hge, signL_tail hge]
    rw [hml] at hsl
    obtain ⟨S, hS⟩ : ∃ S, S = signO ks ms := ⟨_, rfl⟩
    rw [← hS] at c1' c2' c3' hsl hsb hhead htail
    obtain ⟨b1, o1, rfl, hbb, hcc⟩ := HM.out.cells (by omega)
    have HSL := Lib.hid hsl
    have C1 := fun w h h2 hK => Lib.hid (c1' w h h2 hK)
    have C2 := fun w h A2 k2 h2 hK => Lib.hid (c2' w h A2 k2 h2 hK)
    have C3 := fun w h A2 k2 h2 hK => Lib.hid (c3' w h A2 k2 h2 hK)
    have c5 := fun w B B' A A' n c n' c' h h' => Lib.hid (Same_any w B B' A A' n c n' c' S S h h')
    rw [decide_eq_true rfl] at c5
    have HHD := Lib.hid hhead
    have HTL := Lib.hid htail
    clear c1' c2' c3' hml hS hsl hhead htail hcc
    go_enter Tryd.func5, Tryd.ntmps5
    go_wp2_with fail
    refine (C1 _ HK.out HM.out HT.out).out.mono ?_
    rintro e w2 ⟨v2, rfl, o2, b2⟩
    obtain ⟨A2, k2, rfl, h2⟩ := o2.holds hsb (by rw [HSL.out]; omega)
    rw [HSL.out] at h2 ⊢
    obtain ⟨g2, f2, rfl, _, _⟩ := h2.cells (by omega)
    have H2 := Lib.hid h2
    have B2 := Lib.hid b2
    clear o2 h2 b2
    go_wp2_with fail
    refine (C2 _ (HK.out.over B2.out) _ _ H2.out (HT.out.below B2.out)).out.mono ?_
    rintro e w3 ⟨v3, rfl, o3, b3⟩
    obtain ⟨A3, k3, rfl, h3⟩ := o3.holds hsb (by rw [HSL.out]; omega)
    rw [HSL.out] at h3 ⊢
    have H3 := Lib.hid h3
    have H23 := Lib.hid (H2.out.over b3)
    have B3 := Lib.hid (step B2.out b3)
    clear o3 h3 b3 H2 B2
    have hnn : ((n1 : Int) != (n1 : Int)) = false := by simp
    go_wp2_with fail
    refine (c5 _ _ _ _ _ _ _ _ _ H23.out H3.out).out.mono ?_
    rintro e w4 ⟨rfl, j4, rfl⟩
    have B4 : Hid (Below W.heap.size W (w3.drewN j4)) := below_drewN B3.out j4
    have H24 := Lib.hid (H23.out.over (drewed w3 j4))
    obtain ⟨w4, hw4⟩ : ∃ x, x = w3.drewN j4 := ⟨_, rfl⟩
    rw [← hw4] at B4 H24 ⊢
    clear hw4 H23 H3 B3
    go_wp2_with fail
    refine (C3 _ (HK.out.over B4.out) _ _ H24.out (HT.out.below B4.out)).out.mono ?_
    rintro e w5 ⟨rfl, b5⟩
    have B5 := Lib.hid (step B4.out b5)
    have H25 := Lib.hid (H24.out.over b5)
    clear b5 B4 H24
    have hf2 : Hid (n1 ≤ k2) := H25.out.fit
    have hfi : (n1 : Int) ≤ (k2 : Int) := by have := hf2.out; omega
    have hfj : (n1 : Int) ≤ (c1 : Int) := by omega
    have SA : ∀ w, Below w5.heap.size w5 w → Hid (Calls Tryd.prog 19 #[.slice (some ⟨g2, f2, none⟩) 48 k2, .slice (some ⟨b1, o1, none⟩) 48 c1] w fun e w' => e = .returned (.bool true) ∧ ∃ j, w.drewN j = w') := fun w hb => by
      have h := Same_any w _ _ _ _ _ _ _ _ (S.take 48) (ms.take 48) ((H25.out.over hb).preC (k := 48) (by omega)) (((HM.out.over B5.out).over hb).preC (k := 48) (by omega))
      rw [HHD.out, decide_eq_true rfl] at h
      exact h
    have B5i : Hid (∀ j, Below w5.heap.size w5 (w5.drew.drewN j)) := fun j => ((Below.refl _ w5).drew).trans ⟨rfl, rfl, rfl, Nat.le_refl _, fun _ _ => rfl⟩
    have B5d : Hid (Below w5.heap.size w5 w5.drew) := (Below.refl _ w5).drew
    have SB : ∀ w X2 q2 X1 q1, Holds w w.heap.size X2 (n1 - 64) q2 (S.drop 64) → Holds w w.heap.size X1 (n1 - 64) q1 (ms.drop 64) → Hid (Calls Tryd.prog 19 #[.slice X2 (n1 - 64) q2, .slice X1 (n1 - 64) q1] w fun e w' => e = .returned (.bool true) ∧ ∃ j, w.drewN j = w') := fun w X2 q2 X1 q1 h2 h1 => by
      have h := Same_any w _ _ _ _ _ _ _ _ (S.drop 64) (ms.drop 64) h2 h1
      rw [HTL.out, decide_eq_true rfl] at h
      exact h
    have SZ : ∀ w X2 q2 X1 q1, Hid (Calls Tryd.prog 19 #[.slice (some X2) 0 q2, .slice (some X1) 0 q1] w fun e w' => e = .returned (.bool true) ∧ ∃ j, w.drewN j = w') := fun w X2 q2 X1 q1 =>
      Same_any w w.heap.size w.heap.size _ _ _ _ _ _ [] [] (Holds.empty _ _ _ _ fun hA => (by cases hA)) (Holds.empty _ _ _ _ fun hA => (by cases hA))
    have B5i : Hid (∀ j, Below w5.heap.size w5 (w5.drewN j)) := fun j => drewed w5 j
    clear hbb
    by_cases h64 : n1 = 64
    · subst h64
      clear SB
      by_cases hk2 : k2 = 64
      · subst hk2
        by_cases hc1 : c1 = 64
        · subst hc1
          go_upto_region 7 with (fail)
          go_region_with (first
            | (go_at_call_of 19 (Value.slice (some ⟨g2, f2, none⟩) 48 64); refine (SA _ B5d.out).out.mono ?_; rintro e w6 ⟨rfl, j6, rfl⟩)
            | (go_at_call 19; refine (SZ _ _ _ _ _).out.mono ?_; rintro e w7 ⟨rfl, j7, rfl⟩)
            | (go_at_call 16; refine (cw _ (HT.out.below (B5.out.trans ((B5i.out _).mono B5.out.size)))).out.mono ?_; rintro e w8 ⟨rfl, b8⟩)
            | fail)
          all_goals go_wp2_with fail
          all_goals go_ret
          all_goals exact ⟨rfl, step (B5.out.trans ((B5i.out _).mono B5.out.size)) b8⟩
        · skip
          go_upto_region 7 with (fail)
          go_region_with (first
            | (go_at_call_of 19 (Value.slice (some ⟨g2, f2, none⟩) 48 64); refine (SA _ B5d.out).out.mono ?_; rintro e w6 ⟨rfl, j6, rfl⟩)
            | (go_at_call 19; refine (SZ _ _ _ _ _).out.mono ?_; rintro e w7 ⟨rfl, j7, rfl⟩)
            | (go_at_call 16; refine (cw _ (HT.out.below (B5.out.trans ((B5i.out _).mono B5.out.size)))).out.mono ?_; rintro e w8 ⟨rfl, b8⟩)
            | fail)
          all_goals go_wp2_with fail
          all_goals go_ret
          all_goals exact ⟨rfl, step (B5.out.trans ((B5i.out _).mono B5.out.size)) b8⟩
      · by_cases hc1 : c1 = 64
        · subst hc1
          go_upto_region 7 with (fail)
          go_region_with (first
            | (go_at_call_of 19 (Value.slice (some ⟨g2, f2, none⟩) 48 k2); refine (SA _ B5d.out).out.mono ?_; rintro e w6 ⟨rfl, j6, rfl⟩)
            | (go_at_call 19; refine (SZ _ _ _ _ _).out.mono ?_; rintro e w7 ⟨rfl, j7, rfl⟩)
            | (go_at_call 16; refine (cw _ (HT.out.below (B5.out.trans ((B5i.out _).mono B5.out.size)))).out.mono ?_; rintro e w8 ⟨rfl, b8⟩)
            | fail)
          all_goals go_wp2_with fail
          all_goals go_ret
          all_goals exact ⟨rfl, step (B5.out.trans ((B5i.out _).mono B5.out.size)) b8⟩
        · skip
          go_upto_region 7 with (fail)
          go_region_with (first
            | (go_at_call_of 19 (Value.slice (some ⟨g2, f2, none⟩) 48 k2); refine (SA _ B5d.out).out.mono ?_; rintro e w6 ⟨rfl, j6, rfl⟩)
            | (go_at_call 19; refine (SZ _ _ _ _ _).out.mono ?_; rintro e w7 ⟨rfl, j7, rfl⟩)
            | (go_at_call 16; refine (cw _ (HT.out.below (B5.out.trans ((B5i.out _).mono B5.out.size)))).out.mono ?_; rintro e w8 ⟨rfl, b8⟩)
            | fail)
          all_goals go_wp2_with fail
          all_goals go_ret
          all_goals exact ⟨rfl, step (B5.out.trans ((B5i.out _).mono B5.out.size)) b8⟩
    · have hk2 : ¬ k2 = 64 := by have := hf2.out; omega
      have hc1 : ¬ c1 = 64 := by omega
      have hk3 : ¬ k2 - 64 = 0 := by have := hf2.out; omega
      have hc3 : ¬ c1 - 64 = 0 := by omega
      have E2 : Hid (∀ w, Below w5.heap.size w5 w → Holds w w.heap.size (some ⟨g2, f2 + 64, none⟩) (n1 - 64) (k2 - 64) (S.drop 64)) := fun w hb => by
        have := (H25.out.over hb).behind (m := 64) (by omega)
        rwa [if_neg hk2] at this
      have E1 : Hid (∀ w, Below w5.heap.size w5 w → Holds w w.heap.size (some ⟨b1, o1 + 64, none⟩) (n1 - 64) (c1 - 64) (ms.drop 64)) := fun w hb => by
        have := ((HM.out.over B5.out).over hb).behind (m := 64) (by omega)
        rwa [if_neg hc1] at this
      go_upto_region 7 with (fail)
      go_region_with (first
        | (go_at_call_of 19 (Value.slice (some ⟨g2, f2, none⟩) 48 k2); refine (SA _ B5d.out).out.mono ?_; rintro e w6 ⟨rfl, j6, rfl⟩)
        | (go_at_call 19; refine (SB _ _ _ _ _ (E2.out _ (B5i.out _)) (E1.out _ (B5i.out _))).out.mono ?_; rintro e w7 ⟨rfl, j7, rfl⟩)
        | (go_at_call 16; refine (cw _ (HT.out.below (B5.out.trans ((B5i.out _).mono B5.out.size)))).out.mono ?_; rintro e w8 ⟨rfl, b8⟩)
        | fail)
      all_goals go_wp2_with fail
      all_goals go_ret
      all_goals exact ⟨rfl, step (B5.out.trans ((B5i.out _).mono B5.out.size)) b8⟩
end Go.Proofs.YtomdgiikjnghcaaDoor
