/-
  The walk of the statement MacOne: a message is signed just by the sixteen bytes that Sign lays.
-/
import Derived.Test.YtomdgiikjnghcaaDoorWorksM
import Derived.Test.YtomdgiikjnghcaaDoorRefM3
import Derived.Test.YtomdgiikjnghcaaDoorOpen
namespace Go.Proofs.YtomdgiikjnghcaaDoor
open Go.RowKit
set_option linter.unusedVariables false

theorem Bytes.set {xs : List Int} (h : Bytes xs) (i : Nat) (u : Int) (hu : 0 ≤ u ∧ u ≤ 255) : Bytes (xs.set i u) := fun x hx => by
  rcases List.mem_or_eq_of_mem_set hx with h1 | rfl
  · exact h x h1
  · exact hu
/-- a byte against another that is not 0 is another byte -/
theorem xor_ne (x y : Int) (hx : 0 ≤ x ∧ x ≤ 255) (hy : 0 ≤ y ∧ y ≤ 255) (h0 : y ≠ 0) : bits .xor .u8 x y ≠ x := by
  obtain ⟨a, rfl⟩ := Int.eq_ofNat_of_zero_le hx.1
  obtain ⟨b, rfl⟩ := Int.eq_ofNat_of_zero_le hy.1
  have ha : a < 256 := by omega
  have hb : b < 256 := by omega
  have hb0 : b ≠ 0 := by omega
  have h1 : (BitVec.ofInt 8 (a : Int)).toNat = a := by rw [BitVec.toNat_ofInt]; omega
  have h2 : (BitVec.ofInt 8 (b : Int)).toNat = b := by rw [BitVec.toNat_ofInt]; omega
  have hlt : a ^^^ b < 2 ^ 8 := Nat.xor_lt_two_pow (by omega) (by omega)
  have e : bits .xor .u8 (a : Int) (b : Int) = ((a ^^^ b : Nat) : Int) := by
    show IntKind.u8.wrap ((BitVec.ofInt 8 (a : Int) ^^^ BitVec.ofInt 8 (b : Int)).toNat : Int) = _
    rw [BitVec.toNat_xor, h1, h2, IntKind.wrap_u8]
    omega
  rw [e]
  intro h
  have h3 : a ^^^ b = a := by omega
  have h4 : a ^^^ (a ^^^ b) = a ^^^ a := by rw [h3]
  rw [← Nat.xor_assoc, Nat.xor_self, Nat.zero_xor] at h4
  exact hb0 h4

/-- a message that is signed, one of the sixteen bytes turned, is not signed -/
theorem checkErr_turned (ks ms : List Int) (i : Nat) (u : Int) (h : 64 ≤ ms.length) (hi : i < 16) (hu : u ≠ (signL ks ms).getD (48 + i) 0) : checkErr ks ((signL ks ms).set (48 + i) u) = 6 := by
  have hl := signL_len ks ms h
  have hbl : blankL ((signL ks ms).set (48 + i) u) = blankL ms := by
    rw [← blankL_sign h]
    unfold blankL
    rw [List.take_set_of_le (by omega), List.drop_set_of_lt (by omega)]
  unfold checkErr
  rw [if_neg (by rw [List.length_set, hl]; omega)]
  have hs : signedL ks ((signL ks ms).set (48 + i) u) = false := by
    unfold signedL
    rw [decide_eq_false_iff_not]
    intro he
    have e1 : sigL ks ((signL ks ms).set (48 + i) u) = sigL ks ms := by unfold sigL; rw [hbl]
    rw [e1, ← signL_mid (k := ks) h] at he
    have e2 := congrArg (fun l : List Int => l.getD i 0) he
    have hlt : 48 + i < (signL ks ms).length := by omega
    simp only [List.getD_eq_getElem?_getD, List.getElem?_take, hi, if_true, List.getElem?_drop, List.getElem?_set_self hlt, Option.getD_some] at e2
    apply hu
    rw [e2, List.getD_eq_getElem?_getD]
  rw [hs]
  rfl

set_option maxHeartbeats 2000000 in
theorem walk_MacOne (W : World) (hT : KTab W) (A0 : Option Addr) (n0 c0 : Nat) (z0 : List Int) (l0 : n0 ≤ c0) (r0 : c0 ≤ 140737488351232) (h0 : Holds W W.heap.size A0 c0 c0 z0)
    (A1 : Option Addr) (n1 c1 : Nat) (z1 : List Int) (l1 : n1 ≤ c1) (r1 : c1 ≤ 140737488351232) (h1 : Holds W W.heap.size A1 c1 c1 z1) (a2 : Int) (w2 : 0 ≤ a2 ∧ a2 ≤ 255) (a3 : Int) (w3 : 0 ≤ a3 ∧ a3 ≤ 255) :
    Calls Tryd.prog 6 #[.slice A0 n0 c0, .slice A1 n1 c1, .int .u8 a2, .int .u8 a3] W fun e W' => e = .returned (.bool true) ∧ Below W.heap.size W W' := by
  have hk := h0.head l0
  have hm := h1.head l1
  obtain ⟨ks, hks⟩ : ∃ xs, xs = z0.take n0 := ⟨_, rfl⟩
  obtain ⟨ms, hms⟩ : ∃ xs, xs = z1.take n1 := ⟨_, rfl⟩
  rw [← hks] at hk
  rw [← hms] at hm
  have c1' := fun w h h2 hK => Sign_any w A0 n0 c0 ks (by omega) h A1 n1 c1 ms (by omega) h2 hK
  have cw := fun w hK => Lib.hid (works_any w hK)
  have HT := Lib.hid hT
  have HK := Lib.hid hk
  have HM := Lib.hid hm
  unfold SignPost at c1'
  have hml := hm.len
  clear hks hms h0 h1 hT hk hm
  obtain ⟨w20, w21⟩ := w2
  obtain ⟨w30, w31⟩ := w3
  by_cases hlt : n1 < 64
  · rw [hml, signErr_short hlt] at c1'
    have C1 := fun w h h2 hK => Lib.hid (c1' w h h2 hK)
    clear c1' hml
    go_enter Tryd.func6, Tryd.ntmps6
    go_wp2_with fail
    refine (C1 _ HK.out HM.out HT.out).out.mono ?_
    rintro e w2 ⟨v2, rfl, _, b2⟩
    have B2 := Lib.hid b2
    clear b2
    go_wp2_with fail
    refine (cw _ (HT.out.below B2.out)).out.mono ?_
    rintro e w4 ⟨rfl, b4⟩
    go_wp2_with fail
    go_ret
    exact ⟨rfl, step B2.out b4⟩
  · have hge : 64 ≤ ms.length := by omega
    have hgi : (64 : Int) ≤ (n1 : Int) := by omega
    have hsl := signO_len ks ms hge
    have hsb := signO_bytes ks ms HM.out.byte
    rw [hml, signErr_long (by omega)] at c1'
    have hso := signO_long ks ms hge
    rw [hml] at hsl
    by_cases hz : a3 = 0
    · subst hz
      obtain ⟨S, hS⟩ : ∃ S, S = signO ks ms := ⟨_, rfl⟩
      rw [← hS] at c1'
      have C1 := fun w h h2 hK => Lib.hid (c1' w h h2 hK)
      clear c1' hml hS hso hsl hsb
      go_enter Tryd.func6, Tryd.ntmps6
      go_wp2_with fail
      refine (C1 _ HK.out HM.out HT.out).out.mono ?_
      rintro e w2 ⟨v2, rfl, _, b2⟩
      have B2 := Lib.hid b2
      clear b2
      go_wp2_with fail
      refine (cw _ (HT.out.below B2.out)).out.mono ?_
      rintro e w4 ⟨rfl, b4⟩
      go_wp2_with fail
      go_ret
      exact ⟨rfl, step B2.out b4⟩
    · obtain ⟨i, hi⟩ : ∃ i : Nat, i = (a2 % 16).toNat := ⟨_, rfl⟩
      have hi16 : i < 16 := by omega
      have hii : a2 % 16 = (i : Int) := by omega
      have hct : ∀ y : Int, y = (signO ks ms).getD (48 + i) 0 → checkErr ks ((signO ks ms).set (48 + i) (bits .xor .u8 y a3)) = 6 := fun y hy => by
        have hyb := hsb.getD (48 + i)
        rw [hso] at hy hyb ⊢
        exact checkErr_turned ks ms i _ hge hi16 (by rw [← hy] at hyb ⊢; exact xor_ne y a3 hyb ⟨w30, w31⟩ hz)
      have c3' := fun w h A2 k2 xs h2 hK => Check_any w A0 n0 c0 ks (by omega) h A2 n1 k2 xs (by omega) h2 hK
      obtain ⟨S, hS⟩ : ∃ S, S = signO ks ms := ⟨_, rfl⟩
      rw [← hS] at c1' hsl hsb hct
      have HSL := Lib.hid hsl
      have HSB := Lib.hid hsb
      have HCT := Lib.hid hct
      have C1 := fun w h h2 hK => Lib.hid (c1' w h h2 hK)
      have C3 := fun w h A2 k2 xs h2 hK => Lib.hid (c3' w h A2 k2 xs h2 hK)
      have hz0 : (a3 == 0) = false := by simpa using hz
      have htm : a2.tmod 16 = (i : Int) := by rw [Int.tmod_eq_emod_of_nonneg w20, hii]
      clear c1' c3' hml hS hso hsl hsb hct hi hii
      go_enter Tryd.func6, Tryd.ntmps6
      go_wp2_with fail
      refine (C1 _ HK.out HM.out HT.out).out.mono ?_
      rintro e w2 ⟨v2, rfl, o2, b2⟩
      have O2 : OwnK .u8 5 w2 W.heap.size v2 S := o2
      obtain ⟨_, _, k2, rfl, hl2, _, _, _, hcells⟩ := O2.open
      rw [HSL.out] at hl2
      subst hl2
      obtain ⟨g2, rfl, hg2, _, _⟩ := hcells (by omega)
      have gc := O2.cell (i := 48 + i) (by omega)
      have gf := O2.frozen (48 + i)
      have hyb := HSB.out.getD (48 + i)
      obtain ⟨y, hy⟩ : ∃ y, y = S.getD (48 + i) 0 := ⟨_, rfl⟩
      rw [← hy] at gc hyb
      have HF := Lib.hid (HCT.out y hy)
      have OS := Lib.hid (O2.set (48 + i) (bits .xor .u8 y a3))
      have BS := Lib.hid (show Below W.heap.size W (w2.setCell ⟨g2, 48 + i, none⟩ (.int .u8 (bits .xor .u8 y a3))) from b2.setCell hg2 _)
      have hxb := bits8 .xor y a3
      clear hy o2 O2 b2 hcells
      have hT1 : (S.set (48 + i) (bits .xor .u8 y a3)).length = n1 := by rw [List.length_set, HSL.out]
      have HTB := HSB.out.set (48 + i) _ hxb
      obtain ⟨T, hT0⟩ : ∃ T, T = S.set (48 + i) (bits .xor .u8 y a3) := ⟨_, rfl⟩
      rw [← hT0] at HF OS hT1 HTB
      obtain ⟨_, _, e0, h5⟩ := Own.holds (show Own _ _ _ T from OS.out) HTB (by rw [hT1]; omega)
      rw [hT1] at e0 h5
      simp only [Value.slice.injEq, true_and] at e0
      obtain ⟨rfl, rfl⟩ := e0
      have H5 := Lib.hid h5
      clear h5 OS hT0 hT1 HTB HCT
      go_wp2_with fail
      refine (C3 _ (HK.out.over BS.out) _ _ T H5.out (HT.out.below BS.out)).out.mono ?_
      rintro e w3 ⟨rfl, b3⟩
      rw [HF.out]
      have B3 := Lib.hid (step BS.out b3)
      clear b3
      go_wp2_with fail
      refine (cw _ (HT.out.below B3.out)).out.mono ?_
      rintro e w4 ⟨rfl, b4⟩
      go_wp2_with fail
      go_ret
      exact ⟨rfl, step B3.out b4⟩
end Go.Proofs.YtomdgiikjnghcaaDoor
