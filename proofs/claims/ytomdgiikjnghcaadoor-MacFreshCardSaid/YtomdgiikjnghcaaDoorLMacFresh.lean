/-
  The walk of the statement MacFresh: what is handed in stays, the room behind it, too; what is answered is new memory.
-/
import Derived.Test.YtomdgiikjnghcaaDoorWorksM
import Derived.Test.YtomdgiikjnghcaaDoorRefM3
import Derived.Test.YtomdgiikjnghcaaDoorMem
import Derived.Test.YtomdgiikjnghcaaDoorOpen
namespace Go.Proofs.YtomdgiikjnghcaaDoor
open Go.RowKit
set_option linter.unusedVariables false

set_option maxHeartbeats 400000 in
/-- Spoil over a row of the call's own, noughts behind it: it writes nothing below 'base' -/
theorem Spoil_own (w : World) (base : Nat) (v : Value) (xs : List Int) (hx : Bytes xs) (by_ : Int) (h0 : 0 ≤ by_ ∧ by_ ≤ 255) (h : OwnZ .u8 5 w base v xs) :
    Calls Tryd.prog 23 #[v, .int .u8 by_] w fun e w' => e = .returned (.tuple #[]) ∧ Below base w w' := by
  obtain ⟨h00, h01⟩ := h0
  rcases h with ⟨rfl, rfl⟩ | ⟨g, m, rfl, hg, hm, hr⟩
  · go_enter Tryd.func23, Tryd.ntmps23
    go_wp2
    go_loop [4] (fun i => i = .int .i64 0) (fun _ => 0)
    case atStart => exact rfl
    case round =>
      subst hrel
      go_wp2
      go_end0
      exact ⟨rfl, Below.refl _ _⟩
  · have HR : Hid (Row w g (xs ++ List.replicate m 0)) := hr
    have HN : Hid ((xs ++ List.replicate m (0 : Int)).length = xs.length + m) := by show _ = _; simp
    obtain ⟨zs, hzs⟩ : ∃ zs, zs = xs ++ List.replicate m 0 := ⟨_, rfl⟩
    rw [← hzs] at HR HN
    obtain ⟨l, hl⟩ : ∃ l, l = xs.length := ⟨_, rfl⟩
    rw [← hl] at HN hm ⊢
    obtain ⟨n, hn⟩ : ∃ n, n = l + m := ⟨_, rfl⟩
    rw [← hn] at HN hm ⊢
    have hln : l ≤ n := by omega
    have hmax : n ≤ 9223372036854775807 := hm
    clear hzs hl hn hr hm hx
    go_enter Tryd.func23, Tryd.ntmps23
    go_wp2
    go_loopw [4] (fun i wr => ∃ k : Nat, k ≤ n ∧ i = .int .i64 k ∧ (∃ ys : List Int, Hid (ys.length = n) ∧ Hid (Row wr g ys)) ∧ Below base w wr) (fun i _ => n - (intOf i).toNat)
    case atStart => exact ⟨0, Nat.zero_le _, rfl, ⟨zs, HN, HR⟩, Below.refl _ _⟩
    case round =>
      obtain ⟨k, hk, rfl, ⟨ys, HY, hR⟩, hb⟩ := hrel
      by_cases hlt : k < n
      · have hc := hR.out.cell (i := k) (by have := HY.out; omega)
        have hz := hR.out.frozen k
        obtain ⟨old, hold⟩ : ∃ old, old = ys.getD k 0 := ⟨_, rfl⟩
        rw [← hold] at hc
        clear hold
        go_wp2
        go_roundw
        case rel => exact ⟨k + 1, by omega, by go_num, ⟨_, (by show _ = _; rw [List.length_set]; exact HY.out), hR.out.set k _⟩, hb.setCell hg _⟩
        case measure => simp [intOf]; omega
      · go_wp2
        go_end0
        exact ⟨rfl, hb⟩

set_option maxRecDepth 100000 in
set_option maxHeartbeats 2000000 in
theorem walk_MacFresh (W : World) (hT : KTab W) (A0 : Option Addr) (n0 c0 : Nat) (z0 : List Int) (l0 : n0 ≤ c0) (r0 : c0 ≤ 140737488351232) (h0 : Holds W W.heap.size A0 c0 c0 z0)
    (A1 : Option Addr) (n1 c1 : Nat) (z1 : List Int) (l1 : n1 ≤ c1) (r1 : c1 ≤ 140737488351232) (h1 : Holds W W.heap.size A1 c1 c1 z1) :
    Calls Tryd.prog 9 #[.slice A0 n0 c0, .slice A1 n1 c1] W fun e W' => e = .returned (.bool true) ∧ Below W.heap.size W W' := by
  have hk := h0.head l0
  have hm := h1.head l1
  obtain ⟨ks, hks⟩ : ∃ xs, xs = z0.take n0 := ⟨_, rfl⟩
  obtain ⟨ms, hms⟩ : ∃ xs, xs = z1.take n1 := ⟨_, rfl⟩
  rw [← hks] at hk
  rw [← hms] at hm
  have cw := fun w hK => Lib.hid (works_any w hK)
  have kl := hk.len
  have ml := hm.len
  have kb := hk.byte
  have mb := hm.byte
  have cA := fun w h => Wide_any w A0 n0 c0 ks h (by omega)
  have cB := fun w h => Wide_any w A1 n1 c1 ms h (by omega)
  unfold WidePost at cA cB
  rw [kl] at cA
  rw [ml] at cB
  have CA := fun w h => Lib.hid (cA w h)
  have CB := fun w h => Lib.hid (cB w h)
  have c1' := fun w A c h A2 c2 h2 hK => Sign_anyZ w A n0 c ks (by omega) h A2 n1 c2 ms (by omega) h2 hK
  have c2' := fun w A c h A2 c2 h2 hK => Check_any w A n0 c ks (by omega) h A2 n1 c2 ms (by omega) h2 hK
  have c3' := fun w A c h A2 c2 h2 hK => Mac_any w A n0 c ks (by omega) h A2 n1 c2 ms (by omega) h2 hK
  have c4' := fun w A c h hK => Derive_any w A n0 c ks (by omega) h ⟨#[97]⟩ ⟨#[98]⟩ (by decide) hK
  unfold SignPostZ at c1'
  have hsob := signO_bytes ks ms mb
  obtain ⟨E, hE⟩ : ∃ E, E = signErr ms.length := ⟨_, rfl⟩
  obtain ⟨S, hS⟩ : ∃ S, S = signO ks ms := ⟨_, rfl⟩
  obtain ⟨F, hF⟩ : ∃ F, F = checkErr ks ms := ⟨_, rfl⟩
  obtain ⟨R, hR⟩ : ∃ R, R = macL ks ms := ⟨_, rfl⟩
  obtain ⟨D, hD⟩ : ∃ D, D = deriveL ks (textL ⟨#[97]⟩) (textL ⟨#[98]⟩) := ⟨_, rfl⟩
  rw [← hE, ← hS] at c1'
  rw [← hS] at hsob
  rw [← hF] at c2'
  rw [← hR] at c3'
  rw [← hD] at c4'
  have C1 := fun w A c h A2 c2 h2 hK => Lib.hid (c1' w A c h A2 c2 h2 hK)
  have C2 := fun w A c h A2 c2 h2 hK => Lib.hid (c2' w A c h A2 c2 h2 hK)
  have C3 := fun w A c h A2 c2 h2 hK => Lib.hid (c3' w A c h A2 c2 h2 hK)
  have C4 := fun w A c h hK => Lib.hid (c4' w A c h hK)
  have cS := fun w base v h => Lib.hid (Spoil_own w base v S hsob 1 (by omega) h)
  have cL := fun w g A n c h1 h2 => Lib.hid (Left_any w g A n c ks h1 h2)
  have cM := fun w g A n c h1 h2 => Lib.hid (Left_any w g A n c ms h1 h2)
  have HT := Lib.hid hT
  have HK := Lib.hid hk
  have HM := Lib.hid hm
  have HKL := Lib.hid kl
  have HML := Lib.hid ml
  -- what Wide lays reads as the bytes
  have wideK : Hid (∀ w g, Row w g (ks ++ [7, 7, 7]) → Holds w w.heap.size (some ⟨g, 0, none⟩) n0 (n0 + 3) ks) := fun w g hr =>
    ⟨kl, by omega, by omega, kb, fun hA => (by cases hA), fun h0 => ⟨g, 0, rfl, hr.lt, fun i hi => by
      rw [Nat.zero_add, hr.cell (by simp; omega)]
      simp [List.getD_eq_getElem?_getD, List.getElem?_append, kl, hi]⟩⟩
  have wideM : Hid (∀ w g, Row w g (ms ++ [7, 7, 7]) → Holds w w.heap.size (some ⟨g, 0, none⟩) n1 (n1 + 3) ms) := fun w g hr =>
    ⟨ml, by omega, by omega, mb, fun hA => (by cases hA), fun h0 => ⟨g, 0, rfl, hr.lt, fun i hi => by
      rw [Nat.zero_add, hr.cell (by simp; omega)]
      simp [List.getD_eq_getElem?_getD, List.getElem?_append, ml, hi]⟩⟩
  clear hE hS hF hR hD hks hms h0 h1 hT hk hm cA cB c1' c2' c3' c4' kl ml kb mb hsob
  go_enter Tryd.func9, Tryd.ntmps9
  go_wp2_with fail
  refine (CA _ HK.out).out.mono ?_
  rintro e w1 ⟨rfl, rk, b1⟩
  have RK1 := Lib.hid rk
  have B1 := Lib.hid b1
  obtain ⟨gk, hgk⟩ : ∃ g, g = W.heap.size := ⟨_, rfl⟩
  rw [← hgk] at RK1 ⊢
  clear rk b1 CA hgk
  go_wp2_with fail
  refine (CB _ (HM.out.over B1.out)).out.mono ?_
  rintro e w2 ⟨rfl, rm, b2⟩
  have RK2 := Lib.hid (RK1.out.below b2 RK1.out.lt)
  have RM2 := Lib.hid rm
  have B2 := Lib.hid (step B1.out b2)
  have s12 := RK1.out.lt
  obtain ⟨gm, hgm⟩ : ∃ g, g = w1.heap.size := ⟨_, rfl⟩
  rw [← hgm] at RM2 ⊢
  clear rm b2 CB RK1 B1 hgm s12
  go_wp2_with fail
  refine (C1 _ _ _ (wideK.out _ _ RK2.out) _ _ (wideM.out _ _ RM2.out) (HT.out.below B2.out)).out.mono ?_
  rintro e w3 ⟨v3, rfl, o3, b3⟩
  have O3 := Lib.hid o3
  have Q3 := Lib.hid b3
  clear o3 b3
  go_wp2_with fail
  refine (cS _ _ _ O3.out).out.mono ?_
  rintro e w4 ⟨rfl, b4⟩
  have Q4 := Lib.hid (Q3.out.trans b4)
  have RK4 := Lib.hid (RK2.out.below Q4.out RK2.out.lt)
  have RM4 := Lib.hid (RM2.out.below Q4.out RM2.out.lt)
  have B4 := Lib.hid (step B2.out Q4.out)
  clear O3 Q3 b4 Q4 RK2 RM2 B2
  go_wp2_with fail
  refine (C2 _ _ _ (wideK.out _ _ RK4.out) _ _ (wideM.out _ _ RM4.out) (HT.out.below B4.out)).out.mono ?_
  rintro e w5 ⟨rfl, b5⟩
  have RK5 := Lib.hid (RK4.out.below b5 RK4.out.lt)
  have RM5 := Lib.hid (RM4.out.below b5 RM4.out.lt)
  have B5 := Lib.hid (step B4.out b5)
  clear b5 RK4 RM4 B4
  go_wp2_with fail
  refine (C3 _ _ _ (wideK.out _ _ RK5.out) _ _ (wideM.out _ _ RM5.out) (HT.out.below B5.out)).out.mono ?_
  rintro e w6 ⟨rfl, b6⟩
  have RK6 := Lib.hid (RK5.out.below b6 RK5.out.lt)
  have RM6 := Lib.hid (RM5.out.below b6 RM5.out.lt)
  have B6 := Lib.hid (step B5.out b6)
  clear b6 RK5 RM5 B5
  go_wp2_with fail
  refine (C4 _ _ _ (wideK.out _ _ RK6.out) (HT.out.below B6.out)).out.mono ?_
  rintro e w7 ⟨rfl, b7⟩
  have RK7 := Lib.hid (RK6.out.below b7 RK6.out.lt)
  have RM7 := Lib.hid (RM6.out.below b7 RM6.out.lt)
  have B7 := Lib.hid (step B6.out b7)
  clear b7 RK6 RM6 B6
  go_wp2_with fail
  refine (cL _ _ _ _ _ RK7.out (HK.out.over B7.out)).out.mono ?_
  rintro e w' ⟨rfl, j8, rfl⟩
  have B8 : Hid (Below W.heap.size W (w7.drewN j8)) := below_drewN B7.out j8
  have RM8 : Hid (Row (w7.drewN j8) gm (ms ++ [7, 7, 7])) := RM7.out.drewN j8
  obtain ⟨w8, hw8⟩ : ∃ x, x = w7.drewN j8 := ⟨_, rfl⟩
  rw [← hw8] at B8 RM8 ⊢
  clear hw8 RK7 RM7 B7
  go_wp2_with fail
  refine (cM _ _ _ _ _ RM8.out (HM.out.over B8.out)).out.mono ?_
  rintro e w' ⟨rfl, j9, rfl⟩
  have B9 : Hid (Below W.heap.size W (w8.drewN j9)) := below_drewN B8.out j9
  obtain ⟨w9, hw9⟩ : ∃ x, x = w8.drewN j9 := ⟨_, rfl⟩
  rw [← hw9] at B9 ⊢
  clear hw9 RM8 B8
  go_wp2_with fail
  refine (cw _ (HT.out.below B9.out)).out.mono ?_
  rintro e w10 ⟨rfl, b10⟩
  go_wp2_with fail
  go_ret
  exact ⟨rfl, step B9.out b10⟩
end Go.Proofs.YtomdgiikjnghcaaDoor
