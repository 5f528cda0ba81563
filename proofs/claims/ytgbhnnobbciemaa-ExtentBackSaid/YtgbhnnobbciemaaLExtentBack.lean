/-
  Layer 14 (extent): the law ExtentBack, walked.
-/
import Derived.Test.YtgbhnnobbciemaaExL
import Derived.Test.YtgbhnnobbciemaaExZ
namespace Go.Proofs.Ytgbhnnobbciemaa
set_option maxRecDepth 100000
open Go.RowKit
set_option linter.unusedVariables false

set_option maxHeartbeats 4000000 in
theorem law_ExtentBack (I : ExtI) (W : World) (A : Option Addr) (n c : Nat) (l : List ActV) (h : LAct W W.heap.size A n c l) (hn : n ≤ 140737488355328) (a : Int) (ha : I64 a) (A2 : Option Addr) (m c2 : Nat) (xs : List Int) (hx : Holds W W.heap.size A2 m c2 xs) (hc2 : c2 ≤ 140737488355328) :
    Calls Try.prog 5 #[.slice A n c, .int .i64 a, .slice A2 m c2] W fun e w' => e = .returned (.bool true) ∧ Below W.heap.size W w' := by
  have CP := Lib.hid (Played_any I W A n c l h hn)
  unfold PlayPost at CP
  obtain ⟨B, hB⟩ : ∃ B, B = actsB l (min n 60) := ⟨_, rfl⟩
  obtain ⟨Z, hZ⟩ : ∃ Z, Z = actsZ l (min n 60) := ⟨_, rfl⟩
  rw [← hB, ← hZ] at CP
  have HX := Lib.hid hx
  have HXL := Lib.hid hx.len
  have hf := hx.fit
  have HA := Lib.hid ha
  have ha1 : -9223372036854775808 ≤ a ∧ a ≤ 9223372036854775807 := ha
  clear h hB hZ hx ha
  go_enter Try.func5, Try.ntmps5
  go_wp2_with fail
  refine CP.out.mono ?_
  rintro e w1 ⟨q, g, S, vB, vZ, rfl, t1, l1⟩
  have X1 := Lib.hid t1.x
  have L1 := Lib.hid l1
  have hb1 := t1.hb
  have hBs := (I.okB t1.x).2.1
  clear t1 l1 CP
  go_wp2_with fail
  refine (I.all X1.out).mono ?_
  rintro e w2 ⟨Aw, cw, rfl, y2, f2, _, l2⟩
  have Y2 := Lib.hid y2
  have F2 : Hid (∀ x, Aw = some x → ¬ S x.block) := fun x hx hs => by have := f2 x hx; have := (I.ge X1.out _ hs).2; omega
  have X2 := Lib.hid (I.below X1.out l2)
  have L2 := Lib.hid (L1.out.trans (l2.mono L1.out.size))
  have hb2 := L2.out.size
  have hx2 := HX.out.below L2.out
  have cw2 := I.write X2.out HA.out (hx2.mono hb2) hc2 (fun h0 x hx hs => by
    obtain ⟨b', off, e, hb, _⟩ := hx2.cells h0
    rw [hx] at e
    cases e
    exact Nat.not_le_of_lt hb (I.ge X2.out _ hs).1) hb2
  rw [HXL.out] at cw2
  have CW := Lib.hid cw2
  clear y2 f2 l2 cw2 hx2
  obtain ⟨B', hB'⟩ : ∃ B', B' = exWr 0 B a xs := ⟨_, rfl⟩
  obtain ⟨Z', hZ'⟩ : ∃ Z', Z' = exWr false Z a (List.replicate m true) := ⟨_, rfl⟩
  obtain ⟨er, her⟩ : ∃ er, er = exWrE a m := ⟨_, rfl⟩
  rw [← hB', ← hZ', ← her] at CW
  have HB' := Lib.hid hB'
  have HER := Lib.hid her
  clear hB' hZ' her
  go_wp2_with fail
  refine CW.out.mono ?_
  rintro e w3 ⟨rfl, S3, x3, s3, n3⟩
  have X3 := Lib.hid x3
  have Y3 := Lib.hid (Y2.out.spar s3 (Nat.le_refl _) F2.out)
  have L3 := Lib.hid (L2.out.trans (s3.below (fun j hj => (I.ge X2.out j hj).1) hb2))
  have hs3 := s3.size
  have hBs' := (I.okB x3).2.1
  clear x3 s3 n3 CW Y2 F2
  go_wp2_with fail
  refine (I.all X3.out).mono ?_
  rintro e w4 ⟨An, cn, rfl, y4, f4, _, l4⟩
  have Y4 := Lib.hid y4
  have X4 := Lib.hid (I.below X3.out l4)
  have Y4w := Lib.hid ((Y3.out.mono hs3).over l4)
  have L4 := Lib.hid (L3.out.trans (l4.mono L3.out.size))
  clear y4 f4 l4 Y3
  by_cases hbad : ¬ er = 0 ∨ m = 0
  · have HS : Hid (B' = B) := by
      show _ = _
      rw [HB'.out]
      exact exWr_same HXL.out (by rw [← HER.out]; exact hbad)
    have C4 := Lib.hid (Same_any w4 _ _ _ _ _ _ _ _ _ _ Y4w.out Y4.out)
    rw [show decide (B = B') = true by rw [HS.out]; simp] at C4
    by_cases he : er = 0
    · have hm : m = 0 := by omega
      go_wp2_with fail
      refine C4.out.mono ?_
      rintro e w5 ⟨rfl, j, rfl⟩
      go_wp2_with fail
      refine (WorksX_any I (w4.drewN j)).mono ?_
      rintro e w6 ⟨rfl, l6⟩
      have L6 := Lib.hid ((L4.out.trans ((drewed w4 j).mono L4.out.size)).trans (l6.mono (by have := L4.out.size; exact this)))
      clear l6
      go_wp2_with fail
      go_ret
      exact ⟨rfl, L6.out⟩
    · go_wp2_with fail
      refine C4.out.mono ?_
      rintro e w5 ⟨rfl, j, rfl⟩
      go_wp2_with fail
      refine (WorksX_any I (w4.drewN j)).mono ?_
      rintro e w6 ⟨rfl, l6⟩
      have L6 := Lib.hid ((L4.out.trans ((drewed w4 j).mono L4.out.size)).trans (l6.mono (by have := L4.out.size; exact this)))
      clear l6
      go_wp2_with fail
      go_ret
      exact ⟨rfl, L6.out⟩
  · obtain ⟨h0, hm0⟩ : er = 0 ∧ ¬ m = 0 := by omega
    subst h0
    obtain ⟨h1, h2⟩ := exWrE_ok HER.out.symm (by omega)
    obtain ⟨p, rfl⟩ := Int.eq_ofNat_of_zero_le h1
    have HLN : Hid (B'.length = max B.length (p + m)) := by
      show _ = _
      rw [HB'.out]
      exact exWr_size HXL.out hm0 HER.out.symm
    have HG : Hid (∀ i, B'.getD i 0 = (if p ≤ i ∧ i < p + m then xs.getD (i - p) 0 else B.getD i 0)) := fun i => by
      rw [HB'.out]
      exact exWr_get HXL.out hm0 HER.out.symm
    obtain ⟨N, hN⟩ : ∃ N, N = B'.length := ⟨_, rfl⟩
    obtain ⟨M, hM⟩ : ∃ M, M = B.length := ⟨_, rfl⟩
    have HN := Lib.hid hN
    have HM := Lib.hid hM
    have HLN' : Hid (max M (p + m) = N) := by show _ = _; rw [hM, hN]; exact HLN.out.symm
    have c5 := I.size X4.out
    rw [← hN] at c5 Y4 hBs' ⊢
    rw [← hM] at Y4w hBs ⊢
    have C5 := Lib.hid c5
    have hmx : max (M : Int) ((p : Int) + (m : Int)) = (N : Int) := by have := HLN'.out; omega
    clear c5 hN hM h1
    go_wp2_with fail
    refine C5.out.mono ?_
    rintro e w5 ⟨rfl, j5, rfl⟩
    have Y5 := Lib.hid (Y4.out.drewN j5)
    have Y5w := Lib.hid (Y4w.out.drewN j5)
    have L5 := Lib.hid (L4.out.trans ((drewed w4 j5).mono L4.out.size))
    have HX5 := Lib.hid (HX.out.below L5.out)
    have hNs := Y5.out.room
    obtain ⟨w6, hw6⟩ : ∃ x, x = w4.drewN j5 := ⟨_, rfl⟩
    rw [← hw6] at Y5 Y5w L5 HX5 ⊢
    clear C5 Y4 Y4w X4 L4 X3 L3 X2 L2 X1 L1 hw6
    go_wp2_with fail
    go_loop [15, 16] (fun I' _ => ∃ i : Nat, i ≤ N ∧ I' = .int .i64 (i : Nat)) (fun I' _ => N - (intOf I').toNat)
    case atStart => exact ⟨0, Nat.zero_le _, rfl⟩
    case round =>
      obtain ⟨i, hi, rfl⟩ := hrel
      by_cases hlt : i < N
      · obtain ⟨bn, on, rfl, _, hcn⟩ := Y5.out.cells (by omega)
        have gn := hcn i hlt
        by_cases hp : p ≤ i ∧ i < p + m
        · obtain ⟨k, rfl⟩ : ∃ k, i = p + k := ⟨i - p, by omega⟩
          obtain ⟨b2, o2, rfl, _, hc2'⟩ := HX5.out.cells (by omega)
          have g2 := hc2' k (by omega)
          have hv : B'.getD (p + k) 0 = xs.getD k 0 := by rw [HG.out, if_pos hp, Nat.add_sub_cancel_left]
          rw [hv] at gn
          have q1 : (p : Int) ≤ (p : Int) + (k : Int) := by omega
          have q2 : (k : Int) < (m : Int) := by omega
          by_cases hw : p + k < M
          · obtain ⟨bw, ow, rfl, _, hcw⟩ := Y5w.out.cells (by omega)
            have gw := hcw (p + k) hw
            clear hcn hcw hc2' hv
            go_wp2_with fail
            go_round
            case rel => exact ⟨p + k + 1, by omega, by go_num⟩
            case measure => simp [intOf]; omega
          · clear hcn hc2' hv
            go_wp2_with fail
            go_round
            case rel => exact ⟨p + k + 1, by omega, by go_num⟩
            case measure => simp [intOf]; omega
        · have hv : B'.getD i 0 = B.getD i 0 := by rw [HG.out, if_neg hp]
          rw [hv] at gn
          by_cases hw : i < M
          · obtain ⟨bw, ow, rfl, _, hcw⟩ := Y5w.out.cells (by omega)
            have gw := hcw i hw
            clear hcn hcw hv
            by_cases hq : p ≤ i
            · have q1 : (p : Int) ≤ (i : Int) := by omega
              have q2 : ¬ (i : Int) - (p : Int) < (m : Int) := by omega
              go_wp2_with fail
              go_round
              case rel => exact ⟨i + 1, by omega, by go_num⟩
              case measure => simp [intOf]; omega
            · have q1 : ¬ (p : Int) ≤ (i : Int) := by omega
              go_wp2_with fail
              go_round
              case rel => exact ⟨i + 1, by omega, by go_num⟩
              case measure => simp [intOf]; omega
          · have hz : B.getD i 0 = 0 := by
              rw [List.getD_eq_getElem?_getD, List.getElem?_eq_none (by rw [← HM.out]; omega)]
              rfl
            rw [hz] at gn
            have hNX := HLN'.out
            have q1 : ¬ (p : Int) ≤ (i : Int) := by omega
            clear hcn hv hz
            go_wp2_with fail
            go_round
            case rel => exact ⟨i + 1, by omega, by go_num⟩
            case measure => simp [intOf]; omega
      · obtain rfl : i = N := by omega
        go_wp2_with fail
        refine (WorksX_any I w6).mono ?_
        rintro e w7 ⟨rfl, l7⟩
        have L7 := Lib.hid (L5.out.trans (l7.mono L5.out.size))
        clear l7
        go_wp2_with fail
        go_ret
        exact ⟨rfl, L7.out⟩
theorem walk_ExtentBack (W : World) (A0 : Option Addr) (n0 c0 : Nat) (l0 : List ActV) (h0 : LAct W W.heap.size A0 n0 c0 l0) (r0 : n0 ≤ 140737488355328) (a1 : Int) (w1 : -9223372036854775808 ≤ a1 ∧ a1 ≤ 9223372036854775807) (A2 : Option Addr) (n2 c2 : Nat) (z2 : List Int) (l2 : n2 ≤ c2) (r2 : c2 ≤ 140737488351232) (h2 : Holds W W.heap.size A2 c2 c2 z2) :
    Calls Try.prog 5 #[.slice A0 n0 c0, .int .i64 a1, .slice A2 n2 c2] W fun e w' => e = .returned (.bool true) ∧ Below W.heap.size W w' := law_ExtentBack theExt W A0 n0 c0 l0 h0 r0 a1 w1 A2 n2 c2 (z2.take n2) (h2.fore l2) (by omega)
end Go.Proofs.Ytgbhnnobbciemaa
