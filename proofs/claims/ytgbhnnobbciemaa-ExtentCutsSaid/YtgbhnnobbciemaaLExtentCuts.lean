/-
  Layer 14 (extent): the law ExtentCuts, walked.
-/
import Derived.Test.YtgbhnnobbciemaaExL
import Derived.BigQuiet
import Derived.Test.YtgbhnnobbciemaaExZ
namespace Go.Proofs.Ytgbhnnobbciemaa
set_option maxRecDepth 100000
open Go.RowKit
set_option linter.unusedVariables false

set_option maxHeartbeats 4000000 in
theorem law_ExtentCuts (I : ExtI) (W : World) (A : Option Addr) (n c : Nat) (l : List ActV) (h : LAct W W.heap.size A n c l) (hn : n ≤ 140737488355328) (a k : Int) (ha : I64 a) (hk : I64 k) :
    Calls Try.prog 7 #[.slice A n c, .int .i64 a, .int .i64 k] W fun e w' => e = .returned (.bool true) ∧ Below W.heap.size W w' := by
  have CP := Lib.hid (Played_any I W A n c l h hn)
  unfold PlayPost at CP
  obtain ⟨B, hB⟩ : ∃ B, B = actsB l (min n 60) := ⟨_, rfl⟩
  obtain ⟨Z, hZ⟩ : ∃ Z, Z = actsZ l (min n 60) := ⟨_, rfl⟩
  rw [← hB, ← hZ] at CP
  have ha1 : -9223372036854775808 ≤ a ∧ a ≤ 9223372036854775807 := ha
  have hk1 : -9223372036854775808 ≤ k ∧ k ≤ 9223372036854775807 := hk
  clear h hB hZ ha hk
  go_enter Try.func7, Try.ntmps7
  go_wp2_with fail
  refine CP.out.mono ?_
  rintro e w1 ⟨q, g, S, vB, vZ, rfl, t1, l1⟩
  have X1 := Lib.hid t1.x
  have L1 := Lib.hid l1
  have hb1 := t1.hb
  have hBs := (I.okB t1.x).2.1
  clear t1 l1 CP
  go_wp2_with fail
  refine (I.all X1.out).mono ?_
  rintro e w2 ⟨Aw, cw, rfl, y2, f2, _, l2⟩
  have Y2 := Lib.hid y2
  have F2 : Hid (∀ x, Aw = some x → ¬ S x.block) := fun x hx hs => by have := f2 x hx; have := (I.ge X1.out _ hs).2; omega
  have FL : Hid (∀ x, Aw = some x → x.block < w2.heap.size) := fun x hx => (f2 x hx).2
  have X2 := Lib.hid (I.below X1.out l2)
  have L2 := Lib.hid (L1.out.trans (l2.mono L1.out.size))
  have hb2 := L2.out.size
  clear y2 f2 l2 X1 L1
  obtain ⟨M, hM⟩ : ∃ M, M = B.length := ⟨_, rfl⟩
  have HM := Lib.hid hM
  rw [← hM] at Y2 hBs ⊢
  clear hM
  have bad : ∀ w : World, Below W.heap.size W w → Calls Try.prog 12 #[] w fun e w' => e = .returned (.bool true) ∧ Below W.heap.size W w' := fun w hw =>
    (WorksX_any I w).mono fun e w' ⟨h1, h2⟩ => ⟨h1, hw.trans (h2.mono hw.size)⟩
  have BAD := Lib.hid bad
  clear bad
  by_cases h1 : a < 0
  · go_wp2_with fail
    refine (BAD.out w2 L2.out).mono ?_
    rintro e w3 ⟨rfl, l3⟩
    go_wp2_with fail
    go_ret
    exact ⟨rfl, l3⟩
  · obtain ⟨s, rfl⟩ := Int.eq_ofNat_of_zero_le (by omega : 0 ≤ a)
    by_cases h2 : (M : Int) < (s : Int)
    · go_wp2_with fail
      refine (BAD.out w2 L2.out).mono ?_
      rintro e w3 ⟨rfl, l3⟩
      go_wp2_with fail
      go_ret
      exact ⟨rfl, l3⟩
    · by_cases h3 : k < (s : Int)
      · go_wp2_with fail
        refine (BAD.out w2 L2.out).mono ?_
        rintro e w3 ⟨rfl, l3⟩
        go_wp2_with fail
        go_ret
        exact ⟨rfl, l3⟩
      · by_cases h4 : 65536 < k
        · go_wp2_with fail
          refine (BAD.out w2 L2.out).mono ?_
          rintro e w3 ⟨rfl, l3⟩
          go_wp2_with fail
          go_ret
          exact ⟨rfl, l3⟩
        · obtain ⟨t, rfl⟩ := Int.eq_ofNat_of_zero_le (by omega : 0 ≤ k)
          have hsM : s ≤ M := by omega
          have hst : s ≤ t := by omega
          have ht6 : t ≤ 65536 := by omega
          obtain ⟨d1, d2, d3⟩ := cut_cut (B := B) (s := s) (t := t) (by rw [← HM.out]; exact hsM) hst
          have c3 := I.cut X2.out (s := (s : Int)) (by unfold I64; omega) hb2
          rw [(exCut_of (z := (0 : Int)) (l := B) (by omega : s ≤ 65536)).1, (exCut_of (z := false) (l := Z) (by omega : s ≤ 65536)).1, (exCut_of (z := false) (l := Z) (by omega : s ≤ 65536)).2] at c3
          have C3 := Lib.hid c3
          obtain ⟨B', hB'⟩ : ∃ B', B' = padTo (0 : Int) (padTo 0 B s) t := ⟨_, rfl⟩
          rw [← hB'] at d1 d2 d3
          have D1 := Lib.hid d1
          have D2 := Lib.hid d2
          have D3 := Lib.hid d3
          have HB' := Lib.hid hB'
          clear c3 d1 d2 d3 hB'
          go_wp2_with fail
          refine C3.out.mono ?_
          rintro e w3 ⟨rfl, S3, x3, s3, n3⟩
          have X3 := Lib.hid x3
          have Y3 := Lib.hid (Y2.out.spar s3 (Nat.le_refl _) F2.out)
          have L3 := Lib.hid (L2.out.trans (s3.below (fun j hj => (I.ge X2.out j hj).1) hb2))
          have hs3 := s3.size
          have hb3 := L3.out.size
          have F3 : Hid (∀ x, Aw = some x → ¬ S3 x.block) := fun x hx hs => by
            rcases n3 _ hs with h5 | h5
            · exact F2.out x hx h5
            · exact absurd (FL.out x hx) (Nat.not_lt_of_le h5)
          have c4 := I.cut x3 (s := (t : Int)) (by unfold I64; omega) hb3
          rw [(exCut_of (z := (0 : Int)) (l := padTo 0 B s) ht6).1, (exCut_of (z := false) (l := padTo false Z s) ht6).1, (exCut_of (z := false) (l := Z) ht6).2, ← HB'.out] at c4
          have C4 := Lib.hid c4
          clear x3 s3 n3 C3 c4
          go_wp2_with fail
          refine C4.out.mono ?_
          rintro e w4 ⟨rfl, S4, x4, s4, n4⟩
          have X4 := Lib.hid x4
          have Y4 := Lib.hid (Y3.out.spar s4 hs3 F3.out)
          have L4 := Lib.hid (L3.out.trans (s4.below (fun j hj => (I.ge X3.out j hj).1) hb3))
          have hs4 := s4.size
          clear x4 s4 n4 C4
          go_wp2_with fail
          refine (I.all X4.out).mono ?_
          rintro e w5 ⟨An, cn, rfl, y5, f5, _, l5⟩
          have Y5w := Lib.hid (Y4.out.below (l5.mono (Nat.le_trans hs3 hs4)))
          have L5 := Lib.hid (L4.out.trans (l5.mono L4.out.size))
          rw [D1.out] at y5 ⊢
          have Y5 := Lib.hid y5
          have YA := Lib.hid (y5.fore hst)
          have YB := Lib.hid (Y5w.out.fore hsM)
          rw [D2.out] at YA
          have CS : Hid (∀ d : Nat, Calls Try.prog 15 #[.slice An s cn, .slice Aw s cw] (w5.drewN d) fun e w' => e = .returned (.bool true) ∧ ∃ k, (w5.drewN d).drewN k = w') := fun d => by
            have := Same_any (w5.drewN d) _ _ _ _ _ _ _ _ _ _ (YA.out.drewN d) (YB.out.drewN d)
            simpa using this
          clear y5 f5 l5 X3 X4 Y2 Y3 Y4 X2 F2 F3 L2 L3 L4
          have q0 : t ≤ cn := Y5.out.fit
          have q0' : M ≤ cw := Y5w.out.fit
          have q1 : (s : Int) ≤ (cn : Int) := by omega
          have q2 : (s : Int) ≤ (cw : Int) := by omega
          have q3 : s ≤ cn := by omega
          have q4 : s ≤ cw := by omega
          go_upto_region 7 with fail
          go_quiet ((go_at_call 15; exact quiet_drw (CS.out _)))
          go_wp2_with fail
          obtain ⟨w6, hw6⟩ : ∃ x, x = w5.drewN nq := ⟨_, rfl⟩
          have Y6 : Hid (Holds w6 w5.heap.size An t cn B') := by rw [hw6]; exact Y5.out.drewN nq
          have L6 : Hid (Below W.heap.size W w6) := by rw [hw6]; exact L5.out.trans ((drewed w5 nq).mono L5.out.size)
          rw [← hw6]
          clear hw6 CS YA YB Y5 Y5w
          go_loop [16] (fun I' => ∃ i : Nat, s ≤ i ∧ i ≤ t ∧ I' = .int .i64 (i : Nat)) (fun I' => t - (intOf I').toNat)
          case atStart => exact ⟨s, Nat.le_refl _, hst, rfl⟩
          case round =>
            obtain ⟨i, hsi, hi, rfl⟩ := hrel
            by_cases hlt : i < t
            · obtain ⟨bn, on, rfl, _, hcn⟩ := Y6.out.cells (by omega)
              have gn := hcn i hlt
              rw [D3.out i hsi] at gn
              clear hcn
              go_wp2_with fail
              go_round
              case rel => exact ⟨i + 1, by omega, by omega, by go_num⟩
              case measure => simp [intOf]; omega
            · obtain rfl : i = t := by omega
              go_wp2_with fail
              refine (BAD.out w6 L6.out).mono ?_
              rintro e w7 ⟨rfl, l7⟩
              go_wp2_with fail
              go_ret
              exact ⟨rfl, l7⟩
theorem walk_ExtentCuts (W : World) (A0 : Option Addr) (n0 c0 : Nat) (l0 : List ActV) (h0 : LAct W W.heap.size A0 n0 c0 l0) (r0 : n0 ≤ 140737488355328) (a1 : Int) (w1 : -9223372036854775808 ≤ a1 ∧ a1 ≤ 9223372036854775807) (a2 : Int) (w2 : -9223372036854775808 ≤ a2 ∧ a2 ≤ 9223372036854775807) :
    Calls Try.prog 7 #[.slice A0 n0 c0, .int .i64 a1, .int .i64 a2] W fun e w' => e = .returned (.bool true) ∧ Below W.heap.size W w' := law_ExtentCuts theExt W A0 n0 c0 l0 h0 r0 a1 a2 w1 w2
end Go.Proofs.Ytgbhnnobbciemaa
