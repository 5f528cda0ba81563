/-
  Layer 14 (extent): the law ExtentCopy, walked.
-/
import Derived.Test.YtgbhnnobbciemaaExL
import Derived.Test.YtgbhnnobbciemaaExZ
namespace Go.Proofs.Ytgbhnnobbciemaa
set_option maxRecDepth 100000
open Go.RowKit
set_option linter.unusedVariables false

set_option maxHeartbeats 4000000 in
theorem law_ExtentCopy (I : ExtI) (W : World) (A : Option Addr) (n c : Nat) (l : List ActV) (h : LAct W W.heap.size A n c l) (hn : n ≤ 140737488355328) (a : Int) (ha : I64 a) (A2 : Option Addr) (m c2 : Nat) (xs : List Int) (hx : Holds W W.heap.size A2 m c2 xs) (hc2 : c2 ≤ 140737488355328) :
    Calls Try.prog 8 #[.slice A n c, .int .i64 a, .slice A2 m c2] W fun e w' => e = .returned (.bool true) ∧ Below W.heap.size W w' := by
  have CP := Lib.hid (Played_any I W A n c l h hn)
  unfold PlayPost at CP
  obtain ⟨B, hB⟩ : ∃ B, B = actsB l (min n 60) := ⟨_, rfl⟩
  obtain ⟨Z, hZ⟩ : ∃ Z, Z = actsZ l (min n 60) := ⟨_, rfl⟩
  rw [← hB, ← hZ] at CP
  have HX := Lib.hid hx
  have HA := Lib.hid ha
  clear h hB hZ hx ha
  go_enter Try.func8, Try.ntmps8
  go_wp2_with fail
  refine CP.out.mono ?_
  rintro e w1 ⟨q, g, S, vB, vZ, rfl, t1, l1⟩
  have X1 := Lib.hid t1.x
  have L1 := Lib.hid l1
  have hBs := (I.okB t1.x).2.1
  clear t1 l1 CP
  go_wp2_with fail
  refine (I.copy X1.out).mono ?_
  rintro e w2 ⟨q', T, rfl, c2', l2⟩
  have K2 := Lib.hid c2'
  have X2 := Lib.hid (I.below X1.out l2)
  have L2 := Lib.hid (L1.out.trans (l2.mono L1.out.size))
  have OFF : Hid (∀ j, S j → j < w1.heap.size) := fun j hj => (I.ge X1.out j hj).2
  have hw12 := l2.size
  have hW1 := L1.out.size
  clear c2' l2
  go_wp2_with fail
  refine (I.extents X2.out).mono ?_
  rintro e w3 ⟨Ax, nx, cx, lx, rfl, x3, h3, l3⟩
  have E3 := Lib.hid x3
  have H3 := Lib.hid h3
  have X3 := Lib.hid (I.below X2.out l3)
  have K3 := Lib.hid (I.below K2.out l3)
  have L3 := Lib.hid (L2.out.trans (l3.mono L2.out.size))
  have hw23 := l3.size
  clear x3 h3 l3
  go_wp2_with fail
  refine (I.size X3.out).mono ?_
  rintro e w4 ⟨rfl, j4, rfl⟩
  have E4 := Lib.hid (E3.out.below (drewed w3 j4))
  have X4 := Lib.hid (I.below X3.out (drewed w3 j4))
  have K4 := Lib.hid (I.below K3.out (drewed w3 j4))
  have L4 := Lib.hid (L3.out.trans ((drewed w3 j4).mono L3.out.size))
  obtain ⟨w4, hw4⟩ : ∃ x, x = w3.drewN j4 := ⟨_, rfl⟩
  have h34 : w4.heap.size = w3.heap.size := by rw [hw4]; rfl
  rw [← hw4] at E4 X4 K4 L4 ⊢
  clear hw4 E3 X3 K3 L3
  go_wp2_with fail
  refine (I.extents K4.out).mono ?_
  rintro e w5 ⟨Ay, ny, cy, ly, rfl, y5, h5, l5⟩
  have E5 := Lib.hid (E4.out.below (l5.mono (by omega)))
  have X5 := Lib.hid (I.below X4.out l5)
  have K5 := Lib.hid (I.below K4.out l5)
  have L5 := Lib.hid (L4.out.trans (l5.mono L4.out.size))
  have hw45 := l5.size
  have C5 := Lib.hid (same_exts hBs y5.lst E5.out.lst h5 H3.out)
  clear y5 h5 l5 E4 X4 K4 L4
  go_wp2_with fail
  refine C5.out.mono ?_
  rintro e w6 ⟨rfl, j6, rfl⟩
  have E6 := Lib.hid (E5.out.below ((drewed w5 j6).mono (by omega)))
  have X6 := Lib.hid (I.below X5.out (drewed w5 j6))
  have K6 := Lib.hid (I.below K5.out (drewed w5 j6))
  have L6 := Lib.hid (L5.out.trans ((drewed w5 j6).mono L5.out.size))
  obtain ⟨w6, hw6⟩ : ∃ x, x = w5.drewN j6 := ⟨_, rfl⟩
  have h56 : w6.heap.size = w5.heap.size := by rw [hw6]; rfl
  rw [← hw6] at E6 X6 K6 L6 ⊢
  clear hw6 E5 X5 K5 L5 C5
  go_wp2_with fail
  refine (I.size K6.out).mono ?_
  rintro e w7 ⟨rfl, j7, rfl⟩
  have E7 := Lib.hid (E6.out.below ((drewed w6 j7).mono (by omega)))
  have X7 := Lib.hid (I.below X6.out (drewed w6 j7))
  have K7 := Lib.hid (I.below K6.out (drewed w6 j7))
  have L7 := Lib.hid (L6.out.trans ((drewed w6 j7).mono L6.out.size))
  obtain ⟨w7, hw7⟩ : ∃ x, x = w6.drewN j7 := ⟨_, rfl⟩
  have h67 : w7.heap.size = w6.heap.size := by rw [hw7]; rfl
  rw [← hw7] at E7 X7 K7 L7 ⊢
  clear hw7 E6 X6 K6 L6
  have hx7 := HX.out.below L7.out
  have cw7 := I.write K7.out HA.out (hx7.mono L7.out.size) hc2 (fun h0 x hx hs => by
    obtain ⟨b', off, e, hb, _⟩ := hx7.cells h0
    rw [hx] at e
    cases e
    have := (I.ge K7.out _ hs).1
    simp only at this
    omega) (by omega)
  have CW := Lib.hid cw7
  clear cw7 hx7
  go_wp2_with fail
  refine CW.out.mono ?_
  rintro e w8 ⟨rfl, T', k8, s8, n8⟩
  have hT : ∀ j, T j → w1.heap.size ≤ j ∧ (j < w2.heap.size) := fun j hj => ⟨(I.ge K7.out j hj).1, (I.ge K2.out j hj).2⟩
  have hT' : ∀ j, T' j → (w1.heap.size ≤ j ∧ j < w2.heap.size) ∨ w7.heap.size ≤ j := fun j hj => by
    rcases n8 j hj with h1 | h1
    · exact .inl (hT j h1)
    · exact .inr h1
  have HT := Lib.hid hT'
  have E8 := Lib.hid (E7.out.spar s8 (by omega) fun j hj => by have := hT j hj; omega)
  have X8 := Lib.hid (I.keep X7.out s8 fun j hj h1 => by have := OFF.out j hj; have := hT j h1; omega)
  have K8 := Lib.hid k8
  have L8 := Lib.hid (L7.out.trans (s8.below (fun j hj => by have := hT j hj; omega) (by omega)))
  have hw78 := s8.size
  clear k8 s8 n8 hT hT' CW E7 X7 K7 L7
  go_wp2_with fail
  refine (I.cut K8.out (s := 1) (by unfold I64; omega) (by omega)).mono ?_
  rintro e w9 ⟨rfl, T2, k9, s9, n9⟩
  have E9 := Lib.hid (E8.out.spar s9 (by omega) fun j hj => by have := HT.out j hj; omega)
  have X9 := Lib.hid (I.keep X8.out s9 fun j hj h1 => by have := OFF.out j hj; have := HT.out j h1; omega)
  have L9 := Lib.hid (L8.out.trans (s9.below (fun j hj => by have := HT.out j hj; omega) (by omega)))
  have hw89 := s9.size
  clear k9 s9 n9 HT E8 X8 K8 L8
  go_wp2_with fail
  refine (I.extents X9.out).mono ?_
  rintro e w10 ⟨Az, nz, cz, lz, rfl, z10, h10, l10⟩
  have E10 := Lib.hid (E9.out.below (l10.mono (by omega)))
  have X10 := Lib.hid (I.below X9.out l10)
  have L10 := Lib.hid (L9.out.trans (l10.mono L9.out.size))
  have hw910 := l10.size
  have C10 := Lib.hid (same_exts hBs z10.lst E10.out.lst h10 H3.out)
  clear z10 h10 l10 E9 X9 L9
  go_wp2_with fail
  refine C10.out.mono ?_
  rintro e w11 ⟨rfl, j11, rfl⟩
  have E11 := Lib.hid (E10.out.below ((drewed w10 j11).mono (by omega)))
  have X11 := Lib.hid (I.below X10.out (drewed w10 j11))
  have L11 := Lib.hid (L10.out.trans ((drewed w10 j11).mono L10.out.size))
  obtain ⟨w11, hw11⟩ : ∃ x, x = w10.drewN j11 := ⟨_, rfl⟩
  have h1011 : w11.heap.size = w10.heap.size := by rw [hw11]; rfl
  rw [← hw11] at E11 X11 L11 ⊢
  clear hw11 E10 X10 L10 C10
  go_wp2_with fail
  refine (I.size X11.out).mono ?_
  rintro e w12 ⟨rfl, j12, rfl⟩
  have E12 := Lib.hid (E11.out.below ((drewed w11 j12).mono (by omega)))
  have X12 := Lib.hid (I.below X11.out (drewed w11 j12))
  have L12 := Lib.hid (L11.out.trans ((drewed w11 j12).mono L11.out.size))
  obtain ⟨w12, hw12⟩ : ∃ x, x = w11.drewN j12 := ⟨_, rfl⟩
  have h1112 : w12.heap.size = w11.heap.size := by rw [hw12]; rfl
  rw [← hw12] at E12 X12 L12 ⊢
  clear hw12 E11 X11 L11
  go_wp2_with fail
  refine (I.copy X12.out).mono ?_
  rintro e w13 ⟨q3, U, rfl, u13, l13⟩
  have U13 := Lib.hid u13
  have E13 := Lib.hid (E12.out.below (l13.mono (by omega)))
  have X13 := Lib.hid (I.below X12.out l13)
  have L13 := Lib.hid (L12.out.trans (l13.mono L12.out.size))
  have hw1213 := l13.size
  clear u13 l13 E12 X12 L12
  go_wp2_with fail
  refine (I.cut X13.out (s := 0) (by unfold I64; omega) (by omega)).mono ?_
  rintro e w14 ⟨rfl, S2, x14, s14, n14⟩
  have E14 := Lib.hid (E13.out.spar s14 (by omega) fun j hj => by have := OFF.out j hj; omega)
  have U14 := Lib.hid (I.keep U13.out s14 fun j hj h1 => by have := OFF.out j h1; have := (I.ge U13.out j hj).1; omega)
  have L14 := Lib.hid (L13.out.trans (s14.below (fun j hj => (I.ge X13.out j hj).1) (by omega)))
  have hw1314 := s14.size
  clear x14 s14 n14 E13 X13 U13 L13
  go_wp2_with fail
  refine (I.extents U14.out).mono ?_
  rintro e w15 ⟨Au, nu, cu, lu, rfl, u15, h15, l15⟩
  have C15 := Lib.hid (same_exts hBs u15.lst (E14.out.below (l15.mono (by omega))).lst h15 H3.out)
  have L15 := Lib.hid (L14.out.trans (l15.mono L14.out.size))
  clear u15 h15 l15 E14 U14 L14
  go_wp2_with fail
  refine C15.out.mono ?_
  rintro e w16 ⟨rfl, j16, rfl⟩
  have L16 := Lib.hid (L15.out.trans ((drewed w15 j16).mono L15.out.size))
  go_wp2_with fail
  refine (WorksX_any I (w15.drewN j16)).mono ?_
  rintro e w17 ⟨rfl, l17⟩
  have L17 := Lib.hid (L16.out.trans (l17.mono L16.out.size))
  clear l17
  go_wp2_with fail
  go_ret
  exact ⟨rfl, L17.out⟩
theorem walk_ExtentCopy (W : World) (A0 : Option Addr) (n0 c0 : Nat) (l0 : List ActV) (h0 : LAct W W.heap.size A0 n0 c0 l0) (r0 : n0 ≤ 140737488355328) (a1 : Int) (w1 : -9223372036854775808 ≤ a1 ∧ a1 ≤ 9223372036854775807) (A2 : Option Addr) (n2 c2 : Nat) (z2 : List Int) (l2 : n2 ≤ c2) (r2 : c2 ≤ 140737488351232) (h2 : Holds W W.heap.size A2 c2 c2 z2) :
    Calls Try.prog 8 #[.slice A0 n0 c0, .int .i64 a1, .slice A2 n2 c2] W fun e w' => e = .returned (.bool true) ∧ Below W.heap.size W w' := law_ExtentCopy theExt W A0 n0 c0 l0 h0 r0 a1 w1 A2 n2 c2 (z2.take n2) (h2.fore l2) (by omega)
end Go.Proofs.Ytgbhnnobbciemaa
