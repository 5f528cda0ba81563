/-
  Layer 14 (extent): the law ExtentFresh, walked.
-/
import Derived.Test.YtgbhnnobbciemaaExL
import Derived.Test.YtgbhnnobbciemaaCopyB
import Derived.Test.YtgbhnnobbciemaaExZ
namespace Go.Proofs.Ytgbhnnobbciemaa
set_option maxRecDepth 100000
open Go.RowKit
set_option linter.unusedVariables false

theorem row_no {w : World} {g o : Nat} {zs : List Int} {z : Int} (hr : Row w g zs) (hc : w.cell? ⟨g, o, none⟩ = some (.int .i64 z)) : False := by
  by_cases ho : o < zs.length
  · rw [hr.cell ho] at hc
    injection hc with hc
    injection hc with hc
    cases hc
  · rw [cell_of_row w g o _ 5 (0, 0) hr] at hc
    simp at hc
theorem HoldsS.spar {α : Type} {f : α → List Value} {s : Nat} {w w' : World} {B n c : Nat} {A : Option Addr} {l : List α} {S : Nat → Prop} (h : HoldsS f s w B A n c l) (a : Spare S w w') (hs : 0 < n → ∀ b off, A = some ⟨b, off, none⟩ → ¬ S b) : HoldsS f s w' B A n c l := by
  obtain ⟨h1, h2, h3, h4⟩ := h
  refine ⟨h1, h2, h3, fun h0 => ?_⟩
  obtain ⟨g, o, e, hg, hc⟩ := h4 h0
  exact ⟨g, o, e, hg, fun i x hi j u hj => a.cellAt (hs h0 _ _ e) (hc i x hi j u hj)⟩

set_option maxHeartbeats 4000000 in
theorem law_ExtentFresh (I : ExtI) (W : World) (A : Option Addr) (n c : Nat) (l : List ActV) (h : LAct W W.heap.size A n c l) (hn : n ≤ 140737488355328) (A2 : Option Addr) (m c2 : Nat) (xs : List Int) (hx : Holds W W.heap.size A2 m c2 xs) (hm : m ≤ 140737488355320) :
    Calls Try.prog 9 #[.slice A n c, .slice A2 m c2] W fun e w' => e = .returned (.bool true) ∧ Below W.heap.size W w' := by
  have CP := Lib.hid (Played_any I W A n c l h hn)
  unfold PlayPost at CP
  obtain ⟨B, hB⟩ : ∃ B, B = actsB l (min n 60) := ⟨_, rfl⟩
  obtain ⟨Z, hZ⟩ : ∃ Z, Z = actsZ l (min n 60) := ⟨_, rfl⟩
  rw [← hB, ← hZ] at CP
  have HX := Lib.hid hx
  have HXL := Lib.hid hx.len
  have hxb := Lib.hid hx.byte
  clear h hB hZ hx
  go_enter Try.func9, Try.ntmps9
  go_wp2_with fail
  refine CP.out.mono ?_
  rintro e w1 ⟨q, g0, S, vB, vZ, rfl, t1, l1⟩
  have X1 := Lib.hid t1.x
  have L1 := Lib.hid l1
  have hb1 := t1.hb
  clear t1 l1 CP
  go_wp2_with fail
  refine (I.cut X1.out (s := 0) (by unfold I64; omega) hb1).mono ?_
  rintro e w2 ⟨rfl, S2, x2, s2, n2⟩
  have X2 := Lib.hid x2
  have L2 := Lib.hid (L1.out.trans (s2.below (fun j hj => (I.ge X1.out j hj).1) hb1))
  have hs2 := s2.size
  clear x2 s2 n2 X1 L1
  obtain ⟨B2, hB2⟩ : ∃ B2, B2 = exCut 0 B 0 := ⟨_, rfl⟩
  obtain ⟨Z2, hZ2⟩ : ∃ Z2, Z2 = exCut false Z 0 := ⟨_, rfl⟩
  rw [← hB2, ← hZ2] at X2
  clear hB2 hZ2
  have cwd := Wide_any w2 A2 m c2 xs (HX.out.below L2.out |>.mono L2.out.size) (by omega)
  unfold WidePost at cwd
  rw [HXL.out] at cwd
  have CWD := Lib.hid cwd
  clear cwd
  go_wp2_with fail
  refine CWD.out.mono ?_
  rintro e w3 ⟨rfl, r3, l3⟩
  have R3 := Lib.hid r3
  have hg3 := r3.lt
  have X3 := Lib.hid (I.below X2.out l3)
  have L3 := Lib.hid (L2.out.trans (l3.mono L2.out.size))
  have G3 : Hid (∀ j, S2 j → j < w2.heap.size) := fun j hj => (I.ge X2.out j hj).2
  have hs3 := l3.size
  have hW2 := L2.out.size
  obtain ⟨g, hg⟩ : ∃ g, g = w2.heap.size := ⟨_, rfl⟩
  rw [← hg] at R3 G3 hg3 hs3 hW2 ⊢
  have HG := Lib.hid hg
  clear r3 l3 CWD X2 L2 hg
  have wide : Hid (∀ w, Row w g (xs ++ [7, 7, 7]) → Holds w w.heap.size (some ⟨g, 0, none⟩) m (m + 3) xs) := fun w hr =>
    ⟨HXL.out, by omega, by omega, hxb.out, fun hA => (by cases hA), fun h0 => ⟨g, 0, rfl, hr.lt, fun i hi => by
      rw [Nat.zero_add, hr.cell (by have := HXL.out; simp; omega)]
      simp [List.getD_eq_getElem?_getD, List.getElem?_append, HXL.out, hi]⟩⟩
  have cw3 := I.write X3.out (a := 0) (by unfold I64; omega) (wide.out w3 R3.out) (by omega) (fun _ x hx hS => by cases hx; exact absurd (G3.out g hS) (Nat.lt_irrefl g)) L3.out.size
  rw [HXL.out] at cw3
  have CW3 := Lib.hid cw3
  clear cw3
  obtain ⟨B3, hB3⟩ : ∃ B3, B3 = exWr 0 B2 0 xs := ⟨_, rfl⟩
  obtain ⟨Z3, hZ3⟩ : ∃ Z3, Z3 = exWr false Z2 0 (List.replicate m true) := ⟨_, rfl⟩
  rw [← hB3, ← hZ3] at CW3
  clear hB3 hZ3
  go_wp2_with fail
  refine CW3.out.mono ?_
  rintro e w4 ⟨rfl, S4, x4, s4, n4⟩
  have R4 := Lib.hid (R3.out.spare s4 fun hS => absurd (G3.out g hS) (Nat.lt_irrefl g))
  have X4 := Lib.hid x4
  have L4 := Lib.hid (L3.out.trans (s4.below (fun j hj => (I.ge X3.out j hj).1) L3.out.size))
  have G4 : Hid (∀ j, S4 j → j ≠ g) := fun j hj e => by
    subst e
    rcases n4 j hj with h1 | h1
    · exact absurd (G3.out j h1) (Nat.lt_irrefl j)
    · omega
  have hs4 := s4.size
  clear x4 s4 n4 CW3 X3 R3 L3
  have cw4 := I.write X4.out (a := 1) (by unfold I64; omega) (wide.out w4 R4.out) (by omega) (fun _ x hx hS => by cases hx; exact absurd rfl (G4.out g hS)) L4.out.size
  rw [HXL.out] at cw4
  have CW4 := Lib.hid cw4
  clear cw4
  obtain ⟨B4, hB4⟩ : ∃ B4, B4 = exWr 0 B3 1 xs := ⟨_, rfl⟩
  obtain ⟨Z4, hZ4⟩ : ∃ Z4, Z4 = exWr false Z3 1 (List.replicate m true) := ⟨_, rfl⟩
  rw [← hB4, ← hZ4] at CW4
  clear hB4 hZ4
  go_wp2_with fail
  refine CW4.out.mono ?_
  rintro e w5 ⟨rfl, T, x5, s5, n5⟩
  have R5 := Lib.hid (R4.out.spare s5 fun hS => absurd rfl (G4.out g hS))
  have X5 := Lib.hid x5
  have L5 := Lib.hid (L4.out.trans (s5.below (fun j hj => (I.ge X4.out j hj).1) L4.out.size))
  have G5 : Hid (∀ j, T j → j ≠ g) := fun j hj e => by
    rcases n5 j hj with h1 | h1
    · exact G4.out j h1 e
    · omega
  have hs5 := s5.size
  have hBs := (I.okB x5).2.1
  have hBb := Lib.hid (I.okB x5).2.2
  clear x5 s5 n5 CW4 X4 R4 L4 G3 G4 wide
  go_wp2_with fail
  refine (I.all X5.out).mono ?_
  rintro e w6 ⟨Aw, cw, rfl, y6, f6, _, l6⟩
  have Y6 := Lib.hid y6
  have F6 := Lib.hid f6
  have R6 := Lib.hid (R5.out.below l6 (by omega))
  have X6 := Lib.hid (I.below X5.out l6)
  have T6 : Hid (∀ j, T j → j < w5.heap.size) := fun j hj => (I.ge X5.out j hj).2
  have L6 := Lib.hid (L5.out.trans (l6.mono L5.out.size))
  have hs6 := l6.size
  clear y6 f6 l6 X5 R5 L5
  obtain ⟨N, hN⟩ : ∃ N, N = B4.length := ⟨_, rfl⟩
  have HNL := Lib.hid hN
  rw [← hN] at Y6 ⊢
  rw [← hN] at hBs
  have hmx : m + 3 ≤ maxLen := by rw [maxLen_eq]; omega
  have V6 : Hid (Loose w6 g (g + 1) (.slice (some ⟨g, 0, none⟩) m (m + 3))) := .inr ⟨g, m, m + 3, _, rfl, by omega, hmx, by have := HXL.out; simp; omega, Nat.le_refl _, Nat.lt_succ_self _, R6.out⟩
  have C6 := Lib.hid (SpoilX_any w6 _ _ _ V6.out)
  clear hN hmx
  go_wp2_with fail
  refine C6.out.mono ?_
  rintro e w7 ⟨rfl, s7, _⟩
  have own7 : ∀ j, (Value.slice (some ⟨g, 0, none⟩) m (m + 3)).ownBlock = some j → j = g := fun j hj => by cases hj; rfl
  have X7 := Lib.hid (I.keep X6.out s7 fun j hj h1 => G5.out j hj (own7 j h1))
  have Y7 := Lib.hid (Y6.out.spar s7 (Nat.le_refl _) fun x hx h1 => by have := (F6.out x hx).1; have := own7 _ h1; omega)
  have L7 := Lib.hid (L6.out.trans (s7.below (fun j hj => by have := own7 j hj; omega) L6.out.size))
  have hs7 := s7.size
  have hWs : W.heap.size ≤ w6.heap.size := L6.out.size
  clear s7 own7 C6 V6 R6 X6 Y6 L6
  go_wp2_with fail
  refine (I.extents X7.out).mono ?_
  rintro e w8 ⟨Ax, nx, cx, lx, rfl, x8, h8, l8⟩
  have E8 := Lib.hid x8.lst.row
  have P8 := Lib.hid x8.loose
  have X8 := Lib.hid (I.below X7.out l8)
  have Y8 := Lib.hid (Y7.out.below (l8.mono hs7))
  have L8 := Lib.hid (L7.out.trans (l8.mono L7.out.size))
  have hs8 := l8.size
  have hnx : nx ≤ 70368744177664 := by have := (exts_small (by rw [← HNL.out]; exact hBs) h8).1; have := x8.lst.len; omega
  clear x8 h8 l8 X7 Y7 L7
  go_wp2_with fail
  have F6' : Hid (∀ x, Aw = some x → x.block < w7.heap.size) := fun x hx => by have := (F6.out x hx).2; omega
  have T8 : Hid (∀ j, T j → j < w7.heap.size) := fun j hj => by have := T6.out j hj; omega
  go_loopw [12] (fun I' wr => ∃ i : Nat, i ≤ nx ∧ I' = .int .i64 (i : Nat) ∧ Hid (I.is wr W.heap.size q B4 Z4 T) ∧ Hid (Holds wr w6.heap.size Aw N cw B4) ∧ Hid (HoldsS extCells 2 wr w8.heap.size Ax nx cx lx) ∧ Hid (∀ x ∈ lx, Loose wr w7.heap.size w8.heap.size (partV x.2)) ∧ Hid (Below W.heap.size W wr) ∧ Hid (w8.heap.size ≤ wr.heap.size)) (fun I' _ => nx - (intOf I').toNat)
  case atStart => exact ⟨0, Nat.zero_le _, rfl, X8, Y8, E8, P8, L8, Nat.le_refl _⟩
  case round =>
    obtain ⟨i, hi, rfl, XR, YR, ER, PR, LR, SR⟩ := hrel
    by_cases hlt : i < nx
    · obtain ⟨bx, ox, hA, hbx, hcx⟩ := ER.out.cells (by omega)
      have hlx := ER.out.len
      have hxi : lx[i]? = some lx[i] := List.getElem?_eq_getElem (by omega)
      obtain ⟨x, hxx⟩ : ∃ x, x = lx[i] := ⟨_, rfl⟩
      rw [← hxx] at hxi
      have k0 := hcx i x hxi 0 _ rfl
      have k1 := hcx i x hxi 1 _ rfl
      rw [Nat.add_zero] at k0
      rw [← Nat.add_assoc] at k1
      have hlo := PR.out x (List.mem_of_getElem? hxi)
      have HLO := Lib.hid hlo
      have C := Lib.hid (SpoilX_any wr _ _ _ hlo)
      have HK0 := Lib.hid k0
      have HAX := Lib.hid hA
      subst hA
      obtain ⟨xp, pA, pn, pc, px⟩ := x
      clear hcx hlx hxi hxx k0 hlo
      go_wp2_with fail
      refine C.out.mono ?_
      rintro e w9 ⟨rfl, s9, p9⟩
      have own9 : ∀ j, (partV (pA, pn, pc, px)).ownBlock = some j → w7.heap.size ≤ j ∧ j < w8.heap.size ∧ j ≠ bx := fun j hj => by
        obtain ⟨h1, h2, zs, h3⟩ := HLO.out.own hj
        refine ⟨h1, h2, fun e => ?_⟩
        subst e
        exact row_no h3 HK0.out
      have X9 := Lib.hid (I.keep XR.out s9 fun j hj h1 => by have := T8.out j hj; have := own9 j h1; omega)
      have Y9 := Lib.hid (YR.out.spar s9 (by have := SR.out; omega) fun x hx h1 => by have := F6'.out x hx; have := own9 _ h1; omega)
      have E9 := Lib.hid (ER.out.spar s9 fun _ b off e h1 => by cases e; exact (own9 _ h1).2.2 rfl)
      have P9 : Hid (∀ x ∈ lx, Loose w9 w7.heap.size w8.heap.size (partV x.2)) := fun x hx => p9 _ _ _ (PR.out x hx)
      have L9 := Lib.hid (LR.out.trans (s9.below (fun j hj => by have := own9 j hj; omega) LR.out.size))
      have S9 : Hid (w8.heap.size ≤ w9.heap.size) := Nat.le_trans SR.out s9.size
      clear s9 p9 own9 C HK0 HLO k1
      go_wp2_with fail
      go_roundw
      case rel => exact ⟨i + 1, by omega, by go_num, X9, Y9, E9, P9, L9, S9⟩
      case measure => simp [intOf]; omega
    · obtain rfl : i = nx := by omega
      go_wp2_with fail
      have YW := Lib.hid (YR.out.mono (by have := SR.out; omega : w6.heap.size ≤ wr.heap.size))
      clear ER PR YR F6
      refine (I.all XR.out).mono ?_
      rintro e w10 ⟨Ag, cg, rfl, y10, f10, o10, l10⟩
      have hgl := o10
      have Y10 := Lib.hid y10
      have O10 := Lib.hid o10
      have YW10 := Lib.hid (YW.out.below l10)
      have X10 := Lib.hid (I.below XR.out l10)
      have TR : Hid (∀ j, T j → j < wr.heap.size) := fun j hj => by have := T8.out j hj; have := SR.out; omega
      have L10 := Lib.hid (LR.out.trans (l10.mono LR.out.size))
      have hs10 := l10.size
      clear y10 f10 o10 l10 XR YW LR hgl
      rw [← HNL.out] at Y10 O10 ⊢
      go_wp2_with fail
      refine (Copy_any w10 _ _ _ _ Y10.out (by omega)).mono ?_
      rintro e w11 ⟨v, rfl, o11, l11⟩
      obtain ⟨Ak, ck, rfl, y11⟩ := o11.holds hBb.out (by rw [← HNL.out]; omega)
      have hkb : ∀ x, Ak = some x → w10.heap.size ≤ x.block := fun x hx => by
        subst hx
        exact (OwnK.block (k := .u8) o11 (by obtain ⟨b, o, s⟩ := x; rfl)).1
      have KB := Lib.hid hkb
      have Y11 := Lib.hid y11
      have YW11 := Lib.hid (YW10.out.below (l11.mono hs10))
      have O11 := Lib.hid (O10.out.below l11)
      have X11 := Lib.hid (I.below X10.out l11)
      have L11 := Lib.hid (L10.out.trans (l11.mono L10.out.size))
      have hs11 := l11.size
      have C11 := Lib.hid (SpoilX_any w11 _ _ _ O11.out)
      clear o11 l11 y11 hkb X10 L10 YW10 O10 Y10
      rw [← HNL.out] at Y11 ⊢
      go_wp2_with fail
      refine C11.out.mono ?_
      rintro e w12 ⟨rfl, s12, _⟩
      have own12 : ∀ j, (Value.slice Ag N cg).ownBlock = some j → wr.heap.size ≤ j ∧ j < w10.heap.size := fun j hj => by
        obtain ⟨h1, h2, _⟩ := O11.out.own hj
        exact ⟨h1, h2⟩
      have X12 := Lib.hid (I.keep X11.out s12 fun j hj h1 => by have := TR.out j hj; have := own12 j h1; omega)
      have YW12 := Lib.hid (YW11.out.spar s12 (by omega) fun x hx h1 => by have := F6'.out x hx; have := own12 _ h1; have := SR.out; omega)
      have Y12 := Lib.hid (Y11.out.spar s12 (Nat.le_refl _) fun x hx h1 => by have := KB.out x hx; have := own12 _ h1; omega)
      have L12 := Lib.hid (L11.out.trans (s12.below (fun j hj => by have := own12 j hj; have := SR.out; omega) L11.out.size))
      have hs12 := s12.size
      clear s12 own12 C11 X11 YW11 Y11 L11 O11
      go_wp2_with fail
      refine (I.all X12.out).mono ?_
      rintro e w13 ⟨Aa, ca, rfl, y13, _, _, l13⟩
      have Y13 := Lib.hid y13
      have YW13 := Lib.hid ((YW12.out.mono (by omega : wr.heap.size ≤ w12.heap.size)).over l13)
      have YK13 := Lib.hid ((Y12.out.mono hs12).over l13)
      have L13 := Lib.hid (L12.out.trans (l13.mono L12.out.size))
      clear y13 l13 X12 YW12 Y12 L12
      rw [← HNL.out] at Y13 ⊢
      have C13 : Hid (Calls Try.prog 15 #[.slice Ak N ck, .slice Aw N cw] w13 fun e w' => e = .returned (.bool true) ∧ ∃ k, w13.drewN k = w') := by
        have := Same_any w13 _ _ _ _ _ _ _ _ _ _ YK13.out YW13.out
        rw [decide_eq_true rfl] at this
        exact this
      go_wp2_with fail
      refine C13.out.mono ?_
      rintro e w14 ⟨rfl, j14, rfl⟩
      have C14 : Hid (Calls Try.prog 15 #[.slice Aa N ca, .slice Aw N cw] (w13.drewN j14) fun e w' => e = .returned (.bool true) ∧ ∃ k, (w13.drewN j14).drewN k = w') := by
        have := Same_any (w13.drewN j14) _ _ _ _ _ _ _ _ _ _ (Y13.out.drewN j14) (YW13.out.drewN j14)
        rw [decide_eq_true rfl] at this
        exact this
      go_wp2_with fail
      refine C14.out.mono ?_
      rintro e w15 ⟨rfl, j15, rfl⟩
      have L15 := Lib.hid (L13.out.trans ((drewed w13 (j14 + j15)).mono L13.out.size))
      go_wp2_with fail
      refine (WorksX_any I _).mono ?_
      rintro e w16 ⟨rfl, l16⟩
      have L16 := Lib.hid (L15.out.trans (l16.mono L15.out.size))
      clear l16
      go_wp2_with fail
      go_ret
      exact ⟨rfl, L16.out⟩
theorem walk_ExtentFresh (W : World) (A0 : Option Addr) (n0 c0 : Nat) (l0 : List ActV) (h0 : LAct W W.heap.size A0 n0 c0 l0) (r0 : n0 ≤ 140737488355328) (A1 : Option Addr) (n1 c1 : Nat) (z1 : List Int) (l1 : n1 ≤ c1) (r1 : c1 ≤ 140737488351232) (h1 : Holds W W.heap.size A1 c1 c1 z1) :
    Calls Try.prog 9 #[.slice A0 n0 c0, .slice A1 n1 c1] W fun e w' => e = .returned (.bool true) ∧ Below W.heap.size W w' := law_ExtentFresh theExt W A0 n0 c0 l0 h0 r0 A1 n1 c1 (z1.take n1) (h1.fore l1) (by omega)
end Go.Proofs.Ytgbhnnobbciemaa
