/-
  Layer 14 (extent): the law ExtentApart, walked (written by tools/gen_ex7.py).
-/
import Derived.Test.YtgbhnnobbciemaaExL
import Derived.BigQuiet
import Derived.Test.YtgbhnnobbciemaaExZ
namespace Go.Proofs.Ytgbhnnobbciemaa
set_option maxRecDepth 100000
open Go.RowKit
set_option linter.unusedVariables false

/-- where the piece ahead of the i-th ends -/
def endN (L : List (Nat × List Int)) : Nat → Int
  | 0 => -1
  | i + 1 => (((L.getD i (0, [])).1 : Nat) : Int) + (((L.getD i (0, [])).2.length : Nat) : Int)
theorem endN_succ {L : List (Nat × List Int)} {i : Nat} {a : Nat} {bs : List Int} (h : L[i]? = some (a, bs)) : endN L (i + 1) = (a : Int) + (bs.length : Int) := by
  show (((L.getD i (0, [])).1 : Nat) : Int) + (((L.getD i (0, [])).2.length : Nat) : Int) = _
  rw [List.getD_eq_getElem?_getD, h]
  rfl
theorem endN_lt {B : List Int} {Z : List Bool} {i a : Nat} {bs : List Int} (h : (exts B Z)[i]? = some (a, bs)) : endN (exts B Z) i < (a : Int) := by
  cases i with
  | zero => show (-1 : Int) < _; omega
  | succ i =>
    obtain ⟨h1, h2⟩ := List.getElem?_eq_some_iff.1 h
    have h3 : (exts B Z)[i]? = some (exts B Z)[i] := List.getElem?_eq_getElem (by omega)
    have h4 := List.pairwise_iff_getElem.1 (exts_ok B Z).rise i (i + 1) (by omega) h1 (by omega)
    rw [h2] at h4
    rw [endN_succ (a := (exts B Z)[i].1) (bs := (exts B Z)[i].2) h3]
    simp only at h4
    omega
theorem endN_le {B : List Int} {Z : List Bool} {i : Nat} (h : i = (exts B Z).length) : endN (exts B Z) i ≤ (B.length : Int) := by
  cases i with
  | zero => show (-1 : Int) ≤ _; omega
  | succ i =>
    have h3 : (exts B Z)[i]? = some (exts B Z)[i] := List.getElem?_eq_getElem (by omega)
    rw [endN_succ (a := (exts B Z)[i].1) (bs := (exts B Z)[i].2) h3]
    have := (exts_ok B Z).ends _ (List.mem_of_getElem? h3)
    omega
theorem ext_read {B : List Int} {Z : List Bool} {a : Nat} {bs : List Int} (h : (a, bs) ∈ exts B Z) : 0 < bs.length ∧ exRdE B.length (a : Int) (bs.length : Int) = 0 ∧ exRd B (a : Int) (bs.length : Int) = bs := by
  have h1 := (exts_ok B Z).some _ h
  have h2 := (exts_ok B Z).ends _ h
  have h3 := (exts_ok B Z).have_ _ h
  have h0 : 0 < bs.length := List.length_pos_iff.2 h1
  simp only at h2 h3
  have he : exRdE B.length (a : Int) (bs.length : Int) = 0 := by
    unfold exRdE
    rw [if_neg (by omega), if_neg (by omega), if_neg (by omega)]
  refine ⟨h0, he, ?_⟩
  unfold exRd
  rw [if_pos he, Int.toNat_natCast, Int.toNat_natCast]
  exact h3.symm

set_option maxHeartbeats 4000000 in
theorem law_ExtentApart (I : ExtI) (W : World) (A : Option Addr) (n c : Nat) (l : List ActV) (h : LAct W W.heap.size A n c l) (hn : n ≤ 140737488355328) :
    Calls Try.prog 6 #[.slice A n c] W fun e w' => e = .returned (.bool true) ∧ Below W.heap.size W w' := by
  have CP := Lib.hid (Played_any I W A n c l h hn)
  unfold PlayPost at CP
  obtain ⟨B, hB⟩ : ∃ B, B = actsB l (min n 60) := ⟨_, rfl⟩
  obtain ⟨Z, hZ⟩ : ∃ Z, Z = actsZ l (min n 60) := ⟨_, rfl⟩
  rw [← hB, ← hZ] at CP
  clear h hB hZ
  go_enter Try.func6, Try.ntmps6
  go_wp2_with fail
  refine CP.out.mono ?_
  rintro e w1 ⟨q, g, S, vB, vZ, rfl, t1, l1⟩
  have X1 := Lib.hid t1.x
  have L1 := Lib.hid l1
  have hBs := (I.okB t1.x).2.1
  have HBB := Lib.hid (I.okB t1.x).2.2
  clear t1 l1 CP
  go_wp2_with fail
  refine (I.extents X1.out).mono ?_
  rintro e w2 ⟨Ax, nx, cx, lx, rfl, x2, h2, l2⟩
  have E2 := Lib.hid x2.lst
  have H2 := Lib.hid h2
  have X2 := Lib.hid (I.below X1.out l2)
  have L2 := Lib.hid (L1.out.trans (l2.mono L1.out.size))
  obtain ⟨hnx', hsm⟩ := exts_small hBs h2
  have hnx : nx ≤ 70368744177664 := by have := x2.lst.len; omega
  have HSM := Lib.hid hsm
  have HLX : Hid (nx = (exts B Z).length) := by have := x2.lst.len; show _ = _; rw [← h2, extsL_len]; exact this.symm
  clear x2 h2 l2 X1 L1 hnx' hsm
  go_wp2_with fail
  go_loopw [7, 8, 9, 10] (fun s7 I' _ _ wr => ∃ i : Nat, i ≤ nx ∧ I' = .int .i64 (i : Nat) ∧ s7 = .int .i64 (endN (exts B Z) i) ∧ Hid (I.is wr W.heap.size q B Z S) ∧ Hid (LExt wr w2.heap.size Ax nx cx lx) ∧ Hid (Below W.heap.size W wr) ∧ Hid (w2.heap.size ≤ wr.heap.size)) (fun _ I' _ _ _ => nx - (intOf I').toNat)
  case atStart => exact ⟨0, Nat.zero_le _, rfl, rfl, X2, E2, L2, Nat.le_refl _⟩
  case round =>
    obtain ⟨i, hi, rfl, rfl, XR, ER, LR, SR⟩ := hrel
    by_cases hlt : i < nx
    · obtain ⟨bx, ox, x, rfl, hbx, hx, k0, k1, hy⟩ := ER.out.at hlt
      have hxs := HSM.out x (List.mem_of_getElem? hx)
      have hex : (exts B Z)[i]? = some (x.1, x.2.2.2.2) := by rw [← H2.out]; exact extsL_take hx
      obtain ⟨xp, pA, pn, pc, px⟩ := x
      have hpl : px.length = pn := hy.len
      obtain ⟨r1, r2, r3⟩ := ext_read (List.mem_of_getElem? hex)
      have hen := endN_lt hex
      have hes := endN_succ hex
      simp only at hen hes r1 r2 r3 k0 k1 hy hxs
      rw [hpl] at r1 r2 r3 hes
      have hpn : pn ≤ 281474976710656 := hy.room
      have cr := I.read (w := wr.drew) (I.below XR.out (drewed wr 1)) (a := (xp : Int)) (k := (pn : Int)) (by unfold I64; omega) (by unfold I64; omega)
      rw [r2, r3] at cr
      have CR := Lib.hid cr
      have HY := Lib.hid hy
      have HPL := Lib.hid hpl
      have HES := Lib.hid hes
      have hbx' : bx < wr.drew.heap.size := Nat.lt_of_lt_of_le hbx SR.out
      obtain ⟨en, hen'⟩ : ∃ en, en = endN (exts B Z) i := ⟨_, rfl⟩
      rw [← hen'] at hen ⊢
      clear hx hex r2 r3 cr hy hpl hes hen'
      go_upto_region 7 with fail
      refine wp_region_held (S := fun w' => w'.cell? ⟨bx, ox + i * 2, none⟩ = some (.int .i64 (xp : Nat)) ∧ w'.cell? ⟨bx, ox + i * 2 + 1, none⟩ = some (.slice pA pn pc)) (by kernel_rfl) ?_
      change wpAnyH _ _ _ _ _ _ _ _ wr.drew
      have Sr0 : Hid (wr.drew.cell? ⟨bx, ox + i * 2, none⟩ = some (.int .i64 (xp : Nat)) ∧ wr.drew.cell? ⟨bx, ox + i * 2 + 1, none⟩ = some (.slice pA pn pc)) := ⟨k0, k1⟩
      have br0 : Hid (True) := trivial
      refine wpAnyH_take (i := 0) (v := _) rfl (by kernel_rfl) (by kernel_rfl) (by kernel_rfl) (fun _ _ _ h => h) (yieldsIf_move (by kernel_rfl) (.tmp 3) rfl (ptr q) (by kernel_rfl)) Sr0.out ?_
      refine wpAnyH_take (i := 1) (v := _) rfl (by kernel_rfl) (by kernel_rfl) (by kernel_rfl) (fun _ _ _ h => h) (yieldsIf_move (by kernel_rfl) (.tmp 6) rfl (.slice (some ⟨bx, ox, none⟩) nx cx) (by kernel_rfl)) Sr0.out ?_
      refine wpAnyH_take (i := 2) (v := _) rfl (by kernel_rfl) (by kernel_rfl) (by kernel_rfl) (fun _ _ _ h => h) (yieldsIf_move (by kernel_rfl) (.tmp 8) rfl (.int .i64 (i : Nat)) (by kernel_rfl)) Sr0.out ?_
      refine wpAnyH_take (i := 3) (v := .pointer (some ⟨bx, ox + i * 2, none⟩)) rfl (by kernel_rfl) (by kernel_rfl) (by kernel_rfl) (fun _ _ _ h => h) (.inl ⟨by kernel_rfl, fun w _ => by go_simp⟩) Sr0.out ?_
      refine wpAnyH_take (i := 4) (v := _) rfl (by kernel_rfl) (by kernel_rfl) (by kernel_rfl) (fun _ _ _ h => h) (yieldsIf_fld (by kernel_rfl) _ (.tmp 29) 0 rfl (.pointer (some ⟨bx, ox + i * 2, none⟩)) (.pointer (some ⟨bx, ox + i * 2, none⟩)) (by kernel_rfl) (fun w => by go_simp)) Sr0.out ?_
      refine wpAnyH_take (i := 5) (v := _) rfl (by kernel_rfl) (by kernel_rfl) (by kernel_rfl) (fun _ _ _ h => h) (yieldsIf_load_one (by kernel_rfl) _ (.tmp 30) rfl bx (ox + i * 2) (by kernel_rfl) (.int .i64 (xp : Nat)) (fun _ h => h.1) _ Try.underlying3 rfl) Sr0.out ?_
      refine wpAnyH_take (i := 6) (v := _) rfl (by kernel_rfl) (by kernel_rfl) (by kernel_rfl) (fun _ _ _ h => h) (yieldsIf_move (by kernel_rfl) (.tmp 6) rfl (.slice (some ⟨bx, ox, none⟩) nx cx) (by kernel_rfl)) Sr0.out ?_
      refine wpAnyH_take (i := 7) (v := _) rfl (by kernel_rfl) (by kernel_rfl) (by kernel_rfl) (fun _ _ _ h => h) (yieldsIf_move (by kernel_rfl) (.tmp 8) rfl (.int .i64 (i : Nat)) (by kernel_rfl)) Sr0.out ?_
      refine wpAnyH_take (i := 8) (v := .pointer (some ⟨bx, ox + i * 2, none⟩)) rfl (by kernel_rfl) (by kernel_rfl) (by kernel_rfl) (fun _ _ _ h => h) (.inl ⟨by kernel_rfl, fun w _ => by go_simp⟩) Sr0.out ?_
      refine wpAnyH_take (i := 9) (v := _) rfl (by kernel_rfl) (by kernel_rfl) (by kernel_rfl) (fun _ _ _ h => h) (yieldsIf_fld (by kernel_rfl) _ (.tmp 34) 1 rfl (.pointer (some ⟨bx, ox + i * 2, none⟩)) (.pointer (some ⟨bx, ox + i * 2 + 1, none⟩)) (by kernel_rfl) (fun w => by go_simp)) Sr0.out ?_
      refine wpAnyH_take (i := 10) (v := _) rfl (by kernel_rfl) (by kernel_rfl) (by kernel_rfl) (fun _ _ _ h => h) (yieldsIf_load_one (by kernel_rfl) _ (.tmp 35) rfl bx (ox + i * 2 + 1) (by kernel_rfl) (.slice pA pn pc) (fun _ h => h.2) _ Try.underlying29 rfl) Sr0.out ?_
      refine wpAnyH_take (i := 11) (v := .int .i64 (pn : Nat)) rfl (by kernel_rfl) (by kernel_rfl) (by kernel_rfl) (fun _ _ _ h => h) (.inl ⟨by kernel_rfl, fun w _ => by go_simp⟩) Sr0.out ?_
      refine wpAnyH_one 12 _ (by kernel_rfl) rfl fun K hK => ?_
      go_simp
      refine (CR.out).mono ?_
      rintro e vr1 ⟨v, rfl, o1, _, l1⟩
      have Sr1 : Hid (vr1.cell? ⟨bx, ox + i * 2, none⟩ = some (.int .i64 (xp : Nat)) ∧ vr1.cell? ⟨bx, ox + i * 2 + 1, none⟩ = some (.slice pA pn pc)) := ⟨(l1.cell hbx').trans Sr0.out.1, (l1.cell hbx').trans Sr0.out.2⟩
      have br1 : Hid (True) := trivial
      refine hK _ _ Sr1.out ?_
      clear hK K 
      refine wpAnyH_take (i := 13) (v := _) rfl (by kernel_rfl) (by kernel_rfl) (by kernel_rfl) (fun _ _ _ h => h) (yieldsIf_move (by kernel_rfl) (.tmp 38) rfl (.tuple #[v, .int .i64 0]) (by kernel_rfl)) Sr1.out ?_
      refine wpAnyH_take (i := 14) (v := v) rfl (by kernel_rfl) (by kernel_rfl) (by kernel_rfl) (fun _ _ _ h => h) (.inl ⟨by kernel_rfl, fun w _ => by go_simp⟩) Sr1.out ?_
      refine wpAnyH_take (i := 15) (v := .int .i64 0) rfl (by kernel_rfl) (by kernel_rfl) (by kernel_rfl) (fun _ _ _ h => h) (.inl ⟨by kernel_rfl, fun w _ => by go_simp⟩) Sr1.out ?_
      refine wpAnyH_take (i := 16) (v := _) rfl (by kernel_rfl) (by kernel_rfl) (by kernel_rfl) (fun _ _ _ h => h) (yieldsIf_asg (by kernel_rfl) (.tmp 39) rfl (v) (by kernel_rfl)) Sr1.out ?_
      refine wpAnyH_take (i := 17) (v := _) rfl (by kernel_rfl) (by kernel_rfl) (by kernel_rfl) (fun _ _ _ h => h) (yieldsIf_asg (by kernel_rfl) (.tmp 40) rfl (.int .i64 0) (by kernel_rfl)) Sr1.out ?_
      refine wpAnyH_done (by kernel_rfl) ?_ _
      obtain ⟨Av, cv, rfl, y1⟩ := o1.holds (HY.out.byte) (by rw [HPL.out]; exact hpn)
      rw [HPL.out] at y1 ⊢
      have hs1 := l1.size
      have YV := Lib.hid y1
      have HY1 := Lib.hid ((HY.out.drewN 1).below (l1.mono SR.out))
      have k0' : vr1.cell? ⟨bx, ox + i * 2, none⟩ = some (.int .i64 (xp : Nat)) := (l1.cell (p := ⟨bx, ox + i * 2, none⟩) hbx').trans k0
      have k1' : vr1.cell? ⟨bx, ox + i * 2 + 1, none⟩ = some (.slice pA pn pc) := (l1.cell (p := ⟨bx, ox + i * 2 + 1, none⟩) hbx').trans k1
      have CS : Hid (Calls Try.prog 15 #[.slice Av pn cv, .slice pA pn pc] vr1 fun e w' => e = .returned (.bool true) ∧ ∃ k, vr1.drewN k = w') := by
        have := Same_any vr1 _ _ _ _ _ _ _ _ _ _ y1 HY1.out
        rw [decide_eq_true rfl] at this
        exact this
      have X1 := Lib.hid (I.below (I.below XR.out (drewed wr 1)) l1)
      have E1 := Lib.hid ((ER.out.drewN 1).below (l1.mono SR.out))
      have L1' := Lib.hid ((LR.out.trans ((drewed wr 1).mono LR.out.size)).trans (l1.mono LR.out.size))
      have S1 : Hid (w2.heap.size ≤ vr1.heap.size) := Nat.le_trans SR.out hs1
      have q1 : ¬ (xp : Int) ≤ en := by omega
      have q2 : ¬ (pn : Int) = 0 := by omega
      clear o1 y1 l1 CR HY HY1 XR ER LR k0 k1
      go_wp2_with fail
      refine CS.out.mono ?_
      rintro e w3 ⟨rfl, j3, rfl⟩
      have k0 : (vr1.drewN j3).cell? ⟨bx, ox + i * 2, none⟩ = some (.int .i64 (xp : Nat)) := k0'
      have k1 : (vr1.drewN j3).cell? ⟨bx, ox + i * 2 + 1, none⟩ = some (.slice pA pn pc) := k1'
      go_upto_region 10 with fail
      go_quiet (fail)
      go_wp2_with fail
      go_roundw
      case rel => exact ⟨i + 1, by omega, by go_num, by rw [HES.out], I.below X1.out (drewed vr1 (j3 + nq)), E1.out.drewN _, L1'.out.trans ((drewed vr1 (j3 + nq)).mono L1'.out.size), S1.out⟩
      case measure => simp [intOf]; omega
    · obtain rfl : i = nx := by omega
      have hle := endN_le HLX.out
      obtain ⟨en, hen'⟩ : ∃ en, en = endN (exts B Z) i := ⟨_, rfl⟩
      rw [← hen'] at hle ⊢
      have CZ := Lib.hid (I.size XR.out)
      obtain ⟨M, hM⟩ : ∃ M, M = B.length := ⟨_, rfl⟩
      rw [← hM] at hle CZ
      clear hen' hM
      go_wp2_with fail
      refine CZ.out.mono ?_
      rintro e w3 ⟨rfl, j3, rfl⟩
      have L3 := Lib.hid (LR.out.trans ((drewed wr j3).mono LR.out.size))
      go_wp2_with fail
      refine (WorksX_any I _).mono ?_
      rintro e w4 ⟨rfl, l4⟩
      have L4 := Lib.hid (L3.out.trans (l4.mono L3.out.size))
      clear l4
      go_wp2_with fail
      go_ret
      exact ⟨rfl, L4.out⟩
theorem walk_ExtentApart (W : World) (A0 : Option Addr) (n0 c0 : Nat) (l0 : List ActV) (h0 : LAct W W.heap.size A0 n0 c0 l0) (r0 : n0 ≤ 140737488355328) :
    Calls Try.prog 6 #[.slice A0 n0 c0] W fun e w' => e = .returned (.bool true) ∧ Below W.heap.size W w' := law_ExtentApart theExt W A0 n0 c0 l0 h0 r0
end Go.Proofs.Ytgbhnnobbciemaa
