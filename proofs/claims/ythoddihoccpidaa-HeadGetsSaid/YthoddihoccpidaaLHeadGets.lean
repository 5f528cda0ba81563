/-
  The walk of the statement HeadGets: the head of any bytes, at any place, is the document's, or its error; what is handed in stays.
-/
import Derived.Test.YthoddihoccpidaaRefH4
namespace Go.Proofs.Ythoddihoccpidaa
open Go.RowKit
set_option linter.unusedVariables false

set_option maxRecDepth 100000 in
set_option maxHeartbeats 2000000 in
theorem walk_HeadGets (W : World) (A0 : Option Addr) (n0 c0 : Nat) (z0 : List Int) (l0 : n0 ≤ c0) (r0 : c0 ≤ 140737488351232) (h0 : Holds W W.heap.size A0 c0 c0 z0)
    (a1 : Int) (w1 : -9223372036854775808 ≤ a1 ∧ a1 ≤ 9223372036854775807) :
    Calls Try.prog 4 #[.slice A0 n0 c0, .int .i64 a1] W fun e W' => e = .returned (.bool true) ∧ Below W.heap.size W W' := by
  have CL : Hid (∀ w : World, Calls Try.prog 17 #[] w fun e w' => e = .returned (.bool true) ∧ Below w.heap.size w w') := lives_any
  have h := h0.head l0
  obtain ⟨xs, hxs⟩ : ∃ xs, xs = z0.take n0 := ⟨_, rfl⟩
  rw [← hxs] at h
  have HX := Lib.hid h
  have HXL := Lib.hid h.len
  have HXB := Lib.hid h.byte
  have KH := getOfH_ok xs a1 h.byte
  have CG : Hid (∀ (w : World) (A : Option Addr) (n c : Nat), Holds w w.heap.size A n c xs → Calls Try.prog 19 #[.slice A n c, .int .i64 a1] w fun e w' => e = .returned (.tuple #[hv (getOfH xs a1), .int .i64 (getErrH xs a1)]) ∧ Below w.heap.size w w') := fun w A n c hh => GetH_any w A n c xs a1 hh w1
  have CR : Hid (∀ (w : World) (A : Option Addr) (n c : Nat), Holds w w.heap.size A n c xs → Calls Try.prog 20 #[.slice A n c, .int .i64 a1] w fun e w' => e = .returned (.tuple #[hv (getOfH xs a1), .int .i64 (getErrH xs a1)]) ∧ Below w.heap.size w w') := fun w A n c hh => RGetH_any w A n c xs a1 hh w1
  have CW := Wide_any W A0 n0 c0 xs h (by omega)
  unfold WidePost at CW
  rw [h.len] at CW
  have CW' := Lib.hid CW
  have ZH := Lib.hid zero_hd
  have HZ := Lib.hid (hcells_len zeroHd_ok)
  have HL := Lib.hid (hcells_len KH)
  have HO := Lib.hid (hcells_one (getOfH xs a1))
  have q0 : ∀ w : World, (Op.equalIn 10000 28 (.agg (hcells (getOfH xs a1)).toArray) (.agg (hcells (getOfH xs a1)).toArray)).run Try.prog w = .ok true w := fun w => by
    rw [run_equalIn_hd _ _ KH KH w, decide_eq_true rfl]
  have qg := guard_hd
  obtain ⟨zs, hzs⟩ : ∃ zs, zs = hcells zeroHd := ⟨_, rfl⟩
  obtain ⟨cs, hcs⟩ : ∃ cs, cs = hcells (getOfH xs a1) := ⟨_, rfl⟩
  obtain ⟨er, her⟩ : ∃ er, er = getErrH xs a1 := ⟨_, rfl⟩
  unfold hv at CG CR
  rw [← hcs, ← her] at CG CR
  rw [← hcs] at HL HO q0
  rw [← hzs] at ZH HZ
  clear hzs hcs her KH hxs h h0 CW
  go_enter Try.func4, Try.ntmps4
  go_wp2_with fail
  refine CW'.out.mono ?_
  rintro e v1 ⟨rfl, hrow, L1⟩
  have R1 := Lib.hid hrow
  have L01 := Lib.hid L1
  have hW1 := R1.out.lt
  have hh1 : Hid (Holds v1 v1.heap.size (some ⟨W.heap.size, 0, none⟩) n0 (n0 + 3) xs) := by
    have hl := HXL.out
    refine ⟨hl, by omega, by have := HX.out.room; omega, HXB.out, fun hA => (by cases hA), fun h0 => ⟨W.heap.size, 0, rfl, hrow.lt, fun i hi => ?_⟩⟩
    rw [Nat.zero_add, hrow.cell (by simp; omega)]
    simp [List.getD_eq_getElem?_getD, List.getElem?_append, hl, hi]
  clear hrow L1 CW'
  go_wp2_with fail
  refine (CG.out _ _ _ _ hh1.out).mono ?_
  rintro e v2 ⟨rfl, L2⟩
  have R2 := Lib.hid (R1.out.below L2 hW1)
  have L02 := Lib.hid (step L01.out L2)
  clear R1 L01 L2 hh1 CG
  go_wp2_with (first
    | ((with_reducible show wpList _ _ _ (⟨some 6, _, _, _, _, _⟩ :: _) _ _); refine wpList_alloc_blk rfl _ rfl zs _ ZH ?_; intro g6 v3 hg61 hg62 X3 L3)
    | ((with_reducible show wpList _ _ _ (⟨none, .store _ (.tmp 6) _, _, _, _, _⟩ :: _) _ _); refine wpList_store_blk rfl _ (.tmp 6) (.tmp 16) rfl g6 rfl _ zs cs rfl X3 26 size_hd HZ HL HO ?_; intro v4 X4 O4 hg63)
    | fail)
  have L24 : Hid (Below v2.heap.size v2 v4) := below_only L3.out O4.out hg61
  have L04 := Lib.hid (step L02.out L24.out)
  have R4 := Lib.hid (R2.out.below L24.out R2.out.lt)
  clear R2 L02 L3 X3 O4 L24 hg61 hg62
  refine (CR.out _ _ _ _ (HX.out.over L04.out)).mono ?_
  rintro e v5 ⟨rfl, L5⟩
  have X5 := Lib.hid (X4.out.over L5)
  have R5 := Lib.hid (R4.out.below L5 R4.out.lt)
  have L05 := Lib.hid (step L04.out L5)
  have hg65 := X5.out.lt
  clear R4 L04 X4 L5 CR
  go_wp2_with (first
    | ((with_reducible show wpList _ _ _ (⟨some 8, _, _, _, _, _⟩ :: _) _ _); refine wpList_alloc_blk rfl _ rfl zs _ ZH ?_; intro g8 v6 hg81 hg82 Y6 L6)
    | ((with_reducible show wpList _ _ _ (⟨none, .store _ (.tmp 8) _, _, _, _, _⟩ :: _) _ _); refine wpList_store_blk rfl _ (.tmp 8) (.tmp 22) rfl g8 rfl _ zs cs rfl Y6 26 size_hd HZ HL HO ?_; intro v7 Y7 O7 hg83; have L57 : Hid (Below v5.heap.size v5 v7) := below_only L6.out O7.out hg81; have X7 := Lib.hid (X5.out.over L57.out))
    | ((with_reducible show wpList _ _ _ (⟨some 24, _, _, _, _, _⟩ :: _) _ _); refine wpList_load_blk rfl _ (.tmp 6) rfl g6 rfl _ cs X7 26 _ Try.underlying28 rfl size_hd HL ?_)
    | ((with_reducible show wpList _ _ _ (⟨some 25, _, _, _, _, _⟩ :: _) _ _); refine wpList_load_blk rfl _ (.tmp 8) rfl g8 rfl _ cs Y7 26 _ Try.underlying28 rfl size_hd HL ?_)
    | fail)
  have L07 := Lib.hid (step L05.out L57.out)
  have R7 := Lib.hid (R5.out.below L57.out R5.out.lt)
  refine (Left_any v7 W.heap.size A0 n0 c0 xs R7.out (HX.out.over L07.out)).mono ?_
  rintro e v8 ⟨rfl, j, rfl⟩
  have L08 : Hid (Below W.heap.size W (v7.drewN j)) := below_drewN L07.out j
  obtain ⟨wq, hwq⟩ : ∃ wq, wq = v7.drewN j := ⟨_, rfl⟩
  rw [← hwq] at L08 ⊢
  clear hwq R5 R7 L05 L07 L57 X5 X7 Y6 Y7 L6 O7
  go_wp2_with fail
  refine (CL.out _).mono ?_
  rintro e v9 ⟨rfl, L9⟩
  go_wp2
  go_ret
  exact ⟨rfl, step L08.out L9⟩
end Go.Proofs.Ythoddihoccpidaa
