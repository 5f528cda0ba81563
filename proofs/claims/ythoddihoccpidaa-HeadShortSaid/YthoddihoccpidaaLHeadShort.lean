/-
  The walk of the statement HeadShort: fewer than 64 bytes are too few, wherever they stand.
-/
import Derived.Test.YthoddihoccpidaaCopyH
namespace Go.Proofs.Ythoddihoccpidaa
open Go.RowKit
set_option linter.unusedVariables false

set_option maxRecDepth 100000 in
set_option maxHeartbeats 2000000 in
theorem walk_HeadShort (W : World) (a0 : Hd) (k0 : a0.ok) (a1 : Int) (w1 : 0 ≤ a1 ∧ a1 ≤ 255) :
    Calls Try.prog 8 #[hv a0, .int .u8 a1] W fun e W' => e = .returned (.bool true) ∧ Below W.heap.size W W' := by
  have HL := Lib.hid (hcells_len k0)
  have CL : Hid (∀ w : World, Calls Try.prog 17 #[] w fun e w' => e = .returned (.bool true) ∧ Below w.heap.size w w') := lives_any
  by_cases hm : mayP a0 = true
  · have CP : Hid (∀ w : World, Calls Try.prog 10 #[hv a0] w fun e w' => ∃ A', e = .returned (.tuple #[.slice A' 64 64, .int .i64 0]) ∧ Fresh w' w.heap.size A' (putH a0) ∧ Below w.heap.size w w') := fun w => put_may w a0 k0 hm
    have HPL : Hid ((putH a0).length = 64) := putH_len k0.len
    have HPB : Hid (Bytes (putH a0)) := putH_bytes k0.byte
    obtain ⟨k, hk⟩ : ∃ k : Nat, a1 % 64 = (k : Int) := ⟨(a1 % 64).toNat, by omega⟩
    have hk64 : k < 64 := by omega
    have hmod : a1.tmod 64 = (k : Int) := by rw [Int.tmod_eq_emod_of_nonneg w1.1, hk]
    obtain ⟨w10, w11⟩ := w1
    have C1 : Hid (∀ (w : World) (A : Option Addr) (xs : List Int), Holds w w.heap.size A k 64 xs → Calls Try.prog 19 #[.slice A k 64, .int .i64 0] w fun e w' => e = .returned (.tuple #[hv zeroHd, .int .i64 4]) ∧ Below w.heap.size w w') := fun w A xs hx =>
      get_err w A k 64 xs 0 4 hx (by omega) (by unfold partErr; rw [if_neg (by omega), if_pos (by omega)]) (by decide)
    have C2 : Hid (∀ (w : World) (A : Option Addr) (xs : List Int), Holds w w.heap.size A 64 64 xs → Calls Try.prog 19 #[.slice A 64 64, .int .i64 (64 - (k : Int))] w fun e w' => e = .returned (.tuple #[hv zeroHd, .int .i64 4]) ∧ Below w.heap.size w w') := fun w A xs hx =>
      get_err w A 64 64 xs _ 4 hx (by omega) (by unfold partErr; rw [if_neg (by omega), if_pos (by omega)]) (by decide)
    have C3 : Hid (∀ (w : World) (A : Option Addr) (xs : List Int), Holds w w.heap.size A 64 64 xs → Calls Try.prog 19 #[.slice A 64 64, .int .i64 65] w fun e w' => e = .returned (.tuple #[hv zeroHd, .int .i64 2]) ∧ Below w.heap.size w w') := fun w A xs hx =>
      get_err w A 64 64 xs _ 2 hx (by omega) (by unfold partErr; rw [if_pos (by omega)]) (by decide)
    have C4 : Hid (∀ (w : World) (A : Option Addr) (xs : List Int), Holds w w.heap.size A 64 64 xs → Calls Try.prog 19 #[.slice A 64 64, .int .i64 (-1 - (k : Int))] w fun e w' => e = .returned (.tuple #[hv zeroHd, .int .i64 2]) ∧ Below w.heap.size w w') := fun w A xs hx =>
      get_err w A 64 64 xs _ 2 hx (by omega) (by unfold partErr; rw [if_pos (by omega)]) (by decide)
    have ZH := Lib.hid zero_hd
    have HZ := Lib.hid (hcells_len zeroHd_ok)
    have HZO := Lib.hid (hcells_one zeroHd)
    obtain ⟨zs, hzs⟩ : ∃ zs, zs = hcells zeroHd := ⟨_, rfl⟩
    obtain ⟨cs, hcs⟩ : ∃ cs, cs = hcells a0 := ⟨_, rfl⟩
    obtain ⟨ps, hps⟩ : ∃ ps, ps = putH a0 := ⟨_, rfl⟩
    unfold hv at CP C1 C2 C3 C4 ⊢
    rw [← hcs] at CP HL ⊢
    rw [← hzs] at C1 C2 C3 C4 ZH HZ HZO
    rw [← hps] at CP HPL HPB
    clear hm k0 hzs hcs hps hk
    go_enter Try.func8, Try.ntmps8
    go_wp2_with (first
      | ((with_reducible show wpList _ _ _ (⟨some 2, _, _, _, _, _⟩ :: _) _ _); refine wpList_box_blk rfl _ (.tmp 0) rfl cs rfl ?_; intro g w1 hg1 hg2 B1 L1)
      | ((with_reducible show wpList _ _ _ (⟨some 17, _, _, _, _, _⟩ :: _) _ _); refine wpList_load_blk rfl _ (.tmp 2) rfl g rfl _ cs B1 26 _ Try.underlying28 rfl size_hd HL ?_)
      | fail)
    refine (CP.out _).mono ?_
    rintro e w2 ⟨A', rfl, hf, L2⟩
    have hh := Lib.hid (hf.holds HPL.out HPB.out (by decide))
    obtain ⟨b, off, rfl, _, _⟩ := hh.out.cells (by decide)
    have hk1 := Lib.hid (hh.out.head (n := k) (by omega))
    have L12 := Lib.hid (step L1.out L2)
    clear B1 L1 L2 CP hf
    go_wp2_with fail
    refine (C1.out _ _ _ hk1.out).mono ?_
    rintro e w3 ⟨rfl, L3⟩
    have hh3 := Lib.hid (hh.out.over L3)
    have L13 := Lib.hid (step L12.out L3)
    clear hh hk1 L12 L3 C1
    go_wp2_with (first
      | ((with_reducible show wpList _ _ _ (⟨some 8, _, _, _, _, _⟩ :: _) _ _); refine wpList_alloc_blk rfl _ rfl zs _ ZH ?_; intro g4 w4 hg41 hg42 X4 L4)
      | ((with_reducible show wpList _ _ _ (⟨none, .store _ (.tmp 8) _, _, _, _, _⟩ :: _) _ _); refine wpList_store_blk rfl _ (.tmp 8) (.tmp 35) rfl g4 rfl _ zs zs rfl X4 26 size_hd HZ HZ HZO ?_; intro w5 X5 O5 hg5)
      | fail)
    have L5 : Below w3.heap.size w3 w5 := below_only L4.out O5.out hg41
    have hh5 := Lib.hid (hh3.out.over L5)
    have L15 := Lib.hid (step L13.out L5)
    clear hh3 L13 X4 L4 X5 O5 L5 hg41 hg42 hg5
    refine (C2.out _ _ _ hh5.out).mono ?_
    rintro e w6 ⟨rfl, L6⟩
    have hh6 := Lib.hid (hh5.out.over L6)
    have L16 := Lib.hid (step L15.out L6)
    clear hh5 L15 L6 C2
    go_wp2_with (first
      | ((with_reducible show wpList _ _ _ (⟨some 10, _, _, _, _, _⟩ :: _) _ _); refine wpList_alloc_blk rfl _ rfl zs _ ZH ?_; intro g4 w7 hg41 hg42 X4 L4)
      | ((with_reducible show wpList _ _ _ (⟨none, .store _ (.tmp 10) _, _, _, _, _⟩ :: _) _ _); refine wpList_store_blk rfl _ (.tmp 10) (.tmp 42) rfl g4 rfl _ zs zs rfl X4 26 size_hd HZ HZ HZO ?_; intro w8 X5 O5 hg5)
      | fail)
    have L5 : Below w6.heap.size w6 w8 := below_only L4.out O5.out hg41
    have hh8 := Lib.hid (hh6.out.over L5)
    have L18 := Lib.hid (step L16.out L5)
    clear hh6 L16 X4 L4 X5 O5 L5 hg41 hg42 hg5
    refine (C3.out _ _ _ hh8.out).mono ?_
    rintro e w9 ⟨rfl, L6⟩
    have hh9 := Lib.hid (hh8.out.over L6)
    have L19 := Lib.hid (step L18.out L6)
    clear hh8 L18 L6 C3
    go_wp2_with (first
      | ((with_reducible show wpList _ _ _ (⟨some 12, _, _, _, _, _⟩ :: _) _ _); refine wpList_alloc_blk rfl _ rfl zs _ ZH ?_; intro g4 w10 hg41 hg42 X4 L4)
      | ((with_reducible show wpList _ _ _ (⟨none, .store _ (.tmp 12) _, _, _, _, _⟩ :: _) _ _); refine wpList_store_blk rfl _ (.tmp 12) (.tmp 47) rfl g4 rfl _ zs zs rfl X4 26 size_hd HZ HZ HZO ?_; intro w11 X5 O5 hg5)
      | fail)
    have L5 : Below w9.heap.size w9 w11 := below_only L4.out O5.out hg41
    have hh11 := Lib.hid (hh9.out.over L5)
    have L111 := Lib.hid (step L19.out L5)
    clear hh9 L19 X4 L4 X5 O5 L5 hg41 hg42 hg5
    refine (C4.out _ _ _ hh11.out).mono ?_
    rintro e w12 ⟨rfl, L6⟩
    have L112 := Lib.hid (step L111.out L6)
    clear hh11 L111 L6 C4
    go_wp2_with (first
      | ((with_reducible show wpList _ _ _ (⟨some 14, _, _, _, _, _⟩ :: _) _ _); refine wpList_alloc_blk rfl _ rfl zs _ ZH ?_; intro g4 w13 hg41 hg42 X4 L4)
      | ((with_reducible show wpList _ _ _ (⟨none, .store _ (.tmp 14) _, _, _, _, _⟩ :: _) _ _); refine wpList_store_blk rfl _ (.tmp 14) (.tmp 54) rfl g4 rfl _ zs zs rfl X4 26 size_hd HZ HZ HZO ?_; intro w14 X5 O5 hg5)
      | fail)
    have L5 : Below w12.heap.size w12 w14 := below_only L4.out O5.out hg41
    have L114 := Lib.hid (step L112.out L5)
    clear L112 X4 L4 X5 O5 L5 hg41 hg42 hg5
    refine (CL.out _).mono ?_
    rintro e w15 ⟨rfl, L6⟩
    go_wp2
    go_ret
    exact ⟨rfl, step L114.out L6⟩
  · have hm' : mayP a0 = false := by simpa using hm
    have CP : Hid (∀ w : World, Calls Try.prog 10 #[hv a0] w fun e w' => ∃ A', e = .returned (.tuple #[.slice A' 0 0, .int .i64 2]) ∧ Below w.heap.size w w') := fun w => put_may_not w a0 k0 hm'
    obtain ⟨cs, hcs⟩ : ∃ cs, cs = hcells a0 := ⟨_, rfl⟩
    unfold hv at CP ⊢
    rw [← hcs] at CP HL ⊢
    clear hm hm' k0 hcs
    go_enter Try.func8, Try.ntmps8
    go_wp2_with (first
      | ((with_reducible show wpList _ _ _ (⟨some 2, _, _, _, _, _⟩ :: _) _ _); refine wpList_box_blk rfl _ (.tmp 0) rfl cs rfl ?_; intro g w1 hg1 hg2 B1 L1)
      | ((with_reducible show wpList _ _ _ (⟨some 17, _, _, _, _, _⟩ :: _) _ _); refine wpList_load_blk rfl _ (.tmp 2) rfl g rfl _ cs B1 26 _ Try.underlying28 rfl size_hd HL ?_)
      | fail)
    refine (CP.out _).mono ?_
    rintro e w2 ⟨A', rfl, L2⟩
    go_wp2_with fail
    refine (CL.out _).mono ?_
    rintro e w3 ⟨rfl, L3⟩
    go_wp2
    go_ret
    exact ⟨rfl, step (step L1.out L2) L3⟩
end Go.Proofs.Ythoddihoccpidaa
