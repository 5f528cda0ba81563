/-
  The walk of the statement HeadFresh: what is answered is new memory.
-/
import Derived.Test.YthoddihoccpidaaCopyH
namespace Go.Proofs.Ythoddihoccpidaa
open Go.RowKit
set_option linter.unusedVariables false

set_option maxRecDepth 100000 in
set_option maxHeartbeats 2000000 in
theorem walk_HeadFresh (W : World) (a0 : Hd) (k0 : a0.ok) :
    Calls Try.prog 9 #[hv a0] W fun e W' => e = .returned (.bool true) ∧ Below W.heap.size W W' := by
  have HL := Lib.hid (hcells_len k0)
  have HO := Lib.hid (hcells_one a0)
  have CL : Hid (∀ w : World, Calls Try.prog 17 #[] w fun e w' => e = .returned (.bool true) ∧ Below w.heap.size w w') := lives_any
  by_cases hm : mayP a0 = true
  · have CP : Hid (∀ w : World, Calls Try.prog 10 #[hv a0] w fun e w' => ∃ A', e = .returned (.tuple #[.slice A' 64 64, .int .i64 0]) ∧ Fresh w' w.heap.size A' (putH a0) ∧ Below w.heap.size w w') := fun w => put_may w a0 k0 hm
    have HPL : Hid ((putH a0).length = 64) := putH_len k0.len
    have HPB : Hid (Bytes (putH a0)) := putH_bytes k0.byte
    have CG : Hid (∀ (w : World) (A : Option Addr), Holds w w.heap.size A 64 64 (putH a0) → Calls Try.prog 19 #[.slice A 64 64, .int .i64 0] w fun e w' => e = .returned (.tuple #[hv a0, .int .i64 0]) ∧ Below w.heap.size w w') := fun w A hh =>
      get_put_any w A 64 64 a0 k0 hm [] [] (by simpa using hh)
    have q0 : ∀ w : World, (Op.equalIn 10000 28 (.agg (hcells a0).toArray) (.agg (hcells a0).toArray)).run Try.prog w = .ok true w := fun w => by
      rw [run_equalIn_hd a0 a0 k0 k0 w, decide_eq_true rfl]
    have qg := guard_hd
    have ZH := Lib.hid zero_hd
    have HZ := Lib.hid (hcells_len zeroHd_ok)
    obtain ⟨zs, hzs⟩ : ∃ zs, zs = hcells zeroHd := ⟨_, rfl⟩
    obtain ⟨cs, hcs⟩ : ∃ cs, cs = hcells a0 := ⟨_, rfl⟩
    obtain ⟨ps, hps⟩ : ∃ ps, ps = putH a0 := ⟨_, rfl⟩
    unfold hv at CP CG ⊢
    rw [← hcs] at CP CG HL HO q0 ⊢
    rw [← hzs] at ZH HZ
    rw [← hps] at CP CG HPL HPB
    clear hm k0 hzs hcs hps
    go_enter Try.func9, Try.ntmps9
    go_wp2_with (first
      | ((with_reducible show wpList _ _ _ (⟨some 1, _, _, _, _, _⟩ :: _) _ _); refine wpList_box_blk rfl _ (.tmp 0) rfl cs rfl ?_; intro g w1 hg1 hg2 B1 L1)
      | ((with_reducible show wpList _ _ _ (⟨some 11, _, _, _, _, _⟩ :: _) _ _); refine wpList_load_blk rfl _ (.tmp 1) rfl g rfl _ cs B1 26 _ Try.underlying28 rfl size_hd HL ?_)
      | fail)
    refine (CP.out _).mono ?_
    rintro e w2 ⟨A', rfl, hf, L2⟩
    obtain ⟨gb, rfl, hgb, hr⟩ : ∃ gb, A' = some ⟨gb, 0, none⟩ ∧ w1.heap.size ≤ gb ∧ Row w2 gb ps := by
      rcases hf with ⟨_, h0⟩ | hf
      · have := HPL.out
        rw [h0] at this
        cases this
      · exact hf
    have hh := Lib.hid (Fresh.holds (.inr ⟨gb, rfl, hgb, hr⟩) HPL.out HPB.out (by decide : 64 ≤ 281474976710656))
    have hgb2 := hr.lt
    have R2 := Lib.hid hr
    have B2 := Lib.hid (B1.out.over L2)
    have L12 := Lib.hid (step L1.out L2)
    have hgs := L1.out.size
    clear B1 L1 L2 hf hr
    go_wp2_with fail
    refine (Copy_any w2 _ 64 64 ps hh.out (by decide)).mono ?_
    rintro e w3 ⟨vd, rfl, ho, L3⟩
    obtain ⟨Ad, cd, rfl⟩ := ho.len
    rw [HPL.out] at ho ⊢
    have O3 := Lib.hid ho
    have hh3 := Lib.hid (hh.out.over L3)
    have R3 := Lib.hid (R2.out.over L3)
    have B3 := Lib.hid (B2.out.over L3)
    have L13 := Lib.hid (step L12.out L3)
    have hs3 := L3.size
    clear hh R2 B2 L12 L3 ho
    go_wp2_with fail
    refine (CG.out _ _ hh3.out).mono ?_
    rintro e w4 ⟨rfl, L4⟩
    have R4 := Lib.hid (R3.out.over L4)
    have O4 := Lib.hid (O3.out.below L4)
    have B4 := Lib.hid (B3.out.over L4)
    have L14 := Lib.hid (step L13.out L4)
    have hs4 := L4.size
    clear hh3 R3 B3 O3 L13 L4 CG
    go_wp2_with (first
      | ((with_reducible show wpList _ _ _ (⟨some 6, _, _, _, _, _⟩ :: _) _ _); refine wpList_alloc_blk rfl _ rfl zs _ ZH ?_; intro g4 w5 hg41 hg42 X4 L5)
      | ((with_reducible show wpList _ _ _ (⟨none, .store _ (.tmp 6) _, _, _, _, _⟩ :: _) _ _); refine wpList_store_blk rfl _ (.tmp 6) (.tmp 23) rfl g4 rfl _ zs cs rfl X4 26 size_hd HZ HL HO ?_; intro w6 X6 O6 hg6)
      | fail)
    have L6 : Below w4.heap.size w4 w6 := below_only L5.out O6.out hg41
    have R6 := Lib.hid (R4.out.over L6)
    have O6' := Lib.hid (O4.out.below L6)
    have B6 := Lib.hid (B4.out.over L6)
    have L16 := Lib.hid (step L14.out L6)
    clear R4 O4 B4 L14 X4 L5 O6 L6 hg42
    refine (Spoil_only w6 gb ps 64 HPL.out (by decide) 3 (by omega) R6.out).mono ?_
    rintro e w7 ⟨rfl, S7⟩
    have O7 := Lib.hid (O6'.out.only S7 hgb2)
    have B7 := Lib.hid (B6.out.only S7 (by omega))
    have X7 := Lib.hid (X6.out.only S7 (by omega))
    have L17 := Lib.hid (below_only L16.out S7 (by omega))
    clear R6 O6' B6 X6 L16 S7 hg6
    go_wp2_with (first
      | ((with_reducible show wpList _ _ _ (⟨some 28, _, _, _, _, _⟩ :: _) _ _); refine wpList_load_blk rfl _ (.tmp 1) rfl g rfl _ cs B7 26 _ Try.underlying28 rfl size_hd HL ?_)
      | fail)
    refine (CP.out _).mono ?_
    rintro e w8 ⟨A8, rfl, hf8, L8⟩
    have O8 := O7.out.below L8
    have B8 := Lib.hid (B7.out.over L8)
    have X8 := Lib.hid (X7.out.over L8)
    have L18 := Lib.hid (step L17.out L8)
    have CS := Same_any w8 _ _ _ _ _ _ _ _ ps ps (hf8.holds HPL.out HPB.out (by decide : 64 ≤ 281474976710656)) (O8.holds_at HPL.out HPB.out (by decide))
    rw [decide_eq_true rfl] at CS
    have CS' := Lib.hid CS
    clear CS O7 B7 X7 L17 L8 hf8 O8 CP
    go_wp2_with fail
    refine CS'.out.mono ?_
    rintro e w9 ⟨rfl, j, rfl⟩
    have B9 : Hid (Blk (w8.drewN j) g 28 cs) := B8.out.drewN j
    have X9 : Hid (Blk (w8.drewN j) g4 28 cs) := X8.out.drewN j
    have L19 : Hid (Below W.heap.size W (w8.drewN j)) := below_drewN L18.out j
    obtain ⟨wq, hwq⟩ : ∃ wq, wq = w8.drewN j := ⟨_, rfl⟩
    rw [← hwq] at B9 X9 L19 ⊢
    clear B8 X8 L18 CS' hwq
    go_wp2_with (first
      | ((with_reducible show wpList _ _ _ (⟨some 40, _, _, _, _, _⟩ :: _) _ _); refine wpList_load_want (by kernel_rfl) _ (.tmp 6) rfl g4 rfl _ cs X9 26 _ Try.underlying28 rfl size_hd HL ?_)
      | ((with_reducible show wpList _ _ _ (⟨some 41, _, _, _, _, _⟩ :: _) _ _); refine wpList_load_want (by kernel_rfl) _ (.tmp 1) rfl g rfl _ cs B9 26 _ Try.underlying28 rfl size_hd HL ?_)
      | fail)
    refine (CL.out _).mono ?_
    rintro e w10 ⟨rfl, L10⟩
    go_wp2
    go_ret
    exact ⟨rfl, step L19.out L10⟩
  · have hm' : mayP a0 = false := by simpa using hm
    have CP : Hid (∀ w : World, Calls Try.prog 10 #[hv a0] w fun e w' => ∃ A', e = .returned (.tuple #[.slice A' 0 0, .int .i64 2]) ∧ Below w.heap.size w w') := fun w => put_may_not w a0 k0 hm'
    obtain ⟨cs, hcs⟩ : ∃ cs, cs = hcells a0 := ⟨_, rfl⟩
    unfold hv at CP ⊢
    rw [← hcs] at CP HL ⊢
    clear hm hm' k0 hcs
    go_enter Try.func9, Try.ntmps9
    go_wp2_with (first
      | ((with_reducible show wpList _ _ _ (⟨some 1, _, _, _, _, _⟩ :: _) _ _); refine wpList_box_blk rfl _ (.tmp 0) rfl cs rfl ?_; intro g w1 hg1 hg2 B1 L1)
      | ((with_reducible show wpList _ _ _ (⟨some 11, _, _, _, _, _⟩ :: _) _ _); refine wpList_load_blk rfl _ (.tmp 1) rfl g rfl _ cs B1 26 _ Try.underlying28 rfl size_hd HL ?_)
      | fail)
    refine (CP.out _).mono ?_
    rintro e w2 ⟨A', rfl, L2⟩
    go_wp2_with fail
    refine (CL.out _).mono ?_
    rintro e w3 ⟨rfl, L3⟩
    go_wp2
    go_ret
    exact ⟨rfl, step (step L1.out L2) L3⟩
end Go.Proofs.Ythoddihoccpidaa
