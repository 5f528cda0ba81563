/-
  The walk of the statement HeadUnlike: unlike heads have unlike bytes.
-/
import Derived.Test.YthoddihoccpidaaCopyH
namespace Go.Proofs.Ythoddihoccpidaa
open Go.RowKit
set_option linter.unusedVariables false

set_option maxRecDepth 100000 in
set_option maxHeartbeats 2000000 in
theorem walk_HeadUnlike (W : World) (a0 : Hd) (k0 : a0.ok) (a1 : Hd) (k1 : a1.ok) :
    Calls Try.prog 7 #[hv a0, hv a1] W fun e W' => e = .returned (.bool true) ∧ Below W.heap.size W W' := by
  have HL0 := Lib.hid (hcells_len k0)
  have HL1 := Lib.hid (hcells_len k1)
  have CL : Hid (∀ w : World, Calls Try.prog 17 #[] w fun e w' => e = .returned (.bool true) ∧ Below w.heap.size w w') := lives_any
  by_cases m0 : mayP a0 = true
  · by_cases m1 : mayP a1 = true
    · have CP0 : Hid (∀ w : World, Calls Try.prog 10 #[hv a0] w fun e w' => ∃ A', e = .returned (.tuple #[.slice A' 64 64, .int .i64 0]) ∧ Fresh w' w.heap.size A' (putH a0) ∧ Below w.heap.size w w') := fun w => put_may w a0 k0 m0
      have CP1 : Hid (∀ w : World, Calls Try.prog 10 #[hv a1] w fun e w' => ∃ A', e = .returned (.tuple #[.slice A' 64 64, .int .i64 0]) ∧ Fresh w' w.heap.size A' (putH a1) ∧ Below w.heap.size w w') := fun w => put_may w a1 k1 m1
      have HP0 : Hid ((putH a0).length = 64) := putH_len k0.len
      have HP1 : Hid ((putH a1).length = 64) := putH_len k1.len
      have HB0 : Hid (Bytes (putH a0)) := putH_bytes k0.byte
      have HB1 : Hid (Bytes (putH a1)) := putH_bytes k1.byte
      have q0 : ∀ w : World, (Op.equalIn 10000 28 (.agg (hcells a0).toArray) (.agg (hcells a1).toArray)).run Try.prog w = .ok (decide (a0 = a1)) w := fun w => run_equalIn_hd a0 a1 k0 k1 w
      have hinj := putH_inj k0 k1 m0 m1
      have qg := guard_hd
      obtain ⟨p0, hp0⟩ : ∃ p, p = putH a0 := ⟨_, rfl⟩
      obtain ⟨p1, hp1⟩ : ∃ p, p = putH a1 := ⟨_, rfl⟩
      obtain ⟨z, hz⟩ : ∃ z, z = decide (a0 = a1) := ⟨_, rfl⟩
      rw [← hp0] at CP0 HP0 HB0 hinj
      rw [← hp1] at CP1 HP1 HB1 hinj
      rw [← hz] at q0 hinj
      have HINJ := Lib.hid hinj
      obtain ⟨cs0, hc0⟩ : ∃ cs, cs = hcells a0 := ⟨_, rfl⟩
      obtain ⟨cs1, hc1⟩ : ∃ cs, cs = hcells a1 := ⟨_, rfl⟩
      unfold hv at CP0 CP1 ⊢
      rw [← hc0] at CP0 HL0 q0 ⊢
      rw [← hc1] at CP1 HL1 q0 ⊢
      clear m0 m1 k0 k1 hc0 hc1 hp0 hp1 hz hinj
      go_enter Try.func7, Try.ntmps7
      go_wp2_with (first
        | ((with_reducible show wpList _ _ _ (⟨some 2, _, _, _, _, _⟩ :: _) _ _); refine wpList_box_blk rfl _ (.tmp 0) rfl cs0 rfl ?_; intro g0 w1 hg1 hg2 B1 L1)
        | ((with_reducible show wpList _ _ _ (⟨some 3, _, _, _, _, _⟩ :: _) _ _); refine wpList_box_blk rfl _ (.tmp 1) rfl cs1 rfl ?_; intro g1 w2 hg3 hg4 X2 L2; have B2 := Lib.hid (B1.out.over L2.out); have L12 := Lib.hid (step L1.out L2.out))
        | ((with_reducible show wpList _ _ _ (⟨some 10, _, _, _, _, _⟩ :: _) _ _); refine wpList_load_blk rfl _ (.tmp 2) rfl g0 rfl _ cs0 B2 26 _ Try.underlying28 rfl size_hd HL0 ?_)
        | fail)
      refine (CP0.out _).mono ?_
      rintro e w3 ⟨A', rfl, hf, L3⟩
      have B3 := Lib.hid (B2.out.over L3)
      have X3 := Lib.hid (X2.out.over L3)
      have L13 := Lib.hid (step L12.out L3)
      have hh3 := Lib.hid (hf.holds HP0.out HB0.out (by decide : 64 ≤ 281474976710656))
      clear hf
      clear B1 L1 X2 L2 B2 L12 L3 CP0
      go_wp2_with (first
        | ((with_reducible show wpList _ _ _ (⟨some 15, _, _, _, _, _⟩ :: _) _ _); refine wpList_load_blk rfl _ (.tmp 3) rfl g1 rfl _ cs1 X3 26 _ Try.underlying28 rfl size_hd HL1 ?_)
        | fail)
      refine (CP1.out _).mono ?_
      rintro e w4 ⟨A2, rfl, hf, L4⟩
      have B4 := Lib.hid (B3.out.over L4)
      have X4 := Lib.hid (X3.out.over L4)
      have L14 := Lib.hid (step L13.out L4)
      have hh4 := Lib.hid (hh3.out.over L4)
      have hk4 := Lib.hid (hf.holds HP1.out HB1.out (by decide : 64 ≤ 281474976710656))
      clear B3 X3 L13 L4 CP1 hh3 hf
      go_upto_region 5 with fail
      refine wp_region_held (S := fun w' => Blk w' g0 28 cs0 ∧ Blk w' g1 28 cs1) (by kernel_rfl) ?_
      change wpAnyH _ _ _ _ _ _ _ _ w4.drew
      have S0 : Hid (Blk w4.drew g0 28 cs0 ∧ Blk w4.drew g1 28 cs1) := ⟨B4.out.drew, X4.out.drew⟩
      have b0 : Hid (Below W.heap.size W w4.drew) := L14.out.drew
      have CS := Same_any w4.drew _ _ _ _ _ _ _ _ p0 p1 hh4.out.drew hk4.out.drew
      rw [HINJ.out] at CS
      have CS' := Lib.hid CS
      clear B4 X4 L14 hh4 hk4 CS HINJ
      refine wpAnyH_take (i := 0) (v := _) rfl (by kernel_rfl) (by kernel_rfl) (by kernel_rfl) (fun _ _ _ h => h) (yieldsIf_move (by kernel_rfl) (.tmp 5) rfl (.slice A' 64 64) (by kernel_rfl)) S0.out ?_
      refine wpAnyH_take (i := 1) (v := _) rfl (by kernel_rfl) (by kernel_rfl) (by kernel_rfl) (fun _ _ _ h => h) (yieldsIf_move (by kernel_rfl) (.tmp 7) rfl (.slice A2 64 64) (by kernel_rfl)) S0.out ?_
      refine wpAnyH_take (i := 3) (v := _) rfl (by kernel_rfl) (by kernel_rfl) (by kernel_rfl) (fun _ _ _ h => h) (yieldsIf_load_blk (by kernel_rfl) _ (.tmp 2) rfl g0 (by kernel_rfl) _ cs0 (fun _ h => h.1) 26 _ Try.underlying28 rfl size_hd HL0) S0.out ?_
      refine wpAnyH_take (i := 4) (v := _) rfl (by kernel_rfl) (by kernel_rfl) (by kernel_rfl) (fun _ _ _ h => h) (yieldsIf_load_blk (by kernel_rfl) _ (.tmp 3) rfl g1 (by kernel_rfl) _ cs1 (fun _ h => h.2) 26 _ Try.underlying28 rfl size_hd HL1) S0.out ?_
      refine wpAnyH_take (i := 5) (v := .bool z) rfl (by kernel_rfl) (by kernel_rfl) (by kernel_rfl) (fun _ _ _ h => h) (.inl ⟨by kernel_rfl, fun w _ => by go_simp⟩) S0.out ?_
      refine wpAnyH_one 2 _ (by kernel_rfl) rfl fun K hK => ?_
      go_simp
      refine CS'.out.mono ?_
      rintro e w5 ⟨rfl, j, rfl⟩
      have S1 : Hid (Blk (w4.drew.drewN j) g0 28 cs0 ∧ Blk (w4.drew.drewN j) g1 28 cs1) := ⟨S0.out.1.drewN j, S0.out.2.drewN j⟩
      have b1 : Hid (Below W.heap.size W (w4.drew.drewN j)) := below_drewN b0.out j
      refine hK _ _ S1.out ?_
      clear hK K CS' S0 b0
      obtain ⟨wq, hwq⟩ : ∃ wq, wq = w4.drew.drewN j := ⟨_, rfl⟩
      rw [← hwq] at S1 b1 ⊢
      clear hwq
      refine wpAnyH_one 6 _ (by kernel_rfl) rfl fun K hK => ?_
      go_simp
      refine hK _ _ S1.out ?_
      clear hK K
      refine wpAnyH_one 7 _ (by kernel_rfl) rfl fun K hK => ?_
      go_simp
      refine hK _ _ S1.out ?_
      clear hK K
      refine wpAnyH_one 8 _ (by kernel_rfl) rfl fun K hK => ?_
      go_simp
      refine (CL.out _).mono ?_
      rintro e w6 ⟨rfl, L6⟩
      have S2 : Hid (Blk w6 g0 28 cs0 ∧ Blk w6 g1 28 cs1) := ⟨S1.out.1.over L6, S1.out.2.over L6⟩
      have b2 := Lib.hid (step b1.out L6)
      refine hK _ _ S2.out ?_
      clear hK K
      refine wpAnyH_one 9 _ (by kernel_rfl) rfl fun K hK => ?_
      go_simp
      refine hK _ _ S2.out ?_
      clear hK K
      refine wpAnyH_one 10 _ (by kernel_rfl) rfl fun K hK => ?_
      go_simp
      refine hK _ _ S2.out ?_
      clear hK K
      refine wpAnyH_done (by kernel_rfl) ?_ _
      go_wp2_with fail
      go_ret
      exact ⟨rfl, b2.out⟩
    · have m1 : mayP a1 = false := by simpa using m1
      have CP0 : Hid (∀ w : World, Calls Try.prog 10 #[hv a0] w fun e w' => ∃ A', e = .returned (.tuple #[.slice A' 64 64, .int .i64 0]) ∧ Fresh w' w.heap.size A' (putH a0) ∧ Below w.heap.size w w') := fun w => put_may w a0 k0 m0
      have CP1 : Hid (∀ w : World, Calls Try.prog 10 #[hv a1] w fun e w' => ∃ A', e = .returned (.tuple #[.slice A' 0 0, .int .i64 2]) ∧ Below w.heap.size w w') := fun w => put_may_not w a1 k1 m1
      obtain ⟨cs0, hc0⟩ : ∃ cs, cs = hcells a0 := ⟨_, rfl⟩
      obtain ⟨cs1, hc1⟩ : ∃ cs, cs = hcells a1 := ⟨_, rfl⟩
      unfold hv at CP0 CP1 ⊢
      rw [← hc0] at CP0 HL0 ⊢
      rw [← hc1] at CP1 HL1 ⊢
      clear m0 m1 k0 k1 hc0 hc1
      go_enter Try.func7, Try.ntmps7
      go_wp2_with (first
        | ((with_reducible show wpList _ _ _ (⟨some 2, _, _, _, _, _⟩ :: _) _ _); refine wpList_box_blk rfl _ (.tmp 0) rfl cs0 rfl ?_; intro g0 w1 hg1 hg2 B1 L1)
        | ((with_reducible show wpList _ _ _ (⟨some 3, _, _, _, _, _⟩ :: _) _ _); refine wpList_box_blk rfl _ (.tmp 1) rfl cs1 rfl ?_; intro g1 w2 hg3 hg4 X2 L2; have B2 := Lib.hid (B1.out.over L2.out); have L12 := Lib.hid (step L1.out L2.out))
        | ((with_reducible show wpList _ _ _ (⟨some 10, _, _, _, _, _⟩ :: _) _ _); refine wpList_load_blk rfl _ (.tmp 2) rfl g0 rfl _ cs0 B2 26 _ Try.underlying28 rfl size_hd HL0 ?_)
        | fail)
      refine (CP0.out _).mono ?_
      rintro e w3 ⟨A', rfl, hf, L3⟩
      have B3 := Lib.hid (B2.out.over L3)
      have X3 := Lib.hid (X2.out.over L3)
      have L13 := Lib.hid (step L12.out L3)
      clear hf
      clear B1 L1 X2 L2 B2 L12 L3 CP0
      go_wp2_with (first
        | ((with_reducible show wpList _ _ _ (⟨some 15, _, _, _, _, _⟩ :: _) _ _); refine wpList_load_blk rfl _ (.tmp 3) rfl g1 rfl _ cs1 X3 26 _ Try.underlying28 rfl size_hd HL1 ?_)
        | fail)
      refine (CP1.out _).mono ?_
      rintro e w4 ⟨A2, rfl, L4⟩
      have L14 := Lib.hid (step L13.out L4)
      clear B3 X3 L13 L4 CP1
      go_wp2_with fail
      refine (CL.out _).mono ?_
      rintro e w5 ⟨rfl, L5⟩
      go_wp2
      go_ret
      exact ⟨rfl, step L14.out L5⟩
  · have m0 : mayP a0 = false := by simpa using m0
    have CP0 : Hid (∀ w : World, Calls Try.prog 10 #[hv a0] w fun e w' => ∃ A', e = .returned (.tuple #[.slice A' 0 0, .int .i64 2]) ∧ Below w.heap.size w w') := fun w => put_may_not w a0 k0 m0
    have CP1 : Hid (∀ w : World, Calls Try.prog 10 #[hv a1] w fun e w' => ∃ A' n er, e = .returned (.tuple #[.slice A' n n, .int .i64 er]) ∧ Below w.heap.size w w') := fun w => (PutH_any w a1 k1).mono fun e w' ⟨A', he, _, hb⟩ => ⟨A', _, _, he, hb⟩
    obtain ⟨cs0, hc0⟩ : ∃ cs, cs = hcells a0 := ⟨_, rfl⟩
    obtain ⟨cs1, hc1⟩ : ∃ cs, cs = hcells a1 := ⟨_, rfl⟩
    unfold hv at CP0 CP1 ⊢
    rw [← hc0] at CP0 HL0 ⊢
    rw [← hc1] at CP1 HL1 ⊢
    clear m0 k0 k1 hc0 hc1
    go_enter Try.func7, Try.ntmps7
    go_wp2_with (first
      | ((with_reducible show wpList _ _ _ (⟨some 2, _, _, _, _, _⟩ :: _) _ _); refine wpList_box_blk rfl _ (.tmp 0) rfl cs0 rfl ?_; intro g0 w1 hg1 hg2 B1 L1)
      | ((with_reducible show wpList _ _ _ (⟨some 3, _, _, _, _, _⟩ :: _) _ _); refine wpList_box_blk rfl _ (.tmp 1) rfl cs1 rfl ?_; intro g1 w2 hg3 hg4 X2 L2; have B2 := Lib.hid (B1.out.over L2.out); have L12 := Lib.hid (step L1.out L2.out))
      | ((with_reducible show wpList _ _ _ (⟨some 10, _, _, _, _, _⟩ :: _) _ _); refine wpList_load_blk rfl _ (.tmp 2) rfl g0 rfl _ cs0 B2 26 _ Try.underlying28 rfl size_hd HL0 ?_)
      | fail)
    refine (CP0.out _).mono ?_
    rintro e w3 ⟨A', rfl, L3⟩
    have B3 := Lib.hid (B2.out.over L3)
    have X3 := Lib.hid (X2.out.over L3)
    have L13 := Lib.hid (step L12.out L3)
    clear B1 L1 X2 L2 B2 L12 L3 CP0
    go_wp2_with (first
      | ((with_reducible show wpList _ _ _ (⟨some 15, _, _, _, _, _⟩ :: _) _ _); refine wpList_load_blk rfl _ (.tmp 3) rfl g1 rfl _ cs1 X3 26 _ Try.underlying28 rfl size_hd HL1 ?_)
      | fail)
    refine (CP1.out _).mono ?_
    rintro e w4 ⟨A2, n2, er2, rfl, L4⟩
    have L14 := Lib.hid (step L13.out L4)
    clear B3 X3 L13 L4 CP1
    go_wp2_with fail
    refine (CL.out _).mono ?_
    rintro e w5 ⟨rfl, L5⟩
    go_wp2
    go_ret
    exact ⟨rfl, step L14.out L5⟩
end Go.Proofs.Ythoddihoccpidaa
