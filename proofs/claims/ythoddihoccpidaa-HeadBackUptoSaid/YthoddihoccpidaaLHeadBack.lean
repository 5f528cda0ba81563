/-
  The walk of the statement HeadBack: what is put is got, whatever is ahead and behind.
-/
import Derived.Test.YthoddihoccpidaaCopyH
namespace Go.Proofs.Ythoddihoccpidaa
open Go.RowKit
set_option linter.unusedVariables false

set_option maxRecDepth 100000 in
set_option maxHeartbeats 2000000 in
theorem walk_HeadBack (W : World) (a0 : Hd) (k0 : a0.ok) (A1 : Option Addr) (n1 c1 : Nat) (z1 : List Int) (l1 : n1 ≤ c1) (r1 : c1 ≤ 1048576) (h1 : Holds W W.heap.size A1 c1 c1 z1)
    (A2 : Option Addr) (n2 c2 : Nat) (z2 : List Int) (l2 : n2 ≤ c2) (r2 : c2 ≤ 1048576) (h2 : Holds W W.heap.size A2 c2 c2 z2) :
    Calls Try.prog 5 #[hv a0, .slice A1 n1 c1, .slice A2 n2 c2] W fun e W' => e = .returned (.bool true) ∧ Below W.heap.size W W' := by
  have HL := Lib.hid (hcells_len k0)
  have HO := Lib.hid (hcells_one a0)
  have CL : Hid (∀ w : World, Calls Try.prog 17 #[] w fun e w' => e = .returned (.bool true) ∧ Below w.heap.size w w') := lives_any
  by_cases hm : mayP a0 = true
  · have CP : Hid (∀ w : World, Calls Try.prog 10 #[hv a0] w fun e w' => ∃ A', e = .returned (.tuple #[.slice A' 64 64, .int .i64 0]) ∧ Fresh w' w.heap.size A' (putH a0) ∧ Below w.heap.size w w') := fun w => put_may w a0 k0 hm
    have HPL : Hid ((putH a0).length = 64) := putH_len k0.len
    have HPB : Hid (Bytes (putH a0)) := putH_bytes k0.byte
    have g1 := h1.head l1
    have g2 := h2.head l2
    obtain ⟨xs, hxs⟩ : ∃ xs, xs = z1.take n1 := ⟨_, rfl⟩
    obtain ⟨ys, hys⟩ : ∃ ys, ys = z2.take n2 := ⟨_, rfl⟩
    rw [← hxs] at g1
    rw [← hys] at g2
    clear hxs hys h1 h2
    have HXL := Lib.hid g1.len
    have HYL := Lib.hid g2.len
    have HXB := Lib.hid g1.byte
    have HYB := Lib.hid g2.byte
    have CG : Hid (∀ (w : World) (A : Option Addr) (n c : Nat), Holds w w.heap.size A n c (xs ++ putH a0 ++ ys) → Calls Try.prog 19 #[.slice A n c, .int .i64 (n1 : Int)] w fun e w' => e = .returned (.tuple #[hv a0, .int .i64 0]) ∧ Below w.heap.size w w') := fun w A n c hh => by
      have := get_put_any w A n c a0 k0 hm xs ys hh
      rwa [HXL.out] at this
    have q0 : ∀ w : World, (Op.equalIn 10000 28 (.agg (hcells a0).toArray) (.agg (hcells a0).toArray)).run Try.prog w = .ok true w := fun w => by
      rw [run_equalIn_hd a0 a0 k0 k0 w, decide_eq_true rfl]
    have qg := guard_hd
    have ZH := Lib.hid zero_hd
    have HZ := Lib.hid (hcells_len zeroHd_ok)
    obtain ⟨zs, hzs⟩ : ∃ zs, zs = hcells zeroHd := ⟨_, rfl⟩
    obtain ⟨cs, hcs⟩ : ∃ cs, cs = hcells a0 := ⟨_, rfl⟩
    obtain ⟨ps, hps⟩ : ∃ ps, ps = putH a0 := ⟨_, rfl⟩
    unfold hv at CP CG ⊢
    rw [← hcs] at CP CG HL HO q0 ⊢
    rw [← hzs] at ZH HZ
    rw [← hps] at CP CG HPL HPB
    have G1 := Lib.hid g1
    have G2 := Lib.hid g2
    clear hm k0 hzs hcs hps g1 g2
    go_enter Try.func5, Try.ntmps5
    go_wp2_with (first
      | ((with_reducible show wpList _ _ _ (⟨some 3, _, _, _, _, _⟩ :: _) _ _); refine wpList_box_blk rfl _ (.tmp 0) rfl cs rfl ?_; intro g w1 hg1 hg2 B1 L1)
      | ((with_reducible show wpList _ _ _ (⟨some 13, _, _, _, _, _⟩ :: _) _ _); refine wpList_load_blk rfl _ (.tmp 3) rfl g rfl _ cs B1 26 _ Try.underlying28 rfl size_hd HL ?_)
      | fail)
    refine (CP.out _).mono ?_
    rintro e w2 ⟨A', rfl, hf, L2⟩
    have hh2 := Lib.hid (hf.holds HPL.out HPB.out (by decide : 64 ≤ 281474976710656))
    have B2 := Lib.hid (B1.out.over L2)
    have L12 := Lib.hid (step L1.out L2)
    have hg3 := B2.out.lt
    clear B1 L1 L2 CP hf hg2
    go_wp2_with fail
    refine (Copy_any w2 A1 n1 c1 xs (G1.out.over L12.out) (by omega)).mono ?_
    rintro e w3 ⟨v3, rfl, O3, L3⟩
    have O3' := Lib.hid O3
    have hk3 := Lib.hid (hh2.out.below L3)
    have B3 := Lib.hid (B2.out.over L3)
    have L13 := Lib.hid (step L12.out L3)
    have hs12 := L12.out.size
    have hs3 := L3.size
    have LEN1 : Hid (xs.length + ps.length ≤ 140737488355328) := by show _ ≤ _; have := HXL.out; have := HPL.out; omega
    have LEN2 : Hid ((xs ++ ps).length + ys.length ≤ 140737488355328) := by show _ ≤ _; rw [List.length_append]; have := HXL.out; have := HPL.out; have := HYL.out; omega
    clear O3 B2 L3 hh2
    go_wp2_with (first
      | (at_builtin; refine wpList_append_bytes rfl (.tmp 32) (.tmp 33) rfl w2.heap.size v3 xs rfl O3'.out w2.heap.size A' 64 64 ps rfl hk3.out LEN1.out hs3 ?_; intro v4 w4 O4 L4 hgr4; have L14 := Lib.hid (L13.out.trans (L4.mono hs12)); have G24 := Lib.hid (G2.out.below L14.out))
      | (at_builtin; refine wpList_append_bytes rfl (.tmp 35) (.tmp 36) rfl w2.heap.size v4 (xs ++ ps) rfl O4.out W.heap.size A2 n2 c2 ys rfl G24.out LEN2.out (Nat.le_trans hs3 L4.size) ?_; intro v5 w5 O5 L5 hgr5)
      | fail)
    have L15 := Lib.hid (L14.out.trans (L5.mono hs12))
    have L35 := Lib.hid (L4.trans L5)
    have B5 := Lib.hid (B3.out.below L35.out hg3)
    obtain ⟨A5, c5, hv5, hh5⟩ := O5.out.holds ((HXB.out.append HPB.out).append HYB.out) (by have := LEN2.out; rw [List.length_append]; omega)
    obtain ⟨n5, hn5⟩ : ∃ n, n = (xs ++ ps ++ ys).length := ⟨_, rfl⟩
    rw [← hn5] at hv5 hh5
    have HH5 := Lib.hid hh5
    subst hv5
    clear hn5 hh5 O5 O4 hgr4 hgr5 L4 L5 L14 G24 O3' hk3 L13 B3 L35
    go_wp2_with fail
    refine (CG.out _ _ _ _ HH5.out).mono ?_
    rintro e w6 ⟨rfl, L6⟩
    have L16 := Lib.hid (step L15.out L6)
    have B6 := Lib.hid (B5.out.over L6)
    have hg6 := B6.out.lt
    clear L15 L6 B5 HH5 CG
    go_wp2_with (first
      | ((with_reducible show wpList _ _ _ (⟨some 10, _, _, _, _, _⟩ :: _) _ _); refine wpList_alloc_blk rfl _ rfl zs _ ZH ?_; intro g4 w7 hg41 hg42 X4 L7)
      | ((with_reducible show wpList _ _ _ (⟨none, .store _ (.tmp 10) _, _, _, _, _⟩ :: _) _ _); refine wpList_store_blk rfl _ (.tmp 10) (.tmp 43) rfl g4 rfl _ zs cs rfl X4 26 size_hd HZ HL HO ?_; intro w8 X8 O8 hg8; have L68 : Hid (Below w6.heap.size w6 w8) := below_only L7.out O8.out hg41; have B8 := Lib.hid (B6.out.over L68.out))
      | ((with_reducible show wpList _ _ _ (⟨some 53, _, _, _, _, _⟩ :: _) _ _); refine wpList_load_want (by kernel_rfl) _ (.tmp 10) rfl g4 rfl _ cs X8 26 _ Try.underlying28 rfl size_hd HL ?_)
      | ((with_reducible show wpList _ _ _ (⟨some 54, _, _, _, _, _⟩ :: _) _ _); refine wpList_load_want (by kernel_rfl) _ (.tmp 3) rfl g rfl _ cs B8 26 _ Try.underlying28 rfl size_hd HL ?_)
      | fail)
    refine (CL.out _).mono ?_
    rintro e w9 ⟨rfl, L9⟩
    go_wp2
    go_ret
    exact ⟨rfl, step (step L16.out L68.out) L9⟩
  · have hm' : mayP a0 = false := by simpa using hm
    have CP : Hid (∀ w : World, Calls Try.prog 10 #[hv a0] w fun e w' => ∃ A', e = .returned (.tuple #[.slice A' 0 0, .int .i64 2]) ∧ Below w.heap.size w w') := fun w => put_may_not w a0 k0 hm'
    have CM : Hid (∀ w : World, Calls Try.prog 13 #[hv a0] w fun e w' => e = .returned (.bool false) ∧ Below w.heap.size w w') := fun w => by
      have := May_any w a0 k0
      rwa [hm'] at this
    obtain ⟨cs, hcs⟩ : ∃ cs, cs = hcells a0 := ⟨_, rfl⟩
    unfold hv at CP CM ⊢
    rw [← hcs] at CP CM HL ⊢
    clear hm hm' k0 hcs
    go_enter Try.func5, Try.ntmps5
    go_wp2_with (first
      | ((with_reducible show wpList _ _ _ (⟨some 3, _, _, _, _, _⟩ :: _) _ _); refine wpList_box_blk rfl _ (.tmp 0) rfl cs rfl ?_; intro g w1 hg1 hg2 B1 L1)
      | ((with_reducible show wpList _ _ _ (⟨some 13, _, _, _, _, _⟩ :: _) _ _); refine wpList_load_blk rfl _ (.tmp 3) rfl g rfl _ cs B1 26 _ Try.underlying28 rfl size_hd HL ?_)
      | fail)
    refine (CP.out _).mono ?_
    rintro e w2 ⟨A', rfl, L2⟩
    have B2 := Lib.hid (B1.out.over L2)
    have L12 := Lib.hid (step L1.out L2)
    clear B1 L1 L2 CP
    go_wp2_with (first
      | ((with_reducible show wpList _ _ _ (⟨some 19, _, _, _, _, _⟩ :: _) _ _); refine wpList_load_blk rfl _ (.tmp 3) rfl g rfl _ cs B2 26 _ Try.underlying28 rfl size_hd HL ?_)
      | fail)
    refine (CM.out _).mono ?_
    rintro e w3 ⟨rfl, L3⟩
    go_wp2_with fail
    refine (CL.out _).mono ?_
    rintro e w4 ⟨rfl, L4⟩
    go_wp2
    go_ret
    exact ⟨rfl, step (step L12.out L3) L4⟩
end Go.Proofs.Ythoddihoccpidaa
