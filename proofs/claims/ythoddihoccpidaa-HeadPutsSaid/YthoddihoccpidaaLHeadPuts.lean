/-
  The walk of the statement HeadPuts: whether a head may be, and its bytes, are the document's; so is which commands there are.
-/
import Derived.Test.YthoddihoccpidaaCopyH
import Derived.Test.YthoddihoccpidaaRefH2
namespace Go.Proofs.Ythoddihoccpidaa
open Go.RowKit
set_option linter.unusedVariables false

set_option maxRecDepth 100000 in
set_option maxHeartbeats 2000000 in
theorem walk_HeadPuts (W : World) (a0 : Hd) (k0 : a0.ok) (a1 : Int) (w1 : 0 ≤ a1 ∧ a1 ≤ 65535) :
    Calls Try.prog 3 #[hv a0, .int .u16 a1] W fun e W' => e = .returned (.bool true) ∧ Below W.heap.size W W' := by
  have HL := Lib.hid (hcells_len k0)
  have CL : Hid (∀ w : World, Calls Try.prog 17 #[] w fun e w' => e = .returned (.bool true) ∧ Below w.heap.size w w') := lives_any
  have CP : Hid (∀ w : World, Calls Try.prog 10 #[hv a0] w fun e w' => ∃ A', e = .returned (.tuple #[.slice A' (putOfH a0).length (putOfH a0).length, .int .i64 (putErrH a0)]) ∧ Fresh w' w.heap.size A' (putOfH a0) ∧ Below w.heap.size w w') := fun w => PutH_any w a0 k0
  have CR : Hid (∀ w : World, Calls Try.prog 11 #[hv a0] w fun e w' => ∃ v, e = .returned (.tuple #[v, .int .i64 (putErrH a0)]) ∧ Own w' w.heap.size v (putOfH a0) ∧ Below w.heap.size w w') := fun w => RPutH_any w a0 k0
  have CM : Hid (∀ w : World, Calls Try.prog 13 #[hv a0] w fun e w' => e = .returned (.bool (mayP a0)) ∧ Below w.heap.size w w') := fun w => May_any w a0 k0
  have CN : Hid (∀ w : World, Calls Try.prog 14 #[hv a0] w fun e w' => e = .returned (.bool (mayP a0)) ∧ Below w.heap.size w w') := fun w => RMay_any w a0 k0
  have CK : Hid (∀ w : World, Calls Try.prog 15 #[.int .u16 a1] w fun e w' => e = .returned (.bool (known a1)) ∧ w = w') := fun w => Known_any w a1
  have CJ : Hid (∀ w : World, Calls Try.prog 16 #[.int .u16 a1] w fun e w' => e = .returned (.bool (known a1)) ∧ Below w.heap.size w w') := fun w => RKnown_any w a1
  have hps : (putOfH a0).length ≤ 64 ∧ Bytes (putOfH a0) := by
    unfold putOfH
    split
    · exact ⟨by rw [putH_len k0.len]; omega, putH_bytes k0.byte⟩
    · exact ⟨by simp, Bytes.nil⟩
  obtain ⟨hn, hb⟩ := hps
  have HPB := Lib.hid hb
  obtain ⟨ps, hps⟩ : ∃ ps, ps = putOfH a0 := ⟨_, rfl⟩
  rw [← hps] at CP CR HPB hn
  obtain ⟨n, hnl⟩ : ∃ n, n = ps.length := ⟨_, rfl⟩
  have HPL : Hid (ps.length = n) := hnl.symm
  rw [← hnl] at CP hn
  have HN : Hid (n ≤ 64) := hn
  obtain ⟨er, her⟩ : ∃ er, er = putErrH a0 := ⟨_, rfl⟩
  rw [← her] at CP CR
  obtain ⟨m, hm⟩ : ∃ m, m = mayP a0 := ⟨_, rfl⟩
  rw [← hm] at CM CN
  obtain ⟨kn, hkn⟩ : ∃ m, m = known a1 := ⟨_, rfl⟩
  rw [← hkn] at CK CJ
  obtain ⟨cs, hcs⟩ : ∃ cs, cs = hcells a0 := ⟨_, rfl⟩
  unfold hv at CP CR CM CN ⊢
  rw [← hcs] at CP CR CM CN HL ⊢
  clear hb hps hnl her hm hkn hcs k0 hn
  go_enter Try.func3, Try.ntmps3
  go_wp2_with (first
    | ((with_reducible show wpList _ _ _ (⟨some 2, _, _, _, _, _⟩ :: _) _ _); refine wpList_box_blk rfl _ (.tmp 0) rfl cs rfl ?_; intro g w1 hg1 hg2 B1 L1)
    | ((with_reducible show wpList _ _ _ (⟨some 10, _, _, _, _, _⟩ :: _) _ _); refine wpList_load_blk rfl _ (.tmp 2) rfl g rfl _ cs B1 26 _ Try.underlying28 rfl size_hd HL ?_)
    | fail)
  refine (CP.out _).mono ?_
  rintro e w2 ⟨A', rfl, hf, L2⟩
  have B2 := Lib.hid (B1.out.over L2)
  have L12 := Lib.hid (step L1.out L2)
  have hh2 := Lib.hid (hf.holds HPL.out HPB.out (by have := HN.out; omega))
  clear B1 L1 L2 CP hf
  go_wp2_with (first
    | ((with_reducible show wpList _ _ _ (⟨some 15, _, _, _, _, _⟩ :: _) _ _); refine wpList_load_blk rfl _ (.tmp 2) rfl g rfl _ cs B2 26 _ Try.underlying28 rfl size_hd HL ?_)
    | fail)
  refine (CR.out _).mono ?_
  rintro e w3 ⟨v2, rfl, ho, L3⟩
  obtain ⟨A2, c2, rfl, hk⟩ := ho.holds HPB.out (by have := HN.out; have := HPL.out; omega)
  rw [HPL.out] at hk ⊢
  have hh3 := hh2.out.over L3
  have B3 := Lib.hid (B2.out.over L3)
  have L13 := Lib.hid (step L12.out L3)
  have CS := Same_any w3.drew _ _ _ _ _ _ _ _ ps ps hh3.drew hk.drew
  rw [decide_eq_true rfl] at CS
  have CS' := Lib.hid CS
  clear CS hh3 hk B2 L12 L3 hh2 ho CR
  go_upto_region 3 with fail
  refine wp_region_held (S := fun w' => Blk w' g 28 cs) (by kernel_rfl) ?_
  change wpAnyH _ _ _ _ _ _ _ _ w3.drew
  have S0 : Hid (Blk w3.drew g 28 cs) := B3.out.drew
  have b0 : Hid (Below W.heap.size W w3.drew) := L13.out.drew
  refine wpAnyH_take (i := 0) (v := _) rfl (by kernel_rfl) (by kernel_rfl) (by kernel_rfl) (fun _ _ _ h => h) (yieldsIf_move (by kernel_rfl) (.tmp 5) rfl (.slice A' n n) (by kernel_rfl)) S0.out ?_
  refine wpAnyH_take (i := 1) (v := _) rfl (by kernel_rfl) (by kernel_rfl) (by kernel_rfl) (fun _ _ _ h => h) (yieldsIf_move (by kernel_rfl) (.tmp 7) rfl (.slice A2 n c2) (by kernel_rfl)) S0.out ?_
  refine wpAnyH_one 2 _ (by kernel_rfl) rfl fun K hK => ?_
  go_simp
  refine (CS'.out).mono ?_
  rintro e v1 ⟨rfl, j, rfl⟩
  have S1 : Hid (Blk (w3.drew.drewN j) g 28 cs) := S0.out.drewN j
  have b1 : Hid (Below W.heap.size W (w3.drew.drewN j)) := below_drewN b0.out j
  refine hK _ _ S1.out ?_
  clear hK K CS'
  obtain ⟨wq, hwq⟩ : ∃ w, w = w3.drew.drewN j := ⟨_, rfl⟩
  rw [← hwq] at S1 b1 ⊢
  clear hwq
  refine wpAnyH_one 3 _ (by kernel_rfl) rfl fun K hK => ?_
  go_simp
  refine hK _ _ S1.out ?_
  clear hK K
  refine wpAnyH_take (i := 4) (v := _) rfl (by kernel_rfl) (by kernel_rfl) (by kernel_rfl) (fun _ _ _ h => h) (yieldsIf_move (by kernel_rfl) (.tmp 6) rfl (.int .i64 er) (by kernel_rfl)) S1.out ?_
  refine wpAnyH_take (i := 5) (v := _) rfl (by kernel_rfl) (by kernel_rfl) (by kernel_rfl) (fun _ _ _ h => h) (yieldsIf_move (by kernel_rfl) (.tmp 8) rfl (.int .i64 er) (by kernel_rfl)) S1.out ?_
  refine wpAnyH_one 6 _ (by kernel_rfl) rfl fun K hK => ?_
  go_simp
  refine hK _ _ S1.out ?_
  clear hK K
  refine wpAnyH_one 7 _ (by kernel_rfl) rfl fun K hK => ?_
  go_simp
  refine hK _ _ S1.out ?_
  clear hK K
  refine wpAnyH_one 8 _ (by kernel_rfl) rfl fun K hK => ?_
  go_simp
  refine hK _ _ S1.out ?_
  clear hK K
  refine wpAnyH_take (i := 9) (v := _) rfl (by kernel_rfl) (by kernel_rfl) (by kernel_rfl) (fun _ _ _ h => h) (yieldsIf_load_blk (by kernel_rfl) _ (.tmp 2) rfl g (by kernel_rfl) _ cs (fun _ h => h) 26 _ Try.underlying28 rfl size_hd HL) S1.out ?_
  refine wpAnyH_take (i := 11) (v := _) rfl (by kernel_rfl) (by kernel_rfl) (by kernel_rfl) (fun _ _ _ h => h) (yieldsIf_load_blk (by kernel_rfl) _ (.tmp 2) rfl g (by kernel_rfl) _ cs (fun _ h => h) 26 _ Try.underlying28 rfl size_hd HL) S1.out ?_
  refine wpAnyH_one 10 _ (by kernel_rfl) rfl fun K hK => ?_
  go_simp
  refine (CM.out _).mono ?_
  rintro e v2 ⟨rfl, b⟩
  have S2 : Hid (Blk v2 g 28 cs) := S1.out.over b
  have b2 : Hid (Below W.heap.size W v2) := Lib.hid (step b1.out b)
  refine hK _ _ S2.out ?_
  clear hK K b
  refine wpAnyH_one 12 _ (by kernel_rfl) rfl fun K hK => ?_
  go_simp
  refine (CN.out _).mono ?_
  rintro e v3 ⟨rfl, b⟩
  have S3 : Hid (Blk v3 g 28 cs) := S2.out.over b
  have b3 : Hid (Below W.heap.size W v3) := Lib.hid (step b2.out b)
  refine hK _ _ S3.out ?_
  clear hK K b
  refine wpAnyH_one 13 _ (by kernel_rfl) rfl fun K hK => ?_
  go_simp
  refine hK _ _ S3.out ?_
  clear hK K
  refine wpAnyH_one 14 _ (by kernel_rfl) rfl fun K hK => ?_
  go_simp
  refine hK _ _ S3.out ?_
  clear hK K
  refine wpAnyH_one 15 _ (by kernel_rfl) rfl fun K hK => ?_
  go_simp
  refine hK _ _ S3.out ?_
  clear hK K
  refine wpAnyH_take (i := 16) (v := _) rfl (by kernel_rfl) (by kernel_rfl) (by kernel_rfl) (fun _ _ _ h => h) (yieldsIf_move (by kernel_rfl) (.tmp 1) rfl (.int .u16 a1) (by kernel_rfl)) S3.out ?_
  refine wpAnyH_take (i := 18) (v := _) rfl (by kernel_rfl) (by kernel_rfl) (by kernel_rfl) (fun _ _ _ h => h) (yieldsIf_move (by kernel_rfl) (.tmp 1) rfl (.int .u16 a1) (by kernel_rfl)) S3.out ?_
  refine wpAnyH_one 17 _ (by kernel_rfl) rfl fun K hK => ?_
  go_simp
  refine (CK.out _).mono ?_
  rintro e v4 ⟨rfl, rfl⟩
  have S4 : Hid (Blk v3 g 28 cs) := S3.out
  have b4 : Hid (Below W.heap.size W v3) := b3.out
  refine hK _ _ S4.out ?_
  clear hK K 
  refine wpAnyH_one 19 _ (by kernel_rfl) rfl fun K hK => ?_
  go_simp
  refine (CJ.out _).mono ?_
  rintro e v5 ⟨rfl, b⟩
  have S5 : Hid (Blk v5 g 28 cs) := S4.out.over b
  have b5 : Hid (Below W.heap.size W v5) := Lib.hid (step b4.out b)
  refine hK _ _ S5.out ?_
  clear hK K b
  refine wpAnyH_one 20 _ (by kernel_rfl) rfl fun K hK => ?_
  go_simp
  refine hK _ _ S5.out ?_
  clear hK K
  refine wpAnyH_one 21 _ (by kernel_rfl) rfl fun K hK => ?_
  go_simp
  refine hK _ _ S5.out ?_
  clear hK K
  refine wpAnyH_one 22 _ (by kernel_rfl) rfl fun K hK => ?_
  go_simp
  refine hK _ _ S5.out ?_
  clear hK K
  refine wpAnyH_one 23 _ (by kernel_rfl) rfl fun K hK => ?_
  go_simp
  refine (CL.out _).mono ?_
  rintro e v6 ⟨rfl, b⟩
  have S6 : Hid (Blk v6 g 28 cs) := S5.out.over b
  have b6 : Hid (Below W.heap.size W v6) := Lib.hid (step b5.out b)
  refine hK _ _ S6.out ?_
  clear hK K b
  refine wpAnyH_one 24 _ (by kernel_rfl) rfl fun K hK => ?_
  go_simp
  refine hK _ _ S6.out ?_
  clear hK K
  refine wpAnyH_one 25 _ (by kernel_rfl) rfl fun K hK => ?_
  go_simp
  refine hK _ _ S6.out ?_
  clear hK K
  refine wpAnyH_done (by kernel_rfl) ?_ _
  go_wp2_with fail
  go_ret
  exact ⟨rfl, b6.out⟩
end Go.Proofs.Ythoddihoccpidaa
