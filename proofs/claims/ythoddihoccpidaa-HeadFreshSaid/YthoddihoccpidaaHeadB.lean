/-
  Layer 7 (head): the contract of head.May.
-/
import Derived.Test.YthoddihoccpidaaHeadA
import Derived.Test.YthoddihoccpidaaHeadQ
import Derived.Test.YthoddihoccpidaaSame
import Derived.Deep.DeepCutAuto
import Derived.Deep.RegionLaw
namespace Go.Proofs.Ythoddihoccpidaa
open Go.RowKit

/-- a call that leaves the world as it is, as a quiet region wants it -/
theorem quiet_as_is {P : Program} {f : FuncId} {args : Array Value} {w : World} {n : Nat} {v : Value}
    (h : ∀ w, Calls P f args w fun e w' => e = .returned v ∧ w = w') : Calls P f args (w.drewN n) fun e w'' => e = .returned v ∧ ∃ m, w'' = w.drewN m :=
  (h _).mono fun _ _ ⟨he, hm⟩ => ⟨he, n, hm.symm⟩

theorem guard_hd : Try.prog.eqGuardType Try.prog.depth 28 = false := by kernel_rfl

set_option maxHeartbeats 400000 in
theorem May_any (w : World) (h : Hd) (k : h.ok) :
    Calls Try.prog 13 #[hv h] w fun e w' => e = .returned (.bool (mayP h)) ∧ Below w.heap.size w w' := by
  have CK : Hid (∀ w : World, Calls Try.prog 15 #[.int .u16 h.cm] w fun e w' => e = .returned (.bool (known h.cm)) ∧ w = w') := fun w => Known_any w h.cm
  have CO : Hid (∀ w : World, Calls Try.prog 28 #[hv h] w fun e w' => e = .returned (hv (kindP h)) ∧ Below w.heap.size w w') := fun w => ofKind_any w h k
  have q0 : ∀ w : World, (Op.equalIn 10000 28 (.agg (hcells h).toArray) (.agg (hcells (kindP h)).toArray)).run Try.prog w = .ok (decide (h = kindP h)) w := fun w => run_equalIn_hd h (kindP h) k (kindP_ok k) w
  have hf := flag_rest h.fl k.fl.1 k.fl.2
  have HL := Lib.hid (hcells_len k)
  have HK := Lib.hid (hcells_len (kindP_ok k))
  have HM : Hid (mayP h = (known h.cm && (decide (h.fl < 16) && decide (h = kindP h)))) := by show _ = _; unfold mayP; rw [kindP_eq]
  obtain ⟨z, hz⟩ : ∃ z, z = decide (h = kindP h) := ⟨_, rfl⟩
  obtain ⟨fl, hfl⟩ : ∃ fl, fl = h.fl := ⟨_, rfl⟩
  obtain ⟨cm, hcm⟩ : ∃ cm, cm = h.cm := ⟨_, rfl⟩
  obtain ⟨cs, hcs⟩ : ∃ cs, cs = hcells h := ⟨_, rfl⟩
  obtain ⟨ds, hds⟩ : ∃ ds, ds = hcells (kindP h) := ⟨_, rfl⟩
  have qg := guard_hd
  unfold hv at CO ⊢
  rw [← hcs] at CO HL q0 ⊢
  rw [← hds] at CO HK q0
  rw [← hz] at q0 HM
  rw [← hfl] at hf HM
  rw [← hcm] at CK HM
  have HFL := Lib.hid hfl
  have HCM := Lib.hid hcm
  have HC := Lib.hid hcs
  have F2 : Hid (∀ (w : World) (g : Nat), Blk w g 28 cs → w.cell? ⟨g, 2, none⟩ = some (.int .u16 cm) ∧ w.cell? ⟨g, 4, none⟩ = some (.int .u32 fl)) := fun w g B => ⟨by rw [HCM.out]; exact HB.c2 (HB.of HC.out B), by rw [HFL.out]; exact HB.c4 (HB.of HC.out B)⟩
  clear hz hfl hcm hcs hds k HFL HCM HC
  by_cases hk : known cm = true
  · rw [hk] at CK HM
    by_cases h16 : fl < 16
    · rw [decide_eq_true h16] at hf HM
      rw [show mayP h = z from by rw [HM.out]; simp]
      clear hk h16 HM
      go_enter Try.func13, Try.ntmps13
      go_upto_region 1 with (first
        | ((with_reducible show wpList _ _ _ (⟨some 1, _, _, _, _, _⟩ :: _) _ _); refine wpList_box_blk rfl _ (.tmp 0) rfl cs rfl ?_; intro g w1 hg1 hg2 B1 L1)
        | fail)
      refine wp_region_held (S := fun w' => Blk w' g 28 cs) (by kernel_rfl) ?_
      change wpAnyH _ _ _ _ _ _ _ _ w1.drew
      have S0 : Hid (Blk w1.drew g 28 cs) := B1.out.drew
      have b0 : Hid (Below w.heap.size w w1.drew) := L1.out.drew
      have gc := (F2.out _ _ S0.out).1
      have gf := (F2.out _ _ S0.out).2
      clear B1 L1
      refine wpAnyH_one 0 _ (by kernel_rfl) rfl fun K hK => ?_
      go_simp
      refine hK _ _ S0.out ?_
      clear hK K
      refine wpAnyH_one 1 _ (by kernel_rfl) rfl fun K hK => ?_
      go_simp
      refine hK _ _ S0.out ?_
      clear hK K
      refine wpAnyH_one 2 _ (by kernel_rfl) rfl fun K hK => ?_
      go_simp
      refine (CK.out _).mono ?_
      rintro e v1 ⟨rfl, rfl⟩
      refine hK _ _ S0.out ?_
      clear hK K
      refine wpAnyH_one 3 _ (by kernel_rfl) rfl fun K hK => ?_
      go_simp
      refine hK _ _ S0.out ?_
      clear hK K
      refine wpAnyH_one 4 _ (by kernel_rfl) rfl fun K hK => ?_
      go_simp
      refine hK _ _ S0.out ?_
      clear hK K
      refine wpAnyH_one 5 _ (by kernel_rfl) rfl fun K hK => ?_
      go_simp
      refine hK _ _ S0.out ?_
      clear hK K
      refine wpAnyH_one 6 _ (by kernel_rfl) rfl fun K hK => ?_
      go_simp
      refine hK _ _ S0.out ?_
      clear hK K
      refine wpAnyH_one 7 _ (by kernel_rfl) rfl fun K hK => ?_
      go_simp
      refine hK _ _ S0.out ?_
      clear hK K
      refine wpAnyH_one 8 _ (by kernel_rfl) rfl fun K hK => ?_
      go_simp
      refine hK _ _ S0.out ?_
      clear hK K
      refine wpAnyH_one 9 _ (by kernel_rfl) rfl fun K hK => ?_
      go_simp
      refine hK _ _ S0.out ?_
      clear hK K
      refine wpAnyH_take (i := 10) (v := _) rfl (by kernel_rfl) (by kernel_rfl) (by kernel_rfl) (fun _ _ _ h => h) (yieldsIf_load_blk rfl _ (.tmp 1) rfl g rfl _ cs (fun _ h => h) 26 _ Try.underlying28 rfl size_hd HL) S0.out ?_
      refine wpAnyH_take (i := 11) (v := _) rfl (by kernel_rfl) (by kernel_rfl) (by kernel_rfl) (fun _ _ _ h => h) (yieldsIf_load_blk rfl _ (.tmp 1) rfl g rfl _ cs (fun _ h => h) 26 _ Try.underlying28 rfl size_hd HL) S0.out ?_
      refine wpAnyH_one 12 _ (by kernel_rfl) rfl fun K hK => ?_
      go_simp
      refine (CO.out _).mono ?_
      rintro e v2 ⟨rfl, b⟩
      have S2 : Hid (Blk v2 g 28 cs) := S0.out.over b
      have b2 := Lib.hid (step b0.out b)
      refine hK _ _ S2.out ?_
      clear hK K b
      refine wpAnyH_one 13 _ (by kernel_rfl) rfl fun K hK => ?_
      go_simp
      refine hK _ _ S2.out ?_
      clear hK K
      refine wpAnyH_one 14 _ (by kernel_rfl) rfl fun K hK => ?_
      go_simp
      refine hK _ _ S2.out ?_
      clear hK K
      refine wpAnyH_one 15 _ (by kernel_rfl) rfl fun K hK => ?_
      go_simp
      refine hK _ _ S2.out ?_
      clear hK K
      refine wpAnyH_done (by kernel_rfl) ?_ _
      go_wp2_with fail
      go_ret
      exact ⟨rfl, b2.out⟩
    · have h16' : decide (fl < 16) = false := by simpa using h16
      rw [h16'] at hf HM
      rw [show mayP h = false from by rw [HM.out]; simp]
      clear hk h16 h16' HM CO q0
      go_enter Try.func13, Try.ntmps13
      go_upto_region 1 with (first
        | ((with_reducible show wpList _ _ _ (⟨some 1, _, _, _, _, _⟩ :: _) _ _); refine wpList_box_blk rfl _ (.tmp 0) rfl cs rfl ?_; intro g w1 hg1 hg2 B1 L1)
        | fail)
      have gc := (F2.out _ _ B1.out).1
      have gf := (F2.out _ _ B1.out).2
      go_quiet ((go_at_call 15; exact quiet_as_is CK.out))
      go_wp2_with fail
      go_ret
      exact ⟨rfl, below_drewN L1.out _⟩
  · have hk' : known cm = false := by simpa using hk
    rw [hk'] at CK HM
    rw [show mayP h = false from by rw [HM.out]; simp]
    clear hk hk' HM CO q0
    go_enter Try.func13, Try.ntmps13
    go_upto_region 1 with (first
      | ((with_reducible show wpList _ _ _ (⟨some 1, _, _, _, _, _⟩ :: _) _ _); refine wpList_box_blk rfl _ (.tmp 0) rfl cs rfl ?_; intro g w1 hg1 hg2 B1 L1)
      | fail)
    have gc := (F2.out _ _ B1.out).1
    have gf := (F2.out _ _ B1.out).2
    go_quiet ((go_at_call 15; exact quiet_as_is CK.out))
    go_wp2_with fail
    go_ret
    exact ⟨rfl, below_drewN L1.out _⟩
end Go.Proofs.Ythoddihoccpidaa
