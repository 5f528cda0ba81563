/-
  Contract of the document's GetAsk (written by tools/gen_reft9.py).
-/
import Derived.Test.YtepkamkgodbffaaDoorYRefT8
import Derived.Test.YtepkamkgodbffaaDoorYTalkQ
namespace Go.Proofs.YtepkamkgodbffaaDoor
open Go.RowKit
set_option linter.unusedVariables false
set_option maxRecDepth 100000

theorem fld_ask0 (g : Nat) (w : World) : (Instr.fieldAt 32 (.pointer (some ⟨g, 0, none⟩)) 0).run Tryd.prog w = .ok (.pointer (some ⟨g, 0, none⟩)) w := by go_simp
set_option maxHeartbeats 8000000 in
theorem RGetAsk_any (w : World) (c : Int) (A : Option Addr) (n k : Nat) (xs : List Int) (hc : 0 ≤ c ∧ c ≤ 65535) (hx : Holds w w.heap.size A n k xs) :
    Calls Tryd.prog 23 #[.int .u16 c, .slice A n k] w (PGAskPost w c xs) := by
  have hl := hx.len
  have hrm := hx.room
  have HX := Lib.hid hx
  have hby := hx.byte
  have ZH := Lib.hid zero_ask
  have BZ := built_ask
  have HZ : Hid ((acells (.slice none 0 0) (.slice none 0 0) (.slice none 0 0) zeroAsk).length = 69) := acells_len zeroAsk_ok
  have HZ1 : Hid (∀ v ∈ (acells (.slice none 0 0) (.slice none 0 0) (.slice none 0 0) zeroAsk), v.oneCell' = true) := (zeroAsk_is w 0).one
  have B1 : Tryd.prog.built 93 [(0, .slice A n k)] = some ([.slice A n k, .int .i64 0, .int .i64 0] : List Value).toArray := by kernel_rfl
  have HE : Hid (∀ er, gaskErr c xs = er → er ≠ 0 → ∀ e w', e = .returned (.tuple #[.agg (acells (.slice none 0 0) (.slice none 0 0) (.slice none 0 0) zeroAsk).toArray, .int .i64 er]) → Below w.heap.size w w' → PGAskPost w c xs e w') := by
    intro er h1 h2 e w' he hb
    unfold PGAskPost gaskOf
    rw [h1, if_neg h2]
    exact ⟨_, he, zeroAsk_is _ _, hb⟩
  have CK : Hid (∀ w' : World, Calls Tryd.prog 42 #[.int .u16 c] w' fun e w2 => e = .returned (.bool (knownT c)) ∧ w' = w2) := fun w' => RKnownT_any w' c
  obtain ⟨zs, hzs⟩ : ∃ zs, zs = (acells (.slice none 0 0) (.slice none 0 0) (.slice none 0 0) zeroAsk) := ⟨_, rfl⟩
  obtain ⟨tl, htl⟩ : ∃ tl, tl = zs.tail := ⟨_, rfl⟩
  have HTL : Hid (zs = .slice none 0 0 :: tl) := by show _ = _; rw [htl, hzs]; rfl
  have HTLL : Hid (tl.length = 68) := by show _ = _; have h := HZ.out; rw [← hzs, HTL.out, List.length_cons] at h; omega
  have HZS := Lib.hid hzs
  rw [← hzs] at ZH BZ HZ HZ1 HE
  clear hzs htl
  by_cases hk : knownT c = true
  rotate_left
  · have HQ := Lib.hid (HE.out 2 (by unfold gaskErr; rw [if_neg hk]) (by decide))
    have hk' : knownT c = false := by simpa using hk
    rw [hk'] at CK
    clear hk hk' HE hx
    go_enter Tryd.func23, Tryd.ntmps23
    go_wp2_with (first
      | ((with_reducible show wpList _ _ _ (⟨some 4, _, _, _, _, _⟩ :: _) _ _); refine wpList_alloc_blk rfl _ rfl zs _ ZH ?_; intro h w1 hg1 hg2 Z1 L1)
      | fail)
    refine (CK.out w1).mono ?_
    rintro e w' ⟨rfl, rfl⟩
    go_wp2_with (first
      | ((with_reducible show wpList _ _ _ (⟨some 18, _, _, _, _, _⟩ :: _) _ _); refine wpList_build_none rfl _ rfl zs BZ ?_)
      | ((with_reducible show wpList _ _ _ (⟨none, .store _ (.tmp 4) _, _, _, _, _⟩ :: _) _ _); refine wpList_store_blk rfl _ (.tmp 4) (.tmp 18) rfl h rfl _ zs zs rfl Z1 69 size_ask HZ HZ HZ1 ?_; intro wz KZ OZ hgz)
      | fail)
    refine bodyPost_ret (v := .tuple #[.agg zs.toArray, .int .i64 2]) ?_ rfl (HQ.out _ _ rfl (below_only L1.out OZ.out hg1))
    exact results_cell_two rfl _ _ h _ _ (0, 0) _ rfl KZ.out Tryd.underlying32 rfl (by rw [size_ask]; have := HZ.out; simp [this]) rfl
  rw [hk] at CK
  have p0 : rd0.p ≤ n := Nat.zero_le _
  by_cases h0 : c = 0
  · subst h0
    obtain ⟨D2, D1⟩ := docDial_take hby rd0
    have hm16 := rdMost16 hby rd0
    obtain ⟨N, hN⟩ : ∃ N : Nat, (rdMost xs 2 16 3 rd0).1 = (N : Int) := ⟨(rdMost xs 2 16 3 rd0).1.toNat, by omega⟩
    have hdd : docDial xs rd0 = rdDials xs (rdMost xs 2 16 3 rd0).2 N := by unfold docDial; rw [hN, Int.toNat_natCast]
    have hN16 : N ≤ 16 := by omega
    have p1 : (rdMost xs 2 16 3 rd0).2.p ≤ n := rdMost_place hl p0
    have p2 : (rdDials xs (rdMost xs 2 16 3 rd0).2 N).2.p ≤ n := rdDials_place hl p1 N
    have p3 : (rdPart xs 16 (rdDials xs (rdMost xs 2 16 3 rd0).2 N).2).2.p ≤ n := rdPart_place hl p2
    have C2 : Hid (∀ (w' : World) (g : Nat), RdIs w' g A n k rd0 → Below w.heap.size w w' → w.heap.size ≤ g → Calls Tryd.prog 56 #[.pointer (some ⟨g, 0, none⟩), .int .i64 2, .int .u64 16, .int .i64 3] w' fun e w2 => e = .returned (.int .u64 (rdMost xs 2 16 3 rd0).1) ∧ RdIs w2 g A n k (rdMost xs 2 16 3 rd0).2 ∧ Save g w' w2) := fun w' g h1 hb hg => rdMost_any w' g w.heap.size A n k xs rd0 2 16 3 h1 (HX.out.below hb) hg p0 rfl
    have C4 : Hid (∀ (w' : World) (g : Nat), RdIs w' g A n k (rdDials xs (rdMost xs 2 16 3 rd0).2 N).2 → Below w.heap.size w w' → w.heap.size ≤ g → Calls Tryd.prog 58 #[.pointer (some ⟨g, 0, none⟩), .int .i64 16] w' fun e w2 => ∃ v, e = .returned v ∧ RdIs w2 g A n k (rdPart xs 16 (rdDials xs (rdMost xs 2 16 3 rd0).2 N).2).2 ∧ Own w2 w'.heap.size v (rdPart xs 16 (rdDials xs (rdMost xs 2 16 3 rd0).2 N).2).1 ∧ Save g w' w2) := fun w' g h1 hb hg => rdPart_any w' g A n k xs _ 16 h1 ((HX.out.below hb).mono hb.size) p2 (by omega)
    have CE : Hid (∀ (w' : World) (g : Nat), RdIs w' g A n k (rdPart xs 16 (rdDials xs (rdMost xs 2 16 3 rd0).2 N).2).2 → Calls Tryd.prog 60 #[.pointer (some ⟨g, 0, none⟩)] w' fun e w2 => e = .returned (.int .i64 (rdEnd xs (rdPart xs 16 (rdDials xs (rdMost xs 2 16 3 rd0).2 N).2).2)) ∧ ∃ k, w'.drewN k = w2) := fun w' g h1 => rdEnd_any w' g A n k xs _ h1 hl hrm p3
    have CN : Hid (∀ (w' : World) (g : Nat) (r' : Rd), RdIs w' g A n k r' → Below w.heap.size w w' → w.heap.size ≤ g → r'.p ≤ n → Calls Tryd.prog 57 #[.pointer (some ⟨g, 0, none⟩), .int .i64 2] w' fun e w2 => e = .returned (.int .u64 (rdN xs 2 r').1) ∧ RdIs w2 g A n k (rdN xs 2 r').2 ∧ Save g w' w2) := fun w' g r' h1 hb hg hp => rdN_any w' g w.heap.size A n k xs r' 2 h1 (HX.out.below hb) hg hp rfl
    have hok := rdPart_ok (m := 16) (r := (rdDials xs (rdMost xs 2 16 3 rd0).2 N).2) hl
    have hbyq := rdPart_bytes hby 16 (rdDials xs (rdMost xs 2 16 3 rd0).2 N).2
    have hm8 : (rdPart xs 16 (rdDials xs (rdMost xs 2 16 3 rd0).2 N).2).1.length ≤ 16 := by unfold rdPart; split <;> (try split) <;> simp <;> omega
    have hge : gaskErr 0 xs = rdEnd xs (rdPart xs 16 (rdDials xs (rdMost xs 2 16 3 rd0).2 N).2).2 := by rw [← hdd, D2]; unfold gaskErr gaskP; rw [if_pos hk, if_pos rfl]
    have HST : Hid (∀ j, (rdDials xs (rdMost xs 2 16 3 rd0).2 j).2.e = 0 → (rdDials xs (rdMost xs 2 16 3 rd0).2 (j + 1)).1 = (rdDials xs (rdMost xs 2 16 3 rd0).2 j).1 ++ [(rdN xs 2 (rdDials xs (rdMost xs 2 16 3 rd0).2 j).2).1] ∧ (rdDials xs (rdMost xs 2 16 3 rd0).2 (j + 1)).2 = (rdN xs 2 (rdDials xs (rdMost xs 2 16 3 rd0).2 j).2).2) := fun j hj => by simp only [rdDials]; rw [if_pos hj]; exact ⟨rfl, rfl⟩
    have HSP : Hid (∀ j, j ≤ N → ¬ (rdDials xs (rdMost xs 2 16 3 rd0).2 j).2.e = 0 → rdDials xs (rdMost xs 2 16 3 rd0).2 N = rdDials xs (rdMost xs 2 16 3 rd0).2 j) := fun j hj hne => by have h := rdDials_stop hne (N - j); rwa [show j + (N - j) = N from by omega] at h
    have HPL : Hid (∀ j, (rdDials xs (rdMost xs 2 16 3 rd0).2 j).2.p ≤ n) := fun j => rdDials_place hl p1 j
    have HLN : Hid (∀ j, (rdDials xs (rdMost xs 2 16 3 rd0).2 j).1.length ≤ j) := fun j => rdDials_len j
    have HBD : Hid (∀ r', 0 ≤ (rdN xs 2 r').1 ∧ (rdN xs 2 r').1 ≤ 65535) := fun r' => rdN_bounds hby r'
    rw [hN] at C2
    by_cases he : rdEnd xs (rdPart xs 16 (rdDials xs (rdMost xs 2 16 3 rd0).2 N).2).2 = 0
    rotate_left
    · have HQ := Lib.hid (HE.out _ hge he)
      clear hge D1 D2 hdd p1 p2 p3 hm16 hN
      obtain ⟨r0, hr0⟩ : ∃ x, x = (rdMost xs 2 16 3 rd0).2 := ⟨_, rfl⟩
      rw [← hr0] at C2 C4 CE hok hbyq hm8 HST HSP HPL HLN he HQ
      clear hr0
      obtain ⟨nums, hnums⟩ : ∃ f, f = rdDials xs r0 := ⟨_, rfl⟩
      have H0 : Hid (nums 0 = ([], r0)) := by show _ = _; rw [hnums]; rfl
      rw [← hnums] at C4 CE hok hbyq hm8 HST HSP HPL HLN he HQ
      clear hnums
      obtain ⟨num2, hnum2⟩ : ∃ f, f = rdN xs 2 := ⟨_, rfl⟩
      rw [← hnum2] at CN HST HBD
      clear hnum2
      obtain ⟨q3, hq3⟩ : ∃ x, x = rdPart xs 16 (nums N).2 := ⟨_, rfl⟩
      rw [← hq3] at C4 CE hok hbyq hm8 he HQ
      clear hq3
      obtain ⟨er, her⟩ : ∃ x, x = rdEnd xs q3.2 := ⟨_, rfl⟩
      rw [← her] at CE he HQ
      clear her HE hx hk hok p0
      obtain ⟨q, hq⟩ : ∃ q, q = q3.1 := ⟨_, rfl⟩
      have HQQ := Lib.hid hq
      rw [← hq] at hbyq hm8 C4
      have HBQ := Lib.hid hbyq
      clear hq hbyq
      go_enter Tryd.func23, Tryd.ntmps23
      go_wp2_with (first
        | ((with_reducible show wpList _ _ _ (⟨some 4, _, _, _, _, _⟩ :: _) _ _); refine wpList_alloc_blk rfl _ rfl zs _ ZH ?_; intro h w1 hg1 hg2 Z1 L1)
        | fail)
      refine (CK.out w1).mono ?_
      rintro e w' ⟨rfl, rfl⟩
      go_wp2_with (first
        | ((with_reducible show wpList _ _ _ (⟨some 20, _, _, _, _, _⟩ :: _) _ _); refine wpList_build_blk rfl _ _ rfl [.slice A n k, .int .i64 0, .int .i64 0] (by refine Eq.trans ?_ B1; kernel_rfl) ?_)
        | ((with_reducible show wpList _ _ _ (⟨some 21, _, _, _, _, _⟩ :: _) _ _); refine wpList_box_blk rfl _ (.tmp 20) rfl [.slice A n k, .int .i64 0, .int .i64 0] rfl ?_; intro g w2 hg3 hg4 R2 L2)
        | ((with_reducible show wpList _ _ _ (⟨some 7, _, _, _, _, _⟩ :: _) _ _); refine wpList_alloc_blk rfl _ rfl zs _ ZH ?_; intro s w3 hg5 hg6 X3 L3)
        | fail)
      have B3 := Lib.hid (step (step L1.out L2.out) L3.out)
      have Z3 := Lib.hid ((Z1.out.over L2.out).over L3.out)
      have R3 : Hid (RdIs w3 g A n k rd0) := R2.out.over L3.out
      have hs1 := L1.out.size
      have hs2 := L2.out.size
      have hwg : w.heap.size ≤ g := by omega
      have hws : w.heap.size ≤ s := by omega
      have hsg : s ≠ g := by omega
      have hhg : h ≠ g := by omega
      have hhs : h ≠ s := by omega
      clear R2 L2 L3 Z1 L1 hg3 hg4 hg5 hg6 hs1 hs2 hg2
      refine (C2.out w3 g R3.out B3.out hwg).mono ?_
      rintro e w4 ⟨rfl, hR, hS⟩
      have R4 := Lib.hid hR
      have X4 := Lib.hid (X3.out.save hS hsg)
      have Z4 := Lib.hid (Z3.out.save hS hhg)
      have B4 := Lib.hid (B3.out.trans (hS.below hwg B3.out.size))
      clear hR hS R3 X3 Z3 B3
      obtain ⟨bs, hbs⟩ : ∃ x, x = w4.heap.size := ⟨_, rfl⟩
      have hsb : s < bs := by rw [hbs]; exact X4.out.lt
      have hgb : g < bs := by rw [hbs]; exact Blk.lt R4.out
      have hhb : h < bs := by rw [hbs]; exact Z4.out.lt
      have hwb : w.heap.size ≤ bs := by omega
      have hbz0 : bs ≤ w4.heap.size := Nat.le_of_eq hbs
      clear hbs
      go_wp2_with fail
      go_loopw [9] (fun i wr => ∃ j : Nat, i = .int .u64 j ∧ j ≤ N ∧ ∃ v, Hid (Blk wr s 32 (v :: tl)) ∧ Hid (OwnK .u16 22 wr bs v (nums j).1) ∧ Hid (RdIs wr g A n k (nums j).2) ∧ Hid (Blk wr h 32 zs) ∧ Hid (Below w.heap.size w wr) ∧ bs ≤ wr.heap.size) (fun i _ => N - (intOf i).toNat)
      case atStart => exact ⟨0, rfl, Nat.zero_le _, .slice none 0 0, by rw [← HTL.out]; exact X4, by rw [H0.out]; exact OwnK.nil _ _ _ _, by rw [H0.out]; exact R4, Z4, B4, hbz0⟩
      case round =>
        clear X4 R4 Z4 B4 hbz0
        obtain ⟨j, rfl, hj, v, XX, DD, RR, ZZ, BB, hbz⟩ := hrel
        have gd := Blk.at RR.out (i := 2) rfl
        by_cases hlt2 : j < N
        · by_cases hej : (nums j).2.e = 0
          · rw [hej] at gd
            have CNj := CN.out wr.drew g (nums j).2 RR.out.drew BB.out.drew hwg (HPL.out j)
            obtain ⟨e1, e2⟩ := HST.out j hej
            rw [← e2] at CNj
            obtain ⟨z0, z1⟩ := HBD.out (nums j).2
            obtain ⟨z, hz⟩ : ∃ z, z = (num2 (nums j).2).1 := ⟨_, rfl⟩
            rw [← hz] at CNj e1 z0 z1
            have CNJ := Lib.hid CNj
            have E1 := Lib.hid e1
            have hLn := HLN.out j
            have hz16 : IntKind.u16.wrap z = z := by rw [IntKind.wrap_u16]; omega
            obtain ⟨r1, hr1⟩ : ∃ r, r = (nums (j + 1)).2 := ⟨_, rfl⟩
            have HR1' := Lib.hid hr1
            rw [← hr1] at CNJ
            obtain ⟨L, hL⟩ : ∃ r, r = (nums j).1 := ⟨_, rfl⟩
            rw [← hL] at DD E1 hLn
            clear hr1 hL hz e1 e2 CNj
            go_wp2
            go_upto_region 12 with fail
            refine wp_region_heldK 8 (fun w' => w'.cell? ⟨s, 0, none⟩ = some v) (by kernel_rfl) ?_
            change wpAnyK _ _ _ _ _ _ _ _ _ wr.drew
            have S0 : Hid (wr.drew.cell? ⟨s, 0, none⟩ = some v) := (XX.out.at rfl)
            have b0 : Hid (Below w.heap.size w wr.drew) := BB.out.drew
            refine wpAnyK_take (i := 0) (v := _) rfl (by kernel_rfl) (by kernel_rfl) (by kernel_rfl) (fun _ _ _ h => h) rfl (by kernel_rfl) (by kernel_rfl) (by decide) (yieldsIf_fld (by kernel_rfl) _ (.tmp 7) 0 rfl (.pointer (some ⟨s, 0, none⟩)) (.pointer (some ⟨s, 0, none⟩)) (by kernel_rfl) (fld_ask0 s)) S0.out ?_
            refine wpAnyK_take (i := 1) (v := _) rfl (by kernel_rfl) (by kernel_rfl) (by kernel_rfl) (fun _ _ _ h => h) rfl (by kernel_rfl) (by kernel_rfl) (by decide) (yieldsIf_load_one (by kernel_rfl) _ (.tmp 41) rfl s 0 (by kernel_rfl) v (fun w h => h) _ Tryd.underlying24 rfl) S0.out ?_
            refine wpAnyK_take (i := 2) (v := _) rfl (by kernel_rfl) (by kernel_rfl) (by kernel_rfl) (fun _ _ _ h => h) rfl (by kernel_rfl) (by kernel_rfl) (by decide) (yieldsIf_move (by kernel_rfl) (.tmp 6) rfl (.pointer (some ⟨g, 0, none⟩)) (by kernel_rfl)) S0.out ?_
            refine wpAnyK_one 3 _ (by kernel_rfl) rfl fun K hK => ?_
            go_simp
            refine (CNJ.out).mono ?_
            rintro e v1 ⟨rfl, hR1, hS1⟩
            have S1 : Hid (v1.cell? ⟨s, 0, none⟩ = some v) := (Blk.at (Blk.save XX.out.drew hS1 hsg) rfl)
            have b1 : Hid (Below w.heap.size w v1) := b0.out.trans (hS1.below hwg b0.out.size)
            have HX1 : Hid (Blk v1 s 32 (v :: tl)) := Blk.save XX.out.drew hS1 hsg
            have HZ1' : Hid (Blk v1 h 32 zs) := Blk.save ZZ.out.drew hS1 hhg
            have HR1 : Hid (RdIs v1 g A n k r1) := hR1
            have HO1 : Hid (OwnK .u16 22 v1 bs v L) := OwnK.save (w := wr.drew) (OwnK.keep (w' := wr.drew) DD.out (fun _ _ _ _ => rfl)) hS1 hgb
            have hbz1 : bs ≤ v1.heap.size := Nat.le_trans hbz hS1.size
            refine hK _ _ (fun _ => S1.out) ?_
            clear hK K
            clear hR1 hS1
            refine wpAnyK_take (i := 4) (v := (.int .u16 z)) rfl (by kernel_rfl) (by kernel_rfl) (by kernel_rfl) (fun _ _ _ h => h) rfl (by kernel_rfl) (by kernel_rfl) (by decide) (.inl ⟨by kernel_rfl, fun w _ => by go_simp⟩) S1.out ?_
            refine wpAnyK_frame fun a1 ha1 => ?_
            refine wpAnyK_one 5 _ (by kernel_rfl) rfl fun K hK => ?_
            refine step_slice_blk rfl _ _ 1 _ rfl Tryd.underlying24 [.int .u16 z] (by rw [ha1]; kernel_rfl) ?_
            intro g2 v2 q2 q3' Y2 b2
            have HX2 := Lib.hid (HX1.out.over b2.out)
            have HZ2 := Lib.hid (HZ1'.out.over b2.out)
            have HR2 : Hid (RdIs v2 g A n k r1) := Blk.over HR1.out b2.out
            have HO2 := Lib.hid (HO1.out.below b2.out)
            have HB2 := Lib.hid (step b1.out b2.out)
            have hbz2 : bs ≤ v2.heap.size := Nat.le_trans hbz1 b2.out.size
            refine hK _ _ (fun _ => HX2.out.at rfl) ?_
            clear hK K
            refine wpAnyK_frame fun a2 ha2 => ?_
            try rw [ha1] at ha2
            have e2_42 : a2.eval (.tmp 42) = v := by rw [ha2]; kernel_rfl
            have e2_46 : a2.eval (.tmp 46) = .slice (some ⟨g2, 0, none⟩) 1 1 := by rw [ha2]; kernel_rfl
            refine wpAnyK_one 6 _ (by kernel_rfl) rfl fun K hK => ?_
            refine step_append_row rfl (.tmp 42) (.tmp 46) .u16 24 22 2 Tryd.underlying24 info_u16 rfl bs v L [z] g2 1 1 rfl e2_42 e2_46 HO2.out Y2 (by omega) (by omega) hbz2 ?_
            intro u v3 ho3 b3
            have HX3 := Lib.hid (Blk.below HX2.out b3.out hsb)
            have HZ3 := Lib.hid (Blk.below HZ2.out b3.out hhb)
            have HR3 : Hid (RdIs v3 g A n k r1) := Blk.below HR2.out b3.out hgb
            have HB3 : Hid (Below w.heap.size w v3) := HB2.out.trans (b3.out.mono hwb)
            have hbz3 : bs ≤ v3.heap.size := Nat.le_trans hbz2 b3.out.size
            have OU : u.oneCell' = true := by obtain ⟨_, _, _, rfl, _⟩ := ho3.out.open; rfl
            refine hK _ _ (fun _ => HX3.out.at rfl) ?_
            clear hK K
            refine wpAnyK_frame fun a3 ha3 => ?_
            try rw [ha2] at ha3
            have S3 : Hid (v3.cell? ⟨s, 0, none⟩ = some v) := HX3.out.at rfl
            rw [ha3]
            refine wpAnyK_one 7 _ (by kernel_rfl) rfl fun K hK => ?_
            go_simp
            refine hK _ _ (fun _ => S3.out) ?_
            clear hK K
            refine wpAnyK_frame fun a4 ha4 => ?_
            try rw [ha3] at ha4
            have e4_48 : a4.eval (.tmp 48) = .pointer (some ⟨s, 0, none⟩) := by rw [ha4]; kernel_rfl
            have e4_47 : a4.eval (.tmp 47) = u := by rw [ha4]; kernel_rfl
            refine wpAnyK_one 8 _ (by kernel_rfl) rfl fun K hK => ?_
            refine step_store_fld rfl 24 (.tmp 48) (.tmp 47) (by kernel_rfl) s 0 e4_48 32 _ u e4_47 HX3 (by show 0 < _; simp only [List.length_cons]; omega) (by kernel_rfl) OU ?_
            intro v4 X4' O4 q4
            refine hK _ _ (fun h => Bool.noConfusion (show true = false from h)) ?_
            clear hK K
            change wpAnyK _ _ _ _ _ _ _ _ a4 v4
            rw [ha4]
            refine wpAnyK_done (by kernel_rfl) ?_ _
            have XN : Hid (Blk v4 s 32 (u :: tl)) := X4'.out
            have RN : Hid (RdIs v4 g A n k (nums (j + 1)).2) := by rw [← HR1'.out]; exact Blk.only HR3.out O4.out (Ne.symm hsg)
            have ZN : Hid (Blk v4 h 32 zs) := HZ3.out.only O4.out hhs
            have BN : Hid (Below w.heap.size w v4) := below_only HB3.out O4.out hws
            have DN : Hid (OwnK .u16 22 v4 bs u (nums (j + 1)).1) := by rw [E1.out]; exact OwnK.save ho3.out (Save.of_only O4.out) hsb
            have hbzN : bs ≤ v4.heap.size := by rw [O4.out.size]; exact hbz3
            clear X4' O4 q4 ho3 b3 HX3 HR3 HZ3 HB3 HX2 HR2 HZ2 HB2 HO2 gd
            go_wp2
            go_roundw
            case rel => exact ⟨j + 1, by go_num, hlt2, u, XN, DN, RN, ZN, BN, hbzN⟩
            case measure => simp [intOf]; omega
          · have hNN : nums N = nums j := HSP.out j hj hej
            obtain ⟨er2, her2⟩ : ∃ x, x = (nums j).2.e := ⟨_, rfl⟩
            rw [← her2] at gd hej
            clear her2
            rw [← hNN] at DD RR
            obtain ⟨dL, hdL⟩ : ∃ x, x = (nums N).1 := ⟨_, rfl⟩
            have HDL := Lib.hid hdL
            rw [← hdL] at DD
            obtain ⟨dv, hdv⟩ : ∃ x, x = v := ⟨_, rfl⟩
            rw [← hdv] at DD XX
            clear hdL hdv hNN
            go_wp2_with fail
            have hss : s < wr.heap.size := by omega
            obtain ⟨bs2, hbs2⟩ : ∃ x, x = wr.heap.size := ⟨_, rfl⟩
            have hsb2 : s < bs2 := by omega
            refine (C4.out wr g RR.out BB.out hwg).mono ?_
            rintro e w9 ⟨vd, rfl, hR, ho, hS⟩
            rw [← hbs2] at ho
            have R9 := Lib.hid hR
            have X9 := Lib.hid (XX.out.save hS hsg)
            have Z9 := Lib.hid (ZZ.out.save hS hhg)
            have B9 := Lib.hid (BB.out.trans (hS.below hwg BB.out.size))
            have DD9 := Lib.hid (OwnK.save DD.out hS hgb)
            clear hR hS RR XX ZZ BB DD gd hbs2 hss hbz hj
            obtain ⟨Av, cv, rfl⟩ := ho.len
            obtain ⟨m, hm⟩ : ∃ m, m = q.length := ⟨_, rfl⟩
            rw [← hm] at ho hm8 ⊢
            have HM := Lib.hid hm
            have P9 := Lib.hid ho
            clear ho hm
            obtain ⟨sc, hsc⟩ : ∃ sc : Nat → List Value, sc = fun j => spliced (dv :: tl) 1 (q.take j) := ⟨_, rfl⟩
            have S0 : Hid (sc 0 = dv :: tl) := by rw [hsc]; exact spliced_zero _ _ _
            have SS : Hid (∀ j, j < m → (sc j).set (1 + j) (.int .u8 (q.getD j 0)) = sc (j + 1)) := fun j hj => by rw [hsc]; exact spliced_set (by rw [← HM.out]; exact hj) (by rw [← HM.out, List.length_cons, HTLL.out]; omega)
            have SL : Hid (∀ j, j ≤ m → (sc j).length = 69) := fun j hj => by rw [hsc]; show (spliced _ _ _).length = _; rw [spliced_len (by rw [List.length_take, List.length_cons, HTLL.out]; omega), List.length_cons, HTLL.out]
            have SE : Hid (sc m = spliced (dv :: tl) 1 q) := by show _ = _; rw [hsc, HM.out]; show spliced _ _ _ = _; rw [List.take_of_length_le (Nat.le_refl _)]
            clear hsc
            go_wp2_with fail
            go_loopw [11] (fun i wr => ∃ j : Nat, j ≤ m ∧ i = .int .i64 j ∧ Hid (Blk wr s 32 (sc j)) ∧ Hid (Own wr bs2 (.slice Av m cv) q) ∧ Hid (RdIs wr g A n k q3.2) ∧ Hid (Blk wr h 32 zs) ∧ Hid (Below w.heap.size w wr) ∧ Hid (OwnK .u16 22 wr bs dv dL)) (fun i _ => m - (intOf i).toNat)
            case atStart => exact ⟨0, Nat.zero_le _, rfl, by rw [S0.out]; exact X9, P9, R9, Z9, B9, DD9⟩
            case round =>
              clear X9 P9 R9 Z9 B9 DD9
              obtain ⟨j, hj, rfl, XX, PP, RR, ZZ, BB, DD⟩ := hrel
              by_cases hlt : j < m
              · have hh := PP.out.holds_at HM.out.symm HBQ.out (by omega)
                have hmc := hh.fit
                obtain ⟨ab, ao, rfl, hab, hcl⟩ := hh.cells (by omega)
                have gc := hcl j hlt
                have HSN := Lib.hid (SS.out j hlt)
                have HSL := Lib.hid (SL.out j (by omega))
                obtain ⟨y, hy⟩ : ∃ y, y = q.getD j 0 := ⟨_, rfl⟩
                rw [← hy] at gc HSN
                obtain ⟨cj, hcj⟩ : ∃ x, x = sc j := ⟨_, rfl⟩
                rw [← hcj] at XX HSN HSL
                clear hy hcj hcl hh hab
                go_wp2_with (first
                  | ((with_reducible show wpList _ _ _ (⟨none, .store _ (.tmp 63) _, _, _, _, _⟩ :: _) _ _); refine wpList_store_fld rfl _ (.tmp 63) (.tmp 61) rfl s (1 + j) rfl _ cj (.int .u8 y) rfl XX (by have := HSL.out; show 1 + j < _; omega) (by kernel_rfl) rfl ?_; intro w1' XN ON hgN; rw [HSN.out] at XN)
                  | fail)
                have BN : Hid (Below w.heap.size w w1') := below_only BB.out ON.out hws
                have ZN : Hid (Blk w1' h 32 zs) := ZZ.out.only ON.out hhs
                have RN : Hid (RdIs w1' g A n k q3.2) := Blk.only RR.out ON.out (Ne.symm hsg)
                have PN := Lib.hid (PP.out.only ON.out hsb2)
                have DN := Lib.hid (DD.out.save (Save.of_only ON.out) hsb)
                clear gc HSN XX ZZ RR PP BB ON hgN DD
                go_roundw
                case rel => exact ⟨j + 1, by omega, by go_num, XN, PN, RN, ZN, BN, DN⟩
                case measure => simp [intOf]; omega
              · obtain rfl : j = m := by omega
                rw [SE.out] at XX
                have LE : Hid ((spliced (dv :: tl) 1 q).length = 69) := by show _ = _; rw [← SE.out]; exact SL.out _ (Nat.le_refl _)
                go_wp2_with fail
                refine (CE.out wr g RR.out).mono ?_
                rintro e wd ⟨rfl, kk, rfl⟩
                have Zd := Lib.hid (Blk.drewN ZZ.out kk)
                have Xd := Lib.hid (Blk.drewN XX.out kk)
                have Bd : Hid (Below w.heap.size w (wr.drewN kk)) := step BB.out (drewed _ kk)
                have Dd : Hid (OwnK .u16 22 (wr.drewN kk) bs dv dL) := DD.out.keep fun _ _ _ _ => rfl
                obtain ⟨wq, hwq⟩ : ∃ wq, wq = wr.drewN kk := ⟨_, rfl⟩
                rw [← hwq] at Zd Xd Bd Dd ⊢
                clear hwq
                go_wp2_with (first
                  | ((with_reducible show wpList _ _ _ (⟨some 93, _, _, _, _, _⟩ :: _) _ _); refine wpList_build_none rfl _ rfl zs BZ ?_)
                  | ((with_reducible show wpList _ _ _ (⟨none, .store _ (.tmp 4) _, _, _, _, _⟩ :: _) _ _); refine wpList_store_blk rfl _ (.tmp 4) (.tmp 93) rfl h rfl _ zs zs rfl Zd 69 size_ask HZ HZ HZ1 ?_; intro wz KZ OZ hgz)
                  | fail)
                refine bodyPost_ret (v := .tuple #[.agg zs.toArray, .int .i64 er]) ?_ rfl (HQ.out _ _ rfl (below_only Bd.out OZ.out hg1))
                exact results_cell_two rfl _ _ h _ _ (0, 0) _ rfl KZ.out Tryd.underlying32 rfl (by rw [size_ask]; have := HZ.out; simp [this]) rfl
        · obtain rfl : j = N := by omega
          have hNN : nums j = nums j := rfl
          rw [← hNN] at DD RR
          obtain ⟨dL, hdL⟩ : ∃ x, x = (nums j).1 := ⟨_, rfl⟩
          have HDL := Lib.hid hdL
          rw [← hdL] at DD
          obtain ⟨dv, hdv⟩ : ∃ x, x = v := ⟨_, rfl⟩
          rw [← hdv] at DD XX
          clear hdL hdv hNN
          go_wp2_with fail
          have hss : s < wr.heap.size := by omega
          obtain ⟨bs2, hbs2⟩ : ∃ x, x = wr.heap.size := ⟨_, rfl⟩
          have hsb2 : s < bs2 := by omega
          refine (C4.out wr g RR.out BB.out hwg).mono ?_
          rintro e w9 ⟨vd, rfl, hR, ho, hS⟩
          rw [← hbs2] at ho
          have R9 := Lib.hid hR
          have X9 := Lib.hid (XX.out.save hS hsg)
          have Z9 := Lib.hid (ZZ.out.save hS hhg)
          have B9 := Lib.hid (BB.out.trans (hS.below hwg BB.out.size))
          have DD9 := Lib.hid (OwnK.save DD.out hS hgb)
          clear hR hS RR XX ZZ BB DD gd hbs2 hss hbz hj
          obtain ⟨Av, cv, rfl⟩ := ho.len
          obtain ⟨m, hm⟩ : ∃ m, m = q.length := ⟨_, rfl⟩
          rw [← hm] at ho hm8 ⊢
          have HM := Lib.hid hm
          have P9 := Lib.hid ho
          clear ho hm
          obtain ⟨sc, hsc⟩ : ∃ sc : Nat → List Value, sc = fun j => spliced (dv :: tl) 1 (q.take j) := ⟨_, rfl⟩
          have S0 : Hid (sc 0 = dv :: tl) := by rw [hsc]; exact spliced_zero _ _ _
          have SS : Hid (∀ j, j < m → (sc j).set (1 + j) (.int .u8 (q.getD j 0)) = sc (j + 1)) := fun j hj => by rw [hsc]; exact spliced_set (by rw [← HM.out]; exact hj) (by rw [← HM.out, List.length_cons, HTLL.out]; omega)
          have SL : Hid (∀ j, j ≤ m → (sc j).length = 69) := fun j hj => by rw [hsc]; show (spliced _ _ _).length = _; rw [spliced_len (by rw [List.length_take, List.length_cons, HTLL.out]; omega), List.length_cons, HTLL.out]
          have SE : Hid (sc m = spliced (dv :: tl) 1 q) := by show _ = _; rw [hsc, HM.out]; show spliced _ _ _ = _; rw [List.take_of_length_le (Nat.le_refl _)]
          clear hsc
          go_wp2_with fail
          go_loopw [11] (fun i wr => ∃ j : Nat, j ≤ m ∧ i = .int .i64 j ∧ Hid (Blk wr s 32 (sc j)) ∧ Hid (Own wr bs2 (.slice Av m cv) q) ∧ Hid (RdIs wr g A n k q3.2) ∧ Hid (Blk wr h 32 zs) ∧ Hid (Below w.heap.size w wr) ∧ Hid (OwnK .u16 22 wr bs dv dL)) (fun i _ => m - (intOf i).toNat)
          case atStart => exact ⟨0, Nat.zero_le _, rfl, by rw [S0.out]; exact X9, P9, R9, Z9, B9, DD9⟩
          case round =>
            clear X9 P9 R9 Z9 B9 DD9
            obtain ⟨j, hj, rfl, XX, PP, RR, ZZ, BB, DD⟩ := hrel
            by_cases hlt : j < m
            · have hh := PP.out.holds_at HM.out.symm HBQ.out (by omega)
              have hmc := hh.fit
              obtain ⟨ab, ao, rfl, hab, hcl⟩ := hh.cells (by omega)
              have gc := hcl j hlt
              have HSN := Lib.hid (SS.out j hlt)
              have HSL := Lib.hid (SL.out j (by omega))
              obtain ⟨y, hy⟩ : ∃ y, y = q.getD j 0 := ⟨_, rfl⟩
              rw [← hy] at gc HSN
              obtain ⟨cj, hcj⟩ : ∃ x, x = sc j := ⟨_, rfl⟩
              rw [← hcj] at XX HSN HSL
              clear hy hcj hcl hh hab
              go_wp2_with (first
                | ((with_reducible show wpList _ _ _ (⟨none, .store _ (.tmp 63) _, _, _, _, _⟩ :: _) _ _); refine wpList_store_fld rfl _ (.tmp 63) (.tmp 61) rfl s (1 + j) rfl _ cj (.int .u8 y) rfl XX (by have := HSL.out; show 1 + j < _; omega) (by kernel_rfl) rfl ?_; intro w1' XN ON hgN; rw [HSN.out] at XN)
                | fail)
              have BN : Hid (Below w.heap.size w w1') := below_only BB.out ON.out hws
              have ZN : Hid (Blk w1' h 32 zs) := ZZ.out.only ON.out hhs
              have RN : Hid (RdIs w1' g A n k q3.2) := Blk.only RR.out ON.out (Ne.symm hsg)
              have PN := Lib.hid (PP.out.only ON.out hsb2)
              have DN := Lib.hid (DD.out.save (Save.of_only ON.out) hsb)
              clear gc HSN XX ZZ RR PP BB ON hgN DD
              go_roundw
              case rel => exact ⟨j + 1, by omega, by go_num, XN, PN, RN, ZN, BN, DN⟩
              case measure => simp [intOf]; omega
            · obtain rfl : j = m := by omega
              rw [SE.out] at XX
              have LE : Hid ((spliced (dv :: tl) 1 q).length = 69) := by show _ = _; rw [← SE.out]; exact SL.out _ (Nat.le_refl _)
              go_wp2_with fail
              refine (CE.out wr g RR.out).mono ?_
              rintro e wd ⟨rfl, kk, rfl⟩
              have Zd := Lib.hid (Blk.drewN ZZ.out kk)
              have Xd := Lib.hid (Blk.drewN XX.out kk)
              have Bd : Hid (Below w.heap.size w (wr.drewN kk)) := step BB.out (drewed _ kk)
              have Dd : Hid (OwnK .u16 22 (wr.drewN kk) bs dv dL) := DD.out.keep fun _ _ _ _ => rfl
              obtain ⟨wq, hwq⟩ : ∃ wq, wq = wr.drewN kk := ⟨_, rfl⟩
              rw [← hwq] at Zd Xd Bd Dd ⊢
              clear hwq
              go_wp2_with (first
                | ((with_reducible show wpList _ _ _ (⟨some 93, _, _, _, _, _⟩ :: _) _ _); refine wpList_build_none rfl _ rfl zs BZ ?_)
                | ((with_reducible show wpList _ _ _ (⟨none, .store _ (.tmp 4) _, _, _, _, _⟩ :: _) _ _); refine wpList_store_blk rfl _ (.tmp 4) (.tmp 93) rfl h rfl _ zs zs rfl Zd 69 size_ask HZ HZ HZ1 ?_; intro wz KZ OZ hgz)
                | fail)
              refine bodyPost_ret (v := .tuple #[.agg zs.toArray, .int .i64 er]) ?_ rfl (HQ.out _ _ rfl (below_only Bd.out OZ.out hg1))
              exact results_cell_two rfl _ _ h _ _ (0, 0) _ rfl KZ.out Tryd.underlying32 rfl (by rw [size_ask]; have := HZ.out; simp [this]) rfl
    have hre := rdEnd_zero he
    have hde : (rdTake xs rd0).2.e = 0 := by rw [← D2, hdd]; exact (rdPart_taken hre).1
    have kdial : ∀ x ∈ (rdDials xs (rdMost xs 2 16 3 rd0).2 N).1, 0 ≤ x ∧ x ≤ 65535 := by rw [← hdd, D1 hde]; exact rdTake_dial hby rd0
    have HQ : Hid (∀ vd e w', e = .returned (.tuple #[.agg (acells vd (.slice none 0 0) (.slice none 0 0) ({ zeroAsk with dial := (rdDials xs (rdMost xs 2 16 3 rd0).2 N).1, guid := (rdPart xs 16 (rdDials xs (rdMost xs 2 16 3 rd0).2 N).2).1 } : AskV)).toArray, .int .i64 0]) → AskIs w' w'.heap.size (acells vd (.slice none 0 0) (.slice none 0 0) ({ zeroAsk with dial := (rdDials xs (rdMost xs 2 16 3 rd0).2 N).1, guid := (rdPart xs 16 (rdDials xs (rdMost xs 2 16 3 rd0).2 N).2).1 } : AskV)) ({ zeroAsk with dial := (rdDials xs (rdMost xs 2 16 3 rd0).2 N).1, guid := (rdPart xs 16 (rdDials xs (rdMost xs 2 16 3 rd0).2 N).2).1 } : AskV) → Below w.heap.size w w' → PGAskPost w 0 xs e w') := by
      intro vd e w' g1 g2 g3
      have h4 : gaskOf 0 xs = { zeroAsk with dial := (rdDials xs (rdMost xs 2 16 3 rd0).2 N).1, guid := (rdPart xs 16 (rdDials xs (rdMost xs 2 16 3 rd0).2 N).2).1 } := by unfold gaskOf; rw [hge, he, if_pos rfl]; unfold gaskP; rw [if_pos rfl, ← hdd, ← D1 hde, ← D2]
      unfold PGAskPost
      rw [h4, hge, he]
      exact ⟨vd, g1, g2, g3⟩
    have HQL := Lib.hid (hok hre)
    rw [he] at CE
    clear hge D1 D2 hdd p1 p2 p3 hm16 hN he hre hde hok
    obtain ⟨r0, hr0⟩ : ∃ x, x = (rdMost xs 2 16 3 rd0).2 := ⟨_, rfl⟩
    rw [← hr0] at C2 C4 CE hbyq hm8 HST HSP HPL HLN HQ HQL kdial
    clear hr0
    obtain ⟨nums, hnums⟩ : ∃ f, f = rdDials xs r0 := ⟨_, rfl⟩
    have H0 : Hid (nums 0 = ([], r0)) := by show _ = _; rw [hnums]; rfl
    rw [← hnums] at C4 CE hbyq hm8 HST HSP HPL HLN HQ HQL kdial
    clear hnums
    obtain ⟨num2, hnum2⟩ : ∃ f, f = rdN xs 2 := ⟨_, rfl⟩
    rw [← hnum2] at CN HST HBD
    clear hnum2
    obtain ⟨q3, hq3⟩ : ∃ x, x = rdPart xs 16 (nums N).2 := ⟨_, rfl⟩
    rw [← hq3] at C4 CE hbyq hm8 HQ HQL
    clear hq3
    clear HE hx hk p0
    obtain ⟨q, hq⟩ : ∃ q, q = q3.1 := ⟨_, rfl⟩
    have HQQ := Lib.hid hq
    rw [← hq] at hbyq hm8 C4 HQL
    have HBQ := Lib.hid hbyq
    clear hq hbyq
    go_enter Tryd.func23, Tryd.ntmps23
    go_wp2_with (first
      | ((with_reducible show wpList _ _ _ (⟨some 4, _, _, _, _, _⟩ :: _) _ _); refine wpList_alloc_blk rfl _ rfl zs _ ZH ?_; intro h w1 hg1 hg2 Z1 L1)
      | fail)
    refine (CK.out w1).mono ?_
    rintro e w' ⟨rfl, rfl⟩
    go_wp2_with (first
      | ((with_reducible show wpList _ _ _ (⟨some 20, _, _, _, _, _⟩ :: _) _ _); refine wpList_build_blk rfl _ _ rfl [.slice A n k, .int .i64 0, .int .i64 0] (by refine Eq.trans ?_ B1; kernel_rfl) ?_)
      | ((with_reducible show wpList _ _ _ (⟨some 21, _, _, _, _, _⟩ :: _) _ _); refine wpList_box_blk rfl _ (.tmp 20) rfl [.slice A n k, .int .i64 0, .int .i64 0] rfl ?_; intro g w2 hg3 hg4 R2 L2)
      | ((with_reducible show wpList _ _ _ (⟨some 7, _, _, _, _, _⟩ :: _) _ _); refine wpList_alloc_blk rfl _ rfl zs _ ZH ?_; intro s w3 hg5 hg6 X3 L3)
      | fail)
    have B3 := Lib.hid (step (step L1.out L2.out) L3.out)
    have Z3 := Lib.hid ((Z1.out.over L2.out).over L3.out)
    have R3 : Hid (RdIs w3 g A n k rd0) := R2.out.over L3.out
    have hs1 := L1.out.size
    have hs2 := L2.out.size
    have hwg : w.heap.size ≤ g := by omega
    have hws : w.heap.size ≤ s := by omega
    have hsg : s ≠ g := by omega
    have hhg : h ≠ g := by omega
    have hhs : h ≠ s := by omega
    clear R2 L2 L3 Z1 L1 hg3 hg4 hg5 hg6 hs1 hs2 hg2
    refine (C2.out w3 g R3.out B3.out hwg).mono ?_
    rintro e w4 ⟨rfl, hR, hS⟩
    have R4 := Lib.hid hR
    have X4 := Lib.hid (X3.out.save hS hsg)
    have Z4 := Lib.hid (Z3.out.save hS hhg)
    have B4 := Lib.hid (B3.out.trans (hS.below hwg B3.out.size))
    clear hR hS R3 X3 Z3 B3
    obtain ⟨bs, hbs⟩ : ∃ x, x = w4.heap.size := ⟨_, rfl⟩
    have hsb : s < bs := by rw [hbs]; exact X4.out.lt
    have hgb : g < bs := by rw [hbs]; exact Blk.lt R4.out
    have hhb : h < bs := by rw [hbs]; exact Z4.out.lt
    have hwb : w.heap.size ≤ bs := by omega
    have hbz0 : bs ≤ w4.heap.size := Nat.le_of_eq hbs
    clear hbs
    go_wp2_with fail
    go_loopw [9] (fun i wr => ∃ j : Nat, i = .int .u64 j ∧ j ≤ N ∧ ∃ v, Hid (Blk wr s 32 (v :: tl)) ∧ Hid (OwnK .u16 22 wr bs v (nums j).1) ∧ Hid (RdIs wr g A n k (nums j).2) ∧ Hid (Blk wr h 32 zs) ∧ Hid (Below w.heap.size w wr) ∧ bs ≤ wr.heap.size) (fun i _ => N - (intOf i).toNat)
    case atStart => exact ⟨0, rfl, Nat.zero_le _, .slice none 0 0, by rw [← HTL.out]; exact X4, by rw [H0.out]; exact OwnK.nil _ _ _ _, by rw [H0.out]; exact R4, Z4, B4, hbz0⟩
    case round =>
      clear X4 R4 Z4 B4 hbz0
      obtain ⟨j, rfl, hj, v, XX, DD, RR, ZZ, BB, hbz⟩ := hrel
      have gd := Blk.at RR.out (i := 2) rfl
      by_cases hlt2 : j < N
      · by_cases hej : (nums j).2.e = 0
        · rw [hej] at gd
          have CNj := CN.out wr.drew g (nums j).2 RR.out.drew BB.out.drew hwg (HPL.out j)
          obtain ⟨e1, e2⟩ := HST.out j hej
          rw [← e2] at CNj
          obtain ⟨z0, z1⟩ := HBD.out (nums j).2
          obtain ⟨z, hz⟩ : ∃ z, z = (num2 (nums j).2).1 := ⟨_, rfl⟩
          rw [← hz] at CNj e1 z0 z1
          have CNJ := Lib.hid CNj
          have E1 := Lib.hid e1
          have hLn := HLN.out j
          have hz16 : IntKind.u16.wrap z = z := by rw [IntKind.wrap_u16]; omega
          obtain ⟨r1, hr1⟩ : ∃ r, r = (nums (j + 1)).2 := ⟨_, rfl⟩
          have HR1' := Lib.hid hr1
          rw [← hr1] at CNJ
          obtain ⟨L, hL⟩ : ∃ r, r = (nums j).1 := ⟨_, rfl⟩
          rw [← hL] at DD E1 hLn
          clear hr1 hL hz e1 e2 CNj
          go_wp2
          go_upto_region 12 with fail
          refine wp_region_heldK 8 (fun w' => w'.cell? ⟨s, 0, none⟩ = some v) (by kernel_rfl) ?_
          change wpAnyK _ _ _ _ _ _ _ _ _ wr.drew
          have S0 : Hid (wr.drew.cell? ⟨s, 0, none⟩ = some v) := (XX.out.at rfl)
          have b0 : Hid (Below w.heap.size w wr.drew) := BB.out.drew
          refine wpAnyK_take (i := 0) (v := _) rfl (by kernel_rfl) (by kernel_rfl) (by kernel_rfl) (fun _ _ _ h => h) rfl (by kernel_rfl) (by kernel_rfl) (by decide) (yieldsIf_fld (by kernel_rfl) _ (.tmp 7) 0 rfl (.pointer (some ⟨s, 0, none⟩)) (.pointer (some ⟨s, 0, none⟩)) (by kernel_rfl) (fld_ask0 s)) S0.out ?_
          refine wpAnyK_take (i := 1) (v := _) rfl (by kernel_rfl) (by kernel_rfl) (by kernel_rfl) (fun _ _ _ h => h) rfl (by kernel_rfl) (by kernel_rfl) (by decide) (yieldsIf_load_one (by kernel_rfl) _ (.tmp 41) rfl s 0 (by kernel_rfl) v (fun w h => h) _ Tryd.underlying24 rfl) S0.out ?_
          refine wpAnyK_take (i := 2) (v := _) rfl (by kernel_rfl) (by kernel_rfl) (by kernel_rfl) (fun _ _ _ h => h) rfl (by kernel_rfl) (by kernel_rfl) (by decide) (yieldsIf_move (by kernel_rfl) (.tmp 6) rfl (.pointer (some ⟨g, 0, none⟩)) (by kernel_rfl)) S0.out ?_
          refine wpAnyK_one 3 _ (by kernel_rfl) rfl fun K hK => ?_
          go_simp
          refine (CNJ.out).mono ?_
          rintro e v1 ⟨rfl, hR1, hS1⟩
          have S1 : Hid (v1.cell? ⟨s, 0, none⟩ = some v) := (Blk.at (Blk.save XX.out.drew hS1 hsg) rfl)
          have b1 : Hid (Below w.heap.size w v1) := b0.out.trans (hS1.below hwg b0.out.size)
          have HX1 : Hid (Blk v1 s 32 (v :: tl)) := Blk.save XX.out.drew hS1 hsg
          have HZ1' : Hid (Blk v1 h 32 zs) := Blk.save ZZ.out.drew hS1 hhg
          have HR1 : Hid (RdIs v1 g A n k r1) := hR1
          have HO1 : Hid (OwnK .u16 22 v1 bs v L) := OwnK.save (w := wr.drew) (OwnK.keep (w' := wr.drew) DD.out (fun _ _ _ _ => rfl)) hS1 hgb
          have hbz1 : bs ≤ v1.heap.size := Nat.le_trans hbz hS1.size
          refine hK _ _ (fun _ => S1.out) ?_
          clear hK K
          clear hR1 hS1
          refine wpAnyK_take (i := 4) (v := (.int .u16 z)) rfl (by kernel_rfl) (by kernel_rfl) (by kernel_rfl) (fun _ _ _ h => h) rfl (by kernel_rfl) (by kernel_rfl) (by decide) (.inl ⟨by kernel_rfl, fun w _ => by go_simp⟩) S1.out ?_
          refine wpAnyK_frame fun a1 ha1 => ?_
          refine wpAnyK_one 5 _ (by kernel_rfl) rfl fun K hK => ?_
          refine step_slice_blk rfl _ _ 1 _ rfl Tryd.underlying24 [.int .u16 z] (by rw [ha1]; kernel_rfl) ?_
          intro g2 v2 q2 q3' Y2 b2
          have HX2 := Lib.hid (HX1.out.over b2.out)
          have HZ2 := Lib.hid (HZ1'.out.over b2.out)
          have HR2 : Hid (RdIs v2 g A n k r1) := Blk.over HR1.out b2.out
          have HO2 := Lib.hid (HO1.out.below b2.out)
          have HB2 := Lib.hid (step b1.out b2.out)
          have hbz2 : bs ≤ v2.heap.size := Nat.le_trans hbz1 b2.out.size
          refine hK _ _ (fun _ => HX2.out.at rfl) ?_
          clear hK K
          refine wpAnyK_frame fun a2 ha2 => ?_
          try rw [ha1] at ha2
          have e2_42 : a2.eval (.tmp 42) = v := by rw [ha2]; kernel_rfl
          have e2_46 : a2.eval (.tmp 46) = .slice (some ⟨g2, 0, none⟩) 1 1 := by rw [ha2]; kernel_rfl
          refine wpAnyK_one 6 _ (by kernel_rfl) rfl fun K hK => ?_
          refine step_append_row rfl (.tmp 42) (.tmp 46) .u16 24 22 2 Tryd.underlying24 info_u16 rfl bs v L [z] g2 1 1 rfl e2_42 e2_46 HO2.out Y2 (by omega) (by omega) hbz2 ?_
          intro u v3 ho3 b3
          have HX3 := Lib.hid (Blk.below HX2.out b3.out hsb)
          have HZ3 := Lib.hid (Blk.below HZ2.out b3.out hhb)
          have HR3 : Hid (RdIs v3 g A n k r1) := Blk.below HR2.out b3.out hgb
          have HB3 : Hid (Below w.heap.size w v3) := HB2.out.trans (b3.out.mono hwb)
          have hbz3 : bs ≤ v3.heap.size := Nat.le_trans hbz2 b3.out.size
          have OU : u.oneCell' = true := by obtain ⟨_, _, _, rfl, _⟩ := ho3.out.open; rfl
          refine hK _ _ (fun _ => HX3.out.at rfl) ?_
          clear hK K
          refine wpAnyK_frame fun a3 ha3 => ?_
          try rw [ha2] at ha3
          have S3 : Hid (v3.cell? ⟨s, 0, none⟩ = some v) := HX3.out.at rfl
          rw [ha3]
          refine wpAnyK_one 7 _ (by kernel_rfl) rfl fun K hK => ?_
          go_simp
          refine hK _ _ (fun _ => S3.out) ?_
          clear hK K
          refine wpAnyK_frame fun a4 ha4 => ?_
          try rw [ha3] at ha4
          have e4_48 : a4.eval (.tmp 48) = .pointer (some ⟨s, 0, none⟩) := by rw [ha4]; kernel_rfl
          have e4_47 : a4.eval (.tmp 47) = u := by rw [ha4]; kernel_rfl
          refine wpAnyK_one 8 _ (by kernel_rfl) rfl fun K hK => ?_
          refine step_store_fld rfl 24 (.tmp 48) (.tmp 47) (by kernel_rfl) s 0 e4_48 32 _ u e4_47 HX3 (by show 0 < _; simp only [List.length_cons]; omega) (by kernel_rfl) OU ?_
          intro v4 X4' O4 q4
          refine hK _ _ (fun h => Bool.noConfusion (show true = false from h)) ?_
          clear hK K
          change wpAnyK _ _ _ _ _ _ _ _ a4 v4
          rw [ha4]
          refine wpAnyK_done (by kernel_rfl) ?_ _
          have XN : Hid (Blk v4 s 32 (u :: tl)) := X4'.out
          have RN : Hid (RdIs v4 g A n k (nums (j + 1)).2) := by rw [← HR1'.out]; exact Blk.only HR3.out O4.out (Ne.symm hsg)
          have ZN : Hid (Blk v4 h 32 zs) := HZ3.out.only O4.out hhs
          have BN : Hid (Below w.heap.size w v4) := below_only HB3.out O4.out hws
          have DN : Hid (OwnK .u16 22 v4 bs u (nums (j + 1)).1) := by rw [E1.out]; exact OwnK.save ho3.out (Save.of_only O4.out) hsb
          have hbzN : bs ≤ v4.heap.size := by rw [O4.out.size]; exact hbz3
          clear X4' O4 q4 ho3 b3 HX3 HR3 HZ3 HB3 HX2 HR2 HZ2 HB2 HO2 gd
          go_wp2
          go_roundw
          case rel => exact ⟨j + 1, by go_num, hlt2, u, XN, DN, RN, ZN, BN, hbzN⟩
          case measure => simp [intOf]; omega
        · have hNN : nums N = nums j := HSP.out j hj hej
          obtain ⟨er2, her2⟩ : ∃ x, x = (nums j).2.e := ⟨_, rfl⟩
          rw [← her2] at gd hej
          clear her2
          rw [← hNN] at DD RR
          obtain ⟨dL, hdL⟩ : ∃ x, x = (nums N).1 := ⟨_, rfl⟩
          have HDL := Lib.hid hdL
          rw [← hdL] at DD
          obtain ⟨dv, hdv⟩ : ∃ x, x = v := ⟨_, rfl⟩
          rw [← hdv] at DD XX
          clear hdL hdv hNN
          go_wp2_with fail
          have hss : s < wr.heap.size := by omega
          obtain ⟨bs2, hbs2⟩ : ∃ x, x = wr.heap.size := ⟨_, rfl⟩
          have hsb2 : s < bs2 := by omega
          refine (C4.out wr g RR.out BB.out hwg).mono ?_
          rintro e w9 ⟨vd, rfl, hR, ho, hS⟩
          rw [← hbs2] at ho
          have R9 := Lib.hid hR
          have X9 := Lib.hid (XX.out.save hS hsg)
          have Z9 := Lib.hid (ZZ.out.save hS hhg)
          have B9 := Lib.hid (BB.out.trans (hS.below hwg BB.out.size))
          have DD9 := Lib.hid (OwnK.save DD.out hS hgb)
          clear hR hS RR XX ZZ BB DD gd hbs2 hss hbz hj
          obtain ⟨Av, cv, rfl⟩ := ho.len
          obtain ⟨m, hm⟩ : ∃ m, m = q.length := ⟨_, rfl⟩
          rw [← hm] at ho hm8 ⊢
          have HM := Lib.hid hm
          have P9 := Lib.hid ho
          clear ho hm
          obtain ⟨sc, hsc⟩ : ∃ sc : Nat → List Value, sc = fun j => spliced (dv :: tl) 1 (q.take j) := ⟨_, rfl⟩
          have S0 : Hid (sc 0 = dv :: tl) := by rw [hsc]; exact spliced_zero _ _ _
          have SS : Hid (∀ j, j < m → (sc j).set (1 + j) (.int .u8 (q.getD j 0)) = sc (j + 1)) := fun j hj => by rw [hsc]; exact spliced_set (by rw [← HM.out]; exact hj) (by rw [← HM.out, List.length_cons, HTLL.out]; omega)
          have SL : Hid (∀ j, j ≤ m → (sc j).length = 69) := fun j hj => by rw [hsc]; show (spliced _ _ _).length = _; rw [spliced_len (by rw [List.length_take, List.length_cons, HTLL.out]; omega), List.length_cons, HTLL.out]
          have SE : Hid (sc m = spliced (dv :: tl) 1 q) := by show _ = _; rw [hsc, HM.out]; show spliced _ _ _ = _; rw [List.take_of_length_le (Nat.le_refl _)]
          clear hsc
          go_wp2_with fail
          go_loopw [11] (fun i wr => ∃ j : Nat, j ≤ m ∧ i = .int .i64 j ∧ Hid (Blk wr s 32 (sc j)) ∧ Hid (Own wr bs2 (.slice Av m cv) q) ∧ Hid (RdIs wr g A n k q3.2) ∧ Hid (Blk wr h 32 zs) ∧ Hid (Below w.heap.size w wr) ∧ Hid (OwnK .u16 22 wr bs dv dL)) (fun i _ => m - (intOf i).toNat)
          case atStart => exact ⟨0, Nat.zero_le _, rfl, by rw [S0.out]; exact X9, P9, R9, Z9, B9, DD9⟩
          case round =>
            clear X9 P9 R9 Z9 B9 DD9
            obtain ⟨j, hj, rfl, XX, PP, RR, ZZ, BB, DD⟩ := hrel
            by_cases hlt : j < m
            · have hh := PP.out.holds_at HM.out.symm HBQ.out (by omega)
              have hmc := hh.fit
              obtain ⟨ab, ao, rfl, hab, hcl⟩ := hh.cells (by omega)
              have gc := hcl j hlt
              have HSN := Lib.hid (SS.out j hlt)
              have HSL := Lib.hid (SL.out j (by omega))
              obtain ⟨y, hy⟩ : ∃ y, y = q.getD j 0 := ⟨_, rfl⟩
              rw [← hy] at gc HSN
              obtain ⟨cj, hcj⟩ : ∃ x, x = sc j := ⟨_, rfl⟩
              rw [← hcj] at XX HSN HSL
              clear hy hcj hcl hh hab
              go_wp2_with (first
                | ((with_reducible show wpList _ _ _ (⟨none, .store _ (.tmp 63) _, _, _, _, _⟩ :: _) _ _); refine wpList_store_fld rfl _ (.tmp 63) (.tmp 61) rfl s (1 + j) rfl _ cj (.int .u8 y) rfl XX (by have := HSL.out; show 1 + j < _; omega) (by kernel_rfl) rfl ?_; intro w1' XN ON hgN; rw [HSN.out] at XN)
                | fail)
              have BN : Hid (Below w.heap.size w w1') := below_only BB.out ON.out hws
              have ZN : Hid (Blk w1' h 32 zs) := ZZ.out.only ON.out hhs
              have RN : Hid (RdIs w1' g A n k q3.2) := Blk.only RR.out ON.out (Ne.symm hsg)
              have PN := Lib.hid (PP.out.only ON.out hsb2)
              have DN := Lib.hid (DD.out.save (Save.of_only ON.out) hsb)
              clear gc HSN XX ZZ RR PP BB ON hgN DD
              go_roundw
              case rel => exact ⟨j + 1, by omega, by go_num, XN, PN, RN, ZN, BN, DN⟩
              case measure => simp [intOf]; omega
            · obtain rfl : j = m := by omega
              rw [SE.out] at XX
              have LE : Hid ((spliced (dv :: tl) 1 q).length = 69) := by show _ = _; rw [← SE.out]; exact SL.out _ (Nat.le_refl _)
              go_wp2_with fail
              refine (CE.out wr g RR.out).mono ?_
              rintro e wd ⟨rfl, kk, rfl⟩
              have Zd := Lib.hid (Blk.drewN ZZ.out kk)
              have Xd := Lib.hid (Blk.drewN XX.out kk)
              have Bd : Hid (Below w.heap.size w (wr.drewN kk)) := step BB.out (drewed _ kk)
              have Dd : Hid (OwnK .u16 22 (wr.drewN kk) bs dv dL) := DD.out.keep fun _ _ _ _ => rfl
              obtain ⟨wq, hwq⟩ : ∃ wq, wq = wr.drewN kk := ⟨_, rfl⟩
              rw [← hwq] at Zd Xd Bd Dd ⊢
              clear hwq
              have hone : dv.oneCell' = true := by obtain ⟨_, _, _, hv, _⟩ := Dd.out.open; rw [hv]; rfl
              rw [← HQQ.out, ← HDL.out] at HQ
              have kdial' := kdial
              rw [← HDL.out] at kdial'
              have kd : ({ zeroAsk with dial := dL } : AskV).ok := ⟨kdial', zeroAsk_ok.glen, zeroAsk_ok.gbyte, zeroAsk_ok.plen, zeroAsk_ok.pbyte, zeroAsk_ok.acc, zeroAsk_ok.shr, zeroAsk_ok.way, zeroAsk_ok.opt, zeroAsk_ok.lev, zeroAsk_ok.dur, zeroAsk_ok.file, zeroAsk_ok.at_, zeroAsk_ok.n, zeroAsk_ok.data, zeroAsk_ok.locks, zeroAsk_ok.most, zeroAsk_ok.cls, zeroAsk_ok.siz⟩
              have kw : ({ zeroAsk with dial := dL, guid := q } : AskV).ok := ⟨kdial', HQL.out, HBQ.out, zeroAsk_ok.plen, zeroAsk_ok.pbyte, zeroAsk_ok.acc, zeroAsk_ok.shr, zeroAsk_ok.way, zeroAsk_ok.opt, zeroAsk_ok.lev, zeroAsk_ok.dur, zeroAsk_ok.file, zeroAsk_ok.at_, zeroAsk_ok.n, zeroAsk_ok.data, zeroAsk_ok.locks, zeroAsk_ok.most, zeroAsk_ok.cls, zeroAsk_ok.siz⟩
              have HEQ : Hid (spliced (dv :: tl) 1 q = acells dv (.slice none 0 0) (.slice none 0 0) ({ zeroAsk with dial := dL, guid := q })) := by
                show _ = _
                have h := acells_guidS (vd := dv) (vx := .slice none 0 0) (vl := .slice none 0 0) (a := { zeroAsk with dial := dL }) kd q
                rw [← h]
                unfold spliced
                rw [HQL.out]
                have e1 : dv :: tl = acells dv (.slice none 0 0) (.slice none 0 0) { zeroAsk with dial := dL } := by
                  have h1 := HTL.out; rw [HZS.out] at h1; injection h1 with _ h1; rw [← h1]; rfl
                rw [e1]
              have LE2 : Hid ((spliced (dv :: tl) 1 q).length = 69) := by rw [HEQ.out]; exact acells_len kw
              have LO : Hid (∀ v ∈ spliced (dv :: tl) 1 q, v.oneCell' = true) := by rw [HEQ.out]; exact acells_one hone rfl rfl
              obtain ⟨rs, hrs⟩ : ∃ x, x = spliced (dv :: tl) 1 q := ⟨_, rfl⟩
              rw [← hrs] at Xd LE2 LO HEQ
              clear hrs
              go_wp2_with (first
                | ((with_reducible show wpList _ _ _ (⟨some 95, _, _, _, _, _⟩ :: _) _ _); refine wpList_load_blk rfl _ (.tmp 7) rfl s rfl _ rs Xd 69 _ Tryd.underlying32 rfl size_ask LE2 ?_)
                | ((with_reducible show wpList _ _ _ (⟨none, .store _ (.tmp 4) _, _, _, _, _⟩ :: _) _ _); refine wpList_store_blk rfl _ (.tmp 4) (.tmp 95) rfl h rfl _ zs rs rfl Zd 69 size_ask HZ LE2 LO ?_; intro wz KZ OZ hgz)
                | fail)
              refine bodyPost_ret (v := .tuple #[.agg rs.toArray, .int .i64 0]) ?_ rfl ?_
              · exact results_cell_two rfl _ _ h _ _ (0, 0) _ rfl KZ.out Tryd.underlying32 rfl (by rw [size_ask]; have := LE2.out; simp [this]) rfl
              · obtain ⟨Av2, nv, cw, hv, hF⟩ := (Dd.out.save (Save.of_only OZ.out) hhb).holdsF
                exact HQ.out dv _ wz (congrArg (fun r : List Value => Ending.returned (.tuple #[.agg r.toArray, .int .i64 0])) HEQ.out) ⟨Av2, nv, cw, none, 0, 0, none, 0, 0, by rw [hv], hF, Holds.nil _ _, HoldsS.nil _ _ _ _⟩ (below_only Bd.out OZ.out hg1)
      · obtain rfl : j = N := by omega
        have hNN : nums j = nums j := rfl
        rw [← hNN] at DD RR
        obtain ⟨dL, hdL⟩ : ∃ x, x = (nums j).1 := ⟨_, rfl⟩
        have HDL := Lib.hid hdL
        rw [← hdL] at DD
        obtain ⟨dv, hdv⟩ : ∃ x, x = v := ⟨_, rfl⟩
        rw [← hdv] at DD XX
        clear hdL hdv hNN
        go_wp2_with fail
        have hss : s < wr.heap.size := by omega
        obtain ⟨bs2, hbs2⟩ : ∃ x, x = wr.heap.size := ⟨_, rfl⟩
        have hsb2 : s < bs2 := by omega
        refine (C4.out wr g RR.out BB.out hwg).mono ?_
        rintro e w9 ⟨vd, rfl, hR, ho, hS⟩
        rw [← hbs2] at ho
        have R9 := Lib.hid hR
        have X9 := Lib.hid (XX.out.save hS hsg)
        have Z9 := Lib.hid (ZZ.out.save hS hhg)
        have B9 := Lib.hid (BB.out.trans (hS.below hwg BB.out.size))
        have DD9 := Lib.hid (OwnK.save DD.out hS hgb)
        clear hR hS RR XX ZZ BB DD gd hbs2 hss hbz hj
        obtain ⟨Av, cv, rfl⟩ := ho.len
        obtain ⟨m, hm⟩ : ∃ m, m = q.length := ⟨_, rfl⟩
        rw [← hm] at ho hm8 ⊢
        have HM := Lib.hid hm
        have P9 := Lib.hid ho
        clear ho hm
        obtain ⟨sc, hsc⟩ : ∃ sc : Nat → List Value, sc = fun j => spliced (dv :: tl) 1 (q.take j) := ⟨_, rfl⟩
        have S0 : Hid (sc 0 = dv :: tl) := by rw [hsc]; exact spliced_zero _ _ _
        have SS : Hid (∀ j, j < m → (sc j).set (1 + j) (.int .u8 (q.getD j 0)) = sc (j + 1)) := fun j hj => by rw [hsc]; exact spliced_set (by rw [← HM.out]; exact hj) (by rw [← HM.out, List.length_cons, HTLL.out]; omega)
        have SL : Hid (∀ j, j ≤ m → (sc j).length = 69) := fun j hj => by rw [hsc]; show (spliced _ _ _).length = _; rw [spliced_len (by rw [List.length_take, List.length_cons, HTLL.out]; omega), List.length_cons, HTLL.out]
        have SE : Hid (sc m = spliced (dv :: tl) 1 q) := by show _ = _; rw [hsc, HM.out]; show spliced _ _ _ = _; rw [List.take_of_length_le (Nat.le_refl _)]
        clear hsc
        go_wp2_with fail
        go_loopw [11] (fun i wr => ∃ j : Nat, j ≤ m ∧ i = .int .i64 j ∧ Hid (Blk wr s 32 (sc j)) ∧ Hid (Own wr bs2 (.slice Av m cv) q) ∧ Hid (RdIs wr g A n k q3.2) ∧ Hid (Blk wr h 32 zs) ∧ Hid (Below w.heap.size w wr) ∧ Hid (OwnK .u16 22 wr bs dv dL)) (fun i _ => m - (intOf i).toNat)
        case atStart => exact ⟨0, Nat.zero_le _, rfl, by rw [S0.out]; exact X9, P9, R9, Z9, B9, DD9⟩
        case round =>
          clear X9 P9 R9 Z9 B9 DD9
          obtain ⟨j, hj, rfl, XX, PP, RR, ZZ, BB, DD⟩ := hrel
          by_cases hlt : j < m
          · have hh := PP.out.holds_at HM.out.symm HBQ.out (by omega)
            have hmc := hh.fit
            obtain ⟨ab, ao, rfl, hab, hcl⟩ := hh.cells (by omega)
            have gc := hcl j hlt
            have HSN := Lib.hid (SS.out j hlt)
            have HSL := Lib.hid (SL.out j (by omega))
            obtain ⟨y, hy⟩ : ∃ y, y = q.getD j 0 := ⟨_, rfl⟩
            rw [← hy] at gc HSN
            obtain ⟨cj, hcj⟩ : ∃ x, x = sc j := ⟨_, rfl⟩
            rw [← hcj] at XX HSN HSL
            clear hy hcj hcl hh hab
            go_wp2_with (first
              | ((with_reducible show wpList _ _ _ (⟨none, .store _ (.tmp 63) _, _, _, _, _⟩ :: _) _ _); refine wpList_store_fld rfl _ (.tmp 63) (.tmp 61) rfl s (1 + j) rfl _ cj (.int .u8 y) rfl XX (by have := HSL.out; show 1 + j < _; omega) (by kernel_rfl) rfl ?_; intro w1' XN ON hgN; rw [HSN.out] at XN)
              | fail)
            have BN : Hid (Below w.heap.size w w1') := below_only BB.out ON.out hws
            have ZN : Hid (Blk w1' h 32 zs) := ZZ.out.only ON.out hhs
            have RN : Hid (RdIs w1' g A n k q3.2) := Blk.only RR.out ON.out (Ne.symm hsg)
            have PN := Lib.hid (PP.out.only ON.out hsb2)
            have DN := Lib.hid (DD.out.save (Save.of_only ON.out) hsb)
            clear gc HSN XX ZZ RR PP BB ON hgN DD
            go_roundw
            case rel => exact ⟨j + 1, by omega, by go_num, XN, PN, RN, ZN, BN, DN⟩
            case measure => simp [intOf]; omega
          · obtain rfl : j = m := by omega
            rw [SE.out] at XX
            have LE : Hid ((spliced (dv :: tl) 1 q).length = 69) := by show _ = _; rw [← SE.out]; exact SL.out _ (Nat.le_refl _)
            go_wp2_with fail
            refine (CE.out wr g RR.out).mono ?_
            rintro e wd ⟨rfl, kk, rfl⟩
            have Zd := Lib.hid (Blk.drewN ZZ.out kk)
            have Xd := Lib.hid (Blk.drewN XX.out kk)
            have Bd : Hid (Below w.heap.size w (wr.drewN kk)) := step BB.out (drewed _ kk)
            have Dd : Hid (OwnK .u16 22 (wr.drewN kk) bs dv dL) := DD.out.keep fun _ _ _ _ => rfl
            obtain ⟨wq, hwq⟩ : ∃ wq, wq = wr.drewN kk := ⟨_, rfl⟩
            rw [← hwq] at Zd Xd Bd Dd ⊢
            clear hwq
            have hone : dv.oneCell' = true := by obtain ⟨_, _, _, hv, _⟩ := Dd.out.open; rw [hv]; rfl
            rw [← HQQ.out, ← HDL.out] at HQ
            have kdial' := kdial
            rw [← HDL.out] at kdial'
            have kd : ({ zeroAsk with dial := dL } : AskV).ok := ⟨kdial', zeroAsk_ok.glen, zeroAsk_ok.gbyte, zeroAsk_ok.plen, zeroAsk_ok.pbyte, zeroAsk_ok.acc, zeroAsk_ok.shr, zeroAsk_ok.way, zeroAsk_ok.opt, zeroAsk_ok.lev, zeroAsk_ok.dur, zeroAsk_ok.file, zeroAsk_ok.at_, zeroAsk_ok.n, zeroAsk_ok.data, zeroAsk_ok.locks, zeroAsk_ok.most, zeroAsk_ok.cls, zeroAsk_ok.siz⟩
            have kw : ({ zeroAsk with dial := dL, guid := q } : AskV).ok := ⟨kdial', HQL.out, HBQ.out, zeroAsk_ok.plen, zeroAsk_ok.pbyte, zeroAsk_ok.acc, zeroAsk_ok.shr, zeroAsk_ok.way, zeroAsk_ok.opt, zeroAsk_ok.lev, zeroAsk_ok.dur, zeroAsk_ok.file, zeroAsk_ok.at_, zeroAsk_ok.n, zeroAsk_ok.data, zeroAsk_ok.locks, zeroAsk_ok.most, zeroAsk_ok.cls, zeroAsk_ok.siz⟩
            have HEQ : Hid (spliced (dv :: tl) 1 q = acells dv (.slice none 0 0) (.slice none 0 0) ({ zeroAsk with dial := dL, guid := q })) := by
              show _ = _
              have h := acells_guidS (vd := dv) (vx := .slice none 0 0) (vl := .slice none 0 0) (a := { zeroAsk with dial := dL }) kd q
              rw [← h]
              unfold spliced
              rw [HQL.out]
              have e1 : dv :: tl = acells dv (.slice none 0 0) (.slice none 0 0) { zeroAsk with dial := dL } := by
                have h1 := HTL.out; rw [HZS.out] at h1; injection h1 with _ h1; rw [← h1]; rfl
              rw [e1]
            have LE2 : Hid ((spliced (dv :: tl) 1 q).length = 69) := by rw [HEQ.out]; exact acells_len kw
            have LO : Hid (∀ v ∈ spliced (dv :: tl) 1 q, v.oneCell' = true) := by rw [HEQ.out]; exact acells_one hone rfl rfl
            obtain ⟨rs, hrs⟩ : ∃ x, x = spliced (dv :: tl) 1 q := ⟨_, rfl⟩
            rw [← hrs] at Xd LE2 LO HEQ
            clear hrs
            go_wp2_with (first
              | ((with_reducible show wpList _ _ _ (⟨some 95, _, _, _, _, _⟩ :: _) _ _); refine wpList_load_blk rfl _ (.tmp 7) rfl s rfl _ rs Xd 69 _ Tryd.underlying32 rfl size_ask LE2 ?_)
              | ((with_reducible show wpList _ _ _ (⟨none, .store _ (.tmp 4) _, _, _, _, _⟩ :: _) _ _); refine wpList_store_blk rfl _ (.tmp 4) (.tmp 95) rfl h rfl _ zs rs rfl Zd 69 size_ask HZ LE2 LO ?_; intro wz KZ OZ hgz)
              | fail)
            refine bodyPost_ret (v := .tuple #[.agg rs.toArray, .int .i64 0]) ?_ rfl ?_
            · exact results_cell_two rfl _ _ h _ _ (0, 0) _ rfl KZ.out Tryd.underlying32 rfl (by rw [size_ask]; have := LE2.out; simp [this]) rfl
            · obtain ⟨Av2, nv, cw, hv, hF⟩ := (Dd.out.save (Save.of_only OZ.out) hhb).holdsF
              exact HQ.out dv _ wz (congrArg (fun r : List Value => Ending.returned (.tuple #[.agg r.toArray, .int .i64 0])) HEQ.out) ⟨Av2, nv, cw, none, 0, 0, none, 0, 0, by rw [hv], hF, Holds.nil _ _, HoldsS.nil _ _ _ _⟩ (below_only Bd.out OZ.out hg1)
  by_cases h1 : c = 1
  · subst h1
    obtain ⟨T1, T2⟩ := rdText_P xs (rdPart xs 32 rd0).2
    have p1 : (rdPart xs 32 rd0).2.p ≤ n := rdPart_place hl p0
    have p2 : (rdText xs (rdPart xs 32 rd0).2).2.p ≤ n := rdText_place hby hl p1
    have C4 : Hid (∀ (w' : World) (g : Nat), RdIs w' g A n k rd0 → Below w.heap.size w w' → w.heap.size ≤ g → Calls Tryd.prog 58 #[.pointer (some ⟨g, 0, none⟩), .int .i64 32] w' fun e w2 => ∃ v, e = .returned v ∧ RdIs w2 g A n k (rdPart xs 32 rd0).2 ∧ Own w2 w'.heap.size v (rdPart xs 32 rd0).1 ∧ Save g w' w2) := fun w' g h1 hb hg => rdPart_any w' g A n k xs _ 32 h1 ((HX.out.below hb).mono hb.size) p0 (by omega)
    have CT : Hid (∀ (w' : World) (g : Nat), RdIs w' g A n k (rdPart xs 32 rd0).2 → Below w.heap.size w w' → w.heap.size ≤ g → Calls Tryd.prog 59 #[.pointer (some ⟨g, 0, none⟩)] w' fun e w2 => e = .returned (.string ⟨(rdText xs (rdPart xs 32 rd0).2).1.toArray⟩) ∧ RdIs w2 g A n k (rdText xs (rdPart xs 32 rd0).2).2 ∧ Save g w' w2) := fun w' g h1 hb hg => rdText_any w' g A n k xs _ h1 ((HX.out.below hb).mono hb.size) p1
    have CE : Hid (∀ (w' : World) (g : Nat), RdIs w' g A n k (rdText xs (rdPart xs 32 rd0).2).2 → Calls Tryd.prog 60 #[.pointer (some ⟨g, 0, none⟩)] w' fun e w2 => e = .returned (.int .i64 (rdEnd xs (rdText xs (rdPart xs 32 rd0).2).2)) ∧ ∃ k, w'.drewN k = w2) := fun w' g h1 => rdEnd_any w' g A n k xs _ h1 hl hrm p2
    have hok := rdPart_ok (m := 32) (r := rd0) hl
    have hbyq := rdPart_bytes hby 32 rd0
    have hm8 : (rdPart xs 32 rd0).1.length ≤ 32 := by unfold rdPart; split <;> (try split) <;> simp <;> omega
    have hge : gaskErr 1 xs = rdEnd xs (rdText xs (rdPart xs 32 rd0).2).2 := by rw [T2]; unfold gaskErr gaskP; rw [if_pos hk, if_neg (by decide), if_pos rfl]
    by_cases he : rdEnd xs (rdText xs (rdPart xs 32 rd0).2).2 = 0
    rotate_left
    · have HQ := Lib.hid (HE.out _ hge he)
      clear hge T1 T2 p1 p2 hok
      obtain ⟨q3, hq3⟩ : ∃ x, x = rdPart xs 32 rd0 := ⟨_, rfl⟩
      rw [← hq3] at C4 CT CE hbyq hm8 he HQ
      clear hq3
      obtain ⟨t, ht⟩ : ∃ x, x = rdText xs q3.2 := ⟨_, rfl⟩
      rw [← ht] at CT CE he HQ
      clear ht
      obtain ⟨er, her⟩ : ∃ x, x = rdEnd xs t.2 := ⟨_, rfl⟩
      rw [← her] at CE he HQ
      clear her HE hx hk p0 h0
      obtain ⟨q, hq⟩ : ∃ q, q = q3.1 := ⟨_, rfl⟩
      have HQQ := Lib.hid hq
      rw [← hq] at hbyq hm8 C4
      have HBQ := Lib.hid hbyq
      clear hq hbyq
      obtain ⟨tx, htx⟩ : ∃ x : ByteArray, x = ⟨t.1.toArray⟩ := ⟨_, rfl⟩
      have HTX := Lib.hid htx
      rw [← htx] at CT
      clear htx
      go_enter Tryd.func23, Tryd.ntmps23
      go_wp2_with (first
        | ((with_reducible show wpList _ _ _ (⟨some 4, _, _, _, _, _⟩ :: _) _ _); refine wpList_alloc_blk rfl _ rfl zs _ ZH ?_; intro h w1 hg1 hg2 Z1 L1)
        | fail)
      refine (CK.out w1).mono ?_
      rintro e w' ⟨rfl, rfl⟩
      go_wp2_with (first
        | ((with_reducible show wpList _ _ _ (⟨some 20, _, _, _, _, _⟩ :: _) _ _); refine wpList_build_blk rfl _ _ rfl [.slice A n k, .int .i64 0, .int .i64 0] (by refine Eq.trans ?_ B1; kernel_rfl) ?_)
        | ((with_reducible show wpList _ _ _ (⟨some 21, _, _, _, _, _⟩ :: _) _ _); refine wpList_box_blk rfl _ (.tmp 20) rfl [.slice A n k, .int .i64 0, .int .i64 0] rfl ?_; intro g w2 hg3 hg4 R2 L2)
        | ((with_reducible show wpList _ _ _ (⟨some 7, _, _, _, _, _⟩ :: _) _ _); refine wpList_alloc_blk rfl _ rfl zs _ ZH ?_; intro s w3 hg5 hg6 X3 L3)
        | fail)
      have B3 := Lib.hid (step (step L1.out L2.out) L3.out)
      have Z3 := Lib.hid ((Z1.out.over L2.out).over L3.out)
      have R3 : Hid (RdIs w3 g A n k rd0) := R2.out.over L3.out
      have hs1 := L1.out.size
      have hs2 := L2.out.size
      have hwg : w.heap.size ≤ g := by omega
      have hws : w.heap.size ≤ s := by omega
      have hsg : s ≠ g := by omega
      have hhg : h ≠ g := by omega
      have hhs : h ≠ s := by omega
      clear R2 L2 L3 Z1 L1 hg3 hg4 hg5 hg6 hs1 hs2 hg2
      have hss := X3.out.lt
      obtain ⟨bs2, hbs2⟩ : ∃ x, x = w3.heap.size := ⟨_, rfl⟩
      have hsb2 : s < bs2 := by omega
      refine (C4.out w3 g R3.out B3.out hwg).mono ?_
      rintro e w9 ⟨vd, rfl, hR, ho, hS⟩
      have R9 := Lib.hid hR
      have X9 := Lib.hid (X3.out.save hS hsg)
      have Z9 := Lib.hid (Z3.out.save hS hhg)
      have B9 := Lib.hid (B3.out.trans (hS.below hwg B3.out.size))
      rw [← hbs2] at ho
      clear hbs2 hss
      clear hR hS R3 X3 Z3 B3
      obtain ⟨Av, cv, rfl⟩ := ho.len
      obtain ⟨m, hm⟩ : ∃ m, m = q.length := ⟨_, rfl⟩
      rw [← hm] at ho hm8 ⊢
      have HM := Lib.hid hm
      have P9 := Lib.hid ho
      clear ho hm
      obtain ⟨sc, hsc⟩ : ∃ sc : Nat → List Value, sc = fun j => spliced (zs) 17 (q.take j) := ⟨_, rfl⟩
      have S0 : Hid (sc 0 = zs) := by rw [hsc]; exact spliced_zero _ _ _
      have SS : Hid (∀ j, j < m → (sc j).set (17 + j) (.int .u8 (q.getD j 0)) = sc (j + 1)) := fun j hj => by rw [hsc]; exact spliced_set (by rw [← HM.out]; exact hj) (by rw [← HM.out, HZ.out]; omega)
      have SL : Hid (∀ j, j ≤ m → (sc j).length = 69) := fun j hj => by rw [hsc]; show (spliced _ _ _).length = _; rw [spliced_len (by rw [List.length_take, HZ.out]; omega), HZ.out]
      have SE : Hid (sc m = spliced (zs) 17 q) := by show _ = _; rw [hsc, HM.out]; show spliced _ _ _ = _; rw [List.take_of_length_le (Nat.le_refl _)]
      clear hsc
      go_wp2_with fail
      go_loopw [13] (fun i wr => ∃ j : Nat, j ≤ m ∧ i = .int .i64 j ∧ Hid (Blk wr s 32 (sc j)) ∧ Hid (Own wr bs2 (.slice Av m cv) q) ∧ Hid (RdIs wr g A n k q3.2) ∧ Hid (Blk wr h 32 zs) ∧ Hid (Below w.heap.size w wr)) (fun i _ => m - (intOf i).toNat)
      case atStart => exact ⟨0, Nat.zero_le _, rfl, by rw [S0.out]; exact X9, P9, R9, Z9, B9⟩
      case round =>
        clear X9 P9 R9 Z9 B9
        obtain ⟨j, hj, rfl, XX, PP, RR, ZZ, BB⟩ := hrel
        by_cases hlt : j < m
        · have hh := PP.out.holds_at HM.out.symm HBQ.out (by omega)
          have hmc := hh.fit
          obtain ⟨ab, ao, rfl, hab, hcl⟩ := hh.cells (by omega)
          have gc := hcl j hlt
          have HSN := Lib.hid (SS.out j hlt)
          have HSL := Lib.hid (SL.out j (by omega))
          obtain ⟨y, hy⟩ : ∃ y, y = q.getD j 0 := ⟨_, rfl⟩
          rw [← hy] at gc HSN
          obtain ⟨cj, hcj⟩ : ∃ x, x = sc j := ⟨_, rfl⟩
          rw [← hcj] at XX HSN HSL
          clear hy hcj hcl hh hab
          go_wp2_with (first
            | ((with_reducible show wpList _ _ _ (⟨none, .store _ (.tmp 80) _, _, _, _, _⟩ :: _) _ _); refine wpList_store_fld rfl _ (.tmp 80) (.tmp 78) rfl s (17 + j) rfl _ cj (.int .u8 y) rfl XX (by have := HSL.out; show 17 + j < _; omega) (by kernel_rfl) rfl ?_; intro w1' XN ON hgN; rw [HSN.out] at XN)
            | fail)
          have BN : Hid (Below w.heap.size w w1') := below_only BB.out ON.out hws
          have ZN : Hid (Blk w1' h 32 zs) := ZZ.out.only ON.out hhs
          have RN : Hid (RdIs w1' g A n k q3.2) := Blk.only RR.out ON.out (Ne.symm hsg)
          have PN := Lib.hid (PP.out.only ON.out hsb2)
          clear gc HSN XX ZZ RR PP BB ON hgN
          go_roundw
          case rel => exact ⟨j + 1, by omega, by go_num, XN, PN, RN, ZN, BN⟩
          case measure => simp [intOf]; omega
        · obtain rfl : j = m := by omega
          rw [SE.out] at XX
          have LE : Hid ((spliced (zs) 17 q).length = 69) := by show _ = _; rw [← SE.out]; exact SL.out _ (Nat.le_refl _)
          go_wp2_with fail
          refine (CT.out wr g RR.out BB.out hwg).mono ?_
          rintro e w10 ⟨rfl, hR, hS⟩
          have R10 := Lib.hid hR
          have X10 := Lib.hid (XX.out.save hS hsg)
          have Z10 := Lib.hid (ZZ.out.save hS hhg)
          have B10 := Lib.hid (BB.out.trans (hS.below hwg BB.out.size))
          clear hR hS RR XX ZZ BB PP
          go_wp2_with (first
            | ((with_reducible show wpList _ _ _ (⟨none, .store _ (.tmp 83) _, _, _, _, _⟩ :: _) _ _); refine wpList_store_fld rfl _ (.tmp 83) (.tmp 82) rfl s 49 rfl _ (spliced zs 17 q) (.string tx) rfl X10 (by have := LE.out; show 49 < _; omega) (by kernel_rfl) rfl ?_; intro w11 X11 O11 hgx; have B11 := Lib.hid (below_only B10.out O11.out hws); have Z11 := Lib.hid (Z10.out.only O11.out hhs); have R11 : Hid (RdIs w11 g A n k _) := Blk.only R10.out O11.out (Ne.symm hsg))
            | fail)
          refine (CE.out w11 g R11.out).mono ?_
          rintro e wd ⟨rfl, kk, rfl⟩
          have Zd := Lib.hid (Blk.drewN Z11.out kk)
          have Xd := Lib.hid (Blk.drewN X11.out kk)
          have Bd : Hid (Below w.heap.size w (w11.drewN kk)) := step B11.out (drewed _ kk)
          obtain ⟨wq, hwq⟩ : ∃ wq, wq = w11.drewN kk := ⟨_, rfl⟩
          rw [← hwq] at Zd Xd Bd ⊢
          clear hwq
          go_wp2_with (first
            | ((with_reducible show wpList _ _ _ (⟨some 93, _, _, _, _, _⟩ :: _) _ _); refine wpList_build_none rfl _ rfl zs BZ ?_)
            | ((with_reducible show wpList _ _ _ (⟨none, .store _ (.tmp 4) _, _, _, _, _⟩ :: _) _ _); refine wpList_store_blk rfl _ (.tmp 4) (.tmp 93) rfl h rfl _ zs zs rfl Zd 69 size_ask HZ HZ HZ1 ?_; intro wz KZ OZ hgz)
            | fail)
          refine bodyPost_ret (v := .tuple #[.agg zs.toArray, .int .i64 er]) ?_ rfl (HQ.out _ _ rfl (below_only Bd.out OZ.out hg1))
          exact results_cell_two rfl _ _ h _ _ (0, 0) _ rfl KZ.out Tryd.underlying32 rfl (by rw [size_ask]; have := HZ.out; simp [this]) rfl
    have HQ : Hid (∀ vd e w', e = .returned (.tuple #[.agg (acells vd (.slice none 0 0) (.slice none 0 0) ({ zeroAsk with proof := (rdPart xs 32 rd0).1, user := ⟨(rdText xs (rdPart xs 32 rd0).2).1.toArray⟩ } : AskV)).toArray, .int .i64 0]) → AskIs w' w'.heap.size (acells vd (.slice none 0 0) (.slice none 0 0) ({ zeroAsk with proof := (rdPart xs 32 rd0).1, user := ⟨(rdText xs (rdPart xs 32 rd0).2).1.toArray⟩ } : AskV)) ({ zeroAsk with proof := (rdPart xs 32 rd0).1, user := ⟨(rdText xs (rdPart xs 32 rd0).2).1.toArray⟩ } : AskV) → Below w.heap.size w w' → PGAskPost w 1 xs e w') := by
      intro vd e w' g1 g2 g3
      have h4 : gaskOf 1 xs = { zeroAsk with proof := (rdPart xs 32 rd0).1, user := ⟨(rdText xs (rdPart xs 32 rd0).2).1.toArray⟩ } := by unfold gaskOf; rw [hge, he, if_pos rfl]; unfold gaskP; rw [if_neg (by decide), if_pos rfl, T1]
      unfold PGAskPost
      rw [h4, hge, he]
      exact ⟨vd, g1, g2, g3⟩
    have hre : (prdText xs (rdPart xs 32 rd0).2).2.e = 0 := rdEnd_zero (by rw [← T2]; exact he)
    have hqe := (prdText_taken hby hre).1
    have HQL := Lib.hid (hok hqe)
    rw [he] at CE
    clear hge T1 T2 p1 p2 hok he hre hqe
    obtain ⟨q3, hq3⟩ : ∃ x, x = rdPart xs 32 rd0 := ⟨_, rfl⟩
    rw [← hq3] at C4 CT CE hbyq hm8 HQ HQL
    clear hq3
    obtain ⟨t, ht⟩ : ∃ x, x = rdText xs q3.2 := ⟨_, rfl⟩
    rw [← ht] at CT CE HQ
    clear ht
    clear HE hx hk p0 h0
    obtain ⟨q, hq⟩ : ∃ q, q = q3.1 := ⟨_, rfl⟩
    have HQQ := Lib.hid hq
    rw [← hq] at hbyq hm8 C4 HQL
    have HBQ := Lib.hid hbyq
    clear hq hbyq
    obtain ⟨tx, htx⟩ : ∃ x : ByteArray, x = ⟨t.1.toArray⟩ := ⟨_, rfl⟩
    have HTX := Lib.hid htx
    rw [← htx] at CT
    clear htx
    go_enter Tryd.func23, Tryd.ntmps23
    go_wp2_with (first
      | ((with_reducible show wpList _ _ _ (⟨some 4, _, _, _, _, _⟩ :: _) _ _); refine wpList_alloc_blk rfl _ rfl zs _ ZH ?_; intro h w1 hg1 hg2 Z1 L1)
      | fail)
    refine (CK.out w1).mono ?_
    rintro e w' ⟨rfl, rfl⟩
    go_wp2_with (first
      | ((with_reducible show wpList _ _ _ (⟨some 20, _, _, _, _, _⟩ :: _) _ _); refine wpList_build_blk rfl _ _ rfl [.slice A n k, .int .i64 0, .int .i64 0] (by refine Eq.trans ?_ B1; kernel_rfl) ?_)
      | ((with_reducible show wpList _ _ _ (⟨some 21, _, _, _, _, _⟩ :: _) _ _); refine wpList_box_blk rfl _ (.tmp 20) rfl [.slice A n k, .int .i64 0, .int .i64 0] rfl ?_; intro g w2 hg3 hg4 R2 L2)
      | ((with_reducible show wpList _ _ _ (⟨some 7, _, _, _, _, _⟩ :: _) _ _); refine wpList_alloc_blk rfl _ rfl zs _ ZH ?_; intro s w3 hg5 hg6 X3 L3)
      | fail)
    have B3 := Lib.hid (step (step L1.out L2.out) L3.out)
    have Z3 := Lib.hid ((Z1.out.over L2.out).over L3.out)
    have R3 : Hid (RdIs w3 g A n k rd0) := R2.out.over L3.out
    have hs1 := L1.out.size
    have hs2 := L2.out.size
    have hwg : w.heap.size ≤ g := by omega
    have hws : w.heap.size ≤ s := by omega
    have hsg : s ≠ g := by omega
    have hhg : h ≠ g := by omega
    have hhs : h ≠ s := by omega
    clear R2 L2 L3 Z1 L1 hg3 hg4 hg5 hg6 hs1 hs2 hg2
    have hss := X3.out.lt
    obtain ⟨bs2, hbs2⟩ : ∃ x, x = w3.heap.size := ⟨_, rfl⟩
    have hsb2 : s < bs2 := by omega
    refine (C4.out w3 g R3.out B3.out hwg).mono ?_
    rintro e w9 ⟨vd, rfl, hR, ho, hS⟩
    have R9 := Lib.hid hR
    have X9 := Lib.hid (X3.out.save hS hsg)
    have Z9 := Lib.hid (Z3.out.save hS hhg)
    have B9 := Lib.hid (B3.out.trans (hS.below hwg B3.out.size))
    rw [← hbs2] at ho
    clear hbs2 hss
    clear hR hS R3 X3 Z3 B3
    obtain ⟨Av, cv, rfl⟩ := ho.len
    obtain ⟨m, hm⟩ : ∃ m, m = q.length := ⟨_, rfl⟩
    rw [← hm] at ho hm8 ⊢
    have HM := Lib.hid hm
    have P9 := Lib.hid ho
    clear ho hm
    obtain ⟨sc, hsc⟩ : ∃ sc : Nat → List Value, sc = fun j => spliced (zs) 17 (q.take j) := ⟨_, rfl⟩
    have S0 : Hid (sc 0 = zs) := by rw [hsc]; exact spliced_zero _ _ _
    have SS : Hid (∀ j, j < m → (sc j).set (17 + j) (.int .u8 (q.getD j 0)) = sc (j + 1)) := fun j hj => by rw [hsc]; exact spliced_set (by rw [← HM.out]; exact hj) (by rw [← HM.out, HZ.out]; omega)
    have SL : Hid (∀ j, j ≤ m → (sc j).length = 69) := fun j hj => by rw [hsc]; show (spliced _ _ _).length = _; rw [spliced_len (by rw [List.length_take, HZ.out]; omega), HZ.out]
    have SE : Hid (sc m = spliced (zs) 17 q) := by show _ = _; rw [hsc, HM.out]; show spliced _ _ _ = _; rw [List.take_of_length_le (Nat.le_refl _)]
    clear hsc
    go_wp2_with fail
    go_loopw [13] (fun i wr => ∃ j : Nat, j ≤ m ∧ i = .int .i64 j ∧ Hid (Blk wr s 32 (sc j)) ∧ Hid (Own wr bs2 (.slice Av m cv) q) ∧ Hid (RdIs wr g A n k q3.2) ∧ Hid (Blk wr h 32 zs) ∧ Hid (Below w.heap.size w wr)) (fun i _ => m - (intOf i).toNat)
    case atStart => exact ⟨0, Nat.zero_le _, rfl, by rw [S0.out]; exact X9, P9, R9, Z9, B9⟩
    case round =>
      clear X9 P9 R9 Z9 B9
      obtain ⟨j, hj, rfl, XX, PP, RR, ZZ, BB⟩ := hrel
      by_cases hlt : j < m
      · have hh := PP.out.holds_at HM.out.symm HBQ.out (by omega)
        have hmc := hh.fit
        obtain ⟨ab, ao, rfl, hab, hcl⟩ := hh.cells (by omega)
        have gc := hcl j hlt
        have HSN := Lib.hid (SS.out j hlt)
        have HSL := Lib.hid (SL.out j (by omega))
        obtain ⟨y, hy⟩ : ∃ y, y = q.getD j 0 := ⟨_, rfl⟩
        rw [← hy] at gc HSN
        obtain ⟨cj, hcj⟩ : ∃ x, x = sc j := ⟨_, rfl⟩
        rw [← hcj] at XX HSN HSL
        clear hy hcj hcl hh hab
        go_wp2_with (first
          | ((with_reducible show wpList _ _ _ (⟨none, .store _ (.tmp 80) _, _, _, _, _⟩ :: _) _ _); refine wpList_store_fld rfl _ (.tmp 80) (.tmp 78) rfl s (17 + j) rfl _ cj (.int .u8 y) rfl XX (by have := HSL.out; show 17 + j < _; omega) (by kernel_rfl) rfl ?_; intro w1' XN ON hgN; rw [HSN.out] at XN)
          | fail)
        have BN : Hid (Below w.heap.size w w1') := below_only BB.out ON.out hws
        have ZN : Hid (Blk w1' h 32 zs) := ZZ.out.only ON.out hhs
        have RN : Hid (RdIs w1' g A n k q3.2) := Blk.only RR.out ON.out (Ne.symm hsg)
        have PN := Lib.hid (PP.out.only ON.out hsb2)
        clear gc HSN XX ZZ RR PP BB ON hgN
        go_roundw
        case rel => exact ⟨j + 1, by omega, by go_num, XN, PN, RN, ZN, BN⟩
        case measure => simp [intOf]; omega
      · obtain rfl : j = m := by omega
        rw [SE.out] at XX
        have LE : Hid ((spliced (zs) 17 q).length = 69) := by show _ = _; rw [← SE.out]; exact SL.out _ (Nat.le_refl _)
        go_wp2_with fail
        refine (CT.out wr g RR.out BB.out hwg).mono ?_
        rintro e w10 ⟨rfl, hR, hS⟩
        have R10 := Lib.hid hR
        have X10 := Lib.hid (XX.out.save hS hsg)
        have Z10 := Lib.hid (ZZ.out.save hS hhg)
        have B10 := Lib.hid (BB.out.trans (hS.below hwg BB.out.size))
        clear hR hS RR XX ZZ BB PP
        go_wp2_with (first
          | ((with_reducible show wpList _ _ _ (⟨none, .store _ (.tmp 83) _, _, _, _, _⟩ :: _) _ _); refine wpList_store_fld rfl _ (.tmp 83) (.tmp 82) rfl s 49 rfl _ (spliced zs 17 q) (.string tx) rfl X10 (by have := LE.out; show 49 < _; omega) (by kernel_rfl) rfl ?_; intro w11 X11 O11 hgx; have B11 := Lib.hid (below_only B10.out O11.out hws); have Z11 := Lib.hid (Z10.out.only O11.out hhs); have R11 : Hid (RdIs w11 g A n k _) := Blk.only R10.out O11.out (Ne.symm hsg))
          | fail)
        refine (CE.out w11 g R11.out).mono ?_
        rintro e wd ⟨rfl, kk, rfl⟩
        have Zd := Lib.hid (Blk.drewN Z11.out kk)
        have Xd := Lib.hid (Blk.drewN X11.out kk)
        have Bd : Hid (Below w.heap.size w (w11.drewN kk)) := step B11.out (drewed _ kk)
        obtain ⟨wq, hwq⟩ : ∃ wq, wq = w11.drewN kk := ⟨_, rfl⟩
        rw [← hwq] at Zd Xd Bd ⊢
        clear hwq
        rw [← HQQ.out, ← HTX.out] at HQ
        have kd : ({ zeroAsk with proof := q } : AskV).ok := ⟨zeroAsk_ok.dial, zeroAsk_ok.glen, zeroAsk_ok.gbyte, HQL.out, HBQ.out, zeroAsk_ok.acc, zeroAsk_ok.shr, zeroAsk_ok.way, zeroAsk_ok.opt, zeroAsk_ok.lev, zeroAsk_ok.dur, zeroAsk_ok.file, zeroAsk_ok.at_, zeroAsk_ok.n, zeroAsk_ok.data, zeroAsk_ok.locks, zeroAsk_ok.most, zeroAsk_ok.cls, zeroAsk_ok.siz⟩
        have kw : ({ zeroAsk with proof := q, user := tx } : AskV).ok := ⟨zeroAsk_ok.dial, zeroAsk_ok.glen, zeroAsk_ok.gbyte, HQL.out, HBQ.out, zeroAsk_ok.acc, zeroAsk_ok.shr, zeroAsk_ok.way, zeroAsk_ok.opt, zeroAsk_ok.lev, zeroAsk_ok.dur, zeroAsk_ok.file, zeroAsk_ok.at_, zeroAsk_ok.n, zeroAsk_ok.data, zeroAsk_ok.locks, zeroAsk_ok.most, zeroAsk_ok.cls, zeroAsk_ok.siz⟩
        have HEQ : Hid ((spliced zs 17 q).set 49 (.string tx) = acells (.slice none 0 0) (.slice none 0 0) (.slice none 0 0) ({ zeroAsk with proof := q, user := tx })) := by
          show _ = _
          rw [HZS.out]
          have h := acells_proofS (vd := .slice none 0 0) (vx := .slice none 0 0) (vl := .slice none 0 0) (a := zeroAsk) zeroAsk_ok q
          have e1 : spliced (acells (.slice none 0 0) (.slice none 0 0) (.slice none 0 0) zeroAsk) 17 q = acells (.slice none 0 0) (.slice none 0 0) (.slice none 0 0) { zeroAsk with proof := q } := by rw [← h]; unfold spliced; rw [HQL.out]
          rw [e1]
          exact acells_user (a := { zeroAsk with proof := q }) kd _
        have LE2 : Hid (((spliced zs 17 q).set 49 (.string tx)).length = 69) := by rw [HEQ.out]; exact acells_len kw
        have LO : Hid (∀ v ∈ (spliced zs 17 q).set 49 (.string tx), v.oneCell' = true) := by rw [HEQ.out]; exact acells_one rfl rfl rfl
        obtain ⟨rs, hrs⟩ : ∃ x, x = (spliced zs 17 q).set 49 (.string tx) := ⟨_, rfl⟩
        rw [← hrs] at Xd LE2 LO HEQ
        clear hrs
        go_wp2_with (first
          | ((with_reducible show wpList _ _ _ (⟨some 95, _, _, _, _, _⟩ :: _) _ _); refine wpList_load_blk rfl _ (.tmp 7) rfl s rfl _ rs Xd 69 _ Tryd.underlying32 rfl size_ask LE2 ?_)
          | ((with_reducible show wpList _ _ _ (⟨none, .store _ (.tmp 4) _, _, _, _, _⟩ :: _) _ _); refine wpList_store_blk rfl _ (.tmp 4) (.tmp 95) rfl h rfl _ zs rs rfl Zd 69 size_ask HZ LE2 LO ?_; intro wz KZ OZ hgz)
          | fail)
        refine bodyPost_ret (v := .tuple #[.agg rs.toArray, .int .i64 0]) ?_ rfl ?_
        · exact results_cell_two rfl _ _ h _ _ (0, 0) _ rfl KZ.out Tryd.underlying32 rfl (by rw [size_ask]; have := LE2.out; simp [this]) rfl
        · exact HQ.out (.slice none 0 0) _ wz (congrArg (fun r : List Value => Ending.returned (.tuple #[.agg r.toArray, .int .i64 0])) HEQ.out) ⟨none, 0, 0, none, 0, 0, none, 0, 0, rfl, HoldsF.nil _ _ _, Holds.nil _ _, HoldsS.nil _ _ _ _⟩ (below_only Bd.out OZ.out hg1)
  by_cases h3 : c = 3
  · subst h3
    obtain ⟨T1, T2⟩ := rdText_P xs rd0
    have p2 : (rdText xs rd0).2.p ≤ n := rdText_place hby hl p0
    have CT : Hid (∀ (w' : World) (g : Nat), RdIs w' g A n k rd0 → Below w.heap.size w w' → w.heap.size ≤ g → Calls Tryd.prog 59 #[.pointer (some ⟨g, 0, none⟩)] w' fun e w2 => e = .returned (.string ⟨(rdText xs rd0).1.toArray⟩) ∧ RdIs w2 g A n k (rdText xs rd0).2 ∧ Save g w' w2) := fun w' g h1 hb hg => rdText_any w' g A n k xs _ h1 ((HX.out.below hb).mono hb.size) p0
    have CE : Hid (∀ (w' : World) (g : Nat), RdIs w' g A n k (rdText xs rd0).2 → Calls Tryd.prog 60 #[.pointer (some ⟨g, 0, none⟩)] w' fun e w2 => e = .returned (.int .i64 (rdEnd xs (rdText xs rd0).2)) ∧ ∃ k, w'.drewN k = w2) := fun w' g h1 => rdEnd_any w' g A n k xs _ h1 hl hrm p2
    have hge : gaskErr 3 xs = rdEnd xs (rdText xs rd0).2 := by rw [T2]; unfold gaskErr gaskP; rw [if_pos hk, if_neg (by decide), if_neg (by decide), if_pos rfl]
    by_cases he : rdEnd xs (rdText xs rd0).2 = 0
    rotate_left
    · have HQ := Lib.hid (HE.out _ hge he)
      clear hge T1 T2 p2
      obtain ⟨t, ht⟩ : ∃ x, x = rdText xs rd0 := ⟨_, rfl⟩
      rw [← ht] at CT CE he HQ
      obtain ⟨er, her⟩ : ∃ x, x = rdEnd xs t.2 := ⟨_, rfl⟩
      rw [← her] at CE he HQ
      clear ht her HE hx hk p0 h0 h1
      obtain ⟨tx, htx⟩ : ∃ x : ByteArray, x = ⟨t.1.toArray⟩ := ⟨_, rfl⟩
      have HTX := Lib.hid htx
      rw [← htx] at CT
      clear htx
      go_enter Tryd.func23, Tryd.ntmps23
      go_wp2_with (first
        | ((with_reducible show wpList _ _ _ (⟨some 4, _, _, _, _, _⟩ :: _) _ _); refine wpList_alloc_blk rfl _ rfl zs _ ZH ?_; intro h w1 hg1 hg2 Z1 L1)
        | fail)
      refine (CK.out w1).mono ?_
      rintro e w' ⟨rfl, rfl⟩
      go_wp2_with (first
        | ((with_reducible show wpList _ _ _ (⟨some 20, _, _, _, _, _⟩ :: _) _ _); refine wpList_build_blk rfl _ _ rfl [.slice A n k, .int .i64 0, .int .i64 0] (by refine Eq.trans ?_ B1; kernel_rfl) ?_)
        | ((with_reducible show wpList _ _ _ (⟨some 21, _, _, _, _, _⟩ :: _) _ _); refine wpList_box_blk rfl _ (.tmp 20) rfl [.slice A n k, .int .i64 0, .int .i64 0] rfl ?_; intro g w2 hg3 hg4 R2 L2)
        | ((with_reducible show wpList _ _ _ (⟨some 7, _, _, _, _, _⟩ :: _) _ _); refine wpList_alloc_blk rfl _ rfl zs _ ZH ?_; intro s w3 hg5 hg6 X3 L3)
        | fail)
      have B3 := Lib.hid (step (step L1.out L2.out) L3.out)
      have Z3 := Lib.hid ((Z1.out.over L2.out).over L3.out)
      have R3 : Hid (RdIs w3 g A n k rd0) := R2.out.over L3.out
      have hs1 := L1.out.size
      have hs2 := L2.out.size
      have hwg : w.heap.size ≤ g := by omega
      have hws : w.heap.size ≤ s := by omega
      have hsg : s ≠ g := by omega
      have hhg : h ≠ g := by omega
      have hhs : h ≠ s := by omega
      clear R2 L2 L3 Z1 L1 hg3 hg4 hg5 hg6 hs1 hs2 hg2
      refine (CT.out w3 g R3.out B3.out hwg).mono ?_
      rintro e w10 ⟨rfl, hR, hS⟩
      have R10 := Lib.hid hR
      have X10 := Lib.hid (X3.out.save hS hsg)
      have Z10 := Lib.hid (Z3.out.save hS hhg)
      have B10 := Lib.hid (B3.out.trans (hS.below hwg B3.out.size))
      clear hR hS R3 X3 Z3 B3
      go_wp2_with (first
        | ((with_reducible show wpList _ _ _ (⟨none, .store _ (.tmp 88) _, _, _, _, _⟩ :: _) _ _); refine wpList_store_fld rfl _ (.tmp 88) (.tmp 87) rfl s 50 rfl _ (zs) (.string tx) rfl X10 (by have := HZ.out; show 50 < _; omega) (by kernel_rfl) rfl ?_; intro w11 X11 O11 hgx; have B11 := Lib.hid (below_only B10.out O11.out hws); have Z11 := Lib.hid (Z10.out.only O11.out hhs); have R11 : Hid (RdIs w11 g A n k _) := Blk.only R10.out O11.out (Ne.symm hsg))
        | fail)
      refine (CE.out w11 g R11.out).mono ?_
      rintro e wd ⟨rfl, kk, rfl⟩
      have Zd := Lib.hid (Blk.drewN Z11.out kk)
      have Xd := Lib.hid (Blk.drewN X11.out kk)
      have Bd : Hid (Below w.heap.size w (w11.drewN kk)) := step B11.out (drewed _ kk)
      obtain ⟨wq, hwq⟩ : ∃ wq, wq = w11.drewN kk := ⟨_, rfl⟩
      rw [← hwq] at Zd Xd Bd ⊢
      clear hwq
      go_wp2_with (first
        | ((with_reducible show wpList _ _ _ (⟨some 93, _, _, _, _, _⟩ :: _) _ _); refine wpList_build_none rfl _ rfl zs BZ ?_)
        | ((with_reducible show wpList _ _ _ (⟨none, .store _ (.tmp 4) _, _, _, _, _⟩ :: _) _ _); refine wpList_store_blk rfl _ (.tmp 4) (.tmp 93) rfl h rfl _ zs zs rfl Zd 69 size_ask HZ HZ HZ1 ?_; intro wz KZ OZ hgz)
        | fail)
      refine bodyPost_ret (v := .tuple #[.agg zs.toArray, .int .i64 er]) ?_ rfl (HQ.out _ _ rfl (below_only Bd.out OZ.out hg1))
      exact results_cell_two rfl _ _ h _ _ (0, 0) _ rfl KZ.out Tryd.underlying32 rfl (by rw [size_ask]; have := HZ.out; simp [this]) rfl
    have HQ : Hid (∀ vd e w', e = .returned (.tuple #[.agg (acells vd (.slice none 0 0) (.slice none 0 0) ({ zeroAsk with share := ⟨(rdText xs rd0).1.toArray⟩ } : AskV)).toArray, .int .i64 0]) → AskIs w' w'.heap.size (acells vd (.slice none 0 0) (.slice none 0 0) ({ zeroAsk with share := ⟨(rdText xs rd0).1.toArray⟩ } : AskV)) ({ zeroAsk with share := ⟨(rdText xs rd0).1.toArray⟩ } : AskV) → Below w.heap.size w w' → PGAskPost w 3 xs e w') := by
      intro vd e w' g1 g2 g3
      have h4 : gaskOf 3 xs = { zeroAsk with share := ⟨(rdText xs rd0).1.toArray⟩ } := by unfold gaskOf; rw [hge, he, if_pos rfl]; unfold gaskP; rw [if_neg (by decide), if_neg (by decide), if_pos rfl, T1]
      unfold PGAskPost
      rw [h4, hge, he]
      exact ⟨vd, g1, g2, g3⟩
    rw [he] at CE
    clear hge T1 T2 p2 he
    obtain ⟨t, ht⟩ : ∃ x, x = rdText xs rd0 := ⟨_, rfl⟩
    rw [← ht] at CT CE HQ
    clear ht HE hx hk p0 h0 h1
    obtain ⟨tx, htx⟩ : ∃ x : ByteArray, x = ⟨t.1.toArray⟩ := ⟨_, rfl⟩
    have HTX := Lib.hid htx
    rw [← htx] at CT
    clear htx
    go_enter Tryd.func23, Tryd.ntmps23
    go_wp2_with (first
      | ((with_reducible show wpList _ _ _ (⟨some 4, _, _, _, _, _⟩ :: _) _ _); refine wpList_alloc_blk rfl _ rfl zs _ ZH ?_; intro h w1 hg1 hg2 Z1 L1)
      | fail)
    refine (CK.out w1).mono ?_
    rintro e w' ⟨rfl, rfl⟩
    go_wp2_with (first
      | ((with_reducible show wpList _ _ _ (⟨some 20, _, _, _, _, _⟩ :: _) _ _); refine wpList_build_blk rfl _ _ rfl [.slice A n k, .int .i64 0, .int .i64 0] (by refine Eq.trans ?_ B1; kernel_rfl) ?_)
      | ((with_reducible show wpList _ _ _ (⟨some 21, _, _, _, _, _⟩ :: _) _ _); refine wpList_box_blk rfl _ (.tmp 20) rfl [.slice A n k, .int .i64 0, .int .i64 0] rfl ?_; intro g w2 hg3 hg4 R2 L2)
      | ((with_reducible show wpList _ _ _ (⟨some 7, _, _, _, _, _⟩ :: _) _ _); refine wpList_alloc_blk rfl _ rfl zs _ ZH ?_; intro s w3 hg5 hg6 X3 L3)
      | fail)
    have B3 := Lib.hid (step (step L1.out L2.out) L3.out)
    have Z3 := Lib.hid ((Z1.out.over L2.out).over L3.out)
    have R3 : Hid (RdIs w3 g A n k rd0) := R2.out.over L3.out
    have hs1 := L1.out.size
    have hs2 := L2.out.size
    have hwg : w.heap.size ≤ g := by omega
    have hws : w.heap.size ≤ s := by omega
    have hsg : s ≠ g := by omega
    have hhg : h ≠ g := by omega
    have hhs : h ≠ s := by omega
    clear R2 L2 L3 Z1 L1 hg3 hg4 hg5 hg6 hs1 hs2 hg2
    refine (CT.out w3 g R3.out B3.out hwg).mono ?_
    rintro e w10 ⟨rfl, hR, hS⟩
    have R10 := Lib.hid hR
    have X10 := Lib.hid (X3.out.save hS hsg)
    have Z10 := Lib.hid (Z3.out.save hS hhg)
    have B10 := Lib.hid (B3.out.trans (hS.below hwg B3.out.size))
    clear hR hS R3 X3 Z3 B3
    go_wp2_with (first
      | ((with_reducible show wpList _ _ _ (⟨none, .store _ (.tmp 88) _, _, _, _, _⟩ :: _) _ _); refine wpList_store_fld rfl _ (.tmp 88) (.tmp 87) rfl s 50 rfl _ (zs) (.string tx) rfl X10 (by have := HZ.out; show 50 < _; omega) (by kernel_rfl) rfl ?_; intro w11 X11 O11 hgx; have B11 := Lib.hid (below_only B10.out O11.out hws); have Z11 := Lib.hid (Z10.out.only O11.out hhs); have R11 : Hid (RdIs w11 g A n k _) := Blk.only R10.out O11.out (Ne.symm hsg))
      | fail)
    refine (CE.out w11 g R11.out).mono ?_
    rintro e wd ⟨rfl, kk, rfl⟩
    have Zd := Lib.hid (Blk.drewN Z11.out kk)
    have Xd := Lib.hid (Blk.drewN X11.out kk)
    have Bd : Hid (Below w.heap.size w (w11.drewN kk)) := step B11.out (drewed _ kk)
    obtain ⟨wq, hwq⟩ : ∃ wq, wq = w11.drewN kk := ⟨_, rfl⟩
    rw [← hwq] at Zd Xd Bd ⊢
    clear hwq
    rw [← HTX.out] at HQ
    have kw : ({ zeroAsk with share := tx } : AskV).ok := ⟨zeroAsk_ok.dial, zeroAsk_ok.glen, zeroAsk_ok.gbyte, zeroAsk_ok.plen, zeroAsk_ok.pbyte, zeroAsk_ok.acc, zeroAsk_ok.shr, zeroAsk_ok.way, zeroAsk_ok.opt, zeroAsk_ok.lev, zeroAsk_ok.dur, zeroAsk_ok.file, zeroAsk_ok.at_, zeroAsk_ok.n, zeroAsk_ok.data, zeroAsk_ok.locks, zeroAsk_ok.most, zeroAsk_ok.cls, zeroAsk_ok.siz⟩
    have HEQ : Hid (zs.set 50 (.string tx) = acells (.slice none 0 0) (.slice none 0 0) (.slice none 0 0) ({ zeroAsk with share := tx })) := by
      show _ = _
      rw [HZS.out]
      exact acells_share (a := zeroAsk) zeroAsk_ok _
    have LE2 : Hid ((zs.set 50 (.string tx)).length = 69) := by rw [HEQ.out]; exact acells_len kw
    have LO : Hid (∀ v ∈ zs.set 50 (.string tx), v.oneCell' = true) := by rw [HEQ.out]; exact acells_one rfl rfl rfl
    obtain ⟨rs, hrs⟩ : ∃ x, x = zs.set 50 (.string tx) := ⟨_, rfl⟩
    rw [← hrs] at Xd LE2 LO HEQ
    clear hrs
    go_wp2_with (first
      | ((with_reducible show wpList _ _ _ (⟨some 95, _, _, _, _, _⟩ :: _) _ _); refine wpList_load_blk rfl _ (.tmp 7) rfl s rfl _ rs Xd 69 _ Tryd.underlying32 rfl size_ask LE2 ?_)
      | ((with_reducible show wpList _ _ _ (⟨none, .store _ (.tmp 4) _, _, _, _, _⟩ :: _) _ _); refine wpList_store_blk rfl _ (.tmp 4) (.tmp 95) rfl h rfl _ zs rs rfl Zd 69 size_ask HZ LE2 LO ?_; intro wz KZ OZ hgz)
      | fail)
    refine bodyPost_ret (v := .tuple #[.agg rs.toArray, .int .i64 0]) ?_ rfl ?_
    · exact results_cell_two rfl _ _ h _ _ (0, 0) _ rfl KZ.out Tryd.underlying32 rfl (by rw [size_ask]; have := LE2.out; simp [this]) rfl
    · exact HQ.out (.slice none 0 0) _ wz (congrArg (fun r : List Value => Ending.returned (.tuple #[.agg r.toArray, .int .i64 0])) HEQ.out) ⟨none, 0, 0, none, 0, 0, none, 0, 0, rfl, HoldsF.nil _ _ _, Holds.nil _ _, HoldsS.nil _ _ _ _⟩ (below_only Bd.out OZ.out hg1)
  have b0 : (c == 0) = false := by simpa using h0
  have b1 : (c == 1) = false := by simpa using h1
  have b3 : (c == 3) = false := by simpa using h3
  have p1 : (rdZ xs 4 rd0).p ≤ n := rdZ_place hl p0
  have C2 : Hid (∀ (w' : World) (g : Nat), RdIs w' g A n k rd0 → Below w.heap.size w w' → w.heap.size ≤ g → Calls Tryd.prog 56 #[.pointer (some ⟨g, 0, none⟩), .int .i64 4, .int .u64 0, .int .i64 5] w' fun e w2 => ∃ y, e = .returned (.int .u64 y) ∧ RdIs w2 g A n k (rdZ xs 4 rd0) ∧ Save g w' w2) := fun w' g h1 hb hg => (rdMost_any w' g w.heap.size A n k xs rd0 4 0 5 h1 (HX.out.below hb) hg p0 rfl).mono fun e w2 ⟨h1, h2, h3⟩ => ⟨_, h1, by rw [rdMost_Z hby rfl] at h2; exact h2, h3⟩
  have CE : Hid (∀ (w' : World) (g : Nat), RdIs w' g A n k (rdZ xs 4 rd0) → Calls Tryd.prog 60 #[.pointer (some ⟨g, 0, none⟩)] w' fun e w2 => e = .returned (.int .i64 (rdEnd xs (rdZ xs 4 rd0))) ∧ ∃ k, w'.drewN k = w2) := fun w' g h1 => rdEnd_any w' g A n k xs _ h1 hl hrm p1
  have hge : gaskErr c xs = rdEnd xs (rdZ xs 4 rd0) := by unfold gaskErr gaskP; rw [if_pos hk, if_neg h0, if_neg h1, if_neg h3]
  by_cases he : rdEnd xs (rdZ xs 4 rd0) = 0
  rotate_left
  · have HQ := Lib.hid (HE.out _ hge he)
    obtain ⟨z, hz⟩ : ∃ x, x = (rdZ xs 4 rd0) := ⟨_, rfl⟩
    rw [← hz] at C2 CE he HQ
    obtain ⟨er, her⟩ : ∃ x, x = rdEnd xs z := ⟨_, rfl⟩
    rw [← her] at CE he HQ
    clear her hz HE hx hk hge h0 h1 h3 p0 p1
    go_enter Tryd.func23, Tryd.ntmps23
    go_wp2_with (first
      | ((with_reducible show wpList _ _ _ (⟨some 4, _, _, _, _, _⟩ :: _) _ _); refine wpList_alloc_blk rfl _ rfl zs _ ZH ?_; intro h w1 hg1 hg2 Z1 L1)
      | fail)
    refine (CK.out w1).mono ?_
    rintro e w' ⟨rfl, rfl⟩
    go_wp2_with (first
      | ((with_reducible show wpList _ _ _ (⟨some 20, _, _, _, _, _⟩ :: _) _ _); refine wpList_build_blk rfl _ _ rfl [.slice A n k, .int .i64 0, .int .i64 0] (by refine Eq.trans ?_ B1; kernel_rfl) ?_)
      | ((with_reducible show wpList _ _ _ (⟨some 21, _, _, _, _, _⟩ :: _) _ _); refine wpList_box_blk rfl _ (.tmp 20) rfl [.slice A n k, .int .i64 0, .int .i64 0] rfl ?_; intro g w2 hg3 hg4 R2 L2)
      | ((with_reducible show wpList _ _ _ (⟨some 7, _, _, _, _, _⟩ :: _) _ _); refine wpList_alloc_blk rfl _ rfl zs _ ZH ?_; intro s w3 hg5 hg6 X3 L3)
      | fail)
    have B3 := Lib.hid (step (step L1.out L2.out) L3.out)
    have Z3 := Lib.hid ((Z1.out.over L2.out).over L3.out)
    have R3 : Hid (RdIs w3 g A n k rd0) := R2.out.over L3.out
    have hs1 := L1.out.size
    have hs2 := L2.out.size
    have hwg : w.heap.size ≤ g := by omega
    have hws : w.heap.size ≤ s := by omega
    have hsg : s ≠ g := by omega
    have hhg : h ≠ g := by omega
    have hhs : h ≠ s := by omega
    clear R2 L2 L3 Z1 L1 hg3 hg4 hg5 hg6 hs1 hs2 hg2
    refine (C2.out w3 g R3.out B3.out hwg).mono ?_
    rintro e w4 ⟨y, rfl, hR, hS⟩
    have R4 := Lib.hid hR
    have X4 := Lib.hid (X3.out.save hS hsg)
    have Z4 := Lib.hid (Z3.out.save hS hhg)
    have B4 := Lib.hid (B3.out.trans (hS.below hwg B3.out.size))
    clear hR hS R3 X3 Z3 B3
    go_wp2_with fail
    refine (CE.out w4 g R4.out).mono ?_
    rintro e wd ⟨rfl, kk, rfl⟩
    have Zd := Lib.hid (Blk.drewN Z4.out kk)
    have Xd := Lib.hid (Blk.drewN X4.out kk)
    have Bd : Hid (Below w.heap.size w (w4.drewN kk)) := step B4.out (drewed _ kk)
    obtain ⟨wq, hwq⟩ : ∃ wq, wq = w4.drewN kk := ⟨_, rfl⟩
    rw [← hwq] at Zd Xd Bd ⊢
    clear hwq
    go_wp2_with (first
      | ((with_reducible show wpList _ _ _ (⟨some 93, _, _, _, _, _⟩ :: _) _ _); refine wpList_build_none rfl _ rfl zs BZ ?_)
      | ((with_reducible show wpList _ _ _ (⟨none, .store _ (.tmp 4) _, _, _, _, _⟩ :: _) _ _); refine wpList_store_blk rfl _ (.tmp 4) (.tmp 93) rfl h rfl _ zs zs rfl Zd 69 size_ask HZ HZ HZ1 ?_; intro wz KZ OZ hgz)
      | fail)
    refine bodyPost_ret (v := .tuple #[.agg zs.toArray, .int .i64 er]) ?_ rfl (HQ.out _ _ rfl (below_only Bd.out OZ.out hg1))
    exact results_cell_two rfl _ _ h _ _ (0, 0) _ rfl KZ.out Tryd.underlying32 rfl (by rw [size_ask]; have := HZ.out; simp [this]) rfl
  have HQ : Hid (∀ vd e w', e = .returned (.tuple #[.agg (acells vd (.slice none 0 0) (.slice none 0 0) (zeroAsk : AskV)).toArray, .int .i64 0]) → AskIs w' w'.heap.size (acells vd (.slice none 0 0) (.slice none 0 0) (zeroAsk : AskV)) (zeroAsk : AskV) → Below w.heap.size w w' → PGAskPost w c xs e w') := by
    intro vd e w' g1 g2 g3
    have h4 : gaskOf c xs = zeroAsk := by unfold gaskOf; rw [hge, he, if_pos rfl]; unfold gaskP; rw [if_neg h0, if_neg h1, if_neg h3]
    unfold PGAskPost
    rw [h4, hge, he]
    exact ⟨vd, g1, g2, g3⟩
  rw [he] at CE
  obtain ⟨z, hz⟩ : ∃ x, x = (rdZ xs 4 rd0) := ⟨_, rfl⟩
  rw [← hz] at C2 CE
  clear hz HE hx hk hge h0 h1 h3 p0 p1 he
  go_enter Tryd.func23, Tryd.ntmps23
  go_wp2_with (first
    | ((with_reducible show wpList _ _ _ (⟨some 4, _, _, _, _, _⟩ :: _) _ _); refine wpList_alloc_blk rfl _ rfl zs _ ZH ?_; intro h w1 hg1 hg2 Z1 L1)
    | fail)
  refine (CK.out w1).mono ?_
  rintro e w' ⟨rfl, rfl⟩
  go_wp2_with (first
    | ((with_reducible show wpList _ _ _ (⟨some 20, _, _, _, _, _⟩ :: _) _ _); refine wpList_build_blk rfl _ _ rfl [.slice A n k, .int .i64 0, .int .i64 0] (by refine Eq.trans ?_ B1; kernel_rfl) ?_)
    | ((with_reducible show wpList _ _ _ (⟨some 21, _, _, _, _, _⟩ :: _) _ _); refine wpList_box_blk rfl _ (.tmp 20) rfl [.slice A n k, .int .i64 0, .int .i64 0] rfl ?_; intro g w2 hg3 hg4 R2 L2)
    | ((with_reducible show wpList _ _ _ (⟨some 7, _, _, _, _, _⟩ :: _) _ _); refine wpList_alloc_blk rfl _ rfl zs _ ZH ?_; intro s w3 hg5 hg6 X3 L3)
    | fail)
  have B3 := Lib.hid (step (step L1.out L2.out) L3.out)
  have Z3 := Lib.hid ((Z1.out.over L2.out).over L3.out)
  have R3 : Hid (RdIs w3 g A n k rd0) := R2.out.over L3.out
  have hs1 := L1.out.size
  have hs2 := L2.out.size
  have hwg : w.heap.size ≤ g := by omega
  have hws : w.heap.size ≤ s := by omega
  have hsg : s ≠ g := by omega
  have hhg : h ≠ g := by omega
  have hhs : h ≠ s := by omega
  clear R2 L2 L3 Z1 L1 hg3 hg4 hg5 hg6 hs1 hs2 hg2
  refine (C2.out w3 g R3.out B3.out hwg).mono ?_
  rintro e w4 ⟨y, rfl, hR, hS⟩
  have R4 := Lib.hid hR
  have X4 := Lib.hid (X3.out.save hS hsg)
  have Z4 := Lib.hid (Z3.out.save hS hhg)
  have B4 := Lib.hid (B3.out.trans (hS.below hwg B3.out.size))
  clear hR hS R3 X3 Z3 B3
  go_wp2_with fail
  refine (CE.out w4 g R4.out).mono ?_
  rintro e wd ⟨rfl, kk, rfl⟩
  have Zd := Lib.hid (Blk.drewN Z4.out kk)
  have Xd := Lib.hid (Blk.drewN X4.out kk)
  have Bd : Hid (Below w.heap.size w (w4.drewN kk)) := step B4.out (drewed _ kk)
  obtain ⟨wq, hwq⟩ : ∃ wq, wq = w4.drewN kk := ⟨_, rfl⟩
  rw [← hwq] at Zd Xd Bd ⊢
  clear hwq
  have HEQ : Hid (zs = acells (.slice none 0 0) (.slice none 0 0) (.slice none 0 0) (zeroAsk)) := by
    show _ = _
    exact HZS.out
  have LE2 : Hid ((zs).length = 69) := by rw [HEQ.out]; exact acells_len zeroAsk_ok
  have LO : Hid (∀ v ∈ zs, v.oneCell' = true) := by rw [HEQ.out]; exact acells_one rfl rfl rfl
  obtain ⟨rs, hrs⟩ : ∃ x, x = zs := ⟨_, rfl⟩
  rw [← hrs] at Xd LE2 LO HEQ
  clear hrs
  go_wp2_with (first
    | ((with_reducible show wpList _ _ _ (⟨some 95, _, _, _, _, _⟩ :: _) _ _); refine wpList_load_blk rfl _ (.tmp 7) rfl s rfl _ rs Xd 69 _ Tryd.underlying32 rfl size_ask LE2 ?_)
    | ((with_reducible show wpList _ _ _ (⟨none, .store _ (.tmp 4) _, _, _, _, _⟩ :: _) _ _); refine wpList_store_blk rfl _ (.tmp 4) (.tmp 95) rfl h rfl _ zs rs rfl Zd 69 size_ask HZ LE2 LO ?_; intro wz KZ OZ hgz)
    | fail)
  refine bodyPost_ret (v := .tuple #[.agg rs.toArray, .int .i64 0]) ?_ rfl ?_
  · exact results_cell_two rfl _ _ h _ _ (0, 0) _ rfl KZ.out Tryd.underlying32 rfl (by rw [size_ask]; have := LE2.out; simp [this]) rfl
  · exact HQ.out (.slice none 0 0) _ wz (congrArg (fun r : List Value => Ending.returned (.tuple #[.agg r.toArray, .int .i64 0])) HEQ.out) ⟨none, 0, 0, none, 0, 0, none, 0, 0, rfl, HoldsF.nil _ _ _, Holds.nil _ _, HoldsS.nil _ _ _ _⟩ (below_only Bd.out OZ.out hg1)
end Go.Proofs.YtepkamkgodbffaaDoor
