/-
  The walk of the statement FrameBack: frames come out as they were put, whatever the pieces.
-/
import Derived.Test.YtjpcifmeimcikaaFrV
import Derived.Test.YtjpcifmeimcikaaFrS
import Derived.Test.YtjpcifmeimcikaaFrL
import Derived.Test.YtjpcifmeimcikaaOpen
import Derived.Deep.CutBlock
namespace Go.Proofs.Ytjpcifmeimcikaa
set_option maxRecDepth 100000
open Go.RowKit
set_option linter.unusedVariables false

/-- where a row of the call's own heads -/
def Adr (A : Option Addr) (c : Nat) : Prop := (A = none ∧ c = 0) ∨ ∃ b off, A = some ⟨b, off, none⟩

set_option maxHeartbeats 8000000 in
theorem walk_FrameBack (W : World) (A0 : Option Addr) (n0 c0 : Nat) (z0 : List PartT) (l0 : n0 ≤ c0) (r0 : c0 ≤ 5864062014634 ∧ ∀ y ∈ z0, y.2.2.1 ≤ 140737488351232) (h0 : Lst W W.heap.size A0 c0 c0 z0)
    (A1 : Option Addr) (n1 c1 : Nat) (z1 : List Int) (l1 : n1 ≤ c1) (r1 : c1 ≤ 70368744175616) (h1 : HoldsF (Value.int .u16) W W.heap.size A1 c1 c1 z1) (w1 : ∀ z ∈ z1, 0 ≤ z ∧ z ≤ 65535) :
    Calls Try.prog 4 #[.slice A0 n0 c0, .slice A1 n1 c1] W fun e W' => e = .returned (.bool true) ∧ Below W.heap.size W W' := by
  have hx := h0.head l0
  have hy := h1.head l1
  obtain ⟨r0a, r0b⟩ := r0
  have hn0 : n0 ≤ 5864062014634 := by omega
  have hn1 : n1 ≤ 70368744175616 := by omega
  obtain ⟨ps, hps⟩ : ∃ ps, ps = z0.take n0 := ⟨_, rfl⟩
  obtain ⟨us, hus⟩ : ∃ us, us = z1.take n1 := ⟨_, rfl⟩
  rw [← hps] at hx
  rw [← hus] at hy
  have hub : ∀ z ∈ us, 0 ≤ z ∧ z ≤ 65535 := fun z hz => w1 z (by rw [hus] at hz; exact List.mem_of_mem_take hz)
  have hpb : ∀ b ∈ rowsL ps, Bytes b := fun b hb => by
    obtain ⟨p, hp, rfl⟩ := List.mem_map.1 hb
    exact (hx.each p hp).byte
  have hpl : (rowsL ps).length = n0 := by rw [rowsL, List.length_map]; exact hx.row.len
  have HX := Lib.hid hx
  have HY := Lib.hid hy
  have HUB := Lib.hid hub
  have HPB := Lib.hid hpb
  have HPL := Lib.hid hpl
  clear h0 h1 hps hus hx hy hub hpb hpl w1 r0a r0b l0 l1 r1
  go_enter Try.func4, Try.ntmps4
  go_upto_block 0 with fail
  go_cut [5, 6] (fun all want wx => ∃ k qs, k ≤ 10 ∧ Hid (Own wx W.heap.size all (frAll (selL ((rowsL ps).take k)))) ∧ Hid (OwnF partV 22 wx W.heap.size want qs) ∧ Hid (∀ q ∈ qs, Holds wx W.heap.size q.1 q.2.1 q.2.2.1 q.2.2.2) ∧ Hid (rowsL qs = selL ((rowsL ps).take k)) ∧ Hid (Below W.heap.size W wx))
  case first =>
    go_wp2_with fail
    go_loopw [5, 6, 7] (fun all want i wr => ∃ k qs, k ≤ n0 ∧ k ≤ 10 ∧ i = .int .i64 (k : Nat) ∧ Hid (Own wr W.heap.size all (frAll (selL ((rowsL ps).take k)))) ∧ Hid (OwnF partV 22 wr W.heap.size want qs) ∧ Hid (∀ q ∈ qs, Holds wr W.heap.size q.1 q.2.1 q.2.2.1 q.2.2.2) ∧ Hid (rowsL qs = selL ((rowsL ps).take k)) ∧ Hid (Below W.heap.size W wr)) (fun _ _ i _ => 10 - (intOf i).toNat)
    case atStart => exact ⟨0, [], Nat.zero_le _, Nat.zero_le _, rfl, Own.nil _ _, OwnF.nil _ _ _ _, (fun q h => by cases h), rfl, Below.refl _ _⟩
    case round =>
      obtain ⟨k, qs, hk, hk10, rfl, HA, HW, HQ, HR, HB2⟩ := hrel
      by_cases hlt : k < n0 ∧ k < 10
      · obtain ⟨hlt, hlt10⟩ := hlt
        obtain ⟨b, off, p, rfl, hbb, hp, hcell, hhp⟩ := (HX.out.below HB2.out).at hlt
        have hxs : (rowsL ps)[k]? = some p.2.2.2 := by rw [rowsL, List.getElem?_map, hp]; rfl
        have hst := selL_take hxs
        obtain ⟨⟨pA, pn, pc, px⟩, hpe⟩ : ∃ q, q = p := ⟨_, rfl⟩
        rw [← hpe] at hcell hhp hxs hst
        dsimp only at hcell hhp hxs hst
        have hlen := hhp.len
        have hfit := hhp.fit
        have HP1 := Lib.hid hhp
        have HST := Lib.hid hst
        clear hp hpe hxs hst hhp
        by_cases hsel : pn = 0 ∨ 3000 < pn
        · have HST' : Hid (selL ((rowsL ps).take (k + 1)) = selL ((rowsL ps).take k)) := by
            show _ = _
            rw [HST.out, if_neg (by unfold selB; simp; omega)]
          have ha := HA.out
          have hr := HR.out
          rw [← HST'.out] at ha hr
          have HA' := Lib.hid ha
          have HR' := Lib.hid hr
          clear HST HST' HA HR hlen ha hr
          rcases hsel with rfl | hsel
          · go_wp2_with fail
            go_roundw
            case rel => exact ⟨k + 1, qs, by omega, by omega, by go_num, HA', HW, HQ, HR', HB2⟩
            case measure => simp [intOf]; omega
          · have hz : ((pn : Int) == 0) = false := by simp; omega
            go_wp2_with fail
            go_roundw
            case rel => exact ⟨k + 1, qs, by omega, by omega, by go_num, HA', HW, HQ, HR', HB2⟩
            case measure => simp [intOf]; omega
        · have hz : ((pn : Int) == 0) = false := by simp; omega
          have h3000 : ¬ 3000 < pn := by omega
          have hpn0 : 0 < pn := by omega
          have hpe : frPE px = 0 := frPE_of (by omega) (by omega)
          have hpo := frPO_len hpe
          have hpob := frPO_bytes HP1.out.byte
          have CP := PutF_any wr pA pn pc px (HP1.out.mono HB2.out.size)
          unfold PutFPost at CP
          rw [hpe] at CP
          have hst : selL ((rowsL ps).take (k + 1)) = selL ((rowsL ps).take k) ++ [px] := by rw [HST.out, if_pos (by unfold selB; simp; omega)]
          have hal : frAll (selL ((rowsL ps).take (k + 1))) = frAll (selL ((rowsL ps).take k)) ++ frPO px := by rw [hst, frAll_snoc]
          have hsz := frAll_size (selL ((rowsL ps).take k)) (fun b hb => selL_ok hb)
          have hcnt := selL_count (rowsL ps) k
          have hql : qs.length ≤ k := by
            have h := congrArg List.length HR.out
            rw [rowsL, List.length_map] at h
            omega
          have hr2 : rowsL (qs ++ [(pA, pn, pc, px)]) = selL ((rowsL ps).take (k + 1)) := by rw [hst, ← HR.out]; simp [rowsL]
          obtain ⟨F, hF⟩ : ∃ F, F = frPO px := ⟨_, rfl⟩
          obtain ⟨G, hG⟩ : ∃ G, G = frAll (selL ((rowsL ps).take k)) := ⟨_, rfl⟩
          have ha := HA.out
          rw [← hG] at ha hsz
          rw [← hG, ← hF] at hal
          rw [← hF] at hpo hpob CP
          have HA1 := Lib.hid ha
          have HAL := Lib.hid hal
          have HFL : Hid (F.length = 4 + pn) := by show _ = _; rw [hpo, hlen]
          have HFB := Lib.hid hpob
          have HGF : Hid (G.length + F.length ≤ 140737488355328) := by show _ ≤ _; omega
          have HR2 := Lib.hid hr2
          have HQL := Lib.hid hql
          have CP1 := Lib.hid CP
          clear hpe hpo hpob CP hst hal hsz hcnt hql hr2 hF hG ha HA HR HST hlen
          go_wp2_with fail
          refine CP1.out.mono ?_
          rintro e w1 ⟨v1, rfl, o1, b1⟩
          obtain ⟨A1', c1', rfl, ob1⟩ := own_rowF o1 HFL.out
          have H1 := Lib.hid (Own.holds_at (show Own w1 _ (.slice A1' (4 + pn) c1') _ from ob1.1) HFL.out HFB.out (by omega))
          have HA2 := Lib.hid (Own.below HA1.out b1)
          have HW2 := Lib.hid (HW.out.below b1)
          have Bq := Lib.hid (b1.mono HB2.out.size)
          have B1 := Lib.hid (HB2.out.trans Bq.out)
          have hbs := Lib.hid B1.out.size
          have c1 := b1.cell (p := ⟨b, off + k, none⟩) (Nat.lt_of_lt_of_le hbb HB2.out.size)
          rw [hcell] at c1
          clear o1 ob1 b1 CP1 HA1 HW hcell
          go_wp2_with (first
            | (at_builtin; refine wpList_append_bytesW rfl (.tmp 50) (.tmp 51) rfl W.heap.size u5 G rfl HA2.out w1.heap.size A1' (4 + pn) c1' F rfl H1.out HGF.out hbs.out ?_; intro v2 w2 o2 s2 n2; have b12 : Hid (Below W.heap.size w1 w2) := s2.out.below (fun j hj => (OwnK.block (show OwnK .u8 5 w1 _ _ G from HA2.out) hj).1) hbs.out; have cc2 := (b12.out.cell (p := ⟨b, off + k, none⟩) hbb).trans c1; have HW3 := Lib.hid (HW2.out.spare s2.out (fun i hi hj => HW2.out.notRow (show OwnK .u8 5 w1 _ _ G from HA2.out) i hi hj)); have hbs2 := Lib.hid (Nat.le_trans hbs.out b12.out.size))
            | (at_builtin; refine wpList_append_litF rfl (.tmp 53) (.tmp 58) partV (fun _ => rfl) (.slice none 0 0) rfl 30 22 24 Try.underlying30 info_bytes rfl W.heap.size u6 qs [(pA, pn, pc, px)] _ rfl 1 1 rfl rfl rfl HW3.out (by have := HQL.out; omega) (by have := HQL.out; omega) hbs2.out ?_; intro v3 w3 o3 g3 n3)
            | fail)
          have ha3 := (g3.out.otherB HW3.out (OwnB.of_k (show OwnK .u8 5 w2 _ _ _ from o2.out))).1
          rw [← HAL.out] at ha3
          have HA3 : Hid (Own w3 W.heap.size v2 _) := ha3
          have b23 := g3.out.belowF HW3.out hbs2.out
          have b03 := (Bq.out.trans b12.out).trans b23
          have HQ3 : Hid (∀ q ∈ qs ++ [(pA, pn, pc, px)], Holds w3 W.heap.size q.1 q.2.1 q.2.2.1 q.2.2.2) := fun q hq => by
            rcases List.mem_append.1 hq with hq | hq
            · exact (HQ.out q hq).below b03
            · rw [List.mem_singleton.1 hq]
              exact HP1.out.below b03
          have HB3 := Lib.hid (HB2.out.trans b03)
          clear ha3 b23 b03
          go_roundw
          case rel => exact ⟨k + 1, _, by omega, by omega, by go_num, HA3, o3, HQ3, HR2, HB3⟩
          case measure => simp [intOf]; omega
      · by_cases hk0 : k = n0
        · subst hk0
          clear hlt
          go_wp2_with fail
          go_meet
          exact ⟨k, qs, hk10, HA, HW, HQ, HR, HB2⟩
        · obtain rfl : k = 10 := by omega
          have hlt0 : 10 < n0 := by omega
          clear hlt
          go_wp2_with fail
          go_meet
          exact ⟨10, qs, hk10, HA, HW, HQ, HR, HB2⟩
  case rest =>
    obtain ⟨k, qs, hk10, HA, HW, HQ, HR, HB2⟩ := hcut
    have hT1 := frs_all (selL ((rowsL ps).take k)) (selL_pe _)
    have hT2 := frAll_size (selL ((rowsL ps).take k)) (fun b hb => selL_ok hb)
    have hcnt := selL_count (rowsL ps) k
    have hT3 : Bytes (frAll (selL ((rowsL ps).take k))) := frAll_bytes _ (selL_bytes fun b hb => HPB.out b (List.mem_of_mem_take hb))
    obtain ⟨L, hL⟩ : ∃ L, L = selL ((rowsL ps).take k) := ⟨_, rfl⟩
    have ha := HA.out
    have hr := HR.out
    rw [← hL] at hT1 hT2 hT3 hcnt ha hr
    obtain ⟨T, hT⟩ : ∃ T, T = frAll L := ⟨_, rfl⟩
    rw [← hT] at hT1 hT2 hT3 ha
    have HTL : Hid (T.length ≤ 30040) := by show _ ≤ _; omega
    have hnw : qs.length ≤ 10 := by
      have h := congrArg List.length hr
      rw [rowsL, List.length_map] at h
      omega
    obtain ⟨Aw, nw, cw, rfl, hhw⟩ := HW.out.holds
    have hnwl := hhw.len
    have hLw : Lst wc wc.heap.size Aw nw cw qs := ⟨hhw, fun q hq => (HQ.out q hq).mono HB2.out.size⟩
    have hHa : ∃ Aa na ca, u5 = .slice Aa na ca ∧ T.length = na ∧ Hid (Adr Aa ca) ∧ Holds wc wc.heap.size Aa na ca T := by
      obtain ⟨Aa, ca, e, hh⟩ := Own.holds ha hT3 (by have := HTL.out; omega)
      refine ⟨Aa, T.length, ca, e, rfl, ?_, hh⟩
      rcases ha.2 with ⟨h0, _⟩ | ⟨g, cap, cur, h0, _⟩
      · rw [e] at h0
        injection h0 with h1 h2 h3
        exact .inl ⟨h1, h3⟩
      · rw [e] at h0
        injection h0 with h1 h2 h3
        exact .inr ⟨g, 0, h1⟩
    obtain ⟨Aa, na, ca, rfl, hna, hAa, hHa⟩ := hHa
    have HT1 := Lib.hid hT1
    have HT3 := Lib.hid hT3
    have HRW := Lib.hid hr
    have HLW := Lib.hid hLw
    have HHA := Lib.hid hHa
    have hna2 : na ≤ 30040 := by rw [← hna]; exact HTL.out
    have hnw2 : nw ≤ 10 := by omega
    have HNA := Lib.hid hna
    clear hT1 hT2 hT3 hcnt ha hr hL hT hnw hhw hnwl hLw hHa hna HA HW HQ HR
    go_wp2_with fail
    refine (NewF_any wc).mono ?_
    rintro e w1 ⟨g, rfl, hg1, r1, b1⟩
    have R1 := Lib.hid r1
    have HA1 := Lib.hid (HHA.out.below b1)
    have LW1 := Lib.hid (HLW.out.below b1)
    have hs1 := b1.size
    have HB3 := Lib.hid (HB2.out.trans (b1.mono HB2.out.size))
    have hbs0 := HB2.out.size
    obtain ⟨bs, hbs⟩ : ∃ bs, bs = wc.heap.size := ⟨_, rfl⟩
    rw [← hbs] at R1 HA1 LW1 hs1 hg1 hbs0
    clear r1 b1 HHA HLW HB2 hbs
    go_wp2_with fail
    go_loopw [5, 11, 12] (fun all got i wr => ∃ (j na' ca' : Nat) (Aa' : Option Addr) (C R : List Int) (vk : Value) (gs : List PartT), all = .slice Aa' na' ca' ∧ i = .int .i64 (j : Nat) ∧ j ≤ 41 ∧ na' ≤ 30040 ∧ Hid (Adr Aa' ca') ∧ Hid (Holds wr bs Aa' na' ca' R) ∧ Hid (C ++ R = T) ∧ Hid (OLst false wr bs got gs) ∧ Hid (rowsL gs = (frs C).1) ∧ Hid (Rcv wr bs g false vk (frs C).2.1) ∧ Hid (Away gs vk) ∧ Hid (Below bs w1 wr) ∧ Hid (j ≤ n1 ∧ j ≤ 40 ∨ R = [])) (fun _ _ i _ => 41 - (intOf i).toNat)
    case atStart => exact ⟨0, na, ca, Aa, [], T, _, [], rfl, rfl, by omega, hna2, hAa, HA1, rfl, OLst.nil _ _ _, rfl, R1, Away.nil _, Below.refl _ _, .inl ⟨Nat.zero_le _, by omega⟩⟩
    case round =>
      clear HA1 R1 hAa hna2
      obtain ⟨j, na', ca', Aa', C, R, vk, gs, rfl, rfl, hj, hna, hAa, HA1, HC, HO, HG, R1, HW1, HB4, HJ⟩ := hrel
      by_cases hlt : j ≤ n1 ∧ j ≤ 40
      · obtain ⟨hlt1, hlt40⟩ := hlt
        have hfit := HA1.out.fit
        have hway : ∃ nn, nn ≤ na' ∧ ((j + 1 ≤ n1 ∧ j + 1 ≤ 40) ∨ nn = na') ∧ ((j < n1 ∧ j < 40 ∧ ∃ b1 o1 x, A1 = some ⟨b1, o1, none⟩ ∧ wr.cell? ⟨b1, o1 + j, none⟩ = some (.int .u16 x) ∧ 0 ≤ x ∧ x ≤ 65535 ∧ x.tmod 700 = x % 700 ∧ min (na' : Int) (x % 700) = (nn : Int)) ∨ (¬ (j < n1 ∧ j < 40) ∧ nn = na')) := by
          by_cases hin : j < n1 ∧ j < 40
          · obtain ⟨hin1, hin40⟩ := hin
            have hy := HY.out.below (HB3.out.trans (HB4.out.mono hbs0))
            have hyl := hy.len
            obtain ⟨b1, o1, e1, hb1, hcy⟩ := hy.cells (by omega)
            have hxj : us[j]? = some us[j] := List.getElem?_eq_getElem (by omega)
            have hcx := hcy j _ hxj
            have hxb := HUB.out us[j] (List.getElem_mem _)
            exact ⟨min na' (us[j] % 700).toNat, by omega, .inl ⟨by omega, by omega⟩, .inl ⟨hin1, hin40, b1, o1, us[j], e1, hcx, hxb.1, hxb.2, Int.tmod_eq_emod_of_nonneg hxb.1, by omega⟩⟩
          · exact ⟨na', Nat.le_refl _, .inr rfl, .inr ⟨hin, rfl⟩⟩
        obtain ⟨nn, hnl, hlast, hway⟩ := hway
        have hRl := HA1.out.len
        have HLA : Hid ((j + 1 ≤ n1 ∧ j + 1 ≤ 40) ∨ R.drop nn = []) := by
          rcases hlast with h | h
          · exact .inl h
          · exact .inr (List.drop_of_length_le (by omega))
        have hTe : (frs T).2.2 = 0 := by rw [HT1.out]
        have hCX : (C ++ R.take nn) ++ R.drop nn = T := by rw [List.append_assoc, List.take_append_drop]; exact HC.out
        have hC0 : (frs C).2.2 = 0 := frs_ahead C R (by rw [HC.out]; exact hTe)
        have hCX0 : (frs (C ++ R.take nn)).2.2 = 0 := frs_ahead _ (R.drop nn) (by rw [hCX]; exact hTe)
        have hmore := frs_more C (R.take nn) hC0
        have hCl : C.length ≤ 30040 := by
          have h1 := congrArg List.length HC.out
          have h2 := HTL.out
          rw [List.length_append] at h1
          omega
        have hKl : (frs C).2.1.length ≤ 30040 := Nat.le_trans (frs_left C).1 hCl
        have hgl : gs.length ≤ 30040 := by
          have h1 := congrArg List.length HG.out
          have h2 := frs_count C
          rw [rowsL, List.length_map] at h1
          omega
        obtain ⟨F1, hF1⟩ : ∃ F, F = (frs ((frs C).2.1 ++ R.take nn)).1 := ⟨_, rfl⟩
        obtain ⟨K1, hK1⟩ : ∃ K, K = (frs ((frs C).2.1 ++ R.take nn)).2.1 := ⟨_, rfl⟩
        have hq : frs ((frs C).2.1 ++ R.take nn) = (F1, K1, 0) := by
          have : (frs ((frs C).2.1 ++ R.take nn)).2.2 = 0 := by rw [hmore] at hCX0; exact hCX0
          rw [hF1, hK1, ← this]
        have hF1l : F1.length ≤ 60080 := by
          have h1 := frs_count ((frs C).2.1 ++ R.take nn)
          rw [← hF1, List.length_append, List.length_take] at h1
          omega
        rw [hq] at hmore
        have HM1 : Hid ((frs (C ++ R.take nn)).1 = (frs C).1 ++ F1) := by show _ = _; rw [hmore]
        have HM2 : Hid ((frs (C ++ R.take nn)).2.1 = K1) := by show _ = _; rw [hmore]
        have HCX := Lib.hid hCX
        have hbw : bs ≤ wr.heap.size := Nat.le_trans hs1 HB4.out.size
        have CT := TakeF_of wr bs g vk (frs C).2.1 Aa' nn ca' (R.take nn) R1.out ((HA1.out.headF hnl).mono hbw) hbw (by omega) hq (st := false) rfl
        unfold TakeP at CT
        have CT1 := Lib.hid CT
        have hA2 : ∃ A2, ((Aa' = none ∧ ca' - nn = 0 ∧ A2 = none) ∨ (∃ b off, Aa' = some ⟨b, off, none⟩ ∧ ca' - nn = 0 ∧ A2 = some ⟨b, off, none⟩) ∨ (∃ b off, Aa' = some ⟨b, off, none⟩ ∧ ¬ ca' - nn = 0 ∧ A2 = some ⟨b, off + nn, none⟩)) ∧ Hid (Adr A2 (ca' - nn)) ∧
            Hid (∀ w2, Below bs wr w2 → Holds w2 bs A2 (na' - nn) (ca' - nn) (R.drop nn)) := by
          rcases hAa.out with ⟨rfl, rfl⟩ | ⟨b, off, rfl⟩
          · refine ⟨none, .inl ⟨rfl, by omega, rfl⟩, .inl ⟨rfl, by omega⟩, fun w2 _ => ?_⟩
            rw [List.drop_of_length_le (by omega), show na' - nn = 0 by omega]
            exact Holds.empty _ _ _ _ (fun _ => by omega)
          · by_cases hcz : ca' - nn = 0
            · refine ⟨_, .inr (.inl ⟨b, off, rfl, hcz, rfl⟩), .inr ⟨b, off, rfl⟩, fun w2 _ => ?_⟩
              rw [List.drop_of_length_le (by omega), show na' - nn = 0 by omega]
              exact Holds.empty _ _ _ _ (fun h => by cases h)
            · refine ⟨_, .inr (.inr ⟨b, off, rfl, hcz, rfl⟩), .inr ⟨b, off + nn, rfl⟩, fun w2 hb => ?_⟩
              by_cases hnz : na' - nn = 0
              · rw [List.drop_of_length_le (by omega), hnz]
                exact Holds.empty _ _ _ _ (fun h => by cases h)
              · exact (HA1.out.tailF (p := nn) (by omega)).below hb
        obtain ⟨A2, hA2, hA2f, HA2⟩ := hA2
        have HO1 := Lib.hid (fun p hp i hi => (Array.getElem?_eq_some_iff.1 (((HO.out.each p hp).1.1.block hi).2.choose_spec)).1 : ∀ p ∈ gs, ∀ i, (partV p).ownBlock = some i → i < wr.heap.size)
        clear hlast hRl hTe hCX hC0 hCX0 hmore hCl hF1 hK1 hq CT hAa HJ HC hKl
        have HJ1 : j + 1 ≤ 41 := by omega
        have HNA2 : na' - nn ≤ 30040 := by omega
        obtain ⟨n2, hn2⟩ : ∃ n, n = na' - nn := ⟨_, rfl⟩
        obtain ⟨c2, hc2⟩ : ∃ n, n = ca' - nn := ⟨_, rfl⟩
        have HN2 := Lib.hid hn2
        have HC2 := Lib.hid hc2
        rw [← hn2] at HNA2 HA2
        rw [← hc2] at HA2 hA2f
        obtain ⟨X, hX⟩ : ∃ X, X = R.take nn := ⟨_, rfl⟩
        obtain ⟨R2, hR2⟩ : ∃ X, X = R.drop nn := ⟨_, rfl⟩
        rw [← hX] at HM1 HM2 HCX
        rw [← hR2] at HCX HLA HA2
        clear hn2 hc2 hX hR2
        have hways : (j < n1 ∧ j < 40 ∧ ∃ b1 o1 x, A1 = some ⟨b1, o1, none⟩ ∧ wr.cell? ⟨b1, o1 + j, none⟩ = some (.int .u16 x) ∧ 0 ≤ x ∧ x ≤ 65535 ∧ x.tmod 700 = x % 700 ∧ min (na' : Int) (x % 700) = (nn : Int)) ∨ (¬ j < n1 ∧ nn = na') ∨ (j < n1 ∧ ¬ j < 40 ∧ nn = na') := by
          rcases hway with h | ⟨h, h'⟩
          · exact .inl h
          · by_cases hh : j < n1
            · exact .inr (.inr ⟨hh, fun h40 => h ⟨hh, h40⟩, h'⟩)
            · exact .inr (.inl ⟨hh, h'⟩)
        clear hway
        rcases hways with ⟨hin1, hin40, b1, o1, x, rfl, hcx, x0, x1, htm, hmin⟩ | ⟨hin, rfl⟩ | ⟨hin1, hin, rfl⟩
        all_goals rcases hA2 with ⟨rfl, hcz, rfl⟩ | ⟨b, off, rfl, hcz, rfl⟩ | ⟨b, off, rfl, hcz, rfl⟩
        all_goals
          go_wp2_with fail
          refine CT1.out.mono ?_
          rintro e w6 ⟨l6, p6, v6, rfl, o6, q6, r6, s6, n6, a6⟩
          obtain ⟨A6, n6', c6, rfl, l6⟩ := o6.lst
          have O6 := Lib.hid o6
          have hg6 := HO.out.notBlk R1.out.blk (by decide) (by decide)
          have HO6 := Lib.hid (HO.out.spare s6 (fun i hi hj => by
            rcases hj with rfl | hj
            · exact hg6.1 hi
            · exact HO.out.notRow (show OwnK .u8 5 wr _ vk _ from R1.out.own) i hi hj) (fun p hp i hi hj => by
            rcases hj with rfl | hj
            · exact hg6.2 p hp hi
            · exact HW1.out p hp i hi hj))
          have R6 := Lib.hid r6
          have AW6 := Lib.hid (HW1.out.step n6 HO.out a6)
          have B6 := Lib.hid (R1.out.after HB4.out (Nat.le_refl _) hbw s6)
          have Q6 := Lib.hid q6
          have hp6 : p6.length ≤ 60080 := by
            have h1 := congrArg List.length q6
            rw [rowsL, List.length_map] at h1
            omega
          have hbw6 := Lib.hid (Nat.le_trans hs1 B6.out.size)
          have BR := Lib.hid ((R1.out.after (Below.refl bs wr) (Nat.le_refl _) hbw s6))
          clear o6 q6 r6 s6 n6 a6 l6 hg6 CT1
          go_wp2_with (first
            | (at_builtin; refine wpList_append_olst rfl (.tmp 99) (.tmp 100) rfl false bs wr.heap.size u11 gs p6 A6 n6' c6 rfl rfl HO6.out O6.out HO1.out (by omega) hbw6.out hbw ?_; intro v7 w7 o7 s7 n7)
            | fail)
          have R7 := Lib.hid (R6.out.spare s7.out (fun j' hj' hj'' => by
            rcases hj' with rfl | hj'
            · exact (HO6.out.notBlk R6.out.blk (by decide) (by decide)).1 hj''
            · exact HO6.out.notRow (show OwnK .u8 5 w6 _ v6 _ from R6.out.own) j' hj'' hj'))
          have b67 := s7.out.below (fun j' hj' => (HO6.out.row.block hj').1) hbw6.out
          have B7 := Lib.hid (B6.out.trans b67)
          have HA7 := Lib.hid (HA2.out w7 (BR.out.trans b67))
          have HG7 : Hid (rowsL (gs ++ p6) = (frs (C ++ X)).1) := by
            show _ = _
            rw [HM1.out, ← HG.out, ← Q6.out]
            simp [rowsL]
          have r7 := R7.out
          rw [← HM2.out] at r7
          have R7' := Lib.hid r7
          clear b67 r7
          go_roundw
          case rel => exact ⟨j + 1, _, _, _, C ++ X, R2, v6, gs ++ p6, (by rw [HN2.out, HC2.out] <;> (congr 1 <;> omega)), by go_num, HJ1, HNA2, hA2f, HA7, HCX, o7, HG7, R7', AW6, B7, HLA⟩
          case measure => simp [intOf]; omega
      · have hR : R = [] := by
          rcases HJ.out with h | h
          · exact absurd h hlt
          · exact h
        subst hR
        have hCT : C = T := by have := HC.out; rwa [List.append_nil] at this
        subst hCT
        obtain ⟨Ag, ng, cg, rfl, lg⟩ := HO.out.lst
        have hge : rowsL gs = rowsL qs := by rw [HG.out, HT1.out, HRW.out]
        have hng : ng ≤ 10 := by
          have h1 := lg.len_of hge
          have h2 := LW1.out.row.len
          rw [rowsL, List.length_map] at h1
          omega
        have LW2 := LW1.out.below HB4.out
        have CL := lists_any wr wr.heap.size bs Ag Aw ng cg nw cw gs qs lg LW2 (by omega) (by omega)
        rw [decide_eq_true hge] at CL
        have CL1 := Lib.hid CL
        have r1 := R1.out
        rw [HT1.out] at r1
        have R2 := Lib.hid r1
        have HB5 := Lib.hid (HB3.out.trans (HB4.out.mono hbs0))
        have CW := fun (w : World) (h : Rcv w bs g false vk []) => Lib.hid (WaitsF_any w bs g false vk [] h)
        simp only [List.length_nil] at CW
        have hways : (¬ j ≤ n1) ∨ (j ≤ n1 ∧ ¬ j ≤ 40) := by
          by_cases h : j ≤ n1
          · exact .inr ⟨h, fun h' => hlt ⟨h, h'⟩⟩
          · exact .inl h
        clear hlt HJ HC HO HG R1 r1 HA1 LW2 CL HT1 HRW lg hge LW1 HW1 HB4 HB3 hAa HNA HTL HT3
        rcases hways with hw1 | ⟨hw0, hw1⟩
        all_goals
          go_wp2_with fail
          refine CL1.out.mono ?_
          rintro e w2 ⟨rfl, m2, rfl⟩
          have R3 : Hid (Rcv (wr.drewN m2) bs g false vk []) := R2.out.below (drewed wr m2)
          have B3 : Hid (Below W.heap.size W (wr.drewN m2)) := below_drewN HB5.out m2
          obtain ⟨w3, hw3⟩ : ∃ w, w = wr.drewN m2 := ⟨_, rfl⟩
          rw [← hw3] at R3 B3 ⊢
          clear hw3 R2 HB5 CL1
          go_wp2_with fail
          refine (CW w3 R3.out).out.mono ?_
          rintro e w4 ⟨rfl, rfl⟩
          go_wp2_with fail
          refine (livesF_any _).mono ?_
          rintro e w5 ⟨rfl, b5⟩
          go_wp2
          go_ret
          exact ⟨rfl, step B3.out b5⟩
end Go.Proofs.Ytjpcifmeimcikaa
