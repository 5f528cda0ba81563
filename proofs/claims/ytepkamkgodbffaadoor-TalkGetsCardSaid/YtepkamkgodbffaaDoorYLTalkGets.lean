/-
  The walk of the statement TalkGets: any bytes, of any command, are got as the document says, or its error; the bytes stay.
-/
import Derived.Test.YtepkamkgodbffaaDoorZD
import Derived.Test.YtepkamkgodbffaaDoorYTalkR
import Derived.Test.YtepkamkgodbffaaDoorYRefT9
import Derived.Test.YtepkamkgodbffaaDoorYAskE
import Derived.Test.YtepkamkgodbffaaDoorYAskF
import Derived.Test.YtepkamkgodbffaaDoorYMem
import Derived.Test.YtepkamkgodbffaaDoorZA
namespace Go.Proofs.YtepkamkgodbffaaDoor
open Go.RowKit
set_option linter.unusedVariables false
set_option maxRecDepth 100000

theorem wide_holds {w : World} {g n : Nat} {xs : List Int} (hr : Row w g (xs ++ [7, 7, 7])) (hl : xs.length = n) (hn : n ≤ 281474976710653) (hb : Bytes xs) : Holds w w.heap.size (some ⟨g, 0, none⟩) n (n + 3) xs := by
  refine ⟨hl, by omega, by omega, hb, fun hA => (by cases hA), fun h0 => ⟨g, 0, rfl, hr.lt, fun i hi => ?_⟩⟩
  rw [Nat.zero_add, hr.cell (by simp; omega)]
  simp [List.getD_eq_getElem?_getD, List.getElem?_append, hl, hi]
theorem gaskOf_dial (c : Int) {xs : List Int} (hx : Bytes xs) : (gaskOf c xs).dial.length ≤ 16 := by
  by_cases h : gaskErr c xs = 0
  · obtain ⟨e1, _, _⟩ := gask_once c hx h
    by_cases c0 : c = 0
    · unfold askErrP at e1
      by_cases hk : knownT c = true ∧ besideAsk c (gaskOf c xs) = zeroAsk
      · rw [if_pos hk, if_pos c0] at e1
        by_cases hd : (gaskOf c xs).dial.length ≤ 16
        · exact hd
        · rw [if_neg hd] at e1; exact absurd e1 (by decide)
      · rw [if_neg hk] at e1; exact absurd e1 (by decide)
    · unfold gaskOf
      rw [if_pos h]
      unfold gaskP
      rw [if_neg c0]
      split
      · exact Nat.zero_le _
      · split <;> exact Nat.zero_le _
  · unfold gaskOf
    rw [if_neg h]
    exact Nat.zero_le _
set_option maxHeartbeats 2000000 in
theorem walk_TalkGets (W : World) (hT : Tabs W) (a0 : Int) (w0 : 0 ≤ a0 ∧ a0 ≤ 65535) (A1 : Option Addr) (n1 c1 : Nat) (z1 : List Int) (l1 : n1 ≤ c1) (r1 : c1 ≤ 140737488351232) (h1 : Holds W W.heap.size A1 c1 c1 z1) :
    Calls Tryd.prog 5 #[.int .u16 a0, .slice A1 n1 c1] W fun e W' => e = .returned (.bool true) ∧ Below W.heap.size W W' := by
  have HT := Lib.hid hT
  have h := h1.head l1
  obtain ⟨xs, hxs⟩ : ∃ xs, xs = z1.take n1 := ⟨_, rfl⟩
  rw [← hxs] at h
  have HX := Lib.hid h
  have HXB := Lib.hid h.byte
  have HXL := Lib.hid h.len
  have hbig : n1 ≤ 140737488351232 := by omega
  have CW := Wide_any W A1 n1 c1 xs h (by omega)
  unfold WidePost at CW
  rw [h.len] at CW
  have CW' := Lib.hid CW
  have ZH := Lib.hid zero_ask
  have HZ : Hid ((acells (.slice none 0 0) (.slice none 0 0) (.slice none 0 0) zeroAsk).length = 69) := acells_len zeroAsk_ok
  have ZS := Lib.hid zero_say
  have SZ : Hid ((scells (.slice none 0 0) (.slice none 0 0) zeroSay).length = 20) := scells_len zeroSay_ok
  have GK := Lib.hid (gaskOf_ok a0 HXB.out)
  have TK := Lib.hid (gsayOf_ok a0 HXB.out)
  have GD := gaskOf_dial a0 h.byte
  obtain ⟨GN1, GN2⟩ := gaskOf_nil a0 xs
  obtain ⟨SN1, SN2⟩ := gsayOf_nil a0 xs
  have CG : Hid (∀ (w : World) (A : Option Addr) (n c : Nat), Holds w w.heap.size A n c xs → Calls Tryd.prog 22 #[.int .u16 a0, .slice A n c] w fun e w' => ∃ cs : List Value, e = .returned (.tuple #[.agg cs.toArray, .int .i64 (gaskErr a0 xs)]) ∧ AskIs w' w'.heap.size cs (gaskOf a0 xs) ∧ Below w.heap.size w w') := fun w A n c hh => (GetAsk_any w a0 A n c xs w0 hh).mono fun e w' ⟨vd, h1, h2, h3⟩ => ⟨_, h1, h2, h3⟩
  have CR : Hid (∀ (w : World) (A : Option Addr) (n c : Nat), Holds w w.heap.size A n c xs → Calls Tryd.prog 23 #[.int .u16 a0, .slice A n c] w fun e w' => ∃ cs : List Value, e = .returned (.tuple #[.agg cs.toArray, .int .i64 (gaskErr a0 xs)]) ∧ AskIs w' w'.heap.size cs (gaskOf a0 xs) ∧ Below w.heap.size w w') := fun w A n c hh => (RGetAsk_any w a0 A n c xs w0 hh).mono fun e w' ⟨vd, h1, h2, h3⟩ => ⟨_, h1, h2, h3⟩
  have DG : Hid (∀ (w : World) (A : Option Addr) (n c : Nat), Holds w w.heap.size A n c xs → Calls Tryd.prog 24 #[.int .u16 a0, .slice A n c] w fun e w' => ∃ cs : List Value, e = .returned (.tuple #[.agg cs.toArray, .int .i64 (gsayErr a0 xs)]) ∧ SayIs w' w'.heap.size cs (gsayOf a0 xs) ∧ Below w.heap.size w w') := fun w A n c hh => (GetSay_any w a0 A n c xs w0 hh).mono fun e w' ⟨h1, h3⟩ => ⟨_, h1, gsay_is _ _ _ _, h3⟩
  have DR : Hid (∀ (w : World) (A : Option Addr) (n c : Nat), Holds w w.heap.size A n c xs → Calls Tryd.prog 25 #[.int .u16 a0, .slice A n c] w fun e w' => ∃ cs : List Value, e = .returned (.tuple #[.agg cs.toArray, .int .i64 (gsayErr a0 xs)]) ∧ SayIs w' w'.heap.size cs (gsayOf a0 xs) ∧ Below w.heap.size w w') := fun w A n c hh => (RGetSay_any w a0 A n c xs w0 hh).mono fun e w' ⟨h1, h3⟩ => ⟨_, h1, gsay_is _ _ _ _, h3⟩
  have CQ : Hid (∀ (w : World) (ds es : List Value), AskIs w w.heap.size ds (gaskOf a0 xs) → AskIs w w.heap.size es (gaskOf a0 xs) → Calls Tryd.prog 15 #[.agg ds.toArray, .agg es.toArray] w fun e w' => e = .returned (.bool true) ∧ Below w.heap.size w w') := fun w ds es h1 h2 => by
    have h3 := Asks_any w ds es _ _ GK.out GK.out h1 h2 ⟨by omega, by rw [GN1]; exact Nat.zero_le _, by rw [GN2]; exact Nat.zero_le _⟩ ⟨by omega, by rw [GN1]; exact Nat.zero_le _, by rw [GN2]; exact Nat.zero_le _⟩
    rwa [decide_eq_true rfl] at h3
  have DQ : Hid (∀ (w : World) (ds es : List Value), SayIs w w.heap.size ds (gsayOf a0 xs) → SayIs w w.heap.size es (gsayOf a0 xs) → Calls Tryd.prog 20 #[.agg ds.toArray, .agg es.toArray] w fun e w' => e = .returned (.bool true) ∧ Below w.heap.size w w') := fun w ds es h1 h2 => by
    have h3 := Says_any w ds es _ _ TK.out TK.out h1 h2 ⟨by rw [SN1]; exact Nat.zero_le _, by rw [SN2]; exact Nat.zero_le _⟩ ⟨by rw [SN1]; exact Nat.zero_le _, by rw [SN2]; exact Nat.zero_le _⟩
    rwa [decide_eq_true rfl] at h3
  have CL : Hid (∀ w : World, Tabs w → Calls Tryd.prog 16 #[] w fun e w' => e = .returned (.bool true) ∧ Below w.heap.size w w') := lives_any
  obtain ⟨ga, hga⟩ : ∃ x, x = gaskOf a0 xs := ⟨_, rfl⟩
  obtain ⟨eb, heb⟩ : ∃ x, x = gaskErr a0 xs := ⟨_, rfl⟩
  obtain ⟨gs, hgs⟩ : ∃ x, x = gsayOf a0 xs := ⟨_, rfl⟩
  obtain ⟨ft, hft⟩ : ∃ x, x = gsayErr a0 xs := ⟨_, rfl⟩
  rw [← hga] at GK CQ
  rw [← hga, ← heb] at CG CR
  rw [← hgs] at TK DQ
  rw [← hgs, ← hft] at DG DR
  obtain ⟨nz, hnz⟩ : ∃ x, x = acells (.slice none 0 0) (.slice none 0 0) (.slice none 0 0) zeroAsk := ⟨_, rfl⟩
  rw [← hnz] at ZH HZ
  obtain ⟨nt, hnt⟩ : ∃ x, x = scells (.slice none 0 0) (.slice none 0 0) zeroSay := ⟨_, rfl⟩
  rw [← hnt] at ZS SZ
  clear hga heb hgs hft hnz hnt hT h h1 hxs CW GD GN1 GN2 SN1 SN2
  go_enter Tryd.func5, Tryd.ntmps5
  go_wp2_with fail
  refine CW'.out.mono ?_
  rintro e v1 ⟨rfl, hrow, L1⟩
  have R1 := Lib.hid hrow
  have M1 := Lib.hid L1
  have hW1 := R1.out.lt
  obtain ⟨gw, hgw⟩ : ∃ g, g = W.heap.size := ⟨_, rfl⟩
  have HGW := Lib.hid hgw
  rw [← hgw] at R1 hW1 ⊢
  clear hrow L1 CW' hgw
  go_wp2_with fail
  refine (CG.out _ _ _ _ (wide_holds R1.out HXL.out (by omega) HXB.out)).mono ?_
  rintro e va1 ⟨ads, rfl, hd, L⟩
  have aD1 := Lib.hid hd
  have aDL := Lib.hid (hd.len GK.out)
  have aDO := Lib.hid hd.one
  have Ma1 := Lib.hid (step M1.out L)
  have Ra1 := Lib.hid (R1.out.over L)
  clear hd L
  go_wp2_with (first
    | ((with_reducible show wpList _ _ _ (⟨some 6, _, _, _, _, _⟩ :: _) _ _); refine wpList_alloc_blk rfl _ rfl nz _ ZH ?_; intro ag a2 hg5 hg6 aZ2 aL2)
    | ((with_reducible show wpList _ _ _ (⟨none, .store _ (.tmp 6) _, _, _, _, _⟩ :: _) _ _); refine wpList_store_blk rfl _ (.tmp 6) (.tmp 20) rfl ag rfl _ nz ads rfl aZ2 69 size_ask HZ aDL aDO ?_; intro va3 Xa_a3 aO3 hg7; have aL3 := Lib.hid (below_only aL2.out aO3.out hg5); have Ma3 := Lib.hid (step Ma1.out aL3.out); have Ra3 := Lib.hid (Ra1.out.over aL3.out); have Da_a3 := Lib.hid (aD1.out.over aL3.out))
    | fail)
  refine (CR.out _ _ _ _ ((HX.out.below Ma3.out).mono Ma3.out.size)).mono ?_
  rintro e vb1 ⟨bds, rfl, hd, L⟩
  have bD1 := Lib.hid hd
  have bDL := Lib.hid (hd.len GK.out)
  have bDO := Lib.hid hd.one
  have Mb1 := Lib.hid (step Ma3.out L)
  have Rb1 := Lib.hid (Ra3.out.over L)
  have Da_b1 := Lib.hid (Da_a3.out.over L)
  have Xa_b1 := Lib.hid (Xa_a3.out.over L)
  clear hd L
  go_wp2_with (first
    | ((with_reducible show wpList _ _ _ (⟨some 8, _, _, _, _, _⟩ :: _) _ _); refine wpList_alloc_blk rfl _ rfl nz _ ZH ?_; intro bg b2 hg5 hg6 bZ2 bL2)
    | ((with_reducible show wpList _ _ _ (⟨none, .store _ (.tmp 8) _, _, _, _, _⟩ :: _) _ _); refine wpList_store_blk rfl _ (.tmp 8) (.tmp 26) rfl bg rfl _ nz bds rfl bZ2 69 size_ask HZ bDL bDO ?_; intro vb3 Xb_b3 bO3 hg7; have bL3 := Lib.hid (below_only bL2.out bO3.out hg5); have Da_b3 := Lib.hid (Da_b1.out.over bL3.out); have Xa_b3 := Lib.hid (Xa_b1.out.over bL3.out); have Mb3 := Lib.hid (step Mb1.out bL3.out); have Rb3 := Lib.hid (Rb1.out.over bL3.out); have Db_b3 := Lib.hid (bD1.out.over bL3.out))
    | fail)
  refine (DG.out _ _ _ _ (wide_holds Rb3.out HXL.out (by omega) HXB.out)).mono ?_
  rintro e vc1 ⟨cds, rfl, hd, L⟩
  have cD1 := Lib.hid hd
  have cDL := Lib.hid (hd.len TK.out)
  have cDO := Lib.hid hd.one
  have Mc1 := Lib.hid (step Mb3.out L)
  have Rc1 := Lib.hid (Rb3.out.over L)
  have Da_c1 := Lib.hid (Da_b3.out.over L)
  have Xa_c1 := Lib.hid (Xa_b3.out.over L)
  have Db_c1 := Lib.hid (Db_b3.out.over L)
  have Xb_c1 := Lib.hid (Xb_b3.out.over L)
  clear hd L
  go_wp2_with (first
    | ((with_reducible show wpList _ _ _ (⟨some 10, _, _, _, _, _⟩ :: _) _ _); refine wpList_alloc_blk rfl _ rfl nt _ ZS ?_; intro cg c2 hg5 hg6 cZ2 cL2)
    | ((with_reducible show wpList _ _ _ (⟨none, .store _ (.tmp 10) _, _, _, _, _⟩ :: _) _ _); refine wpList_store_blk rfl _ (.tmp 10) (.tmp 32) rfl cg rfl _ nt cds rfl cZ2 20 size_say SZ cDL cDO ?_; intro vc3 Xc_c3 cO3 hg7; have cL3 := Lib.hid (below_only cL2.out cO3.out hg5); have Da_c3 := Lib.hid (Da_c1.out.over cL3.out); have Xa_c3 := Lib.hid (Xa_c1.out.over cL3.out); have Db_c3 := Lib.hid (Db_c1.out.over cL3.out); have Xb_c3 := Lib.hid (Xb_c1.out.over cL3.out); have Mc3 := Lib.hid (step Mc1.out cL3.out); have Rc3 := Lib.hid (Rc1.out.over cL3.out); have Dc_c3 := Lib.hid (cD1.out.over cL3.out))
    | fail)
  refine (DR.out _ _ _ _ ((HX.out.below Mc3.out).mono Mc3.out.size)).mono ?_
  rintro e vd1 ⟨dds, rfl, hd, L⟩
  have dD1 := Lib.hid hd
  have dDL := Lib.hid (hd.len TK.out)
  have dDO := Lib.hid hd.one
  have Md1 := Lib.hid (step Mc3.out L)
  have Rd1 := Lib.hid (Rc3.out.over L)
  have Da_d1 := Lib.hid (Da_c3.out.over L)
  have Xa_d1 := Lib.hid (Xa_c3.out.over L)
  have Db_d1 := Lib.hid (Db_c3.out.over L)
  have Xb_d1 := Lib.hid (Xb_c3.out.over L)
  have Dc_d1 := Lib.hid (Dc_c3.out.over L)
  have Xc_d1 := Lib.hid (Xc_c3.out.over L)
  clear hd L
  go_wp2_with (first
    | ((with_reducible show wpList _ _ _ (⟨some 12, _, _, _, _, _⟩ :: _) _ _); refine wpList_alloc_blk rfl _ rfl nt _ ZS ?_; intro dg d2 hg5 hg6 dZ2 dL2)
    | ((with_reducible show wpList _ _ _ (⟨none, .store _ (.tmp 12) _, _, _, _, _⟩ :: _) _ _); refine wpList_store_blk rfl _ (.tmp 12) (.tmp 38) rfl dg rfl _ nt dds rfl dZ2 20 size_say SZ dDL dDO ?_; intro vd3 Xd_d3 dO3 hg7; have dL3 := Lib.hid (below_only dL2.out dO3.out hg5); have Da_d3 := Lib.hid (Da_d1.out.over dL3.out); have Xa_d3 := Lib.hid (Xa_d1.out.over dL3.out); have Db_d3 := Lib.hid (Db_d1.out.over dL3.out); have Xb_d3 := Lib.hid (Xb_d1.out.over dL3.out); have Dc_d3 := Lib.hid (Dc_d1.out.over dL3.out); have Xc_d3 := Lib.hid (Xc_d1.out.over dL3.out); have Md3 := Lib.hid (step Md1.out dL3.out); have Rd3 := Lib.hid (Rd1.out.over dL3.out); have Dd_d3 := Lib.hid (dD1.out.over dL3.out))
    | ((with_reducible show wpList _ _ _ (⟨some 40, _, _, _, _, _⟩ :: _) _ _); refine wpList_load_blk rfl _ (.tmp 6) rfl ag rfl _ ads Xa_d3 69 _ Tryd.underlying32 rfl size_ask aDL ?_)
    | ((with_reducible show wpList _ _ _ (⟨some 41, _, _, _, _, _⟩ :: _) _ _); refine wpList_load_blk rfl _ (.tmp 8) rfl bg rfl _ bds Xb_d3 69 _ Tryd.underlying32 rfl size_ask bDL ?_)
    | fail)
  refine (CQ.out vd3 ads bds Da_d3.out Db_d3.out).mono ?_
  rintro e ve1 ⟨rfl, L⟩
  have Me := Lib.hid (step Md3.out L)
  have Re := Lib.hid (Rd3.out.over L)
  have Xc := Lib.hid (Xc_d3.out.over L)
  have Xd := Lib.hid (Xd_d3.out.over L)
  have Dc := Lib.hid (Dc_d3.out.over L)
  have Dd := Lib.hid (Dd_d3.out.over L)
  clear L
  go_wp2_with (first
    | ((with_reducible show wpList _ _ _ (⟨some 49, _, _, _, _, _⟩ :: _) _ _); refine wpList_load_want (by kernel_rfl) _ (.tmp 10) rfl cg rfl _ cds Xc 20 _ Tryd.underlying45 rfl size_say cDL ?_)
    | ((with_reducible show wpList _ _ _ (⟨some 50, _, _, _, _, _⟩ :: _) _ _); refine wpList_load_want (by kernel_rfl) _ (.tmp 12) rfl dg rfl _ dds Xd 20 _ Tryd.underlying45 rfl size_say dDL ?_)
    | fail)
  refine (DQ.out ve1 cds dds Dc.out Dd.out).mono ?_
  rintro e vf1 ⟨rfl, L⟩
  have Mf := Lib.hid (step Me.out L)
  have Rf := Lib.hid (Re.out.over L)
  clear L Me Re Xc Xd Dc Dd
  have D12 := Lib.hid (Left_any vf1 gw A1 n1 c1 xs Rf.out ((HX.out.below Mf.out).mono Mf.out.size))
  go_wp2_with fail
  refine D12.out.mono ?_
  rintro e v13 ⟨rfl, k13, rfl⟩
  have M13 : Hid (Below W.heap.size W (vf1.drewN k13)) := Mf.out.trans ((drewed vf1 k13).mono Mf.out.size)
  obtain ⟨v13, hv13⟩ : ∃ v, v = vf1.drewN k13 := ⟨_, rfl⟩
  rw [← hv13] at M13 ⊢
  clear hv13 D12 Rf Mf
  go_wp2_with fail
  refine (CL.out v13 (HT.out.below M13.out)).mono ?_
  rintro e v14 ⟨rfl, L14⟩
  go_wp2
  go_ret
  exact ⟨rfl, step M13.out L14⟩
end Go.Proofs.YtepkamkgodbffaaDoor
