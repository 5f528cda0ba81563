/-
  The walk of the statement TalkCut: no beginning of a body is one, and no body with bytes behind it.
-/
import Derived.Test.YtepkamkgodbffaaDoorZD
import Derived.Test.YtepkamkgodbffaaDoorYTalkR
import Derived.Test.YtepkamkgodbffaaDoorYFull
namespace Go.Proofs.YtepkamkgodbffaaDoor
open Go.RowKit
set_option linter.unusedVariables false
set_option maxRecDepth 100000

theorem ask_some {c : Int} {a : AskV} (he : askErrP c a = 0) : 1 ≤ (askOfP c a).length := by
  unfold askOfP
  rw [if_pos he]
  have h0 := he
  unfold askErrP at he
  by_cases hk : knownT c = true ∧ besideAsk c a = zeroAsk
  rotate_left
  · rw [if_neg hk] at he; exact absurd he (by decide)
  rw [if_pos hk] at he
  by_cases c0 : c = 0
  · rw [if_pos c0]
    unfold offerOf
    rw [List.length_append, List.length_append, le_length]
    omega
  · rw [if_neg c0] at he ⊢
    by_cases c1 : c = 1
    · rw [if_pos c1] at he ⊢
      obtain ⟨_, _, h3⟩ := ptext_parts he
      rw [h3, List.length_append, List.length_append, le_length]
      omega
    · rw [if_neg c1] at he ⊢
      by_cases c3 : c = 3
      · rw [if_pos c3] at he ⊢
        obtain ⟨_, _, h3⟩ := ptext_parts he
        rw [h3, List.length_append, le_length]
        omega
      · rw [if_neg c3]
        simp
theorem Holds.shut {w : World} {B n c k c' : Nat} {A : Option Addr} {xs : List Int} (h : Holds w B A n c xs) (hk : k ≤ n) (hc : k ≤ c') (hA : A = none → c' = 0) : Holds w B A k c' (xs.take k) := by
  refine ⟨by rw [List.length_take, h.len]; omega, hc, by have := h.room; omega, h.byte.take k, hA, fun h0 => ?_⟩
  obtain ⟨b, off, e, hb, hcl⟩ := h.cells (by omega)
  refine ⟨b, off, e, hb, fun i hi => ?_⟩
  rw [hcl i (by omega)]
  simp [List.getD_eq_getElem?_getD, hi]
theorem cut_at (a2 : Int) (m : Nat) (h : 1 ≤ m) (h7 : m ≤ 70000) : ∃ q : Nat, q < m ∧ wrap64 ((IntKind.u64.wrap a2).tmod m) = q := by
  have h0 : 0 ≤ IntKind.u64.wrap a2 := by rw [IntKind.wrap_u64]; omega
  rw [Int.tmod_eq_emod_of_nonneg h0]
  have h1 := Int.emod_nonneg (IntKind.u64.wrap a2) (show (m : Int) ≠ 0 by omega)
  have h2 := Int.emod_lt_of_pos (IntKind.u64.wrap a2) (show (0 : Int) < m by omega)
  obtain ⟨r, hr⟩ : ∃ r, r = IntKind.u64.wrap a2 % (m : Int) := ⟨_, rfl⟩
  rw [← hr] at h1 h2 ⊢
  refine ⟨r.toNat, by omega, ?_⟩
  unfold wrap64
  omega
set_option maxHeartbeats 1000000 in
theorem walk_TalkCut (W : World) (hT : Tabs W) (a0 : Int) (w0 : 0 ≤ a0 ∧ a0 ≤ 65535) (cs1 : List Value) (a1 : AskV) (k1h : a1.ok) (h1h : AskIs W W.heap.size cs1 a1) (b1 : a1.dial.length ≤ 1048576 ∧ a1.data.length ≤ 1048576 ∧ a1.locks.length ≤ 1048576 ∧ a1.user.size ≤ 1048576 ∧ a1.share.size ≤ 1048576 ∧ a1.name.size ≤ 1048576 ∧ a1.pat.size ≤ 1048576 ∧ a1.aft.size ≤ 1048576)
    (a2 : Int) (w2 : -9223372036854775808 ≤ a2 ∧ a2 ≤ 9223372036854775807) (A3 : Option Addr) (n3 c3 : Nat) (z3 : List Int) (l3 : n3 ≤ c3) (r3 : c3 ≤ 1048576) (h3 : Holds W W.heap.size A3 c3 c3 z3) :
    Calls Tryd.prog 8 #[.int .u16 a0, .agg cs1.toArray, .int .i64 a2, .slice A3 n3 c3] W fun e W' => e = .returned (.bool true) ∧ Below W.heap.size W W' := by
  have HT := Lib.hid hT
  have h := h3.head l3
  obtain ⟨ms, hms⟩ : ∃ ms, ms = z3.take n3 := ⟨_, rfl⟩
  rw [← hms] at h
  have HX := Lib.hid h
  have HXB := Lib.hid h.byte
  have HXL := Lib.hid h.len
  have hbig : n3 ≤ 1048576 := by omega
  have HL := Lib.hid (h1h.len k1h)
  have HA := Lib.hid h1h
  have ZH := Lib.hid zero_ask
  have HZ : Hid ((acells (.slice none 0 0) (.slice none 0 0) (.slice none 0 0) zeroAsk).length = 69) := acells_len zeroAsk_ok
  obtain ⟨b1a, b1b, b1c, b1d, b1e, _⟩ := b1
  have HYB := Lib.hid (ask_bytes (c := a0) k1h)
  have HYL := Lib.hid (ask_len (c := a0) k1h)
  have FC := fun he k hk => gask_cut a0 a1 k1h he k hk
  have FM := fun he more hm => gask_more a0 a1 k1h he more hm
  have F1 := fun he => ask_some (c := a0) (a := a1) he
  have CP : Hid (∀ w : World, Below W.heap.size W w → Calls Tryd.prog 12 #[.int .u16 a0, .agg cs1.toArray] w fun e w' => ∃ v, e = .returned (.tuple #[v, .int .i64 (askErrP a0 a1)]) ∧ Own w' w.heap.size v (askOfP a0 a1) ∧ Below w.heap.size w w') := fun w hb => PutAsk_any w a0 cs1 a1 w0 k1h (h1h.over hb) ⟨by omega, by omega⟩ (hT.below hb)
  have CG : Hid (∀ (w : World) (A : Option Addr) (n c : Nat) (xs : List Int), Holds w w.heap.size A n c xs → Calls Tryd.prog 22 #[.int .u16 a0, .slice A n c] w fun e w' => ∃ cs : List Value, e = .returned (.tuple #[.agg cs.toArray, .int .i64 (gaskErr a0 xs)]) ∧ cs.length = 69 ∧ (∀ v ∈ cs, v.oneCell' = true) ∧ Below w.heap.size w w') := fun w A n c xs hh => (GetAsk_any w a0 A n c xs w0 hh).mono fun e w' ⟨vd, h1, h2, h3⟩ => ⟨_, h1, h2.len (gaskOf_ok a0 hh.byte), h2.one, h3⟩
  have CL : Hid (∀ w : World, Tabs w → Calls Tryd.prog 16 #[] w fun e w' => e = .returned (.bool true) ∧ Below w.heap.size w w') := lives_any
  obtain ⟨er, her⟩ : ∃ x, x = askErrP a0 a1 := ⟨_, rfl⟩
  obtain ⟨ys, hys⟩ : ∃ x, x = askOfP a0 a1 := ⟨_, rfl⟩
  rw [← her] at CP FC FM F1
  rw [← hys] at CP HYB HYL FC FM F1
  obtain ⟨nz, hnz⟩ : ∃ x, x = acells (.slice none 0 0) (.slice none 0 0) (.slice none 0 0) zeroAsk := ⟨_, rfl⟩
  rw [← hnz] at ZH HZ
  clear her hys hnz hT h h3 h1h hms
  by_cases he : er = 0
  · subst he
    replace FC := Lib.hid (FC rfl)
    replace FM := Lib.hid (FM rfl)
    replace F1 := Lib.hid (F1 rfl)
    by_cases hn : n3 = 0
    · subst hn
      go_enter Tryd.func8, Tryd.ntmps8
      go_wp2_with (first
        | ((with_reducible show wpList _ _ _ (⟨some 5, _, _, _, _, _⟩ :: _) _ _); refine wpList_box_blk rfl _ (.tmp 1) rfl cs1 rfl ?_; intro g v1 hg1 hg2 K1 L1)
        | ((with_reducible show wpList _ _ _ (⟨some 18, _, _, _, _, _⟩ :: _) _ _); refine wpList_load_blk rfl _ (.tmp 5) rfl g rfl _ cs1 K1 69 _ Tryd.underlying32 rfl size_ask HL ?_)
        | fail)
      refine (CP.out v1 L1.out).mono ?_
      rintro e v2 ⟨u2, rfl, ho2, L2⟩
      have M2 := Lib.hid (step L1.out L2)
      obtain ⟨A2, c2, rfl, hh2⟩ := ho2.holds HYB.out (by have := HYL.out; omega)
      have H2 := Lib.hid hh2
      obtain ⟨m, hm⟩ : ∃ m, m = ys.length := ⟨_, rfl⟩
      have HM := Lib.hid hm
      have hm7 : m ≤ 70000 := by rw [hm]; exact HYL.out
      have hmc : m ≤ c2 := by have := hh2.fit; omega
      have hmc : m ≤ c2 := by have := hh2.fit; omega
      rw [← hm] at H2 ⊢
      clear hh2 ho2 L2 K1 L1 hm
      have hm1 : 1 ≤ m := by rw [HM.out]; exact F1.out
      obtain ⟨q, hq, hk⟩ := cut_at a2 m hm1 hm7
      have HK := Lib.hid hk
      have C4 := CG.out v2 A2 q c2 _ (H2.out.shut (by omega) (by omega) H2.out.bare)
      rw [FC.out q (by rw [← HM.out]; exact hq)] at C4
      have C4 := Lib.hid C4
      go_wp2_with fail
      try rw [HK.out]
      clear hk
      refine C4.out.mono ?_
      rintro e b1 ⟨bds, rfl, hl, ho, L4⟩
      have bM1 := Lib.hid (step M2.out L4)
      have bH1 := Lib.hid (H2.out.over L4)
      have bDL := Lib.hid hl
      have bDO := Lib.hid ho
      clear hl ho L4 C4 M2 H2
      go_wp2_with (first
        | ((with_reducible show wpList _ _ _ (⟨some 12, _, _, _, _, _⟩ :: _) _ _); refine wpList_alloc_blk rfl _ rfl nz _ ZH ?_; intro bg b2 hg5 hg6 bZ2 bL2)
        | ((with_reducible show wpList _ _ _ (⟨none, .store _ (.tmp 12) _, _, _, _, _⟩ :: _) _ _); refine wpList_store_blk rfl _ (.tmp 12) (.tmp 52) rfl bg rfl _ nz bds rfl bZ2 69 size_ask HZ bDL bDO ?_; intro b3 bX3 bO3 hg7; have bL3 := Lib.hid (below_only bL2.out bO3.out hg5); have bM3 := Lib.hid (step bM1.out bL3.out); have bH3 := Lib.hid (bH1.out.over bL3.out))
        | fail)
      refine (CL.out b3 (HT.out.below bM3.out)).mono ?_
      rintro e v13 ⟨rfl, L13⟩
      go_wp2
      go_ret
      exact ⟨rfl, step bM3.out L13⟩
    ·
      go_enter Tryd.func8, Tryd.ntmps8
      go_wp2_with (first
        | ((with_reducible show wpList _ _ _ (⟨some 5, _, _, _, _, _⟩ :: _) _ _); refine wpList_box_blk rfl _ (.tmp 1) rfl cs1 rfl ?_; intro g v1 hg1 hg2 K1 L1)
        | ((with_reducible show wpList _ _ _ (⟨some 18, _, _, _, _, _⟩ :: _) _ _); refine wpList_load_blk rfl _ (.tmp 5) rfl g rfl _ cs1 K1 69 _ Tryd.underlying32 rfl size_ask HL ?_)
        | fail)
      refine (CP.out v1 L1.out).mono ?_
      rintro e v2 ⟨u2, rfl, ho2, L2⟩
      have M2 := Lib.hid (step L1.out L2)
      obtain ⟨A2, c2, rfl, hh2⟩ := ho2.holds HYB.out (by have := HYL.out; omega)
      have H2 := Lib.hid hh2
      obtain ⟨m, hm⟩ : ∃ m, m = ys.length := ⟨_, rfl⟩
      have HM := Lib.hid hm
      have hm7 : m ≤ 70000 := by rw [hm]; exact HYL.out
      have hmc : m ≤ c2 := by have := hh2.fit; omega
      have hmc : m ≤ c2 := by have := hh2.fit; omega
      rw [← hm] at H2 ⊢
      clear hh2 ho2 L2 K1 L1 hm
      have hm1 : 1 ≤ m := by rw [HM.out]; exact F1.out
      obtain ⟨q, hq, hk⟩ := cut_at a2 m hm1 hm7
      have HK := Lib.hid hk
      have C4 := CG.out v2 A2 q c2 _ (H2.out.shut (by omega) (by omega) H2.out.bare)
      rw [FC.out q (by rw [← HM.out]; exact hq)] at C4
      have C4 := Lib.hid C4
      go_wp2_with fail
      try rw [HK.out]
      clear hk
      refine C4.out.mono ?_
      rintro e b1 ⟨bds, rfl, hl, ho, L4⟩
      have bM1 := Lib.hid (step M2.out L4)
      have bH1 := Lib.hid (H2.out.over L4)
      have bDL := Lib.hid hl
      have bDO := Lib.hid ho
      clear hl ho L4 C4 M2 H2
      go_wp2_with (first
        | ((with_reducible show wpList _ _ _ (⟨some 12, _, _, _, _, _⟩ :: _) _ _); refine wpList_alloc_blk rfl _ rfl nz _ ZH ?_; intro bg b2 hg5 hg6 bZ2 bL2)
        | ((with_reducible show wpList _ _ _ (⟨none, .store _ (.tmp 12) _, _, _, _, _⟩ :: _) _ _); refine wpList_store_blk rfl _ (.tmp 12) (.tmp 52) rfl bg rfl _ nz bds rfl bZ2 69 size_ask HZ bDL bDO ?_; intro b3 bX3 bO3 hg7; have bL3 := Lib.hid (below_only bL2.out bO3.out hg5); have bM3 := Lib.hid (step bM1.out bL3.out); have bH3 := Lib.hid (bH1.out.over bL3.out))
        | ((with_reducible show wpList _ _ _ (⟨some 69, _, _, _, _, _⟩ :: _) _ _); refine wpList_append_full rfl (.tmp 67) (.tmp 68) rfl b3.heap.size A2 m c2 ys rfl bH3.out W.heap.size A3 n3 c3 ms rfl (HX.out.below bM3.out) (by omega) (by omega) ?_; intro u5 v5 O5 L5; have M5 := Lib.hid (step bM3.out L5); obtain ⟨A5, c5, rfl, hh5⟩ := O5.out.holds (HYB.out.append HXB.out) (by rw [List.length_append, ← HM.out, HXL.out]; omega); obtain ⟨m5, hm5⟩ : ∃ k, k = (ys ++ ms).length := ⟨_, rfl⟩; rw [← hm5] at hh5 ⊢; have H5 := Lib.hid hh5; clear hh5 hm5)
        | fail)
      have C6 := CG.out v5 A5 m5 c5 _ H5.out
      rw [FM.out ms (fun h => by rw [h] at HXL; exact hn HXL.out.symm)] at C6
      refine C6.mono ?_
      rintro e d1 ⟨dds, rfl, hl, ho, L6⟩
      have dM1 := Lib.hid (step M5.out L6)
      have dH1 := Lib.hid (H5.out.over L6)
      have dDL := Lib.hid hl
      have dDO := Lib.hid ho
      clear hl ho L6 C6 M5 H5
      go_wp2_with (first
        | ((with_reducible show wpList _ _ _ (⟨some 14, _, _, _, _, _⟩ :: _) _ _); refine wpList_alloc_blk rfl _ rfl nz _ ZH ?_; intro dg d2 hg5 hg6 dZ2 dL2)
        | ((with_reducible show wpList _ _ _ (⟨none, .store _ (.tmp 14) _, _, _, _, _⟩ :: _) _ _); refine wpList_store_blk rfl _ (.tmp 14) (.tmp 71) rfl dg rfl _ nz dds rfl dZ2 69 size_ask HZ dDL dDO ?_; intro d3 dX3 dO3 hg7; have dL3 := Lib.hid (below_only dL2.out dO3.out hg5); have dM3 := Lib.hid (step dM1.out dL3.out); have dH3 := Lib.hid (dH1.out.over dL3.out))
        | fail)
      refine (CL.out d3 (HT.out.below dM3.out)).mono ?_
      rintro e v13 ⟨rfl, L13⟩
      go_wp2
      go_ret
      exact ⟨rfl, step dM3.out L13⟩
  · clear FC FM F1
    go_enter Tryd.func8, Tryd.ntmps8
    go_wp2_with (first
      | ((with_reducible show wpList _ _ _ (⟨some 5, _, _, _, _, _⟩ :: _) _ _); refine wpList_box_blk rfl _ (.tmp 1) rfl cs1 rfl ?_; intro g v1 hg1 hg2 K1 L1)
      | ((with_reducible show wpList _ _ _ (⟨some 18, _, _, _, _, _⟩ :: _) _ _); refine wpList_load_blk rfl _ (.tmp 5) rfl g rfl _ cs1 K1 69 _ Tryd.underlying32 rfl size_ask HL ?_)
      | fail)
    refine (CP.out v1 L1.out).mono ?_
    rintro e v2 ⟨u2, rfl, ho2, L2⟩
    have M2 := Lib.hid (step L1.out L2)
    obtain ⟨A2, c2, rfl, hh2⟩ := ho2.holds HYB.out (by have := HYL.out; omega)
    have H2 := Lib.hid hh2
    obtain ⟨m, hm⟩ : ∃ m, m = ys.length := ⟨_, rfl⟩
    have HM := Lib.hid hm
    have hm7 : m ≤ 70000 := by rw [hm]; exact HYL.out
    have hmc : m ≤ c2 := by have := hh2.fit; omega
    have hmc : m ≤ c2 := by have := hh2.fit; omega
    rw [← hm] at H2 ⊢
    clear hh2 ho2 L2 K1 L1 hm
    go_wp2_with fail
    refine (CL.out v2 (HT.out.below M2.out)).mono ?_
    rintro e v13 ⟨rfl, L13⟩
    go_wp2
    go_ret
    exact ⟨rfl, step M2.out L13⟩
end Go.Proofs.YtepkamkgodbffaaDoor
