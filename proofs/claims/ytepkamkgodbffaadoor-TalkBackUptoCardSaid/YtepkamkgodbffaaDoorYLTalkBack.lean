/-
  The walk of the statement TalkBack: what is put is got.
-/
import Derived.Test.YtepkamkgodbffaaDoorZD
import Derived.Test.YtepkamkgodbffaaDoorYTalkR
import Derived.Test.YtepkamkgodbffaaDoorYAskE
import Derived.Test.YtepkamkgodbffaaDoorYAskF
namespace Go.Proofs.YtepkamkgodbffaaDoor
open Go.RowKit
set_option linter.unusedVariables false
set_option maxRecDepth 100000

set_option maxHeartbeats 8000000 in
theorem walk_TalkBack (W : World) (hT : Tabs W) (a0 : Int) (w0 : 0 ≤ a0 ∧ a0 ≤ 65535) (cs1 : List Value) (a1 : AskV) (k1h : a1.ok) (h1h : AskIs W W.heap.size cs1 a1) (b1 : a1.dial.length ≤ 1048576 ∧ a1.data.length ≤ 1048576 ∧ a1.locks.length ≤ 1048576 ∧ a1.user.size ≤ 1048576 ∧ a1.share.size ≤ 1048576 ∧ a1.name.size ≤ 1048576 ∧ a1.pat.size ≤ 1048576 ∧ a1.aft.size ≤ 1048576)
    (cs2 : List Value) (a2 : SayV) (k2h : a2.ok) (h2h : SayIs W W.heap.size cs2 a2) (b2 : a2.data.length ≤ 1048576 ∧ a2.ents.length ≤ 1048576) :
    Calls Tryd.prog 6 #[.int .u16 a0, .agg cs1.toArray, .agg cs2.toArray] W fun e W' => e = .returned (.bool true) ∧ Below W.heap.size W W' := by
  have HT := Lib.hid hT
  have HL := Lib.hid (h1h.len k1h)
  have HA := Lib.hid h1h
  have ZH := Lib.hid zero_ask
  have HZ : Hid ((acells (.slice none 0 0) (.slice none 0 0) (.slice none 0 0) zeroAsk).length = 69) := acells_len zeroAsk_ok
  have SL := Lib.hid (h2h.len k2h)
  have SA := Lib.hid h2h
  have ZS := Lib.hid zero_say
  have SZ : Hid ((scells (.slice none 0 0) (.slice none 0 0) zeroSay).length = 20) := scells_len zeroSay_ok
  obtain ⟨b1a, b1b, b1c, b1d, b1e, _⟩ := b1
  obtain ⟨b2b, b2c⟩ := b2
  have HYB := Lib.hid (ask_bytes (c := a0) k1h)
  have HYL := Lib.hid (ask_len (c := a0) k1h)
  have SYB := Lib.hid (say_bytes (c := a0) k2h)
  have SYL := Lib.hid (say_len (c := a0) k2h)
  have GK := Lib.hid (gaskOf_ok a0 HYB.out)
  have TK := Lib.hid (gsayOf_ok a0 SYB.out)
  have FB := gask_back a0 a1 k1h
  have FS := gsay_back a0 a2 k2h
  have CP : Hid (∀ w : World, Below W.heap.size W w → Calls Tryd.prog 12 #[.int .u16 a0, .agg cs1.toArray] w fun e w' => ∃ v, e = .returned (.tuple #[v, .int .i64 (askErrP a0 a1)]) ∧ Own w' w.heap.size v (askOfP a0 a1) ∧ Below w.heap.size w w') := fun w hb => PutAsk_any w a0 cs1 a1 w0 k1h (h1h.over hb) ⟨by omega, by omega⟩ (hT.below hb)
  have CG : Hid (∀ (w : World) (A : Option Addr) (n c : Nat), Holds w w.heap.size A n c (askOfP a0 a1) → Calls Tryd.prog 22 #[.int .u16 a0, .slice A n c] w fun e w' => ∃ cs : List Value, e = .returned (.tuple #[.agg cs.toArray, .int .i64 (gaskErr a0 (askOfP a0 a1))]) ∧ AskIs w' w'.heap.size cs (gaskOf a0 (askOfP a0 a1)) ∧ Below w.heap.size w w') := fun w A n c hh => (GetAsk_any w a0 A n c _ w0 hh).mono fun e w' ⟨vd, h1, h2, h3⟩ => ⟨_, h1, h2, h3⟩
  have CQ : Hid (∀ (w : World) (ds : List Value), AskIs w w.heap.size ds a1 → AskIs w w.heap.size cs1 a1 → Calls Tryd.prog 15 #[.agg ds.toArray, .agg cs1.toArray] w fun e w' => e = .returned (.bool true) ∧ Below w.heap.size w w') := fun w ds h1 h2 => by
    have h3 := Asks_any w ds cs1 a1 a1 k1h k1h h1 h2 ⟨by omega, by omega, by omega⟩ ⟨by omega, by omega, by omega⟩
    rwa [decide_eq_true rfl] at h3
  have DP : Hid (∀ w : World, Below W.heap.size W w → Calls Tryd.prog 18 #[.int .u16 a0, .agg cs2.toArray] w fun e w' => ∃ v, e = .returned (.tuple #[v, .int .i64 (sayErrP a0 a2)]) ∧ Own w' w.heap.size v (sayOfP a0 a2) ∧ Below w.heap.size w w') := fun w hb => PutSay_any w a0 cs2 a2 w0 k2h (h2h.over hb)
  have DG : Hid (∀ (w : World) (A : Option Addr) (n c : Nat), Holds w w.heap.size A n c (sayOfP a0 a2) → Calls Tryd.prog 24 #[.int .u16 a0, .slice A n c] w fun e w' => ∃ cs : List Value, e = .returned (.tuple #[.agg cs.toArray, .int .i64 (gsayErr a0 (sayOfP a0 a2))]) ∧ SayIs w' w'.heap.size cs (gsayOf a0 (sayOfP a0 a2)) ∧ Below w.heap.size w w') := fun w A n c hh => (GetSay_any w a0 A n c _ w0 hh).mono fun e w' ⟨h1, h3⟩ => ⟨_, h1, gsay_is _ _ _ _, h3⟩
  have DQ : Hid (∀ (w : World) (ds : List Value), SayIs w w.heap.size ds a2 → SayIs w w.heap.size cs2 a2 → Calls Tryd.prog 20 #[.agg ds.toArray, .agg cs2.toArray] w fun e w' => e = .returned (.bool true) ∧ Below w.heap.size w w') := fun w ds h1 h2 => by
    have h3 := Says_any w ds cs2 a2 a2 k2h k2h h1 h2 ⟨by omega, by omega⟩ ⟨by omega, by omega⟩
    rwa [decide_eq_true rfl] at h3
  have CL : Hid (∀ w : World, Tabs w → Calls Tryd.prog 16 #[] w fun e w' => e = .returned (.bool true) ∧ Below w.heap.size w w') := lives_any
  obtain ⟨er, her⟩ : ∃ x, x = askErrP a0 a1 := ⟨_, rfl⟩
  obtain ⟨fs, hfs⟩ : ∃ x, x = sayErrP a0 a2 := ⟨_, rfl⟩
  rw [← her] at CP FB
  rw [← hfs] at DP FS
  obtain ⟨ys, hys⟩ : ∃ x, x = askOfP a0 a1 := ⟨_, rfl⟩
  obtain ⟨zs, hzs⟩ : ∃ x, x = sayOfP a0 a2 := ⟨_, rfl⟩
  rw [← hys] at CP CG HYB HYL GK FB
  rw [← hzs] at DP DG SYB SYL TK FS
  obtain ⟨eb, heb⟩ : ∃ x, x = gaskErr a0 ys := ⟨_, rfl⟩
  obtain ⟨ga, hga⟩ : ∃ x, x = gaskOf a0 ys := ⟨_, rfl⟩
  obtain ⟨ft, hft⟩ : ∃ x, x = gsayErr a0 zs := ⟨_, rfl⟩
  obtain ⟨gs, hgs⟩ : ∃ x, x = gsayOf a0 zs := ⟨_, rfl⟩
  rw [← heb, ← hga] at CG
  rw [← hga] at GK
  rw [← heb, ← hga] at FB
  rw [← hft, ← hgs] at DG
  rw [← hgs] at TK
  rw [← hft, ← hgs] at FS
  obtain ⟨nz, hnz⟩ : ∃ x, x = acells (.slice none 0 0) (.slice none 0 0) (.slice none 0 0) zeroAsk := ⟨_, rfl⟩
  rw [← hnz] at ZH HZ
  obtain ⟨nt, hnt⟩ : ∃ x, x = scells (.slice none 0 0) (.slice none 0 0) zeroSay := ⟨_, rfl⟩
  rw [← hnt] at ZS SZ
  clear her hfs hys hzs heb hga hft hgs hnz hnt hT h1h h2h
  by_cases he : er = 0
  · obtain ⟨rfl, rfl⟩ := FB he
    subst he
    by_cases hf : fs = 0
    · obtain ⟨rfl, rfl⟩ := FS hf
      subst hf
      go_enter Tryd.func6, Tryd.ntmps6
      go_wp2_with (first
        | ((with_reducible show wpList _ _ _ (⟨some 4, _, _, _, _, _⟩ :: _) _ _); refine wpList_box_blk rfl _ (.tmp 1) rfl cs1 rfl ?_; intro g v1 hg1 hg2 K1 L1)
        | ((with_reducible show wpList _ _ _ (⟨some 5, _, _, _, _, _⟩ :: _) _ _); refine wpList_box_blk rfl _ (.tmp 2) rfl cs2 rfl ?_; intro h v2 hh1 hh2 Q2 L2; have K2 := Lib.hid (K1.out.over L2.out); have M2 := Lib.hid (step L1.out L2.out))
        | ((with_reducible show wpList _ _ _ (⟨some 17, _, _, _, _, _⟩ :: _) _ _); refine wpList_load_blk rfl _ (.tmp 4) rfl g rfl _ cs1 K2 69 _ Tryd.underlying32 rfl size_ask HL ?_)
        | fail)
      refine (CP.out v2 M2.out).mono ?_
      rintro e v3 ⟨u3, rfl, ho3, L3⟩
      have K3 := Lib.hid (K2.out.over L3)
      have Q3 := Lib.hid (Q2.out.over L3)
      have M3 := Lib.hid (step M2.out L3)
      obtain ⟨A3, c3, rfl, hh3⟩ := ho3.holds HYB.out (by have := HYL.out; omega)
      have H3 := Lib.hid hh3
      obtain ⟨m3, hm3⟩ : ∃ m, m = ys.length := ⟨_, rfl⟩
      rw [← hm3] at H3 ⊢
      clear hh3 hm3 ho3 L3 K1 L1 Q2 L2 K2 M2
      go_wp2_with fail
      refine (CG.out v3 A3 m3 c3 H3.out).mono ?_
      rintro e v4 ⟨ds, rfl, hd, L4⟩
      have K4 := Lib.hid (K3.out.over L4)
      have Q4 := Lib.hid (Q3.out.over L4)
      have M4 := Lib.hid (step M3.out L4)
      have D4 := Lib.hid hd
      have DL := Lib.hid (hd.len GK.out)
      have DO := Lib.hid hd.one
      clear hd L4 K3 Q3 M3 H3
      go_wp2_with (first
        | ((with_reducible show wpList _ _ _ (⟨some 9, _, _, _, _, _⟩ :: _) _ _); refine wpList_alloc_blk rfl _ rfl nz _ ZH ?_; intro h5 v5 hg5 hg6 Z5 L5)
        | ((with_reducible show wpList _ _ _ (⟨none, .store _ (.tmp 9) _, _, _, _, _⟩ :: _) _ _); refine wpList_store_blk rfl _ (.tmp 9) (.tmp 25) rfl h5 rfl _ nz ds rfl Z5 69 size_ask HZ DL DO ?_; intro v6 X6 O6 hg7; have L6 := Lib.hid (below_only L5.out O6.out hg5); have M6 := Lib.hid (step M4.out L6.out); have K6 := Lib.hid (K4.out.over L6.out); have Q6 := Lib.hid (Q4.out.over L6.out); have D6 := Lib.hid (D4.out.over L6.out))
        | ((with_reducible show wpList _ _ _ (⟨some 33, _, _, _, _, _⟩ :: _) _ _); refine wpList_load_want (by kernel_rfl) _ (.tmp 9) rfl h5 rfl _ ds X6 69 _ Tryd.underlying32 rfl size_ask DL ?_)
        | ((with_reducible show wpList _ _ _ (⟨some 34, _, _, _, _, _⟩ :: _) _ _); refine wpList_load_want (by kernel_rfl) _ (.tmp 4) rfl g rfl _ cs1 K6 69 _ Tryd.underlying32 rfl size_ask HL ?_)
        | fail)
      refine (CQ.out v6 ds D6.out (HA.out.over M6.out)).mono ?_
      rintro e v7 ⟨rfl, L7⟩
      have Q7 := Lib.hid (Q6.out.over L7)
      have M7 := Lib.hid (step M6.out L7)
      clear L7 Q6 M6 K6 D6 X6 O6 L6 Z5 L5 K4 Q4 M4 D4
      go_wp2_with (first
        | ((with_reducible show wpList _ _ _ (⟨some 41, _, _, _, _, _⟩ :: _) _ _); refine wpList_load_blk rfl _ (.tmp 5) rfl h rfl _ cs2 Q7 20 _ Tryd.underlying45 rfl size_say SL ?_)
        | fail)
      refine (DP.out v7 M7.out).mono ?_
      rintro e v8 ⟨u8, rfl, ho8, L8⟩
      have Q8 := Lib.hid (Q7.out.over L8)
      have M8 := Lib.hid (step M7.out L8)
      obtain ⟨A8, c8, rfl, hh8⟩ := ho8.holds SYB.out (by have := SYL.out; omega)
      have H8 := Lib.hid hh8
      obtain ⟨m8, hm8⟩ : ∃ m, m = zs.length := ⟨_, rfl⟩
      rw [← hm8] at H8 ⊢
      clear hh8 hm8 ho8 L8 Q7 M7
      go_wp2_with fail
      refine (DG.out v8 A8 m8 c8 H8.out).mono ?_
      rintro e v9 ⟨es, rfl, hd9, L9⟩
      have Q9 := Lib.hid (Q8.out.over L9)
      have M9 := Lib.hid (step M8.out L9)
      have D9 := Lib.hid hd9
      have EL := Lib.hid (hd9.len TK.out)
      have EO := Lib.hid hd9.one
      clear hd9 L9 Q8 M8 H8
      go_wp2_with (first
        | ((with_reducible show wpList _ _ _ (⟨some 13, _, _, _, _, _⟩ :: _) _ _); refine wpList_alloc_blk rfl _ rfl nt _ ZS ?_; intro h10 v10 hg10 hg11 Z10 L10)
        | ((with_reducible show wpList _ _ _ (⟨none, .store _ (.tmp 13) _, _, _, _, _⟩ :: _) _ _); refine wpList_store_blk rfl _ (.tmp 13) (.tmp 49) rfl h10 rfl _ nt es rfl Z10 20 size_say SZ EL EO ?_; intro v11 X11 O11 hg12; have L11 := Lib.hid (below_only L10.out O11.out hg10); have M11 := Lib.hid (step M9.out L11.out); have Q11 := Lib.hid (Q9.out.over L11.out); have D11 := Lib.hid (D9.out.over L11.out))
        | ((with_reducible show wpList _ _ _ (⟨some 57, _, _, _, _, _⟩ :: _) _ _); refine wpList_load_want (by kernel_rfl) _ (.tmp 13) rfl h10 rfl _ es X11 20 _ Tryd.underlying45 rfl size_say EL ?_)
        | ((with_reducible show wpList _ _ _ (⟨some 58, _, _, _, _, _⟩ :: _) _ _); refine wpList_load_want (by kernel_rfl) _ (.tmp 5) rfl h rfl _ cs2 Q11 20 _ Tryd.underlying45 rfl size_say SL ?_)
        | fail)
      refine (DQ.out v11 es D11.out (SA.out.over M11.out)).mono ?_
      rintro e v12 ⟨rfl, L12⟩
      have M12 := Lib.hid (step M11.out L12)
      go_wp2_with fail
      refine (CL.out v12 (HT.out.below M12.out)).mono ?_
      rintro e v13 ⟨rfl, L13⟩
      go_wp2
      go_ret
      exact ⟨rfl, step M12.out L13⟩
    · clear FS
      go_enter Tryd.func6, Tryd.ntmps6
      go_wp2_with (first
        | ((with_reducible show wpList _ _ _ (⟨some 4, _, _, _, _, _⟩ :: _) _ _); refine wpList_box_blk rfl _ (.tmp 1) rfl cs1 rfl ?_; intro g v1 hg1 hg2 K1 L1)
        | ((with_reducible show wpList _ _ _ (⟨some 5, _, _, _, _, _⟩ :: _) _ _); refine wpList_box_blk rfl _ (.tmp 2) rfl cs2 rfl ?_; intro h v2 hh1 hh2 Q2 L2; have K2 := Lib.hid (K1.out.over L2.out); have M2 := Lib.hid (step L1.out L2.out))
        | ((with_reducible show wpList _ _ _ (⟨some 17, _, _, _, _, _⟩ :: _) _ _); refine wpList_load_blk rfl _ (.tmp 4) rfl g rfl _ cs1 K2 69 _ Tryd.underlying32 rfl size_ask HL ?_)
        | fail)
      refine (CP.out v2 M2.out).mono ?_
      rintro e v3 ⟨u3, rfl, ho3, L3⟩
      have K3 := Lib.hid (K2.out.over L3)
      have Q3 := Lib.hid (Q2.out.over L3)
      have M3 := Lib.hid (step M2.out L3)
      obtain ⟨A3, c3, rfl, hh3⟩ := ho3.holds HYB.out (by have := HYL.out; omega)
      have H3 := Lib.hid hh3
      obtain ⟨m3, hm3⟩ : ∃ m, m = ys.length := ⟨_, rfl⟩
      rw [← hm3] at H3 ⊢
      clear hh3 hm3 ho3 L3 K1 L1 Q2 L2 K2 M2
      go_wp2_with fail
      refine (CG.out v3 A3 m3 c3 H3.out).mono ?_
      rintro e v4 ⟨ds, rfl, hd, L4⟩
      have K4 := Lib.hid (K3.out.over L4)
      have Q4 := Lib.hid (Q3.out.over L4)
      have M4 := Lib.hid (step M3.out L4)
      have D4 := Lib.hid hd
      have DL := Lib.hid (hd.len GK.out)
      have DO := Lib.hid hd.one
      clear hd L4 K3 Q3 M3 H3
      go_wp2_with (first
        | ((with_reducible show wpList _ _ _ (⟨some 9, _, _, _, _, _⟩ :: _) _ _); refine wpList_alloc_blk rfl _ rfl nz _ ZH ?_; intro h5 v5 hg5 hg6 Z5 L5)
        | ((with_reducible show wpList _ _ _ (⟨none, .store _ (.tmp 9) _, _, _, _, _⟩ :: _) _ _); refine wpList_store_blk rfl _ (.tmp 9) (.tmp 25) rfl h5 rfl _ nz ds rfl Z5 69 size_ask HZ DL DO ?_; intro v6 X6 O6 hg7; have L6 := Lib.hid (below_only L5.out O6.out hg5); have M6 := Lib.hid (step M4.out L6.out); have K6 := Lib.hid (K4.out.over L6.out); have Q6 := Lib.hid (Q4.out.over L6.out); have D6 := Lib.hid (D4.out.over L6.out))
        | ((with_reducible show wpList _ _ _ (⟨some 33, _, _, _, _, _⟩ :: _) _ _); refine wpList_load_want (by kernel_rfl) _ (.tmp 9) rfl h5 rfl _ ds X6 69 _ Tryd.underlying32 rfl size_ask DL ?_)
        | ((with_reducible show wpList _ _ _ (⟨some 34, _, _, _, _, _⟩ :: _) _ _); refine wpList_load_want (by kernel_rfl) _ (.tmp 4) rfl g rfl _ cs1 K6 69 _ Tryd.underlying32 rfl size_ask HL ?_)
        | fail)
      refine (CQ.out v6 ds D6.out (HA.out.over M6.out)).mono ?_
      rintro e v7 ⟨rfl, L7⟩
      have Q7 := Lib.hid (Q6.out.over L7)
      have M7 := Lib.hid (step M6.out L7)
      clear L7 Q6 M6 K6 D6 X6 O6 L6 Z5 L5 K4 Q4 M4 D4
      go_wp2_with (first
        | ((with_reducible show wpList _ _ _ (⟨some 41, _, _, _, _, _⟩ :: _) _ _); refine wpList_load_blk rfl _ (.tmp 5) rfl h rfl _ cs2 Q7 20 _ Tryd.underlying45 rfl size_say SL ?_)
        | fail)
      refine (DP.out v7 M7.out).mono ?_
      rintro e v8 ⟨u8, rfl, ho8, L8⟩
      have Q8 := Lib.hid (Q7.out.over L8)
      have M8 := Lib.hid (step M7.out L8)
      obtain ⟨A8, c8, rfl, hh8⟩ := ho8.holds SYB.out (by have := SYL.out; omega)
      have H8 := Lib.hid hh8
      obtain ⟨m8, hm8⟩ : ∃ m, m = zs.length := ⟨_, rfl⟩
      rw [← hm8] at H8 ⊢
      clear hh8 hm8 ho8 L8 Q7 M7
      go_wp2_with fail
      refine (DG.out v8 A8 m8 c8 H8.out).mono ?_
      rintro e v9 ⟨es, rfl, hd9, L9⟩
      have Q9 := Lib.hid (Q8.out.over L9)
      have M9 := Lib.hid (step M8.out L9)
      have D9 := Lib.hid hd9
      have EL := Lib.hid (hd9.len TK.out)
      have EO := Lib.hid hd9.one
      clear hd9 L9 Q8 M8 H8
      go_wp2_with (first
        | ((with_reducible show wpList _ _ _ (⟨some 13, _, _, _, _, _⟩ :: _) _ _); refine wpList_alloc_blk rfl _ rfl nt _ ZS ?_; intro h10 v10 hg10 hg11 Z10 L10)
        | ((with_reducible show wpList _ _ _ (⟨none, .store _ (.tmp 13) _, _, _, _, _⟩ :: _) _ _); refine wpList_store_blk rfl _ (.tmp 13) (.tmp 49) rfl h10 rfl _ nt es rfl Z10 20 size_say SZ EL EO ?_; intro v11 X11 O11 hg12; have L11 := Lib.hid (below_only L10.out O11.out hg10); have M11 := Lib.hid (step M9.out L11.out); have Q11 := Lib.hid (Q9.out.over L11.out); have D11 := Lib.hid (D9.out.over L11.out))
        | fail)
      have M12 := M11
      refine (CL.out v11 (HT.out.below M12.out)).mono ?_
      rintro e v13 ⟨rfl, L13⟩
      go_wp2
      go_ret
      exact ⟨rfl, step M12.out L13⟩
  · clear FB
    by_cases hf : fs = 0
    · obtain ⟨rfl, rfl⟩ := FS hf
      subst hf
      go_enter Tryd.func6, Tryd.ntmps6
      go_wp2_with (first
        | ((with_reducible show wpList _ _ _ (⟨some 4, _, _, _, _, _⟩ :: _) _ _); refine wpList_box_blk rfl _ (.tmp 1) rfl cs1 rfl ?_; intro g v1 hg1 hg2 K1 L1)
        | ((with_reducible show wpList _ _ _ (⟨some 5, _, _, _, _, _⟩ :: _) _ _); refine wpList_box_blk rfl _ (.tmp 2) rfl cs2 rfl ?_; intro h v2 hh1 hh2 Q2 L2; have K2 := Lib.hid (K1.out.over L2.out); have M2 := Lib.hid (step L1.out L2.out))
        | ((with_reducible show wpList _ _ _ (⟨some 17, _, _, _, _, _⟩ :: _) _ _); refine wpList_load_blk rfl _ (.tmp 4) rfl g rfl _ cs1 K2 69 _ Tryd.underlying32 rfl size_ask HL ?_)
        | fail)
      refine (CP.out v2 M2.out).mono ?_
      rintro e v3 ⟨u3, rfl, ho3, L3⟩
      have K3 := Lib.hid (K2.out.over L3)
      have Q3 := Lib.hid (Q2.out.over L3)
      have M3 := Lib.hid (step M2.out L3)
      obtain ⟨A3, c3, rfl, hh3⟩ := ho3.holds HYB.out (by have := HYL.out; omega)
      have H3 := Lib.hid hh3
      obtain ⟨m3, hm3⟩ : ∃ m, m = ys.length := ⟨_, rfl⟩
      rw [← hm3] at H3 ⊢
      clear hh3 hm3 ho3 L3 K1 L1 Q2 L2 K2 M2
      go_wp2_with fail
      refine (CG.out v3 A3 m3 c3 H3.out).mono ?_
      rintro e v4 ⟨ds, rfl, hd, L4⟩
      have K4 := Lib.hid (K3.out.over L4)
      have Q4 := Lib.hid (Q3.out.over L4)
      have M4 := Lib.hid (step M3.out L4)
      have D4 := Lib.hid hd
      have DL := Lib.hid (hd.len GK.out)
      have DO := Lib.hid hd.one
      clear hd L4 K3 Q3 M3 H3
      go_wp2_with (first
        | ((with_reducible show wpList _ _ _ (⟨some 9, _, _, _, _, _⟩ :: _) _ _); refine wpList_alloc_blk rfl _ rfl nz _ ZH ?_; intro h5 v5 hg5 hg6 Z5 L5)
        | ((with_reducible show wpList _ _ _ (⟨none, .store _ (.tmp 9) _, _, _, _, _⟩ :: _) _ _); refine wpList_store_blk rfl _ (.tmp 9) (.tmp 25) rfl h5 rfl _ nz ds rfl Z5 69 size_ask HZ DL DO ?_; intro v6 X6 O6 hg7; have L6 := Lib.hid (below_only L5.out O6.out hg5); have M6 := Lib.hid (step M4.out L6.out); have K6 := Lib.hid (K4.out.over L6.out); have Q6 := Lib.hid (Q4.out.over L6.out); have D6 := Lib.hid (D4.out.over L6.out))
        | ((with_reducible show wpList _ _ _ (⟨some 41, _, _, _, _, _⟩ :: _) _ _); refine wpList_load_blk rfl _ (.tmp 5) rfl h rfl _ cs2 Q6 20 _ Tryd.underlying45 rfl size_say SL ?_)
        | fail)
      refine (DP.out v6 M6.out).mono ?_
      rintro e v8 ⟨u8, rfl, ho8, L8⟩
      have Q8 := Lib.hid (Q6.out.over L8)
      have M8 := Lib.hid (step M6.out L8)
      obtain ⟨A8, c8, rfl, hh8⟩ := ho8.holds SYB.out (by have := SYL.out; omega)
      have H8 := Lib.hid hh8
      obtain ⟨m8, hm8⟩ : ∃ m, m = zs.length := ⟨_, rfl⟩
      rw [← hm8] at H8 ⊢
      clear hh8 hm8 ho8 L8 Q6 M6
      go_wp2_with fail
      refine (DG.out v8 A8 m8 c8 H8.out).mono ?_
      rintro e v9 ⟨es, rfl, hd9, L9⟩
      have Q9 := Lib.hid (Q8.out.over L9)
      have M9 := Lib.hid (step M8.out L9)
      have D9 := Lib.hid hd9
      have EL := Lib.hid (hd9.len TK.out)
      have EO := Lib.hid hd9.one
      clear hd9 L9 Q8 M8 H8
      go_wp2_with (first
        | ((with_reducible show wpList _ _ _ (⟨some 13, _, _, _, _, _⟩ :: _) _ _); refine wpList_alloc_blk rfl _ rfl nt _ ZS ?_; intro h10 v10 hg10 hg11 Z10 L10)
        | ((with_reducible show wpList _ _ _ (⟨none, .store _ (.tmp 13) _, _, _, _, _⟩ :: _) _ _); refine wpList_store_blk rfl _ (.tmp 13) (.tmp 49) rfl h10 rfl _ nt es rfl Z10 20 size_say SZ EL EO ?_; intro v11 X11 O11 hg12; have L11 := Lib.hid (below_only L10.out O11.out hg10); have M11 := Lib.hid (step M9.out L11.out); have Q11 := Lib.hid (Q9.out.over L11.out); have D11 := Lib.hid (D9.out.over L11.out))
        | ((with_reducible show wpList _ _ _ (⟨some 57, _, _, _, _, _⟩ :: _) _ _); refine wpList_load_want (by kernel_rfl) _ (.tmp 13) rfl h10 rfl _ es X11 20 _ Tryd.underlying45 rfl size_say EL ?_)
        | ((with_reducible show wpList _ _ _ (⟨some 58, _, _, _, _, _⟩ :: _) _ _); refine wpList_load_want (by kernel_rfl) _ (.tmp 5) rfl h rfl _ cs2 Q11 20 _ Tryd.underlying45 rfl size_say SL ?_)
        | fail)
      refine (DQ.out v11 es D11.out (SA.out.over M11.out)).mono ?_
      rintro e v12 ⟨rfl, L12⟩
      have M12 := Lib.hid (step M11.out L12)
      go_wp2_with fail
      refine (CL.out v12 (HT.out.below M12.out)).mono ?_
      rintro e v13 ⟨rfl, L13⟩
      go_wp2
      go_ret
      exact ⟨rfl, step M12.out L13⟩
    · clear FS
      go_enter Tryd.func6, Tryd.ntmps6
      go_wp2_with (first
        | ((with_reducible show wpList _ _ _ (⟨some 4, _, _, _, _, _⟩ :: _) _ _); refine wpList_box_blk rfl _ (.tmp 1) rfl cs1 rfl ?_; intro g v1 hg1 hg2 K1 L1)
        | ((with_reducible show wpList _ _ _ (⟨some 5, _, _, _, _, _⟩ :: _) _ _); refine wpList_box_blk rfl _ (.tmp 2) rfl cs2 rfl ?_; intro h v2 hh1 hh2 Q2 L2; have K2 := Lib.hid (K1.out.over L2.out); have M2 := Lib.hid (step L1.out L2.out))
        | ((with_reducible show wpList _ _ _ (⟨some 17, _, _, _, _, _⟩ :: _) _ _); refine wpList_load_blk rfl _ (.tmp 4) rfl g rfl _ cs1 K2 69 _ Tryd.underlying32 rfl size_ask HL ?_)
        | fail)
      refine (CP.out v2 M2.out).mono ?_
      rintro e v3 ⟨u3, rfl, ho3, L3⟩
      have K3 := Lib.hid (K2.out.over L3)
      have Q3 := Lib.hid (Q2.out.over L3)
      have M3 := Lib.hid (step M2.out L3)
      obtain ⟨A3, c3, rfl, hh3⟩ := ho3.holds HYB.out (by have := HYL.out; omega)
      have H3 := Lib.hid hh3
      obtain ⟨m3, hm3⟩ : ∃ m, m = ys.length := ⟨_, rfl⟩
      rw [← hm3] at H3 ⊢
      clear hh3 hm3 ho3 L3 K1 L1 Q2 L2 K2 M2
      go_wp2_with fail
      refine (CG.out v3 A3 m3 c3 H3.out).mono ?_
      rintro e v4 ⟨ds, rfl, hd, L4⟩
      have K4 := Lib.hid (K3.out.over L4)
      have Q4 := Lib.hid (Q3.out.over L4)
      have M4 := Lib.hid (step M3.out L4)
      have D4 := Lib.hid hd
      have DL := Lib.hid (hd.len GK.out)
      have DO := Lib.hid hd.one
      clear hd L4 K3 Q3 M3 H3
      go_wp2_with (first
        | ((with_reducible show wpList _ _ _ (⟨some 9, _, _, _, _, _⟩ :: _) _ _); refine wpList_alloc_blk rfl _ rfl nz _ ZH ?_; intro h5 v5 hg5 hg6 Z5 L5)
        | ((with_reducible show wpList _ _ _ (⟨none, .store _ (.tmp 9) _, _, _, _, _⟩ :: _) _ _); refine wpList_store_blk rfl _ (.tmp 9) (.tmp 25) rfl h5 rfl _ nz ds rfl Z5 69 size_ask HZ DL DO ?_; intro v6 X6 O6 hg7; have L6 := Lib.hid (below_only L5.out O6.out hg5); have M6 := Lib.hid (step M4.out L6.out); have K6 := Lib.hid (K4.out.over L6.out); have Q6 := Lib.hid (Q4.out.over L6.out); have D6 := Lib.hid (D4.out.over L6.out))
        | ((with_reducible show wpList _ _ _ (⟨some 41, _, _, _, _, _⟩ :: _) _ _); refine wpList_load_blk rfl _ (.tmp 5) rfl h rfl _ cs2 Q6 20 _ Tryd.underlying45 rfl size_say SL ?_)
        | fail)
      refine (DP.out v6 M6.out).mono ?_
      rintro e v8 ⟨u8, rfl, ho8, L8⟩
      have Q8 := Lib.hid (Q6.out.over L8)
      have M8 := Lib.hid (step M6.out L8)
      obtain ⟨A8, c8, rfl, hh8⟩ := ho8.holds SYB.out (by have := SYL.out; omega)
      have H8 := Lib.hid hh8
      obtain ⟨m8, hm8⟩ : ∃ m, m = zs.length := ⟨_, rfl⟩
      rw [← hm8] at H8 ⊢
      clear hh8 hm8 ho8 L8 Q6 M6
      go_wp2_with fail
      refine (DG.out v8 A8 m8 c8 H8.out).mono ?_
      rintro e v9 ⟨es, rfl, hd9, L9⟩
      have Q9 := Lib.hid (Q8.out.over L9)
      have M9 := Lib.hid (step M8.out L9)
      have D9 := Lib.hid hd9
      have EL := Lib.hid (hd9.len TK.out)
      have EO := Lib.hid hd9.one
      clear hd9 L9 Q8 M8 H8
      go_wp2_with (first
        | ((with_reducible show wpList _ _ _ (⟨some 13, _, _, _, _, _⟩ :: _) _ _); refine wpList_alloc_blk rfl _ rfl nt _ ZS ?_; intro h10 v10 hg10 hg11 Z10 L10)
        | ((with_reducible show wpList _ _ _ (⟨none, .store _ (.tmp 13) _, _, _, _, _⟩ :: _) _ _); refine wpList_store_blk rfl _ (.tmp 13) (.tmp 49) rfl h10 rfl _ nt es rfl Z10 20 size_say SZ EL EO ?_; intro v11 X11 O11 hg12; have L11 := Lib.hid (below_only L10.out O11.out hg10); have M11 := Lib.hid (step M9.out L11.out); have Q11 := Lib.hid (Q9.out.over L11.out); have D11 := Lib.hid (D9.out.over L11.out))
        | fail)
      have M12 := M11
      refine (CL.out v11 (HT.out.below M12.out)).mono ?_
      rintro e v13 ⟨rfl, L13⟩
      go_wp2
      go_ret
      exact ⟨rfl, step M12.out L13⟩
end Go.Proofs.YtepkamkgodbffaaDoor
