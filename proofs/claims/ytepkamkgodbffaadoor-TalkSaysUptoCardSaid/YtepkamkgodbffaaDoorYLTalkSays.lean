/-
  The walk of the statement TalkSays: the body of any Say, of any command, is the document's, or its error; what is handed in stays.
-/
import Derived.Test.YtepkamkgodbffaaDoorZD
import Derived.Test.YtepkamkgodbffaaDoorYRefT5
import Derived.Test.YtepkamkgodbffaaDoorYAskF
import Derived.Test.YtepkamkgodbffaaDoorYAskG
namespace Go.Proofs.YtepkamkgodbffaaDoor
open Go.RowKit
set_option linter.unusedVariables false
set_option maxRecDepth 100000

theorem sayOfP_bytes {c : Int} {a : SayV} (k : a.ok) : Bytes (sayOfP c a) := by
  unfold sayOfP
  split
  · split
    · exact (((le_bytes _ _).append (Bytes.zeros 2)).append (le_bytes _ _)).append k.cbyte
    · exact Bytes.zeros 4
  · exact Bytes.nil
theorem sayOfP_len {c : Int} {a : SayV} (k : a.ok) : (sayOfP c a).length ≤ 1000 := by
  unfold sayOfP
  split
  · split
    · simp only [List.length_append, le_length, List.length_replicate, k.clen]; omega
    · simp
  · simp
/-- what is not named is zero: said in the program's way, and in the document's -/
theorem besideSay_want (c : Int) (a : SayV) : besideSay c a = zeroSay ↔ wantSay c a = a := by
  obtain ⟨a1, a2, a3, a4, a5, a6, a7, a8, a9, a10, a11, a12, a13⟩ := a
  unfold besideSay wantSay
  by_cases h0 : c = 0
  · rw [if_pos h0, if_pos h0]
    simp only [zeroSay, SayV.mk.injEq]
    constructor <;> (intro h; obtain ⟨h1, h2, h3, h4, h5, h6, h7, h8, h9, h10, h11, h12, h13⟩ := h; subst_vars; simp)
  · rw [if_neg h0, if_neg h0]
    exact eq_comm
theorem sayErrT_P {c : Int} {a : SayV} : sayErrT c a = sayErrP c a := by
  unfold sayErrT sayErrP
  by_cases h : knownT c = true ∧ wantSay c a = a
  · obtain ⟨h1, h2⟩ := h
    have h3 := (besideSay_want c a).2 h2
    by_cases h0 : c = 0
    · by_cases hs : a.siz < 4294967296
      · rw [if_pos ⟨h1, h2, hs⟩, if_pos ⟨h1, h3, fun _ => hs⟩]
      · rw [if_neg (fun h => hs h.2.2), if_neg (fun h => hs (h.2.2 h0))]
    · have hs : a.siz < 4294967296 := by
        unfold wantSay at h2
        rw [if_neg h0] at h2
        rw [← h2]
        decide
      rw [if_pos ⟨h1, h2, hs⟩, if_pos ⟨h1, h3, fun h => absurd h h0⟩]
  · rw [if_neg (fun q => h ⟨q.1, q.2.1⟩), if_neg (fun q => h ⟨q.1, (besideSay_want c a).1 q.2.1⟩)]
theorem sayOfT_P {c : Int} {a : SayV} : sayOfT c a = sayOfP c a := by
  unfold sayOfT sayOfP
  rw [sayErrT_P]
  rfl

set_option maxHeartbeats 4000000 in
theorem walk_TalkSays (W : World) (hT : Tabs W) (a0 : Int) (w0 : 0 ≤ a0 ∧ a0 ≤ 65535) (cs1 : List Value) (a1 : SayV) (k1h : a1.ok) (h1h : SayIs W W.heap.size cs1 a1) (b1 : a1.data.length ≤ 1048576 ∧ a1.ents.length ≤ 1048576) :
    Calls Tryd.prog 4 #[.int .u16 a0, .agg cs1.toArray] W fun e W' => e = .returned (.bool true) ∧ Below W.heap.size W W' := by
  have HT := Lib.hid hT
  have HL := Lib.hid (h1h.len k1h)
  have HA := Lib.hid h1h
  have ZH := Lib.hid zero_say
  have HZ : Hid ((scells (.slice none 0 0) (.slice none 0 0) zeroSay).length = 20) := scells_len zeroSay_ok
  obtain ⟨b1b, b1c⟩ := b1
  have CC : Hid (∀ w : World, Below W.heap.size W w → Calls Tryd.prog 17 #[.agg cs1.toArray] w fun e w' => ∃ cs', e = .returned (.agg cs'.toArray) ∧ SayIs w' w'.heap.size cs' a1 ∧ Below w.heap.size w w') := fun w hb => CopySay_any w cs1 a1 k1h (h1h.over hb) ⟨by omega, by omega⟩
  have CP : Hid (∀ (w : World) (ds : List Value), SayIs w w.heap.size ds a1 → Calls Tryd.prog 18 #[.int .u16 a0, .agg ds.toArray] w fun e w' => ∃ v, e = .returned (.tuple #[v, .int .i64 (sayErrP a0 a1)]) ∧ Own w' w.heap.size v (sayOfP a0 a1) ∧ Below w.heap.size w w') := fun w ds hd => PutSay_any w a0 ds a1 w0 k1h hd
  have CR : Hid (∀ w : World, Below W.heap.size W w → Calls Tryd.prog 19 #[.int .u16 a0, .agg cs1.toArray] w fun e w' => ∃ v, e = .returned (.tuple #[v, .int .i64 (sayErrP a0 a1)]) ∧ Own w' w.heap.size v (sayOfP a0 a1) ∧ Below w.heap.size w w') := fun w hb => by
    have h := RPutSay_any w cs1 a0 a1 w0 k1h (h1h.over hb) ⟨by omega, by omega⟩
    unfold RPutSayPost at h
    rwa [sayErrT_P, sayOfT_P] at h
  have CS : Hid (∀ (w : World) (A A' : Option Addr) (n c n' c' : Nat) (ys : List Int), Holds w w.heap.size A n c ys → Holds w w.heap.size A' n' c' ys → Calls Tryd.prog 14 #[.slice A n c, .slice A' n' c'] w fun e w' => e = .returned (.bool true) ∧ ∃ k, w.drewN k = w') := fun w A A' n c n' c' ys h1 h2 => by
    have h3 := Same_any w _ _ _ _ _ _ _ _ ys ys h1 h2
    rwa [decide_eq_true rfl] at h3
  have CQ : Hid (∀ (w : World) (ds : List Value), SayIs w w.heap.size ds a1 → SayIs w w.heap.size cs1 a1 → Calls Tryd.prog 20 #[.agg ds.toArray, .agg cs1.toArray] w fun e w' => e = .returned (.bool true) ∧ Below w.heap.size w w') := fun w ds h1 h2 => by
    have h3 := Says_any w ds cs1 a1 a1 k1h k1h h1 h2 ⟨by omega, by omega⟩ ⟨by omega, by omega⟩
    rwa [decide_eq_true rfl] at h3
  have CL : Hid (∀ w : World, Tabs w → Calls Tryd.prog 16 #[] w fun e w' => e = .returned (.bool true) ∧ Below w.heap.size w w') := lives_any
  have HYB := Lib.hid (sayOfP_bytes (c := a0) k1h)
  have HYL := Lib.hid (sayOfP_len (c := a0) k1h)
  obtain ⟨ys, hys⟩ : ∃ x, x = sayOfP a0 a1 := ⟨_, rfl⟩
  obtain ⟨er, her⟩ : ∃ x, x = sayErrP a0 a1 := ⟨_, rfl⟩
  rw [← hys, ← her] at CP CR
  rw [← hys] at HYB HYL
  obtain ⟨zs, hzs⟩ : ∃ x, x = scells (.slice none 0 0) (.slice none 0 0) zeroSay := ⟨_, rfl⟩
  rw [← hzs] at ZH HZ
  clear hys her hzs hT h1h
  go_enter Tryd.func4, Tryd.ntmps4
  go_wp2_with (first
    | ((with_reducible show wpList _ _ _ (⟨some 3, _, _, _, _, _⟩ :: _) _ _); refine wpList_box_blk rfl _ (.tmp 1) rfl cs1 rfl ?_; intro g v1 hg1 hg2 K1 L1)
    | ((with_reducible show wpList _ _ _ (⟨some 10, _, _, _, _, _⟩ :: _) _ _); refine wpList_load_blk rfl _ (.tmp 3) rfl g rfl _ cs1 K1 20 _ Tryd.underlying45 rfl size_say HL ?_)
    | fail)
  refine (CC.out v1 L1.out).mono ?_
  rintro e v2 ⟨ds, rfl, hd, L2⟩
  have HD := Lib.hid hd
  have HDL := Lib.hid (hd.len k1h)
  have HDO := Lib.hid hd.one
  have K2 := Lib.hid (K1.out.over L2)
  have M2 := Lib.hid (step L1.out L2)
  clear hd L2 K1 L1 CC
  go_wp2_with (first
    | ((with_reducible show wpList _ _ _ (⟨some 5, _, _, _, _, _⟩ :: _) _ _); refine wpList_alloc_blk rfl _ rfl zs _ ZH ?_; intro h v3 hg3 hg4 Z3 L3)
    | ((with_reducible show wpList _ _ _ (⟨none, .store _ (.tmp 5) _, _, _, _, _⟩ :: _) _ _); refine wpList_store_blk rfl _ (.tmp 5) (.tmp 11) rfl h rfl _ zs ds rfl Z3 20 size_say HZ HDL HDO ?_; intro v4 X4 O4 hg5; have L4 := Lib.hid (below_only L3.out O4.out hg3); have M4 := Lib.hid (step M2.out L4.out); have K4 := Lib.hid (K2.out.over L4.out); have HD4 := Lib.hid (HD.out.over L4.out))
    | ((with_reducible show wpList _ _ _ (⟨some 14, _, _, _, _, _⟩ :: _) _ _); refine wpList_load_blk rfl _ (.tmp 5) rfl h rfl _ ds X4 20 _ Tryd.underlying45 rfl size_say HDL ?_)
    | fail)
  refine (CP.out v4 ds HD4.out).mono ?_
  rintro e v5 ⟨u5, rfl, ho5, L5⟩
  have X5 := Lib.hid (X4.out.over L5)
  have K5 := Lib.hid (K4.out.over L5)
  have M5 := Lib.hid (step M4.out L5)
  have HD5 := Lib.hid (HD4.out.over L5)
  have O5 := Lib.hid ho5
  clear ho5 L5 X4 K4 M4 HD4 HD K2 M2 Z3 L3 L4 O4
  go_wp2_with (first
    | ((with_reducible show wpList _ _ _ (⟨some 20, _, _, _, _, _⟩ :: _) _ _); refine wpList_load_blk rfl _ (.tmp 3) rfl g rfl _ cs1 K5 20 _ Tryd.underlying45 rfl size_say HL ?_)
    | fail)
  refine (CR.out v5 M5.out).mono ?_
  rintro e v6 ⟨u6, rfl, ho6, L6⟩
  have X6 := Lib.hid (X5.out.over L6)
  have K6 := Lib.hid (K5.out.over L6)
  have M6 := Lib.hid (step M5.out L6)
  have HD6 := Lib.hid (HD5.out.over L6)
  obtain ⟨A5, c5, rfl, hh5⟩ := (O5.out.below L6).holds HYB.out (by have := HYL.out; omega)
  obtain ⟨A6, c6, rfl, hh6⟩ := ho6.holds HYB.out (by have := HYL.out; omega)
  have D6 := Lib.hid (CS.out _ _ _ _ _ _ _ _ hh5 hh6)
  obtain ⟨m, hm⟩ : ∃ m, m = ys.length := ⟨_, rfl⟩
  rw [← hm] at D6 ⊢
  clear ho6 L6 X5 K5 M5 HD5 O5 hh5 hh6 hm
  go_wp2_with fail
  refine D6.out.mono ?_
  rintro e v7 ⟨rfl, k7, rfl⟩
  obtain ⟨v7, hv7⟩ : ∃ v, v = v6.drewN k7 := ⟨_, rfl⟩
  have L7 : Below v6.heap.size v6 v7 := by rw [hv7]; exact drewed _ _
  have X7 := Lib.hid (X6.out.over L7)
  have K7 := Lib.hid (K6.out.over L7)
  have M7 := Lib.hid (step M6.out L7)
  have HD7 := Lib.hid (HD6.out.over L7)
  rw [← hv7]
  clear hv7 L7 X6 K6 M6 HD6 D6
  go_wp2_with (first
    | ((with_reducible show wpList _ _ _ (⟨some 33, _, _, _, _, _⟩ :: _) _ _); refine wpList_load_want (by kernel_rfl) _ (.tmp 5) rfl h rfl _ ds X7 20 _ Tryd.underlying45 rfl size_say HDL ?_)
    | ((with_reducible show wpList _ _ _ (⟨some 34, _, _, _, _, _⟩ :: _) _ _); refine wpList_load_want (by kernel_rfl) _ (.tmp 3) rfl g rfl _ cs1 K7 20 _ Tryd.underlying45 rfl size_say HL ?_)
    | fail)
  refine (CQ.out v7 ds HD7.out (HA.out.over M7.out)).mono ?_
  rintro e v8 ⟨rfl, L8⟩
  have M8 := Lib.hid (step M7.out L8)
  clear L8 X7 K7 HD7 M7
  go_wp2_with fail
  refine (CL.out _ (HT.out.below M8.out)).mono ?_
  rintro e v9 ⟨rfl, L9⟩
  go_wp2
  go_ret
  exact ⟨rfl, step M8.out L9⟩
end Go.Proofs.YtepkamkgodbffaaDoor
