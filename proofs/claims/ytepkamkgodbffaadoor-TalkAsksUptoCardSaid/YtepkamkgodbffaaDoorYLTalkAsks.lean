/-
  The walk of the statement TalkAsks: the body of any Ask, of any command, is the document's, or its error; what is handed in stays.
-/
import Derived.Test.YtepkamkgodbffaaDoorZD
import Derived.Test.YtepkamkgodbffaaDoorYRefT6
import Derived.Test.YtepkamkgodbffaaDoorYAskE
import Derived.Test.YtepkamkgodbffaaDoorZB
namespace Go.Proofs.YtepkamkgodbffaaDoor
open Go.RowKit
set_option linter.unusedVariables false
set_option maxRecDepth 100000

theorem askOfP_bytes {c : Int} {a : AskV} (k : a.ok) : Bytes (askOfP c a) := by
  unfold askOfP
  split
  · split
    · exact ((le_bytes _ _).append (dialsOf_bytes _)).append k.gbyte
    · split
      · exact k.pbyte.append (ptextOf_bytes _)
      · split
        · exact ptextOf_bytes _
        · exact Bytes.zeros 4
  · exact Bytes.nil
theorem askOfP_len {c : Int} {a : AskV} (k : a.ok) : (askOfP c a).length ≤ 1000 := by
  unfold askOfP
  split
  · rename_i he
    split
    · rename_i h0
      have hd : a.dial.length ≤ 16 := by
        unfold askErrP at he
        by_cases hk : knownT c = true ∧ besideAsk c a = zeroAsk
        · rw [if_pos hk, if_pos h0] at he
          by_cases hd : a.dial.length ≤ 16
          · exact hd
          · rw [if_neg hd] at he; exact absurd he (by decide)
        · rw [if_neg hk] at he; exact absurd he (by decide)
      unfold offerOf
      rw [List.length_append, List.length_append, le_length, dialsOf_len, k.glen]
      omega
    · split
      · have := rowOf_le a.user.data.toList
        rw [List.length_append, k.plen]
        omega
      · split
        · have := rowOf_le a.share.data.toList
          omega
        · simp
  · simp

set_option maxHeartbeats 4000000 in
theorem walk_TalkAsks (W : World) (hT : Tabs W) (a0 : Int) (w0 : 0 ≤ a0 ∧ a0 ≤ 65535) (cs1 : List Value) (a1 : AskV) (k1h : a1.ok) (h1h : AskIs W W.heap.size cs1 a1) (b1 : a1.dial.length ≤ 1048576 ∧ a1.data.length ≤ 1048576 ∧ a1.locks.length ≤ 1048576 ∧ a1.user.size ≤ 1048576 ∧ a1.share.size ≤ 1048576 ∧ a1.name.size ≤ 1048576 ∧ a1.pat.size ≤ 1048576 ∧ a1.aft.size ≤ 1048576) :
    Calls Tryd.prog 3 #[.int .u16 a0, .agg cs1.toArray] W fun e W' => e = .returned (.bool true) ∧ Below W.heap.size W W' := by
  have HT := Lib.hid hT
  have HL := Lib.hid (h1h.len k1h)
  have HA := Lib.hid h1h
  have ZH := Lib.hid zero_ask
  have HZ : Hid ((acells (.slice none 0 0) (.slice none 0 0) (.slice none 0 0) zeroAsk).length = 69) := acells_len zeroAsk_ok
  obtain ⟨b1a, b1b, b1c, b1d, b1e, _⟩ := b1
  have CC : Hid (∀ w : World, Below W.heap.size W w → Calls Tryd.prog 11 #[.agg cs1.toArray] w fun e w' => ∃ cs', e = .returned (.agg cs'.toArray) ∧ AskIs w' w'.heap.size cs' a1 ∧ Below w.heap.size w w') := fun w hb => CopyAsk_any w cs1 a1 k1h (h1h.over hb) ⟨by omega, by omega, by omega⟩
  have CP : Hid (∀ (w : World) (ds : List Value), AskIs w w.heap.size ds a1 → Tabs w → Calls Tryd.prog 12 #[.int .u16 a0, .agg ds.toArray] w fun e w' => ∃ v, e = .returned (.tuple #[v, .int .i64 (askErrP a0 a1)]) ∧ Own w' w.heap.size v (askOfP a0 a1) ∧ Below w.heap.size w w') := fun w ds hd hT => PutAsk_any w a0 ds a1 w0 k1h hd ⟨by omega, by omega⟩ hT
  have CR : Hid (∀ w : World, Below W.heap.size W w → Calls Tryd.prog 13 #[.int .u16 a0, .agg cs1.toArray] w fun e w' => ∃ v, e = .returned (.tuple #[v, .int .i64 (askErrP a0 a1)]) ∧ Own w' w.heap.size v (askOfP a0 a1) ∧ Below w.heap.size w w') := fun w hb => RPutAsk_any w a0 cs1 a1 w0 k1h (h1h.over hb) ⟨by omega, by omega, by omega⟩ ⟨by omega, by omega⟩
  have CS : Hid (∀ (w : World) (A A' : Option Addr) (n c n' c' : Nat) (ys : List Int), Holds w w.heap.size A n c ys → Holds w w.heap.size A' n' c' ys → Calls Tryd.prog 14 #[.slice A n c, .slice A' n' c'] w fun e w' => e = .returned (.bool true) ∧ ∃ k, w.drewN k = w') := fun w A A' n c n' c' ys h1 h2 => by
    have h3 := Same_any w _ _ _ _ _ _ _ _ ys ys h1 h2
    rwa [decide_eq_true rfl] at h3
  have CQ : Hid (∀ (w : World) (ds : List Value), AskIs w w.heap.size ds a1 → AskIs w w.heap.size cs1 a1 → Calls Tryd.prog 15 #[.agg ds.toArray, .agg cs1.toArray] w fun e w' => e = .returned (.bool true) ∧ Below w.heap.size w w') := fun w ds h1 h2 => by
    have h3 := Asks_any w ds cs1 a1 a1 k1h k1h h1 h2 ⟨by omega, by omega, by omega⟩ ⟨by omega, by omega, by omega⟩
    rwa [decide_eq_true rfl] at h3
  have CL : Hid (∀ w : World, Tabs w → Calls Tryd.prog 16 #[] w fun e w' => e = .returned (.bool true) ∧ Below w.heap.size w w') := lives_any
  have HYB := Lib.hid (askOfP_bytes (c := a0) k1h)
  have HYL := Lib.hid (askOfP_len (c := a0) k1h)
  obtain ⟨ys, hys⟩ : ∃ x, x = askOfP a0 a1 := ⟨_, rfl⟩
  obtain ⟨er, her⟩ : ∃ x, x = askErrP a0 a1 := ⟨_, rfl⟩
  rw [← hys, ← her] at CP CR
  rw [← hys] at HYB HYL
  obtain ⟨zs, hzs⟩ : ∃ x, x = acells (.slice none 0 0) (.slice none 0 0) (.slice none 0 0) zeroAsk := ⟨_, rfl⟩
  rw [← hzs] at ZH HZ
  clear hys her hzs hT h1h
  go_enter Tryd.func3, Tryd.ntmps3
  go_wp2_with (first
    | ((with_reducible show wpList _ _ _ (⟨some 3, _, _, _, _, _⟩ :: _) _ _); refine wpList_box_blk rfl _ (.tmp 1) rfl cs1 rfl ?_; intro g v1 hg1 hg2 K1 L1)
    | ((with_reducible show wpList _ _ _ (⟨some 10, _, _, _, _, _⟩ :: _) _ _); refine wpList_load_blk rfl _ (.tmp 3) rfl g rfl _ cs1 K1 69 _ Tryd.underlying32 rfl size_ask HL ?_)
    | fail)
  refine (CC.out v1 L1.out).mono ?_
  rintro e v2 ⟨ds, rfl, hd, L2⟩
  have HD := Lib.hid hd
  have HDL := Lib.hid (hd.len k1h)
  have HDO := Lib.hid hd.one
  have K2 := Lib.hid (K1.out.over L2)
  have M2 := Lib.hid (step L1.out L2)
  clear hd L2 K1 L1 CC
  go_wp2_with (first
    | ((with_reducible show wpList _ _ _ (⟨some 5, _, _, _, _, _⟩ :: _) _ _); refine wpList_alloc_blk rfl _ rfl zs _ ZH ?_; intro h v3 hg3 hg4 Z3 L3)
    | ((with_reducible show wpList _ _ _ (⟨none, .store _ (.tmp 5) _, _, _, _, _⟩ :: _) _ _); refine wpList_store_blk rfl _ (.tmp 5) (.tmp 11) rfl h rfl _ zs ds rfl Z3 69 size_ask HZ HDL HDO ?_; intro v4 X4 O4 hg5; have L4 := Lib.hid (below_only L3.out O4.out hg3); have M4 := Lib.hid (step M2.out L4.out); have K4 := Lib.hid (K2.out.over L4.out); have HD4 := Lib.hid (HD.out.over L4.out))
    | ((with_reducible show wpList _ _ _ (⟨some 14, _, _, _, _, _⟩ :: _) _ _); refine wpList_load_blk rfl _ (.tmp 5) rfl h rfl _ ds X4 69 _ Tryd.underlying32 rfl size_ask HDL ?_)
    | fail)
  refine (CP.out v4 ds HD4.out (HT.out.below M4.out)).mono ?_
  rintro e v5 ⟨u5, rfl, ho5, L5⟩
  have X5 := Lib.hid (X4.out.over L5)
  have K5 := Lib.hid (K4.out.over L5)
  have M5 := Lib.hid (step M4.out L5)
  have HD5 := Lib.hid (HD4.out.over L5)
  have O5 := Lib.hid ho5
  clear ho5 L5 X4 K4 M4 HD4 HD K2 M2 Z3 L3 L4 O4
  go_wp2_with (first
    | ((with_reducible show wpList _ _ _ (⟨some 20, _, _, _, _, _⟩ :: _) _ _); refine wpList_load_blk rfl _ (.tmp 3) rfl g rfl _ cs1 K5 69 _ Tryd.underlying32 rfl size_ask HL ?_)
    | fail)
  refine (CR.out v5 M5.out).mono ?_
  rintro e v6 ⟨u6, rfl, ho6, L6⟩
  have X6 := Lib.hid (X5.out.over L6)
  have K6 := Lib.hid (K5.out.over L6)
  have M6 := Lib.hid (step M5.out L6)
  have HD6 := Lib.hid (HD5.out.over L6)
  obtain ⟨A5, c5, rfl, hh5⟩ := (O5.out.below L6).holds HYB.out (by have := HYL.out; omega)
  obtain ⟨A6, c6, rfl, hh6⟩ := ho6.holds HYB.out (by have := HYL.out; omega)
  have D6 := Lib.hid (CS.out _ _ _ _ _ _ _ _ hh5 hh6)
  obtain ⟨m, hm⟩ : ∃ m, m = ys.length := ⟨_, rfl⟩
  rw [← hm] at D6 ⊢
  clear ho6 L6 X5 K5 M5 HD5 O5 hh5 hh6 hm
  go_wp2_with fail
  refine D6.out.mono ?_
  rintro e v7 ⟨rfl, k7, rfl⟩
  obtain ⟨v7, hv7⟩ : ∃ v, v = v6.drewN k7 := ⟨_, rfl⟩
  have L7 : Below v6.heap.size v6 v7 := by rw [hv7]; exact drewed _ _
  have X7 := Lib.hid (X6.out.over L7)
  have K7 := Lib.hid (K6.out.over L7)
  have M7 := Lib.hid (step M6.out L7)
  have HD7 := Lib.hid (HD6.out.over L7)
  rw [← hv7]
  clear hv7 L7 X6 K6 M6 HD6 D6
  go_wp2_with (first
    | ((with_reducible show wpList _ _ _ (⟨some 33, _, _, _, _, _⟩ :: _) _ _); refine wpList_load_want (by kernel_rfl) _ (.tmp 5) rfl h rfl _ ds X7 69 _ Tryd.underlying32 rfl size_ask HDL ?_)
    | ((with_reducible show wpList _ _ _ (⟨some 34, _, _, _, _, _⟩ :: _) _ _); refine wpList_load_want (by kernel_rfl) _ (.tmp 3) rfl g rfl _ cs1 K7 69 _ Tryd.underlying32 rfl size_ask HL ?_)
    | fail)
  refine (CQ.out v7 ds HD7.out (HA.out.over M7.out)).mono ?_
  rintro e v8 ⟨rfl, L8⟩
  have M8 := Lib.hid (step M7.out L8)
  clear L8 X7 K7 HD7 M7
  go_wp2_with fail
  refine (CL.out _ (HT.out.below M8.out)).mono ?_
  rintro e v9 ⟨rfl, L9⟩
  go_wp2
  go_ret
  exact ⟨rfl, step M8.out L9⟩
end Go.Proofs.YtepkamkgodbffaaDoor
