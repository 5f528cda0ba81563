import Derived.WalkKit
import Derived.Deep.Draws
import Derived.Laws.Rows
import Derived.Laws.OwnMore
import Derived.Test.YtbbjmmooemmeiaaDoorRows
import Derived.WalkSpells
import Derived.WalkLawsBesides
import Derived.Deep.QuietTactic
import Derived.BigQuiet
import Derived.Lib.Hide
import Derived.Laws.CopyOwn
import Derived.Laws.AppendOwnNone
import Derived.Laws.Tables
import Derived.Laws.NewFold
import Derived.Deep.WholeRow
import Derived.Deep.MidRow
import Derived.Great.Walk
import Derived.Lib.RuneBytes
import Derived.Lib.ValidLaws
import Derived.Laws.AppendOwn
import Derived.OwnWalk
import Derived.Lib.OthersKept
import Derived.Laws.BytesArg
import Derived.Shelf.Utf8.AppendRunePlain
import Derived.Shelf.Unicode.ValidAny
import Derived.Test.YtbbjmmooemmeiaaDoorProg
import Derived.Laws.Bits64
import Derived.Laws.BitsAllLaws
import Derived.ProofKit
import Derived.OpenShut
import Derived.ShutString
import Derived.SizedLaws
import Derived.ChangeOld
import Derived.Lib.AppendZeros
import Derived.Deep.RegionWith
import Derived.Deep.DeepCutAuto
import Derived.OneCell
import Derived.Deep.Strs
import Derived.OrdersHeld
import Derived.Laws.StructEq
import Derived.ChangeKeysEq
import Derived.Deep.RegionLaw
import Derived.Deep.OwnRows
import Derived.Test.YtbbjmmooemmeiaaDoorWAD
import Derived.Test.YtbbjmmooemmeiaaDoorWAE
import Derived.Test.YtbbjmmooemmeiaaDoorWAF
import Derived.Test.YtbbjmmooemmeiaaDoorWAG
import Derived.Test.YtbbjmmooemmeiaaDoorWAH
import Derived.Test.YtbbjmmooemmeiaaDoorWAI
import Derived.Test.YtbbjmmooemmeiaaDoorWAJ
import Derived.Test.YtbbjmmooemmeiaaDoorWAK
import Derived.Test.YtbbjmmooemmeiaaDoorWAM
import Derived.Test.YtbbjmmooemmeiaaDoorWAN
import Derived.Test.YtbbjmmooemmeiaaDoorWAO
import Derived.Test.YtbbjmmooemmeiaaDoorWAP
import Derived.Test.YtbbjmmooemmeiaaDoorWAQ
import Derived.Test.YtbbjmmooemmeiaaDoorWAR
import Derived.Test.YtbbjmmooemmeiaaDoorWAT
import Derived.Test.YtbbjmmooemmeiaaDoorWAW
import Derived.Test.YtbbjmmooemmeiaaDoorWAX
namespace Go.Proofs.YtbbjmmooemmeiaaDoor
set_option linter.all false
open Go.RowKit
theorem Own.holds_at {w : World} {base n c : Nat} {A : Option Addr} {xs : List Int} (h : Own w base (.slice A n c) xs) (hl : xs.length = n) (hx : Bytes xs) (hn : n ≤ 281474976710656) : Holds w w.heap.size A n c xs := by
  obtain ⟨A1, c1, e, hh⟩ := h.holds hx (by omega)
  rw [hl] at e hh
  injection e with e1 e2 e3
  subst e1
  subst e3
  exact hh
end Go.Proofs.YtbbjmmooemmeiaaDoor

namespace Go.Proofs.YtbbjmmooemmeiaaDoor
set_option linter.all false
set_option linter.unusedVariables false
set_option linter.unusedSimpArgs false
set_option maxRecDepth 100000
theorem jp_some {c : Int} {s : SayV} (he : jpErr c s = 0) : 1 ≤ (jpOf c s).length := by
  obtain ⟨_, _, _, _, _, _, hb⟩ := jp_parts he
  rw [hb]
  unfold bodyIS
  repeat' split
  all_goals (simp only [List.length_append, le_length, List.length_replicate]; omega)
end Go.Proofs.YtbbjmmooemmeiaaDoor

namespace Go.Proofs.YtbbjmmooemmeiaaDoor
set_option linter.all false
open Go.RowKit
set_option linter.unusedVariables false
set_option maxRecDepth 100000
set_option maxHeartbeats 400000 in
theorem SpoilB_only (w : World) (g n m N : Nat) (xs : List Int) (hn : n = xs.length) (hN : N = xs.length + m) (hm : N ≤ maxLen) (by_ : Int) (h0 : 0 ≤ by_ ∧ by_ ≤ 255) (hr : Row w g (xs ++ List.replicate m 0)) :
    Calls Tryd.prog 27 #[.slice (some ⟨g, 0, none⟩) n N, .int .u8 by_] w fun e w' => e = .returned (.tuple #[]) ∧ Only g w w' := by
  obtain ⟨h00, h01⟩ := h0
  have hnN : n ≤ N := by omega
  have hm63 : N ≤ 9223372036854775807 := by rw [maxLen_eq] at hm; exact hm
  have HL : Hid ((xs ++ List.replicate m 0).length = N) := by show _ = _; rw [List.length_append, List.length_replicate, hN]
  have HR : Hid (Row w g (xs ++ List.replicate m 0)) := hr
  clear hr hn hN hm
  go_enter Tryd.func27, Tryd.ntmps27
  go_wp2
  go_loopw [4] (fun i wr => ∃ k : Nat, k ≤ N ∧ i = .int .i64 k ∧ (∃ ys : List Int, Hid (ys.length = N) ∧ Hid (Row wr g ys)) ∧ Hid (Only g w wr)) (fun i _ => N - (intOf i).toNat)
  case atStart => exact ⟨0, Nat.zero_le _, rfl, ⟨_, HL, HR⟩, Only.refl _ _⟩
  case round =>
    obtain ⟨k, hk, rfl, ⟨ys, HY, hR⟩, hb⟩ := hrel
    by_cases hlt : k < N
    · have hc := hR.out.cell (i := k) (by have := HY.out; omega)
      have hz := hR.out.frozen k
      obtain ⟨old, hold⟩ : ∃ old, old = ys.getD k 0 := ⟨_, rfl⟩
      rw [← hold] at hc
      clear hold
      go_wp2
      go_roundw
      case rel => exact ⟨k + 1, by omega, by go_num, ⟨_, (by show _ = _; rw [List.length_set]; exact HY.out), hR.out.set k _⟩, hb.out.setCell _ _⟩
      case measure => simp [intOf]; omega
    · go_wp2
      go_end0
      exact ⟨rfl, hb.out⟩
set_option maxHeartbeats 400000 in
theorem Spoil_nil (w : World) (by_ : Int) (h0 : 0 ≤ by_ ∧ by_ ≤ 255) :
    Calls Tryd.prog 27 #[.slice none 0 0, .int .u8 by_] w fun e w' => e = .returned (.tuple #[]) ∧ Below w.heap.size w w' := by
  obtain ⟨h00, h01⟩ := h0
  go_enter Tryd.func27, Tryd.ntmps27
  go_wp2
  go_loop [4] (fun i => i = .int .i64 0) (fun _ => 0)
  case atStart => exact rfl
  case round =>
    subst hrel
    go_wp2
    go_end0
    exact ⟨rfl, Below.refl _ _⟩
end Go.Proofs.YtbbjmmooemmeiaaDoor

namespace Go.Proofs.YtbbjmmooemmeiaaDoor
set_option linter.all false
open Go.RowKit
set_option linter.unusedVariables false
set_option maxRecDepth 100000
theorem own_parts {w : World} {base : Nat} {v : Value} {ys : List Int} (h : OwnZ .u8 5 w base v ys) (hb : Bytes ys) (hl : ys.length ≤ 281474976710656) (h1 : 1 ≤ ys.length) :
    ∃ g m, v = .slice (some ⟨g, 0, none⟩) ys.length (ys.length + m) ∧ base ≤ g ∧ ys.length + m ≤ maxLen ∧ Row w g (ys ++ List.replicate m 0) ∧ Holds w w.heap.size (some ⟨g, 0, none⟩) ys.length (ys.length + m) ys := by
  obtain ⟨A, c, e, hh⟩ := h.holds8 hb hl
  rcases h with ⟨rfl, rfl⟩ | ⟨g, m, rfl, hg, hm, hr⟩
  · exact absurd h1 (by decide)
  · simp only [Value.slice.injEq] at e
    obtain ⟨e1, _, e2⟩ := e
    subst e1 e2
    exact ⟨g, m, rfl, hg, hm, hr, hh⟩
set_option maxHeartbeats 2000000 in
theorem walk_InfoFresh (W : World) (hT : Tabs W) (a0 : Int) (w0 : 0 ≤ a0 ∧ a0 ≤ 65535) (cs1 : List Value) (a1 : AskV) (k1h : a1.ok) (h1h : AskIs W W.heap.size cs1 a1) (b1 : a1.dial.length ≤ 1048576 ∧ a1.data.length ≤ 1048576 ∧ a1.locks.length ≤ 1048576 ∧ a1.user.size ≤ 1048576 ∧ a1.share.size ≤ 1048576 ∧ a1.name.size ≤ 1048576 ∧ a1.pat.size ≤ 1048576 ∧ a1.aft.size ≤ 1048576)
    (cs2 : List Value) (a2 : SayV) (k2h : a2.ok) (h2h : SayIs W W.heap.size cs2 a2) (b2 : a2.data.length ≤ 1048576 ∧ a2.ents.length ≤ 1048576 ∧ ∀ e ∈ a2.ents, e.name.size ≤ 1048576) :
    Calls Tryd.prog 9 #[.int .u16 a0, .agg cs1.toArray, .agg cs2.toArray] W fun e W' => e = .returned (.bool true) ∧ Below W.heap.size W W' := by
  have HT := Lib.hid hT
  have HL := Lib.hid (h1h.len k1h)
  have HA := Lib.hid h1h
  have ZH := Lib.hid zero_ask
  have HZ : Hid ((acells (.slice none 0 0) (.slice none 0 0) (.slice none 0 0) zeroAsk).length = 69) := acells_len zeroAsk_ok
  have SL := Lib.hid (h2h.len k2h)
  have SA := Lib.hid h2h
  have ZS := Lib.hid zero_say
  have SZ : Hid ((scells (.slice none 0 0) (.slice none 0 0) zeroSay).length = 20) := scells_len zeroSay_ok
  have KA := Lib.hid k1h
  have KS := Lib.hid k2h
  obtain ⟨b1a, b1b, b1c, b1d, b1e, b1f, b1g, b1h⟩ := b1
  obtain ⟨b2b, b2c, b2n⟩ := b2
  have HYB := Lib.hid (ip_bytes (c := a0) k1h)
  have HYL := Lib.hid (ip_len (c := a0) (a := a1))
  have SYB := Lib.hid (jp_bytes (c := a0) k2h)
  have SYL := Lib.hid (jp_len (c := a0) (a := a2))
  have F1 := fun he => ip_some (c := a0) (a := a1) he
  have F2 := fun he => jp_some (c := a0) (s := a2) he
  have CC : Hid (∀ w : World, Below W.heap.size W w → Calls Tryd.prog 10 #[.agg cs1.toArray] w fun e w' => ∃ cs', e = .returned (.agg cs'.toArray) ∧ AskIs w' w'.heap.size cs' a1 ∧ Below w.heap.size w w') := fun w hb => CopyAsk_any w cs1 a1 k1h (h1h.over hb) ⟨by omega, by omega, by omega⟩
  have DC : Hid (∀ w : World, Below W.heap.size W w → Calls Tryd.prog 16 #[.agg cs2.toArray] w fun e w' => ∃ cs', e = .returned (.agg cs'.toArray) ∧ SayIs w' w'.heap.size cs' a2 ∧ Below w.heap.size w w') := fun w hb => CopySay_any w cs2 a2 k2h (h2h.over hb) ⟨by omega, by omega⟩
  have CP : Hid (∀ (w : World) (ds : List Value), AskIs w w.heap.size ds a1 → Tabs w → Calls Tryd.prog 11 #[.int .u16 a0, .agg ds.toArray] w fun e w' => ∃ v, e = .returned (.tuple #[v, .int .i64 (ipErr a0 a1)]) ∧ OwnZ .u8 5 w' w.heap.size v (ipOf a0 a1) ∧ Below w.heap.size w w') := fun w ds hd hT => IPutAsk_any w a0 ds a1 w0 k1h hd ⟨by omega, by omega⟩ ⟨by omega, by omega, by omega⟩ hT
  have DP : Hid (∀ (w : World) (ds : List Value), SayIs w w.heap.size ds a2 → Tabs w → Calls Tryd.prog 17 #[.int .u16 a0, .agg ds.toArray] w fun e w' => ∃ v, e = .returned (.tuple #[v, .int .i64 (jpErr a0 a2)]) ∧ OwnZ .u8 5 w' w.heap.size v (jpOf a0 a2) ∧ Below w.heap.size w w') := fun w ds hd hT => IPutSay_any w a0 ds a2 w0 k2h hd ⟨by omega, fun e he => by have := b2n e he; omega⟩ hT
  have CG : Hid (∀ (w : World) (A : Option Addr) (n c : Nat) (xs : List Int), Holds w w.heap.size A n c xs → Calls Tryd.prog 21 #[.int .u16 a0, .slice A n c] w fun e w' => ∃ (cs : List Value) (er : Int), e = .returned (.tuple #[.agg cs.toArray, .int .i64 er]) ∧ cs.length = 69 ∧ (∀ v ∈ cs, v.oneCell' = true) ∧ cs[61]? = some (.slice none 0 0) ∧ Below w.heap.size w w') := fun w A n c xs hh => (IGetAsk_any w a0 A n c xs w0 hh).mono fun e w' ⟨ds, h1, h2, h4, h3⟩ => ⟨_, _, h1, h2.len (igOf_ok a0 hh.byte), h2.one, h4, h3⟩
  have DG : Hid (∀ (w : World) (A : Option Addr) (n c : Nat) (xs : List Int), Holds w w.heap.size A n c xs → Calls Tryd.prog 23 #[.int .u16 a0, .slice A n c] w fun e w' => ∃ (cs : List Value) (er : Int), e = .returned (.tuple #[.agg cs.toArray, .int .i64 er]) ∧ cs.length = 20 ∧ (∀ v ∈ cs, v.oneCell' = true) ∧ cs[15]? = some (.slice none 0 0) ∧ Below w.heap.size w w') := fun w A n c xs hh => (IGetSay_any w a0 A n c xs w0 hh).mono fun e w' ⟨ds, h1, h2, h4, h3⟩ => ⟨_, _, h1, h2.len (jgOf_ok a0 hh.byte), h2.one, h4, h3⟩
  have CQ : Hid (∀ (w : World) (ds : List Value), AskIs w w.heap.size ds a1 → AskIs w w.heap.size cs1 a1 → Calls Tryd.prog 14 #[.agg ds.toArray, .agg cs1.toArray] w fun e w' => e = .returned (.bool true) ∧ Below w.heap.size w w') := fun w ds h1 h2 => by
    have h3 := Asks_any w ds cs1 a1 a1 k1h k1h h1 h2 ⟨by omega, by omega, by omega⟩ ⟨by omega, by omega, by omega⟩
    rwa [decide_eq_true rfl] at h3
  have DQ : Hid (∀ (w : World) (ds : List Value), SayIs w w.heap.size ds a2 → SayIs w w.heap.size cs2 a2 → Calls Tryd.prog 19 #[.agg ds.toArray, .agg cs2.toArray] w fun e w' => e = .returned (.bool true) ∧ Below w.heap.size w w') := fun w ds h1 h2 => by
    have h3 := Says_any w ds cs2 a2 a2 k2h k2h h1 h2 ⟨by omega, by omega⟩ ⟨by omega, by omega⟩
    rwa [decide_eq_true rfl] at h3
  have CS : Hid (∀ (w : World) (A A' : Option Addr) (n c n' c' : Nat) (xs : List Int), Holds w w.heap.size A n c xs → Holds w w.heap.size A' n' c' xs → Calls Tryd.prog 13 #[.slice A n c, .slice A' n' c'] w fun e w' => e = .returned (.bool true) ∧ ∃ k, w.drewN k = w') := fun w A A' n c n' c' xs h1 h2 => by
    have h3 := Same_any w _ _ _ _ _ _ _ _ xs xs h1 h2
    rwa [decide_eq_true rfl] at h3
  have CL : Hid (∀ w : World, Tabs w → Calls Tryd.prog 15 #[] w fun e w' => e = .returned (.bool true) ∧ Below w.heap.size w w') := ilives_any
  obtain ⟨er, her⟩ : ∃ x, x = ipErr a0 a1 := ⟨_, rfl⟩
  obtain ⟨ys, hys⟩ : ∃ x, x = ipOf a0 a1 := ⟨_, rfl⟩
  obtain ⟨fs, hfs⟩ : ∃ x, x = jpErr a0 a2 := ⟨_, rfl⟩
  obtain ⟨zs, hzs⟩ : ∃ x, x = jpOf a0 a2 := ⟨_, rfl⟩
  rw [← her, ← hys] at CP F1
  rw [← hys] at HYB HYL
  rw [← hfs, ← hzs] at DP F2
  rw [← hzs] at SYB SYL
  obtain ⟨nz, hnz⟩ : ∃ x, x = acells (.slice none 0 0) (.slice none 0 0) (.slice none 0 0) zeroAsk := ⟨_, rfl⟩
  rw [← hnz] at ZH HZ
  obtain ⟨nt, hnt⟩ : ∃ x, x = scells (.slice none 0 0) (.slice none 0 0) zeroSay := ⟨_, rfl⟩
  rw [← hnt] at ZS SZ
  clear her hys hfs hzs hnz hnt hT h1h h2h k1h k2h
  by_cases he : er = 0
  · subst he
    replace F1 := Lib.hid (F1 rfl)
    by_cases hf : fs = 0
    · subst hf
      replace F2 := Lib.hid (F2 rfl)
      go_enter Tryd.func9, Tryd.ntmps9
      go_wp2_with (first
        | ((with_reducible show wpList _ _ _ (⟨some 4, _, _, _, _, _⟩ :: _) _ _); refine wpList_box_blk rfl _ (.tmp 1) rfl cs1 rfl ?_; intro g vg hg1 hg2 Kg Lg)
        | ((with_reducible show wpList _ _ _ (⟨some 5, _, _, _, _, _⟩ :: _) _ _); refine wpList_box_blk rfl _ (.tmp 2) rfl cs2 rfl ?_; intro h v0 hh1 hh2 Q0 L0; have K0 := Lib.hid (Kg.out.over L0.out); have M0 := Lib.hid (step Lg.out L0.out))
        | ((with_reducible show wpList _ _ _ (⟨some 21, _, _, _, _, _⟩ :: _) _ _); refine wpList_load_blk rfl _ (.tmp 4) rfl g rfl _ cs1 K0 69 _ Tryd.underlying32 rfl size_ask HL ?_)
        | fail)
      refine (CC.out v0 M0.out).mono ?_
      rintro e p1 ⟨pds, rfl, hd, L1⟩
      have pD1 := Lib.hid hd
      have pDL := Lib.hid (hd.len KA.out)
      have pDO := Lib.hid hd.one
      have pM1 := Lib.hid (step M0.out L1)
      have pL1 := Lib.hid L1
      clear hd L1
      go_wp2_with (first
        | ((with_reducible show wpList _ _ _ (⟨some 7, _, _, _, _, _⟩ :: _) _ _); refine wpList_alloc_blk rfl _ rfl nz _ ZH ?_; intro px p2 hg5 hg6 pZ2 pL2)
        | ((with_reducible show wpList _ _ _ (⟨none, .store _ (.tmp 7) _, _, _, _, _⟩ :: _) _ _); refine wpList_store_blk rfl _ (.tmp 7) (.tmp 22) rfl px rfl _ nz pds rfl pZ2 69 size_ask HZ pDL pDO ?_; intro p3 pX3 pO3 hg7; have pL3 := Lib.hid (below_only pL2.out pO3.out hg5); have pM3 := Lib.hid (step pM1.out pL3.out); have pD3 := Lib.hid (pD1.out.over pL3.out))
        | ((with_reducible show wpList _ _ _ (⟨some 25, _, _, _, _, _⟩ :: _) _ _); refine wpList_load_blk rfl _ (.tmp 7) rfl px rfl _ pds pX3 69 _ Tryd.underlying32 rfl size_ask pDL ?_)
        | fail)
      have pxl := pX3.out.lt
      refine (CP.out p3 pds pD3.out (HT.out.below pM3.out)).mono ?_
      rintro e p4 ⟨u4, rfl, ho4, L4⟩
      have pB4 := Lib.hid L4
      obtain ⟨pp, pm, rfl, hgb, hmx, hr4, hh4⟩ := own_parts ho4 HYB.out (by have := HYL.out; omega) F1.out
      have hlt := hr4.lt
      have pR4 := Lib.hid hr4
      obtain ⟨pN, phN⟩ : ∃ N, N = ys.length + pm := ⟨_, rfl⟩
      obtain ⟨pn, phn⟩ : ∃ n, n = ys.length := ⟨_, rfl⟩
      rw [← phN] at hh4 hmx ⊢
      rw [← phn] at hh4 ⊢
      have pHN := Lib.hid phN
      have pHn := Lib.hid phn
      have hn7 : pn ≤ 70000 := by rw [phn]; exact HYL.out
      have pH4 := Lib.hid hh4
      clear hr4 hh4 ho4 L4 phN phn
      go_wp2_with fail
      refine (Copy_any p4 _ pn pN ys pH4.out (by omega)).mono ?_
      rintro e p5 ⟨vd, rfl, ho5, L5⟩
      obtain ⟨pA5, pc5, rfl⟩ := ho5.len
      rw [← pHn.out] at ho5 ⊢
      have pO5 := Lib.hid ho5
      have pH5 := Lib.hid (pH4.out.over L5)
      have pR5 := Lib.hid (pR4.out.over L5)
      have pB5 := Lib.hid (step pB4.out L5)
      have hs5 := L5.size
      clear ho5 L5
      go_wp2_with fail
      refine (CG.out p5 _ pn pN ys pH5.out).mono ?_
      rintro e p6 ⟨pgs, pge, rfl, hl6, ho6, hc6, L6⟩
      have pO6 := Lib.hid (pO5.out.below L6)
      have pR6 := Lib.hid (pR5.out.over L6)
      have pB6 := Lib.hid (step pB5.out L6)
      have hs6 := L6.size
      have pGL := Lib.hid hl6
      have pGO := Lib.hid ho6
      have pGC := Lib.hid hc6
      clear hl6 ho6 hc6 L6 pO5 pH5 pH4 pR5 pR4
      go_wp2_with (first
        | ((with_reducible show wpList _ _ _ (⟨some 11, _, _, _, _, _⟩ :: _) _ _); refine wpList_alloc_blk rfl _ rfl nz _ ZH ?_; intro py p7 hg8 hg9 pZ7 pL7)
        | ((with_reducible show wpList _ _ _ (⟨none, .store _ (.tmp 11) _, _, _, _, _⟩ :: _) _ _); refine wpList_store_blk rfl _ (.tmp 11) (.tmp 37) rfl py rfl _ nz pgs rfl pZ7 69 size_ask HZ pGL pGO ?_; intro p8 pY8 pO8' hg10; have pL8 := Lib.hid (below_only pL7.out pO8'.out hg8); have pB8 := Lib.hid (step pB6.out pL8.out); have pR8 := Lib.hid (pR6.out.over pL8.out); have pO8 := Lib.hid (pO6.out.below pL8.out))
        | fail)
      refine (SpoilB_only p8 pp pn pm pN ys pHn.out pHN.out hmx 7 (by omega) pR8.out).mono ?_
      rintro e p9 ⟨rfl, S9⟩
      have pB9 := Lib.hid (below_only pB8.out S9 hgb)
      have pY9 := Lib.hid (pY8.out.only S9 (by omega))
      have pO9 := Lib.hid (pO8.out.only S9 hlt)
      have gd : p9.cell? ⟨py, 61, none⟩ = some (.slice none 0 0) := pY9.out.at pGC.out
      clear S9 pO8 pY8 pR8 pB8 pO6 pR6 pB6
      go_wp2_with fail
      refine (Spoil_nil p9 7 (by omega)).mono ?_
      rintro e p10 ⟨rfl, L10⟩
      have pO10 := Lib.hid (pO9.out.below L10)
      have pB10 := Lib.hid (step pB9.out L10)
      have pX10 := Lib.hid (pX3.out.over pB10.out)
      clear gd L10 pO9 pB9 pY9
      go_wp2_with (first
        | ((with_reducible show wpList _ _ _ (⟨some 46, _, _, _, _, _⟩ :: _) _ _); refine wpList_load_blk rfl _ (.tmp 7) rfl px rfl _ pds pX10 69 _ Tryd.underlying32 rfl size_ask pDL ?_)
        | fail)
      refine (CP.out p10 pds (pD3.out.over pB10.out) (HT.out.below (step pM3.out pB10.out))).mono ?_
      rintro e p11 ⟨u11, rfl, ho11, L11⟩
      obtain ⟨A11, c11, rfl, hh11⟩ := ho11.holds8 HYB.out (by have := HYL.out; omega)
      rw [← pHn.out] at hh11 ⊢
      have pD11 := Lib.hid (CS.out _ _ _ _ _ _ _ _ hh11 ((pO10.out.below L11).holds_at pHn.out.symm HYB.out (by omega)))
      have pB11 := Lib.hid (step pB10.out L11)
      clear hh11 ho11 L11 pO10 pX10 pB10
      go_wp2_with fail
      refine pD11.out.mono ?_
      rintro e p12 ⟨rfl, k12, rfl⟩
      obtain ⟨p12, hv12⟩ : ∃ v, v = p11.drewN k12 := ⟨_, rfl⟩
      have pB12 : Hid (Below p3.heap.size p3 p12) := by rw [hv12]; exact step pB11.out (drewed _ _)
      rw [← hv12]
      clear hv12 pD11 pB11
      have pX12 := Lib.hid (pX3.out.over pB12.out)
      have pM12 := Lib.hid (step pM3.out pB12.out)
      have pK12 := Lib.hid (K0.out.over (step pL1.out (step pL3.out pB12.out)))
      go_wp2_with (first
        | ((with_reducible show wpList _ _ _ (⟨some 59, _, _, _, _, _⟩ :: _) _ _); refine wpList_load_want (by kernel_rfl) _ (.tmp 7) rfl px rfl _ pds pX12 69 _ Tryd.underlying32 rfl size_ask pDL ?_)
        | ((with_reducible show wpList _ _ _ (⟨some 60, _, _, _, _, _⟩ :: _) _ _); refine wpList_load_want (by kernel_rfl) _ (.tmp 4) rfl g rfl _ cs1 pK12 69 _ Tryd.underlying32 rfl size_ask HL ?_)
        | fail)
      refine (CQ.out p12 pds (pD3.out.over pB12.out) (HA.out.over pM12.out)).mono ?_
      rintro e p13 ⟨rfl, L13⟩
      have pM13 := Lib.hid (step pM12.out L13)
      have pB13 := Lib.hid (step pB12.out L13)
      clear L13
      obtain ⟨bw0, hbw⟩ : ∃ v, v = p13 := ⟨_, rfl⟩
      have bM0 : Hid (Below W.heap.size W bw0) := by rw [hbw]; exact step pM3.out pB13.out
      have bQ0 : Hid (Blk bw0 h 45 cs2) := by rw [hbw]; exact Q0.out.over (step pL1.out (step pL3.out pB13.out))
      rw [← hbw]
      clear hbw
      go_wp2_with (first
        | ((with_reducible show wpList _ _ _ (⟨some 64, _, _, _, _, _⟩ :: _) _ _); refine wpList_load_blk rfl _ (.tmp 5) rfl h rfl _ cs2 bQ0 20 _ Tryd.underlying45 rfl size_say SL ?_)
        | fail)
      refine (DC.out bw0 bM0.out).mono ?_
      rintro e q1 ⟨qds, rfl, hd, L1⟩
      have qD1 := Lib.hid hd
      have qDL := Lib.hid (hd.len KS.out)
      have qDO := Lib.hid hd.one
      have qM1 := Lib.hid (step bM0.out L1)
      have qL1 := Lib.hid L1
      clear hd L1
      go_wp2_with (first
        | ((with_reducible show wpList _ _ _ (⟨some 15, _, _, _, _, _⟩ :: _) _ _); refine wpList_alloc_blk rfl _ rfl nt _ ZS ?_; intro qx q2 hg5 hg6 qZ2 qL2)
        | ((with_reducible show wpList _ _ _ (⟨none, .store _ (.tmp 15) _, _, _, _, _⟩ :: _) _ _); refine wpList_store_blk rfl _ (.tmp 15) (.tmp 65) rfl qx rfl _ nt qds rfl qZ2 20 size_say SZ qDL qDO ?_; intro q3 qX3 qO3 hg7; have qL3 := Lib.hid (below_only qL2.out qO3.out hg5); have qM3 := Lib.hid (step qM1.out qL3.out); have qD3 := Lib.hid (qD1.out.over qL3.out))
        | ((with_reducible show wpList _ _ _ (⟨some 68, _, _, _, _, _⟩ :: _) _ _); refine wpList_load_blk rfl _ (.tmp 15) rfl qx rfl _ qds qX3 20 _ Tryd.underlying45 rfl size_say qDL ?_)
        | fail)
      have qxl := qX3.out.lt
      refine (DP.out q3 qds qD3.out (HT.out.below qM3.out)).mono ?_
      rintro e q4 ⟨u4, rfl, ho4, L4⟩
      have qB4 := Lib.hid L4
      obtain ⟨qp, qm, rfl, hgb, hmx, hr4, hh4⟩ := own_parts ho4 SYB.out (by have := SYL.out; omega) F2.out
      have hlt := hr4.lt
      have qR4 := Lib.hid hr4
      obtain ⟨qN, qhN⟩ : ∃ N, N = zs.length + qm := ⟨_, rfl⟩
      obtain ⟨qn, qhn⟩ : ∃ n, n = zs.length := ⟨_, rfl⟩
      rw [← qhN] at hh4 hmx ⊢
      rw [← qhn] at hh4 ⊢
      have qHN := Lib.hid qhN
      have qHn := Lib.hid qhn
      have hn7 : qn ≤ 70000 := by rw [qhn]; exact SYL.out
      have qH4 := Lib.hid hh4
      clear hr4 hh4 ho4 L4 qhN qhn
      go_wp2_with fail
      refine (Copy_any q4 _ qn qN zs qH4.out (by omega)).mono ?_
      rintro e q5 ⟨vd, rfl, ho5, L5⟩
      obtain ⟨qA5, qc5, rfl⟩ := ho5.len
      rw [← qHn.out] at ho5 ⊢
      have qO5 := Lib.hid ho5
      have qH5 := Lib.hid (qH4.out.over L5)
      have qR5 := Lib.hid (qR4.out.over L5)
      have qB5 := Lib.hid (step qB4.out L5)
      have hs5 := L5.size
      clear ho5 L5
      go_wp2_with fail
      refine (DG.out q5 _ qn qN zs qH5.out).mono ?_
      rintro e q6 ⟨qgs, qge, rfl, hl6, ho6, hc6, L6⟩
      have qO6 := Lib.hid (qO5.out.below L6)
      have qR6 := Lib.hid (qR5.out.over L6)
      have qB6 := Lib.hid (step qB5.out L6)
      have hs6 := L6.size
      have qGL := Lib.hid hl6
      have qGO := Lib.hid ho6
      have qGC := Lib.hid hc6
      clear hl6 ho6 hc6 L6 qO5 qH5 qH4 qR5 qR4
      go_wp2_with (first
        | ((with_reducible show wpList _ _ _ (⟨some 17, _, _, _, _, _⟩ :: _) _ _); refine wpList_alloc_blk rfl _ rfl nt _ ZS ?_; intro qy q7 hg8 hg9 qZ7 qL7)
        | ((with_reducible show wpList _ _ _ (⟨none, .store _ (.tmp 17) _, _, _, _, _⟩ :: _) _ _); refine wpList_store_blk rfl _ (.tmp 17) (.tmp 81) rfl qy rfl _ nt qgs rfl qZ7 20 size_say SZ qGL qGO ?_; intro q8 qY8 qO8' hg10; have qL8 := Lib.hid (below_only qL7.out qO8'.out hg8); have qB8 := Lib.hid (step qB6.out qL8.out); have qR8 := Lib.hid (qR6.out.over qL8.out); have qO8 := Lib.hid (qO6.out.below qL8.out))
        | fail)
      refine (SpoilB_only q8 qp qn qm qN zs qHn.out qHN.out hmx 7 (by omega) qR8.out).mono ?_
      rintro e q9 ⟨rfl, S9⟩
      have qB9 := Lib.hid (below_only qB8.out S9 hgb)
      have qY9 := Lib.hid (qY8.out.only S9 (by omega))
      have qO9 := Lib.hid (qO8.out.only S9 hlt)
      have gd : q9.cell? ⟨qy, 15, none⟩ = some (.slice none 0 0) := qY9.out.at qGC.out
      clear S9 qO8 qY8 qR8 qB8 qO6 qR6 qB6
      go_wp2_with fail
      refine (Spoil_nil q9 7 (by omega)).mono ?_
      rintro e q10 ⟨rfl, L10⟩
      have qO10 := Lib.hid (qO9.out.below L10)
      have qB10 := Lib.hid (step qB9.out L10)
      have qX10 := Lib.hid (qX3.out.over qB10.out)
      clear gd L10 qO9 qB9 qY9
      go_wp2_with (first
        | ((with_reducible show wpList _ _ _ (⟨some 90, _, _, _, _, _⟩ :: _) _ _); refine wpList_load_blk rfl _ (.tmp 15) rfl qx rfl _ qds qX10 20 _ Tryd.underlying45 rfl size_say qDL ?_)
        | fail)
      refine (DP.out q10 qds (qD3.out.over qB10.out) (HT.out.below (step qM3.out qB10.out))).mono ?_
      rintro e q11 ⟨u11, rfl, ho11, L11⟩
      obtain ⟨A11, c11, rfl, hh11⟩ := ho11.holds8 SYB.out (by have := SYL.out; omega)
      rw [← qHn.out] at hh11 ⊢
      have qD11 := Lib.hid (CS.out _ _ _ _ _ _ _ _ hh11 ((qO10.out.below L11).holds_at qHn.out.symm SYB.out (by omega)))
      have qB11 := Lib.hid (step qB10.out L11)
      clear hh11 ho11 L11 qO10 qX10 qB10
      go_wp2_with fail
      refine qD11.out.mono ?_
      rintro e q12 ⟨rfl, k12, rfl⟩
      obtain ⟨q12, hv12⟩ : ∃ v, v = q11.drewN k12 := ⟨_, rfl⟩
      have qB12 : Hid (Below q3.heap.size q3 q12) := by rw [hv12]; exact step qB11.out (drewed _ _)
      rw [← hv12]
      clear hv12 qD11 qB11
      have qX12 := Lib.hid (qX3.out.over qB12.out)
      have qM12 := Lib.hid (step qM3.out qB12.out)
      have qK12 := Lib.hid (bQ0.out.over (step qL1.out (step qL3.out qB12.out)))
      go_wp2_with (first
        | ((with_reducible show wpList _ _ _ (⟨some 102, _, _, _, _, _⟩ :: _) _ _); refine wpList_load_want (by kernel_rfl) _ (.tmp 15) rfl qx rfl _ qds qX12 20 _ Tryd.underlying45 rfl size_say qDL ?_)
        | ((with_reducible show wpList _ _ _ (⟨some 103, _, _, _, _, _⟩ :: _) _ _); refine wpList_load_want (by kernel_rfl) _ (.tmp 5) rfl h rfl _ cs2 qK12 20 _ Tryd.underlying45 rfl size_say SL ?_)
        | fail)
      refine (DQ.out q12 qds (qD3.out.over qB12.out) (SA.out.over qM12.out)).mono ?_
      rintro e q13 ⟨rfl, L13⟩
      have qM13 := Lib.hid (step qM12.out L13)
      have qB13 := Lib.hid (step qB12.out L13)
      clear L13
      go_wp2_with fail
      refine (CL.out q13 (HT.out.below qM13.out)).mono ?_
      rintro e ve ⟨rfl, Le⟩
      go_wp2
      go_ret
      exact ⟨rfl, step qM13.out Le⟩
    · clear F2
      go_enter Tryd.func9, Tryd.ntmps9
      go_wp2_with (first
        | ((with_reducible show wpList _ _ _ (⟨some 4, _, _, _, _, _⟩ :: _) _ _); refine wpList_box_blk rfl _ (.tmp 1) rfl cs1 rfl ?_; intro g vg hg1 hg2 Kg Lg)
        | ((with_reducible show wpList _ _ _ (⟨some 5, _, _, _, _, _⟩ :: _) _ _); refine wpList_box_blk rfl _ (.tmp 2) rfl cs2 rfl ?_; intro h v0 hh1 hh2 Q0 L0; have K0 := Lib.hid (Kg.out.over L0.out); have M0 := Lib.hid (step Lg.out L0.out))
        | ((with_reducible show wpList _ _ _ (⟨some 21, _, _, _, _, _⟩ :: _) _ _); refine wpList_load_blk rfl _ (.tmp 4) rfl g rfl _ cs1 K0 69 _ Tryd.underlying32 rfl size_ask HL ?_)
        | fail)
      refine (CC.out v0 M0.out).mono ?_
      rintro e p1 ⟨pds, rfl, hd, L1⟩
      have pD1 := Lib.hid hd
      have pDL := Lib.hid (hd.len KA.out)
      have pDO := Lib.hid hd.one
      have pM1 := Lib.hid (step M0.out L1)
      have pL1 := Lib.hid L1
      clear hd L1
      go_wp2_with (first
        | ((with_reducible show wpList _ _ _ (⟨some 7, _, _, _, _, _⟩ :: _) _ _); refine wpList_alloc_blk rfl _ rfl nz _ ZH ?_; intro px p2 hg5 hg6 pZ2 pL2)
        | ((with_reducible show wpList _ _ _ (⟨none, .store _ (.tmp 7) _, _, _, _, _⟩ :: _) _ _); refine wpList_store_blk rfl _ (.tmp 7) (.tmp 22) rfl px rfl _ nz pds rfl pZ2 69 size_ask HZ pDL pDO ?_; intro p3 pX3 pO3 hg7; have pL3 := Lib.hid (below_only pL2.out pO3.out hg5); have pM3 := Lib.hid (step pM1.out pL3.out); have pD3 := Lib.hid (pD1.out.over pL3.out))
        | ((with_reducible show wpList _ _ _ (⟨some 25, _, _, _, _, _⟩ :: _) _ _); refine wpList_load_blk rfl _ (.tmp 7) rfl px rfl _ pds pX3 69 _ Tryd.underlying32 rfl size_ask pDL ?_)
        | fail)
      have pxl := pX3.out.lt
      refine (CP.out p3 pds pD3.out (HT.out.below pM3.out)).mono ?_
      rintro e p4 ⟨u4, rfl, ho4, L4⟩
      have pB4 := Lib.hid L4
      obtain ⟨pp, pm, rfl, hgb, hmx, hr4, hh4⟩ := own_parts ho4 HYB.out (by have := HYL.out; omega) F1.out
      have hlt := hr4.lt
      have pR4 := Lib.hid hr4
      obtain ⟨pN, phN⟩ : ∃ N, N = ys.length + pm := ⟨_, rfl⟩
      obtain ⟨pn, phn⟩ : ∃ n, n = ys.length := ⟨_, rfl⟩
      rw [← phN] at hh4 hmx ⊢
      rw [← phn] at hh4 ⊢
      have pHN := Lib.hid phN
      have pHn := Lib.hid phn
      have hn7 : pn ≤ 70000 := by rw [phn]; exact HYL.out
      have pH4 := Lib.hid hh4
      clear hr4 hh4 ho4 L4 phN phn
      go_wp2_with fail
      refine (Copy_any p4 _ pn pN ys pH4.out (by omega)).mono ?_
      rintro e p5 ⟨vd, rfl, ho5, L5⟩
      obtain ⟨pA5, pc5, rfl⟩ := ho5.len
      rw [← pHn.out] at ho5 ⊢
      have pO5 := Lib.hid ho5
      have pH5 := Lib.hid (pH4.out.over L5)
      have pR5 := Lib.hid (pR4.out.over L5)
      have pB5 := Lib.hid (step pB4.out L5)
      have hs5 := L5.size
      clear ho5 L5
      go_wp2_with fail
      refine (CG.out p5 _ pn pN ys pH5.out).mono ?_
      rintro e p6 ⟨pgs, pge, rfl, hl6, ho6, hc6, L6⟩
      have pO6 := Lib.hid (pO5.out.below L6)
      have pR6 := Lib.hid (pR5.out.over L6)
      have pB6 := Lib.hid (step pB5.out L6)
      have hs6 := L6.size
      have pGL := Lib.hid hl6
      have pGO := Lib.hid ho6
      have pGC := Lib.hid hc6
      clear hl6 ho6 hc6 L6 pO5 pH5 pH4 pR5 pR4
      go_wp2_with (first
        | ((with_reducible show wpList _ _ _ (⟨some 11, _, _, _, _, _⟩ :: _) _ _); refine wpList_alloc_blk rfl _ rfl nz _ ZH ?_; intro py p7 hg8 hg9 pZ7 pL7)
        | ((with_reducible show wpList _ _ _ (⟨none, .store _ (.tmp 11) _, _, _, _, _⟩ :: _) _ _); refine wpList_store_blk rfl _ (.tmp 11) (.tmp 37) rfl py rfl _ nz pgs rfl pZ7 69 size_ask HZ pGL pGO ?_; intro p8 pY8 pO8' hg10; have pL8 := Lib.hid (below_only pL7.out pO8'.out hg8); have pB8 := Lib.hid (step pB6.out pL8.out); have pR8 := Lib.hid (pR6.out.over pL8.out); have pO8 := Lib.hid (pO6.out.below pL8.out))
        | fail)
      refine (SpoilB_only p8 pp pn pm pN ys pHn.out pHN.out hmx 7 (by omega) pR8.out).mono ?_
      rintro e p9 ⟨rfl, S9⟩
      have pB9 := Lib.hid (below_only pB8.out S9 hgb)
      have pY9 := Lib.hid (pY8.out.only S9 (by omega))
      have pO9 := Lib.hid (pO8.out.only S9 hlt)
      have gd : p9.cell? ⟨py, 61, none⟩ = some (.slice none 0 0) := pY9.out.at pGC.out
      clear S9 pO8 pY8 pR8 pB8 pO6 pR6 pB6
      go_wp2_with fail
      refine (Spoil_nil p9 7 (by omega)).mono ?_
      rintro e p10 ⟨rfl, L10⟩
      have pO10 := Lib.hid (pO9.out.below L10)
      have pB10 := Lib.hid (step pB9.out L10)
      have pX10 := Lib.hid (pX3.out.over pB10.out)
      clear gd L10 pO9 pB9 pY9
      go_wp2_with (first
        | ((with_reducible show wpList _ _ _ (⟨some 46, _, _, _, _, _⟩ :: _) _ _); refine wpList_load_blk rfl _ (.tmp 7) rfl px rfl _ pds pX10 69 _ Tryd.underlying32 rfl size_ask pDL ?_)
        | fail)
      refine (CP.out p10 pds (pD3.out.over pB10.out) (HT.out.below (step pM3.out pB10.out))).mono ?_
      rintro e p11 ⟨u11, rfl, ho11, L11⟩
      obtain ⟨A11, c11, rfl, hh11⟩ := ho11.holds8 HYB.out (by have := HYL.out; omega)
      rw [← pHn.out] at hh11 ⊢
      have pD11 := Lib.hid (CS.out _ _ _ _ _ _ _ _ hh11 ((pO10.out.below L11).holds_at pHn.out.symm HYB.out (by omega)))
      have pB11 := Lib.hid (step pB10.out L11)
      clear hh11 ho11 L11 pO10 pX10 pB10
      go_wp2_with fail
      refine pD11.out.mono ?_
      rintro e p12 ⟨rfl, k12, rfl⟩
      obtain ⟨p12, hv12⟩ : ∃ v, v = p11.drewN k12 := ⟨_, rfl⟩
      have pB12 : Hid (Below p3.heap.size p3 p12) := by rw [hv12]; exact step pB11.out (drewed _ _)
      rw [← hv12]
      clear hv12 pD11 pB11
      have pX12 := Lib.hid (pX3.out.over pB12.out)
      have pM12 := Lib.hid (step pM3.out pB12.out)
      have pK12 := Lib.hid (K0.out.over (step pL1.out (step pL3.out pB12.out)))
      go_wp2_with (first
        | ((with_reducible show wpList _ _ _ (⟨some 59, _, _, _, _, _⟩ :: _) _ _); refine wpList_load_want (by kernel_rfl) _ (.tmp 7) rfl px rfl _ pds pX12 69 _ Tryd.underlying32 rfl size_ask pDL ?_)
        | ((with_reducible show wpList _ _ _ (⟨some 60, _, _, _, _, _⟩ :: _) _ _); refine wpList_load_want (by kernel_rfl) _ (.tmp 4) rfl g rfl _ cs1 pK12 69 _ Tryd.underlying32 rfl size_ask HL ?_)
        | fail)
      refine (CQ.out p12 pds (pD3.out.over pB12.out) (HA.out.over pM12.out)).mono ?_
      rintro e p13 ⟨rfl, L13⟩
      have pM13 := Lib.hid (step pM12.out L13)
      have pB13 := Lib.hid (step pB12.out L13)
      clear L13
      obtain ⟨bw0, hbw⟩ : ∃ v, v = p13 := ⟨_, rfl⟩
      have bM0 : Hid (Below W.heap.size W bw0) := by rw [hbw]; exact step pM3.out pB13.out
      have bQ0 : Hid (Blk bw0 h 45 cs2) := by rw [hbw]; exact Q0.out.over (step pL1.out (step pL3.out pB13.out))
      rw [← hbw]
      clear hbw
      go_wp2_with (first
        | ((with_reducible show wpList _ _ _ (⟨some 64, _, _, _, _, _⟩ :: _) _ _); refine wpList_load_blk rfl _ (.tmp 5) rfl h rfl _ cs2 bQ0 20 _ Tryd.underlying45 rfl size_say SL ?_)
        | fail)
      refine (DC.out bw0 bM0.out).mono ?_
      rintro e q1 ⟨qds, rfl, hd, L1⟩
      have qD1 := Lib.hid hd
      have qDL := Lib.hid (hd.len KS.out)
      have qDO := Lib.hid hd.one
      have qM1 := Lib.hid (step bM0.out L1)
      have qL1 := Lib.hid L1
      clear hd L1
      go_wp2_with (first
        | ((with_reducible show wpList _ _ _ (⟨some 15, _, _, _, _, _⟩ :: _) _ _); refine wpList_alloc_blk rfl _ rfl nt _ ZS ?_; intro qx q2 hg5 hg6 qZ2 qL2)
        | ((with_reducible show wpList _ _ _ (⟨none, .store _ (.tmp 15) _, _, _, _, _⟩ :: _) _ _); refine wpList_store_blk rfl _ (.tmp 15) (.tmp 65) rfl qx rfl _ nt qds rfl qZ2 20 size_say SZ qDL qDO ?_; intro q3 qX3 qO3 hg7; have qL3 := Lib.hid (below_only qL2.out qO3.out hg5); have qM3 := Lib.hid (step qM1.out qL3.out); have qD3 := Lib.hid (qD1.out.over qL3.out))
        | ((with_reducible show wpList _ _ _ (⟨some 68, _, _, _, _, _⟩ :: _) _ _); refine wpList_load_blk rfl _ (.tmp 15) rfl qx rfl _ qds qX3 20 _ Tryd.underlying45 rfl size_say qDL ?_)
        | fail)
      have qxl := qX3.out.lt
      refine (DP.out q3 qds qD3.out (HT.out.below qM3.out)).mono ?_
      rintro e q4 ⟨u4, rfl, ho4, L4⟩
      have qB4 := Lib.hid L4
      clear ho4 L4
      have qM4 := Lib.hid (step qM3.out qB4.out)
      go_wp2_with fail
      refine (CL.out q4 (HT.out.below qM4.out)).mono ?_
      rintro e ve ⟨rfl, Le⟩
      go_wp2
      go_ret
      exact ⟨rfl, step qM4.out Le⟩
  · clear F1
    by_cases hf : fs = 0
    · subst hf
      replace F2 := Lib.hid (F2 rfl)
      go_enter Tryd.func9, Tryd.ntmps9
      go_wp2_with (first
        | ((with_reducible show wpList _ _ _ (⟨some 4, _, _, _, _, _⟩ :: _) _ _); refine wpList_box_blk rfl _ (.tmp 1) rfl cs1 rfl ?_; intro g vg hg1 hg2 Kg Lg)
        | ((with_reducible show wpList _ _ _ (⟨some 5, _, _, _, _, _⟩ :: _) _ _); refine wpList_box_blk rfl _ (.tmp 2) rfl cs2 rfl ?_; intro h v0 hh1 hh2 Q0 L0; have K0 := Lib.hid (Kg.out.over L0.out); have M0 := Lib.hid (step Lg.out L0.out))
        | ((with_reducible show wpList _ _ _ (⟨some 21, _, _, _, _, _⟩ :: _) _ _); refine wpList_load_blk rfl _ (.tmp 4) rfl g rfl _ cs1 K0 69 _ Tryd.underlying32 rfl size_ask HL ?_)
        | fail)
      refine (CC.out v0 M0.out).mono ?_
      rintro e p1 ⟨pds, rfl, hd, L1⟩
      have pD1 := Lib.hid hd
      have pDL := Lib.hid (hd.len KA.out)
      have pDO := Lib.hid hd.one
      have pM1 := Lib.hid (step M0.out L1)
      have pL1 := Lib.hid L1
      clear hd L1
      go_wp2_with (first
        | ((with_reducible show wpList _ _ _ (⟨some 7, _, _, _, _, _⟩ :: _) _ _); refine wpList_alloc_blk rfl _ rfl nz _ ZH ?_; intro px p2 hg5 hg6 pZ2 pL2)
        | ((with_reducible show wpList _ _ _ (⟨none, .store _ (.tmp 7) _, _, _, _, _⟩ :: _) _ _); refine wpList_store_blk rfl _ (.tmp 7) (.tmp 22) rfl px rfl _ nz pds rfl pZ2 69 size_ask HZ pDL pDO ?_; intro p3 pX3 pO3 hg7; have pL3 := Lib.hid (below_only pL2.out pO3.out hg5); have pM3 := Lib.hid (step pM1.out pL3.out); have pD3 := Lib.hid (pD1.out.over pL3.out))
        | ((with_reducible show wpList _ _ _ (⟨some 25, _, _, _, _, _⟩ :: _) _ _); refine wpList_load_blk rfl _ (.tmp 7) rfl px rfl _ pds pX3 69 _ Tryd.underlying32 rfl size_ask pDL ?_)
        | fail)
      have pxl := pX3.out.lt
      refine (CP.out p3 pds pD3.out (HT.out.below pM3.out)).mono ?_
      rintro e p4 ⟨u4, rfl, ho4, L4⟩
      have pB4 := Lib.hid L4
      clear ho4 L4
      obtain ⟨bw0, hbw⟩ : ∃ v, v = p4 := ⟨_, rfl⟩
      have bM0 : Hid (Below W.heap.size W bw0) := by rw [hbw]; exact step pM3.out pB4.out
      have bQ0 : Hid (Blk bw0 h 45 cs2) := by rw [hbw]; exact Q0.out.over (step pL1.out (step pL3.out pB4.out))
      rw [← hbw]
      clear hbw
      go_wp2_with (first
        | ((with_reducible show wpList _ _ _ (⟨some 64, _, _, _, _, _⟩ :: _) _ _); refine wpList_load_blk rfl _ (.tmp 5) rfl h rfl _ cs2 bQ0 20 _ Tryd.underlying45 rfl size_say SL ?_)
        | fail)
      refine (DC.out bw0 bM0.out).mono ?_
      rintro e q1 ⟨qds, rfl, hd, L1⟩
      have qD1 := Lib.hid hd
      have qDL := Lib.hid (hd.len KS.out)
      have qDO := Lib.hid hd.one
      have qM1 := Lib.hid (step bM0.out L1)
      have qL1 := Lib.hid L1
      clear hd L1
      go_wp2_with (first
        | ((with_reducible show wpList _ _ _ (⟨some 15, _, _, _, _, _⟩ :: _) _ _); refine wpList_alloc_blk rfl _ rfl nt _ ZS ?_; intro qx q2 hg5 hg6 qZ2 qL2)
        | ((with_reducible show wpList _ _ _ (⟨none, .store _ (.tmp 15) _, _, _, _, _⟩ :: _) _ _); refine wpList_store_blk rfl _ (.tmp 15) (.tmp 65) rfl qx rfl _ nt qds rfl qZ2 20 size_say SZ qDL qDO ?_; intro q3 qX3 qO3 hg7; have qL3 := Lib.hid (below_only qL2.out qO3.out hg5); have qM3 := Lib.hid (step qM1.out qL3.out); have qD3 := Lib.hid (qD1.out.over qL3.out))
        | ((with_reducible show wpList _ _ _ (⟨some 68, _, _, _, _, _⟩ :: _) _ _); refine wpList_load_blk rfl _ (.tmp 15) rfl qx rfl _ qds qX3 20 _ Tryd.underlying45 rfl size_say qDL ?_)
        | fail)
      have qxl := qX3.out.lt
      refine (DP.out q3 qds qD3.out (HT.out.below qM3.out)).mono ?_
      rintro e q4 ⟨u4, rfl, ho4, L4⟩
      have qB4 := Lib.hid L4
      obtain ⟨qp, qm, rfl, hgb, hmx, hr4, hh4⟩ := own_parts ho4 SYB.out (by have := SYL.out; omega) F2.out
      have hlt := hr4.lt
      have qR4 := Lib.hid hr4
      obtain ⟨qN, qhN⟩ : ∃ N, N = zs.length + qm := ⟨_, rfl⟩
      obtain ⟨qn, qhn⟩ : ∃ n, n = zs.length := ⟨_, rfl⟩
      rw [← qhN] at hh4 hmx ⊢
      rw [← qhn] at hh4 ⊢
      have qHN := Lib.hid qhN
      have qHn := Lib.hid qhn
      have hn7 : qn ≤ 70000 := by rw [qhn]; exact SYL.out
      have qH4 := Lib.hid hh4
      clear hr4 hh4 ho4 L4 qhN qhn
      go_wp2_with fail
      refine (Copy_any q4 _ qn qN zs qH4.out (by omega)).mono ?_
      rintro e q5 ⟨vd, rfl, ho5, L5⟩
      obtain ⟨qA5, qc5, rfl⟩ := ho5.len
      rw [← qHn.out] at ho5 ⊢
      have qO5 := Lib.hid ho5
      have qH5 := Lib.hid (qH4.out.over L5)
      have qR5 := Lib.hid (qR4.out.over L5)
      have qB5 := Lib.hid (step qB4.out L5)
      have hs5 := L5.size
      clear ho5 L5
      go_wp2_with fail
      refine (DG.out q5 _ qn qN zs qH5.out).mono ?_
      rintro e q6 ⟨qgs, qge, rfl, hl6, ho6, hc6, L6⟩
      have qO6 := Lib.hid (qO5.out.below L6)
      have qR6 := Lib.hid (qR5.out.over L6)
      have qB6 := Lib.hid (step qB5.out L6)
      have hs6 := L6.size
      have qGL := Lib.hid hl6
      have qGO := Lib.hid ho6
      have qGC := Lib.hid hc6
      clear hl6 ho6 hc6 L6 qO5 qH5 qH4 qR5 qR4
      go_wp2_with (first
        | ((with_reducible show wpList _ _ _ (⟨some 17, _, _, _, _, _⟩ :: _) _ _); refine wpList_alloc_blk rfl _ rfl nt _ ZS ?_; intro qy q7 hg8 hg9 qZ7 qL7)
        | ((with_reducible show wpList _ _ _ (⟨none, .store _ (.tmp 17) _, _, _, _, _⟩ :: _) _ _); refine wpList_store_blk rfl _ (.tmp 17) (.tmp 81) rfl qy rfl _ nt qgs rfl qZ7 20 size_say SZ qGL qGO ?_; intro q8 qY8 qO8' hg10; have qL8 := Lib.hid (below_only qL7.out qO8'.out hg8); have qB8 := Lib.hid (step qB6.out qL8.out); have qR8 := Lib.hid (qR6.out.over qL8.out); have qO8 := Lib.hid (qO6.out.below qL8.out))
        | fail)
      refine (SpoilB_only q8 qp qn qm qN zs qHn.out qHN.out hmx 7 (by omega) qR8.out).mono ?_
      rintro e q9 ⟨rfl, S9⟩
      have qB9 := Lib.hid (below_only qB8.out S9 hgb)
      have qY9 := Lib.hid (qY8.out.only S9 (by omega))
      have qO9 := Lib.hid (qO8.out.only S9 hlt)
      have gd : q9.cell? ⟨qy, 15, none⟩ = some (.slice none 0 0) := qY9.out.at qGC.out
      clear S9 qO8 qY8 qR8 qB8 qO6 qR6 qB6
      go_wp2_with fail
      refine (Spoil_nil q9 7 (by omega)).mono ?_
      rintro e q10 ⟨rfl, L10⟩
      have qO10 := Lib.hid (qO9.out.below L10)
      have qB10 := Lib.hid (step qB9.out L10)
      have qX10 := Lib.hid (qX3.out.over qB10.out)
      clear gd L10 qO9 qB9 qY9
      go_wp2_with (first
        | ((with_reducible show wpList _ _ _ (⟨some 90, _, _, _, _, _⟩ :: _) _ _); refine wpList_load_blk rfl _ (.tmp 15) rfl qx rfl _ qds qX10 20 _ Tryd.underlying45 rfl size_say qDL ?_)
        | fail)
      refine (DP.out q10 qds (qD3.out.over qB10.out) (HT.out.below (step qM3.out qB10.out))).mono ?_
      rintro e q11 ⟨u11, rfl, ho11, L11⟩
      obtain ⟨A11, c11, rfl, hh11⟩ := ho11.holds8 SYB.out (by have := SYL.out; omega)
      rw [← qHn.out] at hh11 ⊢
      have qD11 := Lib.hid (CS.out _ _ _ _ _ _ _ _ hh11 ((qO10.out.below L11).holds_at qHn.out.symm SYB.out (by omega)))
      have qB11 := Lib.hid (step qB10.out L11)
      clear hh11 ho11 L11 qO10 qX10 qB10
      go_wp2_with fail
      refine qD11.out.mono ?_
      rintro e q12 ⟨rfl, k12, rfl⟩
      obtain ⟨q12, hv12⟩ : ∃ v, v = q11.drewN k12 := ⟨_, rfl⟩
      have qB12 : Hid (Below q3.heap.size q3 q12) := by rw [hv12]; exact step qB11.out (drewed _ _)
      rw [← hv12]
      clear hv12 qD11 qB11
      have qX12 := Lib.hid (qX3.out.over qB12.out)
      have qM12 := Lib.hid (step qM3.out qB12.out)
      have qK12 := Lib.hid (bQ0.out.over (step qL1.out (step qL3.out qB12.out)))
      go_wp2_with (first
        | ((with_reducible show wpList _ _ _ (⟨some 102, _, _, _, _, _⟩ :: _) _ _); refine wpList_load_want (by kernel_rfl) _ (.tmp 15) rfl qx rfl _ qds qX12 20 _ Tryd.underlying45 rfl size_say qDL ?_)
        | ((with_reducible show wpList _ _ _ (⟨some 103, _, _, _, _, _⟩ :: _) _ _); refine wpList_load_want (by kernel_rfl) _ (.tmp 5) rfl h rfl _ cs2 qK12 20 _ Tryd.underlying45 rfl size_say SL ?_)
        | fail)
      refine (DQ.out q12 qds (qD3.out.over qB12.out) (SA.out.over qM12.out)).mono ?_
      rintro e q13 ⟨rfl, L13⟩
      have qM13 := Lib.hid (step qM12.out L13)
      have qB13 := Lib.hid (step qB12.out L13)
      clear L13
      go_wp2_with fail
      refine (CL.out q13 (HT.out.below qM13.out)).mono ?_
      rintro e ve ⟨rfl, Le⟩
      go_wp2
      go_ret
      exact ⟨rfl, step qM13.out Le⟩
    · clear F2
      go_enter Tryd.func9, Tryd.ntmps9
      go_wp2_with (first
        | ((with_reducible show wpList _ _ _ (⟨some 4, _, _, _, _, _⟩ :: _) _ _); refine wpList_box_blk rfl _ (.tmp 1) rfl cs1 rfl ?_; intro g vg hg1 hg2 Kg Lg)
        | ((with_reducible show wpList _ _ _ (⟨some 5, _, _, _, _, _⟩ :: _) _ _); refine wpList_box_blk rfl _ (.tmp 2) rfl cs2 rfl ?_; intro h v0 hh1 hh2 Q0 L0; have K0 := Lib.hid (Kg.out.over L0.out); have M0 := Lib.hid (step Lg.out L0.out))
        | ((with_reducible show wpList _ _ _ (⟨some 21, _, _, _, _, _⟩ :: _) _ _); refine wpList_load_blk rfl _ (.tmp 4) rfl g rfl _ cs1 K0 69 _ Tryd.underlying32 rfl size_ask HL ?_)
        | fail)
      refine (CC.out v0 M0.out).mono ?_
      rintro e p1 ⟨pds, rfl, hd, L1⟩
      have pD1 := Lib.hid hd
      have pDL := Lib.hid (hd.len KA.out)
      have pDO := Lib.hid hd.one
      have pM1 := Lib.hid (step M0.out L1)
      have pL1 := Lib.hid L1
      clear hd L1
      go_wp2_with (first
        | ((with_reducible show wpList _ _ _ (⟨some 7, _, _, _, _, _⟩ :: _) _ _); refine wpList_alloc_blk rfl _ rfl nz _ ZH ?_; intro px p2 hg5 hg6 pZ2 pL2)
        | ((with_reducible show wpList _ _ _ (⟨none, .store _ (.tmp 7) _, _, _, _, _⟩ :: _) _ _); refine wpList_store_blk rfl _ (.tmp 7) (.tmp 22) rfl px rfl _ nz pds rfl pZ2 69 size_ask HZ pDL pDO ?_; intro p3 pX3 pO3 hg7; have pL3 := Lib.hid (below_only pL2.out pO3.out hg5); have pM3 := Lib.hid (step pM1.out pL3.out); have pD3 := Lib.hid (pD1.out.over pL3.out))
        | ((with_reducible show wpList _ _ _ (⟨some 25, _, _, _, _, _⟩ :: _) _ _); refine wpList_load_blk rfl _ (.tmp 7) rfl px rfl _ pds pX3 69 _ Tryd.underlying32 rfl size_ask pDL ?_)
        | fail)
      have pxl := pX3.out.lt
      refine (CP.out p3 pds pD3.out (HT.out.below pM3.out)).mono ?_
      rintro e p4 ⟨u4, rfl, ho4, L4⟩
      have pB4 := Lib.hid L4
      clear ho4 L4
      obtain ⟨bw0, hbw⟩ : ∃ v, v = p4 := ⟨_, rfl⟩
      have bM0 : Hid (Below W.heap.size W bw0) := by rw [hbw]; exact step pM3.out pB4.out
      have bQ0 : Hid (Blk bw0 h 45 cs2) := by rw [hbw]; exact Q0.out.over (step pL1.out (step pL3.out pB4.out))
      rw [← hbw]
      clear hbw
      go_wp2_with (first
        | ((with_reducible show wpList _ _ _ (⟨some 64, _, _, _, _, _⟩ :: _) _ _); refine wpList_load_blk rfl _ (.tmp 5) rfl h rfl _ cs2 bQ0 20 _ Tryd.underlying45 rfl size_say SL ?_)
        | fail)
      refine (DC.out bw0 bM0.out).mono ?_
      rintro e q1 ⟨qds, rfl, hd, L1⟩
      have qD1 := Lib.hid hd
      have qDL := Lib.hid (hd.len KS.out)
      have qDO := Lib.hid hd.one
      have qM1 := Lib.hid (step bM0.out L1)
      have qL1 := Lib.hid L1
      clear hd L1
      go_wp2_with (first
        | ((with_reducible show wpList _ _ _ (⟨some 15, _, _, _, _, _⟩ :: _) _ _); refine wpList_alloc_blk rfl _ rfl nt _ ZS ?_; intro qx q2 hg5 hg6 qZ2 qL2)
        | ((with_reducible show wpList _ _ _ (⟨none, .store _ (.tmp 15) _, _, _, _, _⟩ :: _) _ _); refine wpList_store_blk rfl _ (.tmp 15) (.tmp 65) rfl qx rfl _ nt qds rfl qZ2 20 size_say SZ qDL qDO ?_; intro q3 qX3 qO3 hg7; have qL3 := Lib.hid (below_only qL2.out qO3.out hg5); have qM3 := Lib.hid (step qM1.out qL3.out); have qD3 := Lib.hid (qD1.out.over qL3.out))
        | ((with_reducible show wpList _ _ _ (⟨some 68, _, _, _, _, _⟩ :: _) _ _); refine wpList_load_blk rfl _ (.tmp 15) rfl qx rfl _ qds qX3 20 _ Tryd.underlying45 rfl size_say qDL ?_)
        | fail)
      have qxl := qX3.out.lt
      refine (DP.out q3 qds qD3.out (HT.out.below qM3.out)).mono ?_
      rintro e q4 ⟨u4, rfl, ho4, L4⟩
      have qB4 := Lib.hid L4
      clear ho4 L4
      have qM4 := Lib.hid (step qM3.out qB4.out)
      go_wp2_with fail
      refine (CL.out q4 (HT.out.below qM4.out)).mono ?_
      rintro e ve ⟨rfl, Le⟩
      go_wp2
      go_ret
      exact ⟨rfl, step qM4.out Le⟩
end Go.Proofs.YtbbjmmooemmeiaaDoor
