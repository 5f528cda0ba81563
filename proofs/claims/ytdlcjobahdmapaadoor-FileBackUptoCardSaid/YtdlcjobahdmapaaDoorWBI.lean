import Derived.WalkKit
import Derived.Deep.Draws
import Derived.Laws.Rows
import Derived.Laws.OwnMore
import Derived.Lib.RuneBytes
import Derived.Lib.ValidLaws
import Derived.Test.YtdlcjobahdmapaaDoorRows
import Derived.Laws.CopyOwn
import Derived.Laws.AppendOwnNone
import Derived.Lib.Hide
import Derived.Laws.AppendOwn
import Derived.OwnWalk
import Derived.Lib.OthersKept
import Derived.Laws.BytesArg
import Derived.Shelf.Utf8.AppendRunePlain
import Derived.Shelf.Unicode.ValidAny
import Derived.Test.YtdlcjobahdmapaaDoorProg
import Derived.WalkSpells
import Derived.WalkLawsBesides
import Derived.Deep.QuietTactic
import Derived.BigQuiet
import Derived.Laws.Bits64
import Derived.Laws.BitsAllLaws
import Derived.ProofKit
import Derived.OpenShut
import Derived.ShutString
import Derived.SizedLaws
import Derived.ChangeOld
import Derived.Lib.AppendZeros
import Derived.Deep.RegionWith
import Derived.Deep.DeepCutAuto
import Derived.Great.Walk
import Derived.Laws.Tables
import Derived.Laws.NewFold
import Derived.Deep.WholeRow
import Derived.Deep.MidRow
import Derived.OneCell
import Derived.Deep.Strs
import Derived.OrdersHeld
import Derived.Laws.StructEq
import Derived.ChangeKeysEq
import Derived.Deep.RegionLaw
import Derived.Deep.OwnRows
import Derived.Lib.LaidIn
import Derived.Lib.LaidU8T
import Derived.Deep.DeepHandedRow
import Derived.Test.YtdlcjobahdmapaaDoorWAD
import Derived.Test.YtdlcjobahdmapaaDoorWAE
import Derived.Test.YtdlcjobahdmapaaDoorWAF
import Derived.Test.YtdlcjobahdmapaaDoorWAG
import Derived.Test.YtdlcjobahdmapaaDoorWAH
import Derived.Test.YtdlcjobahdmapaaDoorWAI
import Derived.Test.YtdlcjobahdmapaaDoorWAJ
import Derived.Test.YtdlcjobahdmapaaDoorWAK
import Derived.Test.YtdlcjobahdmapaaDoorWAL
import Derived.Test.YtdlcjobahdmapaaDoorWAM
import Derived.Test.YtdlcjobahdmapaaDoorWAN
import Derived.Test.YtdlcjobahdmapaaDoorWAO
import Derived.Test.YtdlcjobahdmapaaDoorWAQ
import Derived.Test.YtdlcjobahdmapaaDoorWAR
import Derived.Test.YtdlcjobahdmapaaDoorWAV
import Derived.Test.YtdlcjobahdmapaaDoorWBB
namespace Go.Proofs.YtdlcjobahdmapaaDoor
set_option linter.all false
open Go.RowKit
set_option linter.unusedVariables false
set_option maxRecDepth 100000
theorem rdUp_of {xs : List Int} {most : Int} {r : Rd} {v : Int} {q : Rd} (h : rdN xs 2 r = (v, q)) (hv : v ≤ most) : rdUp xs most r = (v, q) := by
  unfold rdUp
  rw [h, if_neg (fun h2 => by have h3 : most < v := h2.2; omega)]
theorem fg_back (c : Int) (a : AskV) (ka : a.ok) (he : fpErr c a = 0) : fgErr c (fpOf c a) = 0 ∧ fgOf c (fpOf c a) = a := by
  have h := fg_at c a ka he []
  rw [List.append_nil] at h
  have h0 : fgErr c (fpOf c a) = 0 := by
    unfold fgErr
    rw [if_pos (fp_parts he).1, h]
    unfold rdEnd
    rw [if_neg (fun h2 => h2.2 rfl)]
  refine ⟨h0, ?_⟩
  unfold fgOf
  rw [if_pos h0, h]
theorem sg_back (c : Int) (s : SayV) (ks : s.ok) (he : fsErr c s = 0) : sgErr c (fsOf c s) = 0 ∧ sgOf c (fsOf c s) = s := by
  obtain ⟨hk, hw, hm, hkd, hd, ho⟩ := fs_parts he
  have b1 := ks.lev; have b2 := ks.dur; have b3 := ks.made; have b4 := ks.file; have b5 := ks.siz; have b6 := ks.kind; have b7 := ks.n
  have key : sgP c (fsOf c s) = (s, ⟨(fsOf c s).length, 0⟩) := by
    rw [ho]
    rcases known_cases hk with rfl | rfl | rfl | rfl | rfl | rfl
    · obtain ⟨xs, hxs⟩ : ∃ x, x = bodyFS 5 s := ⟨_, rfl⟩
      rw [← hxs]
      have hx0 : xs = le s.lev 1 ++ (le s.dur 1 ++ (le s.made 2 ++ (le s.file 8 ++ (le s.siz 8 ++ (le s.kind 2 ++ List.replicate 2 0))))) := hxs
      have e1 : s1 xs = (s.lev, ⟨1, 0⟩) := rdN_at' (pre := []) 256 (by decide) hx0 rfl b1.1 (by omega)
      have e2 : s2 xs = (s.dur, ⟨2, 0⟩) := by unfold s2; rw [e1]; exact rdN_at' (pre := le s.lev 1) 256 (by decide) hx0 (by simp [le_length]) b2.1 (by omega)
      have e3 : s3 xs = (s.made, ⟨4, 0⟩) := by unfold s3; rw [e2]; exact rdUp_of (rdN_at' (pre := le s.lev 1 ++ le s.dur 1) 65536 (by decide) (by rw [hx0]; simp only [List.append_assoc]; rfl) (by simp [le_length]) b3.1 (by omega)) hm
      have e4 : s4 xs = (s.file, ⟨12, 0⟩) := by unfold s4; rw [e3]; exact rdN_at' (pre := le s.lev 1 ++ le s.dur 1 ++ le s.made 2) 18446744073709551616 (by decide) (by rw [hx0]; simp only [List.append_assoc]; rfl) (by simp [le_length]) b4.1 (by omega)
      have e5 : s5 xs = (s.siz, ⟨20, 0⟩) := by unfold s5; rw [e4]; exact rdN_at' (pre := le s.lev 1 ++ le s.dur 1 ++ le s.made 2 ++ le s.file 8) 18446744073709551616 (by decide) (by rw [hx0]; simp only [List.append_assoc]; rfl) (by simp [le_length]) b5.1 (by omega)
      have e6 : s6 xs = (s.kind, ⟨22, 0⟩) := by unfold s6; rw [e5]; exact rdUp_of (rdN_at' (pre := le s.lev 1 ++ le s.dur 1 ++ le s.made 2 ++ le s.file 8 ++ le s.siz 8) 65536 (by decide) (by rw [hx0]; simp only [List.append_assoc]; rfl) (by simp [le_length]) b6.1 (by omega)) hkd
      have e7 : s7 xs = ⟨24, 0⟩ := by unfold s7; rw [e6]; exact rdZ_at' (pre := le s.lev 1 ++ le s.dur 1 ++ le s.made 2 ++ le s.file 8 ++ le s.siz 8 ++ le s.kind 2) (post := []) (by rw [hx0]; simp only [List.append_assoc, List.append_nil]) (by simp [le_length])
      have hlen : xs.length = 24 := by rw [hx0]; simp [le_length]
      unfold sgP
      rw [if_pos rfl, e1, e2, e3, e4, e5, e6, e7, hlen]
      conv => rhs; rw [← hw]
      rfl
    · have e := rdZ_at' (xs := bodyFS 6 s) (pre := []) (post := []) (m := 4) (p := 0) (by show List.replicate 4 0 = _; simp) rfl
      unfold sgP
      rw [if_neg (by decide), if_neg (by decide), if_neg (by decide)]
      show (zeroSay, rdZ (bodyFS 6 s) 4 ⟨0, 0⟩) = _
      rw [e]
      conv => rhs; rw [← hw]
      rfl
    · have e := rdZ_at' (xs := bodyFS 7 s) (pre := []) (post := []) (m := 4) (p := 0) (by show List.replicate 4 0 = _; simp) rfl
      unfold sgP
      rw [if_neg (by decide), if_neg (by decide), if_neg (by decide)]
      show (zeroSay, rdZ (bodyFS 7 s) 4 ⟨0, 0⟩) = _
      rw [e]
      conv => rhs; rw [← hw]
      rfl
    · have e1 : s8 (bodyFS 8 s) = (s.data, ⟨0 + 4 + s.data.length, 0⟩) := rdData_at' (pre := []) (post := []) (by show le s.data.length 4 ++ s.data = _; simp) rfl hd
      have hlen : (bodyFS 8 s).length = 0 + 4 + s.data.length := by show (le s.data.length 4 ++ s.data).length = _; rw [List.length_append, le_length, Nat.zero_add]
      unfold sgP
      rw [if_neg (by decide), if_pos rfl, e1, hlen]
      conv => rhs; rw [← hw]
      rfl
    · have e1 : s9 (bodyFS 9 s) = (s.n, ⟨4, 0⟩) := rdN_at' (pre := []) (post := []) 4294967296 (by decide) (by show le s.n 4 = _; simp) rfl b7.1 (by omega)
      have hlen : (bodyFS 9 s).length = 4 := le_length _ _
      unfold sgP
      rw [if_neg (by decide), if_neg (by decide), if_pos rfl, e1, hlen]
      conv => rhs; rw [← hw]
      rfl
    · have e := rdZ_at' (xs := bodyFS 10 s) (pre := []) (post := []) (m := 4) (p := 0) (by show List.replicate 4 0 = _; simp) rfl
      unfold sgP
      rw [if_neg (by decide), if_neg (by decide), if_neg (by decide)]
      show (zeroSay, rdZ (bodyFS 10 s) 4 ⟨0, 0⟩) = _
      rw [e]
      conv => rhs; rw [← hw]
      rfl
  have h0 : sgErr c (fsOf c s) = 0 := by
    unfold sgErr
    rw [if_pos hk, key]
    unfold rdEnd
    rw [if_neg (fun h2 => h2.2 rfl)]
  refine ⟨h0, ?_⟩
  unfold sgOf
  rw [if_pos h0, key]
end Go.Proofs.YtdlcjobahdmapaaDoor

namespace Go.Proofs.YtdlcjobahdmapaaDoor
set_option linter.all false
open Go.RowKit
set_option linter.unusedVariables false
set_option maxRecDepth 100000
set_option maxHeartbeats 8000000 in
theorem walk_FileBack (W : World) (hT : Tabs W) (a0 : Int) (w0 : 0 ≤ a0 ∧ a0 ≤ 65535) (cs1 : List Value) (a1 : AskV) (k1h : a1.ok) (h1h : AskIs W W.heap.size cs1 a1) (b1 : a1.dial.length ≤ 1048576 ∧ a1.data.length ≤ 1048576 ∧ a1.locks.length ≤ 1048576 ∧ a1.user.size ≤ 1048576 ∧ a1.share.size ≤ 1048576 ∧ a1.name.size ≤ 1048576 ∧ a1.pat.size ≤ 1048576 ∧ a1.aft.size ≤ 1048576)
    (cs2 : List Value) (a2 : SayV) (k2h : a2.ok) (h2h : SayIs W W.heap.size cs2 a2) (b2 : a2.data.length ≤ 1048576 ∧ a2.ents.length ≤ 1048576) :
    Calls Tryd.prog 6 #[.int .u16 a0, .agg cs1.toArray, .agg cs2.toArray] W fun e W' => e = .returned (.bool true) ∧ Below W.heap.size W W' := by
  have HT := Lib.hid hT
  have HL := Lib.hid (h1h.len k1h)
  have HA := Lib.hid h1h
  have ZH := Lib.hid zero_ask
  have HZ : Hid ((acells (.slice none 0 0) (.slice none 0 0) (.slice none 0 0) zeroAsk).length = 69) := acells_len zeroAsk_ok
  have SL := Lib.hid (h2h.len k2h)
  have SA := Lib.hid h2h
  have ZS := Lib.hid zero_say
  have SZ : Hid ((scells (.slice none 0 0) (.slice none 0 0) zeroSay).length = 20) := scells_len zeroSay_ok
  obtain ⟨b1a, b1b, b1c, b1d, b1e, b1f, _⟩ := b1
  obtain ⟨b2b, b2c⟩ := b2
  have HYB := Lib.hid (fp_bytes (c := a0) k1h)
  have HYL := Lib.hid (fp_len (c := a0) (a := a1))
  have SYB := Lib.hid (fs_bytes (c := a0) k2h)
  have SYL := Lib.hid (fs_len (c := a0) (a := a2))
  have GK := Lib.hid (fgOf_ok a0 HYB.out)
  have TK := Lib.hid (sgOf_ok a0 SYB.out)
  have FB := fg_back a0 a1 k1h
  have FS := sg_back a0 a2 k2h
  have CP : Hid (∀ w : World, Below W.heap.size W w → Calls Tryd.prog 12 #[.int .u16 a0, .agg cs1.toArray] w fun e w' => ∃ v, e = .returned (.tuple #[v, .int .i64 (fpErr a0 a1)]) ∧ Own w' w.heap.size v (fpOf a0 a1) ∧ Below w.heap.size w w') := fun w hb => (FPutAsk_any w a0 cs1 a1 w0 k1h (h1h.over hb) ⟨by omega, by omega⟩ (by omega) (by omega) (hT.below hb)).mono fun e w' ⟨v, q1, q2, q3⟩ => ⟨v, q1, q2.own8, q3⟩
  have CG : Hid (∀ (w : World) (A : Option Addr) (n c : Nat), Holds w w.heap.size A n c (fpOf a0 a1) → Calls Tryd.prog 22 #[.int .u16 a0, .slice A n c] w fun e w' => ∃ cs : List Value, e = .returned (.tuple #[.agg cs.toArray, .int .i64 (fgErr a0 (fpOf a0 a1))]) ∧ AskIs w' w'.heap.size cs (fgOf a0 (fpOf a0 a1)) ∧ Below w.heap.size w w') := fun w A n c hh => (FGetAsk_any w a0 A n c _ w0 hh).mono fun e w' ⟨ds, vx, h1, h2, _, _, h3⟩ => ⟨ds, h1, h2, h3⟩
  have CQ : Hid (∀ (w : World) (ds : List Value), AskIs w w.heap.size ds a1 → AskIs w w.heap.size cs1 a1 → Calls Tryd.prog 15 #[.agg ds.toArray, .agg cs1.toArray] w fun e w' => e = .returned (.bool true) ∧ Below w.heap.size w w') := fun w ds h1 h2 => by
    have h3 := Asks_any w ds cs1 a1 a1 k1h k1h h1 h2 ⟨by omega, by omega, by omega⟩ ⟨by omega, by omega, by omega⟩
    rwa [decide_eq_true rfl] at h3
  have DP : Hid (∀ w : World, Below W.heap.size W w → Calls Tryd.prog 18 #[.int .u16 a0, .agg cs2.toArray] w fun e w' => ∃ v, e = .returned (.tuple #[v, .int .i64 (fsErr a0 a2)]) ∧ Own w' w.heap.size v (fsOf a0 a2) ∧ Below w.heap.size w w') := fun w hb => (FPutSay_any w a0 cs2 a2 w0 k2h (h2h.over hb)).mono fun e w' ⟨v, q1, q2, q3⟩ => ⟨v, q1, q2.own8, q3⟩
  have DG : Hid (∀ (w : World) (A : Option Addr) (n c : Nat), Holds w w.heap.size A n c (fsOf a0 a2) → Calls Tryd.prog 24 #[.int .u16 a0, .slice A n c] w fun e w' => ∃ cs : List Value, e = .returned (.tuple #[.agg cs.toArray, .int .i64 (sgErr a0 (fsOf a0 a2))]) ∧ SayIs w' w'.heap.size cs (sgOf a0 (fsOf a0 a2)) ∧ Below w.heap.size w w') := fun w A n c hh => (FGetSay_any w a0 A n c _ w0 hh).mono fun e w' ⟨ds, vx, h1, h2, _, _, h3⟩ => ⟨ds, h1, h2, h3⟩
  have DQ : Hid (∀ (w : World) (ds : List Value), SayIs w w.heap.size ds a2 → SayIs w w.heap.size cs2 a2 → Calls Tryd.prog 20 #[.agg ds.toArray, .agg cs2.toArray] w fun e w' => e = .returned (.bool true) ∧ Below w.heap.size w w') := fun w ds h1 h2 => by
    have h3 := Says_any w ds cs2 a2 a2 k2h k2h h1 h2 ⟨by omega, by omega⟩ ⟨by omega, by omega⟩
    rwa [decide_eq_true rfl] at h3
  have CL : Hid (∀ w : World, Tabs w → Calls Tryd.prog 16 #[] w fun e w' => e = .returned (.bool true) ∧ Below w.heap.size w w') := flives_any
  obtain ⟨er, her⟩ : ∃ x, x = fpErr a0 a1 := ⟨_, rfl⟩
  obtain ⟨fs, hfs⟩ : ∃ x, x = fsErr a0 a2 := ⟨_, rfl⟩
  rw [← her] at CP FB
  rw [← hfs] at DP FS
  obtain ⟨ys, hys⟩ : ∃ x, x = fpOf a0 a1 := ⟨_, rfl⟩
  obtain ⟨zs, hzs⟩ : ∃ x, x = fsOf a0 a2 := ⟨_, rfl⟩
  rw [← hys] at CP CG HYB HYL GK FB
  rw [← hzs] at DP DG SYB SYL TK FS
  obtain ⟨eb, heb⟩ : ∃ x, x = fgErr a0 ys := ⟨_, rfl⟩
  obtain ⟨ga, hga⟩ : ∃ x, x = fgOf a0 ys := ⟨_, rfl⟩
  obtain ⟨ft, hft⟩ : ∃ x, x = sgErr a0 zs := ⟨_, rfl⟩
  obtain ⟨gs, hgs⟩ : ∃ x, x = sgOf a0 zs := ⟨_, rfl⟩
  rw [← heb, ← hga] at CG
  rw [← hga] at GK
  rw [← heb, ← hga] at FB
  rw [← hft, ← hgs] at DG
  rw [← hgs] at TK
  rw [← hft, ← hgs] at FS
  obtain ⟨nz, hnz⟩ : ∃ x, x = acells (.slice none 0 0) (.slice none 0 0) (.slice none 0 0) zeroAsk := ⟨_, rfl⟩
  rw [← hnz] at ZH HZ
  obtain ⟨nt, hnt⟩ : ∃ x, x = scells (.slice none 0 0) (.slice none 0 0) zeroSay := ⟨_, rfl⟩
  rw [← hnt] at ZS SZ
  clear her hfs hys hzs heb hga hft hgs hnz hnt hT h1h h2h
  by_cases he : er = 0
  · obtain ⟨rfl, rfl⟩ := FB he
    subst he
    by_cases hf : fs = 0
    · obtain ⟨rfl, rfl⟩ := FS hf
      subst hf
      go_enter Tryd.func6, Tryd.ntmps6
      go_wp2_with (first
        | ((with_reducible show wpList _ _ _ (⟨some 4, _, _, _, _, _⟩ :: _) _ _); refine wpList_box_blk rfl _ (.tmp 1) rfl cs1 rfl ?_; intro g v1 hg1 hg2 K1 L1)
        | ((with_reducible show wpList _ _ _ (⟨some 5, _, _, _, _, _⟩ :: _) _ _); refine wpList_box_blk rfl _ (.tmp 2) rfl cs2 rfl ?_; intro h v2 hh1 hh2 Q2 L2; have K2 := Lib.hid (K1.out.over L2.out); have M2 := Lib.hid (step L1.out L2.out))
        | ((with_reducible show wpList _ _ _ (⟨some 17, _, _, _, _, _⟩ :: _) _ _); refine wpList_load_blk rfl _ (.tmp 4) rfl g rfl _ cs1 K2 69 _ Tryd.underlying32 rfl size_ask HL ?_)
        | fail)
      refine (CP.out v2 M2.out).mono ?_
      rintro e v3 ⟨u3, rfl, ho3, L3⟩
      have K3 := Lib.hid (K2.out.over L3)
      have Q3 := Lib.hid (Q2.out.over L3)
      have M3 := Lib.hid (step M2.out L3)
      obtain ⟨A3, c3, rfl, hh3⟩ := ho3.holds HYB.out (by have := HYL.out; omega)
      have H3 := Lib.hid hh3
      obtain ⟨m3, hm3⟩ : ∃ m, m = ys.length := ⟨_, rfl⟩
      rw [← hm3] at H3 ⊢
      clear hh3 hm3 ho3 L3 K1 L1 Q2 L2 K2 M2
      go_wp2_with fail
      refine (CG.out v3 A3 m3 c3 H3.out).mono ?_
      rintro e v4 ⟨ds, rfl, hd, L4⟩
      have K4 := Lib.hid (K3.out.over L4)
      have Q4 := Lib.hid (Q3.out.over L4)
      have M4 := Lib.hid (step M3.out L4)
      have D4 := Lib.hid hd
      have DL := Lib.hid (hd.len GK.out)
      have DO := Lib.hid hd.one
      clear hd L4 K3 Q3 M3 H3
      go_wp2_with (first
        | ((with_reducible show wpList _ _ _ (⟨some 9, _, _, _, _, _⟩ :: _) _ _); refine wpList_alloc_blk rfl _ rfl nz _ ZH ?_; intro h5 v5 hg5 hg6 Z5 L5)
        | ((with_reducible show wpList _ _ _ (⟨none, .store _ (.tmp 9) _, _, _, _, _⟩ :: _) _ _); refine wpList_store_blk rfl _ (.tmp 9) (.tmp 25) rfl h5 rfl _ nz ds rfl Z5 69 size_ask HZ DL DO ?_; intro v6 X6 O6 hg7; have L6 := Lib.hid (below_only L5.out O6.out hg5); have M6 := Lib.hid (step M4.out L6.out); have K6 := Lib.hid (K4.out.over L6.out); have Q6 := Lib.hid (Q4.out.over L6.out); have D6 := Lib.hid (D4.out.over L6.out))
        | ((with_reducible show wpList _ _ _ (⟨some 33, _, _, _, _, _⟩ :: _) _ _); refine wpList_load_want (by kernel_rfl) _ (.tmp 9) rfl h5 rfl _ ds X6 69 _ Tryd.underlying32 rfl size_ask DL ?_)
        | ((with_reducible show wpList _ _ _ (⟨some 34, _, _, _, _, _⟩ :: _) _ _); refine wpList_load_want (by kernel_rfl) _ (.tmp 4) rfl g rfl _ cs1 K6 69 _ Tryd.underlying32 rfl size_ask HL ?_)
        | fail)
      refine (CQ.out v6 ds D6.out (HA.out.over M6.out)).mono ?_
      rintro e v7 ⟨rfl, L7⟩
      have Q7 := Lib.hid (Q6.out.over L7)
      have M7 := Lib.hid (step M6.out L7)
      clear L7 Q6 M6 K6 D6 X6 O6 L6 Z5 L5 K4 Q4 M4 D4
      go_wp2_with (first
        | ((with_reducible show wpList _ _ _ (⟨some 41, _, _, _, _, _⟩ :: _) _ _); refine wpList_load_blk rfl _ (.tmp 5) rfl h rfl _ cs2 Q7 20 _ Tryd.underlying45 rfl size_say SL ?_)
        | fail)
      refine (DP.out v7 M7.out).mono ?_
      rintro e v8 ⟨u8, rfl, ho8, L8⟩
      have Q8 := Lib.hid (Q7.out.over L8)
      have M8 := Lib.hid (step M7.out L8)
      obtain ⟨A8, c8, rfl, hh8⟩ := ho8.holds SYB.out (by have := SYL.out; omega)
      have H8 := Lib.hid hh8
      obtain ⟨m8, hm8⟩ : ∃ m, m = zs.length := ⟨_, rfl⟩
      rw [← hm8] at H8 ⊢
      clear hh8 hm8 ho8 L8 Q7 M7
      go_wp2_with fail
      refine (DG.out v8 A8 m8 c8 H8.out).mono ?_
      rintro e v9 ⟨es, rfl, hd9, L9⟩
      have Q9 := Lib.hid (Q8.out.over L9)
      have M9 := Lib.hid (step M8.out L9)
      have D9 := Lib.hid hd9
      have EL := Lib.hid (hd9.len TK.out)
      have EO := Lib.hid hd9.one
      clear hd9 L9 Q8 M8 H8
      go_wp2_with (first
        | ((with_reducible show wpList _ _ _ (⟨some 13, _, _, _, _, _⟩ :: _) _ _); refine wpList_alloc_blk rfl _ rfl nt _ ZS ?_; intro h10 v10 hg10 hg11 Z10 L10)
        | ((with_reducible show wpList _ _ _ (⟨none, .store _ (.tmp 13) _, _, _, _, _⟩ :: _) _ _); refine wpList_store_blk rfl _ (.tmp 13) (.tmp 49) rfl h10 rfl _ nt es rfl Z10 20 size_say SZ EL EO ?_; intro v11 X11 O11 hg12; have L11 := Lib.hid (below_only L10.out O11.out hg10); have M11 := Lib.hid (step M9.out L11.out); have Q11 := Lib.hid (Q9.out.over L11.out); have D11 := Lib.hid (D9.out.over L11.out))
        | ((with_reducible show wpList _ _ _ (⟨some 57, _, _, _, _, _⟩ :: _) _ _); refine wpList_load_want (by kernel_rfl) _ (.tmp 13) rfl h10 rfl _ es X11 20 _ Tryd.underlying45 rfl size_say EL ?_)
        | ((with_reducible show wpList _ _ _ (⟨some 58, _, _, _, _, _⟩ :: _) _ _); refine wpList_load_want (by kernel_rfl) _ (.tmp 5) rfl h rfl _ cs2 Q11 20 _ Tryd.underlying45 rfl size_say SL ?_)
        | fail)
      refine (DQ.out v11 es D11.out (SA.out.over M11.out)).mono ?_
      rintro e v12 ⟨rfl, L12⟩
      have M12 := Lib.hid (step M11.out L12)
      go_wp2_with fail
      refine (CL.out v12 (HT.out.below M12.out)).mono ?_
      rintro e v13 ⟨rfl, L13⟩
      go_wp2
      go_ret
      exact ⟨rfl, step M12.out L13⟩
    · clear FS
      go_enter Tryd.func6, Tryd.ntmps6
      go_wp2_with (first
        | ((with_reducible show wpList _ _ _ (⟨some 4, _, _, _, _, _⟩ :: _) _ _); refine wpList_box_blk rfl _ (.tmp 1) rfl cs1 rfl ?_; intro g v1 hg1 hg2 K1 L1)
        | ((with_reducible show wpList _ _ _ (⟨some 5, _, _, _, _, _⟩ :: _) _ _); refine wpList_box_blk rfl _ (.tmp 2) rfl cs2 rfl ?_; intro h v2 hh1 hh2 Q2 L2; have K2 := Lib.hid (K1.out.over L2.out); have M2 := Lib.hid (step L1.out L2.out))
        | ((with_reducible show wpList _ _ _ (⟨some 17, _, _, _, _, _⟩ :: _) _ _); refine wpList_load_blk rfl _ (.tmp 4) rfl g rfl _ cs1 K2 69 _ Tryd.underlying32 rfl size_ask HL ?_)
        | fail)
      refine (CP.out v2 M2.out).mono ?_
      rintro e v3 ⟨u3, rfl, ho3, L3⟩
      have K3 := Lib.hid (K2.out.over L3)
      have Q3 := Lib.hid (Q2.out.over L3)
      have M3 := Lib.hid (step M2.out L3)
      obtain ⟨A3, c3, rfl, hh3⟩ := ho3.holds HYB.out (by have := HYL.out; omega)
      have H3 := Lib.hid hh3
      obtain ⟨m3, hm3⟩ : ∃ m, m = ys.length := ⟨_, rfl⟩
      rw [← hm3] at H3 ⊢
      clear hh3 hm3 ho3 L3 K1 L1 Q2 L2 K2 M2
      go_wp2_with fail
      refine (CG.out v3 A3 m3 c3 H3.out).mono ?_
      rintro e v4 ⟨ds, rfl, hd, L4⟩
      have K4 := Lib.hid (K3.out.over L4)
      have Q4 := Lib.hid (Q3.out.over L4)
      have M4 := Lib.hid (step M3.out L4)
      have D4 := Lib.hid hd
      have DL := Lib.hid (hd.len GK.out)
      have DO := Lib.hid hd.one
      clear hd L4 K3 Q3 M3 H3
      go_wp2_with (first
        | ((with_reducible show wpList _ _ _ (⟨some 9, _, _, _, _, _⟩ :: _) _ _); refine wpList_alloc_blk rfl _ rfl nz _ ZH ?_; intro h5 v5 hg5 hg6 Z5 L5)
        | ((with_reducible show wpList _ _ _ (⟨none, .store _ (.tmp 9) _, _, _, _, _⟩ :: _) _ _); refine wpList_store_blk rfl _ (.tmp 9) (.tmp 25) rfl h5 rfl _ nz ds rfl Z5 69 size_ask HZ DL DO ?_; intro v6 X6 O6 hg7; have L6 := Lib.hid (below_only L5.out O6.out hg5); have M6 := Lib.hid (step M4.out L6.out); have K6 := Lib.hid (K4.out.over L6.out); have Q6 := Lib.hid (Q4.out.over L6.out); have D6 := Lib.hid (D4.out.over L6.out))
        | ((with_reducible show wpList _ _ _ (⟨some 33, _, _, _, _, _⟩ :: _) _ _); refine wpList_load_want (by kernel_rfl) _ (.tmp 9) rfl h5 rfl _ ds X6 69 _ Tryd.underlying32 rfl size_ask DL ?_)
        | ((with_reducible show wpList _ _ _ (⟨some 34, _, _, _, _, _⟩ :: _) _ _); refine wpList_load_want (by kernel_rfl) _ (.tmp 4) rfl g rfl _ cs1 K6 69 _ Tryd.underlying32 rfl size_ask HL ?_)
        | fail)
      refine (CQ.out v6 ds D6.out (HA.out.over M6.out)).mono ?_
      rintro e v7 ⟨rfl, L7⟩
      have Q7 := Lib.hid (Q6.out.over L7)
      have M7 := Lib.hid (step M6.out L7)
      clear L7 Q6 M6 K6 D6 X6 O6 L6 Z5 L5 K4 Q4 M4 D4
      go_wp2_with (first
        | ((with_reducible show wpList _ _ _ (⟨some 41, _, _, _, _, _⟩ :: _) _ _); refine wpList_load_blk rfl _ (.tmp 5) rfl h rfl _ cs2 Q7 20 _ Tryd.underlying45 rfl size_say SL ?_)
        | fail)
      refine (DP.out v7 M7.out).mono ?_
      rintro e v8 ⟨u8, rfl, ho8, L8⟩
      have Q8 := Lib.hid (Q7.out.over L8)
      have M8 := Lib.hid (step M7.out L8)
      obtain ⟨A8, c8, rfl, hh8⟩ := ho8.holds SYB.out (by have := SYL.out; omega)
      have H8 := Lib.hid hh8
      obtain ⟨m8, hm8⟩ : ∃ m, m = zs.length := ⟨_, rfl⟩
      rw [← hm8] at H8 ⊢
      clear hh8 hm8 ho8 L8 Q7 M7
      go_wp2_with fail
      refine (DG.out v8 A8 m8 c8 H8.out).mono ?_
      rintro e v9 ⟨es, rfl, hd9, L9⟩
      have Q9 := Lib.hid (Q8.out.over L9)
      have M9 := Lib.hid (step M8.out L9)
      have D9 := Lib.hid hd9
      have EL := Lib.hid (hd9.len TK.out)
      have EO := Lib.hid hd9.one
      clear hd9 L9 Q8 M8 H8
      go_wp2_with (first
        | ((with_reducible show wpList _ _ _ (⟨some 13, _, _, _, _, _⟩ :: _) _ _); refine wpList_alloc_blk rfl _ rfl nt _ ZS ?_; intro h10 v10 hg10 hg11 Z10 L10)
        | ((with_reducible show wpList _ _ _ (⟨none, .store _ (.tmp 13) _, _, _, _, _⟩ :: _) _ _); refine wpList_store_blk rfl _ (.tmp 13) (.tmp 49) rfl h10 rfl _ nt es rfl Z10 20 size_say SZ EL EO ?_; intro v11 X11 O11 hg12; have L11 := Lib.hid (below_only L10.out O11.out hg10); have M11 := Lib.hid (step M9.out L11.out); have Q11 := Lib.hid (Q9.out.over L11.out); have D11 := Lib.hid (D9.out.over L11.out))
        | fail)
      have M12 := M11
      refine (CL.out v11 (HT.out.below M12.out)).mono ?_
      rintro e v13 ⟨rfl, L13⟩
      go_wp2
      go_ret
      exact ⟨rfl, step M12.out L13⟩
  · clear FB
    by_cases hf : fs = 0
    · obtain ⟨rfl, rfl⟩ := FS hf
      subst hf
      go_enter Tryd.func6, Tryd.ntmps6
      go_wp2_with (first
        | ((with_reducible show wpList _ _ _ (⟨some 4, _, _, _, _, _⟩ :: _) _ _); refine wpList_box_blk rfl _ (.tmp 1) rfl cs1 rfl ?_; intro g v1 hg1 hg2 K1 L1)
        | ((with_reducible show wpList _ _ _ (⟨some 5, _, _, _, _, _⟩ :: _) _ _); refine wpList_box_blk rfl _ (.tmp 2) rfl cs2 rfl ?_; intro h v2 hh1 hh2 Q2 L2; have K2 := Lib.hid (K1.out.over L2.out); have M2 := Lib.hid (step L1.out L2.out))
        | ((with_reducible show wpList _ _ _ (⟨some 17, _, _, _, _, _⟩ :: _) _ _); refine wpList_load_blk rfl _ (.tmp 4) rfl g rfl _ cs1 K2 69 _ Tryd.underlying32 rfl size_ask HL ?_)
        | fail)
      refine (CP.out v2 M2.out).mono ?_
      rintro e v3 ⟨u3, rfl, ho3, L3⟩
      have K3 := Lib.hid (K2.out.over L3)
      have Q3 := Lib.hid (Q2.out.over L3)
      have M3 := Lib.hid (step M2.out L3)
      obtain ⟨A3, c3, rfl, hh3⟩ := ho3.holds HYB.out (by have := HYL.out; omega)
      have H3 := Lib.hid hh3
      obtain ⟨m3, hm3⟩ : ∃ m, m = ys.length := ⟨_, rfl⟩
      rw [← hm3] at H3 ⊢
      clear hh3 hm3 ho3 L3 K1 L1 Q2 L2 K2 M2
      go_wp2_with fail
      refine (CG.out v3 A3 m3 c3 H3.out).mono ?_
      rintro e v4 ⟨ds, rfl, hd, L4⟩
      have K4 := Lib.hid (K3.out.over L4)
      have Q4 := Lib.hid (Q3.out.over L4)
      have M4 := Lib.hid (step M3.out L4)
      have D4 := Lib.hid hd
      have DL := Lib.hid (hd.len GK.out)
      have DO := Lib.hid hd.one
      clear hd L4 K3 Q3 M3 H3
      go_wp2_with (first
        | ((with_reducible show wpList _ _ _ (⟨some 9, _, _, _, _, _⟩ :: _) _ _); refine wpList_alloc_blk rfl _ rfl nz _ ZH ?_; intro h5 v5 hg5 hg6 Z5 L5)
        | ((with_reducible show wpList _ _ _ (⟨none, .store _ (.tmp 9) _, _, _, _, _⟩ :: _) _ _); refine wpList_store_blk rfl _ (.tmp 9) (.tmp 25) rfl h5 rfl _ nz ds rfl Z5 69 size_ask HZ DL DO ?_; intro v6 X6 O6 hg7; have L6 := Lib.hid (below_only L5.out O6.out hg5); have M6 := Lib.hid (step M4.out L6.out); have K6 := Lib.hid (K4.out.over L6.out); have Q6 := Lib.hid (Q4.out.over L6.out); have D6 := Lib.hid (D4.out.over L6.out))
        | ((with_reducible show wpList _ _ _ (⟨some 41, _, _, _, _, _⟩ :: _) _ _); refine wpList_load_blk rfl _ (.tmp 5) rfl h rfl _ cs2 Q6 20 _ Tryd.underlying45 rfl size_say SL ?_)
        | fail)
      refine (DP.out v6 M6.out).mono ?_
      rintro e v8 ⟨u8, rfl, ho8, L8⟩
      have Q8 := Lib.hid (Q6.out.over L8)
      have M8 := Lib.hid (step M6.out L8)
      obtain ⟨A8, c8, rfl, hh8⟩ := ho8.holds SYB.out (by have := SYL.out; omega)
      have H8 := Lib.hid hh8
      obtain ⟨m8, hm8⟩ : ∃ m, m = zs.length := ⟨_, rfl⟩
      rw [← hm8] at H8 ⊢
      clear hh8 hm8 ho8 L8 Q6 M6
      go_wp2_with fail
      refine (DG.out v8 A8 m8 c8 H8.out).mono ?_
      rintro e v9 ⟨es, rfl, hd9, L9⟩
      have Q9 := Lib.hid (Q8.out.over L9)
      have M9 := Lib.hid (step M8.out L9)
      have D9 := Lib.hid hd9
      have EL := Lib.hid (hd9.len TK.out)
      have EO := Lib.hid hd9.one
      clear hd9 L9 Q8 M8 H8
      go_wp2_with (first
        | ((with_reducible show wpList _ _ _ (⟨some 13, _, _, _, _, _⟩ :: _) _ _); refine wpList_alloc_blk rfl _ rfl nt _ ZS ?_; intro h10 v10 hg10 hg11 Z10 L10)
        | ((with_reducible show wpList _ _ _ (⟨none, .store _ (.tmp 13) _, _, _, _, _⟩ :: _) _ _); refine wpList_store_blk rfl _ (.tmp 13) (.tmp 49) rfl h10 rfl _ nt es rfl Z10 20 size_say SZ EL EO ?_; intro v11 X11 O11 hg12; have L11 := Lib.hid (below_only L10.out O11.out hg10); have M11 := Lib.hid (step M9.out L11.out); have Q11 := Lib.hid (Q9.out.over L11.out); have D11 := Lib.hid (D9.out.over L11.out))
        | ((with_reducible show wpList _ _ _ (⟨some 57, _, _, _, _, _⟩ :: _) _ _); refine wpList_load_want (by kernel_rfl) _ (.tmp 13) rfl h10 rfl _ es X11 20 _ Tryd.underlying45 rfl size_say EL ?_)
        | ((with_reducible show wpList _ _ _ (⟨some 58, _, _, _, _, _⟩ :: _) _ _); refine wpList_load_want (by kernel_rfl) _ (.tmp 5) rfl h rfl _ cs2 Q11 20 _ Tryd.underlying45 rfl size_say SL ?_)
        | fail)
      refine (DQ.out v11 es D11.out (SA.out.over M11.out)).mono ?_
      rintro e v12 ⟨rfl, L12⟩
      have M12 := Lib.hid (step M11.out L12)
      go_wp2_with fail
      refine (CL.out v12 (HT.out.below M12.out)).mono ?_
      rintro e v13 ⟨rfl, L13⟩
      go_wp2
      go_ret
      exact ⟨rfl, step M12.out L13⟩
    · clear FS
      go_enter Tryd.func6, Tryd.ntmps6
      go_wp2_with (first
        | ((with_reducible show wpList _ _ _ (⟨some 4, _, _, _, _, _⟩ :: _) _ _); refine wpList_box_blk rfl _ (.tmp 1) rfl cs1 rfl ?_; intro g v1 hg1 hg2 K1 L1)
        | ((with_reducible show wpList _ _ _ (⟨some 5, _, _, _, _, _⟩ :: _) _ _); refine wpList_box_blk rfl _ (.tmp 2) rfl cs2 rfl ?_; intro h v2 hh1 hh2 Q2 L2; have K2 := Lib.hid (K1.out.over L2.out); have M2 := Lib.hid (step L1.out L2.out))
        | ((with_reducible show wpList _ _ _ (⟨some 17, _, _, _, _, _⟩ :: _) _ _); refine wpList_load_blk rfl _ (.tmp 4) rfl g rfl _ cs1 K2 69 _ Tryd.underlying32 rfl size_ask HL ?_)
        | fail)
      refine (CP.out v2 M2.out).mono ?_
      rintro e v3 ⟨u3, rfl, ho3, L3⟩
      have K3 := Lib.hid (K2.out.over L3)
      have Q3 := Lib.hid (Q2.out.over L3)
      have M3 := Lib.hid (step M2.out L3)
      obtain ⟨A3, c3, rfl, hh3⟩ := ho3.holds HYB.out (by have := HYL.out; omega)
      have H3 := Lib.hid hh3
      obtain ⟨m3, hm3⟩ : ∃ m, m = ys.length := ⟨_, rfl⟩
      rw [← hm3] at H3 ⊢
      clear hh3 hm3 ho3 L3 K1 L1 Q2 L2 K2 M2
      go_wp2_with fail
      refine (CG.out v3 A3 m3 c3 H3.out).mono ?_
      rintro e v4 ⟨ds, rfl, hd, L4⟩
      have K4 := Lib.hid (K3.out.over L4)
      have Q4 := Lib.hid (Q3.out.over L4)
      have M4 := Lib.hid (step M3.out L4)
      have D4 := Lib.hid hd
      have DL := Lib.hid (hd.len GK.out)
      have DO := Lib.hid hd.one
      clear hd L4 K3 Q3 M3 H3
      go_wp2_with (first
        | ((with_reducible show wpList _ _ _ (⟨some 9, _, _, _, _, _⟩ :: _) _ _); refine wpList_alloc_blk rfl _ rfl nz _ ZH ?_; intro h5 v5 hg5 hg6 Z5 L5)
        | ((with_reducible show wpList _ _ _ (⟨none, .store _ (.tmp 9) _, _, _, _, _⟩ :: _) _ _); refine wpList_store_blk rfl _ (.tmp 9) (.tmp 25) rfl h5 rfl _ nz ds rfl Z5 69 size_ask HZ DL DO ?_; intro v6 X6 O6 hg7; have L6 := Lib.hid (below_only L5.out O6.out hg5); have M6 := Lib.hid (step M4.out L6.out); have K6 := Lib.hid (K4.out.over L6.out); have Q6 := Lib.hid (Q4.out.over L6.out); have D6 := Lib.hid (D4.out.over L6.out))
        | ((with_reducible show wpList _ _ _ (⟨some 41, _, _, _, _, _⟩ :: _) _ _); refine wpList_load_blk rfl _ (.tmp 5) rfl h rfl _ cs2 Q6 20 _ Tryd.underlying45 rfl size_say SL ?_)
        | fail)
      refine (DP.out v6 M6.out).mono ?_
      rintro e v8 ⟨u8, rfl, ho8, L8⟩
      have Q8 := Lib.hid (Q6.out.over L8)
      have M8 := Lib.hid (step M6.out L8)
      obtain ⟨A8, c8, rfl, hh8⟩ := ho8.holds SYB.out (by have := SYL.out; omega)
      have H8 := Lib.hid hh8
      obtain ⟨m8, hm8⟩ : ∃ m, m = zs.length := ⟨_, rfl⟩
      rw [← hm8] at H8 ⊢
      clear hh8 hm8 ho8 L8 Q6 M6
      go_wp2_with fail
      refine (DG.out v8 A8 m8 c8 H8.out).mono ?_
      rintro e v9 ⟨es, rfl, hd9, L9⟩
      have Q9 := Lib.hid (Q8.out.over L9)
      have M9 := Lib.hid (step M8.out L9)
      have D9 := Lib.hid hd9
      have EL := Lib.hid (hd9.len TK.out)
      have EO := Lib.hid hd9.one
      clear hd9 L9 Q8 M8 H8
      go_wp2_with (first
        | ((with_reducible show wpList _ _ _ (⟨some 13, _, _, _, _, _⟩ :: _) _ _); refine wpList_alloc_blk rfl _ rfl nt _ ZS ?_; intro h10 v10 hg10 hg11 Z10 L10)
        | ((with_reducible show wpList _ _ _ (⟨none, .store _ (.tmp 13) _, _, _, _, _⟩ :: _) _ _); refine wpList_store_blk rfl _ (.tmp 13) (.tmp 49) rfl h10 rfl _ nt es rfl Z10 20 size_say SZ EL EO ?_; intro v11 X11 O11 hg12; have L11 := Lib.hid (below_only L10.out O11.out hg10); have M11 := Lib.hid (step M9.out L11.out); have Q11 := Lib.hid (Q9.out.over L11.out); have D11 := Lib.hid (D9.out.over L11.out))
        | fail)
      have M12 := M11
      refine (CL.out v11 (HT.out.below M12.out)).mono ?_
      rintro e v13 ⟨rfl, L13⟩
      go_wp2
      go_ret
      exact ⟨rfl, step M12.out L13⟩
end Go.Proofs.YtdlcjobahdmapaaDoor
