import Derived.WalkKit
import Derived.Deep.Draws
import Derived.Laws.Rows
import Derived.Laws.OwnMore
import Derived.Lib.RuneBytes
import Derived.Lib.ValidLaws
import Derived.Test.YtbbjmmooemmeiaaDoorRows
import Derived.Laws.CopyOwn
import Derived.Laws.AppendOwnNone
import Derived.Lib.Hide
import Derived.Laws.AppendOwn
import Derived.OwnWalk
import Derived.Lib.OthersKept
import Derived.Laws.BytesArg
import Derived.Shelf.Utf8.AppendRunePlain
import Derived.Shelf.Unicode.ValidAny
import Derived.Test.YtbbjmmooemmeiaaDoorProg
import Derived.WalkSpells
import Derived.WalkLawsBesides
import Derived.Deep.QuietTactic
import Derived.BigQuiet
import Derived.Laws.Bits64
import Derived.Laws.BitsAllLaws
import Derived.ProofKit
import Derived.OpenShut
import Derived.ShutString
import Derived.SizedLaws
import Derived.ChangeOld
import Derived.Lib.AppendZeros
import Derived.Deep.RegionWith
import Derived.Deep.DeepCutAuto
import Derived.Great.Walk
import Derived.Laws.Tables
import Derived.Laws.NewFold
import Derived.Deep.WholeRow
import Derived.Deep.MidRow
import Derived.OneCell
import Derived.Deep.Strs
import Derived.OrdersHeld
import Derived.Laws.StructEq
import Derived.ChangeKeysEq
import Derived.Deep.RegionLaw
import Derived.Deep.OwnRows
import Derived.Test.YtbbjmmooemmeiaaDoorWAD
import Derived.Test.YtbbjmmooemmeiaaDoorWAE
import Derived.Test.YtbbjmmooemmeiaaDoorWAF
import Derived.Test.YtbbjmmooemmeiaaDoorWAG
import Derived.Test.YtbbjmmooemmeiaaDoorWAI
import Derived.Test.YtbbjmmooemmeiaaDoorWAJ
import Derived.Test.YtbbjmmooemmeiaaDoorWAN
import Derived.Test.YtbbjmmooemmeiaaDoorWAS
namespace Go.Proofs.YtbbjmmooemmeiaaDoor
set_option linter.all false
open Go.Lib
theorem enc_le {r : Int} : (enc r).length ≤ 4 := by
  unfold enc
  split
  · simp
  · have := encodeRuneZ_length r
    simpa [encodeRune] using this.2
end Go.Proofs.YtbbjmmooemmeiaaDoor

namespace Go.Proofs.YtbbjmmooemmeiaaDoor
set_option linter.all false
open Go.RowKit
set_option linter.unusedVariables false
set_option maxRecDepth 100000
theorem flat_enc_le (rs : List Int) : (rs.flatMap enc).length ≤ 4 * rs.length := by
  induction rs with
  | nil => exact Nat.le_refl _
  | cons r rs ih =>
    rw [List.flatMap_cons, List.length_append, List.length_cons]
    have := enc_le (r := r)
    omega
theorem units_ge (rs : List Int) : rs.length ≤ unitCount rs := by
  induction rs with
  | nil => exact Nat.le_refl _
  | cons r rs ih => rw [unitCount, List.length_cons]; split <;> omega
theorem getText_le {xs : List Int} (hx : Bytes xs) : (getText xs).length ≤ 4 * xs.length := by
  unfold getText
  cases hg : gets xs with
  | none => exact Nat.zero_le _
  | some rs =>
    obtain ⟨h1, h2⟩ := gets_back hx hg
    have h3 := putBytes_length rs
    rw [h2] at h3
    have h4 := units_ge rs
    have h5 := flat_enc_le rs
    show (rs.flatMap enc).length ≤ _
    omega
theorem gtextOf_le {xs : List Int} (hx : Bytes xs) (a : Int) : (gtextOf xs a).length ≤ 262140 := by
  unfold gtextOf
  split
  · have h1 := growOf_le hx a 512
    have h2 := getText_le (growOf_bytes hx a 512)
    omega
  · exact Nat.zero_le _
theorem size_list (l : List UInt8) : (⟨l.toArray⟩ : ByteArray).size = l.length := by simp [ByteArray.size]
end Go.Proofs.YtbbjmmooemmeiaaDoor

namespace Go.Proofs.YtbbjmmooemmeiaaDoor
set_option linter.all false
set_option linter.unusedVariables false
set_option linter.unusedSimpArgs false
set_option maxRecDepth 100000
theorem rdText_small {xs : List Int} (hx : Bytes xs) (r : Rd) : (⟨(rdText xs r).1.toArray⟩ : ByteArray).size ≤ 262140 := by
  rw [size_list]
  unfold rdText
  split
  · exact gtextOf_le hx _
  · exact Nat.zero_le _
theorem igOf_small (c : Int) {xs : List Int} (hx : Bytes xs) : (igOf c xs).dial.length ≤ 0 ∧ (igOf c xs).data.length ≤ 0 ∧ (igOf c xs).locks.length ≤ 0 ∧ (igOf c xs).name.size ≤ 262140 ∧ (igOf c xs).pat.size ≤ 262140 ∧ (igOf c xs).aft.size ≤ 262140 ∧ (igOf c xs).user.size ≤ 0 ∧ (igOf c xs).share.size ≤ 0 := by
  have z : zeroAsk.name.size ≤ 262140 ∧ zeroAsk.pat.size ≤ 262140 ∧ zeroAsk.aft.size ≤ 262140 ∧ zeroAsk.user.size ≤ 0 ∧ zeroAsk.share.size ≤ 0 := by decide
  by_cases h : igErr c xs = 0
  · unfold igOf
    rw [if_pos h]
    unfold igP
    split
    · exact ⟨Nat.zero_le _, Nat.zero_le _, Nat.zero_le _, z.1, rdText_small hx _, rdText_small hx _, z.2.2.2⟩
    · split
      · exact ⟨Nat.zero_le _, Nat.zero_le _, Nat.zero_le _, z⟩
      · split
        · split
          · exact ⟨Nat.zero_le _, Nat.zero_le _, Nat.zero_le _, z⟩
          · split
            · exact ⟨Nat.zero_le _, Nat.zero_le _, Nat.zero_le _, z⟩
            · split
              · exact ⟨Nat.zero_le _, Nat.zero_le _, Nat.zero_le _, rdText_small hx _, z.2⟩
              · exact ⟨Nat.zero_le _, Nat.zero_le _, Nat.zero_le _, z⟩
        · split
          · exact ⟨Nat.zero_le _, Nat.zero_le _, Nat.zero_le _, z⟩
          · exact ⟨Nat.zero_le _, Nat.zero_le _, Nat.zero_le _, z⟩
  · unfold igOf
    rw [if_neg h]
    exact ⟨Nat.zero_le _, Nat.zero_le _, Nat.zero_le _, z⟩
theorem rdEnts_small {xs : List Int} (hx : Bytes xs) (r : Rd) (k : Nat) : ∀ e ∈ (rdEnts xs r k).1, e.name.size ≤ 262140 := by
  induction k with
  | zero => intro e h; cases h
  | succ k ih =>
    intro e h
    rcases List.mem_append.1 h with h | h
    · exact ih e h
    · rw [List.mem_singleton.1 h]; exact rdText_small hx _
theorem jgOf_small (c : Int) {xs : List Int} (hx : Bytes xs) : (jgOf c xs).data.length ≤ 0 ∧ (jgOf c xs).ents.length ≤ 64 ∧ ∀ e ∈ (jgOf c xs).ents, e.name.size ≤ 262140 := by
  by_cases h : jgErr c xs = 0
  · obtain ⟨h1, _, _⟩ := jg_once c hx h
    obtain ⟨_, _, _, _, hl, _⟩ := jp_parts h1
    refine ⟨?_, hl, ?_⟩
    · unfold jgOf
      rw [if_pos h]
      unfold jgP
      repeat' split
      all_goals exact Nat.zero_le _
    · unfold jgOf
      rw [if_pos h]
      unfold jgP
      split
      · exact rdEnts_small hx _ _
      · split
        · intro e h; cases h
        · split
          · intro e h; cases h
          · intro e h; cases h
  · unfold jgOf
    rw [if_neg h]
    exact ⟨Nat.zero_le _, Nat.zero_le _, fun e h => by cases h⟩
end Go.Proofs.YtbbjmmooemmeiaaDoor

namespace Go.Proofs.YtbbjmmooemmeiaaDoor
set_option linter.all false
open Go.RowKit
set_option linter.unusedVariables false
set_option maxRecDepth 100000
set_option maxHeartbeats 8000000 in
theorem walk_InfoOnce (W : World) (hT : Tabs W) (a0 : Int) (w0 : 0 ≤ a0 ∧ a0 ≤ 65535) (A1 : Option Addr) (n1 c1 : Nat) (z1 : List Int) (l1 : n1 ≤ c1) (r1 : c1 ≤ 140737488351232) (h1 : Holds W W.heap.size A1 c1 c1 z1) :
    Calls Tryd.prog 7 #[.int .u16 a0, .slice A1 n1 c1] W fun e W' => e = .returned (.bool true) ∧ Below W.heap.size W W' := by
  have HT := Lib.hid hT
  have h := h1.head l1
  obtain ⟨xs, hxs⟩ : ∃ xs, xs = z1.take n1 := ⟨_, rfl⟩
  rw [← hxs] at h
  have HX := Lib.hid h
  have HXB := Lib.hid h.byte
  have HXL := Lib.hid h.len
  have hbig : n1 ≤ 140737488351232 := by omega
  have ZH := Lib.hid zero_ask
  have HZ : Hid ((acells (.slice none 0 0) (.slice none 0 0) (.slice none 0 0) zeroAsk).length = 69) := acells_len zeroAsk_ok
  have ZS := Lib.hid zero_say
  have SZ : Hid ((scells (.slice none 0 0) (.slice none 0 0) zeroSay).length = 20) := scells_len zeroSay_ok
  have GK := Lib.hid (igOf_ok a0 HXB.out)
  have TK := Lib.hid (jgOf_ok a0 HXB.out)
  have GU := Lib.hid (igOf_small a0 HXB.out)
  have TU := Lib.hid (jgOf_small a0 HXB.out)
  have FB := ig_once a0 h.byte
  have FS := jg_once a0 h.byte
  have CG : Hid (∀ (w : World), Below W.heap.size W w → Calls Tryd.prog 21 #[.int .u16 a0, .slice A1 n1 c1] w fun e w' => ∃ cs : List Value, e = .returned (.tuple #[.agg cs.toArray, .int .i64 (igErr a0 xs)]) ∧ AskIs w' w'.heap.size cs (igOf a0 xs) ∧ Below w.heap.size w w') := fun w hb => (IGetAsk_any w a0 A1 n1 c1 xs w0 (h.over hb)).mono fun e w' ⟨ds, h1, h2, _, h3⟩ => ⟨ds, h1, h2, h3⟩
  have DG : Hid (∀ (w : World), Below W.heap.size W w → Calls Tryd.prog 23 #[.int .u16 a0, .slice A1 n1 c1] w fun e w' => ∃ cs : List Value, e = .returned (.tuple #[.agg cs.toArray, .int .i64 (jgErr a0 xs)]) ∧ SayIs w' w'.heap.size cs (jgOf a0 xs) ∧ Below w.heap.size w w') := fun w hb => (IGetSay_any w a0 A1 n1 c1 xs w0 (h.over hb)).mono fun e w' ⟨ds, h1, h2, _, h3⟩ => ⟨ds, h1, h2, h3⟩
  have CP : Hid (∀ (w : World) (ds : List Value), AskIs w w.heap.size ds (igOf a0 xs) → Tabs w → Calls Tryd.prog 11 #[.int .u16 a0, .agg ds.toArray] w fun e w' => ∃ v, e = .returned (.tuple #[v, .int .i64 (ipErr a0 (igOf a0 xs))]) ∧ Own w' w.heap.size v (ipOf a0 (igOf a0 xs)) ∧ Below w.heap.size w w') := fun w ds hd hT => (IPutAsk_any w a0 ds _ w0 GK.out hd ⟨by have := GU.out; omega, by have := GU.out; omega⟩ ⟨by have := GU.out; omega, by have := GU.out; omega, by have := GU.out; omega⟩ hT).mono fun e w' ⟨v, q1, q2, q3⟩ => ⟨v, q1, q2.own8, q3⟩
  have DP : Hid (∀ (w : World) (ds : List Value), SayIs w w.heap.size ds (jgOf a0 xs) → Tabs w → Calls Tryd.prog 17 #[.int .u16 a0, .agg ds.toArray] w fun e w' => ∃ v, e = .returned (.tuple #[v, .int .i64 (jpErr a0 (jgOf a0 xs))]) ∧ Own w' w.heap.size v (jpOf a0 (jgOf a0 xs)) ∧ Below w.heap.size w w') := fun w ds hd hT => (IPutSay_any w a0 ds _ w0 TK.out hd ⟨by have := TU.out.2.1; omega, fun e he => by have := TU.out.2.2 e he; omega⟩ hT).mono fun e w' ⟨v, q1, q2, q3⟩ => ⟨v, q1, q2.own8, q3⟩
  have CS : Hid (∀ (w : World) (A A' : Option Addr) (n c n' c' : Nat), Holds w w.heap.size A n c xs → Holds w w.heap.size A' n' c' xs → Calls Tryd.prog 13 #[.slice A n c, .slice A' n' c'] w fun e w' => e = .returned (.bool true) ∧ ∃ k, w.drewN k = w') := fun w A A' n c n' c' h1 h2 => by
    have h3 := Same_any w _ _ _ _ _ _ _ _ xs xs h1 h2
    rwa [decide_eq_true rfl] at h3
  have CL : Hid (∀ w : World, Tabs w → Calls Tryd.prog 15 #[] w fun e w' => e = .returned (.bool true) ∧ Below w.heap.size w w') := ilives_any
  obtain ⟨ga, hga⟩ : ∃ x, x = igOf a0 xs := ⟨_, rfl⟩
  obtain ⟨eb, heb⟩ : ∃ x, x = igErr a0 xs := ⟨_, rfl⟩
  obtain ⟨gs, hgs⟩ : ∃ x, x = jgOf a0 xs := ⟨_, rfl⟩
  obtain ⟨ft, hft⟩ : ∃ x, x = jgErr a0 xs := ⟨_, rfl⟩
  rw [← hga] at CP GK GU FB
  rw [← hga, ← heb] at CG
  rw [← heb] at FB
  rw [← hgs] at DP TK FS
  rw [← hgs, ← hft] at DG
  rw [← hft] at FS
  obtain ⟨er, her⟩ : ∃ x, x = ipErr a0 ga := ⟨_, rfl⟩
  obtain ⟨ys, hys⟩ : ∃ x, x = ipOf a0 ga := ⟨_, rfl⟩
  obtain ⟨fs, hfs⟩ : ∃ x, x = jpErr a0 gs := ⟨_, rfl⟩
  obtain ⟨zs, hzs⟩ : ∃ x, x = jpOf a0 gs := ⟨_, rfl⟩
  rw [← her, ← hys] at CP FB
  rw [← hfs, ← hzs] at DP FS
  obtain ⟨nz, hnz⟩ : ∃ x, x = acells (.slice none 0 0) (.slice none 0 0) (.slice none 0 0) zeroAsk := ⟨_, rfl⟩
  rw [← hnz] at ZH HZ
  obtain ⟨nt, hnt⟩ : ∃ x, x = scells (.slice none 0 0) (.slice none 0 0) zeroSay := ⟨_, rfl⟩
  rw [← hnt] at ZS SZ
  clear hga heb hgs hft her hys hfs hzs hnz hnt hT h h1 hxs GU
  by_cases he : eb = 0
  · rw [(FB he).1, (FB he).2.1] at CP
    clear FB
    subst he
    by_cases hf : ft = 0
    · rw [(FS hf).1, (FS hf).2.1] at DP
      clear FS
      subst hf
      go_enter Tryd.func7, Tryd.ntmps7
      go_wp2_with fail
      refine (CG.out W (Below.refl _ _)).mono ?_
      rintro e a1 ⟨ads, rfl, hd, L1⟩
      have aM1 := Lib.hid L1
      have aD1 := Lib.hid hd
      have aDL := Lib.hid (hd.len GK.out)
      have aDO := Lib.hid hd.one
      clear hd L1
      go_wp2_with (first
        | ((with_reducible show wpList _ _ _ (⟨some 5, _, _, _, _, _⟩ :: _) _ _); refine wpList_alloc_blk rfl _ rfl nz _ ZH ?_; intro ag a2 hg5 hg6 aZ2 aL2)
        | ((with_reducible show wpList _ _ _ (⟨none, .store _ (.tmp 5) _, _, _, _, _⟩ :: _) _ _); refine wpList_store_blk rfl _ (.tmp 5) (.tmp 16) rfl ag rfl _ nz ads rfl aZ2 69 size_ask HZ aDL aDO ?_; intro a3 aX3 aO3 hg7; have aL3 := Lib.hid (below_only aL2.out aO3.out hg5); have aM3 := Lib.hid (step aM1.out aL3.out); have aD3 := Lib.hid (aD1.out.over aL3.out))
        | ((with_reducible show wpList _ _ _ (⟨some 22, _, _, _, _, _⟩ :: _) _ _); refine wpList_load_blk rfl _ (.tmp 5) rfl ag rfl _ ads aX3 69 _ Tryd.underlying32 rfl size_ask aDL ?_)
        | fail)
      refine (CP.out a3 ads aD3.out (HT.out.below aM3.out)).mono ?_
      rintro e a4 ⟨u4, rfl, ho4, L4⟩
      have aM4 := Lib.hid (step aM3.out L4)
      obtain ⟨A4, c4, rfl, hh4⟩ := ho4.holds HXB.out (by have := HXL.out; omega)
      have H4 := Lib.hid hh4
      obtain ⟨m4, hm4⟩ : ∃ m, m = xs.length := ⟨_, rfl⟩
      rw [← hm4] at H4 ⊢
      clear hh4 hm4 ho4 L4
      go_wp2_with fail
      refine (CS.out _ _ _ _ _ _ _ H4.out (HX.out.over aM4.out)).mono ?_
      rintro e a5 ⟨rfl, k5, rfl⟩
      obtain ⟨a5, hv5⟩ : ∃ v, v = a4.drewN k5 := ⟨_, rfl⟩
      have aM5 : Hid (Below W.heap.size W a5) := by rw [hv5]; exact step aM4.out (drewed _ _)
      rw [← hv5]
      clear hv5 H4 aM4
      go_wp2_with fail
      refine (DG.out a5 aM5.out).mono ?_
      rintro e b1 ⟨bds, rfl, hd, L1⟩
      have bM1 := Lib.hid (step aM5.out L1)
      have bD1 := Lib.hid hd
      have bDL := Lib.hid (hd.len TK.out)
      have bDO := Lib.hid hd.one
      clear hd L1
      go_wp2_with (first
        | ((with_reducible show wpList _ _ _ (⟨some 9, _, _, _, _, _⟩ :: _) _ _); refine wpList_alloc_blk rfl _ rfl nt _ ZS ?_; intro bg b2 hg5 hg6 bZ2 bL2)
        | ((with_reducible show wpList _ _ _ (⟨none, .store _ (.tmp 9) _, _, _, _, _⟩ :: _) _ _); refine wpList_store_blk rfl _ (.tmp 9) (.tmp 38) rfl bg rfl _ nt bds rfl bZ2 20 size_say SZ bDL bDO ?_; intro b3 bX3 bO3 hg7; have bL3 := Lib.hid (below_only bL2.out bO3.out hg5); have bM3 := Lib.hid (step bM1.out bL3.out); have bD3 := Lib.hid (bD1.out.over bL3.out))
        | ((with_reducible show wpList _ _ _ (⟨some 44, _, _, _, _, _⟩ :: _) _ _); refine wpList_load_blk rfl _ (.tmp 9) rfl bg rfl _ bds bX3 20 _ Tryd.underlying45 rfl size_say bDL ?_)
        | fail)
      refine (DP.out b3 bds bD3.out (HT.out.below bM3.out)).mono ?_
      rintro e b4 ⟨u4, rfl, ho4, L4⟩
      have bM4 := Lib.hid (step bM3.out L4)
      obtain ⟨A4, c4, rfl, hh4⟩ := ho4.holds HXB.out (by have := HXL.out; omega)
      have H4 := Lib.hid hh4
      obtain ⟨m4, hm4⟩ : ∃ m, m = xs.length := ⟨_, rfl⟩
      rw [← hm4] at H4 ⊢
      clear hh4 hm4 ho4 L4
      go_wp2_with fail
      refine (CS.out _ _ _ _ _ _ _ H4.out (HX.out.over bM4.out)).mono ?_
      rintro e b5 ⟨rfl, k5, rfl⟩
      obtain ⟨b5, hv5⟩ : ∃ v, v = b4.drewN k5 := ⟨_, rfl⟩
      have bM5 : Hid (Below W.heap.size W b5) := by rw [hv5]; exact step bM4.out (drewed _ _)
      rw [← hv5]
      clear hv5 H4 bM4
      go_wp2_with fail
      refine (CL.out b5 (HT.out.below bM5.out)).mono ?_
      rintro e v13 ⟨rfl, L13⟩
      go_wp2
      go_ret
      exact ⟨rfl, step bM5.out L13⟩
    · clear FS
      go_enter Tryd.func7, Tryd.ntmps7
      go_wp2_with fail
      refine (CG.out W (Below.refl _ _)).mono ?_
      rintro e a1 ⟨ads, rfl, hd, L1⟩
      have aM1 := Lib.hid L1
      have aD1 := Lib.hid hd
      have aDL := Lib.hid (hd.len GK.out)
      have aDO := Lib.hid hd.one
      clear hd L1
      go_wp2_with (first
        | ((with_reducible show wpList _ _ _ (⟨some 5, _, _, _, _, _⟩ :: _) _ _); refine wpList_alloc_blk rfl _ rfl nz _ ZH ?_; intro ag a2 hg5 hg6 aZ2 aL2)
        | ((with_reducible show wpList _ _ _ (⟨none, .store _ (.tmp 5) _, _, _, _, _⟩ :: _) _ _); refine wpList_store_blk rfl _ (.tmp 5) (.tmp 16) rfl ag rfl _ nz ads rfl aZ2 69 size_ask HZ aDL aDO ?_; intro a3 aX3 aO3 hg7; have aL3 := Lib.hid (below_only aL2.out aO3.out hg5); have aM3 := Lib.hid (step aM1.out aL3.out); have aD3 := Lib.hid (aD1.out.over aL3.out))
        | ((with_reducible show wpList _ _ _ (⟨some 22, _, _, _, _, _⟩ :: _) _ _); refine wpList_load_blk rfl _ (.tmp 5) rfl ag rfl _ ads aX3 69 _ Tryd.underlying32 rfl size_ask aDL ?_)
        | fail)
      refine (CP.out a3 ads aD3.out (HT.out.below aM3.out)).mono ?_
      rintro e a4 ⟨u4, rfl, ho4, L4⟩
      have aM4 := Lib.hid (step aM3.out L4)
      obtain ⟨A4, c4, rfl, hh4⟩ := ho4.holds HXB.out (by have := HXL.out; omega)
      have H4 := Lib.hid hh4
      obtain ⟨m4, hm4⟩ : ∃ m, m = xs.length := ⟨_, rfl⟩
      rw [← hm4] at H4 ⊢
      clear hh4 hm4 ho4 L4
      go_wp2_with fail
      refine (CS.out _ _ _ _ _ _ _ H4.out (HX.out.over aM4.out)).mono ?_
      rintro e a5 ⟨rfl, k5, rfl⟩
      obtain ⟨a5, hv5⟩ : ∃ v, v = a4.drewN k5 := ⟨_, rfl⟩
      have aM5 : Hid (Below W.heap.size W a5) := by rw [hv5]; exact step aM4.out (drewed _ _)
      rw [← hv5]
      clear hv5 H4 aM4
      go_wp2_with fail
      refine (DG.out a5 aM5.out).mono ?_
      rintro e b1 ⟨bds, rfl, hd, L1⟩
      have bM1 := Lib.hid (step aM5.out L1)
      have bD1 := Lib.hid hd
      have bDL := Lib.hid (hd.len TK.out)
      have bDO := Lib.hid hd.one
      clear hd L1
      go_wp2_with (first
        | ((with_reducible show wpList _ _ _ (⟨some 9, _, _, _, _, _⟩ :: _) _ _); refine wpList_alloc_blk rfl _ rfl nt _ ZS ?_; intro bg b2 hg5 hg6 bZ2 bL2)
        | ((with_reducible show wpList _ _ _ (⟨none, .store _ (.tmp 9) _, _, _, _, _⟩ :: _) _ _); refine wpList_store_blk rfl _ (.tmp 9) (.tmp 38) rfl bg rfl _ nt bds rfl bZ2 20 size_say SZ bDL bDO ?_; intro b3 bX3 bO3 hg7; have bL3 := Lib.hid (below_only bL2.out bO3.out hg5); have bM3 := Lib.hid (step bM1.out bL3.out); have bD3 := Lib.hid (bD1.out.over bL3.out))
        | fail)
      refine (CL.out b3 (HT.out.below bM3.out)).mono ?_
      rintro e v13 ⟨rfl, L13⟩
      go_wp2
      go_ret
      exact ⟨rfl, step bM3.out L13⟩
  · clear FB
    by_cases hf : ft = 0
    · rw [(FS hf).1, (FS hf).2.1] at DP
      clear FS
      subst hf
      go_enter Tryd.func7, Tryd.ntmps7
      go_wp2_with fail
      refine (CG.out W (Below.refl _ _)).mono ?_
      rintro e a1 ⟨ads, rfl, hd, L1⟩
      have aM1 := Lib.hid L1
      have aD1 := Lib.hid hd
      have aDL := Lib.hid (hd.len GK.out)
      have aDO := Lib.hid hd.one
      clear hd L1
      go_wp2_with (first
        | ((with_reducible show wpList _ _ _ (⟨some 5, _, _, _, _, _⟩ :: _) _ _); refine wpList_alloc_blk rfl _ rfl nz _ ZH ?_; intro ag a2 hg5 hg6 aZ2 aL2)
        | ((with_reducible show wpList _ _ _ (⟨none, .store _ (.tmp 5) _, _, _, _, _⟩ :: _) _ _); refine wpList_store_blk rfl _ (.tmp 5) (.tmp 16) rfl ag rfl _ nz ads rfl aZ2 69 size_ask HZ aDL aDO ?_; intro a3 aX3 aO3 hg7; have aL3 := Lib.hid (below_only aL2.out aO3.out hg5); have aM3 := Lib.hid (step aM1.out aL3.out); have aD3 := Lib.hid (aD1.out.over aL3.out))
        | fail)
      refine (DG.out a3 aM3.out).mono ?_
      rintro e b1 ⟨bds, rfl, hd, L1⟩
      have bM1 := Lib.hid (step aM3.out L1)
      have bD1 := Lib.hid hd
      have bDL := Lib.hid (hd.len TK.out)
      have bDO := Lib.hid hd.one
      clear hd L1
      go_wp2_with (first
        | ((with_reducible show wpList _ _ _ (⟨some 9, _, _, _, _, _⟩ :: _) _ _); refine wpList_alloc_blk rfl _ rfl nt _ ZS ?_; intro bg b2 hg5 hg6 bZ2 bL2)
        | ((with_reducible show wpList _ _ _ (⟨none, .store _ (.tmp 9) _, _, _, _, _⟩ :: _) _ _); refine wpList_store_blk rfl _ (.tmp 9) (.tmp 38) rfl bg rfl _ nt bds rfl bZ2 20 size_say SZ bDL bDO ?_; intro b3 bX3 bO3 hg7; have bL3 := Lib.hid (below_only bL2.out bO3.out hg5); have bM3 := Lib.hid (step bM1.out bL3.out); have bD3 := Lib.hid (bD1.out.over bL3.out))
        | ((with_reducible show wpList _ _ _ (⟨some 44, _, _, _, _, _⟩ :: _) _ _); refine wpList_load_blk rfl _ (.tmp 9) rfl bg rfl _ bds bX3 20 _ Tryd.underlying45 rfl size_say bDL ?_)
        | fail)
      refine (DP.out b3 bds bD3.out (HT.out.below bM3.out)).mono ?_
      rintro e b4 ⟨u4, rfl, ho4, L4⟩
      have bM4 := Lib.hid (step bM3.out L4)
      obtain ⟨A4, c4, rfl, hh4⟩ := ho4.holds HXB.out (by have := HXL.out; omega)
      have H4 := Lib.hid hh4
      obtain ⟨m4, hm4⟩ : ∃ m, m = xs.length := ⟨_, rfl⟩
      rw [← hm4] at H4 ⊢
      clear hh4 hm4 ho4 L4
      go_wp2_with fail
      refine (CS.out _ _ _ _ _ _ _ H4.out (HX.out.over bM4.out)).mono ?_
      rintro e b5 ⟨rfl, k5, rfl⟩
      obtain ⟨b5, hv5⟩ : ∃ v, v = b4.drewN k5 := ⟨_, rfl⟩
      have bM5 : Hid (Below W.heap.size W b5) := by rw [hv5]; exact step bM4.out (drewed _ _)
      rw [← hv5]
      clear hv5 H4 bM4
      go_wp2_with fail
      refine (CL.out b5 (HT.out.below bM5.out)).mono ?_
      rintro e v13 ⟨rfl, L13⟩
      go_wp2
      go_ret
      exact ⟨rfl, step bM5.out L13⟩
    · clear FS
      go_enter Tryd.func7, Tryd.ntmps7
      go_wp2_with fail
      refine (CG.out W (Below.refl _ _)).mono ?_
      rintro e a1 ⟨ads, rfl, hd, L1⟩
      have aM1 := Lib.hid L1
      have aD1 := Lib.hid hd
      have aDL := Lib.hid (hd.len GK.out)
      have aDO := Lib.hid hd.one
      clear hd L1
      go_wp2_with (first
        | ((with_reducible show wpList _ _ _ (⟨some 5, _, _, _, _, _⟩ :: _) _ _); refine wpList_alloc_blk rfl _ rfl nz _ ZH ?_; intro ag a2 hg5 hg6 aZ2 aL2)
        | ((with_reducible show wpList _ _ _ (⟨none, .store _ (.tmp 5) _, _, _, _, _⟩ :: _) _ _); refine wpList_store_blk rfl _ (.tmp 5) (.tmp 16) rfl ag rfl _ nz ads rfl aZ2 69 size_ask HZ aDL aDO ?_; intro a3 aX3 aO3 hg7; have aL3 := Lib.hid (below_only aL2.out aO3.out hg5); have aM3 := Lib.hid (step aM1.out aL3.out); have aD3 := Lib.hid (aD1.out.over aL3.out))
        | fail)
      refine (DG.out a3 aM3.out).mono ?_
      rintro e b1 ⟨bds, rfl, hd, L1⟩
      have bM1 := Lib.hid (step aM3.out L1)
      have bD1 := Lib.hid hd
      have bDL := Lib.hid (hd.len TK.out)
      have bDO := Lib.hid hd.one
      clear hd L1
      go_wp2_with (first
        | ((with_reducible show wpList _ _ _ (⟨some 9, _, _, _, _, _⟩ :: _) _ _); refine wpList_alloc_blk rfl _ rfl nt _ ZS ?_; intro bg b2 hg5 hg6 bZ2 bL2)
        | ((with_reducible show wpList _ _ _ (⟨none, .store _ (.tmp 9) _, _, _, _, _⟩ :: _) _ _); refine wpList_store_blk rfl _ (.tmp 9) (.tmp 38) rfl bg rfl _ nt bds rfl bZ2 20 size_say SZ bDL bDO ?_; intro b3 bX3 bO3 hg7; have bL3 := Lib.hid (below_only bL2.out bO3.out hg5); have bM3 := Lib.hid (step bM1.out bL3.out); have bD3 := Lib.hid (bD1.out.over bL3.out))
        | fail)
      refine (CL.out b3 (HT.out.below bM3.out)).mono ?_
      rintro e v13 ⟨rfl, L13⟩
      go_wp2
      go_ret
      exact ⟨rfl, step bM3.out L13⟩
end Go.Proofs.YtbbjmmooemmeiaaDoor
