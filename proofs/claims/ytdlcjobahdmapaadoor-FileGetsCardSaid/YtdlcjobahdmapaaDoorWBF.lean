import Derived.WalkKit
import Derived.Deep.Draws
import Derived.Laws.Rows
import Derived.Laws.OwnMore
import Derived.Lib.RuneBytes
import Derived.Lib.ValidLaws
import Derived.Test.YtdlcjobahdmapaaDoorRows
import Derived.Laws.CopyOwn
import Derived.Laws.AppendOwnNone
import Derived.Lib.Hide
import Derived.Laws.AppendOwn
import Derived.OwnWalk
import Derived.Lib.OthersKept
import Derived.Laws.BytesArg
import Derived.Shelf.Utf8.AppendRunePlain
import Derived.Shelf.Unicode.ValidAny
import Derived.Test.YtdlcjobahdmapaaDoorProg
import Derived.WalkSpells
import Derived.WalkLawsBesides
import Derived.Deep.QuietTactic
import Derived.BigQuiet
import Derived.Laws.Bits64
import Derived.Laws.BitsAllLaws
import Derived.ProofKit
import Derived.OpenShut
import Derived.ShutString
import Derived.SizedLaws
import Derived.ChangeOld
import Derived.Lib.AppendZeros
import Derived.Deep.RegionWith
import Derived.Deep.DeepCutAuto
import Derived.Great.Walk
import Derived.Laws.Tables
import Derived.Laws.NewFold
import Derived.Deep.WholeRow
import Derived.Deep.MidRow
import Derived.OneCell
import Derived.Deep.Strs
import Derived.OrdersHeld
import Derived.Laws.StructEq
import Derived.ChangeKeysEq
import Derived.Deep.RegionLaw
import Derived.Deep.OwnRows
import Derived.Lib.LaidIn
import Derived.Lib.LaidU8T
import Derived.Deep.DeepHandedRow
import Derived.Test.YtdlcjobahdmapaaDoorWAD
import Derived.Test.YtdlcjobahdmapaaDoorWAE
import Derived.Test.YtdlcjobahdmapaaDoorWAF
import Derived.Test.YtdlcjobahdmapaaDoorWAG
import Derived.Test.YtdlcjobahdmapaaDoorWAH
import Derived.Test.YtdlcjobahdmapaaDoorWAJ
import Derived.Test.YtdlcjobahdmapaaDoorWAK
import Derived.Test.YtdlcjobahdmapaaDoorWAL
import Derived.Test.YtdlcjobahdmapaaDoorWAN
import Derived.Test.YtdlcjobahdmapaaDoorWAO
import Derived.Test.YtdlcjobahdmapaaDoorWAP
import Derived.Test.YtdlcjobahdmapaaDoorWAQ
import Derived.Test.YtdlcjobahdmapaaDoorWAS
import Derived.Test.YtdlcjobahdmapaaDoorWAT
import Derived.Test.YtdlcjobahdmapaaDoorWAU
import Derived.Test.YtdlcjobahdmapaaDoorWAW
import Derived.Test.YtdlcjobahdmapaaDoorWAX
import Derived.Test.YtdlcjobahdmapaaDoorWAY
import Derived.Test.YtdlcjobahdmapaaDoorWBE
namespace Go.Proofs.YtdlcjobahdmapaaDoor
set_option linter.all false
open Go.RowKit
set_option linter.unusedVariables false
set_option maxRecDepth 100000
set_option maxHeartbeats 4000000 in
theorem RFGetSay_any (w : World) (c : Int) (A : Option Addr) (n k : Nat) (xs : List Int) (hc : 0 ≤ c ∧ c ≤ 65535) (hx : Holds w w.heap.size A n k xs) :
    Calls Tryd.prog 25 #[.int .u16 c, .slice A n k] w (RFGSayPost w c xs) := by
  have hby := hx.byte
  have HX := Lib.hid hx
  have ZH := Lib.hid zero_say
  have BZ := built_say
  have HZ : Hid ((scells (.slice none 0 0) (.slice none 0 0) zeroSay).length = 20) := scells_len zeroSay_ok
  have HZ1 : Hid (∀ v ∈ scells (.slice none 0 0) (.slice none 0 0) zeroSay, v.oneCell' = true) := (zeroSay_is w 0).one
  have HZI : Hid (∀ w' : World, SayIs w' w'.heap.size (scells (.slice none 0 0) (.slice none 0 0) zeroSay) zeroSay) := fun w' => zeroSay_is w' _
  have CK : Hid (∀ w : World, Calls Tryd.prog 37 #[.int .u16 c] w fun e w' => e = .returned (.bool (knownF c)) ∧ w = w') := fun w => RKnownF_any w c hc
  have BR : Tryd.prog.built 86 [(0, .slice A n k)] = some ([.slice A n k, .int .i64 0, .int .i64 0] : List Value).toArray := by kernel_rfl
  have HE : Hid (∀ er, sgErr c xs = er → er ≠ 0 → ∀ e w', e = .returned (.tuple #[.agg (scells (.slice none 0 0) (.slice none 0 0) zeroSay).toArray, .int .i64 er]) → Below w.heap.size w w' → RFGSayPost w c xs e w') := by
    intro er h1 h2 e w' he hb
    unfold RFGSayPost sgOf
    rw [h1, if_neg h2]
    exact ⟨_, he, HZI.out w', hb⟩
  obtain ⟨zs, hzs⟩ : ∃ zs, zs = scells (.slice none 0 0) (.slice none 0 0) zeroSay := ⟨_, rfl⟩
  have HZS := Lib.hid hzs
  rw [← hzs] at ZH BZ HZ HZ1 HE
  clear hzs HZI
  by_cases hk : knownF c = true
  rotate_left
  · have HQ := Lib.hid (HE.out 2 (by unfold sgErr; rw [if_neg hk]) (by decide))
    rw [show knownF c = false from by simpa using hk] at CK
    clear hk HE hx
    go_enter Tryd.func25, Tryd.ntmps25
    go_wp2_with (first
      | ((with_reducible show wpList _ _ _ (⟨some 4, _, _, _, _, _⟩ :: _) _ _); refine wpList_alloc_blk rfl _ rfl zs _ ZH ?_; intro h w1 hg1 hg2 Z1 L1)
      | fail)
    refine (CK.out _).mono ?_
    rintro e v0 ⟨rfl, rfl⟩
    go_wp2_with (first
      | ((with_reducible show wpList _ _ _ (⟨some 12, _, _, _, _, _⟩ :: _) _ _); refine wpList_build_none rfl _ rfl zs BZ ?_)
      | ((with_reducible show wpList _ _ _ (⟨none, .store _ (.tmp 4) _, _, _, _, _⟩ :: _) _ _); refine wpList_store_blk rfl _ (.tmp 4) (.tmp 12) rfl h rfl _ zs zs rfl Z1 20 size_say HZ HZ HZ1 ?_; intro w10 K10 O10 hg10)
      | fail)
    refine bodyPost_ret (v := .tuple #[.agg zs.toArray, .int .i64 2]) ?_ rfl (HQ.out _ _ rfl (below_only L1.out O10.out (by omega)))
    exact results_cell_two rfl _ _ h _ _ (0, 0) _ rfl K10.out Tryd.underlying45 rfl (by rw [size_say]; have := HZ.out; simp [this]) rfl
  rw [hk] at CK
  have hcs : c = 5 ∨ c = 6 ∨ c = 7 ∨ c = 8 ∨ c = 9 ∨ c = 10 := known_cases hk
  rcases hcs with h5 | h6 | h7 | h8 | h9 | h10
  · subst h5
    have D1 : Hid (∀ (w' : World) (g : Nat), RP w' g w.heap.size A n k xs rd0 → Calls Tryd.prog 53 #[.pointer (some ⟨g, 0, none⟩), .int .i64 1] w' fun e w2 => e = .returned (.int .u64 (s1 xs).1) ∧ RP w2 g w.heap.size A n k xs (s1 xs).2 ∧ Save g w' w2) := fun w' g h => rN w' g w.heap.size A n k xs _ h 1 (by decide)
    have D2 : Hid (∀ (w' : World) (g : Nat), RP w' g w.heap.size A n k xs (s1 xs).2 → Calls Tryd.prog 53 #[.pointer (some ⟨g, 0, none⟩), .int .i64 1] w' fun e w2 => e = .returned (.int .u64 (s2 xs).1) ∧ RP w2 g w.heap.size A n k xs (s2 xs).2 ∧ Save g w' w2) := fun w' g h => rN w' g w.heap.size A n k xs _ h 1 (by decide)
    have D3 : Hid (∀ (w' : World) (g : Nat), RP w' g w.heap.size A n k xs (s2 xs).2 → Calls Tryd.prog 54 #[.pointer (some ⟨g, 0, none⟩), .int .i64 2, .int .u64 2, .int .i64 5] w' fun e w2 => e = .returned (.int .u64 (rdMost xs 2 2 5 (s2 xs).2).1) ∧ RP w2 g w.heap.size A n k xs (s3 xs).2 ∧ Save g w' w2) := fun w' g h => (rMost w' g w.heap.size A n k xs _ h 2 2 5 (by decide)).mono fun e w2 ⟨h1, h2, h3⟩ => ⟨h1, by have e0 := (rdUp_most xs 2 (s2 xs).2).1; exact (e0 ▸ h2 : RP w2 g w.heap.size A n k xs (rdUp xs 2 (s2 xs).2).2), h3⟩
    have D4 : Hid (∀ (w' : World) (g : Nat), RP w' g w.heap.size A n k xs (s3 xs).2 → Calls Tryd.prog 53 #[.pointer (some ⟨g, 0, none⟩), .int .i64 8] w' fun e w2 => e = .returned (.int .u64 (s4 xs).1) ∧ RP w2 g w.heap.size A n k xs (s4 xs).2 ∧ Save g w' w2) := fun w' g h => rN w' g w.heap.size A n k xs _ h 8 (by decide)
    have D5 : Hid (∀ (w' : World) (g : Nat), RP w' g w.heap.size A n k xs (s4 xs).2 → Calls Tryd.prog 53 #[.pointer (some ⟨g, 0, none⟩), .int .i64 8] w' fun e w2 => e = .returned (.int .u64 (s5 xs).1) ∧ RP w2 g w.heap.size A n k xs (s5 xs).2 ∧ Save g w' w2) := fun w' g h => rN w' g w.heap.size A n k xs _ h 8 (by decide)
    have D6 : Hid (∀ (w' : World) (g : Nat), RP w' g w.heap.size A n k xs (s5 xs).2 → Calls Tryd.prog 54 #[.pointer (some ⟨g, 0, none⟩), .int .i64 2, .int .u64 2, .int .i64 5] w' fun e w2 => e = .returned (.int .u64 (rdMost xs 2 2 5 (s5 xs).2).1) ∧ RP w2 g w.heap.size A n k xs (s6 xs).2 ∧ Save g w' w2) := fun w' g h => (rMost w' g w.heap.size A n k xs _ h 2 2 5 (by decide)).mono fun e w2 ⟨h1, h2, h3⟩ => ⟨h1, by have e0 := (rdUp_most xs 2 (s5 xs).2).1; exact (e0 ▸ h2 : RP w2 g w.heap.size A n k xs (rdUp xs 2 (s5 xs).2).2), h3⟩
    have D7 : Hid (∀ (w' : World) (g : Nat), RP w' g w.heap.size A n k xs (s6 xs).2 → Calls Tryd.prog 54 #[.pointer (some ⟨g, 0, none⟩), .int .i64 2, .int .u64 0, .int .i64 5] w' fun e w2 => (∃ u, e = .returned (.int .u64 u)) ∧ RP w2 g w.heap.size A n k xs (s7 xs) ∧ Save g w' w2) := fun w' g h => (rMost w' g w.heap.size A n k xs _ h 2 0 5 (by decide)).mono fun e w2 ⟨h1, h2, h3⟩ => ⟨⟨_, h1⟩, by have e0 := rdMost_Z hby (s := 2) (r := (s6 xs).2) (by decide); exact (e0 ▸ h2 : RP w2 g w.heap.size A n k xs (rdZ xs 2 (s6 xs).2)), h3⟩
    have DE : Hid (∀ (w' : World) (g : Nat), RP w' g w.heap.size A n k xs (s7 xs) → Calls Tryd.prog 57 #[.pointer (some ⟨g, 0, none⟩)] w' fun e w2 => e = .returned (.int .i64 (rdEnd xs (s7 xs))) ∧ ∃ j, w'.drewN j = w2) := fun w' g h => rEnd w' g w.heap.size A n k xs _ h
    have hge : sgErr 5 xs = rdEnd xs (s7 xs) := by unfold sgErr; rw [if_pos hk]; rfl
    have HQ : Hid (∀ (cs : List Value) (e : Ending) (w' : World), rdEnd xs (s7 xs) = 0 → e = .returned (.tuple #[.agg cs.toArray, .int .i64 0]) → SayIs w' w'.heap.size cs { zeroSay with lev := (s1 xs).1, dur := (s2 xs).1, made := (s3 xs).1, file := (s4 xs).1, siz := (s5 xs).1, kind := (s6 xs).1 } → Below w.heap.size w w' → RFGSayPost w 5 xs e w') := by
      intro cs e w' h0 h1 h2 h5
      have ho : sgOf 5 xs = { zeroSay with lev := (s1 xs).1, dur := (s2 xs).1, made := (s3 xs).1, file := (s4 xs).1, siz := (s5 xs).1, kind := (s6 xs).1 } := by unfold sgOf; rw [hge, h0, if_pos rfl]; rfl
      unfold RFGSayPost
      rw [hge, h0, ho]
      exact ⟨cs, h1, h2, h5⟩
    have HE' := Lib.hid (HE.out _ hge)
    have zw1 : IntKind.u8.wrap (s1 xs).1 = (s1 xs).1 := by
      obtain ⟨x0, x1⟩ := rdN_lt hby 1 rd0 256 (by decide) (by decide)
      change 0 ≤ (s1 xs).1 at x0
      change (s1 xs).1 ≤ _ at x1
      rw [IntKind.wrap_u8]
      omega
    have zw2 : IntKind.u8.wrap (s2 xs).1 = (s2 xs).1 := by
      obtain ⟨x0, x1⟩ := rdN_lt hby 1 (s1 xs).2 256 (by decide) (by decide)
      change 0 ≤ (s2 xs).1 at x0
      change (s2 xs).1 ≤ _ at x1
      rw [IntKind.wrap_u8]
      omega
    have hbmm := rdMost_lt hby 2 2 5 (s2 xs).2 (by decide) (by decide)
    have Hmm : Hid (rdEnd xs (s7 xs) = 0 → (rdMost xs 2 2 5 (s2 xs).2).1 = (s3 xs).1) := fun h => (rdUp_most xs 2 (s2 xs).2).2 (rdN_e (rdN_e (rdUp_e (rdZ_e (rdEnd_e h)))))
    have zmm : IntKind.u16.wrap (rdMost xs 2 2 5 (s2 xs).2).1 = (rdMost xs 2 2 5 (s2 xs).2).1 := by
      rw [IntKind.wrap_u16]
      omega
    obtain ⟨mm, hmm⟩ : ∃ x, x = (rdMost xs 2 2 5 (s2 xs).2).1 := ⟨_, rfl⟩
    rw [← hmm] at Hmm zmm D3
    clear hmm hbmm
    have hbkk6 := rdMost_lt hby 2 2 5 (s5 xs).2 (by decide) (by decide)
    have Hkk6 : Hid (rdEnd xs (s7 xs) = 0 → (rdMost xs 2 2 5 (s5 xs).2).1 = (s6 xs).1) := fun h => (rdUp_most xs 2 (s5 xs).2).2 (rdZ_e (rdEnd_e h))
    have zkk6 : IntKind.u8.wrap (rdMost xs 2 2 5 (s5 xs).2).1 = (rdMost xs 2 2 5 (s5 xs).2).1 := by
      rw [IntKind.wrap_u8]
      omega
    obtain ⟨kk6, hkk6⟩ : ∃ x, x = (rdMost xs 2 2 5 (s5 xs).2).1 := ⟨_, rfl⟩
    rw [← hkk6] at Hkk6 zkk6 D6
    clear hkk6 hbkk6
    obtain ⟨er, her⟩ : ∃ x, x = rdEnd xs (s7 xs) := ⟨_, rfl⟩
    rw [← her] at DE HQ HE' Hmm Hkk6
    obtain ⟨q1, hq1⟩ : ∃ x, x = (s1 xs) := ⟨_, rfl⟩
    rw [← hq1] at D1 D2 HQ zw1
    obtain ⟨q2, hq2⟩ : ∃ x, x = (s2 xs) := ⟨_, rfl⟩
    rw [← hq2] at D2 D3 HQ zw2
    obtain ⟨q3, hq3⟩ : ∃ x, x = (s3 xs) := ⟨_, rfl⟩
    rw [← hq3] at D3 D4 HQ Hmm
    obtain ⟨q4, hq4⟩ : ∃ x, x = (s4 xs) := ⟨_, rfl⟩
    rw [← hq4] at D4 D5 HQ
    obtain ⟨q5, hq5⟩ : ∃ x, x = (s5 xs) := ⟨_, rfl⟩
    rw [← hq5] at D5 D6 HQ
    obtain ⟨q6, hq6⟩ : ∃ x, x = (s6 xs) := ⟨_, rfl⟩
    rw [← hq6] at D6 D7 HQ Hkk6
    obtain ⟨q7, hq7⟩ : ∃ x, x = (s7 xs) := ⟨_, rfl⟩
    rw [← hq7] at D7 DE
    clear her hge HE hk hx hq1 hq2 hq3 hq4 hq5 hq6 hq7
    go_enter Tryd.func25, Tryd.ntmps25
    go_wp2_with (first
      | ((with_reducible show wpList _ _ _ (⟨some 4, _, _, _, _, _⟩ :: _) _ _); refine wpList_alloc_blk rfl _ rfl zs _ ZH ?_; intro h w1 hg1 hg2 Z1 L1)
      | fail)
    refine (CK.out _).mono ?_
    rintro e v0 ⟨rfl, rfl⟩
    go_wp2_with (first
      | ((with_reducible show wpList _ _ _ (⟨some 14, _, _, _, _, _⟩ :: _) _ _); refine wpList_build_blk rfl _ _ rfl ([.slice A n k, .int .i64 0, .int .i64 0] : List Value) (by refine Eq.trans ?_ BR; kernel_rfl) ?_)
      | ((with_reducible show wpList _ _ _ (⟨some 15, _, _, _, _, _⟩ :: _) _ _); refine wpList_box_blk rfl _ (.tmp 14) rfl ([.slice A n k, .int .i64 0, .int .i64 0] : List Value) rfl ?_; intro g w2 hg3 hg4 R2 L02; have Z2 := Lib.hid (Z1.out.over L02.out); have L2 := Lib.hid (step L1.out L02.out); have hhg : h ≠ g := (by omega); have hwg : w.heap.size ≤ g := (by have := L1.out.size; omega))
      | ((with_reducible show wpList _ _ _ (⟨some 7, _, _, _, _, _⟩ :: _) _ _); refine wpList_alloc_blk rfl _ rfl zs _ ZH ?_; intro a w4 hg5 hg6 K4 L03; have R4 := Lib.hid (R2.out.over L03.out); have Z4 := Lib.hid (Z2.out.over L03.out); have L4 := Lib.hid (step L2.out L03.out); have hag : a ≠ g := (by have := R2.out.lt; omega); have hha : h ≠ a := (by have := Z2.out.lt; omega); have hwa : w.heap.size ≤ a := (by have := L2.out.size; omega))
      | fail)
    have P4 : Hid (RP w4 g w.heap.size A n k xs rd0) := ⟨R4.out, HX.out.below L4.out, hwg, Nat.zero_le _⟩
    clear R4 R2 L02 L03 Z1 Z2 L1 L2 HX CK
    refine (D1.out w4 g P4.out).mono ?_
    rintro e v1 ⟨rfl, hP, hS⟩
    have Pc1 := Lib.hid hP
    have Zc1 := Lib.hid (Z4.out.save hS hhg)
    have Kc1 := Lib.hid (K4.out.save hS hag)
    have Lc1 := Lib.hid (L4.out.trans (hS.below hwg L4.out.size))
    clear hP hS P4 Z4 K4 L4
    go_wp2_with (first
      | ((with_reducible show wpList _ _ _ (⟨none, .store _ (.tmp 24) _, _, _, _, _⟩ :: _) _ _); refine wpList_store_fld rfl _ (.tmp 24) (.tmp 23) rfl a 10 rfl _ zs (.int .u8 q1.1) rfl Kc1 (Lib.hid (by have := HZ.out; omega)) (by kernel_rfl) rfl ?_; intro x1 Ks1 Os1 hqs1; obtain ⟨C1, hC1⟩ : ∃ x, x = zs.set 10 (.int .u8 q1.1) := ⟨_, rfl⟩; have HC1 := Lib.hid hC1; have HL1 : Hid (C1.length = 20) := (by rw [hC1, List.length_set]; exact HZ.out); rw [← hC1] at Ks1; have Zs1 := Lib.hid (Zc1.out.only Os1.out hha); have Ps1 := Lib.hid (Pc1.out.only Os1.out (Ne.symm hag) hwa); have Ls1 := Lib.hid (below_only Lc1.out Os1.out hwa); clear hC1)
      | fail)
    refine (D2.out x1 g Ps1.out).mono ?_
    rintro e v2 ⟨rfl, hP, hS⟩
    have Pc2 := Lib.hid hP
    have Zc2 := Lib.hid (Zs1.out.save hS hhg)
    have Kc2 := Lib.hid (Ks1.out.save hS hag)
    have Lc2 := Lib.hid (Ls1.out.trans (hS.below hwg Ls1.out.size))
    clear hP hS Ps1 Zs1 Ks1 Ls1
    go_wp2_with (first
      | ((with_reducible show wpList _ _ _ (⟨none, .store _ (.tmp 28) _, _, _, _, _⟩ :: _) _ _); refine wpList_store_fld rfl _ (.tmp 28) (.tmp 27) rfl a 11 rfl _ C1 (.int .u8 q2.1) rfl Kc2 (Lib.hid (by have := HL1.out; omega)) (by kernel_rfl) rfl ?_; intro x2 Ks2 Os2 hqs2; obtain ⟨C2, hC2⟩ : ∃ x, x = C1.set 11 (.int .u8 q2.1) := ⟨_, rfl⟩; have HC2 := Lib.hid hC2; have HL2 : Hid (C2.length = 20) := (by rw [hC2, List.length_set]; exact HL1.out); rw [← hC2] at Ks2; have Zs2 := Lib.hid (Zc2.out.only Os2.out hha); have Ps2 := Lib.hid (Pc2.out.only Os2.out (Ne.symm hag) hwa); have Ls2 := Lib.hid (below_only Lc2.out Os2.out hwa); clear hC2)
      | fail)
    refine (D3.out x2 g Ps2.out).mono ?_
    rintro e v3 ⟨rfl, hP, hS⟩
    have Pc3 := Lib.hid hP
    have Zc3 := Lib.hid (Zs2.out.save hS hhg)
    have Kc3 := Lib.hid (Ks2.out.save hS hag)
    have Lc3 := Lib.hid (Ls2.out.trans (hS.below hwg Ls2.out.size))
    clear hP hS Ps2 Zs2 Ks2 Ls2
    go_wp2_with (first
      | ((with_reducible show wpList _ _ _ (⟨none, .store _ (.tmp 32) _, _, _, _, _⟩ :: _) _ _); refine wpList_store_fld rfl _ (.tmp 32) (.tmp 31) rfl a 12 rfl _ C2 (.int .u16 mm) rfl Kc3 (Lib.hid (by have := HL2.out; omega)) (by kernel_rfl) rfl ?_; intro x3 Ks3 Os3 hqs3; obtain ⟨C3, hC3⟩ : ∃ x, x = C2.set 12 (.int .u16 mm) := ⟨_, rfl⟩; have HC3 := Lib.hid hC3; have HL3 : Hid (C3.length = 20) := (by rw [hC3, List.length_set]; exact HL2.out); rw [← hC3] at Ks3; have Zs3 := Lib.hid (Zc3.out.only Os3.out hha); have Ps3 := Lib.hid (Pc3.out.only Os3.out (Ne.symm hag) hwa); have Ls3 := Lib.hid (below_only Lc3.out Os3.out hwa); clear hC3)
      | fail)
    refine (D4.out x3 g Ps3.out).mono ?_
    rintro e v4 ⟨rfl, hP, hS⟩
    have Pc4 := Lib.hid hP
    have Zc4 := Lib.hid (Zs3.out.save hS hhg)
    have Kc4 := Lib.hid (Ks3.out.save hS hag)
    have Lc4 := Lib.hid (Ls3.out.trans (hS.below hwg Ls3.out.size))
    clear hP hS Ps3 Zs3 Ks3 Ls3
    go_wp2_with (first
      | ((with_reducible show wpList _ _ _ (⟨none, .store _ (.tmp 35) _, _, _, _, _⟩ :: _) _ _); refine wpList_store_fld rfl _ (.tmp 35) (.tmp 34) rfl a 13 rfl _ C3 (.int .u64 q4.1) rfl Kc4 (Lib.hid (by have := HL3.out; omega)) (by kernel_rfl) rfl ?_; intro x4 Ks4 Os4 hqs4; obtain ⟨C4, hC4⟩ : ∃ x, x = C3.set 13 (.int .u64 q4.1) := ⟨_, rfl⟩; have HC4 := Lib.hid hC4; have HL4 : Hid (C4.length = 20) := (by rw [hC4, List.length_set]; exact HL3.out); rw [← hC4] at Ks4; have Zs4 := Lib.hid (Zc4.out.only Os4.out hha); have Ps4 := Lib.hid (Pc4.out.only Os4.out (Ne.symm hag) hwa); have Ls4 := Lib.hid (below_only Lc4.out Os4.out hwa); clear hC4)
      | fail)
    refine (D5.out x4 g Ps4.out).mono ?_
    rintro e v5 ⟨rfl, hP, hS⟩
    have Pc5 := Lib.hid hP
    have Zc5 := Lib.hid (Zs4.out.save hS hhg)
    have Kc5 := Lib.hid (Ks4.out.save hS hag)
    have Lc5 := Lib.hid (Ls4.out.trans (hS.below hwg Ls4.out.size))
    clear hP hS Ps4 Zs4 Ks4 Ls4
    go_wp2_with (first
      | ((with_reducible show wpList _ _ _ (⟨none, .store _ (.tmp 38) _, _, _, _, _⟩ :: _) _ _); refine wpList_store_fld rfl _ (.tmp 38) (.tmp 37) rfl a 1 rfl _ C4 (.int .u64 q5.1) rfl Kc5 (Lib.hid (by have := HL4.out; omega)) (by kernel_rfl) rfl ?_; intro x5 Ks5 Os5 hqs5; obtain ⟨C5, hC5⟩ : ∃ x, x = C4.set 1 (.int .u64 q5.1) := ⟨_, rfl⟩; have HC5 := Lib.hid hC5; have HL5 : Hid (C5.length = 20) := (by rw [hC5, List.length_set]; exact HL4.out); rw [← hC5] at Ks5; have Zs5 := Lib.hid (Zc5.out.only Os5.out hha); have Ps5 := Lib.hid (Pc5.out.only Os5.out (Ne.symm hag) hwa); have Ls5 := Lib.hid (below_only Lc5.out Os5.out hwa); clear hC5)
      | fail)
    refine (D6.out x5 g Ps5.out).mono ?_
    rintro e v6 ⟨rfl, hP, hS⟩
    have Pc6 := Lib.hid hP
    have Zc6 := Lib.hid (Zs5.out.save hS hhg)
    have Kc6 := Lib.hid (Ks5.out.save hS hag)
    have Lc6 := Lib.hid (Ls5.out.trans (hS.below hwg Ls5.out.size))
    clear hP hS Ps5 Zs5 Ks5 Ls5
    go_wp2_with (first
      | ((with_reducible show wpList _ _ _ (⟨none, .store _ (.tmp 42) _, _, _, _, _⟩ :: _) _ _); refine wpList_store_fld rfl _ (.tmp 42) (.tmp 41) rfl a 14 rfl _ C5 (.int .u8 kk6) rfl Kc6 (Lib.hid (by have := HL5.out; omega)) (by kernel_rfl) rfl ?_; intro x6 Ks6 Os6 hqs6; obtain ⟨C6, hC6⟩ : ∃ x, x = C5.set 14 (.int .u8 kk6) := ⟨_, rfl⟩; have HC6 := Lib.hid hC6; have HL6 : Hid (C6.length = 20) := (by rw [hC6, List.length_set]; exact HL5.out); rw [← hC6] at Ks6; have Zs6 := Lib.hid (Zc6.out.only Os6.out hha); have Ps6 := Lib.hid (Pc6.out.only Os6.out (Ne.symm hag) hwa); have Ls6 := Lib.hid (below_only Lc6.out Os6.out hwa); clear hC6)
      | fail)
    refine (D7.out x6 g Ps6.out).mono ?_
    rintro e v7 ⟨⟨u7, rfl⟩, hP, hS⟩
    have Pc7 := Lib.hid hP
    have Zc7 := Lib.hid (Zs6.out.save hS hhg)
    have Kc7 := Lib.hid (Ks6.out.save hS hag)
    have Lc7 := Lib.hid (Ls6.out.trans (hS.below hwg Ls6.out.size))
    clear hP hS Ps6 Zs6 Ks6 Ls6
    go_wp2_with fail
    refine (DE.out v7 g Pc7.out).mono ?_
    rintro e we ⟨rfl, kk, rfl⟩
    have Ze := Lib.hid (Blk.drewN Zc7.out kk)
    have Ke := Lib.hid (Blk.drewN Kc7.out kk)
    have Le : Hid (Below w.heap.size w (v7.drewN kk)) := step Lc7.out (drewed _ kk)
    obtain ⟨wq, hwq⟩ : ∃ wq, wq = v7.drewN kk := ⟨_, rfl⟩
    have HWQ := Lib.hid hwq
    rw [← hwq] at Ze Ke Le ⊢
    clear hwq
    by_cases he : er = 0
    rotate_left
    · have hne : (er != 0) = true := by simpa using he
      have HN := Lib.hid (HE'.out he)
      clear he HE' HQ
      go_wp2_with (first
        | ((with_reducible show wpList _ _ _ (⟨some 60, _, _, _, _, _⟩ :: _) _ _); refine wpList_build_none rfl _ rfl zs BZ ?_)
        | ((with_reducible show wpList _ _ _ (⟨none, .store _ (.tmp 4) _, _, _, _, _⟩ :: _) _ _); refine wpList_store_blk rfl _ (.tmp 4) (.tmp 60) rfl h rfl _ zs zs rfl Ze 20 size_say HZ HZ HZ1 ?_; intro w10 K10 O10 hg10)
        | fail)
      refine bodyPost_ret (v := .tuple #[.agg zs.toArray, .int .i64 er]) ?_ rfl (HN.out _ _ rfl (below_only Le.out O10.out (by omega)))
      exact results_cell_two rfl _ _ h _ _ (0, 0) _ rfl K10.out Tryd.underlying45 rfl (by rw [size_say]; have := HZ.out; simp [this]) rfl
    · subst he
      have HEQ : Hid (C6 = scells (.slice none 0 0) (.slice none 0 0) { zeroSay with lev := q1.1, dur := q2.1, made := q3.1, file := q4.1, siz := q5.1, kind := q6.1 }) := by
        show _ = _
        rw [HC6.out, HC5.out, HC4.out, HC3.out, HC2.out, HC1.out, HZS.out]
        rw [Hmm.out (by trivial), Hkk6.out (by trivial)]
        rfl
      have H1C : Hid (∀ v ∈ C6, v.oneCell' = true) := by
        show _
        rw [HEQ.out]
        exact scells_one rfl rfl
      go_wp2_with (first
        | ((with_reducible show wpList _ _ _ (⟨some 62, _, _, _, _, _⟩ :: _) _ _); refine wpList_load_blk rfl _ (.tmp 7) rfl a rfl _ C6 Ke 20 _ Tryd.underlying45 rfl size_say HL6 ?_)
        | ((with_reducible show wpList _ _ _ (⟨none, .store _ (.tmp 4) _, _, _, _, _⟩ :: _) _ _); refine wpList_store_blk rfl _ (.tmp 4) (.tmp 62) rfl h rfl _ zs C6 rfl Ze 20 size_say HZ HL6 H1C ?_; intro w10 K10 O10 hg10)
        | fail)
      refine bodyPost_ret (v := .tuple #[.agg C6.toArray, .int .i64 0]) ?_ rfl ?_
      · exact results_cell_two rfl _ _ h _ _ (0, 0) _ rfl K10.out Tryd.underlying45 rfl (by rw [size_say]; have := HL6.out; simp [this]) rfl
      · have LF : Below w.heap.size w w10 := below_only Le.out O10.out (by omega)
        exact HQ.out C6 _ _ (by trivial) rfl ⟨none, 0, 0, none, 0, 0, by rw [HEQ.out], Holds.nil _ _, HoldsS.nil _ _ _ _⟩ LF
  · subst h6
    have D1 : Hid (∀ (w' : World) (g : Nat), RP w' g w.heap.size A n k xs rd0 → Calls Tryd.prog 54 #[.pointer (some ⟨g, 0, none⟩), .int .i64 4, .int .u64 0, .int .i64 5] w' fun e w2 => (∃ u, e = .returned (.int .u64 u)) ∧ RP w2 g w.heap.size A n k xs (rdZ xs 4 rd0) ∧ Save g w' w2) := fun w' g h => (rMost w' g w.heap.size A n k xs _ h 4 0 5 (by decide)).mono fun e w2 ⟨h1, h2, h3⟩ => ⟨⟨_, h1⟩, by have e0 := rdMost_Z hby (s := 4) (r := rd0) (by decide); exact (e0 ▸ h2 : RP w2 g w.heap.size A n k xs (rdZ xs 4 rd0)), h3⟩
    have DE : Hid (∀ (w' : World) (g : Nat), RP w' g w.heap.size A n k xs (rdZ xs 4 rd0) → Calls Tryd.prog 57 #[.pointer (some ⟨g, 0, none⟩)] w' fun e w2 => e = .returned (.int .i64 (rdEnd xs (rdZ xs 4 rd0))) ∧ ∃ j, w'.drewN j = w2) := fun w' g h => rEnd w' g w.heap.size A n k xs _ h
    have hge : sgErr 6 xs = rdEnd xs (rdZ xs 4 rd0) := by unfold sgErr; rw [if_pos hk]; rfl
    have HQ : Hid (∀ (cs : List Value) (e : Ending) (w' : World), rdEnd xs (rdZ xs 4 rd0) = 0 → e = .returned (.tuple #[.agg cs.toArray, .int .i64 0]) → SayIs w' w'.heap.size cs zeroSay → Below w.heap.size w w' → RFGSayPost w 6 xs e w') := by
      intro cs e w' h0 h1 h2 h5
      have ho : sgOf 6 xs = zeroSay := by unfold sgOf; rw [hge, h0, if_pos rfl]; rfl
      unfold RFGSayPost
      rw [hge, h0, ho]
      exact ⟨cs, h1, h2, h5⟩
    have HE' := Lib.hid (HE.out _ hge)
    obtain ⟨er, her⟩ : ∃ x, x = rdEnd xs (rdZ xs 4 rd0) := ⟨_, rfl⟩
    rw [← her] at DE HQ HE'
    obtain ⟨q1, hq1⟩ : ∃ x, x = (rdZ xs 4 rd0) := ⟨_, rfl⟩
    rw [← hq1] at D1 DE
    clear her hge HE hk hx hq1
    go_enter Tryd.func25, Tryd.ntmps25
    go_wp2_with (first
      | ((with_reducible show wpList _ _ _ (⟨some 4, _, _, _, _, _⟩ :: _) _ _); refine wpList_alloc_blk rfl _ rfl zs _ ZH ?_; intro h w1 hg1 hg2 Z1 L1)
      | fail)
    refine (CK.out _).mono ?_
    rintro e v0 ⟨rfl, rfl⟩
    go_wp2_with (first
      | ((with_reducible show wpList _ _ _ (⟨some 14, _, _, _, _, _⟩ :: _) _ _); refine wpList_build_blk rfl _ _ rfl ([.slice A n k, .int .i64 0, .int .i64 0] : List Value) (by refine Eq.trans ?_ BR; kernel_rfl) ?_)
      | ((with_reducible show wpList _ _ _ (⟨some 15, _, _, _, _, _⟩ :: _) _ _); refine wpList_box_blk rfl _ (.tmp 14) rfl ([.slice A n k, .int .i64 0, .int .i64 0] : List Value) rfl ?_; intro g w2 hg3 hg4 R2 L02; have Z2 := Lib.hid (Z1.out.over L02.out); have L2 := Lib.hid (step L1.out L02.out); have hhg : h ≠ g := (by omega); have hwg : w.heap.size ≤ g := (by have := L1.out.size; omega))
      | ((with_reducible show wpList _ _ _ (⟨some 7, _, _, _, _, _⟩ :: _) _ _); refine wpList_alloc_blk rfl _ rfl zs _ ZH ?_; intro a w4 hg5 hg6 K4 L03; have R4 := Lib.hid (R2.out.over L03.out); have Z4 := Lib.hid (Z2.out.over L03.out); have L4 := Lib.hid (step L2.out L03.out); have hag : a ≠ g := (by have := R2.out.lt; omega); have hha : h ≠ a := (by have := Z2.out.lt; omega); have hwa : w.heap.size ≤ a := (by have := L2.out.size; omega))
      | fail)
    have P4 : Hid (RP w4 g w.heap.size A n k xs rd0) := ⟨R4.out, HX.out.below L4.out, hwg, Nat.zero_le _⟩
    clear R4 R2 L02 L03 Z1 Z2 L1 L2 HX CK
    refine (D1.out w4 g P4.out).mono ?_
    rintro e v1 ⟨⟨u1, rfl⟩, hP, hS⟩
    have Pc1 := Lib.hid hP
    have Zc1 := Lib.hid (Z4.out.save hS hhg)
    have Kc1 := Lib.hid (K4.out.save hS hag)
    have Lc1 := Lib.hid (L4.out.trans (hS.below hwg L4.out.size))
    clear hP hS P4 Z4 K4 L4
    go_wp2_with fail
    refine (DE.out v1 g Pc1.out).mono ?_
    rintro e we ⟨rfl, kk, rfl⟩
    have Ze := Lib.hid (Blk.drewN Zc1.out kk)
    have Ke := Lib.hid (Blk.drewN Kc1.out kk)
    have Le : Hid (Below w.heap.size w (v1.drewN kk)) := step Lc1.out (drewed _ kk)
    obtain ⟨wq, hwq⟩ : ∃ wq, wq = v1.drewN kk := ⟨_, rfl⟩
    have HWQ := Lib.hid hwq
    rw [← hwq] at Ze Ke Le ⊢
    clear hwq
    by_cases he : er = 0
    rotate_left
    · have hne : (er != 0) = true := by simpa using he
      have HN := Lib.hid (HE'.out he)
      clear he HE' HQ
      go_wp2_with (first
        | ((with_reducible show wpList _ _ _ (⟨some 60, _, _, _, _, _⟩ :: _) _ _); refine wpList_build_none rfl _ rfl zs BZ ?_)
        | ((with_reducible show wpList _ _ _ (⟨none, .store _ (.tmp 4) _, _, _, _, _⟩ :: _) _ _); refine wpList_store_blk rfl _ (.tmp 4) (.tmp 60) rfl h rfl _ zs zs rfl Ze 20 size_say HZ HZ HZ1 ?_; intro w10 K10 O10 hg10)
        | fail)
      refine bodyPost_ret (v := .tuple #[.agg zs.toArray, .int .i64 er]) ?_ rfl (HN.out _ _ rfl (below_only Le.out O10.out (by omega)))
      exact results_cell_two rfl _ _ h _ _ (0, 0) _ rfl K10.out Tryd.underlying45 rfl (by rw [size_say]; have := HZ.out; simp [this]) rfl
    · subst he
      have HEQ : Hid (zs = scells (.slice none 0 0) (.slice none 0 0) zeroSay) := by
        show _ = _
        exact HZS.out
      have H1C : Hid (∀ v ∈ zs, v.oneCell' = true) := by
        show _
        rw [HEQ.out]
        exact scells_one rfl rfl
      go_wp2_with (first
        | ((with_reducible show wpList _ _ _ (⟨some 62, _, _, _, _, _⟩ :: _) _ _); refine wpList_load_blk rfl _ (.tmp 7) rfl a rfl _ zs Ke 20 _ Tryd.underlying45 rfl size_say HZ ?_)
        | ((with_reducible show wpList _ _ _ (⟨none, .store _ (.tmp 4) _, _, _, _, _⟩ :: _) _ _); refine wpList_store_blk rfl _ (.tmp 4) (.tmp 62) rfl h rfl _ zs zs rfl Ze 20 size_say HZ HZ H1C ?_; intro w10 K10 O10 hg10)
        | fail)
      refine bodyPost_ret (v := .tuple #[.agg zs.toArray, .int .i64 0]) ?_ rfl ?_
      · exact results_cell_two rfl _ _ h _ _ (0, 0) _ rfl K10.out Tryd.underlying45 rfl (by rw [size_say]; have := HZ.out; simp [this]) rfl
      · have LF : Below w.heap.size w w10 := below_only Le.out O10.out (by omega)
        exact HQ.out zs _ _ (by trivial) rfl ⟨none, 0, 0, none, 0, 0, by rw [HEQ.out], Holds.nil _ _, HoldsS.nil _ _ _ _⟩ LF
  · subst h7
    have D1 : Hid (∀ (w' : World) (g : Nat), RP w' g w.heap.size A n k xs rd0 → Calls Tryd.prog 54 #[.pointer (some ⟨g, 0, none⟩), .int .i64 4, .int .u64 0, .int .i64 5] w' fun e w2 => (∃ u, e = .returned (.int .u64 u)) ∧ RP w2 g w.heap.size A n k xs (rdZ xs 4 rd0) ∧ Save g w' w2) := fun w' g h => (rMost w' g w.heap.size A n k xs _ h 4 0 5 (by decide)).mono fun e w2 ⟨h1, h2, h3⟩ => ⟨⟨_, h1⟩, by have e0 := rdMost_Z hby (s := 4) (r := rd0) (by decide); exact (e0 ▸ h2 : RP w2 g w.heap.size A n k xs (rdZ xs 4 rd0)), h3⟩
    have DE : Hid (∀ (w' : World) (g : Nat), RP w' g w.heap.size A n k xs (rdZ xs 4 rd0) → Calls Tryd.prog 57 #[.pointer (some ⟨g, 0, none⟩)] w' fun e w2 => e = .returned (.int .i64 (rdEnd xs (rdZ xs 4 rd0))) ∧ ∃ j, w'.drewN j = w2) := fun w' g h => rEnd w' g w.heap.size A n k xs _ h
    have hge : sgErr 7 xs = rdEnd xs (rdZ xs 4 rd0) := by unfold sgErr; rw [if_pos hk]; rfl
    have HQ : Hid (∀ (cs : List Value) (e : Ending) (w' : World), rdEnd xs (rdZ xs 4 rd0) = 0 → e = .returned (.tuple #[.agg cs.toArray, .int .i64 0]) → SayIs w' w'.heap.size cs zeroSay → Below w.heap.size w w' → RFGSayPost w 7 xs e w') := by
      intro cs e w' h0 h1 h2 h5
      have ho : sgOf 7 xs = zeroSay := by unfold sgOf; rw [hge, h0, if_pos rfl]; rfl
      unfold RFGSayPost
      rw [hge, h0, ho]
      exact ⟨cs, h1, h2, h5⟩
    have HE' := Lib.hid (HE.out _ hge)
    obtain ⟨er, her⟩ : ∃ x, x = rdEnd xs (rdZ xs 4 rd0) := ⟨_, rfl⟩
    rw [← her] at DE HQ HE'
    obtain ⟨q1, hq1⟩ : ∃ x, x = (rdZ xs 4 rd0) := ⟨_, rfl⟩
    rw [← hq1] at D1 DE
    clear her hge HE hk hx hq1
    go_enter Tryd.func25, Tryd.ntmps25
    go_wp2_with (first
      | ((with_reducible show wpList _ _ _ (⟨some 4, _, _, _, _, _⟩ :: _) _ _); refine wpList_alloc_blk rfl _ rfl zs _ ZH ?_; intro h w1 hg1 hg2 Z1 L1)
      | fail)
    refine (CK.out _).mono ?_
    rintro e v0 ⟨rfl, rfl⟩
    go_wp2_with (first
      | ((with_reducible show wpList _ _ _ (⟨some 14, _, _, _, _, _⟩ :: _) _ _); refine wpList_build_blk rfl _ _ rfl ([.slice A n k, .int .i64 0, .int .i64 0] : List Value) (by refine Eq.trans ?_ BR; kernel_rfl) ?_)
      | ((with_reducible show wpList _ _ _ (⟨some 15, _, _, _, _, _⟩ :: _) _ _); refine wpList_box_blk rfl _ (.tmp 14) rfl ([.slice A n k, .int .i64 0, .int .i64 0] : List Value) rfl ?_; intro g w2 hg3 hg4 R2 L02; have Z2 := Lib.hid (Z1.out.over L02.out); have L2 := Lib.hid (step L1.out L02.out); have hhg : h ≠ g := (by omega); have hwg : w.heap.size ≤ g := (by have := L1.out.size; omega))
      | ((with_reducible show wpList _ _ _ (⟨some 7, _, _, _, _, _⟩ :: _) _ _); refine wpList_alloc_blk rfl _ rfl zs _ ZH ?_; intro a w4 hg5 hg6 K4 L03; have R4 := Lib.hid (R2.out.over L03.out); have Z4 := Lib.hid (Z2.out.over L03.out); have L4 := Lib.hid (step L2.out L03.out); have hag : a ≠ g := (by have := R2.out.lt; omega); have hha : h ≠ a := (by have := Z2.out.lt; omega); have hwa : w.heap.size ≤ a := (by have := L2.out.size; omega))
      | fail)
    have P4 : Hid (RP w4 g w.heap.size A n k xs rd0) := ⟨R4.out, HX.out.below L4.out, hwg, Nat.zero_le _⟩
    clear R4 R2 L02 L03 Z1 Z2 L1 L2 HX CK
    refine (D1.out w4 g P4.out).mono ?_
    rintro e v1 ⟨⟨u1, rfl⟩, hP, hS⟩
    have Pc1 := Lib.hid hP
    have Zc1 := Lib.hid (Z4.out.save hS hhg)
    have Kc1 := Lib.hid (K4.out.save hS hag)
    have Lc1 := Lib.hid (L4.out.trans (hS.below hwg L4.out.size))
    clear hP hS P4 Z4 K4 L4
    go_wp2_with fail
    refine (DE.out v1 g Pc1.out).mono ?_
    rintro e we ⟨rfl, kk, rfl⟩
    have Ze := Lib.hid (Blk.drewN Zc1.out kk)
    have Ke := Lib.hid (Blk.drewN Kc1.out kk)
    have Le : Hid (Below w.heap.size w (v1.drewN kk)) := step Lc1.out (drewed _ kk)
    obtain ⟨wq, hwq⟩ : ∃ wq, wq = v1.drewN kk := ⟨_, rfl⟩
    have HWQ := Lib.hid hwq
    rw [← hwq] at Ze Ke Le ⊢
    clear hwq
    by_cases he : er = 0
    rotate_left
    · have hne : (er != 0) = true := by simpa using he
      have HN := Lib.hid (HE'.out he)
      clear he HE' HQ
      go_wp2_with (first
        | ((with_reducible show wpList _ _ _ (⟨some 60, _, _, _, _, _⟩ :: _) _ _); refine wpList_build_none rfl _ rfl zs BZ ?_)
        | ((with_reducible show wpList _ _ _ (⟨none, .store _ (.tmp 4) _, _, _, _, _⟩ :: _) _ _); refine wpList_store_blk rfl _ (.tmp 4) (.tmp 60) rfl h rfl _ zs zs rfl Ze 20 size_say HZ HZ HZ1 ?_; intro w10 K10 O10 hg10)
        | fail)
      refine bodyPost_ret (v := .tuple #[.agg zs.toArray, .int .i64 er]) ?_ rfl (HN.out _ _ rfl (below_only Le.out O10.out (by omega)))
      exact results_cell_two rfl _ _ h _ _ (0, 0) _ rfl K10.out Tryd.underlying45 rfl (by rw [size_say]; have := HZ.out; simp [this]) rfl
    · subst he
      have HEQ : Hid (zs = scells (.slice none 0 0) (.slice none 0 0) zeroSay) := by
        show _ = _
        exact HZS.out
      have H1C : Hid (∀ v ∈ zs, v.oneCell' = true) := by
        show _
        rw [HEQ.out]
        exact scells_one rfl rfl
      go_wp2_with (first
        | ((with_reducible show wpList _ _ _ (⟨some 62, _, _, _, _, _⟩ :: _) _ _); refine wpList_load_blk rfl _ (.tmp 7) rfl a rfl _ zs Ke 20 _ Tryd.underlying45 rfl size_say HZ ?_)
        | ((with_reducible show wpList _ _ _ (⟨none, .store _ (.tmp 4) _, _, _, _, _⟩ :: _) _ _); refine wpList_store_blk rfl _ (.tmp 4) (.tmp 62) rfl h rfl _ zs zs rfl Ze 20 size_say HZ HZ H1C ?_; intro w10 K10 O10 hg10)
        | fail)
      refine bodyPost_ret (v := .tuple #[.agg zs.toArray, .int .i64 0]) ?_ rfl ?_
      · exact results_cell_two rfl _ _ h _ _ (0, 0) _ rfl K10.out Tryd.underlying45 rfl (by rw [size_say]; have := HZ.out; simp [this]) rfl
      · have LF : Below w.heap.size w w10 := below_only Le.out O10.out (by omega)
        exact HQ.out zs _ _ (by trivial) rfl ⟨none, 0, 0, none, 0, 0, by rw [HEQ.out], Holds.nil _ _, HoldsS.nil _ _ _ _⟩ LF
  · subst h8
    have D1 : Hid (∀ (w' : World) (g : Nat), RP w' g w.heap.size A n k xs rd0 → Calls Tryd.prog 56 #[.pointer (some ⟨g, 0, none⟩)] w' fun e w2 => ∃ v, e = .returned v ∧ Own w2 w'.heap.size v (s8 xs).1 ∧ RP w2 g w.heap.size A n k xs (s8 xs).2 ∧ Save g w' w2) := fun w' g h => rdata_any w' g w.heap.size A n k xs _ hby h
    have DE : Hid (∀ (w' : World) (g : Nat), RP w' g w.heap.size A n k xs (s8 xs).2 → Calls Tryd.prog 57 #[.pointer (some ⟨g, 0, none⟩)] w' fun e w2 => e = .returned (.int .i64 (rdEnd xs (s8 xs).2)) ∧ ∃ j, w'.drewN j = w2) := fun w' g h => rEnd w' g w.heap.size A n k xs _ h
    have hge : sgErr 8 xs = rdEnd xs (s8 xs).2 := by unfold sgErr; rw [if_pos hk]; rfl
    have HQ : Hid (∀ (cs : List Value) (e : Ending) (w' : World), rdEnd xs (s8 xs).2 = 0 → e = .returned (.tuple #[.agg cs.toArray, .int .i64 0]) → SayIs w' w'.heap.size cs { zeroSay with data := (s8 xs).1 } → Below w.heap.size w w' → RFGSayPost w 8 xs e w') := by
      intro cs e w' h0 h1 h2 h5
      have ho : sgOf 8 xs = { zeroSay with data := (s8 xs).1 } := by unfold sgOf; rw [hge, h0, if_pos rfl]; rfl
      unfold RFGSayPost
      rw [hge, h0, ho]
      exact ⟨cs, h1, h2, h5⟩
    have HE' := Lib.hid (HE.out _ hge)
    have DL : Hid (Bytes (s8 xs).1 ∧ (s8 xs).1.length ≤ 32768) := rdData_le hby _
    obtain ⟨er, her⟩ : ∃ x, x = rdEnd xs (s8 xs).2 := ⟨_, rfl⟩
    rw [← her] at DE HQ HE'
    obtain ⟨q1, hq1⟩ : ∃ x, x = (s8 xs) := ⟨_, rfl⟩
    rw [← hq1] at D1 DE HQ DL
    clear her hge HE hk hx hq1
    go_enter Tryd.func25, Tryd.ntmps25
    go_wp2_with (first
      | ((with_reducible show wpList _ _ _ (⟨some 4, _, _, _, _, _⟩ :: _) _ _); refine wpList_alloc_blk rfl _ rfl zs _ ZH ?_; intro h w1 hg1 hg2 Z1 L1)
      | fail)
    refine (CK.out _).mono ?_
    rintro e v0 ⟨rfl, rfl⟩
    go_wp2_with (first
      | ((with_reducible show wpList _ _ _ (⟨some 14, _, _, _, _, _⟩ :: _) _ _); refine wpList_build_blk rfl _ _ rfl ([.slice A n k, .int .i64 0, .int .i64 0] : List Value) (by refine Eq.trans ?_ BR; kernel_rfl) ?_)
      | ((with_reducible show wpList _ _ _ (⟨some 15, _, _, _, _, _⟩ :: _) _ _); refine wpList_box_blk rfl _ (.tmp 14) rfl ([.slice A n k, .int .i64 0, .int .i64 0] : List Value) rfl ?_; intro g w2 hg3 hg4 R2 L02; have Z2 := Lib.hid (Z1.out.over L02.out); have L2 := Lib.hid (step L1.out L02.out); have hhg : h ≠ g := (by omega); have hwg : w.heap.size ≤ g := (by have := L1.out.size; omega))
      | ((with_reducible show wpList _ _ _ (⟨some 7, _, _, _, _, _⟩ :: _) _ _); refine wpList_alloc_blk rfl _ rfl zs _ ZH ?_; intro a w4 hg5 hg6 K4 L03; have R4 := Lib.hid (R2.out.over L03.out); have Z4 := Lib.hid (Z2.out.over L03.out); have L4 := Lib.hid (step L2.out L03.out); have hag : a ≠ g := (by have := R2.out.lt; omega); have hha : h ≠ a := (by have := Z2.out.lt; omega); have hwa : w.heap.size ≤ a := (by have := L2.out.size; omega))
      | fail)
    have P4 : Hid (RP w4 g w.heap.size A n k xs rd0) := ⟨R4.out, HX.out.below L4.out, hwg, Nat.zero_le _⟩
    clear R4 R2 L02 L03 Z1 Z2 L1 L2 HX CK
    refine (D1.out w4 g P4.out).mono ?_
    rintro e v1 ⟨u1, rfl, hV, hP, hS⟩
    have V1 := Lib.hid hV
    have hbs1 : a < w4.heap.size ∧ h < w4.heap.size ∧ w.heap.size ≤ w4.heap.size := ⟨K4.out.lt, Z4.out.lt, L4.out.size⟩
    obtain ⟨b1, hb1⟩ : ∃ x, x = w4.heap.size := ⟨_, rfl⟩
    rw [← hb1] at V1 hbs1
    obtain ⟨hba1, hbh1, hbw1⟩ := hbs1
    clear hV hb1
    have Pc1 := Lib.hid hP
    have Zc1 := Lib.hid (Z4.out.save hS hhg)
    have Kc1 := Lib.hid (K4.out.save hS hag)
    have Lc1 := Lib.hid (L4.out.trans (hS.below hwg L4.out.size))
    clear hP hS P4 Z4 K4 L4
    go_wp2_with (first
      | ((with_reducible show wpList _ _ _ (⟨none, .store _ (.tmp 49) _, _, _, _, _⟩ :: _) _ _); refine wpList_store_fld rfl _ (.tmp 49) (.tmp 48) rfl a 15 rfl _ zs (u1) rfl Kc1 (Lib.hid (by have := HZ.out; omega)) (by kernel_rfl) (own_one V1.out) ?_; intro x1 Ks1 Os1 hqs1; obtain ⟨C1, hC1⟩ : ∃ x, x = zs.set 15 (u1) := ⟨_, rfl⟩; have HC1 := Lib.hid hC1; have HL1 : Hid (C1.length = 20) := (by rw [hC1, List.length_set]; exact HZ.out); rw [← hC1] at Ks1; have Zs1 := Lib.hid (Zc1.out.only Os1.out hha); have Ps1 := Lib.hid (Pc1.out.only Os1.out (Ne.symm hag) hwa); have Ls1 := Lib.hid (below_only Lc1.out Os1.out hwa); have V1s1 := Lib.hid (Own.onlyAt V1.out Os1.out hba1); clear hC1)
      | fail)
    refine (DE.out x1 g Ps1.out).mono ?_
    rintro e we ⟨rfl, kk, rfl⟩
    have Ze := Lib.hid (Blk.drewN Zs1.out kk)
    have Ke := Lib.hid (Blk.drewN Ks1.out kk)
    have Le : Hid (Below w.heap.size w (x1.drewN kk)) := step Ls1.out (drewed _ kk)
    obtain ⟨wq, hwq⟩ : ∃ wq, wq = x1.drewN kk := ⟨_, rfl⟩
    have HWQ := Lib.hid hwq
    rw [← hwq] at Ze Ke Le ⊢
    clear hwq
    by_cases he : er = 0
    rotate_left
    · have hne : (er != 0) = true := by simpa using he
      have HN := Lib.hid (HE'.out he)
      clear he HE' HQ
      go_wp2_with (first
        | ((with_reducible show wpList _ _ _ (⟨some 60, _, _, _, _, _⟩ :: _) _ _); refine wpList_build_none rfl _ rfl zs BZ ?_)
        | ((with_reducible show wpList _ _ _ (⟨none, .store _ (.tmp 4) _, _, _, _, _⟩ :: _) _ _); refine wpList_store_blk rfl _ (.tmp 4) (.tmp 60) rfl h rfl _ zs zs rfl Ze 20 size_say HZ HZ HZ1 ?_; intro w10 K10 O10 hg10)
        | fail)
      refine bodyPost_ret (v := .tuple #[.agg zs.toArray, .int .i64 er]) ?_ rfl (HN.out _ _ rfl (below_only Le.out O10.out (by omega)))
      exact results_cell_two rfl _ _ h _ _ (0, 0) _ rfl K10.out Tryd.underlying45 rfl (by rw [size_say]; have := HZ.out; simp [this]) rfl
    · subst he
      have HEQ : Hid (C1 = scells u1 (.slice none 0 0) { zeroSay with data := q1.1 }) := by
        show _ = _
        rw [HC1.out, HZS.out]
        rfl
      have H1C : Hid (∀ v ∈ C1, v.oneCell' = true) := by
        show _
        rw [HEQ.out]
        exact scells_one (own_one V1s1.out) rfl
      go_wp2_with (first
        | ((with_reducible show wpList _ _ _ (⟨some 62, _, _, _, _, _⟩ :: _) _ _); refine wpList_load_blk rfl _ (.tmp 7) rfl a rfl _ C1 Ke 20 _ Tryd.underlying45 rfl size_say HL1 ?_)
        | ((with_reducible show wpList _ _ _ (⟨none, .store _ (.tmp 4) _, _, _, _, _⟩ :: _) _ _); refine wpList_store_blk rfl _ (.tmp 4) (.tmp 62) rfl h rfl _ zs C1 rfl Ze 20 size_say HZ HL1 H1C ?_; intro w10 K10 O10 hg10)
        | fail)
      refine bodyPost_ret (v := .tuple #[.agg C1.toArray, .int .i64 0]) ?_ rfl ?_
      · exact results_cell_two rfl _ _ h _ _ (0, 0) _ rfl K10.out Tryd.underlying45 rfl (by rw [size_say]; have := HL1.out; simp [this]) rfl
      · have LF : Below w.heap.size w w10 := below_only Le.out O10.out (by omega)
        have VF0 : Own wq b1 u1 q1.1 := by rw [HWQ.out]; exact V1s1.out
        have VF := Own.onlyAt VF0 O10.out hbh1
        obtain ⟨Ax, kx, hux, hHx⟩ := Own.holds VF DL.out.1 (Nat.le_trans DL.out.2 (by decide))
        exact HQ.out C1 _ _ (by trivial) rfl ⟨Ax, _, kx, none, 0, 0, by rw [HEQ.out, hux], hHx, HoldsS.nil _ _ _ _⟩ LF
  · subst h9
    have D1 : Hid (∀ (w' : World) (g : Nat), RP w' g w.heap.size A n k xs rd0 → Calls Tryd.prog 53 #[.pointer (some ⟨g, 0, none⟩), .int .i64 4] w' fun e w2 => e = .returned (.int .u64 (s9 xs).1) ∧ RP w2 g w.heap.size A n k xs (s9 xs).2 ∧ Save g w' w2) := fun w' g h => rN w' g w.heap.size A n k xs _ h 4 (by decide)
    have DE : Hid (∀ (w' : World) (g : Nat), RP w' g w.heap.size A n k xs (s9 xs).2 → Calls Tryd.prog 57 #[.pointer (some ⟨g, 0, none⟩)] w' fun e w2 => e = .returned (.int .i64 (rdEnd xs (s9 xs).2)) ∧ ∃ j, w'.drewN j = w2) := fun w' g h => rEnd w' g w.heap.size A n k xs _ h
    have hge : sgErr 9 xs = rdEnd xs (s9 xs).2 := by unfold sgErr; rw [if_pos hk]; rfl
    have HQ : Hid (∀ (cs : List Value) (e : Ending) (w' : World), rdEnd xs (s9 xs).2 = 0 → e = .returned (.tuple #[.agg cs.toArray, .int .i64 0]) → SayIs w' w'.heap.size cs { zeroSay with n := (s9 xs).1 } → Below w.heap.size w w' → RFGSayPost w 9 xs e w') := by
      intro cs e w' h0 h1 h2 h5
      have ho : sgOf 9 xs = { zeroSay with n := (s9 xs).1 } := by unfold sgOf; rw [hge, h0, if_pos rfl]; rfl
      unfold RFGSayPost
      rw [hge, h0, ho]
      exact ⟨cs, h1, h2, h5⟩
    have HE' := Lib.hid (HE.out _ hge)
    have zw1 : IntKind.u32.wrap (s9 xs).1 = (s9 xs).1 := by
      obtain ⟨x0, x1⟩ := rdN_lt hby 4 rd0 4294967296 (by decide) (by decide)
      change 0 ≤ (s9 xs).1 at x0
      change (s9 xs).1 ≤ _ at x1
      rw [IntKind.wrap_u32]
      omega
    obtain ⟨er, her⟩ : ∃ x, x = rdEnd xs (s9 xs).2 := ⟨_, rfl⟩
    rw [← her] at DE HQ HE'
    obtain ⟨q1, hq1⟩ : ∃ x, x = (s9 xs) := ⟨_, rfl⟩
    rw [← hq1] at D1 DE HQ zw1
    clear her hge HE hk hx hq1
    go_enter Tryd.func25, Tryd.ntmps25
    go_wp2_with (first
      | ((with_reducible show wpList _ _ _ (⟨some 4, _, _, _, _, _⟩ :: _) _ _); refine wpList_alloc_blk rfl _ rfl zs _ ZH ?_; intro h w1 hg1 hg2 Z1 L1)
      | fail)
    refine (CK.out _).mono ?_
    rintro e v0 ⟨rfl, rfl⟩
    go_wp2_with (first
      | ((with_reducible show wpList _ _ _ (⟨some 14, _, _, _, _, _⟩ :: _) _ _); refine wpList_build_blk rfl _ _ rfl ([.slice A n k, .int .i64 0, .int .i64 0] : List Value) (by refine Eq.trans ?_ BR; kernel_rfl) ?_)
      | ((with_reducible show wpList _ _ _ (⟨some 15, _, _, _, _, _⟩ :: _) _ _); refine wpList_box_blk rfl _ (.tmp 14) rfl ([.slice A n k, .int .i64 0, .int .i64 0] : List Value) rfl ?_; intro g w2 hg3 hg4 R2 L02; have Z2 := Lib.hid (Z1.out.over L02.out); have L2 := Lib.hid (step L1.out L02.out); have hhg : h ≠ g := (by omega); have hwg : w.heap.size ≤ g := (by have := L1.out.size; omega))
      | ((with_reducible show wpList _ _ _ (⟨some 7, _, _, _, _, _⟩ :: _) _ _); refine wpList_alloc_blk rfl _ rfl zs _ ZH ?_; intro a w4 hg5 hg6 K4 L03; have R4 := Lib.hid (R2.out.over L03.out); have Z4 := Lib.hid (Z2.out.over L03.out); have L4 := Lib.hid (step L2.out L03.out); have hag : a ≠ g := (by have := R2.out.lt; omega); have hha : h ≠ a := (by have := Z2.out.lt; omega); have hwa : w.heap.size ≤ a := (by have := L2.out.size; omega))
      | fail)
    have P4 : Hid (RP w4 g w.heap.size A n k xs rd0) := ⟨R4.out, HX.out.below L4.out, hwg, Nat.zero_le _⟩
    clear R4 R2 L02 L03 Z1 Z2 L1 L2 HX CK
    refine (D1.out w4 g P4.out).mono ?_
    rintro e v1 ⟨rfl, hP, hS⟩
    have Pc1 := Lib.hid hP
    have Zc1 := Lib.hid (Z4.out.save hS hhg)
    have Kc1 := Lib.hid (K4.out.save hS hag)
    have Lc1 := Lib.hid (L4.out.trans (hS.below hwg L4.out.size))
    clear hP hS P4 Z4 K4 L4
    go_wp2_with (first
      | ((with_reducible show wpList _ _ _ (⟨none, .store _ (.tmp 55) _, _, _, _, _⟩ :: _) _ _); refine wpList_store_fld rfl _ (.tmp 55) (.tmp 54) rfl a 16 rfl _ zs (.int .u32 q1.1) rfl Kc1 (Lib.hid (by have := HZ.out; omega)) (by kernel_rfl) rfl ?_; intro x1 Ks1 Os1 hqs1; obtain ⟨C1, hC1⟩ : ∃ x, x = zs.set 16 (.int .u32 q1.1) := ⟨_, rfl⟩; have HC1 := Lib.hid hC1; have HL1 : Hid (C1.length = 20) := (by rw [hC1, List.length_set]; exact HZ.out); rw [← hC1] at Ks1; have Zs1 := Lib.hid (Zc1.out.only Os1.out hha); have Ps1 := Lib.hid (Pc1.out.only Os1.out (Ne.symm hag) hwa); have Ls1 := Lib.hid (below_only Lc1.out Os1.out hwa); clear hC1)
      | fail)
    refine (DE.out x1 g Ps1.out).mono ?_
    rintro e we ⟨rfl, kk, rfl⟩
    have Ze := Lib.hid (Blk.drewN Zs1.out kk)
    have Ke := Lib.hid (Blk.drewN Ks1.out kk)
    have Le : Hid (Below w.heap.size w (x1.drewN kk)) := step Ls1.out (drewed _ kk)
    obtain ⟨wq, hwq⟩ : ∃ wq, wq = x1.drewN kk := ⟨_, rfl⟩
    have HWQ := Lib.hid hwq
    rw [← hwq] at Ze Ke Le ⊢
    clear hwq
    by_cases he : er = 0
    rotate_left
    · have hne : (er != 0) = true := by simpa using he
      have HN := Lib.hid (HE'.out he)
      clear he HE' HQ
      go_wp2_with (first
        | ((with_reducible show wpList _ _ _ (⟨some 60, _, _, _, _, _⟩ :: _) _ _); refine wpList_build_none rfl _ rfl zs BZ ?_)
        | ((with_reducible show wpList _ _ _ (⟨none, .store _ (.tmp 4) _, _, _, _, _⟩ :: _) _ _); refine wpList_store_blk rfl _ (.tmp 4) (.tmp 60) rfl h rfl _ zs zs rfl Ze 20 size_say HZ HZ HZ1 ?_; intro w10 K10 O10 hg10)
        | fail)
      refine bodyPost_ret (v := .tuple #[.agg zs.toArray, .int .i64 er]) ?_ rfl (HN.out _ _ rfl (below_only Le.out O10.out (by omega)))
      exact results_cell_two rfl _ _ h _ _ (0, 0) _ rfl K10.out Tryd.underlying45 rfl (by rw [size_say]; have := HZ.out; simp [this]) rfl
    · subst he
      have HEQ : Hid (C1 = scells (.slice none 0 0) (.slice none 0 0) { zeroSay with n := q1.1 }) := by
        show _ = _
        rw [HC1.out, HZS.out]
        rfl
      have H1C : Hid (∀ v ∈ C1, v.oneCell' = true) := by
        show _
        rw [HEQ.out]
        exact scells_one rfl rfl
      go_wp2_with (first
        | ((with_reducible show wpList _ _ _ (⟨some 62, _, _, _, _, _⟩ :: _) _ _); refine wpList_load_blk rfl _ (.tmp 7) rfl a rfl _ C1 Ke 20 _ Tryd.underlying45 rfl size_say HL1 ?_)
        | ((with_reducible show wpList _ _ _ (⟨none, .store _ (.tmp 4) _, _, _, _, _⟩ :: _) _ _); refine wpList_store_blk rfl _ (.tmp 4) (.tmp 62) rfl h rfl _ zs C1 rfl Ze 20 size_say HZ HL1 H1C ?_; intro w10 K10 O10 hg10)
        | fail)
      refine bodyPost_ret (v := .tuple #[.agg C1.toArray, .int .i64 0]) ?_ rfl ?_
      · exact results_cell_two rfl _ _ h _ _ (0, 0) _ rfl K10.out Tryd.underlying45 rfl (by rw [size_say]; have := HL1.out; simp [this]) rfl
      · have LF : Below w.heap.size w w10 := below_only Le.out O10.out (by omega)
        exact HQ.out C1 _ _ (by trivial) rfl ⟨none, 0, 0, none, 0, 0, by rw [HEQ.out], Holds.nil _ _, HoldsS.nil _ _ _ _⟩ LF
  · subst h10
    have D1 : Hid (∀ (w' : World) (g : Nat), RP w' g w.heap.size A n k xs rd0 → Calls Tryd.prog 54 #[.pointer (some ⟨g, 0, none⟩), .int .i64 4, .int .u64 0, .int .i64 5] w' fun e w2 => (∃ u, e = .returned (.int .u64 u)) ∧ RP w2 g w.heap.size A n k xs (rdZ xs 4 rd0) ∧ Save g w' w2) := fun w' g h => (rMost w' g w.heap.size A n k xs _ h 4 0 5 (by decide)).mono fun e w2 ⟨h1, h2, h3⟩ => ⟨⟨_, h1⟩, by have e0 := rdMost_Z hby (s := 4) (r := rd0) (by decide); exact (e0 ▸ h2 : RP w2 g w.heap.size A n k xs (rdZ xs 4 rd0)), h3⟩
    have DE : Hid (∀ (w' : World) (g : Nat), RP w' g w.heap.size A n k xs (rdZ xs 4 rd0) → Calls Tryd.prog 57 #[.pointer (some ⟨g, 0, none⟩)] w' fun e w2 => e = .returned (.int .i64 (rdEnd xs (rdZ xs 4 rd0))) ∧ ∃ j, w'.drewN j = w2) := fun w' g h => rEnd w' g w.heap.size A n k xs _ h
    have hge : sgErr 10 xs = rdEnd xs (rdZ xs 4 rd0) := by unfold sgErr; rw [if_pos hk]; rfl
    have HQ : Hid (∀ (cs : List Value) (e : Ending) (w' : World), rdEnd xs (rdZ xs 4 rd0) = 0 → e = .returned (.tuple #[.agg cs.toArray, .int .i64 0]) → SayIs w' w'.heap.size cs zeroSay → Below w.heap.size w w' → RFGSayPost w 10 xs e w') := by
      intro cs e w' h0 h1 h2 h5
      have ho : sgOf 10 xs = zeroSay := by unfold sgOf; rw [hge, h0, if_pos rfl]; rfl
      unfold RFGSayPost
      rw [hge, h0, ho]
      exact ⟨cs, h1, h2, h5⟩
    have HE' := Lib.hid (HE.out _ hge)
    obtain ⟨er, her⟩ : ∃ x, x = rdEnd xs (rdZ xs 4 rd0) := ⟨_, rfl⟩
    rw [← her] at DE HQ HE'
    obtain ⟨q1, hq1⟩ : ∃ x, x = (rdZ xs 4 rd0) := ⟨_, rfl⟩
    rw [← hq1] at D1 DE
    clear her hge HE hk hx hq1
    go_enter Tryd.func25, Tryd.ntmps25
    go_wp2_with (first
      | ((with_reducible show wpList _ _ _ (⟨some 4, _, _, _, _, _⟩ :: _) _ _); refine wpList_alloc_blk rfl _ rfl zs _ ZH ?_; intro h w1 hg1 hg2 Z1 L1)
      | fail)
    refine (CK.out _).mono ?_
    rintro e v0 ⟨rfl, rfl⟩
    go_wp2_with (first
      | ((with_reducible show wpList _ _ _ (⟨some 14, _, _, _, _, _⟩ :: _) _ _); refine wpList_build_blk rfl _ _ rfl ([.slice A n k, .int .i64 0, .int .i64 0] : List Value) (by refine Eq.trans ?_ BR; kernel_rfl) ?_)
      | ((with_reducible show wpList _ _ _ (⟨some 15, _, _, _, _, _⟩ :: _) _ _); refine wpList_box_blk rfl _ (.tmp 14) rfl ([.slice A n k, .int .i64 0, .int .i64 0] : List Value) rfl ?_; intro g w2 hg3 hg4 R2 L02; have Z2 := Lib.hid (Z1.out.over L02.out); have L2 := Lib.hid (step L1.out L02.out); have hhg : h ≠ g := (by omega); have hwg : w.heap.size ≤ g := (by have := L1.out.size; omega))
      | ((with_reducible show wpList _ _ _ (⟨some 7, _, _, _, _, _⟩ :: _) _ _); refine wpList_alloc_blk rfl _ rfl zs _ ZH ?_; intro a w4 hg5 hg6 K4 L03; have R4 := Lib.hid (R2.out.over L03.out); have Z4 := Lib.hid (Z2.out.over L03.out); have L4 := Lib.hid (step L2.out L03.out); have hag : a ≠ g := (by have := R2.out.lt; omega); have hha : h ≠ a := (by have := Z2.out.lt; omega); have hwa : w.heap.size ≤ a := (by have := L2.out.size; omega))
      | fail)
    have P4 : Hid (RP w4 g w.heap.size A n k xs rd0) := ⟨R4.out, HX.out.below L4.out, hwg, Nat.zero_le _⟩
    clear R4 R2 L02 L03 Z1 Z2 L1 L2 HX CK
    refine (D1.out w4 g P4.out).mono ?_
    rintro e v1 ⟨⟨u1, rfl⟩, hP, hS⟩
    have Pc1 := Lib.hid hP
    have Zc1 := Lib.hid (Z4.out.save hS hhg)
    have Kc1 := Lib.hid (K4.out.save hS hag)
    have Lc1 := Lib.hid (L4.out.trans (hS.below hwg L4.out.size))
    clear hP hS P4 Z4 K4 L4
    go_wp2_with fail
    refine (DE.out v1 g Pc1.out).mono ?_
    rintro e we ⟨rfl, kk, rfl⟩
    have Ze := Lib.hid (Blk.drewN Zc1.out kk)
    have Ke := Lib.hid (Blk.drewN Kc1.out kk)
    have Le : Hid (Below w.heap.size w (v1.drewN kk)) := step Lc1.out (drewed _ kk)
    obtain ⟨wq, hwq⟩ : ∃ wq, wq = v1.drewN kk := ⟨_, rfl⟩
    have HWQ := Lib.hid hwq
    rw [← hwq] at Ze Ke Le ⊢
    clear hwq
    by_cases he : er = 0
    rotate_left
    · have hne : (er != 0) = true := by simpa using he
      have HN := Lib.hid (HE'.out he)
      clear he HE' HQ
      go_wp2_with (first
        | ((with_reducible show wpList _ _ _ (⟨some 60, _, _, _, _, _⟩ :: _) _ _); refine wpList_build_none rfl _ rfl zs BZ ?_)
        | ((with_reducible show wpList _ _ _ (⟨none, .store _ (.tmp 4) _, _, _, _, _⟩ :: _) _ _); refine wpList_store_blk rfl _ (.tmp 4) (.tmp 60) rfl h rfl _ zs zs rfl Ze 20 size_say HZ HZ HZ1 ?_; intro w10 K10 O10 hg10)
        | fail)
      refine bodyPost_ret (v := .tuple #[.agg zs.toArray, .int .i64 er]) ?_ rfl (HN.out _ _ rfl (below_only Le.out O10.out (by omega)))
      exact results_cell_two rfl _ _ h _ _ (0, 0) _ rfl K10.out Tryd.underlying45 rfl (by rw [size_say]; have := HZ.out; simp [this]) rfl
    · subst he
      have HEQ : Hid (zs = scells (.slice none 0 0) (.slice none 0 0) zeroSay) := by
        show _ = _
        exact HZS.out
      have H1C : Hid (∀ v ∈ zs, v.oneCell' = true) := by
        show _
        rw [HEQ.out]
        exact scells_one rfl rfl
      go_wp2_with (first
        | ((with_reducible show wpList _ _ _ (⟨some 62, _, _, _, _, _⟩ :: _) _ _); refine wpList_load_blk rfl _ (.tmp 7) rfl a rfl _ zs Ke 20 _ Tryd.underlying45 rfl size_say HZ ?_)
        | ((with_reducible show wpList _ _ _ (⟨none, .store _ (.tmp 4) _, _, _, _, _⟩ :: _) _ _); refine wpList_store_blk rfl _ (.tmp 4) (.tmp 62) rfl h rfl _ zs zs rfl Ze 20 size_say HZ HZ H1C ?_; intro w10 K10 O10 hg10)
        | fail)
      refine bodyPost_ret (v := .tuple #[.agg zs.toArray, .int .i64 0]) ?_ rfl ?_
      · exact results_cell_two rfl _ _ h _ _ (0, 0) _ rfl K10.out Tryd.underlying45 rfl (by rw [size_say]; have := HZ.out; simp [this]) rfl
      · have LF : Below w.heap.size w w10 := below_only Le.out O10.out (by omega)
        exact HQ.out zs _ _ (by trivial) rfl ⟨none, 0, 0, none, 0, 0, by rw [HEQ.out], Holds.nil _ _, HoldsS.nil _ _ _ _⟩ LF
end Go.Proofs.YtdlcjobahdmapaaDoor

namespace Go.Proofs.YtdlcjobahdmapaaDoor
set_option linter.all false
open Go.RowKit
/-- what Wide answers: the head of a made row, three bytes 7 behind it -/
def WidePost (w : World) (xs : List Int) (e : Ending) (w' : World) : Prop :=
  e = .returned (.slice (some ⟨w.heap.size, 0, none⟩) xs.length (xs.length + 3)) ∧ Row w' w.heap.size (xs ++ [7, 7, 7]) ∧ Below w.heap.size w w'
/-- the row that Wide fills, behind k of its three rounds -/
def wideRow (xs : List Int) (k : Nat) : List Int := xs ++ (List.replicate k 7 ++ List.replicate (3 - k) 0)
theorem wideRow_length (xs : List Int) (k : Nat) (hk : k ≤ 3) : (wideRow xs k).length = xs.length + 3 := by simp [wideRow]; omega
theorem wideRow_set (xs : List Int) (k : Nat) (hk : k < 3) : (wideRow xs k).set (xs.length + k) 7 = wideRow xs (k + 1) := by
  unfold wideRow
  rw [List.set_append_right _ _ (by omega), Nat.add_sub_cancel_left, List.set_append_right _ _ (by simp), List.length_replicate, Nat.sub_self, show 3 - k = (3 - (k + 1)) + 1 from by omega, List.replicate_succ, List.set_cons_zero,
    List.replicate_succ', List.append_assoc]
  rfl
set_option maxHeartbeats 400000 in
theorem Wide_any (w : World) (A : Option Addr) (n c : Nat) (xs : List Int) (h : Holds w w.heap.size A n c xs) (hn : n ≤ 281474976710653) :
    Calls Tryd.prog 21 #[.slice A n c] w (WidePost w xs) := by
  have hl := Lib.hid h.len
  have hq : ∀ e w', (e = .returned (.slice (some ⟨w.heap.size, 0, none⟩) n (n + 3)) ∧ Row w' w.heap.size (wideRow xs 3) ∧ Below w.heap.size w w') → WidePost w xs e w' := by
    intro e w' hh
    unfold WidePost
    rw [hl.out]
    exact hh
  have HQ := Lib.hid hq
  clear hq
  go_enter Tryd.func21, Tryd.ntmps21
  go_wp2_with (first
    | (at_make; refine wpList_make_bytes _ rfl (.tmp 8) (.tmp 8) rfl _ _ (n + 3) rfl rfl (by simp) (by simp) (by omega) ?_; intro w1 hrow hb1)
    | ((with_reducible show wpList _ _ _ (⟨some 12, _, _, _, _, _⟩ :: _) _ _); refine wpList_copy_bytes rfl (.tmp 10) (.tmp 11) rfl w.heap.size (n + 3) (n + 3) n c A rfl rfl _ xs _ hrow (h.below hb1) (by omega) (by simp) ?_; intro w2 hrow2 hb2))
  go_loopw [5] (fun i wr => ∃ k : Nat, k ≤ 3 ∧ i = .int .i64 (n + k : Nat) ∧ Hid (Row wr w.heap.size (wideRow xs k)) ∧ Below w.heap.size w wr) (fun i _ => n + 3 - (intOf i).toNat)
  case atStart =>
    refine ⟨0, by omega, rfl, ?_, hb1.trans hb2⟩
    have := hrow2.out
    show Row _ _ _
    simpa [wideRow] using this
  case round =>
    obtain ⟨k, hk, rfl, hR, hb⟩ := hrel
    have hll := wideRow_length xs k hk
    by_cases hlt : k < 3
    · have hc := hR.out.cell (i := n + k) (by rw [hll, hl.out]; omega)
      have hz := hR.out.frozen (n + k)
      have e := wideRow_set xs k hlt
      rw [hl.out] at e
      have hS : Hid (Row (wr.setCell ⟨w.heap.size, n + k, none⟩ (.int .u8 7)) w.heap.size (wideRow xs (k + 1))) := by
        rw [← e]
        exact hR.out.set _ _
      obtain ⟨old, hold⟩ : ∃ old, old = (wideRow xs k).getD (n + k) 0 := ⟨_, rfl⟩
      rw [← hold] at hc
      clear e hold hll hR
      go_wp2
      go_roundw
      case rel => exact ⟨k + 1, by omega, by go_num, hS, hb.setCell (Nat.le_refl _) _⟩
      case measure => simp [intOf]; omega
    · obtain rfl : k = 3 := by omega
      clear hll
      go_wp2
      go_ret
      exact HQ.out _ _ ⟨rfl, hR.out, hb⟩
set_option maxHeartbeats 400000 in
theorem Left_any (w : World) (g : Nat) (A : Option Addr) (n c : Nat) (xs : List Int) (hr : Row w g (xs ++ [7, 7, 7])) (h : Holds w w.heap.size A n c xs) :
    Calls Tryd.prog 26 #[.slice (some ⟨g, 0, none⟩) n (n + 3), .slice A n c] w fun e w' => e = .returned (.bool true) ∧ ∃ k, w.drewN k = w' := by
  have hl := h.len
  have hrm := h.room
  have c7 : ∀ i, i < 3 → w.cell? ⟨g, n + i, none⟩ = some (.int .u8 7) := fun i hi => by
    rw [hr.cell (i := n + i) (by simp; omega), List.getD_eq_getElem?_getD, List.getElem?_append_right (by omega), ← hl, Nat.add_sub_cancel_left]
    have : i = 0 ∨ i = 1 ∨ i = 2 := by omega
    rcases this with rfl | rfl | rfl <;> rfl
  have g0 := c7 0 (by omega)
  have g1 := c7 1 (by omega)
  have g2 := c7 2 (by omega)
  rw [Nat.add_zero] at g0
  have hv : Holds w w.heap.size (some ⟨g, 0, none⟩) n (n + 3) xs := by
    refine ⟨hl, by omega, hrm, h.byte, fun hA => (by cases hA), fun h0 => ⟨g, 0, rfl, hr.lt, fun i hi => ?_⟩⟩
    rw [Nat.zero_add, hr.cell (by simp; omega)]
    simp [List.getD_eq_getElem?_getD, List.getElem?_append, hl, hi]
  have c8 := Lib.hid (Same_any w _ _ _ _ _ _ _ _ xs xs hv h)
  rw [decide_eq_true rfl] at c8
  clear c7 hl
  go_enter Tryd.func26, Tryd.ntmps26
  go_wp2_with fail
  refine c8.out.mono ?_
  rintro e w1 ⟨rfl, j, rfl⟩
  go_wp2
  go_ret
  exact ⟨rfl, j, rfl⟩
end Go.Proofs.YtdlcjobahdmapaaDoor

namespace Go.Proofs.YtdlcjobahdmapaaDoor
set_option linter.all false
open Go.RowKit
set_option linter.unusedVariables false
set_option maxRecDepth 100000
theorem wide_holds {w : World} {g n : Nat} {xs : List Int} (hr : Row w g (xs ++ [7, 7, 7])) (hl : xs.length = n) (hn : n ≤ 281474976710653) (hb : Bytes xs) : Holds w w.heap.size (some ⟨g, 0, none⟩) n (n + 3) xs := by
  refine ⟨hl, by omega, by omega, hb, fun hA => (by cases hA), fun h0 => ⟨g, 0, rfl, hr.lt, fun i hi => ?_⟩⟩
  rw [Nat.zero_add, hr.cell (by simp; omega)]
  simp [List.getD_eq_getElem?_getD, List.getElem?_append, hl, hi]
set_option maxHeartbeats 2000000 in
theorem walk_FileGets (W : World) (hT : Tabs W) (a0 : Int) (w0 : 0 ≤ a0 ∧ a0 ≤ 65535) (A1 : Option Addr) (n1 c1 : Nat) (z1 : List Int) (l1 : n1 ≤ c1) (r1 : c1 ≤ 140737488351232) (h1 : Holds W W.heap.size A1 c1 c1 z1) :
    Calls Tryd.prog 5 #[.int .u16 a0, .slice A1 n1 c1] W fun e W' => e = .returned (.bool true) ∧ Below W.heap.size W W' := by
  have HT := Lib.hid hT
  have h := h1.head l1
  obtain ⟨xs, hxs⟩ : ∃ xs, xs = z1.take n1 := ⟨_, rfl⟩
  rw [← hxs] at h
  have HX := Lib.hid h
  have HXB := Lib.hid h.byte
  have HXL := Lib.hid h.len
  have hbig : n1 ≤ 140737488351232 := by omega
  have CW := Wide_any W A1 n1 c1 xs h (by omega)
  unfold WidePost at CW
  rw [h.len] at CW
  have CW' := Lib.hid CW
  have ZH := Lib.hid zero_ask
  have HZ : Hid ((acells (.slice none 0 0) (.slice none 0 0) (.slice none 0 0) zeroAsk).length = 69) := acells_len zeroAsk_ok
  have ZS := Lib.hid zero_say
  have SZ : Hid ((scells (.slice none 0 0) (.slice none 0 0) zeroSay).length = 20) := scells_len zeroSay_ok
  have GK := Lib.hid (fgOf_ok a0 HXB.out)
  have TK := Lib.hid (sgOf_ok a0 HXB.out)
  obtain ⟨GD, GN1, GN2, _⟩ := fgOf_small a0 h.byte
  obtain ⟨SN1, SN2⟩ := sgOf_small a0 h.byte
  have CG : Hid (∀ (w : World) (A : Option Addr) (n c : Nat), Holds w w.heap.size A n c xs → Calls Tryd.prog 22 #[.int .u16 a0, .slice A n c] w fun e w' => ∃ cs : List Value, e = .returned (.tuple #[.agg cs.toArray, .int .i64 (fgErr a0 xs)]) ∧ AskIs w' w'.heap.size cs (fgOf a0 xs) ∧ Below w.heap.size w w') := fun w A n c hh => (FGetAsk_any w a0 A n c xs w0 hh).mono fun e w' ⟨ds, vx, h1, h2, _, _, h3⟩ => ⟨ds, h1, h2, h3⟩
  have CR : Hid (∀ (w : World) (A : Option Addr) (n c : Nat), Holds w w.heap.size A n c xs → Calls Tryd.prog 23 #[.int .u16 a0, .slice A n c] w fun e w' => ∃ cs : List Value, e = .returned (.tuple #[.agg cs.toArray, .int .i64 (fgErr a0 xs)]) ∧ AskIs w' w'.heap.size cs (fgOf a0 xs) ∧ Below w.heap.size w w') := fun w A n c hh => (RFGetAsk_any w a0 A n c xs w0 hh).mono fun e w' ⟨ds, h1, h2, h3⟩ => ⟨ds, h1, h2, h3⟩
  have DG : Hid (∀ (w : World) (A : Option Addr) (n c : Nat), Holds w w.heap.size A n c xs → Calls Tryd.prog 24 #[.int .u16 a0, .slice A n c] w fun e w' => ∃ cs : List Value, e = .returned (.tuple #[.agg cs.toArray, .int .i64 (sgErr a0 xs)]) ∧ SayIs w' w'.heap.size cs (sgOf a0 xs) ∧ Below w.heap.size w w') := fun w A n c hh => (FGetSay_any w a0 A n c xs w0 hh).mono fun e w' ⟨ds, vx, h1, h2, _, _, h3⟩ => ⟨ds, h1, h2, h3⟩
  have DR : Hid (∀ (w : World) (A : Option Addr) (n c : Nat), Holds w w.heap.size A n c xs → Calls Tryd.prog 25 #[.int .u16 a0, .slice A n c] w fun e w' => ∃ cs : List Value, e = .returned (.tuple #[.agg cs.toArray, .int .i64 (sgErr a0 xs)]) ∧ SayIs w' w'.heap.size cs (sgOf a0 xs) ∧ Below w.heap.size w w') := fun w A n c hh => (RFGetSay_any w a0 A n c xs w0 hh).mono fun e w' ⟨ds, h1, h2, h3⟩ => ⟨ds, h1, h2, h3⟩
  have CQ : Hid (∀ (w : World) (ds es : List Value), AskIs w w.heap.size ds (fgOf a0 xs) → AskIs w w.heap.size es (fgOf a0 xs) → Calls Tryd.prog 15 #[.agg ds.toArray, .agg es.toArray] w fun e w' => e = .returned (.bool true) ∧ Below w.heap.size w w') := fun w ds es h1 h2 => by
    have h3 := Asks_any w ds es _ _ GK.out GK.out h1 h2 ⟨by omega, by omega, by omega⟩ ⟨by omega, by omega, by omega⟩
    rwa [decide_eq_true rfl] at h3
  have DQ : Hid (∀ (w : World) (ds es : List Value), SayIs w w.heap.size ds (sgOf a0 xs) → SayIs w w.heap.size es (sgOf a0 xs) → Calls Tryd.prog 20 #[.agg ds.toArray, .agg es.toArray] w fun e w' => e = .returned (.bool true) ∧ Below w.heap.size w w') := fun w ds es h1 h2 => by
    have h3 := Says_any w ds es _ _ TK.out TK.out h1 h2 ⟨by omega, by omega⟩ ⟨by omega, by omega⟩
    rwa [decide_eq_true rfl] at h3
  have CL : Hid (∀ w : World, Tabs w → Calls Tryd.prog 16 #[] w fun e w' => e = .returned (.bool true) ∧ Below w.heap.size w w') := flives_any
  obtain ⟨ga, hga⟩ : ∃ x, x = fgOf a0 xs := ⟨_, rfl⟩
  obtain ⟨eb, heb⟩ : ∃ x, x = fgErr a0 xs := ⟨_, rfl⟩
  obtain ⟨gs, hgs⟩ : ∃ x, x = sgOf a0 xs := ⟨_, rfl⟩
  obtain ⟨ft, hft⟩ : ∃ x, x = sgErr a0 xs := ⟨_, rfl⟩
  rw [← hga] at GK CQ
  rw [← hga, ← heb] at CG CR
  rw [← hgs] at TK DQ
  rw [← hgs, ← hft] at DG DR
  obtain ⟨nz, hnz⟩ : ∃ x, x = acells (.slice none 0 0) (.slice none 0 0) (.slice none 0 0) zeroAsk := ⟨_, rfl⟩
  rw [← hnz] at ZH HZ
  obtain ⟨nt, hnt⟩ : ∃ x, x = scells (.slice none 0 0) (.slice none 0 0) zeroSay := ⟨_, rfl⟩
  rw [← hnt] at ZS SZ
  clear hga heb hgs hft hnz hnt hT h h1 hxs CW GD GN1 GN2 SN1 SN2
  go_enter Tryd.func5, Tryd.ntmps5
  go_wp2_with fail
  refine CW'.out.mono ?_
  rintro e v1 ⟨rfl, hrow, L1⟩
  have R1 := Lib.hid hrow
  have M1 := Lib.hid L1
  have hW1 := R1.out.lt
  obtain ⟨gw, hgw⟩ : ∃ g, g = W.heap.size := ⟨_, rfl⟩
  have HGW := Lib.hid hgw
  rw [← hgw] at R1 hW1 ⊢
  clear hrow L1 CW' hgw
  go_wp2_with fail
  refine (CG.out _ _ _ _ (wide_holds R1.out HXL.out (by omega) HXB.out)).mono ?_
  rintro e va1 ⟨ads, rfl, hd, L⟩
  have aD1 := Lib.hid hd
  have aDL := Lib.hid (hd.len GK.out)
  have aDO := Lib.hid hd.one
  have Ma1 := Lib.hid (step M1.out L)
  have Ra1 := Lib.hid (R1.out.over L)
  clear hd L
  go_wp2_with (first
    | ((with_reducible show wpList _ _ _ (⟨some 6, _, _, _, _, _⟩ :: _) _ _); refine wpList_alloc_blk rfl _ rfl nz _ ZH ?_; intro ag a2 hg5 hg6 aZ2 aL2)
    | ((with_reducible show wpList _ _ _ (⟨none, .store _ (.tmp 6) _, _, _, _, _⟩ :: _) _ _); refine wpList_store_blk rfl _ (.tmp 6) (.tmp 20) rfl ag rfl _ nz ads rfl aZ2 69 size_ask HZ aDL aDO ?_; intro va3 Xa_a3 aO3 hg7; have aL3 := Lib.hid (below_only aL2.out aO3.out hg5); have Ma3 := Lib.hid (step Ma1.out aL3.out); have Ra3 := Lib.hid (Ra1.out.over aL3.out); have Da_a3 := Lib.hid (aD1.out.over aL3.out))
    | fail)
  refine (CR.out _ _ _ _ ((HX.out.below Ma3.out).mono Ma3.out.size)).mono ?_
  rintro e vb1 ⟨bds, rfl, hd, L⟩
  have bD1 := Lib.hid hd
  have bDL := Lib.hid (hd.len GK.out)
  have bDO := Lib.hid hd.one
  have Mb1 := Lib.hid (step Ma3.out L)
  have Rb1 := Lib.hid (Ra3.out.over L)
  have Da_b1 := Lib.hid (Da_a3.out.over L)
  have Xa_b1 := Lib.hid (Xa_a3.out.over L)
  clear hd L
  go_wp2_with (first
    | ((with_reducible show wpList _ _ _ (⟨some 8, _, _, _, _, _⟩ :: _) _ _); refine wpList_alloc_blk rfl _ rfl nz _ ZH ?_; intro bg b2 hg5 hg6 bZ2 bL2)
    | ((with_reducible show wpList _ _ _ (⟨none, .store _ (.tmp 8) _, _, _, _, _⟩ :: _) _ _); refine wpList_store_blk rfl _ (.tmp 8) (.tmp 26) rfl bg rfl _ nz bds rfl bZ2 69 size_ask HZ bDL bDO ?_; intro vb3 Xb_b3 bO3 hg7; have bL3 := Lib.hid (below_only bL2.out bO3.out hg5); have Da_b3 := Lib.hid (Da_b1.out.over bL3.out); have Xa_b3 := Lib.hid (Xa_b1.out.over bL3.out); have Mb3 := Lib.hid (step Mb1.out bL3.out); have Rb3 := Lib.hid (Rb1.out.over bL3.out); have Db_b3 := Lib.hid (bD1.out.over bL3.out))
    | fail)
  refine (DG.out _ _ _ _ (wide_holds Rb3.out HXL.out (by omega) HXB.out)).mono ?_
  rintro e vc1 ⟨cds, rfl, hd, L⟩
  have cD1 := Lib.hid hd
  have cDL := Lib.hid (hd.len TK.out)
  have cDO := Lib.hid hd.one
  have Mc1 := Lib.hid (step Mb3.out L)
  have Rc1 := Lib.hid (Rb3.out.over L)
  have Da_c1 := Lib.hid (Da_b3.out.over L)
  have Xa_c1 := Lib.hid (Xa_b3.out.over L)
  have Db_c1 := Lib.hid (Db_b3.out.over L)
  have Xb_c1 := Lib.hid (Xb_b3.out.over L)
  clear hd L
  go_wp2_with (first
    | ((with_reducible show wpList _ _ _ (⟨some 10, _, _, _, _, _⟩ :: _) _ _); refine wpList_alloc_blk rfl _ rfl nt _ ZS ?_; intro cg c2 hg5 hg6 cZ2 cL2)
    | ((with_reducible show wpList _ _ _ (⟨none, .store _ (.tmp 10) _, _, _, _, _⟩ :: _) _ _); refine wpList_store_blk rfl _ (.tmp 10) (.tmp 32) rfl cg rfl _ nt cds rfl cZ2 20 size_say SZ cDL cDO ?_; intro vc3 Xc_c3 cO3 hg7; have cL3 := Lib.hid (below_only cL2.out cO3.out hg5); have Da_c3 := Lib.hid (Da_c1.out.over cL3.out); have Xa_c3 := Lib.hid (Xa_c1.out.over cL3.out); have Db_c3 := Lib.hid (Db_c1.out.over cL3.out); have Xb_c3 := Lib.hid (Xb_c1.out.over cL3.out); have Mc3 := Lib.hid (step Mc1.out cL3.out); have Rc3 := Lib.hid (Rc1.out.over cL3.out); have Dc_c3 := Lib.hid (cD1.out.over cL3.out))
    | fail)
  refine (DR.out _ _ _ _ ((HX.out.below Mc3.out).mono Mc3.out.size)).mono ?_
  rintro e vd1 ⟨dds, rfl, hd, L⟩
  have dD1 := Lib.hid hd
  have dDL := Lib.hid (hd.len TK.out)
  have dDO := Lib.hid hd.one
  have Md1 := Lib.hid (step Mc3.out L)
  have Rd1 := Lib.hid (Rc3.out.over L)
  have Da_d1 := Lib.hid (Da_c3.out.over L)
  have Xa_d1 := Lib.hid (Xa_c3.out.over L)
  have Db_d1 := Lib.hid (Db_c3.out.over L)
  have Xb_d1 := Lib.hid (Xb_c3.out.over L)
  have Dc_d1 := Lib.hid (Dc_c3.out.over L)
  have Xc_d1 := Lib.hid (Xc_c3.out.over L)
  clear hd L
  go_wp2_with (first
    | ((with_reducible show wpList _ _ _ (⟨some 12, _, _, _, _, _⟩ :: _) _ _); refine wpList_alloc_blk rfl _ rfl nt _ ZS ?_; intro dg d2 hg5 hg6 dZ2 dL2)
    | ((with_reducible show wpList _ _ _ (⟨none, .store _ (.tmp 12) _, _, _, _, _⟩ :: _) _ _); refine wpList_store_blk rfl _ (.tmp 12) (.tmp 38) rfl dg rfl _ nt dds rfl dZ2 20 size_say SZ dDL dDO ?_; intro vd3 Xd_d3 dO3 hg7; have dL3 := Lib.hid (below_only dL2.out dO3.out hg5); have Da_d3 := Lib.hid (Da_d1.out.over dL3.out); have Xa_d3 := Lib.hid (Xa_d1.out.over dL3.out); have Db_d3 := Lib.hid (Db_d1.out.over dL3.out); have Xb_d3 := Lib.hid (Xb_d1.out.over dL3.out); have Dc_d3 := Lib.hid (Dc_d1.out.over dL3.out); have Xc_d3 := Lib.hid (Xc_d1.out.over dL3.out); have Md3 := Lib.hid (step Md1.out dL3.out); have Rd3 := Lib.hid (Rd1.out.over dL3.out); have Dd_d3 := Lib.hid (dD1.out.over dL3.out))
    | ((with_reducible show wpList _ _ _ (⟨some 40, _, _, _, _, _⟩ :: _) _ _); refine wpList_load_blk rfl _ (.tmp 6) rfl ag rfl _ ads Xa_d3 69 _ Tryd.underlying32 rfl size_ask aDL ?_)
    | ((with_reducible show wpList _ _ _ (⟨some 41, _, _, _, _, _⟩ :: _) _ _); refine wpList_load_blk rfl _ (.tmp 8) rfl bg rfl _ bds Xb_d3 69 _ Tryd.underlying32 rfl size_ask bDL ?_)
    | fail)
  refine (CQ.out vd3 ads bds Da_d3.out Db_d3.out).mono ?_
  rintro e ve1 ⟨rfl, L⟩
  have Me := Lib.hid (step Md3.out L)
  have Re := Lib.hid (Rd3.out.over L)
  have Xc := Lib.hid (Xc_d3.out.over L)
  have Xd := Lib.hid (Xd_d3.out.over L)
  have Dc := Lib.hid (Dc_d3.out.over L)
  have Dd := Lib.hid (Dd_d3.out.over L)
  clear L
  go_wp2_with (first
    | ((with_reducible show wpList _ _ _ (⟨some 49, _, _, _, _, _⟩ :: _) _ _); refine wpList_load_want (by kernel_rfl) _ (.tmp 10) rfl cg rfl _ cds Xc 20 _ Tryd.underlying45 rfl size_say cDL ?_)
    | ((with_reducible show wpList _ _ _ (⟨some 50, _, _, _, _, _⟩ :: _) _ _); refine wpList_load_want (by kernel_rfl) _ (.tmp 12) rfl dg rfl _ dds Xd 20 _ Tryd.underlying45 rfl size_say dDL ?_)
    | fail)
  refine (DQ.out ve1 cds dds Dc.out Dd.out).mono ?_
  rintro e vf1 ⟨rfl, L⟩
  have Mf := Lib.hid (step Me.out L)
  have Rf := Lib.hid (Re.out.over L)
  clear L Me Re Xc Xd Dc Dd
  have D12 := Lib.hid (Left_any vf1 gw A1 n1 c1 xs Rf.out ((HX.out.below Mf.out).mono Mf.out.size))
  go_wp2_with fail
  refine D12.out.mono ?_
  rintro e v13 ⟨rfl, k13, rfl⟩
  have M13 : Hid (Below W.heap.size W (vf1.drewN k13)) := Mf.out.trans ((drewed vf1 k13).mono Mf.out.size)
  obtain ⟨v13, hv13⟩ : ∃ v, v = vf1.drewN k13 := ⟨_, rfl⟩
  rw [← hv13] at M13 ⊢
  clear hv13 D12 Rf Mf
  go_wp2_with fail
  refine (CL.out v13 (HT.out.below M13.out)).mono ?_
  rintro e v14 ⟨rfl, L14⟩
  go_wp2
  go_ret
  exact ⟨rfl, step M13.out L14⟩
end Go.Proofs.YtdlcjobahdmapaaDoor
