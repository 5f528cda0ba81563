import Derived.WalkKit
import Derived.Deep.Draws
import Derived.Laws.Rows
import Derived.Laws.OwnMore
import Derived.Lib.RuneBytes
import Derived.Lib.ValidLaws
import Derived.Test.YtdlcjobahdmapaaDoorRows
import Derived.Laws.CopyOwn
import Derived.Laws.AppendOwnNone
import Derived.Lib.Hide
import Derived.Laws.AppendOwn
import Derived.OwnWalk
import Derived.Lib.OthersKept
import Derived.Laws.BytesArg
import Derived.Shelf.Utf8.AppendRunePlain
import Derived.Shelf.Unicode.ValidAny
import Derived.Test.YtdlcjobahdmapaaDoorProg
import Derived.WalkSpells
import Derived.WalkLawsBesides
import Derived.Deep.QuietTactic
import Derived.BigQuiet
import Derived.Laws.Bits64
import Derived.Laws.BitsAllLaws
import Derived.ProofKit
import Derived.OpenShut
import Derived.ShutString
import Derived.SizedLaws
import Derived.ChangeOld
import Derived.Lib.AppendZeros
import Derived.Deep.RegionWith
import Derived.Deep.DeepCutAuto
import Derived.Great.Walk
import Derived.Laws.Tables
import Derived.Laws.NewFold
import Derived.Deep.WholeRow
import Derived.Deep.MidRow
import Derived.OneCell
import Derived.Deep.Strs
import Derived.OrdersHeld
import Derived.Laws.StructEq
import Derived.ChangeKeysEq
import Derived.Deep.RegionLaw
import Derived.Deep.OwnRows
import Derived.Lib.LaidIn
import Derived.Lib.LaidU8T
import Derived.Deep.DeepHandedRow
import Derived.Test.YtdlcjobahdmapaaDoorWAD
import Derived.Test.YtdlcjobahdmapaaDoorWAF
import Derived.Test.YtdlcjobahdmapaaDoorWAG
import Derived.Test.YtdlcjobahdmapaaDoorWAH
import Derived.Test.YtdlcjobahdmapaaDoorWAI
import Derived.Test.YtdlcjobahdmapaaDoorWAK
import Derived.Test.YtdlcjobahdmapaaDoorWAL
import Derived.Test.YtdlcjobahdmapaaDoorWAP
import Derived.Test.YtdlcjobahdmapaaDoorWAQ
import Derived.Test.YtdlcjobahdmapaaDoorWAR
import Derived.Test.YtdlcjobahdmapaaDoorWAU
import Derived.Test.YtdlcjobahdmapaaDoorWAV
import Derived.Test.YtdlcjobahdmapaaDoorWBA
import Derived.Test.YtdlcjobahdmapaaDoorWBD
namespace Go.Proofs.YtdlcjobahdmapaaDoor
set_option linter.all false
open Go.RowKit
set_option linter.unusedVariables false
set_option maxRecDepth 100000
def RFSayPost (w : World) (c : Int) (a : SayV) (e : Ending) (w' : World) : Prop := ∃ v, e = .returned (.tuple #[v, .int .i64 (fsErr c a)]) ∧ Own w' w.heap.size v (fsOf c a) ∧ Below w.heap.size w w'
theorem wantFS_ok {c : Int} {s : SayV} (k : s.ok) : (wantFS c s).ok := by
  unfold wantFS
  split
  · exact ⟨zeroSay_ok.dia, k.siz, zeroSay_ok.clen, zeroSay_ok.cbyte, k.lev, k.dur, k.made, k.file, k.kind, zeroSay_ok.data, zeroSay_ok.n, zeroSay_ok.ents⟩
  · split
    · exact ⟨zeroSay_ok.dia, zeroSay_ok.siz, zeroSay_ok.clen, zeroSay_ok.cbyte, zeroSay_ok.lev, zeroSay_ok.dur, zeroSay_ok.made, zeroSay_ok.file, zeroSay_ok.kind, k.data, zeroSay_ok.n, zeroSay_ok.ents⟩
    · split
      · exact ⟨zeroSay_ok.dia, zeroSay_ok.siz, zeroSay_ok.clen, zeroSay_ok.cbyte, zeroSay_ok.lev, zeroSay_ok.dur, zeroSay_ok.made, zeroSay_ok.file, zeroSay_ok.kind, zeroSay_ok.data, k.n, zeroSay_ok.ents⟩
      · exact zeroSay_ok
set_option maxHeartbeats 4000000 in
theorem RFPutSay_any (w : World) (c : Int) (cs : List Value) (a : SayV) (hc : 0 ≤ c ∧ c ≤ 65535) (ka : a.ok) (ha : SayIs w w.heap.size cs a) (hlen : a.data.length ≤ 281474976710656 ∧ a.ents.length ≤ 281474976710656) :
    Calls Tryd.prog 19 #[.int .u16 c, .agg cs.toArray] w (RFSayPost w c a) := by
  have HL := Lib.hid (ha.len ka)
  have HA := Lib.hid ha
  have CK : Hid (∀ w : World, Calls Tryd.prog 37 #[.int .u16 c] w fun e w' => e = .returned (.bool (knownF c)) ∧ w = w') := fun w => RKnownF_any w c hc
  have HE : Hid (∀ er, fsErr c a = er → er ≠ 0 → ∀ e w', e = .returned (.tuple #[.slice none 0 0, .int .i64 er]) → Below w.heap.size w w' → RFSayPost w c a e w') := by
    intro er h1 h2 e w' he hb
    unfold RFSayPost fsOf
    rw [h1, if_neg h2]
    exact ⟨_, he, Own.nil _ _, hb⟩
  have ZH := Lib.hid zero_say
  have HZ : Hid ((scells (.slice none 0 0) (.slice none 0 0) zeroSay).length = 20) := scells_len zeroSay_ok
  have HZ1 : Hid (∀ v ∈ scells (.slice none 0 0) (.slice none 0 0) zeroSay, v.oneCell' = true) := (zeroSay_is w 0).one
  have BB : Tryd.prog.built 45 [(3, .int .u8 a.lev), (4, .int .u8 a.dur), (5, .int .u16 a.made), (6, .int .u64 a.file), (1, .int .u64 a.siz), (7, .int .u8 a.kind)] = some (scells (.slice none 0 0) (.slice none 0 0) (wantFS 5 a)).toArray := by kernel_rfl
  obtain ⟨X1, X2, X3, M1, M2, M3', hcs, hX, hM⟩ := ha
  have FC : Hid (∀ (w : World) (g : Nat), Blk w g 45 cs → w.cell? ⟨g, 1, none⟩ = some (.int .u64 a.siz) ∧ w.cell? ⟨g, 10, none⟩ = some (.int .u8 a.lev) ∧ w.cell? ⟨g, 11, none⟩ = some (.int .u8 a.dur) ∧ w.cell? ⟨g, 12, none⟩ = some (.int .u16 a.made) ∧ w.cell? ⟨g, 13, none⟩ = some (.int .u64 a.file) ∧ w.cell? ⟨g, 14, none⟩ = some (.int .u8 a.kind) ∧ w.cell? ⟨g, 16, none⟩ = some (.int .u32 a.n) ∧ w.cell? ⟨g, 15, none⟩ = some (.slice X1 X2 X3)) := fun w g h => by
    rw [hcs] at h
    exact ⟨h.at rfl, h.at (scells_get ka 0), h.at (scells_get ka 1), h.at (scells_get ka 2), h.at (scells_get ka 3), h.at (scells_get ka 4), h.at (scells_get ka 6), h.at (scells_get ka 5)⟩
  have hxl : a.data.length = X2 := hX.len
  have hxr := hX.room
  have HX := Lib.hid hX
  obtain ⟨zs, hzs⟩ : ∃ x, x = scells (.slice none 0 0) (.slice none 0 0) zeroSay := ⟨_, rfl⟩
  have HZS := Lib.hid hzs
  rw [← hzs] at ZH HZ HZ1
  clear hzs
  by_cases hk : knownF c = true
  rotate_left
  · have hkf : knownF c = false := by simpa using hk
    have HQ := Lib.hid (HE.out 2 (by unfold fsErr nameFS; rw [hkf]; rfl) (by decide))
    rw [hkf] at CK
    have hk' : c ≠ 5 ∧ c ≠ 8 ∧ c ≠ 9 := by
      refine ⟨?_, ?_, ?_⟩ <;> (rintro rfl; exact hk (by decide))
    obtain ⟨h5, h8, h9⟩ := hk'
    have b5 : (c == 5) = false := by simpa using h5
    have b8 : (c == 8) = false := by simpa using h8
    have b9 : (c == 9) = false := by simpa using h9
    clear hk hkf HE HA hlen hcs hX hM h5 h8 h9 hxl BB
    go_enter Tryd.func19, Tryd.ntmps19
    go_wp2_with (first
      | ((with_reducible show wpList _ _ _ (⟨some 3, _, _, _, _, _⟩ :: _) _ _); refine wpList_box_blk rfl _ (.tmp 1) rfl cs rfl ?_; intro g w1 hg1 hg2 K1 L1)
      | ((with_reducible show wpList _ _ _ (⟨some 6, _, _, _, _, _⟩ :: _) _ _); refine wpList_alloc_blk rfl _ rfl zs _ ZH ?_; intro h w2 hg3 hg4 Z2 L02; have K2 := Lib.hid (K1.out.over L02.out); have L2 := Lib.hid (step L1.out L02.out); obtain ⟨c1, c10, c11, c12, c13, c14, c16, c15⟩ := FC.out w2 g K2.out; have hgh : g ≠ h := (by omega); have hwh : w.heap.size ≤ h := (by have := L1.out.size; omega))
      | fail)
    refine (CK.out _).mono ?_
    rintro e v1 ⟨rfl, rfl⟩
    go_wp2
    go_ret2
    exact HQ.out _ _ rfl L2.out
  rw [hk] at CK
  have hwl : (wantFS c a).data.length ≤ 281474976710656 ∧ (wantFS c a).ents.length ≤ 281474976710656 := by
    unfold wantFS
    split
    · exact ⟨Nat.zero_le _, Nat.zero_le _⟩
    · split
      · exact ⟨hlen.1, Nat.zero_le _⟩
      · split <;> exact ⟨Nat.zero_le _, Nat.zero_le _⟩
  have CS : Hid (∀ (w' : World) (ds : List Value), SayIs w' w'.heap.size ds (wantFS c a) → Below w.heap.size w w' → Calls Tryd.prog 20 #[.agg ds.toArray, .agg cs.toArray] w' fun e w2 => e = .returned (.bool (decide (wantFS c a = a))) ∧ Below w'.heap.size w' w2) := fun w' ds hds hb => Says_any w' ds cs _ a (wantFS_ok ka) ka hds (HA.out.over hb) hwl hlen
  have hcc : c = 5 ∨ c = 6 ∨ c = 7 ∨ c = 8 ∨ c = 9 ∨ c = 10 := known_cases hk
  obtain ⟨l_siz, u_siz⟩ := ka.siz
  obtain ⟨l_lev, u_lev⟩ := ka.lev
  obtain ⟨l_dur, u_dur⟩ := ka.dur
  obtain ⟨l_made, u_made⟩ := ka.made
  obtain ⟨l_file, u_file⟩ := ka.file
  obtain ⟨l_kind, u_kind⟩ := ka.kind
  obtain ⟨l_n, u_n⟩ := ka.n
  have z_made : IntKind.u64.wrap a.made = a.made := by rw [IntKind.wrap_u64]; omega
  have z_kind : IntKind.u64.wrap a.kind = a.kind := by rw [IntKind.wrap_u64]; omega
  have z_n : IntKind.u64.wrap a.n = a.n := by rw [IntKind.wrap_u64]; omega
  have z_x : IntKind.u64.wrap (X2 : Int) = (X2 : Int) := by rw [IntKind.wrap_u64]; omega
  have CL2 : Hid (∀ (w' : World) (B : Nat) (v : Value) (xs : List Int) (n : Int), Own w' B v xs → xs.length ≤ 1000000 → B ≤ w'.heap.size → 0 ≤ n → n ≤ 65535 → Calls Tryd.prog 39 #[v, .int .u64 n, .int .i64 2] w' fun e w2 => ∃ v', e = .returned v' ∧ Own w2 B v' (xs ++ le n 2) ∧ Below B w' w2) := fun w' B v xs n ho hx hb h0 h1 => LayF_any w' B v xs n 2 65536 (by decide) (by decide) (by decide) ho hx hb h0 (by omega)
  have CL4 : Hid (∀ (w' : World) (B : Nat) (v : Value) (xs : List Int) (n : Int), Own w' B v xs → xs.length ≤ 1000000 → B ≤ w'.heap.size → 0 ≤ n → n ≤ 4294967295 → Calls Tryd.prog 39 #[v, .int .u64 n, .int .i64 4] w' fun e w2 => ∃ v', e = .returned v' ∧ Own w2 B v' (xs ++ le n 4) ∧ Below B w' w2) := fun w' B v xs n ho hx hb h0 h1 => LayF_any w' B v xs n 4 4294967296 (by decide) (by decide) (by decide) ho hx hb h0 (by omega)
  have CL8 : Hid (∀ (w' : World) (B : Nat) (v : Value) (xs : List Int) (n : Int), Own w' B v xs → xs.length ≤ 1000000 → B ≤ w'.heap.size → 0 ≤ n → n ≤ 18446744073709551615 → Calls Tryd.prog 39 #[v, .int .u64 n, .int .i64 8] w' fun e w2 => ∃ v', e = .returned v' ∧ Own w2 B v' (xs ++ le n 8) ∧ Below B w' w2) := fun w' B v xs n ho hx hb h0 h1 => LayF_any w' B v xs n 8 18446744073709551616 (by decide) (by decide) (by decide) ho hx hb h0 (by omega)
  have hne : wantFS c a = a ↔ nameFS c a = true := by
    unfold nameFS
    rw [hk, Bool.true_and, decide_eq_true_iff]
    exact (besideFS_want c a).symm
  have HQ0 : Hid (nameFS c a = true → a.made ≤ 2 → a.kind ≤ 2 → X2 ≤ 32768 → ∀ v e w', e = .returned (.tuple #[v, .int .i64 0]) → Own w' w.heap.size v (bodyFS c a) → Below w.heap.size w w' → RFSayPost w c a e w') := by
    intro h1 h2 h3 h4 v e w' he hv hb
    have h : fsErr c a = 0 := by unfold fsErr; rw [if_pos ⟨h1, h2, h3⟩, hxl, if_pos h4]
    unfold RFSayPost fsOf
    rw [h, if_pos rfl]
    exact ⟨_, he, hv, hb⟩
  have HE2 : Hid (¬ (nameFS c a = true ∧ a.made ≤ 2 ∧ a.kind ≤ 2) → ∀ e w', e = .returned (.tuple #[.slice none 0 0, .int .i64 2]) → Below w.heap.size w w' → RFSayPost w c a e w') := fun h => HE.out 2 (by unfold fsErr; rw [if_neg h]) (by decide)
  have HE3 : Hid (nameFS c a = true → a.made ≤ 2 → a.kind ≤ 2 → ¬ X2 ≤ 32768 → ∀ e w', e = .returned (.tuple #[.slice none 0 0, .int .i64 3]) → Below w.heap.size w w' → RFSayPost w c a e w') := fun h1 h2 h3 h4 => HE.out 3 (by unfold fsErr; rw [if_pos ⟨h1, h2, h3⟩, hxl, if_neg h4]) (by decide)
  clear HE HA hcs hX hM hxl hwl hlen hk
  rcases hcc with h5 | h6 | h7 | h8 | h9 | h10
  · subst h5
    obtain ⟨D, hD⟩ : ∃ x, x = scells (.slice none 0 0) (.slice none 0 0) (wantFS 5 a) := ⟨_, rfl⟩
    have HD0 : Hid (D.length = 20) := by show _ = _; rw [hD]; exact scells_len (wantFS_ok ka)
    have HD1 : Hid (∀ v ∈ D, v.oneCell' = true) := by show _; rw [hD]; exact scells_one rfl rfl
    have HDI : Hid (∀ w' : World, Below w.heap.size w w' → SayIs w' w'.heap.size D (wantFS 5 a)) := fun w' hb => ⟨none, 0, 0, none, 0, 0, hD, Holds.nil _ _, HoldsS.nil _ _ _ _⟩
    rw [← hD] at BB
    clear hD
    by_cases hw : wantFS 5 a = a
    rotate_left
    · have HQ := Lib.hid (HE2.out (fun h => hw (hne.2 h.1)))
      rw [decide_eq_false hw] at CS
      clear hw hne HE2 HE3 HQ0
      go_enter Tryd.func19, Tryd.ntmps19
      go_wp2_with (first
        | ((with_reducible show wpList _ _ _ (⟨some 3, _, _, _, _, _⟩ :: _) _ _); refine wpList_box_blk rfl _ (.tmp 1) rfl cs rfl ?_; intro g w1 hg1 hg2 K1 L1)
        | ((with_reducible show wpList _ _ _ (⟨some 6, _, _, _, _, _⟩ :: _) _ _); refine wpList_alloc_blk rfl _ rfl zs _ ZH ?_; intro h w2 hg3 hg4 Z2 L02; have K2 := Lib.hid (K1.out.over L02.out); have L2 := Lib.hid (step L1.out L02.out); obtain ⟨c1, c10, c11, c12, c13, c14, c16, c15⟩ := FC.out w2 g K2.out; have hgh : g ≠ h := (by omega); have hwh : w.heap.size ≤ h := (by have := L1.out.size; omega))
        | ((with_reducible show wpList _ _ _ (⟨some 23, _, _, _, _, _⟩ :: _) _ _); refine wpList_build_blk rfl _ _ rfl D (by refine Eq.trans ?_ BB; kernel_rfl) ?_)
        | ((with_reducible show wpList _ _ _ (⟨none, .store _ (.tmp 6) _, _, _, _, _⟩ :: _) _ _); refine wpList_store_blk rfl _ (.tmp 6) (.tmp 23) rfl h rfl _ zs D rfl Z2 20 size_say HZ HD0 HD1 ?_; intro w3 Z3 O3 hg5; have K3 := Lib.hid (K2.out.only O3.out hgh); have L3 := Lib.hid (below_only L2.out O3.out hwh); clear c1 c10 c11 c12 c13 c14 c16 c15; obtain ⟨c1, c10, c11, c12, c13, c14, c16, c15⟩ := FC.out w3 g K3.out)
        | fail)
      refine (CK.out _).mono ?_
      rintro e v1 ⟨rfl, rfl⟩
      go_wp2_with (first
        | ((with_reducible show wpList _ _ _ (⟨some 38, _, _, _, _, _⟩ :: _) _ _); refine wpList_load_want (by kernel_rfl) _ (.tmp 6) rfl h rfl _ D Z3 20 _ Tryd.underlying45 rfl size_say HD0 ?_)
        | ((with_reducible show wpList _ _ _ (⟨some 39, _, _, _, _, _⟩ :: _) _ _); refine wpList_load_want (by kernel_rfl) _ (.tmp 3) rfl g rfl _ cs K3 20 _ Tryd.underlying45 rfl size_say HL ?_)
        | fail)
      refine (CS.out _ D (HDI.out _ L3.out) L3.out).mono ?_
      rintro e w5 ⟨rfl, L05⟩
      have K5 := Lib.hid (K3.out.over L05)
      have M5 := Lib.hid (step L3.out L05)
      have hs5 := M5.out.size
      clear c1 c10 c11 c12 c13 c14 c16 c15
      obtain ⟨c1, c10, c11, c12, c13, c14, c16, c15⟩ := FC.out w5 g K5.out
      clear L05 CS CK HDI
      go_wp2
      go_ret2
      exact HQ.out _ _ rfl M5.out
    have hnm := hne.1 hw
    rw [decide_eq_true hw] at CS
    by_cases hmd : a.made ≤ 2
    rotate_left
    · have HQ := Lib.hid (HE2.out (fun h => hmd h.2.1))
      have hb1 : decide (2 < a.made) = true := by rw [decide_eq_true_iff]; omega
      clear hw hne HE2 HE3 HQ0 hnm
      go_enter Tryd.func19, Tryd.ntmps19
      go_wp2_with (first
        | ((with_reducible show wpList _ _ _ (⟨some 3, _, _, _, _, _⟩ :: _) _ _); refine wpList_box_blk rfl _ (.tmp 1) rfl cs rfl ?_; intro g w1 hg1 hg2 K1 L1)
        | ((with_reducible show wpList _ _ _ (⟨some 6, _, _, _, _, _⟩ :: _) _ _); refine wpList_alloc_blk rfl _ rfl zs _ ZH ?_; intro h w2 hg3 hg4 Z2 L02; have K2 := Lib.hid (K1.out.over L02.out); have L2 := Lib.hid (step L1.out L02.out); obtain ⟨c1, c10, c11, c12, c13, c14, c16, c15⟩ := FC.out w2 g K2.out; have hgh : g ≠ h := (by omega); have hwh : w.heap.size ≤ h := (by have := L1.out.size; omega))
        | ((with_reducible show wpList _ _ _ (⟨some 23, _, _, _, _, _⟩ :: _) _ _); refine wpList_build_blk rfl _ _ rfl D (by refine Eq.trans ?_ BB; kernel_rfl) ?_)
        | ((with_reducible show wpList _ _ _ (⟨none, .store _ (.tmp 6) _, _, _, _, _⟩ :: _) _ _); refine wpList_store_blk rfl _ (.tmp 6) (.tmp 23) rfl h rfl _ zs D rfl Z2 20 size_say HZ HD0 HD1 ?_; intro w3 Z3 O3 hg5; have K3 := Lib.hid (K2.out.only O3.out hgh); have L3 := Lib.hid (below_only L2.out O3.out hwh); clear c1 c10 c11 c12 c13 c14 c16 c15; obtain ⟨c1, c10, c11, c12, c13, c14, c16, c15⟩ := FC.out w3 g K3.out)
        | fail)
      refine (CK.out _).mono ?_
      rintro e v1 ⟨rfl, rfl⟩
      go_wp2_with (first
        | ((with_reducible show wpList _ _ _ (⟨some 38, _, _, _, _, _⟩ :: _) _ _); refine wpList_load_want (by kernel_rfl) _ (.tmp 6) rfl h rfl _ D Z3 20 _ Tryd.underlying45 rfl size_say HD0 ?_)
        | ((with_reducible show wpList _ _ _ (⟨some 39, _, _, _, _, _⟩ :: _) _ _); refine wpList_load_want (by kernel_rfl) _ (.tmp 3) rfl g rfl _ cs K3 20 _ Tryd.underlying45 rfl size_say HL ?_)
        | fail)
      refine (CS.out _ D (HDI.out _ L3.out) L3.out).mono ?_
      rintro e w5 ⟨rfl, L05⟩
      have K5 := Lib.hid (K3.out.over L05)
      have M5 := Lib.hid (step L3.out L05)
      have hs5 := M5.out.size
      clear c1 c10 c11 c12 c13 c14 c16 c15
      obtain ⟨c1, c10, c11, c12, c13, c14, c16, c15⟩ := FC.out w5 g K5.out
      clear L05 CS CK HDI
      go_wp2
      go_ret2
      exact HQ.out _ _ rfl M5.out
    by_cases hkd : a.kind ≤ 2
    rotate_left
    · have HQ := Lib.hid (HE2.out (fun h => hkd h.2.2))
      have hb1 : decide (2 < a.made) = false := by rw [decide_eq_false_iff_not]; omega
      have hb2 : decide (2 < a.kind) = true := by rw [decide_eq_true_iff]; omega
      clear hw hne HE2 HE3 HQ0 hnm
      go_enter Tryd.func19, Tryd.ntmps19
      go_wp2_with (first
        | ((with_reducible show wpList _ _ _ (⟨some 3, _, _, _, _, _⟩ :: _) _ _); refine wpList_box_blk rfl _ (.tmp 1) rfl cs rfl ?_; intro g w1 hg1 hg2 K1 L1)
        | ((with_reducible show wpList _ _ _ (⟨some 6, _, _, _, _, _⟩ :: _) _ _); refine wpList_alloc_blk rfl _ rfl zs _ ZH ?_; intro h w2 hg3 hg4 Z2 L02; have K2 := Lib.hid (K1.out.over L02.out); have L2 := Lib.hid (step L1.out L02.out); obtain ⟨c1, c10, c11, c12, c13, c14, c16, c15⟩ := FC.out w2 g K2.out; have hgh : g ≠ h := (by omega); have hwh : w.heap.size ≤ h := (by have := L1.out.size; omega))
        | ((with_reducible show wpList _ _ _ (⟨some 23, _, _, _, _, _⟩ :: _) _ _); refine wpList_build_blk rfl _ _ rfl D (by refine Eq.trans ?_ BB; kernel_rfl) ?_)
        | ((with_reducible show wpList _ _ _ (⟨none, .store _ (.tmp 6) _, _, _, _, _⟩ :: _) _ _); refine wpList_store_blk rfl _ (.tmp 6) (.tmp 23) rfl h rfl _ zs D rfl Z2 20 size_say HZ HD0 HD1 ?_; intro w3 Z3 O3 hg5; have K3 := Lib.hid (K2.out.only O3.out hgh); have L3 := Lib.hid (below_only L2.out O3.out hwh); clear c1 c10 c11 c12 c13 c14 c16 c15; obtain ⟨c1, c10, c11, c12, c13, c14, c16, c15⟩ := FC.out w3 g K3.out)
        | fail)
      refine (CK.out _).mono ?_
      rintro e v1 ⟨rfl, rfl⟩
      go_wp2_with (first
        | ((with_reducible show wpList _ _ _ (⟨some 38, _, _, _, _, _⟩ :: _) _ _); refine wpList_load_want (by kernel_rfl) _ (.tmp 6) rfl h rfl _ D Z3 20 _ Tryd.underlying45 rfl size_say HD0 ?_)
        | ((with_reducible show wpList _ _ _ (⟨some 39, _, _, _, _, _⟩ :: _) _ _); refine wpList_load_want (by kernel_rfl) _ (.tmp 3) rfl g rfl _ cs K3 20 _ Tryd.underlying45 rfl size_say HL ?_)
        | fail)
      refine (CS.out _ D (HDI.out _ L3.out) L3.out).mono ?_
      rintro e w5 ⟨rfl, L05⟩
      have K5 := Lib.hid (K3.out.over L05)
      have M5 := Lib.hid (step L3.out L05)
      have hs5 := M5.out.size
      clear c1 c10 c11 c12 c13 c14 c16 c15
      obtain ⟨c1, c10, c11, c12, c13, c14, c16, c15⟩ := FC.out w5 g K5.out
      clear L05 CS CK HDI
      go_wp2
      go_ret2
      exact HQ.out _ _ rfl M5.out
    have hb1 : decide (2 < a.made) = false := by rw [decide_eq_false_iff_not]; omega
    have hb2 : decide (2 < a.kind) = false := by rw [decide_eq_false_iff_not]; omega
    by_cases hx3 : X2 ≤ 32768
    rotate_left
    · have HQ := Lib.hid (HE3.out hnm hmd hkd hx3)
      clear hw hne HE2 HE3 HQ0 hnm
      go_enter Tryd.func19, Tryd.ntmps19
      go_wp2_with (first
        | ((with_reducible show wpList _ _ _ (⟨some 3, _, _, _, _, _⟩ :: _) _ _); refine wpList_box_blk rfl _ (.tmp 1) rfl cs rfl ?_; intro g w1 hg1 hg2 K1 L1)
        | ((with_reducible show wpList _ _ _ (⟨some 6, _, _, _, _, _⟩ :: _) _ _); refine wpList_alloc_blk rfl _ rfl zs _ ZH ?_; intro h w2 hg3 hg4 Z2 L02; have K2 := Lib.hid (K1.out.over L02.out); have L2 := Lib.hid (step L1.out L02.out); obtain ⟨c1, c10, c11, c12, c13, c14, c16, c15⟩ := FC.out w2 g K2.out; have hgh : g ≠ h := (by omega); have hwh : w.heap.size ≤ h := (by have := L1.out.size; omega))
        | ((with_reducible show wpList _ _ _ (⟨some 23, _, _, _, _, _⟩ :: _) _ _); refine wpList_build_blk rfl _ _ rfl D (by refine Eq.trans ?_ BB; kernel_rfl) ?_)
        | ((with_reducible show wpList _ _ _ (⟨none, .store _ (.tmp 6) _, _, _, _, _⟩ :: _) _ _); refine wpList_store_blk rfl _ (.tmp 6) (.tmp 23) rfl h rfl _ zs D rfl Z2 20 size_say HZ HD0 HD1 ?_; intro w3 Z3 O3 hg5; have K3 := Lib.hid (K2.out.only O3.out hgh); have L3 := Lib.hid (below_only L2.out O3.out hwh); clear c1 c10 c11 c12 c13 c14 c16 c15; obtain ⟨c1, c10, c11, c12, c13, c14, c16, c15⟩ := FC.out w3 g K3.out)
        | fail)
      refine (CK.out _).mono ?_
      rintro e v1 ⟨rfl, rfl⟩
      go_wp2_with (first
        | ((with_reducible show wpList _ _ _ (⟨some 38, _, _, _, _, _⟩ :: _) _ _); refine wpList_load_want (by kernel_rfl) _ (.tmp 6) rfl h rfl _ D Z3 20 _ Tryd.underlying45 rfl size_say HD0 ?_)
        | ((with_reducible show wpList _ _ _ (⟨some 39, _, _, _, _, _⟩ :: _) _ _); refine wpList_load_want (by kernel_rfl) _ (.tmp 3) rfl g rfl _ cs K3 20 _ Tryd.underlying45 rfl size_say HL ?_)
        | fail)
      refine (CS.out _ D (HDI.out _ L3.out) L3.out).mono ?_
      rintro e w5 ⟨rfl, L05⟩
      have K5 := Lib.hid (K3.out.over L05)
      have M5 := Lib.hid (step L3.out L05)
      have hs5 := M5.out.size
      clear c1 c10 c11 c12 c13 c14 c16 c15
      obtain ⟨c1, c10, c11, c12, c13, c14, c16, c15⟩ := FC.out w5 g K5.out
      clear L05 CS CK HDI
      go_wp2
      go_ret2
      exact HQ.out _ _ rfl M5.out
    have HQ := Lib.hid (HQ0.out hnm hmd hkd hx3)
    have hb0 : bodyFS 5 a = [a.lev, a.dur] ++ (le a.made 2 ++ (le a.file 8 ++ (le a.siz 8 ++ (le a.kind 2 ++ le 0 2)))) := by
      unfold bodyFS
      rw [if_pos rfl, le1 a.lev l_lev u_lev, le1 a.dur l_dur u_dur]
      rfl
    rw [hb0] at HQ
    clear hw hne HE2 HE3 HQ0 hnm hb0
    have hld : Bytes [a.lev, a.dur] := by
      intro x hx
      simp only [List.mem_cons, List.not_mem_nil, or_false] at hx
      rcases hx with hx | hx <;> omega
    have HLD := Lib.hid hld
    clear hld
    go_enter Tryd.func19, Tryd.ntmps19
    go_wp2_with (first
      | ((with_reducible show wpList _ _ _ (⟨some 3, _, _, _, _, _⟩ :: _) _ _); refine wpList_box_blk rfl _ (.tmp 1) rfl cs rfl ?_; intro g w1 hg1 hg2 K1 L1)
      | ((with_reducible show wpList _ _ _ (⟨some 6, _, _, _, _, _⟩ :: _) _ _); refine wpList_alloc_blk rfl _ rfl zs _ ZH ?_; intro h w2 hg3 hg4 Z2 L02; have K2 := Lib.hid (K1.out.over L02.out); have L2 := Lib.hid (step L1.out L02.out); obtain ⟨c1, c10, c11, c12, c13, c14, c16, c15⟩ := FC.out w2 g K2.out; have hgh : g ≠ h := (by omega); have hwh : w.heap.size ≤ h := (by have := L1.out.size; omega))
      | ((with_reducible show wpList _ _ _ (⟨some 23, _, _, _, _, _⟩ :: _) _ _); refine wpList_build_blk rfl _ _ rfl D (by refine Eq.trans ?_ BB; kernel_rfl) ?_)
      | ((with_reducible show wpList _ _ _ (⟨none, .store _ (.tmp 6) _, _, _, _, _⟩ :: _) _ _); refine wpList_store_blk rfl _ (.tmp 6) (.tmp 23) rfl h rfl _ zs D rfl Z2 20 size_say HZ HD0 HD1 ?_; intro w3 Z3 O3 hg5; have K3 := Lib.hid (K2.out.only O3.out hgh); have L3 := Lib.hid (below_only L2.out O3.out hwh); clear c1 c10 c11 c12 c13 c14 c16 c15; obtain ⟨c1, c10, c11, c12, c13, c14, c16, c15⟩ := FC.out w3 g K3.out)
      | fail)
    refine (CK.out _).mono ?_
    rintro e v1 ⟨rfl, rfl⟩
    go_wp2_with (first
      | ((with_reducible show wpList _ _ _ (⟨some 38, _, _, _, _, _⟩ :: _) _ _); refine wpList_load_want (by kernel_rfl) _ (.tmp 6) rfl h rfl _ D Z3 20 _ Tryd.underlying45 rfl size_say HD0 ?_)
      | ((with_reducible show wpList _ _ _ (⟨some 39, _, _, _, _, _⟩ :: _) _ _); refine wpList_load_want (by kernel_rfl) _ (.tmp 3) rfl g rfl _ cs K3 20 _ Tryd.underlying45 rfl size_say HL ?_)
      | fail)
    refine (CS.out _ D (HDI.out _ L3.out) L3.out).mono ?_
    rintro e w5 ⟨rfl, L05⟩
    have K5 := Lib.hid (K3.out.over L05)
    have M5 := Lib.hid (step L3.out L05)
    have hs5 := M5.out.size
    clear c1 c10 c11 c12 c13 c14 c16 c15
    obtain ⟨c1, c10, c11, c12, c13, c14, c16, c15⟩ := FC.out w5 g K5.out
    clear L05 CS CK HDI
    have N0 : Hid (Below w5.heap.size w5 w5) := Below.refl _ _
    have H00 : Hid (Own w5 w5.heap.size (.slice none 0 0) []) := Own.nil _ _
    have hg5' : g < w5.heap.size := K5.out.lt
    go_wp2_with (first
      | ((with_reducible show wpList _ _ _ (⟨some 65, _, _, _, _, _⟩ :: _) _ _); refine wpList_slice_blk rfl _ _ 2 _ rfl Tryd.underlying29 ([.int .u8 a.lev, .int .u8 a.dur] : List Value) (by kernel_rfl) ?_; intro gl z1 hz1 hz2 Yl Ll; have HOl := Lib.hid (Own.below H00.out Ll.out); have Nl := Lib.hid (N0.out.trans (Ll.out.mono N0.out.size)); have HHl := Lib.hid (Holds.of_lit (xs := [a.lev, a.dur]) Yl.out HLD.out))
      | (at_builtin; refine wpList_append_bytes rfl (.tmp 60) (.tmp 65) rfl w5.heap.size _ [] rfl HOl.out z1.heap.size _ 2 2 [a.lev, a.dur] rfl HHl.out (by simp) Nl.out.size ?_; intro va z2 hoa hba hgra; have HO5 := Lib.hid hoa.out; have N5 := Lib.hid (Nl.out.trans hba); have Ky5 := Lib.hid (K5.out.below N5.out hg5'); clear hoa hba hgra HOl Nl HHl Yl Ll c1 c10 c11 c12 c13 c14 c16 c15; obtain ⟨c1, c10, c11, c12, c13, c14, c16, c15⟩ := FC.out z2 g Ky5.out)
      | fail)
    refine (CL2.out z2 w5.heap.size _ ([] ++ [a.lev, a.dur]) a.made HO5.out (by simp [le_length]) N5.out.size l_made u_made).mono ?_
    rintro e y6 ⟨v6, rfl, ho6, L6⟩
    have HO6 := Lib.hid ho6
    have N6 := Lib.hid (N5.out.trans L6)
    have Ky6 := Lib.hid (K5.out.below N6.out hg5')
    clear ho6 L6
    clear c1 c10 c11 c12 c13 c14 c16 c15
    obtain ⟨c1, c10, c11, c12, c13, c14, c16, c15⟩ := FC.out y6 g Ky6.out
    go_wp2_with fail
    refine (CL8.out y6 w5.heap.size _ (([] ++ [a.lev, a.dur]) ++ le a.made 2) a.file HO6.out (by simp [le_length]) N6.out.size l_file u_file).mono ?_
    rintro e y7 ⟨v7, rfl, ho7, L7⟩
    have HO7 := Lib.hid ho7
    have N7 := Lib.hid (N6.out.trans L7)
    have Ky7 := Lib.hid (K5.out.below N7.out hg5')
    clear ho7 L7
    clear c1 c10 c11 c12 c13 c14 c16 c15
    obtain ⟨c1, c10, c11, c12, c13, c14, c16, c15⟩ := FC.out y7 g Ky7.out
    go_wp2_with fail
    refine (CL8.out y7 w5.heap.size _ ((([] ++ [a.lev, a.dur]) ++ le a.made 2) ++ le a.file 8) a.siz HO7.out (by simp [le_length]) N7.out.size l_siz u_siz).mono ?_
    rintro e y8 ⟨v8, rfl, ho8, L8⟩
    have HO8 := Lib.hid ho8
    have N8 := Lib.hid (N7.out.trans L8)
    have Ky8 := Lib.hid (K5.out.below N8.out hg5')
    clear ho8 L8
    clear c1 c10 c11 c12 c13 c14 c16 c15
    obtain ⟨c1, c10, c11, c12, c13, c14, c16, c15⟩ := FC.out y8 g Ky8.out
    go_wp2_with fail
    refine (CL2.out y8 w5.heap.size _ (((([] ++ [a.lev, a.dur]) ++ le a.made 2) ++ le a.file 8) ++ le a.siz 8) a.kind HO8.out (by simp [le_length]) N8.out.size l_kind (by omega)).mono ?_
    rintro e y9 ⟨v9, rfl, ho9, L9⟩
    have HO9 := Lib.hid ho9
    have N9 := Lib.hid (N8.out.trans L9)
    have Ky9 := Lib.hid (K5.out.below N9.out hg5')
    clear ho9 L9
    clear c1 c10 c11 c12 c13 c14 c16 c15
    obtain ⟨c1, c10, c11, c12, c13, c14, c16, c15⟩ := FC.out y9 g Ky9.out
    go_wp2_with fail
    refine (CL2.out y9 w5.heap.size _ ((((([] ++ [a.lev, a.dur]) ++ le a.made 2) ++ le a.file 8) ++ le a.siz 8) ++ le a.kind 2) 0 HO9.out (by simp [le_length]) N9.out.size (Int.le_refl 0) (by decide)).mono ?_
    rintro e y10 ⟨v10, rfl, ho10, L10⟩
    have HO10 := Lib.hid ho10
    have N10 := Lib.hid (N9.out.trans L10)
    have Ky10 := Lib.hid (K5.out.below N10.out hg5')
    clear ho10 L10
    clear c1 c10 c11 c12 c13 c14 c16 c15
    obtain ⟨c1, c10, c11, c12, c13, c14, c16, c15⟩ := FC.out y10 g Ky10.out
    go_wp2
    go_ret2
    refine HQ.out _ _ _ rfl ?_ (M5.out.trans (N10.out.mono hs5))
    have h9 := Own.mono HO10.out hs5
    simpa [List.append_assoc] using h9
  · subst h6
    have HDI : Hid (∀ w' : World, Below w.heap.size w w' → SayIs w' w'.heap.size zs (wantFS 6 a)) := fun w' hb => ⟨none, 0, 0, none, 0, 0, HZS.out, Holds.nil _ _, HoldsS.nil _ _ _ _⟩
    clear BB
    by_cases hw : wantFS 6 a = a
    rotate_left
    · have HQ := Lib.hid (HE2.out (fun h => hw (hne.2 h.1)))
      rw [decide_eq_false hw] at CS
      clear hw hne HE2 HE3 HQ0
      go_enter Tryd.func19, Tryd.ntmps19
      go_wp2_with (first
        | ((with_reducible show wpList _ _ _ (⟨some 3, _, _, _, _, _⟩ :: _) _ _); refine wpList_box_blk rfl _ (.tmp 1) rfl cs rfl ?_; intro g w1 hg1 hg2 K1 L1)
        | ((with_reducible show wpList _ _ _ (⟨some 6, _, _, _, _, _⟩ :: _) _ _); refine wpList_alloc_blk rfl _ rfl zs _ ZH ?_; intro h w2 hg3 hg4 Z2 L02; have K2 := Lib.hid (K1.out.over L02.out); have L2 := Lib.hid (step L1.out L02.out); obtain ⟨c1, c10, c11, c12, c13, c14, c16, c15⟩ := FC.out w2 g K2.out; have hgh : g ≠ h := (by omega); have hwh : w.heap.size ≤ h := (by have := L1.out.size; omega))
        | fail)
      refine (CK.out _).mono ?_
      rintro e v1 ⟨rfl, rfl⟩
      go_wp2_with (first
        | ((with_reducible show wpList _ _ _ (⟨some 38, _, _, _, _, _⟩ :: _) _ _); refine wpList_load_want (by kernel_rfl) _ (.tmp 6) rfl h rfl _ zs Z2 20 _ Tryd.underlying45 rfl size_say HZ ?_)
        | ((with_reducible show wpList _ _ _ (⟨some 39, _, _, _, _, _⟩ :: _) _ _); refine wpList_load_want (by kernel_rfl) _ (.tmp 3) rfl g rfl _ cs K2 20 _ Tryd.underlying45 rfl size_say HL ?_)
        | fail)
      refine (CS.out _ zs (HDI.out _ L2.out) L2.out).mono ?_
      rintro e w5 ⟨rfl, L05⟩
      have K5 := Lib.hid (K2.out.over L05)
      have M5 := Lib.hid (step L2.out L05)
      have hs5 := M5.out.size
      clear c1 c10 c11 c12 c13 c14 c16 c15
      obtain ⟨c1, c10, c11, c12, c13, c14, c16, c15⟩ := FC.out w5 g K5.out
      clear L05 CS CK HDI
      go_wp2
      go_ret2
      exact HQ.out _ _ rfl M5.out
    have hnm := hne.1 hw
    rw [decide_eq_true hw] at CS
    by_cases hmd : a.made ≤ 2
    rotate_left
    · have HQ := Lib.hid (HE2.out (fun h => hmd h.2.1))
      have hb1 : decide (2 < a.made) = true := by rw [decide_eq_true_iff]; omega
      clear hw hne HE2 HE3 HQ0 hnm
      go_enter Tryd.func19, Tryd.ntmps19
      go_wp2_with (first
        | ((with_reducible show wpList _ _ _ (⟨some 3, _, _, _, _, _⟩ :: _) _ _); refine wpList_box_blk rfl _ (.tmp 1) rfl cs rfl ?_; intro g w1 hg1 hg2 K1 L1)
        | ((with_reducible show wpList _ _ _ (⟨some 6, _, _, _, _, _⟩ :: _) _ _); refine wpList_alloc_blk rfl _ rfl zs _ ZH ?_; intro h w2 hg3 hg4 Z2 L02; have K2 := Lib.hid (K1.out.over L02.out); have L2 := Lib.hid (step L1.out L02.out); obtain ⟨c1, c10, c11, c12, c13, c14, c16, c15⟩ := FC.out w2 g K2.out; have hgh : g ≠ h := (by omega); have hwh : w.heap.size ≤ h := (by have := L1.out.size; omega))
        | fail)
      refine (CK.out _).mono ?_
      rintro e v1 ⟨rfl, rfl⟩
      go_wp2_with (first
        | ((with_reducible show wpList _ _ _ (⟨some 38, _, _, _, _, _⟩ :: _) _ _); refine wpList_load_want (by kernel_rfl) _ (.tmp 6) rfl h rfl _ zs Z2 20 _ Tryd.underlying45 rfl size_say HZ ?_)
        | ((with_reducible show wpList _ _ _ (⟨some 39, _, _, _, _, _⟩ :: _) _ _); refine wpList_load_want (by kernel_rfl) _ (.tmp 3) rfl g rfl _ cs K2 20 _ Tryd.underlying45 rfl size_say HL ?_)
        | fail)
      refine (CS.out _ zs (HDI.out _ L2.out) L2.out).mono ?_
      rintro e w5 ⟨rfl, L05⟩
      have K5 := Lib.hid (K2.out.over L05)
      have M5 := Lib.hid (step L2.out L05)
      have hs5 := M5.out.size
      clear c1 c10 c11 c12 c13 c14 c16 c15
      obtain ⟨c1, c10, c11, c12, c13, c14, c16, c15⟩ := FC.out w5 g K5.out
      clear L05 CS CK HDI
      go_wp2
      go_ret2
      exact HQ.out _ _ rfl M5.out
    by_cases hkd : a.kind ≤ 2
    rotate_left
    · have HQ := Lib.hid (HE2.out (fun h => hkd h.2.2))
      have hb1 : decide (2 < a.made) = false := by rw [decide_eq_false_iff_not]; omega
      have hb2 : decide (2 < a.kind) = true := by rw [decide_eq_true_iff]; omega
      clear hw hne HE2 HE3 HQ0 hnm
      go_enter Tryd.func19, Tryd.ntmps19
      go_wp2_with (first
        | ((with_reducible show wpList _ _ _ (⟨some 3, _, _, _, _, _⟩ :: _) _ _); refine wpList_box_blk rfl _ (.tmp 1) rfl cs rfl ?_; intro g w1 hg1 hg2 K1 L1)
        | ((with_reducible show wpList _ _ _ (⟨some 6, _, _, _, _, _⟩ :: _) _ _); refine wpList_alloc_blk rfl _ rfl zs _ ZH ?_; intro h w2 hg3 hg4 Z2 L02; have K2 := Lib.hid (K1.out.over L02.out); have L2 := Lib.hid (step L1.out L02.out); obtain ⟨c1, c10, c11, c12, c13, c14, c16, c15⟩ := FC.out w2 g K2.out; have hgh : g ≠ h := (by omega); have hwh : w.heap.size ≤ h := (by have := L1.out.size; omega))
        | fail)
      refine (CK.out _).mono ?_
      rintro e v1 ⟨rfl, rfl⟩
      go_wp2_with (first
        | ((with_reducible show wpList _ _ _ (⟨some 38, _, _, _, _, _⟩ :: _) _ _); refine wpList_load_want (by kernel_rfl) _ (.tmp 6) rfl h rfl _ zs Z2 20 _ Tryd.underlying45 rfl size_say HZ ?_)
        | ((with_reducible show wpList _ _ _ (⟨some 39, _, _, _, _, _⟩ :: _) _ _); refine wpList_load_want (by kernel_rfl) _ (.tmp 3) rfl g rfl _ cs K2 20 _ Tryd.underlying45 rfl size_say HL ?_)
        | fail)
      refine (CS.out _ zs (HDI.out _ L2.out) L2.out).mono ?_
      rintro e w5 ⟨rfl, L05⟩
      have K5 := Lib.hid (K2.out.over L05)
      have M5 := Lib.hid (step L2.out L05)
      have hs5 := M5.out.size
      clear c1 c10 c11 c12 c13 c14 c16 c15
      obtain ⟨c1, c10, c11, c12, c13, c14, c16, c15⟩ := FC.out w5 g K5.out
      clear L05 CS CK HDI
      go_wp2
      go_ret2
      exact HQ.out _ _ rfl M5.out
    have hb1 : decide (2 < a.made) = false := by rw [decide_eq_false_iff_not]; omega
    have hb2 : decide (2 < a.kind) = false := by rw [decide_eq_false_iff_not]; omega
    by_cases hx3 : X2 ≤ 32768
    rotate_left
    · have HQ := Lib.hid (HE3.out hnm hmd hkd hx3)
      clear hw hne HE2 HE3 HQ0 hnm
      go_enter Tryd.func19, Tryd.ntmps19
      go_wp2_with (first
        | ((with_reducible show wpList _ _ _ (⟨some 3, _, _, _, _, _⟩ :: _) _ _); refine wpList_box_blk rfl _ (.tmp 1) rfl cs rfl ?_; intro g w1 hg1 hg2 K1 L1)
        | ((with_reducible show wpList _ _ _ (⟨some 6, _, _, _, _, _⟩ :: _) _ _); refine wpList_alloc_blk rfl _ rfl zs _ ZH ?_; intro h w2 hg3 hg4 Z2 L02; have K2 := Lib.hid (K1.out.over L02.out); have L2 := Lib.hid (step L1.out L02.out); obtain ⟨c1, c10, c11, c12, c13, c14, c16, c15⟩ := FC.out w2 g K2.out; have hgh : g ≠ h := (by omega); have hwh : w.heap.size ≤ h := (by have := L1.out.size; omega))
        | fail)
      refine (CK.out _).mono ?_
      rintro e v1 ⟨rfl, rfl⟩
      go_wp2_with (first
        | ((with_reducible show wpList _ _ _ (⟨some 38, _, _, _, _, _⟩ :: _) _ _); refine wpList_load_want (by kernel_rfl) _ (.tmp 6) rfl h rfl _ zs Z2 20 _ Tryd.underlying45 rfl size_say HZ ?_)
        | ((with_reducible show wpList _ _ _ (⟨some 39, _, _, _, _, _⟩ :: _) _ _); refine wpList_load_want (by kernel_rfl) _ (.tmp 3) rfl g rfl _ cs K2 20 _ Tryd.underlying45 rfl size_say HL ?_)
        | fail)
      refine (CS.out _ zs (HDI.out _ L2.out) L2.out).mono ?_
      rintro e w5 ⟨rfl, L05⟩
      have K5 := Lib.hid (K2.out.over L05)
      have M5 := Lib.hid (step L2.out L05)
      have hs5 := M5.out.size
      clear c1 c10 c11 c12 c13 c14 c16 c15
      obtain ⟨c1, c10, c11, c12, c13, c14, c16, c15⟩ := FC.out w5 g K5.out
      clear L05 CS CK HDI
      go_wp2
      go_ret2
      exact HQ.out _ _ rfl M5.out
    have HQ := Lib.hid (HQ0.out hnm hmd hkd hx3)
    have hb0 : bodyFS 6 a = le 0 4 := rfl
    rw [hb0] at HQ
    clear hw hne HE2 HE3 HQ0 hnm hb0
    go_enter Tryd.func19, Tryd.ntmps19
    go_wp2_with (first
      | ((with_reducible show wpList _ _ _ (⟨some 3, _, _, _, _, _⟩ :: _) _ _); refine wpList_box_blk rfl _ (.tmp 1) rfl cs rfl ?_; intro g w1 hg1 hg2 K1 L1)
      | ((with_reducible show wpList _ _ _ (⟨some 6, _, _, _, _, _⟩ :: _) _ _); refine wpList_alloc_blk rfl _ rfl zs _ ZH ?_; intro h w2 hg3 hg4 Z2 L02; have K2 := Lib.hid (K1.out.over L02.out); have L2 := Lib.hid (step L1.out L02.out); obtain ⟨c1, c10, c11, c12, c13, c14, c16, c15⟩ := FC.out w2 g K2.out; have hgh : g ≠ h := (by omega); have hwh : w.heap.size ≤ h := (by have := L1.out.size; omega))
      | fail)
    refine (CK.out _).mono ?_
    rintro e v1 ⟨rfl, rfl⟩
    go_wp2_with (first
      | ((with_reducible show wpList _ _ _ (⟨some 38, _, _, _, _, _⟩ :: _) _ _); refine wpList_load_want (by kernel_rfl) _ (.tmp 6) rfl h rfl _ zs Z2 20 _ Tryd.underlying45 rfl size_say HZ ?_)
      | ((with_reducible show wpList _ _ _ (⟨some 39, _, _, _, _, _⟩ :: _) _ _); refine wpList_load_want (by kernel_rfl) _ (.tmp 3) rfl g rfl _ cs K2 20 _ Tryd.underlying45 rfl size_say HL ?_)
      | fail)
    refine (CS.out _ zs (HDI.out _ L2.out) L2.out).mono ?_
    rintro e w5 ⟨rfl, L05⟩
    have K5 := Lib.hid (K2.out.over L05)
    have M5 := Lib.hid (step L2.out L05)
    have hs5 := M5.out.size
    clear c1 c10 c11 c12 c13 c14 c16 c15
    obtain ⟨c1, c10, c11, c12, c13, c14, c16, c15⟩ := FC.out w5 g K5.out
    clear L05 CS CK HDI
    have N0 : Hid (Below w5.heap.size w5 w5) := Below.refl _ _
    have H00 : Hid (Own w5 w5.heap.size (.slice none 0 0) []) := Own.nil _ _
    have hg5' : g < w5.heap.size := K5.out.lt
    go_wp2_with fail
    refine (CL4.out w5 w5.heap.size _ ([]) 0 H00.out (by simp [le_length]) N0.out.size (Int.le_refl 0) (by decide)).mono ?_
    rintro e y1 ⟨v1, rfl, ho1, L1⟩
    have HO1 := Lib.hid ho1
    have N1 := Lib.hid (N0.out.trans L1)
    have Ky1 := Lib.hid (K5.out.below N1.out hg5')
    clear ho1 L1
    clear c1 c10 c11 c12 c13 c14 c16 c15
    obtain ⟨c1, c10, c11, c12, c13, c14, c16, c15⟩ := FC.out y1 g Ky1.out
    go_wp2
    go_ret2
    refine HQ.out _ _ _ rfl ?_ (M5.out.trans (N1.out.mono hs5))
    have h9 := Own.mono HO1.out hs5
    simpa [List.append_assoc] using h9
  · subst h7
    have HDI : Hid (∀ w' : World, Below w.heap.size w w' → SayIs w' w'.heap.size zs (wantFS 7 a)) := fun w' hb => ⟨none, 0, 0, none, 0, 0, HZS.out, Holds.nil _ _, HoldsS.nil _ _ _ _⟩
    clear BB
    by_cases hw : wantFS 7 a = a
    rotate_left
    · have HQ := Lib.hid (HE2.out (fun h => hw (hne.2 h.1)))
      rw [decide_eq_false hw] at CS
      clear hw hne HE2 HE3 HQ0
      go_enter Tryd.func19, Tryd.ntmps19
      go_wp2_with (first
        | ((with_reducible show wpList _ _ _ (⟨some 3, _, _, _, _, _⟩ :: _) _ _); refine wpList_box_blk rfl _ (.tmp 1) rfl cs rfl ?_; intro g w1 hg1 hg2 K1 L1)
        | ((with_reducible show wpList _ _ _ (⟨some 6, _, _, _, _, _⟩ :: _) _ _); refine wpList_alloc_blk rfl _ rfl zs _ ZH ?_; intro h w2 hg3 hg4 Z2 L02; have K2 := Lib.hid (K1.out.over L02.out); have L2 := Lib.hid (step L1.out L02.out); obtain ⟨c1, c10, c11, c12, c13, c14, c16, c15⟩ := FC.out w2 g K2.out; have hgh : g ≠ h := (by omega); have hwh : w.heap.size ≤ h := (by have := L1.out.size; omega))
        | fail)
      refine (CK.out _).mono ?_
      rintro e v1 ⟨rfl, rfl⟩
      go_wp2_with (first
        | ((with_reducible show wpList _ _ _ (⟨some 38, _, _, _, _, _⟩ :: _) _ _); refine wpList_load_want (by kernel_rfl) _ (.tmp 6) rfl h rfl _ zs Z2 20 _ Tryd.underlying45 rfl size_say HZ ?_)
        | ((with_reducible show wpList _ _ _ (⟨some 39, _, _, _, _, _⟩ :: _) _ _); refine wpList_load_want (by kernel_rfl) _ (.tmp 3) rfl g rfl _ cs K2 20 _ Tryd.underlying45 rfl size_say HL ?_)
        | fail)
      refine (CS.out _ zs (HDI.out _ L2.out) L2.out).mono ?_
      rintro e w5 ⟨rfl, L05⟩
      have K5 := Lib.hid (K2.out.over L05)
      have M5 := Lib.hid (step L2.out L05)
      have hs5 := M5.out.size
      clear c1 c10 c11 c12 c13 c14 c16 c15
      obtain ⟨c1, c10, c11, c12, c13, c14, c16, c15⟩ := FC.out w5 g K5.out
      clear L05 CS CK HDI
      go_wp2
      go_ret2
      exact HQ.out _ _ rfl M5.out
    have hnm := hne.1 hw
    rw [decide_eq_true hw] at CS
    by_cases hmd : a.made ≤ 2
    rotate_left
    · have HQ := Lib.hid (HE2.out (fun h => hmd h.2.1))
      have hb1 : decide (2 < a.made) = true := by rw [decide_eq_true_iff]; omega
      clear hw hne HE2 HE3 HQ0 hnm
      go_enter Tryd.func19, Tryd.ntmps19
      go_wp2_with (first
        | ((with_reducible show wpList _ _ _ (⟨some 3, _, _, _, _, _⟩ :: _) _ _); refine wpList_box_blk rfl _ (.tmp 1) rfl cs rfl ?_; intro g w1 hg1 hg2 K1 L1)
        | ((with_reducible show wpList _ _ _ (⟨some 6, _, _, _, _, _⟩ :: _) _ _); refine wpList_alloc_blk rfl _ rfl zs _ ZH ?_; intro h w2 hg3 hg4 Z2 L02; have K2 := Lib.hid (K1.out.over L02.out); have L2 := Lib.hid (step L1.out L02.out); obtain ⟨c1, c10, c11, c12, c13, c14, c16, c15⟩ := FC.out w2 g K2.out; have hgh : g ≠ h := (by omega); have hwh : w.heap.size ≤ h := (by have := L1.out.size; omega))
        | fail)
      refine (CK.out _).mono ?_
      rintro e v1 ⟨rfl, rfl⟩
      go_wp2_with (first
        | ((with_reducible show wpList _ _ _ (⟨some 38, _, _, _, _, _⟩ :: _) _ _); refine wpList_load_want (by kernel_rfl) _ (.tmp 6) rfl h rfl _ zs Z2 20 _ Tryd.underlying45 rfl size_say HZ ?_)
        | ((with_reducible show wpList _ _ _ (⟨some 39, _, _, _, _, _⟩ :: _) _ _); refine wpList_load_want (by kernel_rfl) _ (.tmp 3) rfl g rfl _ cs K2 20 _ Tryd.underlying45 rfl size_say HL ?_)
        | fail)
      refine (CS.out _ zs (HDI.out _ L2.out) L2.out).mono ?_
      rintro e w5 ⟨rfl, L05⟩
      have K5 := Lib.hid (K2.out.over L05)
      have M5 := Lib.hid (step L2.out L05)
      have hs5 := M5.out.size
      clear c1 c10 c11 c12 c13 c14 c16 c15
      obtain ⟨c1, c10, c11, c12, c13, c14, c16, c15⟩ := FC.out w5 g K5.out
      clear L05 CS CK HDI
      go_wp2
      go_ret2
      exact HQ.out _ _ rfl M5.out
    by_cases hkd : a.kind ≤ 2
    rotate_left
    · have HQ := Lib.hid (HE2.out (fun h => hkd h.2.2))
      have hb1 : decide (2 < a.made) = false := by rw [decide_eq_false_iff_not]; omega
      have hb2 : decide (2 < a.kind) = true := by rw [decide_eq_true_iff]; omega
      clear hw hne HE2 HE3 HQ0 hnm
      go_enter Tryd.func19, Tryd.ntmps19
      go_wp2_with (first
        | ((with_reducible show wpList _ _ _ (⟨some 3, _, _, _, _, _⟩ :: _) _ _); refine wpList_box_blk rfl _ (.tmp 1) rfl cs rfl ?_; intro g w1 hg1 hg2 K1 L1)
        | ((with_reducible show wpList _ _ _ (⟨some 6, _, _, _, _, _⟩ :: _) _ _); refine wpList_alloc_blk rfl _ rfl zs _ ZH ?_; intro h w2 hg3 hg4 Z2 L02; have K2 := Lib.hid (K1.out.over L02.out); have L2 := Lib.hid (step L1.out L02.out); obtain ⟨c1, c10, c11, c12, c13, c14, c16, c15⟩ := FC.out w2 g K2.out; have hgh : g ≠ h := (by omega); have hwh : w.heap.size ≤ h := (by have := L1.out.size; omega))
        | fail)
      refine (CK.out _).mono ?_
      rintro e v1 ⟨rfl, rfl⟩
      go_wp2_with (first
        | ((with_reducible show wpList _ _ _ (⟨some 38, _, _, _, _, _⟩ :: _) _ _); refine wpList_load_want (by kernel_rfl) _ (.tmp 6) rfl h rfl _ zs Z2 20 _ Tryd.underlying45 rfl size_say HZ ?_)
        | ((with_reducible show wpList _ _ _ (⟨some 39, _, _, _, _, _⟩ :: _) _ _); refine wpList_load_want (by kernel_rfl) _ (.tmp 3) rfl g rfl _ cs K2 20 _ Tryd.underlying45 rfl size_say HL ?_)
        | fail)
      refine (CS.out _ zs (HDI.out _ L2.out) L2.out).mono ?_
      rintro e w5 ⟨rfl, L05⟩
      have K5 := Lib.hid (K2.out.over L05)
      have M5 := Lib.hid (step L2.out L05)
      have hs5 := M5.out.size
      clear c1 c10 c11 c12 c13 c14 c16 c15
      obtain ⟨c1, c10, c11, c12, c13, c14, c16, c15⟩ := FC.out w5 g K5.out
      clear L05 CS CK HDI
      go_wp2
      go_ret2
      exact HQ.out _ _ rfl M5.out
    have hb1 : decide (2 < a.made) = false := by rw [decide_eq_false_iff_not]; omega
    have hb2 : decide (2 < a.kind) = false := by rw [decide_eq_false_iff_not]; omega
    by_cases hx3 : X2 ≤ 32768
    rotate_left
    · have HQ := Lib.hid (HE3.out hnm hmd hkd hx3)
      clear hw hne HE2 HE3 HQ0 hnm
      go_enter Tryd.func19, Tryd.ntmps19
      go_wp2_with (first
        | ((with_reducible show wpList _ _ _ (⟨some 3, _, _, _, _, _⟩ :: _) _ _); refine wpList_box_blk rfl _ (.tmp 1) rfl cs rfl ?_; intro g w1 hg1 hg2 K1 L1)
        | ((with_reducible show wpList _ _ _ (⟨some 6, _, _, _, _, _⟩ :: _) _ _); refine wpList_alloc_blk rfl _ rfl zs _ ZH ?_; intro h w2 hg3 hg4 Z2 L02; have K2 := Lib.hid (K1.out.over L02.out); have L2 := Lib.hid (step L1.out L02.out); obtain ⟨c1, c10, c11, c12, c13, c14, c16, c15⟩ := FC.out w2 g K2.out; have hgh : g ≠ h := (by omega); have hwh : w.heap.size ≤ h := (by have := L1.out.size; omega))
        | fail)
      refine (CK.out _).mono ?_
      rintro e v1 ⟨rfl, rfl⟩
      go_wp2_with (first
        | ((with_reducible show wpList _ _ _ (⟨some 38, _, _, _, _, _⟩ :: _) _ _); refine wpList_load_want (by kernel_rfl) _ (.tmp 6) rfl h rfl _ zs Z2 20 _ Tryd.underlying45 rfl size_say HZ ?_)
        | ((with_reducible show wpList _ _ _ (⟨some 39, _, _, _, _, _⟩ :: _) _ _); refine wpList_load_want (by kernel_rfl) _ (.tmp 3) rfl g rfl _ cs K2 20 _ Tryd.underlying45 rfl size_say HL ?_)
        | fail)
      refine (CS.out _ zs (HDI.out _ L2.out) L2.out).mono ?_
      rintro e w5 ⟨rfl, L05⟩
      have K5 := Lib.hid (K2.out.over L05)
      have M5 := Lib.hid (step L2.out L05)
      have hs5 := M5.out.size
      clear c1 c10 c11 c12 c13 c14 c16 c15
      obtain ⟨c1, c10, c11, c12, c13, c14, c16, c15⟩ := FC.out w5 g K5.out
      clear L05 CS CK HDI
      go_wp2
      go_ret2
      exact HQ.out _ _ rfl M5.out
    have HQ := Lib.hid (HQ0.out hnm hmd hkd hx3)
    have hb0 : bodyFS 7 a = le 0 4 := rfl
    rw [hb0] at HQ
    clear hw hne HE2 HE3 HQ0 hnm hb0
    go_enter Tryd.func19, Tryd.ntmps19
    go_wp2_with (first
      | ((with_reducible show wpList _ _ _ (⟨some 3, _, _, _, _, _⟩ :: _) _ _); refine wpList_box_blk rfl _ (.tmp 1) rfl cs rfl ?_; intro g w1 hg1 hg2 K1 L1)
      | ((with_reducible show wpList _ _ _ (⟨some 6, _, _, _, _, _⟩ :: _) _ _); refine wpList_alloc_blk rfl _ rfl zs _ ZH ?_; intro h w2 hg3 hg4 Z2 L02; have K2 := Lib.hid (K1.out.over L02.out); have L2 := Lib.hid (step L1.out L02.out); obtain ⟨c1, c10, c11, c12, c13, c14, c16, c15⟩ := FC.out w2 g K2.out; have hgh : g ≠ h := (by omega); have hwh : w.heap.size ≤ h := (by have := L1.out.size; omega))
      | fail)
    refine (CK.out _).mono ?_
    rintro e v1 ⟨rfl, rfl⟩
    go_wp2_with (first
      | ((with_reducible show wpList _ _ _ (⟨some 38, _, _, _, _, _⟩ :: _) _ _); refine wpList_load_want (by kernel_rfl) _ (.tmp 6) rfl h rfl _ zs Z2 20 _ Tryd.underlying45 rfl size_say HZ ?_)
      | ((with_reducible show wpList _ _ _ (⟨some 39, _, _, _, _, _⟩ :: _) _ _); refine wpList_load_want (by kernel_rfl) _ (.tmp 3) rfl g rfl _ cs K2 20 _ Tryd.underlying45 rfl size_say HL ?_)
      | fail)
    refine (CS.out _ zs (HDI.out _ L2.out) L2.out).mono ?_
    rintro e w5 ⟨rfl, L05⟩
    have K5 := Lib.hid (K2.out.over L05)
    have M5 := Lib.hid (step L2.out L05)
    have hs5 := M5.out.size
    clear c1 c10 c11 c12 c13 c14 c16 c15
    obtain ⟨c1, c10, c11, c12, c13, c14, c16, c15⟩ := FC.out w5 g K5.out
    clear L05 CS CK HDI
    have N0 : Hid (Below w5.heap.size w5 w5) := Below.refl _ _
    have H00 : Hid (Own w5 w5.heap.size (.slice none 0 0) []) := Own.nil _ _
    have hg5' : g < w5.heap.size := K5.out.lt
    go_wp2_with fail
    refine (CL4.out w5 w5.heap.size _ ([]) 0 H00.out (by simp [le_length]) N0.out.size (Int.le_refl 0) (by decide)).mono ?_
    rintro e y1 ⟨v1, rfl, ho1, L1⟩
    have HO1 := Lib.hid ho1
    have N1 := Lib.hid (N0.out.trans L1)
    have Ky1 := Lib.hid (K5.out.below N1.out hg5')
    clear ho1 L1
    clear c1 c10 c11 c12 c13 c14 c16 c15
    obtain ⟨c1, c10, c11, c12, c13, c14, c16, c15⟩ := FC.out y1 g Ky1.out
    go_wp2
    go_ret2
    refine HQ.out _ _ _ rfl ?_ (M5.out.trans (N1.out.mono hs5))
    have h9 := Own.mono HO1.out hs5
    simpa [List.append_assoc] using h9
  · subst h8
    obtain ⟨D, hD⟩ : ∃ x, x = scells (.slice X1 X2 X3) (.slice none 0 0) (wantFS 8 a) := ⟨_, rfl⟩
    have HD0 : Hid (D.length = 20) := by show _ = _; rw [hD]; exact scells_len (wantFS_ok ka)
    have HDE : Hid (zs.set 15 (.slice X1 X2 X3) = D) := by show _ = _; rw [HZS.out, hD]; rfl
    have HDI : Hid (∀ w' : World, Below w.heap.size w w' → SayIs w' w'.heap.size D (wantFS 8 a)) := fun w' hb => ⟨X1, X2, X3, none, 0, 0, hD, HX.out.over hb, HoldsS.nil _ _ _ _⟩
    clear hD BB
    by_cases hw : wantFS 8 a = a
    rotate_left
    · have HQ := Lib.hid (HE2.out (fun h => hw (hne.2 h.1)))
      rw [decide_eq_false hw] at CS
      clear hw hne HE2 HE3 HQ0
      go_enter Tryd.func19, Tryd.ntmps19
      go_wp2_with (first
        | ((with_reducible show wpList _ _ _ (⟨some 3, _, _, _, _, _⟩ :: _) _ _); refine wpList_box_blk rfl _ (.tmp 1) rfl cs rfl ?_; intro g w1 hg1 hg2 K1 L1)
        | ((with_reducible show wpList _ _ _ (⟨some 6, _, _, _, _, _⟩ :: _) _ _); refine wpList_alloc_blk rfl _ rfl zs _ ZH ?_; intro h w2 hg3 hg4 Z2 L02; have K2 := Lib.hid (K1.out.over L02.out); have L2 := Lib.hid (step L1.out L02.out); obtain ⟨c1, c10, c11, c12, c13, c14, c16, c15⟩ := FC.out w2 g K2.out; have hgh : g ≠ h := (by omega); have hwh : w.heap.size ≤ h := (by have := L1.out.size; omega))
        | ((with_reducible show wpList _ _ _ (⟨none, .store _ (.tmp 28) _, _, _, _, _⟩ :: _) _ _); refine wpList_store_fld rfl _ (.tmp 28) (.tmp 27) rfl h 15 rfl _ zs (.slice X1 X2 X3) rfl Z2 (Lib.hid (by have := HZ.out; omega)) (by kernel_rfl) rfl ?_; intro w3 Z3 O3 hg5; rw [HDE.out] at Z3; have K3 := Lib.hid (K2.out.only O3.out hgh); have L3 := Lib.hid (below_only L2.out O3.out hwh); clear c1 c10 c11 c12 c13 c14 c16 c15; obtain ⟨c1, c10, c11, c12, c13, c14, c16, c15⟩ := FC.out w3 g K3.out)
        | fail)
      refine (CK.out _).mono ?_
      rintro e v1 ⟨rfl, rfl⟩
      go_wp2_with (first
        | ((with_reducible show wpList _ _ _ (⟨some 38, _, _, _, _, _⟩ :: _) _ _); refine wpList_load_want (by kernel_rfl) _ (.tmp 6) rfl h rfl _ D Z3 20 _ Tryd.underlying45 rfl size_say HD0 ?_)
        | ((with_reducible show wpList _ _ _ (⟨some 39, _, _, _, _, _⟩ :: _) _ _); refine wpList_load_want (by kernel_rfl) _ (.tmp 3) rfl g rfl _ cs K3 20 _ Tryd.underlying45 rfl size_say HL ?_)
        | fail)
      refine (CS.out _ D (HDI.out _ L3.out) L3.out).mono ?_
      rintro e w5 ⟨rfl, L05⟩
      have K5 := Lib.hid (K3.out.over L05)
      have M5 := Lib.hid (step L3.out L05)
      have hs5 := M5.out.size
      clear c1 c10 c11 c12 c13 c14 c16 c15
      obtain ⟨c1, c10, c11, c12, c13, c14, c16, c15⟩ := FC.out w5 g K5.out
      clear L05 CS CK HDI
      go_wp2
      go_ret2
      exact HQ.out _ _ rfl M5.out
    have hnm := hne.1 hw
    rw [decide_eq_true hw] at CS
    by_cases hmd : a.made ≤ 2
    rotate_left
    · have HQ := Lib.hid (HE2.out (fun h => hmd h.2.1))
      have hb1 : decide (2 < a.made) = true := by rw [decide_eq_true_iff]; omega
      clear hw hne HE2 HE3 HQ0 hnm
      go_enter Tryd.func19, Tryd.ntmps19
      go_wp2_with (first
        | ((with_reducible show wpList _ _ _ (⟨some 3, _, _, _, _, _⟩ :: _) _ _); refine wpList_box_blk rfl _ (.tmp 1) rfl cs rfl ?_; intro g w1 hg1 hg2 K1 L1)
        | ((with_reducible show wpList _ _ _ (⟨some 6, _, _, _, _, _⟩ :: _) _ _); refine wpList_alloc_blk rfl _ rfl zs _ ZH ?_; intro h w2 hg3 hg4 Z2 L02; have K2 := Lib.hid (K1.out.over L02.out); have L2 := Lib.hid (step L1.out L02.out); obtain ⟨c1, c10, c11, c12, c13, c14, c16, c15⟩ := FC.out w2 g K2.out; have hgh : g ≠ h := (by omega); have hwh : w.heap.size ≤ h := (by have := L1.out.size; omega))
        | ((with_reducible show wpList _ _ _ (⟨none, .store _ (.tmp 28) _, _, _, _, _⟩ :: _) _ _); refine wpList_store_fld rfl _ (.tmp 28) (.tmp 27) rfl h 15 rfl _ zs (.slice X1 X2 X3) rfl Z2 (Lib.hid (by have := HZ.out; omega)) (by kernel_rfl) rfl ?_; intro w3 Z3 O3 hg5; rw [HDE.out] at Z3; have K3 := Lib.hid (K2.out.only O3.out hgh); have L3 := Lib.hid (below_only L2.out O3.out hwh); clear c1 c10 c11 c12 c13 c14 c16 c15; obtain ⟨c1, c10, c11, c12, c13, c14, c16, c15⟩ := FC.out w3 g K3.out)
        | fail)
      refine (CK.out _).mono ?_
      rintro e v1 ⟨rfl, rfl⟩
      go_wp2_with (first
        | ((with_reducible show wpList _ _ _ (⟨some 38, _, _, _, _, _⟩ :: _) _ _); refine wpList_load_want (by kernel_rfl) _ (.tmp 6) rfl h rfl _ D Z3 20 _ Tryd.underlying45 rfl size_say HD0 ?_)
        | ((with_reducible show wpList _ _ _ (⟨some 39, _, _, _, _, _⟩ :: _) _ _); refine wpList_load_want (by kernel_rfl) _ (.tmp 3) rfl g rfl _ cs K3 20 _ Tryd.underlying45 rfl size_say HL ?_)
        | fail)
      refine (CS.out _ D (HDI.out _ L3.out) L3.out).mono ?_
      rintro e w5 ⟨rfl, L05⟩
      have K5 := Lib.hid (K3.out.over L05)
      have M5 := Lib.hid (step L3.out L05)
      have hs5 := M5.out.size
      clear c1 c10 c11 c12 c13 c14 c16 c15
      obtain ⟨c1, c10, c11, c12, c13, c14, c16, c15⟩ := FC.out w5 g K5.out
      clear L05 CS CK HDI
      go_wp2
      go_ret2
      exact HQ.out _ _ rfl M5.out
    by_cases hkd : a.kind ≤ 2
    rotate_left
    · have HQ := Lib.hid (HE2.out (fun h => hkd h.2.2))
      have hb1 : decide (2 < a.made) = false := by rw [decide_eq_false_iff_not]; omega
      have hb2 : decide (2 < a.kind) = true := by rw [decide_eq_true_iff]; omega
      clear hw hne HE2 HE3 HQ0 hnm
      go_enter Tryd.func19, Tryd.ntmps19
      go_wp2_with (first
        | ((with_reducible show wpList _ _ _ (⟨some 3, _, _, _, _, _⟩ :: _) _ _); refine wpList_box_blk rfl _ (.tmp 1) rfl cs rfl ?_; intro g w1 hg1 hg2 K1 L1)
        | ((with_reducible show wpList _ _ _ (⟨some 6, _, _, _, _, _⟩ :: _) _ _); refine wpList_alloc_blk rfl _ rfl zs _ ZH ?_; intro h w2 hg3 hg4 Z2 L02; have K2 := Lib.hid (K1.out.over L02.out); have L2 := Lib.hid (step L1.out L02.out); obtain ⟨c1, c10, c11, c12, c13, c14, c16, c15⟩ := FC.out w2 g K2.out; have hgh : g ≠ h := (by omega); have hwh : w.heap.size ≤ h := (by have := L1.out.size; omega))
        | ((with_reducible show wpList _ _ _ (⟨none, .store _ (.tmp 28) _, _, _, _, _⟩ :: _) _ _); refine wpList_store_fld rfl _ (.tmp 28) (.tmp 27) rfl h 15 rfl _ zs (.slice X1 X2 X3) rfl Z2 (Lib.hid (by have := HZ.out; omega)) (by kernel_rfl) rfl ?_; intro w3 Z3 O3 hg5; rw [HDE.out] at Z3; have K3 := Lib.hid (K2.out.only O3.out hgh); have L3 := Lib.hid (below_only L2.out O3.out hwh); clear c1 c10 c11 c12 c13 c14 c16 c15; obtain ⟨c1, c10, c11, c12, c13, c14, c16, c15⟩ := FC.out w3 g K3.out)
        | fail)
      refine (CK.out _).mono ?_
      rintro e v1 ⟨rfl, rfl⟩
      go_wp2_with (first
        | ((with_reducible show wpList _ _ _ (⟨some 38, _, _, _, _, _⟩ :: _) _ _); refine wpList_load_want (by kernel_rfl) _ (.tmp 6) rfl h rfl _ D Z3 20 _ Tryd.underlying45 rfl size_say HD0 ?_)
        | ((with_reducible show wpList _ _ _ (⟨some 39, _, _, _, _, _⟩ :: _) _ _); refine wpList_load_want (by kernel_rfl) _ (.tmp 3) rfl g rfl _ cs K3 20 _ Tryd.underlying45 rfl size_say HL ?_)
        | fail)
      refine (CS.out _ D (HDI.out _ L3.out) L3.out).mono ?_
      rintro e w5 ⟨rfl, L05⟩
      have K5 := Lib.hid (K3.out.over L05)
      have M5 := Lib.hid (step L3.out L05)
      have hs5 := M5.out.size
      clear c1 c10 c11 c12 c13 c14 c16 c15
      obtain ⟨c1, c10, c11, c12, c13, c14, c16, c15⟩ := FC.out w5 g K5.out
      clear L05 CS CK HDI
      go_wp2
      go_ret2
      exact HQ.out _ _ rfl M5.out
    have hb1 : decide (2 < a.made) = false := by rw [decide_eq_false_iff_not]; omega
    have hb2 : decide (2 < a.kind) = false := by rw [decide_eq_false_iff_not]; omega
    by_cases hx3 : X2 ≤ 32768
    rotate_left
    · have HQ := Lib.hid (HE3.out hnm hmd hkd hx3)
      clear hw hne HE2 HE3 HQ0 hnm
      go_enter Tryd.func19, Tryd.ntmps19
      go_wp2_with (first
        | ((with_reducible show wpList _ _ _ (⟨some 3, _, _, _, _, _⟩ :: _) _ _); refine wpList_box_blk rfl _ (.tmp 1) rfl cs rfl ?_; intro g w1 hg1 hg2 K1 L1)
        | ((with_reducible show wpList _ _ _ (⟨some 6, _, _, _, _, _⟩ :: _) _ _); refine wpList_alloc_blk rfl _ rfl zs _ ZH ?_; intro h w2 hg3 hg4 Z2 L02; have K2 := Lib.hid (K1.out.over L02.out); have L2 := Lib.hid (step L1.out L02.out); obtain ⟨c1, c10, c11, c12, c13, c14, c16, c15⟩ := FC.out w2 g K2.out; have hgh : g ≠ h := (by omega); have hwh : w.heap.size ≤ h := (by have := L1.out.size; omega))
        | ((with_reducible show wpList _ _ _ (⟨none, .store _ (.tmp 28) _, _, _, _, _⟩ :: _) _ _); refine wpList_store_fld rfl _ (.tmp 28) (.tmp 27) rfl h 15 rfl _ zs (.slice X1 X2 X3) rfl Z2 (Lib.hid (by have := HZ.out; omega)) (by kernel_rfl) rfl ?_; intro w3 Z3 O3 hg5; rw [HDE.out] at Z3; have K3 := Lib.hid (K2.out.only O3.out hgh); have L3 := Lib.hid (below_only L2.out O3.out hwh); clear c1 c10 c11 c12 c13 c14 c16 c15; obtain ⟨c1, c10, c11, c12, c13, c14, c16, c15⟩ := FC.out w3 g K3.out)
        | fail)
      refine (CK.out _).mono ?_
      rintro e v1 ⟨rfl, rfl⟩
      go_wp2_with (first
        | ((with_reducible show wpList _ _ _ (⟨some 38, _, _, _, _, _⟩ :: _) _ _); refine wpList_load_want (by kernel_rfl) _ (.tmp 6) rfl h rfl _ D Z3 20 _ Tryd.underlying45 rfl size_say HD0 ?_)
        | ((with_reducible show wpList _ _ _ (⟨some 39, _, _, _, _, _⟩ :: _) _ _); refine wpList_load_want (by kernel_rfl) _ (.tmp 3) rfl g rfl _ cs K3 20 _ Tryd.underlying45 rfl size_say HL ?_)
        | fail)
      refine (CS.out _ D (HDI.out _ L3.out) L3.out).mono ?_
      rintro e w5 ⟨rfl, L05⟩
      have K5 := Lib.hid (K3.out.over L05)
      have M5 := Lib.hid (step L3.out L05)
      have hs5 := M5.out.size
      clear c1 c10 c11 c12 c13 c14 c16 c15
      obtain ⟨c1, c10, c11, c12, c13, c14, c16, c15⟩ := FC.out w5 g K5.out
      clear L05 CS CK HDI
      go_wp2
      go_ret2
      exact HQ.out _ _ rfl M5.out
    have HQ := Lib.hid (HQ0.out hnm hmd hkd hx3)
    have hb0 : bodyFS 8 a = le (X2 : Int) 4 ++ a.data := by unfold bodyFS; rw [if_neg (by decide), if_pos rfl, HX.out.len]
    rw [hb0] at HQ
    clear hw hne HE2 HE3 HQ0 hnm hb0
    go_enter Tryd.func19, Tryd.ntmps19
    go_wp2_with (first
      | ((with_reducible show wpList _ _ _ (⟨some 3, _, _, _, _, _⟩ :: _) _ _); refine wpList_box_blk rfl _ (.tmp 1) rfl cs rfl ?_; intro g w1 hg1 hg2 K1 L1)
      | ((with_reducible show wpList _ _ _ (⟨some 6, _, _, _, _, _⟩ :: _) _ _); refine wpList_alloc_blk rfl _ rfl zs _ ZH ?_; intro h w2 hg3 hg4 Z2 L02; have K2 := Lib.hid (K1.out.over L02.out); have L2 := Lib.hid (step L1.out L02.out); obtain ⟨c1, c10, c11, c12, c13, c14, c16, c15⟩ := FC.out w2 g K2.out; have hgh : g ≠ h := (by omega); have hwh : w.heap.size ≤ h := (by have := L1.out.size; omega))
      | ((with_reducible show wpList _ _ _ (⟨none, .store _ (.tmp 28) _, _, _, _, _⟩ :: _) _ _); refine wpList_store_fld rfl _ (.tmp 28) (.tmp 27) rfl h 15 rfl _ zs (.slice X1 X2 X3) rfl Z2 (Lib.hid (by have := HZ.out; omega)) (by kernel_rfl) rfl ?_; intro w3 Z3 O3 hg5; rw [HDE.out] at Z3; have K3 := Lib.hid (K2.out.only O3.out hgh); have L3 := Lib.hid (below_only L2.out O3.out hwh); clear c1 c10 c11 c12 c13 c14 c16 c15; obtain ⟨c1, c10, c11, c12, c13, c14, c16, c15⟩ := FC.out w3 g K3.out)
      | fail)
    refine (CK.out _).mono ?_
    rintro e v1 ⟨rfl, rfl⟩
    go_wp2_with (first
      | ((with_reducible show wpList _ _ _ (⟨some 38, _, _, _, _, _⟩ :: _) _ _); refine wpList_load_want (by kernel_rfl) _ (.tmp 6) rfl h rfl _ D Z3 20 _ Tryd.underlying45 rfl size_say HD0 ?_)
      | ((with_reducible show wpList _ _ _ (⟨some 39, _, _, _, _, _⟩ :: _) _ _); refine wpList_load_want (by kernel_rfl) _ (.tmp 3) rfl g rfl _ cs K3 20 _ Tryd.underlying45 rfl size_say HL ?_)
      | fail)
    refine (CS.out _ D (HDI.out _ L3.out) L3.out).mono ?_
    rintro e w5 ⟨rfl, L05⟩
    have K5 := Lib.hid (K3.out.over L05)
    have M5 := Lib.hid (step L3.out L05)
    have hs5 := M5.out.size
    clear c1 c10 c11 c12 c13 c14 c16 c15
    obtain ⟨c1, c10, c11, c12, c13, c14, c16, c15⟩ := FC.out w5 g K5.out
    clear L05 CS CK HDI
    have N0 : Hid (Below w5.heap.size w5 w5) := Below.refl _ _
    have H00 : Hid (Own w5 w5.heap.size (.slice none 0 0) []) := Own.nil _ _
    have hg5' : g < w5.heap.size := K5.out.lt
    go_wp2_with fail
    refine (CL4.out w5 w5.heap.size _ ([]) (X2 : Int) H00.out (by simp [le_length]) N0.out.size (by omega) (by omega)).mono ?_
    rintro e y1 ⟨v1, rfl, ho1, L1⟩
    have HO1 := Lib.hid ho1
    have N1 := Lib.hid (N0.out.trans L1)
    have Ky1 := Lib.hid (K5.out.below N1.out hg5')
    clear ho1 L1
    clear c1 c10 c11 c12 c13 c14 c16 c15
    obtain ⟨c1, c10, c11, c12, c13, c14, c16, c15⟩ := FC.out y1 g Ky1.out
    have HXD := Lib.hid (HX.out.over (M5.out.trans (N1.out.mono hs5)))
    go_wp2_with (first
      | (at_builtin; refine wpList_append_bytes rfl (.tmp 95) (.tmp 97) rfl w5.heap.size _ ([] ++ le (X2 : Int) 4) rfl HO1.out y1.heap.size X1 X2 X3 a.data rfl HXD.out (by rw [HX.out.len]; simp only [List.length_append, le_length, List.length_nil, List.length_cons]; omega) N1.out.size ?_; intro va z3 hoa hba hgra)
      | fail)
    go_ret2
    refine HQ.out _ _ _ rfl ?_ (M5.out.trans ((N1.out.trans hba).mono hs5))
    have h9 := Own.mono hoa.out hs5
    simpa [List.append_assoc] using h9
  · subst h9
    obtain ⟨D, hD⟩ : ∃ x, x = scells (.slice none 0 0) (.slice none 0 0) (wantFS 9 a) := ⟨_, rfl⟩
    have HD0 : Hid (D.length = 20) := by show _ = _; rw [hD]; exact scells_len (wantFS_ok ka)
    have HDE : Hid (zs.set 16 (.int .u32 a.n) = D) := by show _ = _; rw [HZS.out, hD]; rfl
    have HDI : Hid (∀ w' : World, Below w.heap.size w w' → SayIs w' w'.heap.size D (wantFS 9 a)) := fun w' hb => ⟨none, 0, 0, none, 0, 0, hD, Holds.nil _ _, HoldsS.nil _ _ _ _⟩
    clear hD BB
    by_cases hw : wantFS 9 a = a
    rotate_left
    · have HQ := Lib.hid (HE2.out (fun h => hw (hne.2 h.1)))
      rw [decide_eq_false hw] at CS
      clear hw hne HE2 HE3 HQ0
      go_enter Tryd.func19, Tryd.ntmps19
      go_wp2_with (first
        | ((with_reducible show wpList _ _ _ (⟨some 3, _, _, _, _, _⟩ :: _) _ _); refine wpList_box_blk rfl _ (.tmp 1) rfl cs rfl ?_; intro g w1 hg1 hg2 K1 L1)
        | ((with_reducible show wpList _ _ _ (⟨some 6, _, _, _, _, _⟩ :: _) _ _); refine wpList_alloc_blk rfl _ rfl zs _ ZH ?_; intro h w2 hg3 hg4 Z2 L02; have K2 := Lib.hid (K1.out.over L02.out); have L2 := Lib.hid (step L1.out L02.out); obtain ⟨c1, c10, c11, c12, c13, c14, c16, c15⟩ := FC.out w2 g K2.out; have hgh : g ≠ h := (by omega); have hwh : w.heap.size ≤ h := (by have := L1.out.size; omega))
        | ((with_reducible show wpList _ _ _ (⟨none, .store _ (.tmp 33) _, _, _, _, _⟩ :: _) _ _); refine wpList_store_fld rfl _ (.tmp 33) (.tmp 32) rfl h 16 rfl _ zs (.int .u32 a.n) rfl Z2 (Lib.hid (by have := HZ.out; omega)) (by kernel_rfl) rfl ?_; intro w3 Z3 O3 hg5; rw [HDE.out] at Z3; have K3 := Lib.hid (K2.out.only O3.out hgh); have L3 := Lib.hid (below_only L2.out O3.out hwh); clear c1 c10 c11 c12 c13 c14 c16 c15; obtain ⟨c1, c10, c11, c12, c13, c14, c16, c15⟩ := FC.out w3 g K3.out)
        | fail)
      refine (CK.out _).mono ?_
      rintro e v1 ⟨rfl, rfl⟩
      go_wp2_with (first
        | ((with_reducible show wpList _ _ _ (⟨some 38, _, _, _, _, _⟩ :: _) _ _); refine wpList_load_want (by kernel_rfl) _ (.tmp 6) rfl h rfl _ D Z3 20 _ Tryd.underlying45 rfl size_say HD0 ?_)
        | ((with_reducible show wpList _ _ _ (⟨some 39, _, _, _, _, _⟩ :: _) _ _); refine wpList_load_want (by kernel_rfl) _ (.tmp 3) rfl g rfl _ cs K3 20 _ Tryd.underlying45 rfl size_say HL ?_)
        | fail)
      refine (CS.out _ D (HDI.out _ L3.out) L3.out).mono ?_
      rintro e w5 ⟨rfl, L05⟩
      have K5 := Lib.hid (K3.out.over L05)
      have M5 := Lib.hid (step L3.out L05)
      have hs5 := M5.out.size
      clear c1 c10 c11 c12 c13 c14 c16 c15
      obtain ⟨c1, c10, c11, c12, c13, c14, c16, c15⟩ := FC.out w5 g K5.out
      clear L05 CS CK HDI
      go_wp2
      go_ret2
      exact HQ.out _ _ rfl M5.out
    have hnm := hne.1 hw
    rw [decide_eq_true hw] at CS
    by_cases hmd : a.made ≤ 2
    rotate_left
    · have HQ := Lib.hid (HE2.out (fun h => hmd h.2.1))
      have hb1 : decide (2 < a.made) = true := by rw [decide_eq_true_iff]; omega
      clear hw hne HE2 HE3 HQ0 hnm
      go_enter Tryd.func19, Tryd.ntmps19
      go_wp2_with (first
        | ((with_reducible show wpList _ _ _ (⟨some 3, _, _, _, _, _⟩ :: _) _ _); refine wpList_box_blk rfl _ (.tmp 1) rfl cs rfl ?_; intro g w1 hg1 hg2 K1 L1)
        | ((with_reducible show wpList _ _ _ (⟨some 6, _, _, _, _, _⟩ :: _) _ _); refine wpList_alloc_blk rfl _ rfl zs _ ZH ?_; intro h w2 hg3 hg4 Z2 L02; have K2 := Lib.hid (K1.out.over L02.out); have L2 := Lib.hid (step L1.out L02.out); obtain ⟨c1, c10, c11, c12, c13, c14, c16, c15⟩ := FC.out w2 g K2.out; have hgh : g ≠ h := (by omega); have hwh : w.heap.size ≤ h := (by have := L1.out.size; omega))
        | ((with_reducible show wpList _ _ _ (⟨none, .store _ (.tmp 33) _, _, _, _, _⟩ :: _) _ _); refine wpList_store_fld rfl _ (.tmp 33) (.tmp 32) rfl h 16 rfl _ zs (.int .u32 a.n) rfl Z2 (Lib.hid (by have := HZ.out; omega)) (by kernel_rfl) rfl ?_; intro w3 Z3 O3 hg5; rw [HDE.out] at Z3; have K3 := Lib.hid (K2.out.only O3.out hgh); have L3 := Lib.hid (below_only L2.out O3.out hwh); clear c1 c10 c11 c12 c13 c14 c16 c15; obtain ⟨c1, c10, c11, c12, c13, c14, c16, c15⟩ := FC.out w3 g K3.out)
        | fail)
      refine (CK.out _).mono ?_
      rintro e v1 ⟨rfl, rfl⟩
      go_wp2_with (first
        | ((with_reducible show wpList _ _ _ (⟨some 38, _, _, _, _, _⟩ :: _) _ _); refine wpList_load_want (by kernel_rfl) _ (.tmp 6) rfl h rfl _ D Z3 20 _ Tryd.underlying45 rfl size_say HD0 ?_)
        | ((with_reducible show wpList _ _ _ (⟨some 39, _, _, _, _, _⟩ :: _) _ _); refine wpList_load_want (by kernel_rfl) _ (.tmp 3) rfl g rfl _ cs K3 20 _ Tryd.underlying45 rfl size_say HL ?_)
        | fail)
      refine (CS.out _ D (HDI.out _ L3.out) L3.out).mono ?_
      rintro e w5 ⟨rfl, L05⟩
      have K5 := Lib.hid (K3.out.over L05)
      have M5 := Lib.hid (step L3.out L05)
      have hs5 := M5.out.size
      clear c1 c10 c11 c12 c13 c14 c16 c15
      obtain ⟨c1, c10, c11, c12, c13, c14, c16, c15⟩ := FC.out w5 g K5.out
      clear L05 CS CK HDI
      go_wp2
      go_ret2
      exact HQ.out _ _ rfl M5.out
    by_cases hkd : a.kind ≤ 2
    rotate_left
    · have HQ := Lib.hid (HE2.out (fun h => hkd h.2.2))
      have hb1 : decide (2 < a.made) = false := by rw [decide_eq_false_iff_not]; omega
      have hb2 : decide (2 < a.kind) = true := by rw [decide_eq_true_iff]; omega
      clear hw hne HE2 HE3 HQ0 hnm
      go_enter Tryd.func19, Tryd.ntmps19
      go_wp2_with (first
        | ((with_reducible show wpList _ _ _ (⟨some 3, _, _, _, _, _⟩ :: _) _ _); refine wpList_box_blk rfl _ (.tmp 1) rfl cs rfl ?_; intro g w1 hg1 hg2 K1 L1)
        | ((with_reducible show wpList _ _ _ (⟨some 6, _, _, _, _, _⟩ :: _) _ _); refine wpList_alloc_blk rfl _ rfl zs _ ZH ?_; intro h w2 hg3 hg4 Z2 L02; have K2 := Lib.hid (K1.out.over L02.out); have L2 := Lib.hid (step L1.out L02.out); obtain ⟨c1, c10, c11, c12, c13, c14, c16, c15⟩ := FC.out w2 g K2.out; have hgh : g ≠ h := (by omega); have hwh : w.heap.size ≤ h := (by have := L1.out.size; omega))
        | ((with_reducible show wpList _ _ _ (⟨none, .store _ (.tmp 33) _, _, _, _, _⟩ :: _) _ _); refine wpList_store_fld rfl _ (.tmp 33) (.tmp 32) rfl h 16 rfl _ zs (.int .u32 a.n) rfl Z2 (Lib.hid (by have := HZ.out; omega)) (by kernel_rfl) rfl ?_; intro w3 Z3 O3 hg5; rw [HDE.out] at Z3; have K3 := Lib.hid (K2.out.only O3.out hgh); have L3 := Lib.hid (below_only L2.out O3.out hwh); clear c1 c10 c11 c12 c13 c14 c16 c15; obtain ⟨c1, c10, c11, c12, c13, c14, c16, c15⟩ := FC.out w3 g K3.out)
        | fail)
      refine (CK.out _).mono ?_
      rintro e v1 ⟨rfl, rfl⟩
      go_wp2_with (first
        | ((with_reducible show wpList _ _ _ (⟨some 38, _, _, _, _, _⟩ :: _) _ _); refine wpList_load_want (by kernel_rfl) _ (.tmp 6) rfl h rfl _ D Z3 20 _ Tryd.underlying45 rfl size_say HD0 ?_)
        | ((with_reducible show wpList _ _ _ (⟨some 39, _, _, _, _, _⟩ :: _) _ _); refine wpList_load_want (by kernel_rfl) _ (.tmp 3) rfl g rfl _ cs K3 20 _ Tryd.underlying45 rfl size_say HL ?_)
        | fail)
      refine (CS.out _ D (HDI.out _ L3.out) L3.out).mono ?_
      rintro e w5 ⟨rfl, L05⟩
      have K5 := Lib.hid (K3.out.over L05)
      have M5 := Lib.hid (step L3.out L05)
      have hs5 := M5.out.size
      clear c1 c10 c11 c12 c13 c14 c16 c15
      obtain ⟨c1, c10, c11, c12, c13, c14, c16, c15⟩ := FC.out w5 g K5.out
      clear L05 CS CK HDI
      go_wp2
      go_ret2
      exact HQ.out _ _ rfl M5.out
    have hb1 : decide (2 < a.made) = false := by rw [decide_eq_false_iff_not]; omega
    have hb2 : decide (2 < a.kind) = false := by rw [decide_eq_false_iff_not]; omega
    by_cases hx3 : X2 ≤ 32768
    rotate_left
    · have HQ := Lib.hid (HE3.out hnm hmd hkd hx3)
      clear hw hne HE2 HE3 HQ0 hnm
      go_enter Tryd.func19, Tryd.ntmps19
      go_wp2_with (first
        | ((with_reducible show wpList _ _ _ (⟨some 3, _, _, _, _, _⟩ :: _) _ _); refine wpList_box_blk rfl _ (.tmp 1) rfl cs rfl ?_; intro g w1 hg1 hg2 K1 L1)
        | ((with_reducible show wpList _ _ _ (⟨some 6, _, _, _, _, _⟩ :: _) _ _); refine wpList_alloc_blk rfl _ rfl zs _ ZH ?_; intro h w2 hg3 hg4 Z2 L02; have K2 := Lib.hid (K1.out.over L02.out); have L2 := Lib.hid (step L1.out L02.out); obtain ⟨c1, c10, c11, c12, c13, c14, c16, c15⟩ := FC.out w2 g K2.out; have hgh : g ≠ h := (by omega); have hwh : w.heap.size ≤ h := (by have := L1.out.size; omega))
        | ((with_reducible show wpList _ _ _ (⟨none, .store _ (.tmp 33) _, _, _, _, _⟩ :: _) _ _); refine wpList_store_fld rfl _ (.tmp 33) (.tmp 32) rfl h 16 rfl _ zs (.int .u32 a.n) rfl Z2 (Lib.hid (by have := HZ.out; omega)) (by kernel_rfl) rfl ?_; intro w3 Z3 O3 hg5; rw [HDE.out] at Z3; have K3 := Lib.hid (K2.out.only O3.out hgh); have L3 := Lib.hid (below_only L2.out O3.out hwh); clear c1 c10 c11 c12 c13 c14 c16 c15; obtain ⟨c1, c10, c11, c12, c13, c14, c16, c15⟩ := FC.out w3 g K3.out)
        | fail)
      refine (CK.out _).mono ?_
      rintro e v1 ⟨rfl, rfl⟩
      go_wp2_with (first
        | ((with_reducible show wpList _ _ _ (⟨some 38, _, _, _, _, _⟩ :: _) _ _); refine wpList_load_want (by kernel_rfl) _ (.tmp 6) rfl h rfl _ D Z3 20 _ Tryd.underlying45 rfl size_say HD0 ?_)
        | ((with_reducible show wpList _ _ _ (⟨some 39, _, _, _, _, _⟩ :: _) _ _); refine wpList_load_want (by kernel_rfl) _ (.tmp 3) rfl g rfl _ cs K3 20 _ Tryd.underlying45 rfl size_say HL ?_)
        | fail)
      refine (CS.out _ D (HDI.out _ L3.out) L3.out).mono ?_
      rintro e w5 ⟨rfl, L05⟩
      have K5 := Lib.hid (K3.out.over L05)
      have M5 := Lib.hid (step L3.out L05)
      have hs5 := M5.out.size
      clear c1 c10 c11 c12 c13 c14 c16 c15
      obtain ⟨c1, c10, c11, c12, c13, c14, c16, c15⟩ := FC.out w5 g K5.out
      clear L05 CS CK HDI
      go_wp2
      go_ret2
      exact HQ.out _ _ rfl M5.out
    have HQ := Lib.hid (HQ0.out hnm hmd hkd hx3)
    have hb0 : bodyFS 9 a = le a.n 4 := rfl
    rw [hb0] at HQ
    clear hw hne HE2 HE3 HQ0 hnm hb0
    go_enter Tryd.func19, Tryd.ntmps19
    go_wp2_with (first
      | ((with_reducible show wpList _ _ _ (⟨some 3, _, _, _, _, _⟩ :: _) _ _); refine wpList_box_blk rfl _ (.tmp 1) rfl cs rfl ?_; intro g w1 hg1 hg2 K1 L1)
      | ((with_reducible show wpList _ _ _ (⟨some 6, _, _, _, _, _⟩ :: _) _ _); refine wpList_alloc_blk rfl _ rfl zs _ ZH ?_; intro h w2 hg3 hg4 Z2 L02; have K2 := Lib.hid (K1.out.over L02.out); have L2 := Lib.hid (step L1.out L02.out); obtain ⟨c1, c10, c11, c12, c13, c14, c16, c15⟩ := FC.out w2 g K2.out; have hgh : g ≠ h := (by omega); have hwh : w.heap.size ≤ h := (by have := L1.out.size; omega))
      | ((with_reducible show wpList _ _ _ (⟨none, .store _ (.tmp 33) _, _, _, _, _⟩ :: _) _ _); refine wpList_store_fld rfl _ (.tmp 33) (.tmp 32) rfl h 16 rfl _ zs (.int .u32 a.n) rfl Z2 (Lib.hid (by have := HZ.out; omega)) (by kernel_rfl) rfl ?_; intro w3 Z3 O3 hg5; rw [HDE.out] at Z3; have K3 := Lib.hid (K2.out.only O3.out hgh); have L3 := Lib.hid (below_only L2.out O3.out hwh); clear c1 c10 c11 c12 c13 c14 c16 c15; obtain ⟨c1, c10, c11, c12, c13, c14, c16, c15⟩ := FC.out w3 g K3.out)
      | fail)
    refine (CK.out _).mono ?_
    rintro e v1 ⟨rfl, rfl⟩
    go_wp2_with (first
      | ((with_reducible show wpList _ _ _ (⟨some 38, _, _, _, _, _⟩ :: _) _ _); refine wpList_load_want (by kernel_rfl) _ (.tmp 6) rfl h rfl _ D Z3 20 _ Tryd.underlying45 rfl size_say HD0 ?_)
      | ((with_reducible show wpList _ _ _ (⟨some 39, _, _, _, _, _⟩ :: _) _ _); refine wpList_load_want (by kernel_rfl) _ (.tmp 3) rfl g rfl _ cs K3 20 _ Tryd.underlying45 rfl size_say HL ?_)
      | fail)
    refine (CS.out _ D (HDI.out _ L3.out) L3.out).mono ?_
    rintro e w5 ⟨rfl, L05⟩
    have K5 := Lib.hid (K3.out.over L05)
    have M5 := Lib.hid (step L3.out L05)
    have hs5 := M5.out.size
    clear c1 c10 c11 c12 c13 c14 c16 c15
    obtain ⟨c1, c10, c11, c12, c13, c14, c16, c15⟩ := FC.out w5 g K5.out
    clear L05 CS CK HDI
    have N0 : Hid (Below w5.heap.size w5 w5) := Below.refl _ _
    have H00 : Hid (Own w5 w5.heap.size (.slice none 0 0) []) := Own.nil _ _
    have hg5' : g < w5.heap.size := K5.out.lt
    go_wp2_with fail
    refine (CL4.out w5 w5.heap.size _ ([]) a.n H00.out (by simp [le_length]) N0.out.size l_n u_n).mono ?_
    rintro e y1 ⟨v1, rfl, ho1, L1⟩
    have HO1 := Lib.hid ho1
    have N1 := Lib.hid (N0.out.trans L1)
    have Ky1 := Lib.hid (K5.out.below N1.out hg5')
    clear ho1 L1
    clear c1 c10 c11 c12 c13 c14 c16 c15
    obtain ⟨c1, c10, c11, c12, c13, c14, c16, c15⟩ := FC.out y1 g Ky1.out
    go_wp2
    go_ret2
    refine HQ.out _ _ _ rfl ?_ (M5.out.trans (N1.out.mono hs5))
    have h9 := Own.mono HO1.out hs5
    simpa [List.append_assoc] using h9
  · subst h10
    have HDI : Hid (∀ w' : World, Below w.heap.size w w' → SayIs w' w'.heap.size zs (wantFS 10 a)) := fun w' hb => ⟨none, 0, 0, none, 0, 0, HZS.out, Holds.nil _ _, HoldsS.nil _ _ _ _⟩
    clear BB
    by_cases hw : wantFS 10 a = a
    rotate_left
    · have HQ := Lib.hid (HE2.out (fun h => hw (hne.2 h.1)))
      rw [decide_eq_false hw] at CS
      clear hw hne HE2 HE3 HQ0
      go_enter Tryd.func19, Tryd.ntmps19
      go_wp2_with (first
        | ((with_reducible show wpList _ _ _ (⟨some 3, _, _, _, _, _⟩ :: _) _ _); refine wpList_box_blk rfl _ (.tmp 1) rfl cs rfl ?_; intro g w1 hg1 hg2 K1 L1)
        | ((with_reducible show wpList _ _ _ (⟨some 6, _, _, _, _, _⟩ :: _) _ _); refine wpList_alloc_blk rfl _ rfl zs _ ZH ?_; intro h w2 hg3 hg4 Z2 L02; have K2 := Lib.hid (K1.out.over L02.out); have L2 := Lib.hid (step L1.out L02.out); obtain ⟨c1, c10, c11, c12, c13, c14, c16, c15⟩ := FC.out w2 g K2.out; have hgh : g ≠ h := (by omega); have hwh : w.heap.size ≤ h := (by have := L1.out.size; omega))
        | fail)
      refine (CK.out _).mono ?_
      rintro e v1 ⟨rfl, rfl⟩
      go_wp2_with (first
        | ((with_reducible show wpList _ _ _ (⟨some 38, _, _, _, _, _⟩ :: _) _ _); refine wpList_load_want (by kernel_rfl) _ (.tmp 6) rfl h rfl _ zs Z2 20 _ Tryd.underlying45 rfl size_say HZ ?_)
        | ((with_reducible show wpList _ _ _ (⟨some 39, _, _, _, _, _⟩ :: _) _ _); refine wpList_load_want (by kernel_rfl) _ (.tmp 3) rfl g rfl _ cs K2 20 _ Tryd.underlying45 rfl size_say HL ?_)
        | fail)
      refine (CS.out _ zs (HDI.out _ L2.out) L2.out).mono ?_
      rintro e w5 ⟨rfl, L05⟩
      have K5 := Lib.hid (K2.out.over L05)
      have M5 := Lib.hid (step L2.out L05)
      have hs5 := M5.out.size
      clear c1 c10 c11 c12 c13 c14 c16 c15
      obtain ⟨c1, c10, c11, c12, c13, c14, c16, c15⟩ := FC.out w5 g K5.out
      clear L05 CS CK HDI
      go_wp2
      go_ret2
      exact HQ.out _ _ rfl M5.out
    have hnm := hne.1 hw
    rw [decide_eq_true hw] at CS
    by_cases hmd : a.made ≤ 2
    rotate_left
    · have HQ := Lib.hid (HE2.out (fun h => hmd h.2.1))
      have hb1 : decide (2 < a.made) = true := by rw [decide_eq_true_iff]; omega
      clear hw hne HE2 HE3 HQ0 hnm
      go_enter Tryd.func19, Tryd.ntmps19
      go_wp2_with (first
        | ((with_reducible show wpList _ _ _ (⟨some 3, _, _, _, _, _⟩ :: _) _ _); refine wpList_box_blk rfl _ (.tmp 1) rfl cs rfl ?_; intro g w1 hg1 hg2 K1 L1)
        | ((with_reducible show wpList _ _ _ (⟨some 6, _, _, _, _, _⟩ :: _) _ _); refine wpList_alloc_blk rfl _ rfl zs _ ZH ?_; intro h w2 hg3 hg4 Z2 L02; have K2 := Lib.hid (K1.out.over L02.out); have L2 := Lib.hid (step L1.out L02.out); obtain ⟨c1, c10, c11, c12, c13, c14, c16, c15⟩ := FC.out w2 g K2.out; have hgh : g ≠ h := (by omega); have hwh : w.heap.size ≤ h := (by have := L1.out.size; omega))
        | fail)
      refine (CK.out _).mono ?_
      rintro e v1 ⟨rfl, rfl⟩
      go_wp2_with (first
        | ((with_reducible show wpList _ _ _ (⟨some 38, _, _, _, _, _⟩ :: _) _ _); refine wpList_load_want (by kernel_rfl) _ (.tmp 6) rfl h rfl _ zs Z2 20 _ Tryd.underlying45 rfl size_say HZ ?_)
        | ((with_reducible show wpList _ _ _ (⟨some 39, _, _, _, _, _⟩ :: _) _ _); refine wpList_load_want (by kernel_rfl) _ (.tmp 3) rfl g rfl _ cs K2 20 _ Tryd.underlying45 rfl size_say HL ?_)
        | fail)
      refine (CS.out _ zs (HDI.out _ L2.out) L2.out).mono ?_
      rintro e w5 ⟨rfl, L05⟩
      have K5 := Lib.hid (K2.out.over L05)
      have M5 := Lib.hid (step L2.out L05)
      have hs5 := M5.out.size
      clear c1 c10 c11 c12 c13 c14 c16 c15
      obtain ⟨c1, c10, c11, c12, c13, c14, c16, c15⟩ := FC.out w5 g K5.out
      clear L05 CS CK HDI
      go_wp2
      go_ret2
      exact HQ.out _ _ rfl M5.out
    by_cases hkd : a.kind ≤ 2
    rotate_left
    · have HQ := Lib.hid (HE2.out (fun h => hkd h.2.2))
      have hb1 : decide (2 < a.made) = false := by rw [decide_eq_false_iff_not]; omega
      have hb2 : decide (2 < a.kind) = true := by rw [decide_eq_true_iff]; omega
      clear hw hne HE2 HE3 HQ0 hnm
      go_enter Tryd.func19, Tryd.ntmps19
      go_wp2_with (first
        | ((with_reducible show wpList _ _ _ (⟨some 3, _, _, _, _, _⟩ :: _) _ _); refine wpList_box_blk rfl _ (.tmp 1) rfl cs rfl ?_; intro g w1 hg1 hg2 K1 L1)
        | ((with_reducible show wpList _ _ _ (⟨some 6, _, _, _, _, _⟩ :: _) _ _); refine wpList_alloc_blk rfl _ rfl zs _ ZH ?_; intro h w2 hg3 hg4 Z2 L02; have K2 := Lib.hid (K1.out.over L02.out); have L2 := Lib.hid (step L1.out L02.out); obtain ⟨c1, c10, c11, c12, c13, c14, c16, c15⟩ := FC.out w2 g K2.out; have hgh : g ≠ h := (by omega); have hwh : w.heap.size ≤ h := (by have := L1.out.size; omega))
        | fail)
      refine (CK.out _).mono ?_
      rintro e v1 ⟨rfl, rfl⟩
      go_wp2_with (first
        | ((with_reducible show wpList _ _ _ (⟨some 38, _, _, _, _, _⟩ :: _) _ _); refine wpList_load_want (by kernel_rfl) _ (.tmp 6) rfl h rfl _ zs Z2 20 _ Tryd.underlying45 rfl size_say HZ ?_)
        | ((with_reducible show wpList _ _ _ (⟨some 39, _, _, _, _, _⟩ :: _) _ _); refine wpList_load_want (by kernel_rfl) _ (.tmp 3) rfl g rfl _ cs K2 20 _ Tryd.underlying45 rfl size_say HL ?_)
        | fail)
      refine (CS.out _ zs (HDI.out _ L2.out) L2.out).mono ?_
      rintro e w5 ⟨rfl, L05⟩
      have K5 := Lib.hid (K2.out.over L05)
      have M5 := Lib.hid (step L2.out L05)
      have hs5 := M5.out.size
      clear c1 c10 c11 c12 c13 c14 c16 c15
      obtain ⟨c1, c10, c11, c12, c13, c14, c16, c15⟩ := FC.out w5 g K5.out
      clear L05 CS CK HDI
      go_wp2
      go_ret2
      exact HQ.out _ _ rfl M5.out
    have hb1 : decide (2 < a.made) = false := by rw [decide_eq_false_iff_not]; omega
    have hb2 : decide (2 < a.kind) = false := by rw [decide_eq_false_iff_not]; omega
    by_cases hx3 : X2 ≤ 32768
    rotate_left
    · have HQ := Lib.hid (HE3.out hnm hmd hkd hx3)
      clear hw hne HE2 HE3 HQ0 hnm
      go_enter Tryd.func19, Tryd.ntmps19
      go_wp2_with (first
        | ((with_reducible show wpList _ _ _ (⟨some 3, _, _, _, _, _⟩ :: _) _ _); refine wpList_box_blk rfl _ (.tmp 1) rfl cs rfl ?_; intro g w1 hg1 hg2 K1 L1)
        | ((with_reducible show wpList _ _ _ (⟨some 6, _, _, _, _, _⟩ :: _) _ _); refine wpList_alloc_blk rfl _ rfl zs _ ZH ?_; intro h w2 hg3 hg4 Z2 L02; have K2 := Lib.hid (K1.out.over L02.out); have L2 := Lib.hid (step L1.out L02.out); obtain ⟨c1, c10, c11, c12, c13, c14, c16, c15⟩ := FC.out w2 g K2.out; have hgh : g ≠ h := (by omega); have hwh : w.heap.size ≤ h := (by have := L1.out.size; omega))
        | fail)
      refine (CK.out _).mono ?_
      rintro e v1 ⟨rfl, rfl⟩
      go_wp2_with (first
        | ((with_reducible show wpList _ _ _ (⟨some 38, _, _, _, _, _⟩ :: _) _ _); refine wpList_load_want (by kernel_rfl) _ (.tmp 6) rfl h rfl _ zs Z2 20 _ Tryd.underlying45 rfl size_say HZ ?_)
        | ((with_reducible show wpList _ _ _ (⟨some 39, _, _, _, _, _⟩ :: _) _ _); refine wpList_load_want (by kernel_rfl) _ (.tmp 3) rfl g rfl _ cs K2 20 _ Tryd.underlying45 rfl size_say HL ?_)
        | fail)
      refine (CS.out _ zs (HDI.out _ L2.out) L2.out).mono ?_
      rintro e w5 ⟨rfl, L05⟩
      have K5 := Lib.hid (K2.out.over L05)
      have M5 := Lib.hid (step L2.out L05)
      have hs5 := M5.out.size
      clear c1 c10 c11 c12 c13 c14 c16 c15
      obtain ⟨c1, c10, c11, c12, c13, c14, c16, c15⟩ := FC.out w5 g K5.out
      clear L05 CS CK HDI
      go_wp2
      go_ret2
      exact HQ.out _ _ rfl M5.out
    have HQ := Lib.hid (HQ0.out hnm hmd hkd hx3)
    have hb0 : bodyFS 10 a = le 0 4 := rfl
    rw [hb0] at HQ
    clear hw hne HE2 HE3 HQ0 hnm hb0
    go_enter Tryd.func19, Tryd.ntmps19
    go_wp2_with (first
      | ((with_reducible show wpList _ _ _ (⟨some 3, _, _, _, _, _⟩ :: _) _ _); refine wpList_box_blk rfl _ (.tmp 1) rfl cs rfl ?_; intro g w1 hg1 hg2 K1 L1)
      | ((with_reducible show wpList _ _ _ (⟨some 6, _, _, _, _, _⟩ :: _) _ _); refine wpList_alloc_blk rfl _ rfl zs _ ZH ?_; intro h w2 hg3 hg4 Z2 L02; have K2 := Lib.hid (K1.out.over L02.out); have L2 := Lib.hid (step L1.out L02.out); obtain ⟨c1, c10, c11, c12, c13, c14, c16, c15⟩ := FC.out w2 g K2.out; have hgh : g ≠ h := (by omega); have hwh : w.heap.size ≤ h := (by have := L1.out.size; omega))
      | fail)
    refine (CK.out _).mono ?_
    rintro e v1 ⟨rfl, rfl⟩
    go_wp2_with (first
      | ((with_reducible show wpList _ _ _ (⟨some 38, _, _, _, _, _⟩ :: _) _ _); refine wpList_load_want (by kernel_rfl) _ (.tmp 6) rfl h rfl _ zs Z2 20 _ Tryd.underlying45 rfl size_say HZ ?_)
      | ((with_reducible show wpList _ _ _ (⟨some 39, _, _, _, _, _⟩ :: _) _ _); refine wpList_load_want (by kernel_rfl) _ (.tmp 3) rfl g rfl _ cs K2 20 _ Tryd.underlying45 rfl size_say HL ?_)
      | fail)
    refine (CS.out _ zs (HDI.out _ L2.out) L2.out).mono ?_
    rintro e w5 ⟨rfl, L05⟩
    have K5 := Lib.hid (K2.out.over L05)
    have M5 := Lib.hid (step L2.out L05)
    have hs5 := M5.out.size
    clear c1 c10 c11 c12 c13 c14 c16 c15
    obtain ⟨c1, c10, c11, c12, c13, c14, c16, c15⟩ := FC.out w5 g K5.out
    clear L05 CS CK HDI
    have N0 : Hid (Below w5.heap.size w5 w5) := Below.refl _ _
    have H00 : Hid (Own w5 w5.heap.size (.slice none 0 0) []) := Own.nil _ _
    have hg5' : g < w5.heap.size := K5.out.lt
    go_wp2_with fail
    refine (CL4.out w5 w5.heap.size _ ([]) 0 H00.out (by simp [le_length]) N0.out.size (Int.le_refl 0) (by decide)).mono ?_
    rintro e y1 ⟨v1, rfl, ho1, L1⟩
    have HO1 := Lib.hid ho1
    have N1 := Lib.hid (N0.out.trans L1)
    have Ky1 := Lib.hid (K5.out.below N1.out hg5')
    clear ho1 L1
    clear c1 c10 c11 c12 c13 c14 c16 c15
    obtain ⟨c1, c10, c11, c12, c13, c14, c16, c15⟩ := FC.out y1 g Ky1.out
    go_wp2
    go_ret2
    refine HQ.out _ _ _ rfl ?_ (M5.out.trans (N1.out.mono hs5))
    have h9 := Own.mono HO1.out hs5
    simpa [List.append_assoc] using h9
end Go.Proofs.YtdlcjobahdmapaaDoor

namespace Go.Proofs.YtdlcjobahdmapaaDoor
set_option linter.all false
open Go.RowKit
set_option linter.unusedVariables false
set_option maxRecDepth 100000
set_option maxHeartbeats 4000000 in
theorem walk_FileSays (W : World) (hT : Tabs W) (a0 : Int) (w0 : 0 ≤ a0 ∧ a0 ≤ 65535) (cs1 : List Value) (a1 : SayV) (k1h : a1.ok) (h1h : SayIs W W.heap.size cs1 a1) (b1 : a1.data.length ≤ 1048576 ∧ a1.ents.length ≤ 1048576) :
    Calls Tryd.prog 4 #[.int .u16 a0, .agg cs1.toArray] W fun e W' => e = .returned (.bool true) ∧ Below W.heap.size W W' := by
  have HT := Lib.hid hT
  have HL := Lib.hid (h1h.len k1h)
  have HA := Lib.hid h1h
  have ZH := Lib.hid zero_say
  have HZ : Hid ((scells (.slice none 0 0) (.slice none 0 0) zeroSay).length = 20) := scells_len zeroSay_ok
  obtain ⟨b1b, b1c⟩ := b1
  have CC : Hid (∀ w : World, Below W.heap.size W w → Calls Tryd.prog 17 #[.agg cs1.toArray] w fun e w' => ∃ cs', e = .returned (.agg cs'.toArray) ∧ SayIs w' w'.heap.size cs' a1 ∧ Below w.heap.size w w') := fun w hb => CopySay_any w cs1 a1 k1h (h1h.over hb) ⟨by omega, by omega⟩
  have CP : Hid (∀ (w : World) (ds : List Value), SayIs w w.heap.size ds a1 → Calls Tryd.prog 18 #[.int .u16 a0, .agg ds.toArray] w fun e w' => ∃ v, e = .returned (.tuple #[v, .int .i64 (fsErr a0 a1)]) ∧ Own w' w.heap.size v (fsOf a0 a1) ∧ Below w.heap.size w w') := fun w ds hd => (FPutSay_any w a0 ds a1 w0 k1h hd).mono fun e w' ⟨v, q1, q2, q3⟩ => ⟨v, q1, q2.own8, q3⟩
  have CR : Hid (∀ w : World, Below W.heap.size W w → Calls Tryd.prog 19 #[.int .u16 a0, .agg cs1.toArray] w fun e w' => ∃ v, e = .returned (.tuple #[v, .int .i64 (fsErr a0 a1)]) ∧ Own w' w.heap.size v (fsOf a0 a1) ∧ Below w.heap.size w w') := fun w hb => RFPutSay_any w a0 cs1 a1 w0 k1h (h1h.over hb) ⟨by omega, by omega⟩
  have CS : Hid (∀ (w : World) (A A' : Option Addr) (n c n' c' : Nat) (ys : List Int), Holds w w.heap.size A n c ys → Holds w w.heap.size A' n' c' ys → Calls Tryd.prog 14 #[.slice A n c, .slice A' n' c'] w fun e w' => e = .returned (.bool true) ∧ ∃ k, w.drewN k = w') := fun w A A' n c n' c' ys h1 h2 => by
    have h3 := Same_any w _ _ _ _ _ _ _ _ ys ys h1 h2
    rwa [decide_eq_true rfl] at h3
  have CQ : Hid (∀ (w : World) (ds : List Value), SayIs w w.heap.size ds a1 → SayIs w w.heap.size cs1 a1 → Calls Tryd.prog 20 #[.agg ds.toArray, .agg cs1.toArray] w fun e w' => e = .returned (.bool true) ∧ Below w.heap.size w w') := fun w ds h1 h2 => by
    have h3 := Says_any w ds cs1 a1 a1 k1h k1h h1 h2 ⟨by omega, by omega⟩ ⟨by omega, by omega⟩
    rwa [decide_eq_true rfl] at h3
  have CL : Hid (∀ w : World, Tabs w → Calls Tryd.prog 16 #[] w fun e w' => e = .returned (.bool true) ∧ Below w.heap.size w w') := flives_any
  have HYB := Lib.hid (fs_bytes (c := a0) k1h)
  have HYL := Lib.hid (fs_len (c := a0) (a := a1))
  obtain ⟨ys, hys⟩ : ∃ x, x = fsOf a0 a1 := ⟨_, rfl⟩
  obtain ⟨er, her⟩ : ∃ x, x = fsErr a0 a1 := ⟨_, rfl⟩
  rw [← hys, ← her] at CP CR
  rw [← hys] at HYB HYL
  obtain ⟨zs, hzs⟩ : ∃ x, x = scells (.slice none 0 0) (.slice none 0 0) zeroSay := ⟨_, rfl⟩
  rw [← hzs] at ZH HZ
  clear hys her hzs hT h1h
  go_enter Tryd.func4, Tryd.ntmps4
  go_wp2_with (first
    | ((with_reducible show wpList _ _ _ (⟨some 3, _, _, _, _, _⟩ :: _) _ _); refine wpList_box_blk rfl _ (.tmp 1) rfl cs1 rfl ?_; intro g v1 hg1 hg2 K1 L1)
    | ((with_reducible show wpList _ _ _ (⟨some 10, _, _, _, _, _⟩ :: _) _ _); refine wpList_load_blk rfl _ (.tmp 3) rfl g rfl _ cs1 K1 20 _ Tryd.underlying45 rfl size_say HL ?_)
    | fail)
  refine (CC.out v1 L1.out).mono ?_
  rintro e v2 ⟨ds, rfl, hd, L2⟩
  have HD := Lib.hid hd
  have HDL := Lib.hid (hd.len k1h)
  have HDO := Lib.hid hd.one
  have K2 := Lib.hid (K1.out.over L2)
  have M2 := Lib.hid (step L1.out L2)
  clear hd L2 K1 L1 CC
  go_wp2_with (first
    | ((with_reducible show wpList _ _ _ (⟨some 5, _, _, _, _, _⟩ :: _) _ _); refine wpList_alloc_blk rfl _ rfl zs _ ZH ?_; intro h v3 hg3 hg4 Z3 L3)
    | ((with_reducible show wpList _ _ _ (⟨none, .store _ (.tmp 5) _, _, _, _, _⟩ :: _) _ _); refine wpList_store_blk rfl _ (.tmp 5) (.tmp 11) rfl h rfl _ zs ds rfl Z3 20 size_say HZ HDL HDO ?_; intro v4 X4 O4 hg5; have L4 := Lib.hid (below_only L3.out O4.out hg3); have M4 := Lib.hid (step M2.out L4.out); have K4 := Lib.hid (K2.out.over L4.out); have HD4 := Lib.hid (HD.out.over L4.out))
    | ((with_reducible show wpList _ _ _ (⟨some 14, _, _, _, _, _⟩ :: _) _ _); refine wpList_load_blk rfl _ (.tmp 5) rfl h rfl _ ds X4 20 _ Tryd.underlying45 rfl size_say HDL ?_)
    | fail)
  refine (CP.out v4 ds HD4.out).mono ?_
  rintro e v5 ⟨u5, rfl, ho5, L5⟩
  have X5 := Lib.hid (X4.out.over L5)
  have K5 := Lib.hid (K4.out.over L5)
  have M5 := Lib.hid (step M4.out L5)
  have HD5 := Lib.hid (HD4.out.over L5)
  have O5 := Lib.hid ho5
  clear ho5 L5 X4 K4 M4 HD4 HD K2 M2 Z3 L3 L4 O4
  go_wp2_with (first
    | ((with_reducible show wpList _ _ _ (⟨some 20, _, _, _, _, _⟩ :: _) _ _); refine wpList_load_blk rfl _ (.tmp 3) rfl g rfl _ cs1 K5 20 _ Tryd.underlying45 rfl size_say HL ?_)
    | fail)
  refine (CR.out v5 M5.out).mono ?_
  rintro e v6 ⟨u6, rfl, ho6, L6⟩
  have X6 := Lib.hid (X5.out.over L6)
  have K6 := Lib.hid (K5.out.over L6)
  have M6 := Lib.hid (step M5.out L6)
  have HD6 := Lib.hid (HD5.out.over L6)
  obtain ⟨A5, c5, rfl, hh5⟩ := (O5.out.below L6).holds HYB.out (by have := HYL.out; omega)
  obtain ⟨A6, c6, rfl, hh6⟩ := ho6.holds HYB.out (by have := HYL.out; omega)
  have D6 := Lib.hid (CS.out _ _ _ _ _ _ _ _ hh5 hh6)
  obtain ⟨m, hm⟩ : ∃ m, m = ys.length := ⟨_, rfl⟩
  rw [← hm] at D6 ⊢
  clear ho6 L6 X5 K5 M5 HD5 O5 hh5 hh6 hm
  go_wp2_with fail
  refine D6.out.mono ?_
  rintro e v7 ⟨rfl, k7, rfl⟩
  obtain ⟨v7, hv7⟩ : ∃ v, v = v6.drewN k7 := ⟨_, rfl⟩
  have L7 : Below v6.heap.size v6 v7 := by rw [hv7]; exact drewed _ _
  have X7 := Lib.hid (X6.out.over L7)
  have K7 := Lib.hid (K6.out.over L7)
  have M7 := Lib.hid (step M6.out L7)
  have HD7 := Lib.hid (HD6.out.over L7)
  rw [← hv7]
  clear hv7 L7 X6 K6 M6 HD6 D6
  go_wp2_with (first
    | ((with_reducible show wpList _ _ _ (⟨some 33, _, _, _, _, _⟩ :: _) _ _); refine wpList_load_want (by kernel_rfl) _ (.tmp 5) rfl h rfl _ ds X7 20 _ Tryd.underlying45 rfl size_say HDL ?_)
    | ((with_reducible show wpList _ _ _ (⟨some 34, _, _, _, _, _⟩ :: _) _ _); refine wpList_load_want (by kernel_rfl) _ (.tmp 3) rfl g rfl _ cs1 K7 20 _ Tryd.underlying45 rfl size_say HL ?_)
    | fail)
  refine (CQ.out v7 ds HD7.out (HA.out.over M7.out)).mono ?_
  rintro e v8 ⟨rfl, L8⟩
  have M8 := Lib.hid (step M7.out L8)
  clear L8 X7 K7 HD7 M7
  go_wp2_with fail
  refine (CL.out _ (HT.out.below M8.out)).mono ?_
  rintro e v9 ⟨rfl, L9⟩
  go_wp2
  go_ret
  exact ⟨rfl, step M8.out L9⟩
end Go.Proofs.YtdlcjobahdmapaaDoor
