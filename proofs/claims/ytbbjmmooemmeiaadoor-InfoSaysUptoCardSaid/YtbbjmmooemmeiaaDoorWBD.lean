import Derived.WalkKit
import Derived.Deep.Draws
import Derived.Laws.Rows
import Derived.Laws.OwnMore
import Derived.Lib.RuneBytes
import Derived.Lib.ValidLaws
import Derived.Test.YtbbjmmooemmeiaaDoorRows
import Derived.Laws.CopyOwn
import Derived.Laws.AppendOwnNone
import Derived.Lib.Hide
import Derived.Laws.AppendOwn
import Derived.OwnWalk
import Derived.Lib.OthersKept
import Derived.Laws.BytesArg
import Derived.Shelf.Utf8.AppendRunePlain
import Derived.Shelf.Unicode.ValidAny
import Derived.Test.YtbbjmmooemmeiaaDoorProg
import Derived.WalkSpells
import Derived.WalkLawsBesides
import Derived.Deep.QuietTactic
import Derived.BigQuiet
import Derived.Laws.Bits64
import Derived.Laws.BitsAllLaws
import Derived.ProofKit
import Derived.OpenShut
import Derived.ShutString
import Derived.SizedLaws
import Derived.ChangeOld
import Derived.Lib.AppendZeros
import Derived.Deep.RegionWith
import Derived.Deep.DeepCutAuto
import Derived.Great.Walk
import Derived.Laws.Tables
import Derived.Laws.NewFold
import Derived.Deep.WholeRow
import Derived.Deep.MidRow
import Derived.OneCell
import Derived.Deep.Strs
import Derived.OrdersHeld
import Derived.Laws.StructEq
import Derived.ChangeKeysEq
import Derived.Deep.RegionLaw
import Derived.Deep.OwnRows
import Derived.Test.YtbbjmmooemmeiaaDoorWAD
import Derived.Test.YtbbjmmooemmeiaaDoorWAF
import Derived.Test.YtbbjmmooemmeiaaDoorWAG
import Derived.Test.YtbbjmmooemmeiaaDoorWAH
import Derived.Test.YtbbjmmooemmeiaaDoorWAJ
import Derived.Test.YtbbjmmooemmeiaaDoorWAL
import Derived.Test.YtbbjmmooemmeiaaDoorWAM
import Derived.Test.YtbbjmmooemmeiaaDoorWAP
import Derived.Test.YtbbjmmooemmeiaaDoorWAR
import Derived.Test.YtbbjmmooemmeiaaDoorWAU
import Derived.Test.YtbbjmmooemmeiaaDoorWAX
namespace Go.Proofs.YtbbjmmooemmeiaaDoor
set_option linter.all false
open Go.RowKit
set_option linter.unusedVariables false
set_option linter.unusedSimpArgs false
set_option maxRecDepth 100000
def RISayPost (w : World) (c : Int) (a : SayV) (e : Ending) (w' : World) : Prop := ∃ v, e = .returned (.tuple #[v, .int .i64 (jpErr c a)]) ∧ Own w' w.heap.size v (jpOf c a) ∧ Below w.heap.size w w'
theorem wantIS_ok {c : Int} {s : SayV} (k : s.ok) : (wantIS c s).ok := by
  have z := zeroSay_ok
  unfold wantIS
  split
  · exact ⟨z.dia, z.siz, z.clen, z.cbyte, z.lev, z.dur, z.made, z.file, z.kind, z.data, z.n, k.ents⟩
  · split
    · exact ⟨z.dia, k.siz, z.clen, z.cbyte, z.lev, z.dur, z.made, z.file, k.kind, z.data, z.n, z.ents⟩
    · split
      · exact ⟨z.dia, z.siz, z.clen, z.cbyte, k.lev, z.dur, z.made, k.file, z.kind, z.data, z.n, z.ents⟩
      · exact z
theorem zero_stat : (Tryd.prog.info? 80).map (fun i => (i.zero, i.size)) = some (some (.agg ([.int .u8 0, .int .i64 0] : List Value).toArray), 2) := by kernel_rfl
set_option maxHeartbeats 4000000 in
theorem RIPutSay_any (w : World) (c : Int) (cs : List Value) (a : SayV) (hc : 0 ≤ c ∧ c ≤ 65535) (ka : a.ok) (ha : SayIs w w.heap.size cs a) (hlen : a.data.length ≤ 281474976710656 ∧ a.ents.length ≤ 281474976710656) (hns : ∀ e ∈ a.ents, e.name.size ≤ 4398046511104) :
    Calls Tryd.prog 18 #[.int .u16 c, .agg cs.toArray] w (RISayPost w c a) := by
  have HL := Lib.hid (ha.len ka)
  have HA := Lib.hid ha
  have CK : Hid (∀ w : World, Calls Tryd.prog 37 #[.int .u16 c] w fun e w' => e = .returned (.bool (knownI c)) ∧ w = w') := fun w => RKnownI_any w c hc
  have HE : Hid (∀ er, jpErr c a = er → er ≠ 0 → ∀ e w', e = .returned (.tuple #[.slice none 0 0, .int .i64 er]) → Below w.heap.size w w' → RISayPost w c a e w') := by
    intro er h1 h2 e w' he hb
    unfold RISayPost jpOf
    rw [h1, if_neg h2]
    exact ⟨_, he, Own.nil _ _, hb⟩
  have ZH := Lib.hid zero_say
  have ZT := Lib.hid zero_stat
  have HZ : Hid ((scells (.slice none 0 0) (.slice none 0 0) zeroSay).length = 20) := scells_len zeroSay_ok
  obtain ⟨X1, X2, X3, M1, M2, M3, hcs, hX, hM⟩ := ha
  have FC : Hid (∀ (w : World) (g : Nat), Blk w g 45 cs → w.cell? ⟨g, 17, none⟩ = some (.slice M1 M2 M3) ∧ w.cell? ⟨g, 18, none⟩ = some (.bool a.more) ∧ w.cell? ⟨g, 1, none⟩ = some (.int .u64 a.siz) ∧ w.cell? ⟨g, 14, none⟩ = some (.int .u8 a.kind) ∧ w.cell? ⟨g, 19, none⟩ = some (.bool a.gone) ∧ w.cell? ⟨g, 13, none⟩ = some (.int .u64 a.file) ∧ w.cell? ⟨g, 10, none⟩ = some (.int .u8 a.lev)) := fun w g h => by
    rw [hcs] at h
    exact ⟨h.at (scells_get ka 7), h.at (scells_get ka 8), h.at rfl, h.at (scells_get ka 4), h.at (scells_get ka 9), h.at (scells_get ka 3), h.at (scells_get ka 0)⟩
  have hml : a.ents.length = M2 := hM.len
  have hmf := hM.fit
  have hmr : M2 ≤ 281474976710656 := by rw [← hml]; exact hlen.2
  have HM := Lib.hid hM
  obtain ⟨zs, hzs⟩ : ∃ x, x = scells (.slice none 0 0) (.slice none 0 0) zeroSay := ⟨_, rfl⟩
  have HZS := Lib.hid hzs
  rw [← hzs] at ZH HZ
  clear hzs
  by_cases hk : knownI c = true
  rotate_left
  · have hkf : knownI c = false := by simpa using hk
    have hk' : c ≠ 14 ∧ c ≠ 16 ∧ c ≠ 18 := by
      refine ⟨?_, ?_, ?_⟩ <;> (rintro rfl; exact hk (by decide))
    have hks : knownIS c = false := by
      unfold knownI at hkf
      simp only [Bool.or_eq_false_iff] at hkf
      unfold knownIS
      rw [hkf.2.1, hkf.2.2]
      rfl
    have HQ := Lib.hid (HE.out 2 (by unfold jpErr nameIS; rw [hks]; rfl) (by decide))
    rw [hkf] at CK
    obtain ⟨h14, h16, h18⟩ := hk'
    have b14 : (c == 14) = false := by simpa using h14
    have b16 : (c == 16) = false := by simpa using h16
    have b18 : (c == 18) = false := by simpa using h18
    clear hk hkf hks HE HA hlen hcs hX hM h14 h16 h18 hml
    go_enter Tryd.func18, Tryd.ntmps18
    go_wp2_with (first
      | ((with_reducible show wpList _ _ _ (⟨some 3, _, _, _, _, _⟩ :: _) _ _); refine wpList_box_blk rfl _ (.tmp 1) rfl cs rfl ?_; intro g w1 hg1 hg2 K1 L1)
      | ((with_reducible show wpList _ _ _ (⟨some 6, _, _, _, _, _⟩ :: _) _ _); refine wpList_alloc_blk rfl _ rfl zs _ ZH ?_; intro h w2 hg3 hg4 Z2 L02; have K2 := Lib.hid (K1.out.over L02.out); have L2 := Lib.hid (step L1.out L02.out); obtain ⟨c17, c18, c1, c14, c19, c13, c10⟩ := FC.out w2 g K2.out; have hgh : g ≠ h := (by omega); have hwh : w.heap.size ≤ h := (by have := L1.out.size; omega))
      | fail)
    refine (CK.out _).mono ?_
    rintro e v1 ⟨rfl, rfl⟩
    go_wp2
    go_ret2
    exact HQ.out _ _ rfl L2.out
  rw [hk] at CK
  have hcc := knownI_cases hk
  by_cases h12 : c = 12
  · subst h12
    have HQ := Lib.hid (HE.out 2 (by unfold jpErr nameIS; rfl) (by decide))
    clear hk HE HA hlen hcs hX hM hml hcc
    go_enter Tryd.func18, Tryd.ntmps18
    go_wp2_with (first
      | ((with_reducible show wpList _ _ _ (⟨some 3, _, _, _, _, _⟩ :: _) _ _); refine wpList_box_blk rfl _ (.tmp 1) rfl cs rfl ?_; intro g w1 hg1 hg2 K1 L1)
      | ((with_reducible show wpList _ _ _ (⟨some 6, _, _, _, _, _⟩ :: _) _ _); refine wpList_alloc_blk rfl _ rfl zs _ ZH ?_; intro h w2 hg3 hg4 Z2 L02; have K2 := Lib.hid (K1.out.over L02.out); have L2 := Lib.hid (step L1.out L02.out); obtain ⟨c17, c18, c1, c14, c19, c13, c10⟩ := FC.out w2 g K2.out; have hgh : g ≠ h := (by omega); have hwh : w.heap.size ≤ h := (by have := L1.out.size; omega))
      | fail)
    refine (CK.out _).mono ?_
    rintro e v1 ⟨rfl, rfl⟩
    go_wp2
    go_ret2
    exact HQ.out _ _ rfl L2.out
  have hks : knownIS c = true := by
    rcases hcc with h | h | h | h | h
    · exact absurd h h12
    · rw [h]; rfl
    · rw [h]; rfl
    · rw [h]; rfl
    · rw [h]; rfl
  have hwl : (wantIS c a).data.length ≤ 281474976710656 ∧ (wantIS c a).ents.length ≤ 281474976710656 := by
    unfold wantIS
    split
    · exact ⟨Nat.zero_le _, hlen.2⟩
    · split
      · exact ⟨Nat.zero_le _, Nat.zero_le _⟩
      · split <;> exact ⟨Nat.zero_le _, Nat.zero_le _⟩
  have CS : Hid (∀ (w' : World) (ds : List Value), SayIs w' w'.heap.size ds (wantIS c a) → Below w.heap.size w w' → Calls Tryd.prog 19 #[.agg ds.toArray, .agg cs.toArray] w' fun e w2 => e = .returned (.bool (decide (wantIS c a = a))) ∧ Below w'.heap.size w' w2) := fun w' ds hds hb => Says_any w' ds cs _ a (wantIS_ok ka) ka hds (HA.out.over hb) hwl hlen
  have CU : Hid (∀ (w : World) (b : Bool), Calls Tryd.prog 41 #[.bool b] w fun e w' => e = .returned (.int .u64 (truthI b)) ∧ w = w') := RTruthI_any
  obtain ⟨l_siz, u_siz⟩ := ka.siz
  obtain ⟨l_kind, u_kind⟩ := ka.kind
  obtain ⟨l_file, u_file⟩ := ka.file
  obtain ⟨l_lev, u_lev⟩ := ka.lev
  have z_kind : IntKind.u64.wrap a.kind = a.kind := by rw [IntKind.wrap_u64]; omega
  have trm := truthI_le a.more
  obtain ⟨tm0, tm1⟩ := trm
  have trg := truthI_le a.gone
  obtain ⟨tg0, tg1⟩ := trg
  have CL2 : Hid (∀ (w' : World) (B : Nat) (v : Value) (xs : List Int) (n : Int), Own w' B v xs → xs.length ≤ 1000000 → B ≤ w'.heap.size → 0 ≤ n → n ≤ 65535 → Calls Tryd.prog 39 #[v, .int .u64 n, .int .i64 2] w' fun e w2 => ∃ v', e = .returned v' ∧ Own w2 B v' (xs ++ le n 2) ∧ Below B w' w2) := fun w' B v xs n ho hx hb h0 h1 => LayF_any w' B v xs n 2 65536 (by decide) (by decide) (by decide) ho hx hb h0 (by omega)
  have CL4 : Hid (∀ (w' : World) (B : Nat) (v : Value) (xs : List Int) (n : Int), Own w' B v xs → xs.length ≤ 1000000 → B ≤ w'.heap.size → 0 ≤ n → n ≤ 4294967295 → Calls Tryd.prog 39 #[v, .int .u64 n, .int .i64 4] w' fun e w2 => ∃ v', e = .returned v' ∧ Own w2 B v' (xs ++ le n 4) ∧ Below B w' w2) := fun w' B v xs n ho hx hb h0 h1 => LayF_any w' B v xs n 4 4294967296 (by decide) (by decide) (by decide) ho hx hb h0 (by omega)
  have CL8 : Hid (∀ (w' : World) (B : Nat) (v : Value) (xs : List Int) (n : Int), Own w' B v xs → xs.length ≤ 1000000 → B ≤ w'.heap.size → 0 ≤ n → n ≤ 18446744073709551615 → Calls Tryd.prog 39 #[v, .int .u64 n, .int .i64 8] w' fun e w2 => ∃ v', e = .returned v' ∧ Own w2 B v' (xs ++ le n 8) ∧ Below B w' w2) := fun w' B v xs n ho hx hb h0 h1 => LayF_any w' B v xs n 8 18446744073709551616 (by decide) (by decide) (by decide) ho hx hb h0 (by omega)
  have hne : wantIS c a = a ↔ nameIS c a = true := by
    unfold nameIS
    rw [hks, Bool.true_and, decide_eq_true_iff]
    exact (besideIS_want c a).symm
  have HE2 : Hid (¬ (nameIS c a = true ∧ a.kind ≤ 2 ∧ a.ents.all entOk = true) → ∀ e w', e = .returned (.tuple #[.slice none 0 0, .int .i64 2]) → Below w.heap.size w w' → RISayPost w c a e w') := fun h => HE.out 2 (by unfold jpErr; rw [if_neg h]) (by decide)
  have HQ0 : Hid (jpErr c a = 0 → ∀ v e w', e = .returned (.tuple #[v, .int .i64 0]) → Own w' w.heap.size v (bodyIS c a) → Below w.heap.size w w' → RISayPost w c a e w') := by
    intro h v e w' he hv hb
    unfold RISayPost jpOf
    rw [h, if_pos rfl]
    exact ⟨_, he, hv, hb⟩
  have HCELL : Hid (∀ (wr : World), Below w.heap.size w wr → ∀ (j : Nat) (x : EntryV), j < M2 → a.ents[j]? = some x → ∃ b off, M1 = some ⟨b, off, none⟩ ∧ wr.cell? ⟨b, off + j * 3, none⟩ = some (.string x.name) ∧ wr.cell? ⟨b, off + j * 3 + 1, none⟩ = some (.int .u8 x.kind) ∧ wr.cell? ⟨b, off + j * 3 + 2, none⟩ = some (.int .i64 x.size) ∧ wr.rangeAt b (off + j * 3 + 1) [.int .u8 x.kind, .int .i64 x.size]) := fun wr hb j x hj hx => by
    obtain ⟨b, off, h1, _, h3⟩ := (HM.out.below hb).cells (by omega)
    have h4 := h3 j x hx
    refine ⟨b, off, h1, h4 0 _ rfl, h4 1 _ rfl, h4 2 _ rfl, fun i u hi => ?_⟩
    have h5 := h4 (i + 1) u (by simpa [entryCells] using hi)
    rw [show off + j * 3 + 1 + i = off + (j * 3 + (i + 1)) from by omega]
    exact h5
  have HGET : Hid (∀ j, j < M2 → ∃ x, a.ents[j]? = some x) := fun j hj => ⟨_, List.getElem?_eq_getElem (by omega)⟩
  have HEB : Hid (∀ (j : Nat) (x : EntryV), a.ents[j]? = some x → 0 ≤ x.kind ∧ x.kind ≤ 255 ∧ -9223372036854775808 ≤ x.size ∧ x.size ≤ 9223372036854775807) := fun j x hx => by
    have h := ka.ents x (List.mem_of_getElem? hx)
    exact ⟨h.kind.1, h.kind.2, h.size.1, h.size.2⟩
  have HT2 : Hid (([.int .u8 0, .int .i64 0] : List Value).length = 2) := rfl
  clear HA hX hM hwl hlen hk hks
  have HA0 : Hid ((a.ents.take 0).all entOk = true) := by show _ = _; rw [List.take_zero]; rfl
  have HST : Hid (∀ (j : Nat) (x : EntryV), a.ents[j]? = some x → (a.ents.take j).all entOk = true → entOk x = true → (a.ents.take (j + 1)).all entOk = true) := fun j x hx h1 h2 => by
    rw [List.take_add_one, hx, Option.toList_some, List.all_append, h1]
    simp [h2]
  rcases hcc with h | h14 | h16 | h17 | h18
  · exact absurd h h12
  · subst h14
    have HWI : Hid (∀ (w' : World) (C : List Value), Hid (C = scells (.slice none 0 0) (.slice M1 M2 M3) { zeroSay with ents := a.ents, more := a.more }) → Below w.heap.size w w' → SayIs w' w'.heap.size C (wantIS 14 a)) := fun w' C hC hb => ⟨none, 0, 0, M1, M2, M3, hC.out, Holds.nil _ _, HM.out.over hb⟩
    by_cases hw : wantIS 14 a = a
    rotate_left
    · have HQ := Lib.hid (HE2.out (fun h => hw (hne.2 h.1)))
      rw [decide_eq_false hw] at CS
      clear hw hne HE HE2 HQ0 hns hcs ka h12
      go_enter Tryd.func18, Tryd.ntmps18
      go_upto_region 4 with (first
        | ((with_reducible show wpList _ _ _ (⟨some 3, _, _, _, _, _⟩ :: _) _ _); refine wpList_box_blk rfl _ (.tmp 1) rfl cs rfl ?_; intro g w1 hg1 hg2 K1 L1)
        | ((with_reducible show wpList _ _ _ (⟨some 6, _, _, _, _, _⟩ :: _) _ _); refine wpList_alloc_blk rfl _ rfl zs _ ZH ?_; intro h w2 hg3 hg4 Z2 L02; have K2 := Lib.hid (K1.out.over L02.out); have L2 := Lib.hid (step L1.out L02.out); obtain ⟨c17, c18, c1, c14, c19, c13, c10⟩ := FC.out w2 g K2.out; have hgh : g ≠ h := (by omega); have hwh : w.heap.size ≤ h := (by have := L1.out.size; omega))
        | fail)
      refine wp_region_held (S := fun w' => Blk w' g 45 cs) (by kernel_rfl) ?_
      change wpAnyH _ _ _ _ _ _ _ _ w2.drew
      have S_0 : Hid (Blk w2.drew g 45 cs) := K2.out.drew
      have Xd := Lib.hid (Blk.drew Z2.out)
      have Ld := Lib.hid (L2.out.drew)
      refine wpAnyH_take (i := 0) (v := _) rfl (by kernel_rfl) (by kernel_rfl) (by kernel_rfl) (fun _ _ _ h => h) (yieldsIf_fld (by kernel_rfl) _ (.tmp 3) 10 rfl (.pointer (some ⟨g, 0, none⟩)) (.pointer (some ⟨g, 17, none⟩)) (by kernel_rfl) (fld_isZeroSay_10 g)) S_0.out ?_
      refine wpAnyH_take (i := 1) (v := _) rfl (by kernel_rfl) (by kernel_rfl) (by kernel_rfl) (fun _ _ _ h => h) (yieldsIf_load_one (by kernel_rfl) _ (.tmp 16) rfl g 17 (by kernel_rfl) (.slice M1 M2 M3) (fun w h => (FC.out w g h).1) _ Tryd.underlying43 rfl) S_0.out ?_
      refine wpAnyH_take (i := 2) (v := _) rfl (by kernel_rfl) (by kernel_rfl) (by kernel_rfl) (fun _ _ _ h => h) (yieldsIf_fld (by kernel_rfl) _ (.tmp 3) 11 rfl (.pointer (some ⟨g, 0, none⟩)) (.pointer (some ⟨g, 18, none⟩)) (by kernel_rfl) (fld_isZeroSay_11 g)) S_0.out ?_
      refine wpAnyH_take (i := 3) (v := _) rfl (by kernel_rfl) (by kernel_rfl) (by kernel_rfl) (fun _ _ _ h => h) (yieldsIf_load_one (by kernel_rfl) _ (.tmp 18) rfl g 18 (by kernel_rfl) (.bool a.more) (fun w h => (FC.out w g h).2.1) _ Tryd.underlying4 rfl) S_0.out ?_
      refine wpAnyH_take (i := 4) (v := _) rfl (by kernel_rfl) (by kernel_rfl) (by kernel_rfl) (fun _ _ _ h => h) (yieldsIf_fld (by kernel_rfl) _ (.tmp 6) 10 rfl (.pointer (some ⟨h, 0, none⟩)) (.pointer (some ⟨h, 17, none⟩)) (by kernel_rfl) (fld_isZeroSay_10 h)) S_0.out ?_
      refine wpAnyH_frame fun fr1 hfr1 => ?_
      have ex1 : fr1.eval (.tmp 20) = .pointer (some ⟨h, 17, none⟩) := by rw [hfr1]; kernel_rfl
      have ey1 : fr1.eval (.tmp 17) = (.slice M1 M2 M3) := by rw [hfr1]; kernel_rfl
      refine wpAnyH_one 5 _ (by kernel_rfl) rfl fun K hK => ?_
      refine step_store_fld rfl _ (.tmp 20) (.tmp 17) rfl h 17 ex1 _ zs (.slice M1 M2 M3) ey1 Xd (Lib.hid (by have := HZ.out; omega)) (by kernel_rfl) rfl ?_
      intro x1 XS1 O1 hq1
      obtain ⟨C1, hC1⟩ : ∃ x, x = zs.set 17 (.slice M1 M2 M3) := ⟨_, rfl⟩
      have HC1 := Lib.hid hC1
      have HL1 : Hid (C1.length = 20) := by show _ = _; rw [hC1, List.length_set]; exact HZ.out
      rw [← hC1] at XS1
      have ST1 := Lib.hid (Blk.only S_0.out O1.out hgh)
      have LT1 := Lib.hid (below_only Ld.out O1.out hwh)
      refine hK _ _ ST1.out ?_
      clear hK K ex1 ey1 hC1
      change wpAnyH _ _ _ _ _ _ _ fr1 x1
      subst hfr1
      refine wpAnyH_take (i := 6) (v := _) rfl (by kernel_rfl) (by kernel_rfl) (by kernel_rfl) (fun _ _ _ h => h) (yieldsIf_fld (by kernel_rfl) _ (.tmp 6) 11 rfl (.pointer (some ⟨h, 0, none⟩)) (.pointer (some ⟨h, 18, none⟩)) (by kernel_rfl) (fld_isZeroSay_11 h)) ST1.out ?_
      refine wpAnyH_frame fun fr2 hfr2 => ?_
      have ex2 : fr2.eval (.tmp 21) = .pointer (some ⟨h, 18, none⟩) := by rw [hfr2]; kernel_rfl
      have ey2 : fr2.eval (.tmp 19) = (.bool a.more) := by rw [hfr2]; kernel_rfl
      refine wpAnyH_one 7 _ (by kernel_rfl) rfl fun K hK => ?_
      refine step_store_fld rfl _ (.tmp 21) (.tmp 19) rfl h 18 ex2 _ C1 (.bool a.more) ey2 XS1 (Lib.hid (by have := HL1.out; omega)) (by kernel_rfl) rfl ?_
      intro x2 XS2 O2 hq2
      obtain ⟨C2, hC2⟩ : ∃ x, x = C1.set 18 (.bool a.more) := ⟨_, rfl⟩
      have HC2 := Lib.hid hC2
      have HL2 : Hid (C2.length = 20) := by show _ = _; rw [hC2, List.length_set]; exact HL1.out
      rw [← hC2] at XS2
      have ST2 := Lib.hid (Blk.only ST1.out O2.out hgh)
      have LT2 := Lib.hid (below_only LT1.out O2.out hwh)
      refine hK _ _ ST2.out ?_
      clear hK K ex2 ey2 hC2
      change wpAnyH _ _ _ _ _ _ _ fr2 x2
      subst hfr2
      refine wpAnyH_done (by kernel_rfl) ?_ _
      go_simp
      clear c17 c18 c1 c14 c19 c13 c10
      obtain ⟨c17, c18, c1, c14, c19, c13, c10⟩ := FC.out x2 g ST2.out
      have HEQ : Hid (C2 = scells (.slice none 0 0) (.slice M1 M2 M3) { zeroSay with ents := a.ents, more := a.more }) := by
        show _ = _
        rw [HC2.out, HC1.out, HZS.out]
        rfl
      have Kd := Lib.hid ST2.out
      go_wp2_with fail
      refine (CK.out _).mono ?_
      rintro e v1 ⟨rfl, rfl⟩
      go_wp2_with (first
        | ((with_reducible show wpList _ _ _ (⟨some 49, _, _, _, _, _⟩ :: _) _ _); refine wpList_load_want (by kernel_rfl) _ (.tmp 6) rfl h rfl _ C2 XS2 20 _ Tryd.underlying45 rfl size_say HL2 ?_)
        | ((with_reducible show wpList _ _ _ (⟨some 50, _, _, _, _, _⟩ :: _) _ _); refine wpList_load_want (by kernel_rfl) _ (.tmp 3) rfl g rfl _ cs Kd 20 _ Tryd.underlying45 rfl size_say HL ?_)
        | fail)
      refine (CS.out _ C2 (HWI.out _ _ HEQ LT2.out) LT2.out).mono ?_
      rintro e w5 ⟨rfl, L05⟩
      have K5 := Lib.hid (Kd.out.over L05)
      have M5 := Lib.hid (step LT2.out L05)
      have hs5 := M5.out.size
      clear c17 c18 c1 c14 c19 c13 c10
      obtain ⟨c17, c18, c1, c14, c19, c13, c10⟩ := FC.out w5 g K5.out
      clear L05 CS CK HWI
      go_wp2
      go_ret2
      exact HQ.out _ _ rfl M5.out
    have hnm := hne.1 hw
    rw [decide_eq_true hw] at CS
    by_cases hkd : a.kind ≤ 2
    rotate_left
    · have HQ := Lib.hid (HE2.out (fun h => hkd h.2.1))
      have r1 : (2 : Int) < a.kind := by omega
      clear hw hne HE HE2 HQ0 hns hcs ka h12 hnm hkd
      go_enter Tryd.func18, Tryd.ntmps18
      go_upto_region 4 with (first
        | ((with_reducible show wpList _ _ _ (⟨some 3, _, _, _, _, _⟩ :: _) _ _); refine wpList_box_blk rfl _ (.tmp 1) rfl cs rfl ?_; intro g w1 hg1 hg2 K1 L1)
        | ((with_reducible show wpList _ _ _ (⟨some 6, _, _, _, _, _⟩ :: _) _ _); refine wpList_alloc_blk rfl _ rfl zs _ ZH ?_; intro h w2 hg3 hg4 Z2 L02; have K2 := Lib.hid (K1.out.over L02.out); have L2 := Lib.hid (step L1.out L02.out); obtain ⟨c17, c18, c1, c14, c19, c13, c10⟩ := FC.out w2 g K2.out; have hgh : g ≠ h := (by omega); have hwh : w.heap.size ≤ h := (by have := L1.out.size; omega))
        | fail)
      refine wp_region_held (S := fun w' => Blk w' g 45 cs) (by kernel_rfl) ?_
      change wpAnyH _ _ _ _ _ _ _ _ w2.drew
      have S_0 : Hid (Blk w2.drew g 45 cs) := K2.out.drew
      have Xd := Lib.hid (Blk.drew Z2.out)
      have Ld := Lib.hid (L2.out.drew)
      refine wpAnyH_take (i := 0) (v := _) rfl (by kernel_rfl) (by kernel_rfl) (by kernel_rfl) (fun _ _ _ h => h) (yieldsIf_fld (by kernel_rfl) _ (.tmp 3) 10 rfl (.pointer (some ⟨g, 0, none⟩)) (.pointer (some ⟨g, 17, none⟩)) (by kernel_rfl) (fld_isZeroSay_10 g)) S_0.out ?_
      refine wpAnyH_take (i := 1) (v := _) rfl (by kernel_rfl) (by kernel_rfl) (by kernel_rfl) (fun _ _ _ h => h) (yieldsIf_load_one (by kernel_rfl) _ (.tmp 16) rfl g 17 (by kernel_rfl) (.slice M1 M2 M3) (fun w h => (FC.out w g h).1) _ Tryd.underlying43 rfl) S_0.out ?_
      refine wpAnyH_take (i := 2) (v := _) rfl (by kernel_rfl) (by kernel_rfl) (by kernel_rfl) (fun _ _ _ h => h) (yieldsIf_fld (by kernel_rfl) _ (.tmp 3) 11 rfl (.pointer (some ⟨g, 0, none⟩)) (.pointer (some ⟨g, 18, none⟩)) (by kernel_rfl) (fld_isZeroSay_11 g)) S_0.out ?_
      refine wpAnyH_take (i := 3) (v := _) rfl (by kernel_rfl) (by kernel_rfl) (by kernel_rfl) (fun _ _ _ h => h) (yieldsIf_load_one (by kernel_rfl) _ (.tmp 18) rfl g 18 (by kernel_rfl) (.bool a.more) (fun w h => (FC.out w g h).2.1) _ Tryd.underlying4 rfl) S_0.out ?_
      refine wpAnyH_take (i := 4) (v := _) rfl (by kernel_rfl) (by kernel_rfl) (by kernel_rfl) (fun _ _ _ h => h) (yieldsIf_fld (by kernel_rfl) _ (.tmp 6) 10 rfl (.pointer (some ⟨h, 0, none⟩)) (.pointer (some ⟨h, 17, none⟩)) (by kernel_rfl) (fld_isZeroSay_10 h)) S_0.out ?_
      refine wpAnyH_frame fun fr1 hfr1 => ?_
      have ex1 : fr1.eval (.tmp 20) = .pointer (some ⟨h, 17, none⟩) := by rw [hfr1]; kernel_rfl
      have ey1 : fr1.eval (.tmp 17) = (.slice M1 M2 M3) := by rw [hfr1]; kernel_rfl
      refine wpAnyH_one 5 _ (by kernel_rfl) rfl fun K hK => ?_
      refine step_store_fld rfl _ (.tmp 20) (.tmp 17) rfl h 17 ex1 _ zs (.slice M1 M2 M3) ey1 Xd (Lib.hid (by have := HZ.out; omega)) (by kernel_rfl) rfl ?_
      intro x1 XS1 O1 hq1
      obtain ⟨C1, hC1⟩ : ∃ x, x = zs.set 17 (.slice M1 M2 M3) := ⟨_, rfl⟩
      have HC1 := Lib.hid hC1
      have HL1 : Hid (C1.length = 20) := by show _ = _; rw [hC1, List.length_set]; exact HZ.out
      rw [← hC1] at XS1
      have ST1 := Lib.hid (Blk.only S_0.out O1.out hgh)
      have LT1 := Lib.hid (below_only Ld.out O1.out hwh)
      refine hK _ _ ST1.out ?_
      clear hK K ex1 ey1 hC1
      change wpAnyH _ _ _ _ _ _ _ fr1 x1
      subst hfr1
      refine wpAnyH_take (i := 6) (v := _) rfl (by kernel_rfl) (by kernel_rfl) (by kernel_rfl) (fun _ _ _ h => h) (yieldsIf_fld (by kernel_rfl) _ (.tmp 6) 11 rfl (.pointer (some ⟨h, 0, none⟩)) (.pointer (some ⟨h, 18, none⟩)) (by kernel_rfl) (fld_isZeroSay_11 h)) ST1.out ?_
      refine wpAnyH_frame fun fr2 hfr2 => ?_
      have ex2 : fr2.eval (.tmp 21) = .pointer (some ⟨h, 18, none⟩) := by rw [hfr2]; kernel_rfl
      have ey2 : fr2.eval (.tmp 19) = (.bool a.more) := by rw [hfr2]; kernel_rfl
      refine wpAnyH_one 7 _ (by kernel_rfl) rfl fun K hK => ?_
      refine step_store_fld rfl _ (.tmp 21) (.tmp 19) rfl h 18 ex2 _ C1 (.bool a.more) ey2 XS1 (Lib.hid (by have := HL1.out; omega)) (by kernel_rfl) rfl ?_
      intro x2 XS2 O2 hq2
      obtain ⟨C2, hC2⟩ : ∃ x, x = C1.set 18 (.bool a.more) := ⟨_, rfl⟩
      have HC2 := Lib.hid hC2
      have HL2 : Hid (C2.length = 20) := by show _ = _; rw [hC2, List.length_set]; exact HL1.out
      rw [← hC2] at XS2
      have ST2 := Lib.hid (Blk.only ST1.out O2.out hgh)
      have LT2 := Lib.hid (below_only LT1.out O2.out hwh)
      refine hK _ _ ST2.out ?_
      clear hK K ex2 ey2 hC2
      change wpAnyH _ _ _ _ _ _ _ fr2 x2
      subst hfr2
      refine wpAnyH_done (by kernel_rfl) ?_ _
      go_simp
      clear c17 c18 c1 c14 c19 c13 c10
      obtain ⟨c17, c18, c1, c14, c19, c13, c10⟩ := FC.out x2 g ST2.out
      have HEQ : Hid (C2 = scells (.slice none 0 0) (.slice M1 M2 M3) { zeroSay with ents := a.ents, more := a.more }) := by
        show _ = _
        rw [HC2.out, HC1.out, HZS.out]
        rfl
      have Kd := Lib.hid ST2.out
      go_wp2_with fail
      refine (CK.out _).mono ?_
      rintro e v1 ⟨rfl, rfl⟩
      go_wp2_with (first
        | ((with_reducible show wpList _ _ _ (⟨some 49, _, _, _, _, _⟩ :: _) _ _); refine wpList_load_want (by kernel_rfl) _ (.tmp 6) rfl h rfl _ C2 XS2 20 _ Tryd.underlying45 rfl size_say HL2 ?_)
        | ((with_reducible show wpList _ _ _ (⟨some 50, _, _, _, _, _⟩ :: _) _ _); refine wpList_load_want (by kernel_rfl) _ (.tmp 3) rfl g rfl _ cs Kd 20 _ Tryd.underlying45 rfl size_say HL ?_)
        | fail)
      refine (CS.out _ C2 (HWI.out _ _ HEQ LT2.out) LT2.out).mono ?_
      rintro e w5 ⟨rfl, L05⟩
      have K5 := Lib.hid (Kd.out.over L05)
      have M5 := Lib.hid (step LT2.out L05)
      have hs5 := M5.out.size
      clear c17 c18 c1 c14 c19 c13 c10
      obtain ⟨c17, c18, c1, c14, c19, c13, c10⟩ := FC.out w5 g K5.out
      clear L05 CS CK HWI
      go_wp2
      go_ret2
      exact HQ.out _ _ rfl M5.out
    have hr1 : ¬ (2 : Int) < a.kind := by omega
    by_cases hall : a.ents.all entOk = true
    rotate_left
    · have HQ := Lib.hid (HE2.out (fun h => hall h.2.2))
      have HBAD : Hid ((a.ents.take M2).all entOk = true → False) := fun h => by rw [← hml, List.take_length] at h; exact hall h
      clear hw hne HE HE2 HQ0 hns hcs ka h12 hnm hkd hall hml
      go_enter Tryd.func18, Tryd.ntmps18
      go_upto_region 4 with (first
        | ((with_reducible show wpList _ _ _ (⟨some 3, _, _, _, _, _⟩ :: _) _ _); refine wpList_box_blk rfl _ (.tmp 1) rfl cs rfl ?_; intro g w1 hg1 hg2 K1 L1)
        | ((with_reducible show wpList _ _ _ (⟨some 6, _, _, _, _, _⟩ :: _) _ _); refine wpList_alloc_blk rfl _ rfl zs _ ZH ?_; intro h w2 hg3 hg4 Z2 L02; have K2 := Lib.hid (K1.out.over L02.out); have L2 := Lib.hid (step L1.out L02.out); obtain ⟨c17, c18, c1, c14, c19, c13, c10⟩ := FC.out w2 g K2.out; have hgh : g ≠ h := (by omega); have hwh : w.heap.size ≤ h := (by have := L1.out.size; omega))
        | fail)
      refine wp_region_held (S := fun w' => Blk w' g 45 cs) (by kernel_rfl) ?_
      change wpAnyH _ _ _ _ _ _ _ _ w2.drew
      have S_0 : Hid (Blk w2.drew g 45 cs) := K2.out.drew
      have Xd := Lib.hid (Blk.drew Z2.out)
      have Ld := Lib.hid (L2.out.drew)
      refine wpAnyH_take (i := 0) (v := _) rfl (by kernel_rfl) (by kernel_rfl) (by kernel_rfl) (fun _ _ _ h => h) (yieldsIf_fld (by kernel_rfl) _ (.tmp 3) 10 rfl (.pointer (some ⟨g, 0, none⟩)) (.pointer (some ⟨g, 17, none⟩)) (by kernel_rfl) (fld_isZeroSay_10 g)) S_0.out ?_
      refine wpAnyH_take (i := 1) (v := _) rfl (by kernel_rfl) (by kernel_rfl) (by kernel_rfl) (fun _ _ _ h => h) (yieldsIf_load_one (by kernel_rfl) _ (.tmp 16) rfl g 17 (by kernel_rfl) (.slice M1 M2 M3) (fun w h => (FC.out w g h).1) _ Tryd.underlying43 rfl) S_0.out ?_
      refine wpAnyH_take (i := 2) (v := _) rfl (by kernel_rfl) (by kernel_rfl) (by kernel_rfl) (fun _ _ _ h => h) (yieldsIf_fld (by kernel_rfl) _ (.tmp 3) 11 rfl (.pointer (some ⟨g, 0, none⟩)) (.pointer (some ⟨g, 18, none⟩)) (by kernel_rfl) (fld_isZeroSay_11 g)) S_0.out ?_
      refine wpAnyH_take (i := 3) (v := _) rfl (by kernel_rfl) (by kernel_rfl) (by kernel_rfl) (fun _ _ _ h => h) (yieldsIf_load_one (by kernel_rfl) _ (.tmp 18) rfl g 18 (by kernel_rfl) (.bool a.more) (fun w h => (FC.out w g h).2.1) _ Tryd.underlying4 rfl) S_0.out ?_
      refine wpAnyH_take (i := 4) (v := _) rfl (by kernel_rfl) (by kernel_rfl) (by kernel_rfl) (fun _ _ _ h => h) (yieldsIf_fld (by kernel_rfl) _ (.tmp 6) 10 rfl (.pointer (some ⟨h, 0, none⟩)) (.pointer (some ⟨h, 17, none⟩)) (by kernel_rfl) (fld_isZeroSay_10 h)) S_0.out ?_
      refine wpAnyH_frame fun fr1 hfr1 => ?_
      have ex1 : fr1.eval (.tmp 20) = .pointer (some ⟨h, 17, none⟩) := by rw [hfr1]; kernel_rfl
      have ey1 : fr1.eval (.tmp 17) = (.slice M1 M2 M3) := by rw [hfr1]; kernel_rfl
      refine wpAnyH_one 5 _ (by kernel_rfl) rfl fun K hK => ?_
      refine step_store_fld rfl _ (.tmp 20) (.tmp 17) rfl h 17 ex1 _ zs (.slice M1 M2 M3) ey1 Xd (Lib.hid (by have := HZ.out; omega)) (by kernel_rfl) rfl ?_
      intro x1 XS1 O1 hq1
      obtain ⟨C1, hC1⟩ : ∃ x, x = zs.set 17 (.slice M1 M2 M3) := ⟨_, rfl⟩
      have HC1 := Lib.hid hC1
      have HL1 : Hid (C1.length = 20) := by show _ = _; rw [hC1, List.length_set]; exact HZ.out
      rw [← hC1] at XS1
      have ST1 := Lib.hid (Blk.only S_0.out O1.out hgh)
      have LT1 := Lib.hid (below_only Ld.out O1.out hwh)
      refine hK _ _ ST1.out ?_
      clear hK K ex1 ey1 hC1
      change wpAnyH _ _ _ _ _ _ _ fr1 x1
      subst hfr1
      refine wpAnyH_take (i := 6) (v := _) rfl (by kernel_rfl) (by kernel_rfl) (by kernel_rfl) (fun _ _ _ h => h) (yieldsIf_fld (by kernel_rfl) _ (.tmp 6) 11 rfl (.pointer (some ⟨h, 0, none⟩)) (.pointer (some ⟨h, 18, none⟩)) (by kernel_rfl) (fld_isZeroSay_11 h)) ST1.out ?_
      refine wpAnyH_frame fun fr2 hfr2 => ?_
      have ex2 : fr2.eval (.tmp 21) = .pointer (some ⟨h, 18, none⟩) := by rw [hfr2]; kernel_rfl
      have ey2 : fr2.eval (.tmp 19) = (.bool a.more) := by rw [hfr2]; kernel_rfl
      refine wpAnyH_one 7 _ (by kernel_rfl) rfl fun K hK => ?_
      refine step_store_fld rfl _ (.tmp 21) (.tmp 19) rfl h 18 ex2 _ C1 (.bool a.more) ey2 XS1 (Lib.hid (by have := HL1.out; omega)) (by kernel_rfl) rfl ?_
      intro x2 XS2 O2 hq2
      obtain ⟨C2, hC2⟩ : ∃ x, x = C1.set 18 (.bool a.more) := ⟨_, rfl⟩
      have HC2 := Lib.hid hC2
      have HL2 : Hid (C2.length = 20) := by show _ = _; rw [hC2, List.length_set]; exact HL1.out
      rw [← hC2] at XS2
      have ST2 := Lib.hid (Blk.only ST1.out O2.out hgh)
      have LT2 := Lib.hid (below_only LT1.out O2.out hwh)
      refine hK _ _ ST2.out ?_
      clear hK K ex2 ey2 hC2
      change wpAnyH _ _ _ _ _ _ _ fr2 x2
      subst hfr2
      refine wpAnyH_done (by kernel_rfl) ?_ _
      go_simp
      clear c17 c18 c1 c14 c19 c13 c10
      obtain ⟨c17, c18, c1, c14, c19, c13, c10⟩ := FC.out x2 g ST2.out
      have HEQ : Hid (C2 = scells (.slice none 0 0) (.slice M1 M2 M3) { zeroSay with ents := a.ents, more := a.more }) := by
        show _ = _
        rw [HC2.out, HC1.out, HZS.out]
        rfl
      have Kd := Lib.hid ST2.out
      go_wp2_with fail
      refine (CK.out _).mono ?_
      rintro e v1 ⟨rfl, rfl⟩
      go_wp2_with (first
        | ((with_reducible show wpList _ _ _ (⟨some 49, _, _, _, _, _⟩ :: _) _ _); refine wpList_load_want (by kernel_rfl) _ (.tmp 6) rfl h rfl _ C2 XS2 20 _ Tryd.underlying45 rfl size_say HL2 ?_)
        | ((with_reducible show wpList _ _ _ (⟨some 50, _, _, _, _, _⟩ :: _) _ _); refine wpList_load_want (by kernel_rfl) _ (.tmp 3) rfl g rfl _ cs Kd 20 _ Tryd.underlying45 rfl size_say HL ?_)
        | fail)
      refine (CS.out _ C2 (HWI.out _ _ HEQ LT2.out) LT2.out).mono ?_
      rintro e w5 ⟨rfl, L05⟩
      have K5 := Lib.hid (Kd.out.over L05)
      have M5 := Lib.hid (step LT2.out L05)
      have hs5 := M5.out.size
      clear c17 c18 c1 c14 c19 c13 c10
      obtain ⟨c17, c18, c1, c14, c19, c13, c10⟩ := FC.out w5 g K5.out
      clear L05 CS CK HWI
      have hg5' : g < w5.heap.size := K5.out.lt
      go_wp2
      go_loopw [7] (fun i wr => ∃ j : Nat, i = .int .i64 j ∧ j ≤ M2 ∧ Hid ((a.ents.take j).all entOk = true) ∧ Hid (Below w5.heap.size w5 wr)) (fun i _ => M2 - (intOf i).toNat)
      case atStart => exact ⟨0, rfl, Nat.zero_le _, HA0.out, Below.refl _ _⟩
      case round =>
        obtain ⟨j, rfl, hj, HS, NR⟩ := hrel
        clear c17 c18 c1 c14 c19 c13 c10
        have KR := Lib.hid (K5.out.below NR.out hg5')
        obtain ⟨c17, c18, c1, c14, c19, c13, c10⟩ := FC.out wr g KR.out
        by_cases hlt : j < M2
        · obtain ⟨x, hx⟩ := HGET.out j hlt
          have MR := Lib.hid (M5.out.trans (NR.out.mono hs5))
          obtain ⟨b, off, rfl, k0, k1, k2, k3⟩ := HCELL.out wr MR.out j x hlt hx
          obtain ⟨eb0, eb1, eb2, eb3⟩ := HEB.out j x hx
          have R3 := Lib.hid k3
          have HXL : Hid (([.int .u8 x.kind, .int .i64 x.size] : List Value).length = 2) := rfl
          have HX1 : Hid (∀ v ∈ ([.int .u8 x.kind, .int .i64 x.size] : List Value), v.oneCell' = true) := by
            intro v hv
            simp only [List.mem_cons, List.not_mem_nil, or_false] at hv
            rcases hv with rfl | rfl <;> rfl
          have hrs := NR.out.size
          have HS3 := Lib.hid (HST.out j x hx HS.out)
          clear hx k3
          by_cases q1 : x.kind ≤ 2
          · have r1 : ¬ (2 : Int) < x.kind := by omega
            by_cases q2 : 0 ≤ x.size
            · have r2 : ¬ x.size < 0 := by omega
              by_cases q3 : x.size ≤ 1048576
              · have r3 : ¬ (1048576 : Int) < x.size := by omega
                have HS2 := Lib.hid (HS3.out (by unfold entOk; rw [decide_eq_true q1, decide_eq_true q2, decide_eq_true q3]; rfl))
                clear HS3
                go_wp2_with (first
                  | ((with_reducible show wpList _ _ _ (⟨some 71, _, _, _, _, _⟩ :: _) _ _); refine wpList_load_midu rfl _ (.tmp 70) rfl b (off + j * 3 + 1) rfl [.int .u8 x.kind, .int .i64 x.size] _ R3 Tryd.underlying80 rfl 2 size_stat HXL ?_)
                  | ((with_reducible show wpList _ _ _ (⟨some 8, _, _, _, _, _⟩ :: _) _ _); refine wpList_alloc_blk rfl _ rfl _ _ ZT ?_; intro t y1 ht1 ht2 T1 P1; have NA := Lib.hid (NR.out.trans (P1.out.mono hrs)))
                  | ((with_reducible show wpList _ _ _ (⟨none, .store _ (.tmp 8) _, _, _, _, _⟩ :: _) _ _); refine wpList_store_blk rfl _ (.tmp 8) (.tmp 71) rfl t rfl _ ([.int .u8 0, .int .i64 0] : List Value) ([.int .u8 x.kind, .int .i64 x.size] : List Value) rfl T1 2 size_stat HT2 HXL HX1 ?_; intro y2 T2 O2 ht3; have NB := Lib.hid (NA.out.trans (O2.out.below (by omega))); have d0 : y2.cell? ⟨t, 0, none⟩ = some (.int .u8 x.kind) := T2.out.at rfl; have d1 : y2.cell? ⟨t, 1, none⟩ = some (.int .i64 x.size) := T2.out.at rfl)
                  | fail)
                go_roundw
                case rel => exact ⟨j + 1, by simp, by omega, HS2, NB⟩
                case measure => simp [intOf]; omega
              · have r3 : (1048576 : Int) < x.size := by omega
                clear HS3
                go_wp2_with (first
                  | ((with_reducible show wpList _ _ _ (⟨some 71, _, _, _, _, _⟩ :: _) _ _); refine wpList_load_midu rfl _ (.tmp 70) rfl b (off + j * 3 + 1) rfl [.int .u8 x.kind, .int .i64 x.size] _ R3 Tryd.underlying80 rfl 2 size_stat HXL ?_)
                  | ((with_reducible show wpList _ _ _ (⟨some 8, _, _, _, _, _⟩ :: _) _ _); refine wpList_alloc_blk rfl _ rfl _ _ ZT ?_; intro t y1 ht1 ht2 T1 P1; have NA := Lib.hid (NR.out.trans (P1.out.mono hrs)))
                  | ((with_reducible show wpList _ _ _ (⟨none, .store _ (.tmp 8) _, _, _, _, _⟩ :: _) _ _); refine wpList_store_blk rfl _ (.tmp 8) (.tmp 71) rfl t rfl _ ([.int .u8 0, .int .i64 0] : List Value) ([.int .u8 x.kind, .int .i64 x.size] : List Value) rfl T1 2 size_stat HT2 HXL HX1 ?_; intro y2 T2 O2 ht3; have NB := Lib.hid (NA.out.trans (O2.out.below (by omega))); have d0 : y2.cell? ⟨t, 0, none⟩ = some (.int .u8 x.kind) := T2.out.at rfl; have d1 : y2.cell? ⟨t, 1, none⟩ = some (.int .i64 x.size) := T2.out.at rfl)
                  | fail)
                go_wp2
                go_ret2
                exact HQ.out _ _ rfl (M5.out.trans (NB.out.mono hs5))
            · have r2 : x.size < 0 := by omega
              clear HS3
              go_wp2_with (first
                | ((with_reducible show wpList _ _ _ (⟨some 71, _, _, _, _, _⟩ :: _) _ _); refine wpList_load_midu rfl _ (.tmp 70) rfl b (off + j * 3 + 1) rfl [.int .u8 x.kind, .int .i64 x.size] _ R3 Tryd.underlying80 rfl 2 size_stat HXL ?_)
                | ((with_reducible show wpList _ _ _ (⟨some 8, _, _, _, _, _⟩ :: _) _ _); refine wpList_alloc_blk rfl _ rfl _ _ ZT ?_; intro t y1 ht1 ht2 T1 P1; have NA := Lib.hid (NR.out.trans (P1.out.mono hrs)))
                | ((with_reducible show wpList _ _ _ (⟨none, .store _ (.tmp 8) _, _, _, _, _⟩ :: _) _ _); refine wpList_store_blk rfl _ (.tmp 8) (.tmp 71) rfl t rfl _ ([.int .u8 0, .int .i64 0] : List Value) ([.int .u8 x.kind, .int .i64 x.size] : List Value) rfl T1 2 size_stat HT2 HXL HX1 ?_; intro y2 T2 O2 ht3; have NB := Lib.hid (NA.out.trans (O2.out.below (by omega))); have d0 : y2.cell? ⟨t, 0, none⟩ = some (.int .u8 x.kind) := T2.out.at rfl; have d1 : y2.cell? ⟨t, 1, none⟩ = some (.int .i64 x.size) := T2.out.at rfl)
                | fail)
              go_wp2
              go_ret2
              exact HQ.out _ _ rfl (M5.out.trans (NB.out.mono hs5))
          · have r1 : (2 : Int) < x.kind := by omega
            clear HS3
            go_wp2_with (first
              | ((with_reducible show wpList _ _ _ (⟨some 71, _, _, _, _, _⟩ :: _) _ _); refine wpList_load_midu rfl _ (.tmp 70) rfl b (off + j * 3 + 1) rfl [.int .u8 x.kind, .int .i64 x.size] _ R3 Tryd.underlying80 rfl 2 size_stat HXL ?_)
              | ((with_reducible show wpList _ _ _ (⟨some 8, _, _, _, _, _⟩ :: _) _ _); refine wpList_alloc_blk rfl _ rfl _ _ ZT ?_; intro t y1 ht1 ht2 T1 P1; have NA := Lib.hid (NR.out.trans (P1.out.mono hrs)))
              | ((with_reducible show wpList _ _ _ (⟨none, .store _ (.tmp 8) _, _, _, _, _⟩ :: _) _ _); refine wpList_store_blk rfl _ (.tmp 8) (.tmp 71) rfl t rfl _ ([.int .u8 0, .int .i64 0] : List Value) ([.int .u8 x.kind, .int .i64 x.size] : List Value) rfl T1 2 size_stat HT2 HXL HX1 ?_; intro y2 T2 O2 ht3; have NB := Lib.hid (NA.out.trans (O2.out.below (by omega))); have d0 : y2.cell? ⟨t, 0, none⟩ = some (.int .u8 x.kind) := T2.out.at rfl; have d1 : y2.cell? ⟨t, 1, none⟩ = some (.int .i64 x.size) := T2.out.at rfl)
              | fail)
            go_wp2
            go_ret2
            exact HQ.out _ _ rfl (M5.out.trans (NB.out.mono hs5))
        · obtain rfl : j = M2 := by omega
          exact absurd (HBAD.out HS.out) id
    have HOK : Hid (∀ (j : Nat) (x : EntryV), a.ents[j]? = some x → ¬ (2 : Int) < x.kind ∧ ¬ x.size < 0 ∧ ¬ (1048576 : Int) < x.size) := fun j x hx => by
      have h := List.all_eq_true.1 hall x (List.mem_of_getElem? hx)
      unfold entOk at h
      simp only [Bool.and_eq_true, decide_eq_true_eq] at h
      obtain ⟨h1, h2, h3⟩ := h
      exact ⟨by omega, by omega, by omega⟩
    have HST2 := HST
    clear HST
    have HST : Hid (∀ (j : Nat) (x : EntryV), a.ents[j]? = some x → (a.ents.take j).all entOk = true → (a.ents.take (j + 1)).all entOk = true) := fun j x hx h => HST2.out j x hx h (List.all_eq_true.1 hall x (List.mem_of_getElem? hx))
    have hpos : nameIS 14 a = true ∧ a.kind ≤ 2 ∧ a.ents.all entOk = true := ⟨hnm, hkd, hall⟩
    by_cases hlen : M2 ≤ 64
    rotate_left
    · have HQ := Lib.hid (HE.out 3 (by unfold jpErr; rw [if_pos hpos, hml, if_neg hlen]) (by decide))
      have r2 : (64 : Int) < (M2 : Int) := by omega
      clear hw hne HE HE2 HQ0 hns hcs ka h12 hnm hkd hall hml hpos HST2
      go_enter Tryd.func18, Tryd.ntmps18
      go_upto_region 4 with (first
        | ((with_reducible show wpList _ _ _ (⟨some 3, _, _, _, _, _⟩ :: _) _ _); refine wpList_box_blk rfl _ (.tmp 1) rfl cs rfl ?_; intro g w1 hg1 hg2 K1 L1)
        | ((with_reducible show wpList _ _ _ (⟨some 6, _, _, _, _, _⟩ :: _) _ _); refine wpList_alloc_blk rfl _ rfl zs _ ZH ?_; intro h w2 hg3 hg4 Z2 L02; have K2 := Lib.hid (K1.out.over L02.out); have L2 := Lib.hid (step L1.out L02.out); obtain ⟨c17, c18, c1, c14, c19, c13, c10⟩ := FC.out w2 g K2.out; have hgh : g ≠ h := (by omega); have hwh : w.heap.size ≤ h := (by have := L1.out.size; omega))
        | fail)
      refine wp_region_held (S := fun w' => Blk w' g 45 cs) (by kernel_rfl) ?_
      change wpAnyH _ _ _ _ _ _ _ _ w2.drew
      have S_0 : Hid (Blk w2.drew g 45 cs) := K2.out.drew
      have Xd := Lib.hid (Blk.drew Z2.out)
      have Ld := Lib.hid (L2.out.drew)
      refine wpAnyH_take (i := 0) (v := _) rfl (by kernel_rfl) (by kernel_rfl) (by kernel_rfl) (fun _ _ _ h => h) (yieldsIf_fld (by kernel_rfl) _ (.tmp 3) 10 rfl (.pointer (some ⟨g, 0, none⟩)) (.pointer (some ⟨g, 17, none⟩)) (by kernel_rfl) (fld_isZeroSay_10 g)) S_0.out ?_
      refine wpAnyH_take (i := 1) (v := _) rfl (by kernel_rfl) (by kernel_rfl) (by kernel_rfl) (fun _ _ _ h => h) (yieldsIf_load_one (by kernel_rfl) _ (.tmp 16) rfl g 17 (by kernel_rfl) (.slice M1 M2 M3) (fun w h => (FC.out w g h).1) _ Tryd.underlying43 rfl) S_0.out ?_
      refine wpAnyH_take (i := 2) (v := _) rfl (by kernel_rfl) (by kernel_rfl) (by kernel_rfl) (fun _ _ _ h => h) (yieldsIf_fld (by kernel_rfl) _ (.tmp 3) 11 rfl (.pointer (some ⟨g, 0, none⟩)) (.pointer (some ⟨g, 18, none⟩)) (by kernel_rfl) (fld_isZeroSay_11 g)) S_0.out ?_
      refine wpAnyH_take (i := 3) (v := _) rfl (by kernel_rfl) (by kernel_rfl) (by kernel_rfl) (fun _ _ _ h => h) (yieldsIf_load_one (by kernel_rfl) _ (.tmp 18) rfl g 18 (by kernel_rfl) (.bool a.more) (fun w h => (FC.out w g h).2.1) _ Tryd.underlying4 rfl) S_0.out ?_
      refine wpAnyH_take (i := 4) (v := _) rfl (by kernel_rfl) (by kernel_rfl) (by kernel_rfl) (fun _ _ _ h => h) (yieldsIf_fld (by kernel_rfl) _ (.tmp 6) 10 rfl (.pointer (some ⟨h, 0, none⟩)) (.pointer (some ⟨h, 17, none⟩)) (by kernel_rfl) (fld_isZeroSay_10 h)) S_0.out ?_
      refine wpAnyH_frame fun fr1 hfr1 => ?_
      have ex1 : fr1.eval (.tmp 20) = .pointer (some ⟨h, 17, none⟩) := by rw [hfr1]; kernel_rfl
      have ey1 : fr1.eval (.tmp 17) = (.slice M1 M2 M3) := by rw [hfr1]; kernel_rfl
      refine wpAnyH_one 5 _ (by kernel_rfl) rfl fun K hK => ?_
      refine step_store_fld rfl _ (.tmp 20) (.tmp 17) rfl h 17 ex1 _ zs (.slice M1 M2 M3) ey1 Xd (Lib.hid (by have := HZ.out; omega)) (by kernel_rfl) rfl ?_
      intro x1 XS1 O1 hq1
      obtain ⟨C1, hC1⟩ : ∃ x, x = zs.set 17 (.slice M1 M2 M3) := ⟨_, rfl⟩
      have HC1 := Lib.hid hC1
      have HL1 : Hid (C1.length = 20) := by show _ = _; rw [hC1, List.length_set]; exact HZ.out
      rw [← hC1] at XS1
      have ST1 := Lib.hid (Blk.only S_0.out O1.out hgh)
      have LT1 := Lib.hid (below_only Ld.out O1.out hwh)
      refine hK _ _ ST1.out ?_
      clear hK K ex1 ey1 hC1
      change wpAnyH _ _ _ _ _ _ _ fr1 x1
      subst hfr1
      refine wpAnyH_take (i := 6) (v := _) rfl (by kernel_rfl) (by kernel_rfl) (by kernel_rfl) (fun _ _ _ h => h) (yieldsIf_fld (by kernel_rfl) _ (.tmp 6) 11 rfl (.pointer (some ⟨h, 0, none⟩)) (.pointer (some ⟨h, 18, none⟩)) (by kernel_rfl) (fld_isZeroSay_11 h)) ST1.out ?_
      refine wpAnyH_frame fun fr2 hfr2 => ?_
      have ex2 : fr2.eval (.tmp 21) = .pointer (some ⟨h, 18, none⟩) := by rw [hfr2]; kernel_rfl
      have ey2 : fr2.eval (.tmp 19) = (.bool a.more) := by rw [hfr2]; kernel_rfl
      refine wpAnyH_one 7 _ (by kernel_rfl) rfl fun K hK => ?_
      refine step_store_fld rfl _ (.tmp 21) (.tmp 19) rfl h 18 ex2 _ C1 (.bool a.more) ey2 XS1 (Lib.hid (by have := HL1.out; omega)) (by kernel_rfl) rfl ?_
      intro x2 XS2 O2 hq2
      obtain ⟨C2, hC2⟩ : ∃ x, x = C1.set 18 (.bool a.more) := ⟨_, rfl⟩
      have HC2 := Lib.hid hC2
      have HL2 : Hid (C2.length = 20) := by show _ = _; rw [hC2, List.length_set]; exact HL1.out
      rw [← hC2] at XS2
      have ST2 := Lib.hid (Blk.only ST1.out O2.out hgh)
      have LT2 := Lib.hid (below_only LT1.out O2.out hwh)
      refine hK _ _ ST2.out ?_
      clear hK K ex2 ey2 hC2
      change wpAnyH _ _ _ _ _ _ _ fr2 x2
      subst hfr2
      refine wpAnyH_done (by kernel_rfl) ?_ _
      go_simp
      clear c17 c18 c1 c14 c19 c13 c10
      obtain ⟨c17, c18, c1, c14, c19, c13, c10⟩ := FC.out x2 g ST2.out
      have HEQ : Hid (C2 = scells (.slice none 0 0) (.slice M1 M2 M3) { zeroSay with ents := a.ents, more := a.more }) := by
        show _ = _
        rw [HC2.out, HC1.out, HZS.out]
        rfl
      have Kd := Lib.hid ST2.out
      go_wp2_with fail
      refine (CK.out _).mono ?_
      rintro e v1 ⟨rfl, rfl⟩
      go_wp2_with (first
        | ((with_reducible show wpList _ _ _ (⟨some 49, _, _, _, _, _⟩ :: _) _ _); refine wpList_load_want (by kernel_rfl) _ (.tmp 6) rfl h rfl _ C2 XS2 20 _ Tryd.underlying45 rfl size_say HL2 ?_)
        | ((with_reducible show wpList _ _ _ (⟨some 50, _, _, _, _, _⟩ :: _) _ _); refine wpList_load_want (by kernel_rfl) _ (.tmp 3) rfl g rfl _ cs Kd 20 _ Tryd.underlying45 rfl size_say HL ?_)
        | fail)
      refine (CS.out _ C2 (HWI.out _ _ HEQ LT2.out) LT2.out).mono ?_
      rintro e w5 ⟨rfl, L05⟩
      have K5 := Lib.hid (Kd.out.over L05)
      have M5 := Lib.hid (step LT2.out L05)
      have hs5 := M5.out.size
      clear c17 c18 c1 c14 c19 c13 c10
      obtain ⟨c17, c18, c1, c14, c19, c13, c10⟩ := FC.out w5 g K5.out
      clear L05 CS CK HWI
      have hg5' : g < w5.heap.size := K5.out.lt
      go_wp2
      go_loopw [7] (fun i wr => ∃ j : Nat, i = .int .i64 j ∧ j ≤ M2 ∧ Hid ((a.ents.take j).all entOk = true) ∧ Hid (Below w5.heap.size w5 wr)) (fun i _ => M2 - (intOf i).toNat)
      case atStart => exact ⟨0, rfl, Nat.zero_le _, HA0.out, Below.refl _ _⟩
      case round =>
        obtain ⟨j, rfl, hj, HS, NR⟩ := hrel
        clear c17 c18 c1 c14 c19 c13 c10
        have KR := Lib.hid (K5.out.below NR.out hg5')
        obtain ⟨c17, c18, c1, c14, c19, c13, c10⟩ := FC.out wr g KR.out
        by_cases hlt : j < M2
        · obtain ⟨x, hx⟩ := HGET.out j hlt
          have MR := Lib.hid (M5.out.trans (NR.out.mono hs5))
          obtain ⟨b, off, rfl, k0, k1, k2, k3⟩ := HCELL.out wr MR.out j x hlt hx
          obtain ⟨eb0, eb1, eb2, eb3⟩ := HEB.out j x hx
          have R3 := Lib.hid k3
          have HXL : Hid (([.int .u8 x.kind, .int .i64 x.size] : List Value).length = 2) := rfl
          have HX1 : Hid (∀ v ∈ ([.int .u8 x.kind, .int .i64 x.size] : List Value), v.oneCell' = true) := by
            intro v hv
            simp only [List.mem_cons, List.not_mem_nil, or_false] at hv
            rcases hv with rfl | rfl <;> rfl
          have hrs := NR.out.size
          have hok := HOK.out j x hx
          obtain ⟨q1, q2, q3⟩ := hok
          have HS2 := Lib.hid (HST.out j x hx HS.out)
          clear hx k3
          go_wp2_with (first
            | ((with_reducible show wpList _ _ _ (⟨some 71, _, _, _, _, _⟩ :: _) _ _); refine wpList_load_midu rfl _ (.tmp 70) rfl b (off + j * 3 + 1) rfl [.int .u8 x.kind, .int .i64 x.size] _ R3 Tryd.underlying80 rfl 2 size_stat HXL ?_)
            | ((with_reducible show wpList _ _ _ (⟨some 8, _, _, _, _, _⟩ :: _) _ _); refine wpList_alloc_blk rfl _ rfl _ _ ZT ?_; intro t y1 ht1 ht2 T1 P1; have NA := Lib.hid (NR.out.trans (P1.out.mono hrs)))
            | ((with_reducible show wpList _ _ _ (⟨none, .store _ (.tmp 8) _, _, _, _, _⟩ :: _) _ _); refine wpList_store_blk rfl _ (.tmp 8) (.tmp 71) rfl t rfl _ ([.int .u8 0, .int .i64 0] : List Value) ([.int .u8 x.kind, .int .i64 x.size] : List Value) rfl T1 2 size_stat HT2 HXL HX1 ?_; intro y2 T2 O2 ht3; have NB := Lib.hid (NA.out.trans (O2.out.below (by omega))); have d0 : y2.cell? ⟨t, 0, none⟩ = some (.int .u8 x.kind) := T2.out.at rfl; have d1 : y2.cell? ⟨t, 1, none⟩ = some (.int .i64 x.size) := T2.out.at rfl)
            | fail)
          go_roundw
          case rel => exact ⟨j + 1, by simp, by omega, HS2, NB⟩
          case measure => simp [intOf]; omega
        · obtain rfl : M2 = j := by omega
          go_wp2
          go_ret2
          exact HQ.out _ _ rfl (M5.out.trans (NR.out.mono hs5))
    have r2 : ¬ (64 : Int) < (M2 : Int) := by omega
    have z_m : IntKind.u64.wrap (M2 : Int) = (M2 : Int) := by rw [IntKind.wrap_u64]; omega
    obtain ⟨PRE, hPRE⟩ : ∃ f : Nat → List Int, f = fun j => (([] ++ le (M2 : Int) 2) ++ le (truthI a.more) 2) ++ entriesB (a.ents.take j) := ⟨_, rfl⟩
    have HP0 : Hid (PRE 0 = ([] ++ le (M2 : Int) 2) ++ le (truthI a.more) 2) := by show _ = _; rw [hPRE]; show _ ++ entriesB (a.ents.take 0) = _; rw [List.take_zero]; exact List.append_nil _
    have HPS : Hid (∀ (j : Nat) (x : EntryV), a.ents[j]? = some x → entsErr (a.ents.take j) = 0 → (((PRE j ++ le x.kind 2) ++ le 0 2) ++ le x.size 8 ++ textsB [x.name] = PRE (j + 1)) ∧ (textsErr [x.name] = 0 → entsErr (a.ents.take (j + 1)) = 0) ∧ (textsErr [x.name] ≠ 0 → jpErr 14 a = textsErr [x.name])) := fun j x hx he => by
      have e1 : a.ents.take (j + 1) = a.ents.take j ++ [x] := by rw [List.take_add_one, hx]; rfl
      have e2 : textsErr [x.name] = ptextErr x.name.data.toList := by show (if _ then (0 : Int) else _) = _; split; (rename_i h; exact h.symm); rfl
      have e3 : entsErr [x] = ptextErr x.name.data.toList := by show (if _ then (0 : Int) else _) = _; split; (rename_i h; exact h.symm); rfl
      refine ⟨?_, fun h => ?_, fun h => ?_⟩
      · rw [hPRE]
        show (((((([] ++ le (M2 : Int) 2) ++ le (truthI a.more) 2) ++ entriesB (a.ents.take j)) ++ le x.kind 2) ++ le 0 2) ++ le x.size 8) ++ textsB [x.name] = (([] ++ le (M2 : Int) 2) ++ le (truthI a.more) 2) ++ entriesB (a.ents.take (j + 1))
        rw [e1, entriesB_app, show le 0 2 = List.replicate 2 0 from rfl]
        simp only [entriesB, entryB, textsB, List.append_assoc, List.append_nil]
      · rw [e1, entsErr_app, if_pos he, e3, ← e2]; exact h
      · have hlt := (List.getElem?_eq_some_iff.1 hx).1
        have e4 : a.ents = a.ents.take j ++ (x :: a.ents.drop (j + 1)) := by
          have h3 := (List.getElem?_eq_some_iff.1 hx).2
          rw [← h3, ← List.drop_eq_getElem_cons hlt, List.take_append_drop]
        have e5 : entsErr a.ents = ptextErr x.name.data.toList := by
          rw [e4, entsErr_app, if_pos he]
          show (if _ then _ else _) = _
          rw [if_neg (by rw [← e2]; exact h)]
        unfold jpErr
        rw [if_pos hpos, hml, if_pos hlen, if_pos rfl, e5, e2]
    have HPN : Hid (PRE M2 = bodyIS 14 a ∧ (entsErr (a.ents.take M2) = 0 → jpErr 14 a = 0)) := by
      have h1 : a.ents.take M2 = a.ents := by rw [← hml, List.take_length]
      refine ⟨?_, fun h => ?_⟩
      · rw [hPRE]
        show (([] ++ le (M2 : Int) 2) ++ le (truthI a.more) 2) ++ entriesB (a.ents.take M2) = _
        rw [h1]
        unfold bodyIS
        rw [if_pos rfl, hml]
        simp only [List.append_assoc, List.nil_append]
      · rw [h1] at h
        unfold jpErr
        rw [if_pos hpos, hml, if_pos hlen, if_pos rfl, h]
    have HPL : Hid (∀ j, j ≤ M2 → (PRE j).length ≤ 50000) := fun j hj => by
      rw [hPRE]
      show ((([] ++ le (M2 : Int) 2) ++ le (truthI a.more) 2) ++ entriesB (a.ents.take j)).length ≤ 50000
      have h1 := entriesB_le (a.ents.take j)
      rw [List.length_take] at h1
      simp only [List.length_append, le_length, List.length_nil]
      omega
    have HNS : Hid (∀ (j : Nat) (x : EntryV), a.ents[j]? = some x → ∀ s ∈ [x.name], s.size ≤ 4398046511104) := fun j x hx s hs => by rw [List.mem_singleton.1 hs]; exact hns x (List.mem_of_getElem? hx)
    have HESZ : Hid (∀ (j : Nat) (x : EntryV), a.ents[j]? = some x → x.size ≤ 1048576 ∧ 0 ≤ x.size) := fun j x hx => by
      have h := HOK.out j x hx
      omega
    have HERR : Hid (∀ er, jpErr 14 a = er → er ≠ 0 → ∀ e w', e = .returned (.tuple #[.slice none 0 0, .int .i64 er]) → Below w.heap.size w w' → RISayPost w 14 a e w') := HE.out
    have HE00 : Hid (entsErr (a.ents.take 0) = 0) := by show _ = _; rw [List.take_zero]; rfl
    clear hPRE hw hne HE HE2 hns hcs ka h12 hnm hkd hall hml hpos HST2
    go_enter Tryd.func18, Tryd.ntmps18
    go_upto_region 4 with (first
      | ((with_reducible show wpList _ _ _ (⟨some 3, _, _, _, _, _⟩ :: _) _ _); refine wpList_box_blk rfl _ (.tmp 1) rfl cs rfl ?_; intro g w1 hg1 hg2 K1 L1)
      | ((with_reducible show wpList _ _ _ (⟨some 6, _, _, _, _, _⟩ :: _) _ _); refine wpList_alloc_blk rfl _ rfl zs _ ZH ?_; intro h w2 hg3 hg4 Z2 L02; have K2 := Lib.hid (K1.out.over L02.out); have L2 := Lib.hid (step L1.out L02.out); obtain ⟨c17, c18, c1, c14, c19, c13, c10⟩ := FC.out w2 g K2.out; have hgh : g ≠ h := (by omega); have hwh : w.heap.size ≤ h := (by have := L1.out.size; omega))
      | fail)
    refine wp_region_held (S := fun w' => Blk w' g 45 cs) (by kernel_rfl) ?_
    change wpAnyH _ _ _ _ _ _ _ _ w2.drew
    have S_0 : Hid (Blk w2.drew g 45 cs) := K2.out.drew
    have Xd := Lib.hid (Blk.drew Z2.out)
    have Ld := Lib.hid (L2.out.drew)
    refine wpAnyH_take (i := 0) (v := _) rfl (by kernel_rfl) (by kernel_rfl) (by kernel_rfl) (fun _ _ _ h => h) (yieldsIf_fld (by kernel_rfl) _ (.tmp 3) 10 rfl (.pointer (some ⟨g, 0, none⟩)) (.pointer (some ⟨g, 17, none⟩)) (by kernel_rfl) (fld_isZeroSay_10 g)) S_0.out ?_
    refine wpAnyH_take (i := 1) (v := _) rfl (by kernel_rfl) (by kernel_rfl) (by kernel_rfl) (fun _ _ _ h => h) (yieldsIf_load_one (by kernel_rfl) _ (.tmp 16) rfl g 17 (by kernel_rfl) (.slice M1 M2 M3) (fun w h => (FC.out w g h).1) _ Tryd.underlying43 rfl) S_0.out ?_
    refine wpAnyH_take (i := 2) (v := _) rfl (by kernel_rfl) (by kernel_rfl) (by kernel_rfl) (fun _ _ _ h => h) (yieldsIf_fld (by kernel_rfl) _ (.tmp 3) 11 rfl (.pointer (some ⟨g, 0, none⟩)) (.pointer (some ⟨g, 18, none⟩)) (by kernel_rfl) (fld_isZeroSay_11 g)) S_0.out ?_
    refine wpAnyH_take (i := 3) (v := _) rfl (by kernel_rfl) (by kernel_rfl) (by kernel_rfl) (fun _ _ _ h => h) (yieldsIf_load_one (by kernel_rfl) _ (.tmp 18) rfl g 18 (by kernel_rfl) (.bool a.more) (fun w h => (FC.out w g h).2.1) _ Tryd.underlying4 rfl) S_0.out ?_
    refine wpAnyH_take (i := 4) (v := _) rfl (by kernel_rfl) (by kernel_rfl) (by kernel_rfl) (fun _ _ _ h => h) (yieldsIf_fld (by kernel_rfl) _ (.tmp 6) 10 rfl (.pointer (some ⟨h, 0, none⟩)) (.pointer (some ⟨h, 17, none⟩)) (by kernel_rfl) (fld_isZeroSay_10 h)) S_0.out ?_
    refine wpAnyH_frame fun fr1 hfr1 => ?_
    have ex1 : fr1.eval (.tmp 20) = .pointer (some ⟨h, 17, none⟩) := by rw [hfr1]; kernel_rfl
    have ey1 : fr1.eval (.tmp 17) = (.slice M1 M2 M3) := by rw [hfr1]; kernel_rfl
    refine wpAnyH_one 5 _ (by kernel_rfl) rfl fun K hK => ?_
    refine step_store_fld rfl _ (.tmp 20) (.tmp 17) rfl h 17 ex1 _ zs (.slice M1 M2 M3) ey1 Xd (Lib.hid (by have := HZ.out; omega)) (by kernel_rfl) rfl ?_
    intro x1 XS1 O1 hq1
    obtain ⟨C1, hC1⟩ : ∃ x, x = zs.set 17 (.slice M1 M2 M3) := ⟨_, rfl⟩
    have HC1 := Lib.hid hC1
    have HL1 : Hid (C1.length = 20) := by show _ = _; rw [hC1, List.length_set]; exact HZ.out
    rw [← hC1] at XS1
    have ST1 := Lib.hid (Blk.only S_0.out O1.out hgh)
    have LT1 := Lib.hid (below_only Ld.out O1.out hwh)
    refine hK _ _ ST1.out ?_
    clear hK K ex1 ey1 hC1
    change wpAnyH _ _ _ _ _ _ _ fr1 x1
    subst hfr1
    refine wpAnyH_take (i := 6) (v := _) rfl (by kernel_rfl) (by kernel_rfl) (by kernel_rfl) (fun _ _ _ h => h) (yieldsIf_fld (by kernel_rfl) _ (.tmp 6) 11 rfl (.pointer (some ⟨h, 0, none⟩)) (.pointer (some ⟨h, 18, none⟩)) (by kernel_rfl) (fld_isZeroSay_11 h)) ST1.out ?_
    refine wpAnyH_frame fun fr2 hfr2 => ?_
    have ex2 : fr2.eval (.tmp 21) = .pointer (some ⟨h, 18, none⟩) := by rw [hfr2]; kernel_rfl
    have ey2 : fr2.eval (.tmp 19) = (.bool a.more) := by rw [hfr2]; kernel_rfl
    refine wpAnyH_one 7 _ (by kernel_rfl) rfl fun K hK => ?_
    refine step_store_fld rfl _ (.tmp 21) (.tmp 19) rfl h 18 ex2 _ C1 (.bool a.more) ey2 XS1 (Lib.hid (by have := HL1.out; omega)) (by kernel_rfl) rfl ?_
    intro x2 XS2 O2 hq2
    obtain ⟨C2, hC2⟩ : ∃ x, x = C1.set 18 (.bool a.more) := ⟨_, rfl⟩
    have HC2 := Lib.hid hC2
    have HL2 : Hid (C2.length = 20) := by show _ = _; rw [hC2, List.length_set]; exact HL1.out
    rw [← hC2] at XS2
    have ST2 := Lib.hid (Blk.only ST1.out O2.out hgh)
    have LT2 := Lib.hid (below_only LT1.out O2.out hwh)
    refine hK _ _ ST2.out ?_
    clear hK K ex2 ey2 hC2
    change wpAnyH _ _ _ _ _ _ _ fr2 x2
    subst hfr2
    refine wpAnyH_done (by kernel_rfl) ?_ _
    go_simp
    clear c17 c18 c1 c14 c19 c13 c10
    obtain ⟨c17, c18, c1, c14, c19, c13, c10⟩ := FC.out x2 g ST2.out
    have HEQ : Hid (C2 = scells (.slice none 0 0) (.slice M1 M2 M3) { zeroSay with ents := a.ents, more := a.more }) := by
      show _ = _
      rw [HC2.out, HC1.out, HZS.out]
      rfl
    have Kd := Lib.hid ST2.out
    go_wp2_with fail
    refine (CK.out _).mono ?_
    rintro e v1 ⟨rfl, rfl⟩
    go_wp2_with (first
      | ((with_reducible show wpList _ _ _ (⟨some 49, _, _, _, _, _⟩ :: _) _ _); refine wpList_load_want (by kernel_rfl) _ (.tmp 6) rfl h rfl _ C2 XS2 20 _ Tryd.underlying45 rfl size_say HL2 ?_)
      | ((with_reducible show wpList _ _ _ (⟨some 50, _, _, _, _, _⟩ :: _) _ _); refine wpList_load_want (by kernel_rfl) _ (.tmp 3) rfl g rfl _ cs Kd 20 _ Tryd.underlying45 rfl size_say HL ?_)
      | fail)
    refine (CS.out _ C2 (HWI.out _ _ HEQ LT2.out) LT2.out).mono ?_
    rintro e w5 ⟨rfl, L05⟩
    have K5 := Lib.hid (Kd.out.over L05)
    have M5 := Lib.hid (step LT2.out L05)
    have hs5 := M5.out.size
    clear c17 c18 c1 c14 c19 c13 c10
    obtain ⟨c17, c18, c1, c14, c19, c13, c10⟩ := FC.out w5 g K5.out
    clear L05 CS CK HWI
    have hg5' : g < w5.heap.size := K5.out.lt
    go_wp2
    go_loopw [7] (fun i wr => ∃ j : Nat, i = .int .i64 j ∧ j ≤ M2 ∧ Hid ((a.ents.take j).all entOk = true) ∧ Hid (Below w5.heap.size w5 wr)) (fun i _ => M2 - (intOf i).toNat)
    case atStart => exact ⟨0, rfl, Nat.zero_le _, HA0.out, Below.refl _ _⟩
    case round =>
      obtain ⟨j, rfl, hj, HS, NR⟩ := hrel
      clear c17 c18 c1 c14 c19 c13 c10
      have KR := Lib.hid (K5.out.below NR.out hg5')
      obtain ⟨c17, c18, c1, c14, c19, c13, c10⟩ := FC.out wr g KR.out
      by_cases hlt : j < M2
      · obtain ⟨x, hx⟩ := HGET.out j hlt
        have MR := Lib.hid (M5.out.trans (NR.out.mono hs5))
        obtain ⟨b, off, rfl, k0, k1, k2, k3⟩ := HCELL.out wr MR.out j x hlt hx
        obtain ⟨eb0, eb1, eb2, eb3⟩ := HEB.out j x hx
        have R3 := Lib.hid k3
        have HXL : Hid (([.int .u8 x.kind, .int .i64 x.size] : List Value).length = 2) := rfl
        have HX1 : Hid (∀ v ∈ ([.int .u8 x.kind, .int .i64 x.size] : List Value), v.oneCell' = true) := by
          intro v hv
          simp only [List.mem_cons, List.not_mem_nil, or_false] at hv
          rcases hv with rfl | rfl <;> rfl
        have hrs := NR.out.size
        have hok := HOK.out j x hx
        obtain ⟨q1, q2, q3⟩ := hok
        have HS2 := Lib.hid (HST.out j x hx HS.out)
        clear hx k3
        go_wp2_with (first
          | ((with_reducible show wpList _ _ _ (⟨some 71, _, _, _, _, _⟩ :: _) _ _); refine wpList_load_midu rfl _ (.tmp 70) rfl b (off + j * 3 + 1) rfl [.int .u8 x.kind, .int .i64 x.size] _ R3 Tryd.underlying80 rfl 2 size_stat HXL ?_)
          | ((with_reducible show wpList _ _ _ (⟨some 8, _, _, _, _, _⟩ :: _) _ _); refine wpList_alloc_blk rfl _ rfl _ _ ZT ?_; intro t y1 ht1 ht2 T1 P1; have NA := Lib.hid (NR.out.trans (P1.out.mono hrs)))
          | ((with_reducible show wpList _ _ _ (⟨none, .store _ (.tmp 8) _, _, _, _, _⟩ :: _) _ _); refine wpList_store_blk rfl _ (.tmp 8) (.tmp 71) rfl t rfl _ ([.int .u8 0, .int .i64 0] : List Value) ([.int .u8 x.kind, .int .i64 x.size] : List Value) rfl T1 2 size_stat HT2 HXL HX1 ?_; intro y2 T2 O2 ht3; have NB := Lib.hid (NA.out.trans (O2.out.below (by omega))); have d0 : y2.cell? ⟨t, 0, none⟩ = some (.int .u8 x.kind) := T2.out.at rfl; have d1 : y2.cell? ⟨t, 1, none⟩ = some (.int .i64 x.size) := T2.out.at rfl)
          | fail)
        go_roundw
        case rel => exact ⟨j + 1, by simp, by omega, HS2, NB⟩
        case measure => simp [intOf]; omega
      · obtain rfl : M2 = j := by omega
        obtain ⟨wp, hwp⟩ : ∃ x : World, x = wr := ⟨_, rfl⟩
        subst hwp
        have MB := Lib.hid (M5.out.trans (NR.out.mono hs5))
        have hsr := MB.out.size
        have N0 : Hid (Below wp.heap.size wp wp) := Below.refl _ _
        have H00 : Hid (Own wp wp.heap.size (.slice none 0 0) []) := Own.nil _ _
        have hgr' : g < wp.heap.size := KR.out.lt
        go_wp2_with fail
        refine (CL2.out wp wp.heap.size _ ([]) (M2 : Int) H00.out (by simp) N0.out.size (by omega) (by omega)).mono ?_
        rintro e y1 ⟨v1, rfl, ho1, L1⟩
        have HO1 := Lib.hid ho1
        have N1 := Lib.hid (N0.out.trans L1)
        have Ky1 := Lib.hid (KR.out.below N1.out hgr')
        clear ho1 L1
        clear c17 c18 c1 c14 c19 c13 c10
        obtain ⟨c17, c18, c1, c14, c19, c13, c10⟩ := FC.out y1 g Ky1.out
        go_wp2_with fail
        refine (CU.out _ _).mono ?_
        rintro e wt ⟨rfl, rfl⟩
        go_wp2_with fail
        refine (CL2.out y1 wp.heap.size _ ([] ++ le (M2 : Int) 2) (truthI a.more) HO1.out (by simp [le_length]) N1.out.size tm0 (by omega)).mono ?_
        rintro e y2 ⟨v2, rfl, ho2, L2⟩
        have HO2 := Lib.hid ho2
        have N2 := Lib.hid (N1.out.trans L2)
        have Ky2 := Lib.hid (KR.out.below N2.out hgr')
        clear ho2 L2
        clear c17 c18 c1 c14 c19 c13 c10
        obtain ⟨c17, c18, c1, c14, c19, c13, c10⟩ := FC.out y2 g Ky2.out
        have HOP : Hid (Own y2 wp.heap.size v2 (PRE 0)) := by rw [HP0.out]; exact HO2.out
        clear HO1 HO2 H00 N0 N1 Ky1
        have hy2 := Ky2.out
        obtain ⟨bb, hbb⟩ : ∃ x, x = wp.heap.size := ⟨_, rfl⟩
        rw [← hbb] at HOP N2 hsr hgr'
        go_wp2
        go_loopw [9, 10] (fun v i wr => ∃ m : Nat, i = .int .i64 m ∧ m ≤ M2 ∧ Hid (Own wr bb v (PRE m)) ∧ Hid (entsErr (a.ents.take m) = 0) ∧ Hid (Below bb wp wr)) (fun _ i _ => M2 - (intOf i).toNat)
        case atStart => exact ⟨0, rfl, Nat.zero_le _, HOP, HE00, N2⟩
        case round =>
          obtain ⟨m, rfl, hm, HO, HS1, NQ⟩ := hrel
          clear c17 c18 c1 c14 c19 c13 c10
          have KQ := Lib.hid (KR.out.below NQ.out hgr')
          obtain ⟨c17, c18, c1, c14, c19, c13, c10⟩ := FC.out wr g KQ.out
          have hbq : bb ≤ wr.heap.size := by have := NQ.out.size; omega
          by_cases hlt2 : m < M2
          · obtain ⟨x, hx⟩ := HGET.out m hlt2
            have MQ := Lib.hid (MB.out.trans (NQ.out.mono hsr))
            obtain ⟨b, off, rfl, k0, k1, k2, _⟩ := HCELL.out wr MQ.out m x hlt2 hx
            have HE1 := Lib.hid (HPS.out m x hx HS1.out)
            obtain ⟨eb0, eb1, _, _⟩ := HEB.out m x hx
            obtain ⟨es1, es0⟩ := HESZ.out m x hx
            have HNX := Lib.hid (HNS.out m x hx)
            have z_k : IntKind.u64.wrap x.kind = x.kind := by rw [IntKind.wrap_u64]; omega
            have z_s : IntKind.u64.wrap x.size = x.size := by rw [IntKind.wrap_u64]; omega
            have hpl := HPL.out m hm
            have HCJ : Hid (∀ w', Below bb wp w' → w'.cell? ⟨g, 17, none⟩ = some (.slice (some ⟨b, off, none⟩) M2 M3) ∧ w'.cell? ⟨b, off + m * 3, none⟩ = some (.string x.name) ∧ w'.cell? ⟨b, off + m * 3 + 2, none⟩ = some (.int .i64 x.size)) := fun w' hN => by
              obtain ⟨b', off', h1, h2, _, h4, _⟩ := HCELL.out w' (MB.out.trans (hN.mono hsr)) m x hlt2 hx
              injection h1 with h1
              injection h1 with h1 h3
              subst h1 h3
              exact ⟨(FC.out w' g (KR.out.below hN hgr')).1, h2, h4⟩
            clear hx
            go_wp2_with fail
            refine (CL2.out wr bb _ (PRE m) x.kind HO.out (by omega) hbq eb0 (by omega)).mono ?_
            rintro e q1 ⟨u1, rfl, ho, L⟩
            have HA1 := Lib.hid ho
            have NA1 := Lib.hid (NQ.out.trans L)
            have hb1 : bb ≤ q1.heap.size := by have := NA1.out.size; omega
            clear ho L c17 c18 c1 c14 c19 c13 c10 k0 k1 k2
            obtain ⟨c17, k0, k2⟩ := HCJ.out q1 NA1.out
            go_wp2_with fail
            refine (CL2.out q1 bb _ (PRE m ++ le x.kind 2) 0 HA1.out (by simp only [List.length_append, le_length]; omega) hb1 (Int.le_refl 0) (by decide)).mono ?_
            rintro e q2 ⟨u2, rfl, ho, L⟩
            have HA2 := Lib.hid ho
            have NA2 := Lib.hid (NA1.out.trans L)
            have hb2 : bb ≤ q2.heap.size := by have := NA2.out.size; omega
            clear ho L c17 k0 k2
            obtain ⟨c17, k0, k2⟩ := HCJ.out q2 NA2.out
            go_wp2_with fail
            refine (CL8.out q2 bb _ ((PRE m ++ le x.kind 2) ++ le 0 2) x.size HA2.out (by simp only [List.length_append, le_length]; omega) hb2 es0 (by omega)).mono ?_
            rintro e q3 ⟨u3, rfl, ho, L⟩
            have HA3 := Lib.hid ho
            have NA3 := Lib.hid (NA2.out.trans L)
            have hb3 : bb ≤ q3.heap.size := by have := NA3.out.size; omega
            clear ho L c17 k0 k2
            obtain ⟨c17, k0, k2⟩ := HCJ.out q3 NA3.out
            go_wp2_with (first
              | ((with_reducible show wpList _ _ _ (⟨some 140, _, _, _, _, _⟩ :: _) _ _); refine wpList_slice_blk rfl _ _ 1 _ rfl Tryd.underlying74 ([.string x.name] : List Value) (by kernel_rfl) ?_; intro gl q4 hz1 hz2 Yl Ll; have HA4 := Lib.hid (Own.below HA3.out Ll.out); have NA4 := Lib.hid (NA3.out.trans (Ll.out.mono hb3)); have hb4 : bb ≤ q4.heap.size := (by have := NA4.out.size; omega))
              | fail)
            refine (RTexts_any q4 bb gl 1 _ (((PRE m ++ le x.kind 2) ++ le 0 2) ++ le x.size 8) [x.name] HA4.out hb4 Yl.out rfl (by decide) HNX.out (by simp only [List.length_append, le_length]; omega)).mono ?_
            rintro e q5 ⟨u5, rfl, ho, L⟩
            have NA5 := Lib.hid (NA4.out.trans L)
            rw [HE1.out.1] at ho
            obtain ⟨er, her⟩ : ∃ z, z = textsErr [x.name] := ⟨_, rfl⟩
            have HE2 := Lib.hid HE1.out.2
            rw [← her] at ho HE2 ⊢
            clear her L HE1 c17 k0 k2 HCJ HA1 HA2 HA3 HA4 NA1 NA2 NA3 NA4
            by_cases he0 : er = 0
            · subst he0
              rw [if_pos rfl] at ho
              have HA5 := Lib.hid ho
              have HS5 := Lib.hid (HE2.out.1 rfl)
              clear ho HE2
              go_wp2
              go_roundw
              case rel => exact ⟨m + 1, by simp, by omega, HA5, HS5, NA5⟩
              case measure => simp [intOf]; omega
            · have hne0 : (er != 0) = true := by simpa using he0
              have HQE := Lib.hid (HERR.out er (HE2.out.2 he0) he0)
              clear ho HE2 he0
              go_wp2
              go_ret2
              exact HQE.out _ _ rfl (MB.out.trans (NA5.out.mono hsr))
          · obtain rfl : m = M2 := by omega
            have HQ := Lib.hid (HQ0.out (HPN.out.2 HS1.out))
            go_wp2
            go_ret2
            exact HQ.out _ _ _ rfl (by rw [← HPN.out.1]; exact Own.mono HO.out hsr) (MB.out.trans (NQ.out.mono hsr))
  · subst h16
    have HWI : Hid (∀ (w' : World) (C : List Value), Hid (C = scells (.slice none 0 0) (.slice none 0 0) { zeroSay with siz := a.siz, kind := a.kind, gone := a.gone }) → Below w.heap.size w w' → SayIs w' w'.heap.size C (wantIS 16 a)) := fun w' C hC hb => ⟨none, 0, 0, none, 0, 0, hC.out, Holds.nil _ _, HoldsS.nil _ _ _ _⟩
    by_cases hw : wantIS 16 a = a
    rotate_left
    · have HQ := Lib.hid (HE2.out (fun h => hw (hne.2 h.1)))
      rw [decide_eq_false hw] at CS
      clear hw hne HE HE2 HQ0 hns hcs ka h12
      go_enter Tryd.func18, Tryd.ntmps18
      go_upto_region 6 with (first
        | ((with_reducible show wpList _ _ _ (⟨some 3, _, _, _, _, _⟩ :: _) _ _); refine wpList_box_blk rfl _ (.tmp 1) rfl cs rfl ?_; intro g w1 hg1 hg2 K1 L1)
        | ((with_reducible show wpList _ _ _ (⟨some 6, _, _, _, _, _⟩ :: _) _ _); refine wpList_alloc_blk rfl _ rfl zs _ ZH ?_; intro h w2 hg3 hg4 Z2 L02; have K2 := Lib.hid (K1.out.over L02.out); have L2 := Lib.hid (step L1.out L02.out); obtain ⟨c17, c18, c1, c14, c19, c13, c10⟩ := FC.out w2 g K2.out; have hgh : g ≠ h := (by omega); have hwh : w.heap.size ≤ h := (by have := L1.out.size; omega))
        | fail)
      refine wp_region_held (S := fun w' => Blk w' g 45 cs) (by kernel_rfl) ?_
      change wpAnyH _ _ _ _ _ _ _ _ w2.drew
      have S_0 : Hid (Blk w2.drew g 45 cs) := K2.out.drew
      have Xd := Lib.hid (Blk.drew Z2.out)
      have Ld := Lib.hid (L2.out.drew)
      refine wpAnyH_take (i := 0) (v := _) rfl (by kernel_rfl) (by kernel_rfl) (by kernel_rfl) (fun _ _ _ h => h) (yieldsIf_fld (by kernel_rfl) _ (.tmp 3) 1 rfl (.pointer (some ⟨g, 0, none⟩)) (.pointer (some ⟨g, 1, none⟩)) (by kernel_rfl) (fld_isZeroSay_1 g)) S_0.out ?_
      refine wpAnyH_take (i := 1) (v := _) rfl (by kernel_rfl) (by kernel_rfl) (by kernel_rfl) (fun _ _ _ h => h) (yieldsIf_load_one (by kernel_rfl) _ (.tmp 24) rfl g 1 (by kernel_rfl) (.int .u64 a.siz) (fun w h => (FC.out w g h).2.2.1) _ Tryd.underlying28 rfl) S_0.out ?_
      refine wpAnyH_take (i := 2) (v := _) rfl (by kernel_rfl) (by kernel_rfl) (by kernel_rfl) (fun _ _ _ h => h) (yieldsIf_fld (by kernel_rfl) _ (.tmp 3) 7 rfl (.pointer (some ⟨g, 0, none⟩)) (.pointer (some ⟨g, 14, none⟩)) (by kernel_rfl) (fld_isZeroSay_7 g)) S_0.out ?_
      refine wpAnyH_take (i := 3) (v := _) rfl (by kernel_rfl) (by kernel_rfl) (by kernel_rfl) (fun _ _ _ h => h) (yieldsIf_load_one (by kernel_rfl) _ (.tmp 26) rfl g 14 (by kernel_rfl) (.int .u8 a.kind) (fun w h => (FC.out w g h).2.2.2.1) _ Tryd.underlying42 rfl) S_0.out ?_
      refine wpAnyH_take (i := 4) (v := _) rfl (by kernel_rfl) (by kernel_rfl) (by kernel_rfl) (fun _ _ _ h => h) (yieldsIf_fld (by kernel_rfl) _ (.tmp 3) 12 rfl (.pointer (some ⟨g, 0, none⟩)) (.pointer (some ⟨g, 19, none⟩)) (by kernel_rfl) (fld_isZeroSay_12 g)) S_0.out ?_
      refine wpAnyH_take (i := 5) (v := _) rfl (by kernel_rfl) (by kernel_rfl) (by kernel_rfl) (fun _ _ _ h => h) (yieldsIf_load_one (by kernel_rfl) _ (.tmp 28) rfl g 19 (by kernel_rfl) (.bool a.gone) (fun w h => (FC.out w g h).2.2.2.2.1) _ Tryd.underlying4 rfl) S_0.out ?_
      refine wpAnyH_take (i := 6) (v := _) rfl (by kernel_rfl) (by kernel_rfl) (by kernel_rfl) (fun _ _ _ h => h) (yieldsIf_fld (by kernel_rfl) _ (.tmp 6) 1 rfl (.pointer (some ⟨h, 0, none⟩)) (.pointer (some ⟨h, 1, none⟩)) (by kernel_rfl) (fld_isZeroSay_1 h)) S_0.out ?_
      refine wpAnyH_frame fun fr1 hfr1 => ?_
      have ex1 : fr1.eval (.tmp 30) = .pointer (some ⟨h, 1, none⟩) := by rw [hfr1]; kernel_rfl
      have ey1 : fr1.eval (.tmp 25) = (.int .u64 a.siz) := by rw [hfr1]; kernel_rfl
      refine wpAnyH_one 7 _ (by kernel_rfl) rfl fun K hK => ?_
      refine step_store_fld rfl _ (.tmp 30) (.tmp 25) rfl h 1 ex1 _ zs (.int .u64 a.siz) ey1 Xd (Lib.hid (by have := HZ.out; omega)) (by kernel_rfl) rfl ?_
      intro x1 XS1 O1 hq1
      obtain ⟨C1, hC1⟩ : ∃ x, x = zs.set 1 (.int .u64 a.siz) := ⟨_, rfl⟩
      have HC1 := Lib.hid hC1
      have HL1 : Hid (C1.length = 20) := by show _ = _; rw [hC1, List.length_set]; exact HZ.out
      rw [← hC1] at XS1
      have ST1 := Lib.hid (Blk.only S_0.out O1.out hgh)
      have LT1 := Lib.hid (below_only Ld.out O1.out hwh)
      refine hK _ _ ST1.out ?_
      clear hK K ex1 ey1 hC1
      change wpAnyH _ _ _ _ _ _ _ fr1 x1
      subst hfr1
      refine wpAnyH_take (i := 8) (v := _) rfl (by kernel_rfl) (by kernel_rfl) (by kernel_rfl) (fun _ _ _ h => h) (yieldsIf_fld (by kernel_rfl) _ (.tmp 6) 7 rfl (.pointer (some ⟨h, 0, none⟩)) (.pointer (some ⟨h, 14, none⟩)) (by kernel_rfl) (fld_isZeroSay_7 h)) ST1.out ?_
      refine wpAnyH_frame fun fr2 hfr2 => ?_
      have ex2 : fr2.eval (.tmp 31) = .pointer (some ⟨h, 14, none⟩) := by rw [hfr2]; kernel_rfl
      have ey2 : fr2.eval (.tmp 27) = (.int .u8 a.kind) := by rw [hfr2]; kernel_rfl
      refine wpAnyH_one 9 _ (by kernel_rfl) rfl fun K hK => ?_
      refine step_store_fld rfl _ (.tmp 31) (.tmp 27) rfl h 14 ex2 _ C1 (.int .u8 a.kind) ey2 XS1 (Lib.hid (by have := HL1.out; omega)) (by kernel_rfl) rfl ?_
      intro x2 XS2 O2 hq2
      obtain ⟨C2, hC2⟩ : ∃ x, x = C1.set 14 (.int .u8 a.kind) := ⟨_, rfl⟩
      have HC2 := Lib.hid hC2
      have HL2 : Hid (C2.length = 20) := by show _ = _; rw [hC2, List.length_set]; exact HL1.out
      rw [← hC2] at XS2
      have ST2 := Lib.hid (Blk.only ST1.out O2.out hgh)
      have LT2 := Lib.hid (below_only LT1.out O2.out hwh)
      refine hK _ _ ST2.out ?_
      clear hK K ex2 ey2 hC2
      change wpAnyH _ _ _ _ _ _ _ fr2 x2
      subst hfr2
      refine wpAnyH_take (i := 10) (v := _) rfl (by kernel_rfl) (by kernel_rfl) (by kernel_rfl) (fun _ _ _ h => h) (yieldsIf_fld (by kernel_rfl) _ (.tmp 6) 12 rfl (.pointer (some ⟨h, 0, none⟩)) (.pointer (some ⟨h, 19, none⟩)) (by kernel_rfl) (fld_isZeroSay_12 h)) ST2.out ?_
      refine wpAnyH_frame fun fr3 hfr3 => ?_
      have ex3 : fr3.eval (.tmp 32) = .pointer (some ⟨h, 19, none⟩) := by rw [hfr3]; kernel_rfl
      have ey3 : fr3.eval (.tmp 29) = (.bool a.gone) := by rw [hfr3]; kernel_rfl
      refine wpAnyH_one 11 _ (by kernel_rfl) rfl fun K hK => ?_
      refine step_store_fld rfl _ (.tmp 32) (.tmp 29) rfl h 19 ex3 _ C2 (.bool a.gone) ey3 XS2 (Lib.hid (by have := HL2.out; omega)) (by kernel_rfl) rfl ?_
      intro x3 XS3 O3 hq3
      obtain ⟨C3, hC3⟩ : ∃ x, x = C2.set 19 (.bool a.gone) := ⟨_, rfl⟩
      have HC3 := Lib.hid hC3
      have HL3 : Hid (C3.length = 20) := by show _ = _; rw [hC3, List.length_set]; exact HL2.out
      rw [← hC3] at XS3
      have ST3 := Lib.hid (Blk.only ST2.out O3.out hgh)
      have LT3 := Lib.hid (below_only LT2.out O3.out hwh)
      refine hK _ _ ST3.out ?_
      clear hK K ex3 ey3 hC3
      change wpAnyH _ _ _ _ _ _ _ fr3 x3
      subst hfr3
      refine wpAnyH_done (by kernel_rfl) ?_ _
      go_simp
      clear c17 c18 c1 c14 c19 c13 c10
      obtain ⟨c17, c18, c1, c14, c19, c13, c10⟩ := FC.out x3 g ST3.out
      have HEQ : Hid (C3 = scells (.slice none 0 0) (.slice none 0 0) { zeroSay with siz := a.siz, kind := a.kind, gone := a.gone }) := by
        show _ = _
        rw [HC3.out, HC2.out, HC1.out, HZS.out]
        rfl
      have Kd := Lib.hid ST3.out
      go_wp2_with fail
      refine (CK.out _).mono ?_
      rintro e v1 ⟨rfl, rfl⟩
      go_wp2_with (first
        | ((with_reducible show wpList _ _ _ (⟨some 49, _, _, _, _, _⟩ :: _) _ _); refine wpList_load_want (by kernel_rfl) _ (.tmp 6) rfl h rfl _ C3 XS3 20 _ Tryd.underlying45 rfl size_say HL3 ?_)
        | ((with_reducible show wpList _ _ _ (⟨some 50, _, _, _, _, _⟩ :: _) _ _); refine wpList_load_want (by kernel_rfl) _ (.tmp 3) rfl g rfl _ cs Kd 20 _ Tryd.underlying45 rfl size_say HL ?_)
        | fail)
      refine (CS.out _ C3 (HWI.out _ _ HEQ LT3.out) LT3.out).mono ?_
      rintro e w5 ⟨rfl, L05⟩
      have K5 := Lib.hid (Kd.out.over L05)
      have M5 := Lib.hid (step LT3.out L05)
      have hs5 := M5.out.size
      clear c17 c18 c1 c14 c19 c13 c10
      obtain ⟨c17, c18, c1, c14, c19, c13, c10⟩ := FC.out w5 g K5.out
      clear L05 CS CK HWI
      go_wp2
      go_ret2
      exact HQ.out _ _ rfl M5.out
    have hnm := hne.1 hw
    rw [decide_eq_true hw] at CS
    have hen : a.ents = [] := by
      have h := congrArg SayV.ents hw
      exact h.symm
    by_cases hkd : a.kind ≤ 2
    rotate_left
    · have HQ := Lib.hid (HE2.out (fun h => hkd h.2.1))
      have r1 : (2 : Int) < a.kind := by omega
      clear hw hne HE HE2 HQ0 hns hcs ka h12 hnm hkd
      go_enter Tryd.func18, Tryd.ntmps18
      go_upto_region 6 with (first
        | ((with_reducible show wpList _ _ _ (⟨some 3, _, _, _, _, _⟩ :: _) _ _); refine wpList_box_blk rfl _ (.tmp 1) rfl cs rfl ?_; intro g w1 hg1 hg2 K1 L1)
        | ((with_reducible show wpList _ _ _ (⟨some 6, _, _, _, _, _⟩ :: _) _ _); refine wpList_alloc_blk rfl _ rfl zs _ ZH ?_; intro h w2 hg3 hg4 Z2 L02; have K2 := Lib.hid (K1.out.over L02.out); have L2 := Lib.hid (step L1.out L02.out); obtain ⟨c17, c18, c1, c14, c19, c13, c10⟩ := FC.out w2 g K2.out; have hgh : g ≠ h := (by omega); have hwh : w.heap.size ≤ h := (by have := L1.out.size; omega))
        | fail)
      refine wp_region_held (S := fun w' => Blk w' g 45 cs) (by kernel_rfl) ?_
      change wpAnyH _ _ _ _ _ _ _ _ w2.drew
      have S_0 : Hid (Blk w2.drew g 45 cs) := K2.out.drew
      have Xd := Lib.hid (Blk.drew Z2.out)
      have Ld := Lib.hid (L2.out.drew)
      refine wpAnyH_take (i := 0) (v := _) rfl (by kernel_rfl) (by kernel_rfl) (by kernel_rfl) (fun _ _ _ h => h) (yieldsIf_fld (by kernel_rfl) _ (.tmp 3) 1 rfl (.pointer (some ⟨g, 0, none⟩)) (.pointer (some ⟨g, 1, none⟩)) (by kernel_rfl) (fld_isZeroSay_1 g)) S_0.out ?_
      refine wpAnyH_take (i := 1) (v := _) rfl (by kernel_rfl) (by kernel_rfl) (by kernel_rfl) (fun _ _ _ h => h) (yieldsIf_load_one (by kernel_rfl) _ (.tmp 24) rfl g 1 (by kernel_rfl) (.int .u64 a.siz) (fun w h => (FC.out w g h).2.2.1) _ Tryd.underlying28 rfl) S_0.out ?_
      refine wpAnyH_take (i := 2) (v := _) rfl (by kernel_rfl) (by kernel_rfl) (by kernel_rfl) (fun _ _ _ h => h) (yieldsIf_fld (by kernel_rfl) _ (.tmp 3) 7 rfl (.pointer (some ⟨g, 0, none⟩)) (.pointer (some ⟨g, 14, none⟩)) (by kernel_rfl) (fld_isZeroSay_7 g)) S_0.out ?_
      refine wpAnyH_take (i := 3) (v := _) rfl (by kernel_rfl) (by kernel_rfl) (by kernel_rfl) (fun _ _ _ h => h) (yieldsIf_load_one (by kernel_rfl) _ (.tmp 26) rfl g 14 (by kernel_rfl) (.int .u8 a.kind) (fun w h => (FC.out w g h).2.2.2.1) _ Tryd.underlying42 rfl) S_0.out ?_
      refine wpAnyH_take (i := 4) (v := _) rfl (by kernel_rfl) (by kernel_rfl) (by kernel_rfl) (fun _ _ _ h => h) (yieldsIf_fld (by kernel_rfl) _ (.tmp 3) 12 rfl (.pointer (some ⟨g, 0, none⟩)) (.pointer (some ⟨g, 19, none⟩)) (by kernel_rfl) (fld_isZeroSay_12 g)) S_0.out ?_
      refine wpAnyH_take (i := 5) (v := _) rfl (by kernel_rfl) (by kernel_rfl) (by kernel_rfl) (fun _ _ _ h => h) (yieldsIf_load_one (by kernel_rfl) _ (.tmp 28) rfl g 19 (by kernel_rfl) (.bool a.gone) (fun w h => (FC.out w g h).2.2.2.2.1) _ Tryd.underlying4 rfl) S_0.out ?_
      refine wpAnyH_take (i := 6) (v := _) rfl (by kernel_rfl) (by kernel_rfl) (by kernel_rfl) (fun _ _ _ h => h) (yieldsIf_fld (by kernel_rfl) _ (.tmp 6) 1 rfl (.pointer (some ⟨h, 0, none⟩)) (.pointer (some ⟨h, 1, none⟩)) (by kernel_rfl) (fld_isZeroSay_1 h)) S_0.out ?_
      refine wpAnyH_frame fun fr1 hfr1 => ?_
      have ex1 : fr1.eval (.tmp 30) = .pointer (some ⟨h, 1, none⟩) := by rw [hfr1]; kernel_rfl
      have ey1 : fr1.eval (.tmp 25) = (.int .u64 a.siz) := by rw [hfr1]; kernel_rfl
      refine wpAnyH_one 7 _ (by kernel_rfl) rfl fun K hK => ?_
      refine step_store_fld rfl _ (.tmp 30) (.tmp 25) rfl h 1 ex1 _ zs (.int .u64 a.siz) ey1 Xd (Lib.hid (by have := HZ.out; omega)) (by kernel_rfl) rfl ?_
      intro x1 XS1 O1 hq1
      obtain ⟨C1, hC1⟩ : ∃ x, x = zs.set 1 (.int .u64 a.siz) := ⟨_, rfl⟩
      have HC1 := Lib.hid hC1
      have HL1 : Hid (C1.length = 20) := by show _ = _; rw [hC1, List.length_set]; exact HZ.out
      rw [← hC1] at XS1
      have ST1 := Lib.hid (Blk.only S_0.out O1.out hgh)
      have LT1 := Lib.hid (below_only Ld.out O1.out hwh)
      refine hK _ _ ST1.out ?_
      clear hK K ex1 ey1 hC1
      change wpAnyH _ _ _ _ _ _ _ fr1 x1
      subst hfr1
      refine wpAnyH_take (i := 8) (v := _) rfl (by kernel_rfl) (by kernel_rfl) (by kernel_rfl) (fun _ _ _ h => h) (yieldsIf_fld (by kernel_rfl) _ (.tmp 6) 7 rfl (.pointer (some ⟨h, 0, none⟩)) (.pointer (some ⟨h, 14, none⟩)) (by kernel_rfl) (fld_isZeroSay_7 h)) ST1.out ?_
      refine wpAnyH_frame fun fr2 hfr2 => ?_
      have ex2 : fr2.eval (.tmp 31) = .pointer (some ⟨h, 14, none⟩) := by rw [hfr2]; kernel_rfl
      have ey2 : fr2.eval (.tmp 27) = (.int .u8 a.kind) := by rw [hfr2]; kernel_rfl
      refine wpAnyH_one 9 _ (by kernel_rfl) rfl fun K hK => ?_
      refine step_store_fld rfl _ (.tmp 31) (.tmp 27) rfl h 14 ex2 _ C1 (.int .u8 a.kind) ey2 XS1 (Lib.hid (by have := HL1.out; omega)) (by kernel_rfl) rfl ?_
      intro x2 XS2 O2 hq2
      obtain ⟨C2, hC2⟩ : ∃ x, x = C1.set 14 (.int .u8 a.kind) := ⟨_, rfl⟩
      have HC2 := Lib.hid hC2
      have HL2 : Hid (C2.length = 20) := by show _ = _; rw [hC2, List.length_set]; exact HL1.out
      rw [← hC2] at XS2
      have ST2 := Lib.hid (Blk.only ST1.out O2.out hgh)
      have LT2 := Lib.hid (below_only LT1.out O2.out hwh)
      refine hK _ _ ST2.out ?_
      clear hK K ex2 ey2 hC2
      change wpAnyH _ _ _ _ _ _ _ fr2 x2
      subst hfr2
      refine wpAnyH_take (i := 10) (v := _) rfl (by kernel_rfl) (by kernel_rfl) (by kernel_rfl) (fun _ _ _ h => h) (yieldsIf_fld (by kernel_rfl) _ (.tmp 6) 12 rfl (.pointer (some ⟨h, 0, none⟩)) (.pointer (some ⟨h, 19, none⟩)) (by kernel_rfl) (fld_isZeroSay_12 h)) ST2.out ?_
      refine wpAnyH_frame fun fr3 hfr3 => ?_
      have ex3 : fr3.eval (.tmp 32) = .pointer (some ⟨h, 19, none⟩) := by rw [hfr3]; kernel_rfl
      have ey3 : fr3.eval (.tmp 29) = (.bool a.gone) := by rw [hfr3]; kernel_rfl
      refine wpAnyH_one 11 _ (by kernel_rfl) rfl fun K hK => ?_
      refine step_store_fld rfl _ (.tmp 32) (.tmp 29) rfl h 19 ex3 _ C2 (.bool a.gone) ey3 XS2 (Lib.hid (by have := HL2.out; omega)) (by kernel_rfl) rfl ?_
      intro x3 XS3 O3 hq3
      obtain ⟨C3, hC3⟩ : ∃ x, x = C2.set 19 (.bool a.gone) := ⟨_, rfl⟩
      have HC3 := Lib.hid hC3
      have HL3 : Hid (C3.length = 20) := by show _ = _; rw [hC3, List.length_set]; exact HL2.out
      rw [← hC3] at XS3
      have ST3 := Lib.hid (Blk.only ST2.out O3.out hgh)
      have LT3 := Lib.hid (below_only LT2.out O3.out hwh)
      refine hK _ _ ST3.out ?_
      clear hK K ex3 ey3 hC3
      change wpAnyH _ _ _ _ _ _ _ fr3 x3
      subst hfr3
      refine wpAnyH_done (by kernel_rfl) ?_ _
      go_simp
      clear c17 c18 c1 c14 c19 c13 c10
      obtain ⟨c17, c18, c1, c14, c19, c13, c10⟩ := FC.out x3 g ST3.out
      have HEQ : Hid (C3 = scells (.slice none 0 0) (.slice none 0 0) { zeroSay with siz := a.siz, kind := a.kind, gone := a.gone }) := by
        show _ = _
        rw [HC3.out, HC2.out, HC1.out, HZS.out]
        rfl
      have Kd := Lib.hid ST3.out
      go_wp2_with fail
      refine (CK.out _).mono ?_
      rintro e v1 ⟨rfl, rfl⟩
      go_wp2_with (first
        | ((with_reducible show wpList _ _ _ (⟨some 49, _, _, _, _, _⟩ :: _) _ _); refine wpList_load_want (by kernel_rfl) _ (.tmp 6) rfl h rfl _ C3 XS3 20 _ Tryd.underlying45 rfl size_say HL3 ?_)
        | ((with_reducible show wpList _ _ _ (⟨some 50, _, _, _, _, _⟩ :: _) _ _); refine wpList_load_want (by kernel_rfl) _ (.tmp 3) rfl g rfl _ cs Kd 20 _ Tryd.underlying45 rfl size_say HL ?_)
        | fail)
      refine (CS.out _ C3 (HWI.out _ _ HEQ LT3.out) LT3.out).mono ?_
      rintro e w5 ⟨rfl, L05⟩
      have K5 := Lib.hid (Kd.out.over L05)
      have M5 := Lib.hid (step LT3.out L05)
      have hs5 := M5.out.size
      clear c17 c18 c1 c14 c19 c13 c10
      obtain ⟨c17, c18, c1, c14, c19, c13, c10⟩ := FC.out w5 g K5.out
      clear L05 CS CK HWI
      go_wp2
      go_ret2
      exact HQ.out _ _ rfl M5.out
    have hr1 : ¬ (2 : Int) < a.kind := by omega
    have hm0 : M2 = 0 := by rw [← hml, hen]; rfl
    have he0 : jpErr 16 a = 0 := by
      unfold jpErr
      rw [if_pos ⟨hnm, hkd, by rw [hen]; rfl⟩, if_pos (by rw [hen]; exact Nat.zero_le _), if_neg (by decide)]
    have HQ := Lib.hid (HQ0.out he0)
    have hb0 : bodyIS 16 a = le a.siz 8 ++ (le a.kind 2 ++ le (truthI a.gone) 2) := by unfold bodyIS; rw [if_neg (by decide), if_pos rfl]
    rw [hb0] at HQ
    subst hm0
    clear hw hne HE HE2 HQ0 hns hcs ka h12 hnm hkd hen he0 hb0 hml
    go_enter Tryd.func18, Tryd.ntmps18
    go_upto_region 6 with (first
      | ((with_reducible show wpList _ _ _ (⟨some 3, _, _, _, _, _⟩ :: _) _ _); refine wpList_box_blk rfl _ (.tmp 1) rfl cs rfl ?_; intro g w1 hg1 hg2 K1 L1)
      | ((with_reducible show wpList _ _ _ (⟨some 6, _, _, _, _, _⟩ :: _) _ _); refine wpList_alloc_blk rfl _ rfl zs _ ZH ?_; intro h w2 hg3 hg4 Z2 L02; have K2 := Lib.hid (K1.out.over L02.out); have L2 := Lib.hid (step L1.out L02.out); obtain ⟨c17, c18, c1, c14, c19, c13, c10⟩ := FC.out w2 g K2.out; have hgh : g ≠ h := (by omega); have hwh : w.heap.size ≤ h := (by have := L1.out.size; omega))
      | fail)
    refine wp_region_held (S := fun w' => Blk w' g 45 cs) (by kernel_rfl) ?_
    change wpAnyH _ _ _ _ _ _ _ _ w2.drew
    have S_0 : Hid (Blk w2.drew g 45 cs) := K2.out.drew
    have Xd := Lib.hid (Blk.drew Z2.out)
    have Ld := Lib.hid (L2.out.drew)
    refine wpAnyH_take (i := 0) (v := _) rfl (by kernel_rfl) (by kernel_rfl) (by kernel_rfl) (fun _ _ _ h => h) (yieldsIf_fld (by kernel_rfl) _ (.tmp 3) 1 rfl (.pointer (some ⟨g, 0, none⟩)) (.pointer (some ⟨g, 1, none⟩)) (by kernel_rfl) (fld_isZeroSay_1 g)) S_0.out ?_
    refine wpAnyH_take (i := 1) (v := _) rfl (by kernel_rfl) (by kernel_rfl) (by kernel_rfl) (fun _ _ _ h => h) (yieldsIf_load_one (by kernel_rfl) _ (.tmp 24) rfl g 1 (by kernel_rfl) (.int .u64 a.siz) (fun w h => (FC.out w g h).2.2.1) _ Tryd.underlying28 rfl) S_0.out ?_
    refine wpAnyH_take (i := 2) (v := _) rfl (by kernel_rfl) (by kernel_rfl) (by kernel_rfl) (fun _ _ _ h => h) (yieldsIf_fld (by kernel_rfl) _ (.tmp 3) 7 rfl (.pointer (some ⟨g, 0, none⟩)) (.pointer (some ⟨g, 14, none⟩)) (by kernel_rfl) (fld_isZeroSay_7 g)) S_0.out ?_
    refine wpAnyH_take (i := 3) (v := _) rfl (by kernel_rfl) (by kernel_rfl) (by kernel_rfl) (fun _ _ _ h => h) (yieldsIf_load_one (by kernel_rfl) _ (.tmp 26) rfl g 14 (by kernel_rfl) (.int .u8 a.kind) (fun w h => (FC.out w g h).2.2.2.1) _ Tryd.underlying42 rfl) S_0.out ?_
    refine wpAnyH_take (i := 4) (v := _) rfl (by kernel_rfl) (by kernel_rfl) (by kernel_rfl) (fun _ _ _ h => h) (yieldsIf_fld (by kernel_rfl) _ (.tmp 3) 12 rfl (.pointer (some ⟨g, 0, none⟩)) (.pointer (some ⟨g, 19, none⟩)) (by kernel_rfl) (fld_isZeroSay_12 g)) S_0.out ?_
    refine wpAnyH_take (i := 5) (v := _) rfl (by kernel_rfl) (by kernel_rfl) (by kernel_rfl) (fun _ _ _ h => h) (yieldsIf_load_one (by kernel_rfl) _ (.tmp 28) rfl g 19 (by kernel_rfl) (.bool a.gone) (fun w h => (FC.out w g h).2.2.2.2.1) _ Tryd.underlying4 rfl) S_0.out ?_
    refine wpAnyH_take (i := 6) (v := _) rfl (by kernel_rfl) (by kernel_rfl) (by kernel_rfl) (fun _ _ _ h => h) (yieldsIf_fld (by kernel_rfl) _ (.tmp 6) 1 rfl (.pointer (some ⟨h, 0, none⟩)) (.pointer (some ⟨h, 1, none⟩)) (by kernel_rfl) (fld_isZeroSay_1 h)) S_0.out ?_
    refine wpAnyH_frame fun fr1 hfr1 => ?_
    have ex1 : fr1.eval (.tmp 30) = .pointer (some ⟨h, 1, none⟩) := by rw [hfr1]; kernel_rfl
    have ey1 : fr1.eval (.tmp 25) = (.int .u64 a.siz) := by rw [hfr1]; kernel_rfl
    refine wpAnyH_one 7 _ (by kernel_rfl) rfl fun K hK => ?_
    refine step_store_fld rfl _ (.tmp 30) (.tmp 25) rfl h 1 ex1 _ zs (.int .u64 a.siz) ey1 Xd (Lib.hid (by have := HZ.out; omega)) (by kernel_rfl) rfl ?_
    intro x1 XS1 O1 hq1
    obtain ⟨C1, hC1⟩ : ∃ x, x = zs.set 1 (.int .u64 a.siz) := ⟨_, rfl⟩
    have HC1 := Lib.hid hC1
    have HL1 : Hid (C1.length = 20) := by show _ = _; rw [hC1, List.length_set]; exact HZ.out
    rw [← hC1] at XS1
    have ST1 := Lib.hid (Blk.only S_0.out O1.out hgh)
    have LT1 := Lib.hid (below_only Ld.out O1.out hwh)
    refine hK _ _ ST1.out ?_
    clear hK K ex1 ey1 hC1
    change wpAnyH _ _ _ _ _ _ _ fr1 x1
    subst hfr1
    refine wpAnyH_take (i := 8) (v := _) rfl (by kernel_rfl) (by kernel_rfl) (by kernel_rfl) (fun _ _ _ h => h) (yieldsIf_fld (by kernel_rfl) _ (.tmp 6) 7 rfl (.pointer (some ⟨h, 0, none⟩)) (.pointer (some ⟨h, 14, none⟩)) (by kernel_rfl) (fld_isZeroSay_7 h)) ST1.out ?_
    refine wpAnyH_frame fun fr2 hfr2 => ?_
    have ex2 : fr2.eval (.tmp 31) = .pointer (some ⟨h, 14, none⟩) := by rw [hfr2]; kernel_rfl
    have ey2 : fr2.eval (.tmp 27) = (.int .u8 a.kind) := by rw [hfr2]; kernel_rfl
    refine wpAnyH_one 9 _ (by kernel_rfl) rfl fun K hK => ?_
    refine step_store_fld rfl _ (.tmp 31) (.tmp 27) rfl h 14 ex2 _ C1 (.int .u8 a.kind) ey2 XS1 (Lib.hid (by have := HL1.out; omega)) (by kernel_rfl) rfl ?_
    intro x2 XS2 O2 hq2
    obtain ⟨C2, hC2⟩ : ∃ x, x = C1.set 14 (.int .u8 a.kind) := ⟨_, rfl⟩
    have HC2 := Lib.hid hC2
    have HL2 : Hid (C2.length = 20) := by show _ = _; rw [hC2, List.length_set]; exact HL1.out
    rw [← hC2] at XS2
    have ST2 := Lib.hid (Blk.only ST1.out O2.out hgh)
    have LT2 := Lib.hid (below_only LT1.out O2.out hwh)
    refine hK _ _ ST2.out ?_
    clear hK K ex2 ey2 hC2
    change wpAnyH _ _ _ _ _ _ _ fr2 x2
    subst hfr2
    refine wpAnyH_take (i := 10) (v := _) rfl (by kernel_rfl) (by kernel_rfl) (by kernel_rfl) (fun _ _ _ h => h) (yieldsIf_fld (by kernel_rfl) _ (.tmp 6) 12 rfl (.pointer (some ⟨h, 0, none⟩)) (.pointer (some ⟨h, 19, none⟩)) (by kernel_rfl) (fld_isZeroSay_12 h)) ST2.out ?_
    refine wpAnyH_frame fun fr3 hfr3 => ?_
    have ex3 : fr3.eval (.tmp 32) = .pointer (some ⟨h, 19, none⟩) := by rw [hfr3]; kernel_rfl
    have ey3 : fr3.eval (.tmp 29) = (.bool a.gone) := by rw [hfr3]; kernel_rfl
    refine wpAnyH_one 11 _ (by kernel_rfl) rfl fun K hK => ?_
    refine step_store_fld rfl _ (.tmp 32) (.tmp 29) rfl h 19 ex3 _ C2 (.bool a.gone) ey3 XS2 (Lib.hid (by have := HL2.out; omega)) (by kernel_rfl) rfl ?_
    intro x3 XS3 O3 hq3
    obtain ⟨C3, hC3⟩ : ∃ x, x = C2.set 19 (.bool a.gone) := ⟨_, rfl⟩
    have HC3 := Lib.hid hC3
    have HL3 : Hid (C3.length = 20) := by show _ = _; rw [hC3, List.length_set]; exact HL2.out
    rw [← hC3] at XS3
    have ST3 := Lib.hid (Blk.only ST2.out O3.out hgh)
    have LT3 := Lib.hid (below_only LT2.out O3.out hwh)
    refine hK _ _ ST3.out ?_
    clear hK K ex3 ey3 hC3
    change wpAnyH _ _ _ _ _ _ _ fr3 x3
    subst hfr3
    refine wpAnyH_done (by kernel_rfl) ?_ _
    go_simp
    clear c17 c18 c1 c14 c19 c13 c10
    obtain ⟨c17, c18, c1, c14, c19, c13, c10⟩ := FC.out x3 g ST3.out
    have HEQ : Hid (C3 = scells (.slice none 0 0) (.slice none 0 0) { zeroSay with siz := a.siz, kind := a.kind, gone := a.gone }) := by
      show _ = _
      rw [HC3.out, HC2.out, HC1.out, HZS.out]
      rfl
    have Kd := Lib.hid ST3.out
    go_wp2_with fail
    refine (CK.out _).mono ?_
    rintro e v1 ⟨rfl, rfl⟩
    go_wp2_with (first
      | ((with_reducible show wpList _ _ _ (⟨some 49, _, _, _, _, _⟩ :: _) _ _); refine wpList_load_want (by kernel_rfl) _ (.tmp 6) rfl h rfl _ C3 XS3 20 _ Tryd.underlying45 rfl size_say HL3 ?_)
      | ((with_reducible show wpList _ _ _ (⟨some 50, _, _, _, _, _⟩ :: _) _ _); refine wpList_load_want (by kernel_rfl) _ (.tmp 3) rfl g rfl _ cs Kd 20 _ Tryd.underlying45 rfl size_say HL ?_)
      | fail)
    refine (CS.out _ C3 (HWI.out _ _ HEQ LT3.out) LT3.out).mono ?_
    rintro e w5 ⟨rfl, L05⟩
    have K5 := Lib.hid (Kd.out.over L05)
    have M5 := Lib.hid (step LT3.out L05)
    have hs5 := M5.out.size
    clear c17 c18 c1 c14 c19 c13 c10
    obtain ⟨c17, c18, c1, c14, c19, c13, c10⟩ := FC.out w5 g K5.out
    clear L05 CS CK HWI
    have hg5' : g < w5.heap.size := K5.out.lt
    go_wp2
    go_loopw [7] (fun i wr => ∃ j : Nat, i = .int .i64 j ∧ j ≤ 0 ∧ Hid ((a.ents.take j).all entOk = true) ∧ Hid (Below w5.heap.size w5 wr)) (fun i _ => 0 - (intOf i).toNat)
    case atStart => exact ⟨0, rfl, Nat.zero_le _, HA0.out, Below.refl _ _⟩
    case round =>
      obtain ⟨j, rfl, hj, HS, NR⟩ := hrel
      clear c17 c18 c1 c14 c19 c13 c10
      have KR := Lib.hid (K5.out.below NR.out hg5')
      obtain ⟨c17, c18, c1, c14, c19, c13, c10⟩ := FC.out wr g KR.out
      obtain rfl : j = 0 := by omega
      have MB := Lib.hid (M5.out.trans (NR.out.mono hs5))
      have hsr := MB.out.size
      have N0 : Hid (Below wr.heap.size wr wr) := Below.refl _ _
      have H00 : Hid (Own wr wr.heap.size (.slice none 0 0) []) := Own.nil _ _
      have hgr' : g < wr.heap.size := KR.out.lt
      go_wp2_with fail
      refine (CL8.out wr wr.heap.size _ ([]) a.siz H00.out (by simp) N0.out.size l_siz u_siz).mono ?_
      rintro e y1 ⟨v1, rfl, ho1, L1⟩
      have HO1 := Lib.hid ho1
      have N1 := Lib.hid (N0.out.trans L1)
      have Ky1 := Lib.hid (KR.out.below N1.out hgr')
      clear ho1 L1
      clear c17 c18 c1 c14 c19 c13 c10
      obtain ⟨c17, c18, c1, c14, c19, c13, c10⟩ := FC.out y1 g Ky1.out
      go_wp2_with fail
      refine (CL2.out y1 wr.heap.size _ ([] ++ le a.siz 8) a.kind HO1.out (by simp [le_length]) N1.out.size l_kind (by omega)).mono ?_
      rintro e y2 ⟨v2, rfl, ho2, L2⟩
      have HO2 := Lib.hid ho2
      have N2 := Lib.hid (N1.out.trans L2)
      have Ky2 := Lib.hid (KR.out.below N2.out hgr')
      clear ho2 L2
      clear c17 c18 c1 c14 c19 c13 c10
      obtain ⟨c17, c18, c1, c14, c19, c13, c10⟩ := FC.out y2 g Ky2.out
      go_wp2_with fail
      refine (CU.out _ _).mono ?_
      rintro e wt ⟨rfl, rfl⟩
      go_wp2_with fail
      refine (CL2.out y2 wr.heap.size _ (([] ++ le a.siz 8) ++ le a.kind 2) (truthI a.gone) HO2.out (by simp [le_length]) N2.out.size tg0 (by omega)).mono ?_
      rintro e y3 ⟨v3, rfl, ho3, L3⟩
      have HO3 := Lib.hid ho3
      have N3 := Lib.hid (N2.out.trans L3)
      have Ky3 := Lib.hid (KR.out.below N3.out hgr')
      clear ho3 L3
      clear c17 c18 c1 c14 c19 c13 c10
      obtain ⟨c17, c18, c1, c14, c19, c13, c10⟩ := FC.out y3 g Ky3.out
      go_wp2
      go_ret2
      refine HQ.out _ _ _ rfl ?_ (MB.out.trans (N3.out.mono hsr))
      have h9 := Own.mono HO3.out hsr
      simpa [List.append_assoc] using h9
  · subst h17
    have HWI : Hid (∀ (w' : World) (C : List Value), Hid (C = scells (.slice none 0 0) (.slice none 0 0) zeroSay) → Below w.heap.size w w' → SayIs w' w'.heap.size C (wantIS 17 a)) := fun w' C hC hb => ⟨none, 0, 0, none, 0, 0, hC.out, Holds.nil _ _, HoldsS.nil _ _ _ _⟩
    by_cases hw : wantIS 17 a = a
    rotate_left
    · have HQ := Lib.hid (HE2.out (fun h => hw (hne.2 h.1)))
      rw [decide_eq_false hw] at CS
      clear hw hne HE HE2 HQ0 hns hcs ka h12
      go_enter Tryd.func18, Tryd.ntmps18
      go_wp2_with (first
        | ((with_reducible show wpList _ _ _ (⟨some 3, _, _, _, _, _⟩ :: _) _ _); refine wpList_box_blk rfl _ (.tmp 1) rfl cs rfl ?_; intro g w1 hg1 hg2 K1 L1)
        | ((with_reducible show wpList _ _ _ (⟨some 6, _, _, _, _, _⟩ :: _) _ _); refine wpList_alloc_blk rfl _ rfl zs _ ZH ?_; intro h w2 hg3 hg4 Z2 L02; have K2 := Lib.hid (K1.out.over L02.out); have L2 := Lib.hid (step L1.out L02.out); obtain ⟨c17, c18, c1, c14, c19, c13, c10⟩ := FC.out w2 g K2.out; have hgh : g ≠ h := (by omega); have hwh : w.heap.size ≤ h := (by have := L1.out.size; omega))
        | fail)
      refine (CK.out _).mono ?_
      rintro e v1 ⟨rfl, rfl⟩
      go_wp2_with (first
        | ((with_reducible show wpList _ _ _ (⟨some 49, _, _, _, _, _⟩ :: _) _ _); refine wpList_load_want (by kernel_rfl) _ (.tmp 6) rfl h rfl _ zs Z2 20 _ Tryd.underlying45 rfl size_say HZ ?_)
        | ((with_reducible show wpList _ _ _ (⟨some 50, _, _, _, _, _⟩ :: _) _ _); refine wpList_load_want (by kernel_rfl) _ (.tmp 3) rfl g rfl _ cs K2 20 _ Tryd.underlying45 rfl size_say HL ?_)
        | fail)
      refine (CS.out _ zs (HWI.out _ _ HZS L2.out) L2.out).mono ?_
      rintro e w5 ⟨rfl, L05⟩
      have K5 := Lib.hid (K2.out.over L05)
      have M5 := Lib.hid (step L2.out L05)
      have hs5 := M5.out.size
      clear c17 c18 c1 c14 c19 c13 c10
      obtain ⟨c17, c18, c1, c14, c19, c13, c10⟩ := FC.out w5 g K5.out
      clear L05 CS CK HWI
      go_wp2
      go_ret2
      exact HQ.out _ _ rfl M5.out
    have hnm := hne.1 hw
    rw [decide_eq_true hw] at CS
    have hen : a.ents = [] := by
      have h := congrArg SayV.ents hw
      exact h.symm
    have hk0 : a.kind = 0 := by
      have h := congrArg SayV.kind hw
      exact h.symm
    have hkd : a.kind ≤ 2 := by omega
    have hr1 : ¬ (2 : Int) < a.kind := by omega
    clear hk0
    have hm0 : M2 = 0 := by rw [← hml, hen]; rfl
    have he0 : jpErr 17 a = 0 := by
      unfold jpErr
      rw [if_pos ⟨hnm, hkd, by rw [hen]; rfl⟩, if_pos (by rw [hen]; exact Nat.zero_le _), if_neg (by decide)]
    have HQ := Lib.hid (HQ0.out he0)
    have hb0 : bodyIS 17 a = List.replicate 4 0 := by unfold bodyIS; rw [if_neg (by decide), if_neg (by decide), if_neg (by decide)]
    rw [hb0] at HQ
    subst hm0
    clear hw hne HE HE2 HQ0 hns hcs ka h12 hnm hkd hen he0 hb0 hml
    go_enter Tryd.func18, Tryd.ntmps18
    go_wp2_with (first
      | ((with_reducible show wpList _ _ _ (⟨some 3, _, _, _, _, _⟩ :: _) _ _); refine wpList_box_blk rfl _ (.tmp 1) rfl cs rfl ?_; intro g w1 hg1 hg2 K1 L1)
      | ((with_reducible show wpList _ _ _ (⟨some 6, _, _, _, _, _⟩ :: _) _ _); refine wpList_alloc_blk rfl _ rfl zs _ ZH ?_; intro h w2 hg3 hg4 Z2 L02; have K2 := Lib.hid (K1.out.over L02.out); have L2 := Lib.hid (step L1.out L02.out); obtain ⟨c17, c18, c1, c14, c19, c13, c10⟩ := FC.out w2 g K2.out; have hgh : g ≠ h := (by omega); have hwh : w.heap.size ≤ h := (by have := L1.out.size; omega))
      | fail)
    refine (CK.out _).mono ?_
    rintro e v1 ⟨rfl, rfl⟩
    go_wp2_with (first
      | ((with_reducible show wpList _ _ _ (⟨some 49, _, _, _, _, _⟩ :: _) _ _); refine wpList_load_want (by kernel_rfl) _ (.tmp 6) rfl h rfl _ zs Z2 20 _ Tryd.underlying45 rfl size_say HZ ?_)
      | ((with_reducible show wpList _ _ _ (⟨some 50, _, _, _, _, _⟩ :: _) _ _); refine wpList_load_want (by kernel_rfl) _ (.tmp 3) rfl g rfl _ cs K2 20 _ Tryd.underlying45 rfl size_say HL ?_)
      | fail)
    refine (CS.out _ zs (HWI.out _ _ HZS L2.out) L2.out).mono ?_
    rintro e w5 ⟨rfl, L05⟩
    have K5 := Lib.hid (K2.out.over L05)
    have M5 := Lib.hid (step L2.out L05)
    have hs5 := M5.out.size
    clear c17 c18 c1 c14 c19 c13 c10
    obtain ⟨c17, c18, c1, c14, c19, c13, c10⟩ := FC.out w5 g K5.out
    clear L05 CS CK HWI
    have hg5' : g < w5.heap.size := K5.out.lt
    go_wp2
    go_loopw [7] (fun i wr => ∃ j : Nat, i = .int .i64 j ∧ j ≤ 0 ∧ Hid ((a.ents.take j).all entOk = true) ∧ Hid (Below w5.heap.size w5 wr)) (fun i _ => 0 - (intOf i).toNat)
    case atStart => exact ⟨0, rfl, Nat.zero_le _, HA0.out, Below.refl _ _⟩
    case round =>
      obtain ⟨j, rfl, hj, HS, NR⟩ := hrel
      clear c17 c18 c1 c14 c19 c13 c10
      have KR := Lib.hid (K5.out.below NR.out hg5')
      obtain ⟨c17, c18, c1, c14, c19, c13, c10⟩ := FC.out wr g KR.out
      obtain rfl : j = 0 := by omega
      have MB := Lib.hid (M5.out.trans (NR.out.mono hs5))
      have hsr := MB.out.size
      have N0 : Hid (Below wr.heap.size wr wr) := Below.refl _ _
      have H00 : Hid (Own wr wr.heap.size (.slice none 0 0) []) := Own.nil _ _
      have hgr' : g < wr.heap.size := KR.out.lt
      go_wp2_with fail
      refine (CL4.out wr wr.heap.size _ ([]) 0 H00.out (by simp) N0.out.size (Int.le_refl 0) (by decide)).mono ?_
      rintro e y1 ⟨v1, rfl, ho1, L1⟩
      have HO1 := Lib.hid ho1
      have N1 := Lib.hid (N0.out.trans L1)
      have Ky1 := Lib.hid (KR.out.below N1.out hgr')
      clear ho1 L1
      clear c17 c18 c1 c14 c19 c13 c10
      obtain ⟨c17, c18, c1, c14, c19, c13, c10⟩ := FC.out y1 g Ky1.out
      go_wp2
      go_ret2
      refine HQ.out _ _ _ rfl ?_ (MB.out.trans (N1.out.mono hsr))
      have h9 := Own.mono HO1.out hsr
      rw [show le 0 4 = List.replicate 4 0 from rfl] at h9
      simpa using h9
  · subst h18
    have hld : Bytes [a.lev, 0, 0, 0] := by
      intro x hx
      simp only [List.mem_cons, List.not_mem_nil, or_false] at hx
      rcases hx with hx | hx | hx | hx <;> omega
    have HLD := Lib.hid hld
    clear hld
    have HWI : Hid (∀ (w' : World) (C : List Value), Hid (C = scells (.slice none 0 0) (.slice none 0 0) { zeroSay with file := a.file, lev := a.lev }) → Below w.heap.size w w' → SayIs w' w'.heap.size C (wantIS 18 a)) := fun w' C hC hb => ⟨none, 0, 0, none, 0, 0, hC.out, Holds.nil _ _, HoldsS.nil _ _ _ _⟩
    by_cases hw : wantIS 18 a = a
    rotate_left
    · have HQ := Lib.hid (HE2.out (fun h => hw (hne.2 h.1)))
      rw [decide_eq_false hw] at CS
      clear hw hne HE HE2 HQ0 hns hcs ka h12
      go_enter Tryd.func18, Tryd.ntmps18
      go_upto_region 8 with (first
        | ((with_reducible show wpList _ _ _ (⟨some 3, _, _, _, _, _⟩ :: _) _ _); refine wpList_box_blk rfl _ (.tmp 1) rfl cs rfl ?_; intro g w1 hg1 hg2 K1 L1)
        | ((with_reducible show wpList _ _ _ (⟨some 6, _, _, _, _, _⟩ :: _) _ _); refine wpList_alloc_blk rfl _ rfl zs _ ZH ?_; intro h w2 hg3 hg4 Z2 L02; have K2 := Lib.hid (K1.out.over L02.out); have L2 := Lib.hid (step L1.out L02.out); obtain ⟨c17, c18, c1, c14, c19, c13, c10⟩ := FC.out w2 g K2.out; have hgh : g ≠ h := (by omega); have hwh : w.heap.size ≤ h := (by have := L1.out.size; omega))
        | fail)
      refine wp_region_held (S := fun w' => Blk w' g 45 cs) (by kernel_rfl) ?_
      change wpAnyH _ _ _ _ _ _ _ _ w2.drew
      have S_0 : Hid (Blk w2.drew g 45 cs) := K2.out.drew
      have Xd := Lib.hid (Blk.drew Z2.out)
      have Ld := Lib.hid (L2.out.drew)
      refine wpAnyH_take (i := 0) (v := _) rfl (by kernel_rfl) (by kernel_rfl) (by kernel_rfl) (fun _ _ _ h => h) (yieldsIf_fld (by kernel_rfl) _ (.tmp 3) 6 rfl (.pointer (some ⟨g, 0, none⟩)) (.pointer (some ⟨g, 13, none⟩)) (by kernel_rfl) (fld_isZeroSay_6 g)) S_0.out ?_
      refine wpAnyH_take (i := 1) (v := _) rfl (by kernel_rfl) (by kernel_rfl) (by kernel_rfl) (fun _ _ _ h => h) (yieldsIf_load_one (by kernel_rfl) _ (.tmp 35) rfl g 13 (by kernel_rfl) (.int .u64 a.file) (fun w h => (FC.out w g h).2.2.2.2.2.1) _ Tryd.underlying28 rfl) S_0.out ?_
      refine wpAnyH_take (i := 2) (v := _) rfl (by kernel_rfl) (by kernel_rfl) (by kernel_rfl) (fun _ _ _ h => h) (yieldsIf_fld (by kernel_rfl) _ (.tmp 3) 3 rfl (.pointer (some ⟨g, 0, none⟩)) (.pointer (some ⟨g, 10, none⟩)) (by kernel_rfl) (fld_isZeroSay_3 g)) S_0.out ?_
      refine wpAnyH_take (i := 3) (v := _) rfl (by kernel_rfl) (by kernel_rfl) (by kernel_rfl) (fun _ _ _ h => h) (yieldsIf_load_one (by kernel_rfl) _ (.tmp 37) rfl g 10 (by kernel_rfl) (.int .u8 a.lev) (fun w h => (FC.out w g h).2.2.2.2.2.2) _ Tryd.underlying5 rfl) S_0.out ?_
      refine wpAnyH_take (i := 4) (v := _) rfl (by kernel_rfl) (by kernel_rfl) (by kernel_rfl) (fun _ _ _ h => h) (yieldsIf_fld (by kernel_rfl) _ (.tmp 6) 6 rfl (.pointer (some ⟨h, 0, none⟩)) (.pointer (some ⟨h, 13, none⟩)) (by kernel_rfl) (fld_isZeroSay_6 h)) S_0.out ?_
      refine wpAnyH_frame fun fr1 hfr1 => ?_
      have ex1 : fr1.eval (.tmp 39) = .pointer (some ⟨h, 13, none⟩) := by rw [hfr1]; kernel_rfl
      have ey1 : fr1.eval (.tmp 36) = (.int .u64 a.file) := by rw [hfr1]; kernel_rfl
      refine wpAnyH_one 5 _ (by kernel_rfl) rfl fun K hK => ?_
      refine step_store_fld rfl _ (.tmp 39) (.tmp 36) rfl h 13 ex1 _ zs (.int .u64 a.file) ey1 Xd (Lib.hid (by have := HZ.out; omega)) (by kernel_rfl) rfl ?_
      intro x1 XS1 O1 hq1
      obtain ⟨C1, hC1⟩ : ∃ x, x = zs.set 13 (.int .u64 a.file) := ⟨_, rfl⟩
      have HC1 := Lib.hid hC1
      have HL1 : Hid (C1.length = 20) := by show _ = _; rw [hC1, List.length_set]; exact HZ.out
      rw [← hC1] at XS1
      have ST1 := Lib.hid (Blk.only S_0.out O1.out hgh)
      have LT1 := Lib.hid (below_only Ld.out O1.out hwh)
      refine hK _ _ ST1.out ?_
      clear hK K ex1 ey1 hC1
      change wpAnyH _ _ _ _ _ _ _ fr1 x1
      subst hfr1
      refine wpAnyH_take (i := 6) (v := _) rfl (by kernel_rfl) (by kernel_rfl) (by kernel_rfl) (fun _ _ _ h => h) (yieldsIf_fld (by kernel_rfl) _ (.tmp 6) 3 rfl (.pointer (some ⟨h, 0, none⟩)) (.pointer (some ⟨h, 10, none⟩)) (by kernel_rfl) (fld_isZeroSay_3 h)) ST1.out ?_
      refine wpAnyH_frame fun fr2 hfr2 => ?_
      have ex2 : fr2.eval (.tmp 40) = .pointer (some ⟨h, 10, none⟩) := by rw [hfr2]; kernel_rfl
      have ey2 : fr2.eval (.tmp 38) = (.int .u8 a.lev) := by rw [hfr2]; kernel_rfl
      refine wpAnyH_one 7 _ (by kernel_rfl) rfl fun K hK => ?_
      refine step_store_fld rfl _ (.tmp 40) (.tmp 38) rfl h 10 ex2 _ C1 (.int .u8 a.lev) ey2 XS1 (Lib.hid (by have := HL1.out; omega)) (by kernel_rfl) rfl ?_
      intro x2 XS2 O2 hq2
      obtain ⟨C2, hC2⟩ : ∃ x, x = C1.set 10 (.int .u8 a.lev) := ⟨_, rfl⟩
      have HC2 := Lib.hid hC2
      have HL2 : Hid (C2.length = 20) := by show _ = _; rw [hC2, List.length_set]; exact HL1.out
      rw [← hC2] at XS2
      have ST2 := Lib.hid (Blk.only ST1.out O2.out hgh)
      have LT2 := Lib.hid (below_only LT1.out O2.out hwh)
      refine hK _ _ ST2.out ?_
      clear hK K ex2 ey2 hC2
      change wpAnyH _ _ _ _ _ _ _ fr2 x2
      subst hfr2
      refine wpAnyH_done (by kernel_rfl) ?_ _
      go_simp
      clear c17 c18 c1 c14 c19 c13 c10
      obtain ⟨c17, c18, c1, c14, c19, c13, c10⟩ := FC.out x2 g ST2.out
      have HEQ : Hid (C2 = scells (.slice none 0 0) (.slice none 0 0) { zeroSay with file := a.file, lev := a.lev }) := by
        show _ = _
        rw [HC2.out, HC1.out, HZS.out]
        rfl
      have Kd := Lib.hid ST2.out
      go_wp2_with fail
      refine (CK.out _).mono ?_
      rintro e v1 ⟨rfl, rfl⟩
      go_wp2_with (first
        | ((with_reducible show wpList _ _ _ (⟨some 49, _, _, _, _, _⟩ :: _) _ _); refine wpList_load_want (by kernel_rfl) _ (.tmp 6) rfl h rfl _ C2 XS2 20 _ Tryd.underlying45 rfl size_say HL2 ?_)
        | ((with_reducible show wpList _ _ _ (⟨some 50, _, _, _, _, _⟩ :: _) _ _); refine wpList_load_want (by kernel_rfl) _ (.tmp 3) rfl g rfl _ cs Kd 20 _ Tryd.underlying45 rfl size_say HL ?_)
        | fail)
      refine (CS.out _ C2 (HWI.out _ _ HEQ LT2.out) LT2.out).mono ?_
      rintro e w5 ⟨rfl, L05⟩
      have K5 := Lib.hid (Kd.out.over L05)
      have M5 := Lib.hid (step LT2.out L05)
      have hs5 := M5.out.size
      clear c17 c18 c1 c14 c19 c13 c10
      obtain ⟨c17, c18, c1, c14, c19, c13, c10⟩ := FC.out w5 g K5.out
      clear L05 CS CK HWI
      go_wp2
      go_ret2
      exact HQ.out _ _ rfl M5.out
    have hnm := hne.1 hw
    rw [decide_eq_true hw] at CS
    have hen : a.ents = [] := by
      have h := congrArg SayV.ents hw
      exact h.symm
    have hk0 : a.kind = 0 := by
      have h := congrArg SayV.kind hw
      exact h.symm
    have hkd : a.kind ≤ 2 := by omega
    have hr1 : ¬ (2 : Int) < a.kind := by omega
    clear hk0
    have hm0 : M2 = 0 := by rw [← hml, hen]; rfl
    have he0 : jpErr 18 a = 0 := by
      unfold jpErr
      rw [if_pos ⟨hnm, hkd, by rw [hen]; rfl⟩, if_pos (by rw [hen]; exact Nat.zero_le _), if_neg (by decide)]
    have HQ := Lib.hid (HQ0.out he0)
    have hb0 : bodyIS 18 a = le a.file 8 ++ [a.lev, 0, 0, 0] := by unfold bodyIS; rw [if_neg (by decide), if_neg (by decide), if_pos rfl]; show le a.file 8 ++ ([a.lev % 256] ++ [0, 0, 0]) = _; rw [show a.lev % 256 = a.lev from by omega]; rfl
    rw [hb0] at HQ
    subst hm0
    clear hw hne HE HE2 HQ0 hns hcs ka h12 hnm hkd hen he0 hb0 hml
    go_enter Tryd.func18, Tryd.ntmps18
    go_upto_region 8 with (first
      | ((with_reducible show wpList _ _ _ (⟨some 3, _, _, _, _, _⟩ :: _) _ _); refine wpList_box_blk rfl _ (.tmp 1) rfl cs rfl ?_; intro g w1 hg1 hg2 K1 L1)
      | ((with_reducible show wpList _ _ _ (⟨some 6, _, _, _, _, _⟩ :: _) _ _); refine wpList_alloc_blk rfl _ rfl zs _ ZH ?_; intro h w2 hg3 hg4 Z2 L02; have K2 := Lib.hid (K1.out.over L02.out); have L2 := Lib.hid (step L1.out L02.out); obtain ⟨c17, c18, c1, c14, c19, c13, c10⟩ := FC.out w2 g K2.out; have hgh : g ≠ h := (by omega); have hwh : w.heap.size ≤ h := (by have := L1.out.size; omega))
      | fail)
    refine wp_region_held (S := fun w' => Blk w' g 45 cs) (by kernel_rfl) ?_
    change wpAnyH _ _ _ _ _ _ _ _ w2.drew
    have S_0 : Hid (Blk w2.drew g 45 cs) := K2.out.drew
    have Xd := Lib.hid (Blk.drew Z2.out)
    have Ld := Lib.hid (L2.out.drew)
    refine wpAnyH_take (i := 0) (v := _) rfl (by kernel_rfl) (by kernel_rfl) (by kernel_rfl) (fun _ _ _ h => h) (yieldsIf_fld (by kernel_rfl) _ (.tmp 3) 6 rfl (.pointer (some ⟨g, 0, none⟩)) (.pointer (some ⟨g, 13, none⟩)) (by kernel_rfl) (fld_isZeroSay_6 g)) S_0.out ?_
    refine wpAnyH_take (i := 1) (v := _) rfl (by kernel_rfl) (by kernel_rfl) (by kernel_rfl) (fun _ _ _ h => h) (yieldsIf_load_one (by kernel_rfl) _ (.tmp 35) rfl g 13 (by kernel_rfl) (.int .u64 a.file) (fun w h => (FC.out w g h).2.2.2.2.2.1) _ Tryd.underlying28 rfl) S_0.out ?_
    refine wpAnyH_take (i := 2) (v := _) rfl (by kernel_rfl) (by kernel_rfl) (by kernel_rfl) (fun _ _ _ h => h) (yieldsIf_fld (by kernel_rfl) _ (.tmp 3) 3 rfl (.pointer (some ⟨g, 0, none⟩)) (.pointer (some ⟨g, 10, none⟩)) (by kernel_rfl) (fld_isZeroSay_3 g)) S_0.out ?_
    refine wpAnyH_take (i := 3) (v := _) rfl (by kernel_rfl) (by kernel_rfl) (by kernel_rfl) (fun _ _ _ h => h) (yieldsIf_load_one (by kernel_rfl) _ (.tmp 37) rfl g 10 (by kernel_rfl) (.int .u8 a.lev) (fun w h => (FC.out w g h).2.2.2.2.2.2) _ Tryd.underlying5 rfl) S_0.out ?_
    refine wpAnyH_take (i := 4) (v := _) rfl (by kernel_rfl) (by kernel_rfl) (by kernel_rfl) (fun _ _ _ h => h) (yieldsIf_fld (by kernel_rfl) _ (.tmp 6) 6 rfl (.pointer (some ⟨h, 0, none⟩)) (.pointer (some ⟨h, 13, none⟩)) (by kernel_rfl) (fld_isZeroSay_6 h)) S_0.out ?_
    refine wpAnyH_frame fun fr1 hfr1 => ?_
    have ex1 : fr1.eval (.tmp 39) = .pointer (some ⟨h, 13, none⟩) := by rw [hfr1]; kernel_rfl
    have ey1 : fr1.eval (.tmp 36) = (.int .u64 a.file) := by rw [hfr1]; kernel_rfl
    refine wpAnyH_one 5 _ (by kernel_rfl) rfl fun K hK => ?_
    refine step_store_fld rfl _ (.tmp 39) (.tmp 36) rfl h 13 ex1 _ zs (.int .u64 a.file) ey1 Xd (Lib.hid (by have := HZ.out; omega)) (by kernel_rfl) rfl ?_
    intro x1 XS1 O1 hq1
    obtain ⟨C1, hC1⟩ : ∃ x, x = zs.set 13 (.int .u64 a.file) := ⟨_, rfl⟩
    have HC1 := Lib.hid hC1
    have HL1 : Hid (C1.length = 20) := by show _ = _; rw [hC1, List.length_set]; exact HZ.out
    rw [← hC1] at XS1
    have ST1 := Lib.hid (Blk.only S_0.out O1.out hgh)
    have LT1 := Lib.hid (below_only Ld.out O1.out hwh)
    refine hK _ _ ST1.out ?_
    clear hK K ex1 ey1 hC1
    change wpAnyH _ _ _ _ _ _ _ fr1 x1
    subst hfr1
    refine wpAnyH_take (i := 6) (v := _) rfl (by kernel_rfl) (by kernel_rfl) (by kernel_rfl) (fun _ _ _ h => h) (yieldsIf_fld (by kernel_rfl) _ (.tmp 6) 3 rfl (.pointer (some ⟨h, 0, none⟩)) (.pointer (some ⟨h, 10, none⟩)) (by kernel_rfl) (fld_isZeroSay_3 h)) ST1.out ?_
    refine wpAnyH_frame fun fr2 hfr2 => ?_
    have ex2 : fr2.eval (.tmp 40) = .pointer (some ⟨h, 10, none⟩) := by rw [hfr2]; kernel_rfl
    have ey2 : fr2.eval (.tmp 38) = (.int .u8 a.lev) := by rw [hfr2]; kernel_rfl
    refine wpAnyH_one 7 _ (by kernel_rfl) rfl fun K hK => ?_
    refine step_store_fld rfl _ (.tmp 40) (.tmp 38) rfl h 10 ex2 _ C1 (.int .u8 a.lev) ey2 XS1 (Lib.hid (by have := HL1.out; omega)) (by kernel_rfl) rfl ?_
    intro x2 XS2 O2 hq2
    obtain ⟨C2, hC2⟩ : ∃ x, x = C1.set 10 (.int .u8 a.lev) := ⟨_, rfl⟩
    have HC2 := Lib.hid hC2
    have HL2 : Hid (C2.length = 20) := by show _ = _; rw [hC2, List.length_set]; exact HL1.out
    rw [← hC2] at XS2
    have ST2 := Lib.hid (Blk.only ST1.out O2.out hgh)
    have LT2 := Lib.hid (below_only LT1.out O2.out hwh)
    refine hK _ _ ST2.out ?_
    clear hK K ex2 ey2 hC2
    change wpAnyH _ _ _ _ _ _ _ fr2 x2
    subst hfr2
    refine wpAnyH_done (by kernel_rfl) ?_ _
    go_simp
    clear c17 c18 c1 c14 c19 c13 c10
    obtain ⟨c17, c18, c1, c14, c19, c13, c10⟩ := FC.out x2 g ST2.out
    have HEQ : Hid (C2 = scells (.slice none 0 0) (.slice none 0 0) { zeroSay with file := a.file, lev := a.lev }) := by
      show _ = _
      rw [HC2.out, HC1.out, HZS.out]
      rfl
    have Kd := Lib.hid ST2.out
    go_wp2_with fail
    refine (CK.out _).mono ?_
    rintro e v1 ⟨rfl, rfl⟩
    go_wp2_with (first
      | ((with_reducible show wpList _ _ _ (⟨some 49, _, _, _, _, _⟩ :: _) _ _); refine wpList_load_want (by kernel_rfl) _ (.tmp 6) rfl h rfl _ C2 XS2 20 _ Tryd.underlying45 rfl size_say HL2 ?_)
      | ((with_reducible show wpList _ _ _ (⟨some 50, _, _, _, _, _⟩ :: _) _ _); refine wpList_load_want (by kernel_rfl) _ (.tmp 3) rfl g rfl _ cs Kd 20 _ Tryd.underlying45 rfl size_say HL ?_)
      | fail)
    refine (CS.out _ C2 (HWI.out _ _ HEQ LT2.out) LT2.out).mono ?_
    rintro e w5 ⟨rfl, L05⟩
    have K5 := Lib.hid (Kd.out.over L05)
    have M5 := Lib.hid (step LT2.out L05)
    have hs5 := M5.out.size
    clear c17 c18 c1 c14 c19 c13 c10
    obtain ⟨c17, c18, c1, c14, c19, c13, c10⟩ := FC.out w5 g K5.out
    clear L05 CS CK HWI
    have hg5' : g < w5.heap.size := K5.out.lt
    go_wp2
    go_loopw [7] (fun i wr => ∃ j : Nat, i = .int .i64 j ∧ j ≤ 0 ∧ Hid ((a.ents.take j).all entOk = true) ∧ Hid (Below w5.heap.size w5 wr)) (fun i _ => 0 - (intOf i).toNat)
    case atStart => exact ⟨0, rfl, Nat.zero_le _, HA0.out, Below.refl _ _⟩
    case round =>
      obtain ⟨j, rfl, hj, HS, NR⟩ := hrel
      clear c17 c18 c1 c14 c19 c13 c10
      have KR := Lib.hid (K5.out.below NR.out hg5')
      obtain ⟨c17, c18, c1, c14, c19, c13, c10⟩ := FC.out wr g KR.out
      obtain rfl : j = 0 := by omega
      have MB := Lib.hid (M5.out.trans (NR.out.mono hs5))
      have hsr := MB.out.size
      have N0 : Hid (Below wr.heap.size wr wr) := Below.refl _ _
      have H00 : Hid (Own wr wr.heap.size (.slice none 0 0) []) := Own.nil _ _
      have hgr' : g < wr.heap.size := KR.out.lt
      go_wp2_with fail
      refine (CL8.out wr wr.heap.size _ ([]) a.file H00.out (by simp) N0.out.size l_file u_file).mono ?_
      rintro e y1 ⟨v1, rfl, ho1, L1⟩
      have HO1 := Lib.hid ho1
      have N1 := Lib.hid (N0.out.trans L1)
      have Ky1 := Lib.hid (KR.out.below N1.out hgr')
      clear ho1 L1
      clear c17 c18 c1 c14 c19 c13 c10
      obtain ⟨c17, c18, c1, c14, c19, c13, c10⟩ := FC.out y1 g Ky1.out
      go_wp2_with (first
        | ((with_reducible show wpList _ _ _ (⟨some 174, _, _, _, _, _⟩ :: _) _ _); refine wpList_slice_blk rfl _ _ 4 _ rfl Tryd.underlying29 ([.int .u8 a.lev, .int .u8 0, .int .u8 0, .int .u8 0] : List Value) (by kernel_rfl) ?_; intro gl z1 hz1 hz2 Yl Ll; have HOl := Lib.hid (Own.below HO1.out Ll.out); have Nl := Lib.hid (N1.out.trans (Ll.out.mono N1.out.size)); have HHl := Lib.hid (HoldsI.lit (xs := [a.lev, 0, 0, 0]) (n := 4) Yl.out rfl HLD.out (by decide)))
        | (at_builtin; refine wpList_append_bytes rfl (.tmp 171) (.tmp 174) rfl wr.heap.size _ ([] ++ le a.file 8) rfl HOl.out (gl + 1) _ 4 4 [a.lev, 0, 0, 0] rfl HHl.out (by simp only [List.length_append, le_length, List.length_nil, List.length_cons]; omega) Nl.out.size ?_; intro va z2 hoa hba hgra; have HO5 := Lib.hid hoa.out; have N5 := Lib.hid (Nl.out.trans hba); clear hoa hba hgra)
        | fail)
      go_ret2
      refine HQ.out _ _ _ rfl ?_ (MB.out.trans (N5.out.mono hsr))
      have h9 := Own.mono HO5.out hsr
      simpa [List.append_assoc] using h9
end Go.Proofs.YtbbjmmooemmeiaaDoor

namespace Go.Proofs.YtbbjmmooemmeiaaDoor
set_option linter.all false
open Go.RowKit
set_option linter.unusedVariables false
set_option maxRecDepth 100000
set_option maxHeartbeats 4000000 in
theorem walk_InfoSays (W : World) (hT : Tabs W) (a0 : Int) (w0 : 0 ≤ a0 ∧ a0 ≤ 65535) (cs1 : List Value) (a1 : SayV) (k1h : a1.ok) (h1h : SayIs W W.heap.size cs1 a1) (b1 : a1.data.length ≤ 1048576 ∧ a1.ents.length ≤ 1048576 ∧ ∀ e ∈ a1.ents, e.name.size ≤ 1048576) :
    Calls Tryd.prog 4 #[.int .u16 a0, .agg cs1.toArray] W fun e W' => e = .returned (.bool true) ∧ Below W.heap.size W W' := by
  have HT := Lib.hid hT
  have HL := Lib.hid (h1h.len k1h)
  have HA := Lib.hid h1h
  have ZH := Lib.hid zero_say
  have HZ : Hid ((scells (.slice none 0 0) (.slice none 0 0) zeroSay).length = 20) := scells_len zeroSay_ok
  obtain ⟨b1b, b1c, b1n⟩ := b1
  have CC : Hid (∀ w : World, Below W.heap.size W w → Calls Tryd.prog 16 #[.agg cs1.toArray] w fun e w' => ∃ cs', e = .returned (.agg cs'.toArray) ∧ SayIs w' w'.heap.size cs' a1 ∧ Below w.heap.size w w') := fun w hb => CopySay_any w cs1 a1 k1h (h1h.over hb) ⟨by omega, by omega⟩
  have CP : Hid (∀ (w : World) (ds : List Value), SayIs w w.heap.size ds a1 → Tabs w → Calls Tryd.prog 17 #[.int .u16 a0, .agg ds.toArray] w fun e w' => ∃ v, e = .returned (.tuple #[v, .int .i64 (jpErr a0 a1)]) ∧ Own w' w.heap.size v (jpOf a0 a1) ∧ Below w.heap.size w w') := fun w ds hd hT => (IPutSay_any w a0 ds a1 w0 k1h hd ⟨by omega, fun e he => by have := b1n e he; omega⟩ hT).mono fun e w' ⟨v, q1, q2, q3⟩ => ⟨v, q1, q2.own8, q3⟩
  have CR : Hid (∀ w : World, Below W.heap.size W w → Calls Tryd.prog 18 #[.int .u16 a0, .agg cs1.toArray] w fun e w' => ∃ v, e = .returned (.tuple #[v, .int .i64 (jpErr a0 a1)]) ∧ Own w' w.heap.size v (jpOf a0 a1) ∧ Below w.heap.size w w') := fun w hb => RIPutSay_any w a0 cs1 a1 w0 k1h (h1h.over hb) ⟨by omega, by omega⟩ (fun e he => by have := b1n e he; omega)
  have CS : Hid (∀ (w : World) (A A' : Option Addr) (n c n' c' : Nat) (ys : List Int), Holds w w.heap.size A n c ys → Holds w w.heap.size A' n' c' ys → Calls Tryd.prog 13 #[.slice A n c, .slice A' n' c'] w fun e w' => e = .returned (.bool true) ∧ ∃ k, w.drewN k = w') := fun w A A' n c n' c' ys h1 h2 => by
    have h3 := Same_any w _ _ _ _ _ _ _ _ ys ys h1 h2
    rwa [decide_eq_true rfl] at h3
  have CQ : Hid (∀ (w : World) (ds : List Value), SayIs w w.heap.size ds a1 → SayIs w w.heap.size cs1 a1 → Calls Tryd.prog 19 #[.agg ds.toArray, .agg cs1.toArray] w fun e w' => e = .returned (.bool true) ∧ Below w.heap.size w w') := fun w ds h1 h2 => by
    have h3 := Says_any w ds cs1 a1 a1 k1h k1h h1 h2 ⟨by omega, by omega⟩ ⟨by omega, by omega⟩
    rwa [decide_eq_true rfl] at h3
  have CL : Hid (∀ w : World, Tabs w → Calls Tryd.prog 15 #[] w fun e w' => e = .returned (.bool true) ∧ Below w.heap.size w w') := ilives_any
  have HYB := Lib.hid (jp_bytes (c := a0) k1h)
  have HYL := Lib.hid (jp_len (c := a0) (a := a1))
  obtain ⟨ys, hys⟩ : ∃ x, x = jpOf a0 a1 := ⟨_, rfl⟩
  obtain ⟨er, her⟩ : ∃ x, x = jpErr a0 a1 := ⟨_, rfl⟩
  rw [← hys, ← her] at CP CR
  rw [← hys] at HYB HYL
  obtain ⟨zs, hzs⟩ : ∃ x, x = scells (.slice none 0 0) (.slice none 0 0) zeroSay := ⟨_, rfl⟩
  rw [← hzs] at ZH HZ
  clear hys her hzs hT h1h
  go_enter Tryd.func4, Tryd.ntmps4
  go_wp2_with (first
    | ((with_reducible show wpList _ _ _ (⟨some 3, _, _, _, _, _⟩ :: _) _ _); refine wpList_box_blk rfl _ (.tmp 1) rfl cs1 rfl ?_; intro g v1 hg1 hg2 K1 L1)
    | ((with_reducible show wpList _ _ _ (⟨some 10, _, _, _, _, _⟩ :: _) _ _); refine wpList_load_blk rfl _ (.tmp 3) rfl g rfl _ cs1 K1 20 _ Tryd.underlying45 rfl size_say HL ?_)
    | fail)
  refine (CC.out v1 L1.out).mono ?_
  rintro e v2 ⟨ds, rfl, hd, L2⟩
  have HD := Lib.hid hd
  have HDL := Lib.hid (hd.len k1h)
  have HDO := Lib.hid hd.one
  have K2 := Lib.hid (K1.out.over L2)
  have M2 := Lib.hid (step L1.out L2)
  clear hd L2 K1 L1 CC
  go_wp2_with (first
    | ((with_reducible show wpList _ _ _ (⟨some 5, _, _, _, _, _⟩ :: _) _ _); refine wpList_alloc_blk rfl _ rfl zs _ ZH ?_; intro h v3 hg3 hg4 Z3 L3)
    | ((with_reducible show wpList _ _ _ (⟨none, .store _ (.tmp 5) _, _, _, _, _⟩ :: _) _ _); refine wpList_store_blk rfl _ (.tmp 5) (.tmp 11) rfl h rfl _ zs ds rfl Z3 20 size_say HZ HDL HDO ?_; intro v4 X4 O4 hg5; have L4 := Lib.hid (below_only L3.out O4.out hg3); have M4 := Lib.hid (step M2.out L4.out); have K4 := Lib.hid (K2.out.over L4.out); have HD4 := Lib.hid (HD.out.over L4.out))
    | ((with_reducible show wpList _ _ _ (⟨some 14, _, _, _, _, _⟩ :: _) _ _); refine wpList_load_blk rfl _ (.tmp 5) rfl h rfl _ ds X4 20 _ Tryd.underlying45 rfl size_say HDL ?_)
    | fail)
  refine (CP.out v4 ds HD4.out (HT.out.below M4.out)).mono ?_
  rintro e v5 ⟨u5, rfl, ho5, L5⟩
  have X5 := Lib.hid (X4.out.over L5)
  have K5 := Lib.hid (K4.out.over L5)
  have M5 := Lib.hid (step M4.out L5)
  have HD5 := Lib.hid (HD4.out.over L5)
  have O5 := Lib.hid ho5
  clear ho5 L5 X4 K4 M4 HD4 HD K2 M2 Z3 L3 L4 O4
  go_wp2_with (first
    | ((with_reducible show wpList _ _ _ (⟨some 20, _, _, _, _, _⟩ :: _) _ _); refine wpList_load_blk rfl _ (.tmp 3) rfl g rfl _ cs1 K5 20 _ Tryd.underlying45 rfl size_say HL ?_)
    | fail)
  refine (CR.out v5 M5.out).mono ?_
  rintro e v6 ⟨u6, rfl, ho6, L6⟩
  have X6 := Lib.hid (X5.out.over L6)
  have K6 := Lib.hid (K5.out.over L6)
  have M6 := Lib.hid (step M5.out L6)
  have HD6 := Lib.hid (HD5.out.over L6)
  obtain ⟨A5, c5, rfl, hh5⟩ := (O5.out.below L6).holds HYB.out (by have := HYL.out; omega)
  obtain ⟨A6, c6, rfl, hh6⟩ := ho6.holds HYB.out (by have := HYL.out; omega)
  have D6 := Lib.hid (CS.out _ _ _ _ _ _ _ _ hh5 hh6)
  obtain ⟨m, hm⟩ : ∃ m, m = ys.length := ⟨_, rfl⟩
  rw [← hm] at D6 ⊢
  clear ho6 L6 X5 K5 M5 HD5 O5 hh5 hh6 hm
  go_wp2_with fail
  refine D6.out.mono ?_
  rintro e v7 ⟨rfl, k7, rfl⟩
  obtain ⟨v7, hv7⟩ : ∃ v, v = v6.drewN k7 := ⟨_, rfl⟩
  have L7 : Below v6.heap.size v6 v7 := by rw [hv7]; exact drewed _ _
  have X7 := Lib.hid (X6.out.over L7)
  have K7 := Lib.hid (K6.out.over L7)
  have M7 := Lib.hid (step M6.out L7)
  have HD7 := Lib.hid (HD6.out.over L7)
  rw [← hv7]
  clear hv7 L7 X6 K6 M6 HD6 D6
  go_wp2_with (first
    | ((with_reducible show wpList _ _ _ (⟨some 33, _, _, _, _, _⟩ :: _) _ _); refine wpList_load_want (by kernel_rfl) _ (.tmp 5) rfl h rfl _ ds X7 20 _ Tryd.underlying45 rfl size_say HDL ?_)
    | ((with_reducible show wpList _ _ _ (⟨some 34, _, _, _, _, _⟩ :: _) _ _); refine wpList_load_want (by kernel_rfl) _ (.tmp 3) rfl g rfl _ cs1 K7 20 _ Tryd.underlying45 rfl size_say HL ?_)
    | fail)
  refine (CQ.out v7 ds HD7.out (HA.out.over M7.out)).mono ?_
  rintro e v8 ⟨rfl, L8⟩
  have M8 := Lib.hid (step M7.out L8)
  clear L8 X7 K7 HD7 M7
  go_wp2_with fail
  refine (CL.out _ (HT.out.below M8.out)).mono ?_
  rintro e v9 ⟨rfl, L9⟩
  go_wp2
  go_ret
  exact ⟨rfl, step M8.out L9⟩
end Go.Proofs.YtbbjmmooemmeiaaDoor
