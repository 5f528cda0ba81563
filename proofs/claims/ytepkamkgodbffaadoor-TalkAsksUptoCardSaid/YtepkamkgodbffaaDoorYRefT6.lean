/-
  Contract of the document's PutAsk (refectoryref08) (written by tools/gen_reft6.py).
-/
import Derived.Test.YtepkamkgodbffaaDoorYRefT5
import Derived.Test.YtepkamkgodbffaaDoorYAskE
import Derived.Test.YtepkamkgodbffaaDoorZC
namespace Go.Proofs.YtepkamkgodbffaaDoor
open Go.RowKit
set_option linter.unusedVariables false
set_option maxRecDepth 100000

def wantAsk (c : Int) (a : AskV) : AskV := if c = 0 then { zeroAsk with dial := a.dial, guid := a.guid } else if c = 1 then { zeroAsk with proof := a.proof, user := a.user } else if c = 3 then { zeroAsk with share := a.share } else zeroAsk
theorem wantAsk_ok {c : Int} {a : AskV} (k : a.ok) : (wantAsk c a).ok := by
  unfold wantAsk
  split
  · exact ⟨k.dial, k.glen, k.gbyte, zeroAsk_ok.plen, zeroAsk_ok.pbyte, zeroAsk_ok.acc, zeroAsk_ok.shr, zeroAsk_ok.way, zeroAsk_ok.opt, zeroAsk_ok.lev, zeroAsk_ok.dur, zeroAsk_ok.file, zeroAsk_ok.at_, zeroAsk_ok.n, zeroAsk_ok.data, zeroAsk_ok.locks, zeroAsk_ok.most, zeroAsk_ok.cls, zeroAsk_ok.siz⟩
  · split
    · exact ⟨zeroAsk_ok.dial, zeroAsk_ok.glen, zeroAsk_ok.gbyte, k.plen, k.pbyte, zeroAsk_ok.acc, zeroAsk_ok.shr, zeroAsk_ok.way, zeroAsk_ok.opt, zeroAsk_ok.lev, zeroAsk_ok.dur, zeroAsk_ok.file, zeroAsk_ok.at_, zeroAsk_ok.n, zeroAsk_ok.data, zeroAsk_ok.locks, zeroAsk_ok.most, zeroAsk_ok.cls, zeroAsk_ok.siz⟩
    · split
      · exact ⟨zeroAsk_ok.dial, zeroAsk_ok.glen, zeroAsk_ok.gbyte, zeroAsk_ok.plen, zeroAsk_ok.pbyte, zeroAsk_ok.acc, zeroAsk_ok.shr, zeroAsk_ok.way, zeroAsk_ok.opt, zeroAsk_ok.lev, zeroAsk_ok.dur, zeroAsk_ok.file, zeroAsk_ok.at_, zeroAsk_ok.n, zeroAsk_ok.data, zeroAsk_ok.locks, zeroAsk_ok.most, zeroAsk_ok.cls, zeroAsk_ok.siz⟩
      · exact zeroAsk_ok
/-- what is not named is zero: said in the program's way, and in the document's -/
theorem beside_want (c : Int) (a : AskV) : besideAsk c a = zeroAsk ↔ wantAsk c a = a := by
  obtain ⟨a1, a2, a3, a4, a5, a6, a7, a8, a9, a10, a11, a12, a13, a14, a15, a16, a17, a18, a19, a20, a21, a22, a23⟩ := a
  unfold besideAsk wantAsk
  by_cases h0 : c = 0
  · rw [if_pos h0, if_pos h0]
    simp only [zeroAsk, AskV.mk.injEq]
    constructor <;> (intro h; obtain ⟨h1, h2, h3, h4, h5, h6, h7, h8, h9, h10, h11, h12, h13, h14, h15, h16, h17, h18, h19, h20, h21, h22, h23⟩ := h; subst_vars; simp)
  · rw [if_neg h0, if_neg h0]
    by_cases h1 : c = 1
    · rw [if_pos h1, if_pos h1]
      simp only [zeroAsk, AskV.mk.injEq]
      constructor <;> (intro h; obtain ⟨h1, h2, h3, h4, h5, h6, h7, h8, h9, h10, h11, h12, h13, h14, h15, h16, h17, h18, h19, h20, h21, h22, h23⟩ := h; subst_vars; simp)
    · rw [if_neg h1, if_neg h1]
      by_cases h3 : c = 3
      · rw [if_pos h3, if_pos h3]
        simp only [zeroAsk, AskV.mk.injEq]
        constructor <;> (intro h; obtain ⟨h1, h2, h3, h4, h5, h6, h7, h8, h9, h10, h11, h12, h13, h14, h15, h16, h17, h18, h19, h20, h21, h22, h23⟩ := h; subst_vars; simp)
      · rw [if_neg h3, if_neg h3]
        exact eq_comm
theorem fld_askT (g : Nat) (i o : Nat) (h : (i = 0 ∧ o = 0) ∨ (i = 1 ∧ o = 1) ∨ (i = 2 ∧ o = 17) ∨ (i = 3 ∧ o = 49) ∨ (i = 4 ∧ o = 50)) (w : World) : (Instr.fieldAt 32 (.pointer (some ⟨g, 0, none⟩)) i).run Tryd.prog w = .ok (.pointer (some ⟨g, o, none⟩)) w := by
  rcases h with ⟨rfl, rfl⟩ | ⟨rfl, rfl⟩ | ⟨rfl, rfl⟩ | ⟨rfl, rfl⟩ | ⟨rfl, rfl⟩ <;> go_simp

set_option maxHeartbeats 4000000 in
theorem RPutAsk_any (w : World) (c : Int) (cs : List Value) (a : AskV) (hc : 0 ≤ c ∧ c ≤ 65535) (ka : a.ok) (ha : AskIs w w.heap.size cs a) (hlen : a.dial.length ≤ 281474976710656 ∧ a.data.length ≤ 281474976710656 ∧ a.locks.length ≤ 281474976710656) (hu : a.user.size ≤ 4398046511104 ∧ a.share.size ≤ 4398046511104) :
    Calls Tryd.prog 13 #[.int .u16 c, .agg cs.toArray] w (PAskPost w c a) := by
  obtain ⟨hu0, hu1⟩ := hu
  have HL := Lib.hid (ha.len ka)
  have ZH := Lib.hid zero_ask
  have HZ : Hid ((acells (.slice none 0 0) (.slice none 0 0) (.slice none 0 0) zeroAsk).length = 69) := acells_len zeroAsk_ok
  have HA := Lib.hid ha
  have CK : Hid (∀ w : World, Calls Tryd.prog 42 #[.int .u16 c] w fun e w' => e = .returned (.bool (knownT c)) ∧ w = w') := fun w => RKnownT_any w c
  have HE : Hid (askErrP c a = 2 → ∀ e w', e = .returned (.tuple #[.slice none 0 0, .int .i64 2]) → Below w.heap.size w w' → PAskPost w c a e w') := by
    intro h e w' he hb
    unfold PAskPost askOfP
    rw [h, if_neg (by decide)]
    exact ⟨_, he, Own.nil _ _, hb⟩
  by_cases hk : knownT c = true
  rotate_left
  · have hk' : knownT c = false := by simpa using hk
    have HQ := Lib.hid (HE.out (by unfold askErrP; rw [if_neg (fun h => hk h.1)]))
    have hc01 : c ≠ 0 ∧ c ≠ 1 ∧ c ≠ 3 := by unfold knownT at hk'; simp at hk'; omega
    obtain ⟨h0, h1, h3⟩ := hc01
    have b0 : (c == 0) = false := by simpa using h0
    have b1 : (c == 1) = false := by simpa using h1
    have b3 : (c == 3) = false := by simpa using h3
    rw [hk'] at CK
    obtain ⟨zs, hzs⟩ : ∃ zs, zs = acells (.slice none 0 0) (.slice none 0 0) (.slice none 0 0) zeroAsk := ⟨_, rfl⟩
    rw [← hzs] at ZH
    clear hk hk' HE hzs ha ka h0 h1 h3 HA HZ
    go_enter Tryd.func13, Tryd.ntmps13
    go_wp2_with (first
      | ((with_reducible show wpList _ _ _ (⟨some 3, _, _, _, _, _⟩ :: _) _ _); refine wpList_box_blk rfl _ (.tmp 1) rfl cs rfl ?_; intro g w1 hg1 hg2 K1 L1)
      | ((with_reducible show wpList _ _ _ (⟨some 6, _, _, _, _, _⟩ :: _) _ _); refine wpList_alloc_blk rfl _ rfl zs _ ZH ?_; intro h w2 hg3 hg4 Z2 L02; have K2 := Lib.hid (K1.out.over L02.out); have L2 := Lib.hid (step L1.out L02.out); have hgh : g ≠ h := (by omega); have hhw : w.heap.size ≤ h := (by have := L1.out.size; omega))
      | fail)
    refine (CK.out _).mono ?_
    rintro e w' ⟨rfl, rfl⟩
    go_wp2
    go_ret2
    exact HQ.out _ _ rfl L2.out
  rw [hk] at CK
  have HLN : Hid (a.dial.length ≤ 281474976710656 ∧ a.data.length ≤ 281474976710656 ∧ a.locks.length ≤ 281474976710656) := hlen
  by_cases h0 : c = 0
  · have c0 : (c == 0) = true := by simpa using h0
    have b1 : (c == 1) = false := by rw [h0]; decide
    have b3 : (c == 3) = false := by rw [h0]; decide
    have ew : wantAsk c a = { zeroAsk with dial := a.dial, guid := a.guid } := by unfold wantAsk; rw [if_pos h0]
    have kw := wantAsk_ok (c := c) ka
    rw [ew] at kw
    have hbw := beside_want c a
    rw [ew] at hbw
    obtain ⟨D1, D2, D3, X1, X2, X3, M1, M2, M3, hcs, hD, hX, hM⟩ := ha
    have CS : Hid (∀ w' : World, Below w.heap.size w w' → Calls Tryd.prog 15 #[.agg (acells (.slice D1 D2 D3) (.slice none 0 0) (.slice none 0 0) ({ zeroAsk with dial := a.dial, guid := a.guid })).toArray, .agg cs.toArray] w' fun e v => e = .returned (.bool (decide ({ zeroAsk with dial := a.dial, guid := a.guid } = a))) ∧ Below w'.heap.size w' v) := fun w' hb => Asks_any w' _ _ _ _ kw ka ⟨D1, D2, D3, none, 0, 0, none, 0, 0, rfl, hD.over hb, Holds.nil _ _, HoldsS.nil _ _ _ _⟩ (HA.out.over hb) ⟨HLN.out.1, Nat.zero_le _, Nat.zero_le _⟩ HLN.out
    have FA : Hid (∀ (w : World) (g : Nat), Blk w g 32 cs → w.cell? ⟨g, 0, none⟩ = some (.slice D1 D2 D3) ∧ w.rangeAt g 1 (a.guid.map (Value.int .u8))) := fun w g h => by rw [hcs] at h; exact ⟨h.at rfl, acells_guid h ka⟩
    have RG : Hid (∀ (w : World) (g : Nat), Blk w g 32 cs → Holds w w.heap.size (some ⟨g, 1, none⟩) 16 16 a.guid) := fun w g h => by rw [hcs] at h; exact acells_guidH ka h
    have NC : Hid ((a.guid.map (Value.int .u8)).length = 16) := by show _ = _; rw [List.length_map]; exact ka.glen
    have OC : Hid (∀ v ∈ a.guid.map (Value.int .u8), v.oneCell' = true) := fun v hv => mem_nums hv
    have E1 : Hid ((acells (.slice none 0 0) (.slice none 0 0) (.slice none 0 0) zeroAsk).set 0 (.slice D1 D2 D3) = acells (.slice D1 D2 D3) (.slice none 0 0) (.slice none 0 0) { zeroAsk with dial := a.dial }) := acells_dial _ a.dial
    have kz : ({ zeroAsk with dial := a.dial } : AskV).ok := ⟨ka.dial, zeroAsk_ok.glen, zeroAsk_ok.gbyte, zeroAsk_ok.plen, zeroAsk_ok.pbyte, zeroAsk_ok.acc, zeroAsk_ok.shr, zeroAsk_ok.way, zeroAsk_ok.opt, zeroAsk_ok.lev, zeroAsk_ok.dur, zeroAsk_ok.file, zeroAsk_ok.at_, zeroAsk_ok.n, zeroAsk_ok.data, zeroAsk_ok.locks, zeroAsk_ok.most, zeroAsk_ok.cls, zeroAsk_ok.siz⟩
    have E2 : Hid ((acells (.slice D1 D2 D3) (.slice none 0 0) (.slice none 0 0) { zeroAsk with dial := a.dial }).take 1 ++ (a.guid.map (Value.int .u8) ++ (acells (.slice D1 D2 D3) (.slice none 0 0) (.slice none 0 0) { zeroAsk with dial := a.dial }).drop (1 + 16)) = acells (.slice D1 D2 D3) (.slice none 0 0) (.slice none 0 0) ({ zeroAsk with dial := a.dial, guid := a.guid })) := acells_guidS kz a.guid
    have HZ1 : Hid ((acells (.slice D1 D2 D3) (.slice none 0 0) (.slice none 0 0) { zeroAsk with dial := a.dial }).length = 69) := acells_len kz
    have HDS : Hid ((acells (.slice D1 D2 D3) (.slice none 0 0) (.slice none 0 0) ({ zeroAsk with dial := a.dial, guid := a.guid })).length = 69) := acells_len kw
    have HD0 := Lib.hid hD
    have HDL := Lib.hid hD.len
    have HDB := Lib.hid ka.dial
    have HGL := Lib.hid ka.glen
    have HDF := Lib.hid hD.fit
    have HER := Lib.hid (fun hz : ¬ { zeroAsk with dial := a.dial, guid := a.guid } = a => HE.out (by unfold askErrP; rw [if_neg (fun h => hz (hbw.1 h.2))]))
    have h2 : { zeroAsk with dial := a.dial, guid := a.guid } = a → askErrP c a = if a.dial.length ≤ 16 then 0 else 3 := fun hz => by unfold askErrP; rw [if_pos ⟨hk, hbw.2 hz⟩, if_pos h0]
    have HQ : Hid ({ zeroAsk with dial := a.dial, guid := a.guid } = a → ∀ e w', (∃ v, e = .returned (.tuple #[v, .int .i64 (if a.dial.length ≤ 16 then 0 else 3)]) ∧ Own w' w.heap.size v (if a.dial.length ≤ 16 then le a.dial.length 2 ++ dialsOf a.dial ++ a.guid else []) ∧ Below w.heap.size w w') → PAskPost w c a e w') := by
      intro hz e w' hh
      unfold PAskPost askOfP
      rw [h2 hz, if_pos h0]
      by_cases hd : a.dial.length ≤ 16
      · rw [if_pos hd, if_pos hd] at hh; rw [if_pos hd, if_pos rfl]; exact hh
      · rw [if_neg hd, if_neg hd] at hh; rw [if_neg hd, if_neg (by decide)]; exact hh
    obtain ⟨bw, hbw'⟩ : ∃ b, b = decide ({ zeroAsk with dial := a.dial, guid := a.guid } = a) := ⟨_, rfl⟩
    rw [← hbw'] at CS
    have HB0 : Hid (bw = false → ∀ e w', e = .returned (.tuple #[.slice none 0 0, .int .i64 2]) → Below w.heap.size w w' → PAskPost w c a e w') := fun h => HER.out (by rw [h] at hbw'; simpa using hbw'.symm)
    have HB1 : Hid (bw = true → ∀ e w', (∃ v, e = .returned (.tuple #[v, .int .i64 (if a.dial.length ≤ 16 then 0 else 3)]) ∧ Own w' w.heap.size v (if a.dial.length ≤ 16 then le a.dial.length 2 ++ dialsOf a.dial ++ a.guid else []) ∧ Below w.heap.size w w') → PAskPost w c a e w') := fun h => HQ.out (by rw [h] at hbw'; simpa using hbw'.symm)
    obtain ⟨zs, hzs⟩ : ∃ x, x = acells (.slice none 0 0) (.slice none 0 0) (.slice none 0 0) zeroAsk := ⟨_, rfl⟩
    obtain ⟨z1, hz1⟩ : ∃ x, x = acells (.slice D1 D2 D3) (.slice none 0 0) (.slice none 0 0) { zeroAsk with dial := a.dial } := ⟨_, rfl⟩
    obtain ⟨ds, hds⟩ : ∃ x, x = acells (.slice D1 D2 D3) (.slice none 0 0) (.slice none 0 0) ({ zeroAsk with dial := a.dial, guid := a.guid }) := ⟨_, rfl⟩
    obtain ⟨lc, hlc⟩ : ∃ x, x = a.guid.map (Value.int .u8) := ⟨_, rfl⟩
    rw [← hzs] at ZH HZ E1
    rw [← hz1] at E1 E2 HZ1
    rw [← hds] at E2 CS HDS
    rw [← hlc] at FA NC OC E2
    obtain ⟨dl, hdl⟩ : ∃ x, x = a.dial := ⟨_, rfl⟩
    obtain ⟨gu, hgu⟩ : ∃ x, x = a.guid := ⟨_, rfl⟩
    rw [← hdl, ← hgu] at HB1
    rw [← hdl] at HD0 HDL HDB
    rw [← hgu] at RG HGL
    clear hzs hz1 hds hlc hdl hgu hbw' HQ HER h2 hbw HE HA ew kw ka hk kz hcs hD hX hM HLN hlen h0 hu0 hu1
    cases bw
    · have HQ := Lib.hid (HB0.out rfl)
      clear HB0 HB1
      go_enter Tryd.func13, Tryd.ntmps13
      go_wp2_with (first
        | ((with_reducible show wpList _ _ _ (⟨some 3, _, _, _, _, _⟩ :: _) _ _); refine wpList_box_blk rfl _ (.tmp 1) rfl cs rfl ?_; intro g w1 hg1 hg2 K1 L1)
        | ((with_reducible show wpList _ _ _ (⟨some 6, _, _, _, _, _⟩ :: _) _ _); refine wpList_alloc_blk rfl _ rfl zs _ ZH ?_; intro h w2 hg3 hg4 Z2 L02; have K2 := Lib.hid (K1.out.over L02.out); have L2 := Lib.hid (step L1.out L02.out); have hgh : g ≠ h := (by omega); have hhw : w.heap.size ≤ h := (by have := L1.out.size; omega))
        | fail)
      go_upto_region 3 with fail
      refine wp_region_held (S := fun w' => Blk w' g 32 cs) (by kernel_rfl) ?_
      change wpAnyH _ _ _ _ _ _ _ _ w2.drew
      have S0 : Hid (Blk w2.drew g 32 cs) := K2.out.drew
      have b0 : Hid (Below w.heap.size w w2.drew) := L2.out.drew
      refine wpAnyH_take (i := 0) (v := _) rfl (by kernel_rfl) (by kernel_rfl) (by kernel_rfl) (fun _ _ _ h => h) (yieldsIf_fld (by kernel_rfl) _ (.tmp 3) 0 rfl (.pointer (some ⟨g, 0, none⟩)) (.pointer (some ⟨g, 0, none⟩)) (by kernel_rfl) (fld_askT g 0 0 (by decide))) S0.out ?_
      refine wpAnyH_take (i := 1) (v := _) rfl (by kernel_rfl) (by kernel_rfl) (by kernel_rfl) (fun _ _ _ h => h) (yieldsIf_load_one (by kernel_rfl) _ (.tmp 13) rfl g 0 (by kernel_rfl) (.slice D1 D2 D3) (fun w h => (FA.out w g h).1) _ Tryd.underlying24 rfl) S0.out ?_
      refine wpAnyH_take (i := 2) (v := _) rfl (by kernel_rfl) (by kernel_rfl) (by kernel_rfl) (fun _ _ _ h => h) (yieldsIf_fld (by kernel_rfl) _ (.tmp 3) 1 rfl (.pointer (some ⟨g, 0, none⟩)) (.pointer (some ⟨g, 1, none⟩)) (by kernel_rfl) (fld_askT g 1 1 (by decide))) S0.out ?_
      refine wpAnyH_take (i := 3) (v := _) rfl (by kernel_rfl) (by kernel_rfl) (by kernel_rfl) (fun _ _ _ h => h) (yieldsIf_load_mid (by kernel_rfl) _ (.tmp 15) rfl g 1 (by kernel_rfl) lc _ (fun w h => (FA.out w g h).2) Tryd.underlying25 rfl (by rw [size_guid, NC.out])) S0.out ?_
      have X0 : Hid (Blk w2.drew h 32 zs) := Z2.out.drew
      refine wpAnyH_take (i := 4) (v := _) rfl (by kernel_rfl) (by kernel_rfl) (by kernel_rfl) (fun _ _ _ h => h) (yieldsIf_fld (by kernel_rfl) _ (.tmp 6) 0 rfl (.pointer (some ⟨h, 0, none⟩)) (.pointer (some ⟨h, 0, none⟩)) (by kernel_rfl) (fld_askT h 0 0 (by decide))) S0.out ?_
      refine wpAnyH_frame fun a1 ha1 => ?_
      have e1_17 : a1.eval (.tmp 17) = .pointer (some ⟨h, 0, none⟩) := by rw [ha1]; kernel_rfl
      have e1_14 : a1.eval (.tmp 14) = .slice D1 D2 D3 := by rw [ha1]; kernel_rfl
      refine wpAnyH_one 5 _ (by kernel_rfl) rfl fun K hK => ?_
      refine step_store_fld rfl 24 (.tmp 17) (.tmp 14) (by kernel_rfl) h 0 e1_17 32 zs (.slice D1 D2 D3) e1_14 X0 (by have := HZ.out; show 0 < _; omega) (by kernel_rfl) rfl ?_
      intro v1 X1 P1 q1
      rw [E1.out] at X1
      have S1 : Hid (Blk v1 g 32 cs) := S0.out.only P1.out hgh
      have b1 : Hid (Below w.heap.size w v1) := below_only b0.out P1.out hhw
      refine hK _ _ S1.out ?_
      clear hK K P1 q1
      change wpAnyH _ _ _ _ _ _ _ a1 v1
      rw [ha1]
      refine wpAnyH_take (i := 6) (v := _) rfl (by kernel_rfl) (by kernel_rfl) (by kernel_rfl) (fun _ _ _ h => h) (yieldsIf_fld (by kernel_rfl) _ (.tmp 6) 1 rfl (.pointer (some ⟨h, 0, none⟩)) (.pointer (some ⟨h, 1, none⟩)) (by kernel_rfl) (fld_askT h 1 1 (by decide))) S1.out ?_
      refine wpAnyH_frame fun a2 ha2 => ?_
      have e2_18 : a2.eval (.tmp 18) = .pointer (some ⟨h, 1, none⟩) := by rw [ha2]; kernel_rfl
      have e2_16 : a2.eval (.tmp 16) = .agg lc.toArray := by rw [ha2]; kernel_rfl
      refine wpAnyH_one 7 _ (by kernel_rfl) rfl fun K hK => ?_
      refine step_store_midb rfl 25 (.tmp 18) (.tmp 16) (by kernel_rfl) h 1 e2_18 32 z1 lc e2_16 X1 16 size_guid NC (by have := HZ1.out; show 1 + 16 ≤ _; omega) OC ?_
      intro v2 X2 P2 q2
      rw [E2.out] at X2
      have S2 : Hid (Blk v2 g 32 cs) := S1.out.only P2.out hgh
      have b2 : Hid (Below w.heap.size w v2) := below_only b1.out P2.out hhw
      refine hK _ _ S2.out ?_
      clear hK K P2 q2
      change wpAnyH _ _ _ _ _ _ _ a2 v2
      rw [ha2]
      refine wpAnyH_done (by kernel_rfl) ?_ _
      have KS := S2
      have MS := b2
      clear S2 b2 S1 b1 X1 ha1 ha2 e1_17 e1_14 e2_18 e2_16 a1 a2
      go_wp2_with fail
      refine (CK.out _).mono ?_
      rintro e w' ⟨rfl, rfl⟩
      go_wp2_with (first
        | ((with_reducible show wpList _ _ _ (⟨some 36, _, _, _, _, _⟩ :: _) _ _); refine wpList_load_want (by kernel_rfl) _ (.tmp 6) rfl h rfl _ ds X2 69 _ Tryd.underlying32 rfl size_ask HDS ?_)
        | ((with_reducible show wpList _ _ _ (⟨some 37, _, _, _, _, _⟩ :: _) _ _); refine wpList_load_want (by kernel_rfl) _ (.tmp 3) rfl g rfl _ cs KS 69 _ Tryd.underlying32 rfl size_ask HL ?_)
        | fail)
      refine (CS.out _ MS.out).mono ?_
      rintro e w4 ⟨rfl, L4⟩
      have K4 := Lib.hid (KS.out.over L4)
      have M4 := Lib.hid (step MS.out L4)
      have hs4 := M4.out.size
      have hgw : g < w4.heap.size := K4.out.lt
      clear KS MS L4 X2
      go_wp2
      go_ret2
      exact HQ.out _ _ rfl M4.out
    have HQ := Lib.hid (HB1.out rfl)
    rw [HDL.out] at HQ
    clear HB0 HB1
    by_cases hn : D2 ≤ 16
    rotate_left
    · rw [if_neg hn, if_neg hn] at HQ
      have hn' : 16 < D2 := by omega
      go_enter Tryd.func13, Tryd.ntmps13
      go_wp2_with (first
        | ((with_reducible show wpList _ _ _ (⟨some 3, _, _, _, _, _⟩ :: _) _ _); refine wpList_box_blk rfl _ (.tmp 1) rfl cs rfl ?_; intro g w1 hg1 hg2 K1 L1)
        | ((with_reducible show wpList _ _ _ (⟨some 6, _, _, _, _, _⟩ :: _) _ _); refine wpList_alloc_blk rfl _ rfl zs _ ZH ?_; intro h w2 hg3 hg4 Z2 L02; have K2 := Lib.hid (K1.out.over L02.out); have L2 := Lib.hid (step L1.out L02.out); have hgh : g ≠ h := (by omega); have hhw : w.heap.size ≤ h := (by have := L1.out.size; omega))
        | fail)
      go_upto_region 3 with fail
      refine wp_region_held (S := fun w' => Blk w' g 32 cs) (by kernel_rfl) ?_
      change wpAnyH _ _ _ _ _ _ _ _ w2.drew
      have S0 : Hid (Blk w2.drew g 32 cs) := K2.out.drew
      have b0 : Hid (Below w.heap.size w w2.drew) := L2.out.drew
      refine wpAnyH_take (i := 0) (v := _) rfl (by kernel_rfl) (by kernel_rfl) (by kernel_rfl) (fun _ _ _ h => h) (yieldsIf_fld (by kernel_rfl) _ (.tmp 3) 0 rfl (.pointer (some ⟨g, 0, none⟩)) (.pointer (some ⟨g, 0, none⟩)) (by kernel_rfl) (fld_askT g 0 0 (by decide))) S0.out ?_
      refine wpAnyH_take (i := 1) (v := _) rfl (by kernel_rfl) (by kernel_rfl) (by kernel_rfl) (fun _ _ _ h => h) (yieldsIf_load_one (by kernel_rfl) _ (.tmp 13) rfl g 0 (by kernel_rfl) (.slice D1 D2 D3) (fun w h => (FA.out w g h).1) _ Tryd.underlying24 rfl) S0.out ?_
      refine wpAnyH_take (i := 2) (v := _) rfl (by kernel_rfl) (by kernel_rfl) (by kernel_rfl) (fun _ _ _ h => h) (yieldsIf_fld (by kernel_rfl) _ (.tmp 3) 1 rfl (.pointer (some ⟨g, 0, none⟩)) (.pointer (some ⟨g, 1, none⟩)) (by kernel_rfl) (fld_askT g 1 1 (by decide))) S0.out ?_
      refine wpAnyH_take (i := 3) (v := _) rfl (by kernel_rfl) (by kernel_rfl) (by kernel_rfl) (fun _ _ _ h => h) (yieldsIf_load_mid (by kernel_rfl) _ (.tmp 15) rfl g 1 (by kernel_rfl) lc _ (fun w h => (FA.out w g h).2) Tryd.underlying25 rfl (by rw [size_guid, NC.out])) S0.out ?_
      have X0 : Hid (Blk w2.drew h 32 zs) := Z2.out.drew
      refine wpAnyH_take (i := 4) (v := _) rfl (by kernel_rfl) (by kernel_rfl) (by kernel_rfl) (fun _ _ _ h => h) (yieldsIf_fld (by kernel_rfl) _ (.tmp 6) 0 rfl (.pointer (some ⟨h, 0, none⟩)) (.pointer (some ⟨h, 0, none⟩)) (by kernel_rfl) (fld_askT h 0 0 (by decide))) S0.out ?_
      refine wpAnyH_frame fun a1 ha1 => ?_
      have e1_17 : a1.eval (.tmp 17) = .pointer (some ⟨h, 0, none⟩) := by rw [ha1]; kernel_rfl
      have e1_14 : a1.eval (.tmp 14) = .slice D1 D2 D3 := by rw [ha1]; kernel_rfl
      refine wpAnyH_one 5 _ (by kernel_rfl) rfl fun K hK => ?_
      refine step_store_fld rfl 24 (.tmp 17) (.tmp 14) (by kernel_rfl) h 0 e1_17 32 zs (.slice D1 D2 D3) e1_14 X0 (by have := HZ.out; show 0 < _; omega) (by kernel_rfl) rfl ?_
      intro v1 X1 P1 q1
      rw [E1.out] at X1
      have S1 : Hid (Blk v1 g 32 cs) := S0.out.only P1.out hgh
      have b1 : Hid (Below w.heap.size w v1) := below_only b0.out P1.out hhw
      refine hK _ _ S1.out ?_
      clear hK K P1 q1
      change wpAnyH _ _ _ _ _ _ _ a1 v1
      rw [ha1]
      refine wpAnyH_take (i := 6) (v := _) rfl (by kernel_rfl) (by kernel_rfl) (by kernel_rfl) (fun _ _ _ h => h) (yieldsIf_fld (by kernel_rfl) _ (.tmp 6) 1 rfl (.pointer (some ⟨h, 0, none⟩)) (.pointer (some ⟨h, 1, none⟩)) (by kernel_rfl) (fld_askT h 1 1 (by decide))) S1.out ?_
      refine wpAnyH_frame fun a2 ha2 => ?_
      have e2_18 : a2.eval (.tmp 18) = .pointer (some ⟨h, 1, none⟩) := by rw [ha2]; kernel_rfl
      have e2_16 : a2.eval (.tmp 16) = .agg lc.toArray := by rw [ha2]; kernel_rfl
      refine wpAnyH_one 7 _ (by kernel_rfl) rfl fun K hK => ?_
      refine step_store_midb rfl 25 (.tmp 18) (.tmp 16) (by kernel_rfl) h 1 e2_18 32 z1 lc e2_16 X1 16 size_guid NC (by have := HZ1.out; show 1 + 16 ≤ _; omega) OC ?_
      intro v2 X2 P2 q2
      rw [E2.out] at X2
      have S2 : Hid (Blk v2 g 32 cs) := S1.out.only P2.out hgh
      have b2 : Hid (Below w.heap.size w v2) := below_only b1.out P2.out hhw
      refine hK _ _ S2.out ?_
      clear hK K P2 q2
      change wpAnyH _ _ _ _ _ _ _ a2 v2
      rw [ha2]
      refine wpAnyH_done (by kernel_rfl) ?_ _
      have KS := S2
      have MS := b2
      clear S2 b2 S1 b1 X1 ha1 ha2 e1_17 e1_14 e2_18 e2_16 a1 a2
      go_wp2_with fail
      refine (CK.out _).mono ?_
      rintro e w' ⟨rfl, rfl⟩
      go_wp2_with (first
        | ((with_reducible show wpList _ _ _ (⟨some 36, _, _, _, _, _⟩ :: _) _ _); refine wpList_load_want (by kernel_rfl) _ (.tmp 6) rfl h rfl _ ds X2 69 _ Tryd.underlying32 rfl size_ask HDS ?_)
        | ((with_reducible show wpList _ _ _ (⟨some 37, _, _, _, _, _⟩ :: _) _ _); refine wpList_load_want (by kernel_rfl) _ (.tmp 3) rfl g rfl _ cs KS 69 _ Tryd.underlying32 rfl size_ask HL ?_)
        | fail)
      refine (CS.out _ MS.out).mono ?_
      rintro e w4 ⟨rfl, L4⟩
      have K4 := Lib.hid (KS.out.over L4)
      have M4 := Lib.hid (step MS.out L4)
      have hs4 := M4.out.size
      have hgw : g < w4.heap.size := K4.out.lt
      clear KS MS L4 X2
      obtain ⟨gd, _⟩ := FA.out _ _ K4.out
      go_wp2
      go_ret2
      exact HQ.out _ _ ⟨_, rfl, Own.nil _ _, M4.out⟩
    rw [if_pos hn, if_pos hn] at HQ
    have CN : Hid (∀ (w : World) (base : Nat) (v : Value) (xs : List Int) (n : Int), 0 ≤ n → n ≤ 65535 → Own w base v xs → xs.length ≤ 1000000 → base ≤ w.heap.size → Calls Tryd.prog 43 #[v, .int .u64 n, .int .i64 2] w fun e w' => ∃ v, e = .returned v ∧ Own w' base v (xs ++ le n 2) ∧ Below base w w') := fun w base v xs n h0 h1 ho hx hb => LayT_le w base v xs n 2 h0 (by show n < 256 ^ 2; rw [show (256 : Int) ^ 2 = 65536 from by decide]; omega) (by decide) ho hx hb
    have hzD : IntKind.u64.wrap (D2 : Int) = D2 := by rw [IntKind.wrap_u64]; omega
    go_enter Tryd.func13, Tryd.ntmps13
    go_wp2_with (first
      | ((with_reducible show wpList _ _ _ (⟨some 3, _, _, _, _, _⟩ :: _) _ _); refine wpList_box_blk rfl _ (.tmp 1) rfl cs rfl ?_; intro g w1 hg1 hg2 K1 L1)
      | ((with_reducible show wpList _ _ _ (⟨some 6, _, _, _, _, _⟩ :: _) _ _); refine wpList_alloc_blk rfl _ rfl zs _ ZH ?_; intro h w2 hg3 hg4 Z2 L02; have K2 := Lib.hid (K1.out.over L02.out); have L2 := Lib.hid (step L1.out L02.out); have hgh : g ≠ h := (by omega); have hhw : w.heap.size ≤ h := (by have := L1.out.size; omega))
      | fail)
    go_upto_region 3 with fail
    refine wp_region_held (S := fun w' => Blk w' g 32 cs) (by kernel_rfl) ?_
    change wpAnyH _ _ _ _ _ _ _ _ w2.drew
    have S0 : Hid (Blk w2.drew g 32 cs) := K2.out.drew
    have b0 : Hid (Below w.heap.size w w2.drew) := L2.out.drew
    refine wpAnyH_take (i := 0) (v := _) rfl (by kernel_rfl) (by kernel_rfl) (by kernel_rfl) (fun _ _ _ h => h) (yieldsIf_fld (by kernel_rfl) _ (.tmp 3) 0 rfl (.pointer (some ⟨g, 0, none⟩)) (.pointer (some ⟨g, 0, none⟩)) (by kernel_rfl) (fld_askT g 0 0 (by decide))) S0.out ?_
    refine wpAnyH_take (i := 1) (v := _) rfl (by kernel_rfl) (by kernel_rfl) (by kernel_rfl) (fun _ _ _ h => h) (yieldsIf_load_one (by kernel_rfl) _ (.tmp 13) rfl g 0 (by kernel_rfl) (.slice D1 D2 D3) (fun w h => (FA.out w g h).1) _ Tryd.underlying24 rfl) S0.out ?_
    refine wpAnyH_take (i := 2) (v := _) rfl (by kernel_rfl) (by kernel_rfl) (by kernel_rfl) (fun _ _ _ h => h) (yieldsIf_fld (by kernel_rfl) _ (.tmp 3) 1 rfl (.pointer (some ⟨g, 0, none⟩)) (.pointer (some ⟨g, 1, none⟩)) (by kernel_rfl) (fld_askT g 1 1 (by decide))) S0.out ?_
    refine wpAnyH_take (i := 3) (v := _) rfl (by kernel_rfl) (by kernel_rfl) (by kernel_rfl) (fun _ _ _ h => h) (yieldsIf_load_mid (by kernel_rfl) _ (.tmp 15) rfl g 1 (by kernel_rfl) lc _ (fun w h => (FA.out w g h).2) Tryd.underlying25 rfl (by rw [size_guid, NC.out])) S0.out ?_
    have X0 : Hid (Blk w2.drew h 32 zs) := Z2.out.drew
    refine wpAnyH_take (i := 4) (v := _) rfl (by kernel_rfl) (by kernel_rfl) (by kernel_rfl) (fun _ _ _ h => h) (yieldsIf_fld (by kernel_rfl) _ (.tmp 6) 0 rfl (.pointer (some ⟨h, 0, none⟩)) (.pointer (some ⟨h, 0, none⟩)) (by kernel_rfl) (fld_askT h 0 0 (by decide))) S0.out ?_
    refine wpAnyH_frame fun a1 ha1 => ?_
    have e1_17 : a1.eval (.tmp 17) = .pointer (some ⟨h, 0, none⟩) := by rw [ha1]; kernel_rfl
    have e1_14 : a1.eval (.tmp 14) = .slice D1 D2 D3 := by rw [ha1]; kernel_rfl
    refine wpAnyH_one 5 _ (by kernel_rfl) rfl fun K hK => ?_
    refine step_store_fld rfl 24 (.tmp 17) (.tmp 14) (by kernel_rfl) h 0 e1_17 32 zs (.slice D1 D2 D3) e1_14 X0 (by have := HZ.out; show 0 < _; omega) (by kernel_rfl) rfl ?_
    intro v1 X1 P1 q1
    rw [E1.out] at X1
    have S1 : Hid (Blk v1 g 32 cs) := S0.out.only P1.out hgh
    have b1 : Hid (Below w.heap.size w v1) := below_only b0.out P1.out hhw
    refine hK _ _ S1.out ?_
    clear hK K P1 q1
    change wpAnyH _ _ _ _ _ _ _ a1 v1
    rw [ha1]
    refine wpAnyH_take (i := 6) (v := _) rfl (by kernel_rfl) (by kernel_rfl) (by kernel_rfl) (fun _ _ _ h => h) (yieldsIf_fld (by kernel_rfl) _ (.tmp 6) 1 rfl (.pointer (some ⟨h, 0, none⟩)) (.pointer (some ⟨h, 1, none⟩)) (by kernel_rfl) (fld_askT h 1 1 (by decide))) S1.out ?_
    refine wpAnyH_frame fun a2 ha2 => ?_
    have e2_18 : a2.eval (.tmp 18) = .pointer (some ⟨h, 1, none⟩) := by rw [ha2]; kernel_rfl
    have e2_16 : a2.eval (.tmp 16) = .agg lc.toArray := by rw [ha2]; kernel_rfl
    refine wpAnyH_one 7 _ (by kernel_rfl) rfl fun K hK => ?_
    refine step_store_midb rfl 25 (.tmp 18) (.tmp 16) (by kernel_rfl) h 1 e2_18 32 z1 lc e2_16 X1 16 size_guid NC (by have := HZ1.out; show 1 + 16 ≤ _; omega) OC ?_
    intro v2 X2 P2 q2
    rw [E2.out] at X2
    have S2 : Hid (Blk v2 g 32 cs) := S1.out.only P2.out hgh
    have b2 : Hid (Below w.heap.size w v2) := below_only b1.out P2.out hhw
    refine hK _ _ S2.out ?_
    clear hK K P2 q2
    change wpAnyH _ _ _ _ _ _ _ a2 v2
    rw [ha2]
    refine wpAnyH_done (by kernel_rfl) ?_ _
    have KS := S2
    have MS := b2
    clear S2 b2 S1 b1 X1 ha1 ha2 e1_17 e1_14 e2_18 e2_16 a1 a2
    go_wp2_with fail
    refine (CK.out _).mono ?_
    rintro e w' ⟨rfl, rfl⟩
    go_wp2_with (first
      | ((with_reducible show wpList _ _ _ (⟨some 36, _, _, _, _, _⟩ :: _) _ _); refine wpList_load_want (by kernel_rfl) _ (.tmp 6) rfl h rfl _ ds X2 69 _ Tryd.underlying32 rfl size_ask HDS ?_)
      | ((with_reducible show wpList _ _ _ (⟨some 37, _, _, _, _, _⟩ :: _) _ _); refine wpList_load_want (by kernel_rfl) _ (.tmp 3) rfl g rfl _ cs KS 69 _ Tryd.underlying32 rfl size_ask HL ?_)
      | fail)
    refine (CS.out _ MS.out).mono ?_
    rintro e w4 ⟨rfl, L4⟩
    have K4 := Lib.hid (KS.out.over L4)
    have M4 := Lib.hid (step MS.out L4)
    have hs4 := M4.out.size
    have hgw : g < w4.heap.size := K4.out.lt
    clear KS MS L4 X2
    obtain ⟨gd, _⟩ := FA.out _ _ K4.out
    go_wp2_with fail
    refine (CN.out w4 w4.heap.size _ [] (D2 : Int) (by omega) (by omega) (Own.nil _ _) (by simp) (Nat.le_refl _)).mono ?_
    rintro e w5 ⟨v5, rfl, ho5, L5⟩
    rw [List.nil_append] at ho5
    have HO5 := Lib.hid ho5
    have N5 := Lib.hid L5
    have K5 := Lib.hid (K4.out.below L5 hgw)
    clear ho5 L5 gd
    go_wp2
    go_loopw [7, 8] (fun v i wr => ∃ j : Nat, i = .int .i64 j ∧ j ≤ D2 ∧ Hid (Own wr w4.heap.size v (le D2 2 ++ dialsOf (dl.take j))) ∧ Hid (Below w4.heap.size w4 wr)) (fun _ i _ => D2 - (intOf i).toNat)
    case atStart => exact ⟨0, rfl, Nat.zero_le _, (by show Own _ _ _ _; simpa [dialsOf] using HO5.out), N5⟩
    case round =>
      obtain ⟨j, rfl, hj, HO, HLw⟩ := hrel
      have hsr := HLw.out.size
      have Kr := Lib.hid (K4.out.below HLw.out hgw)
      obtain ⟨gd, _⟩ := FA.out _ _ Kr.out
      by_cases hlt : j < D2
      · have HDr := HD0.out.over (step M4.out HLw.out)
        have hft := HDF.out
        obtain ⟨b, off, rfl, hb, hc⟩ := HDr.cells (by omega)
        obtain ⟨x, hx⟩ : ∃ x, dl[j]? = some x := ⟨_, List.getElem?_eq_getElem (by have := HDL.out; omega)⟩
        have gc := hc j x hx
        obtain ⟨x0, x1⟩ := HDB.out x (List.mem_of_getElem? hx)
        have E5 : Hid (le D2 2 ++ dialsOf (dl.take (j + 1)) = le D2 2 ++ dialsOf (dl.take j) ++ le x 2) := by
          show _ = _
          rw [List.take_add_one, hx, Option.toList_some, dialsOf_snoc, List.append_assoc]
        have HLEN : Hid ((le (D2 : Int) 2 ++ dialsOf (dl.take j)).length ≤ 1000000) := by
          show _ ≤ _
          rw [List.length_append, le_length, dialsOf_len, List.length_take]
          omega
        have hxz : IntKind.u64.wrap x = x := by rw [IntKind.wrap_u64]; omega
        obtain ⟨P, hP⟩ : ∃ P, P = le (D2 : Int) 2 ++ dialsOf (dl.take j) := ⟨_, rfl⟩
        rw [← hP] at E5 HLEN HO
        clear hc hx hP HDr
        go_wp2_with fail
        refine (CN.out wr w4.heap.size _ P x x0 x1 HO.out HLEN.out hsr).mono ?_
        rintro e w6 ⟨v6, rfl, ho6, L6⟩
        have HO6 : Hid (Own w6 w4.heap.size v6 (le D2 2 ++ dialsOf (dl.take (j + 1)))) := by rw [E5.out]; exact ho6
        have N6 := Lib.hid (HLw.out.trans L6)
        clear ho6 L6 gc gd
        go_wp2
        go_roundw
        case rel => exact ⟨j + 1, by go_num, hlt, HO6, N6⟩
        case measure => simp [intOf]; omega
      · obtain rfl : j = D2 := by omega
        have HO5 : Hid (Own wr w4.heap.size u7 (le (j : Int) 2 ++ dialsOf dl)) := by
          have h := HO.out
          rwa [List.take_of_length_le (by have := HDL.out; omega)] at h
        have HG := Lib.hid (RG.out _ _ Kr.out)
        have HLEN : Hid ((le (j : Int) 2 ++ dialsOf dl).length + gu.length ≤ 140737488355328) := by
          show _ ≤ _
          have h1 := HGL.out
          have h2 := HDL.out
          rw [List.length_append, le_length, dialsOf_len]
          omega
        obtain ⟨P, hP⟩ : ∃ P, P = le (j : Int) 2 ++ dialsOf dl := ⟨_, rfl⟩
        rw [← hP] at HO5 HLEN HQ
        clear HO hP
        go_wp2_with (first
          | (at_builtin; refine wpList_append_bytes rfl (.tmp 69) (.tmp 71) rfl w4.heap.size _ P rfl HO5.out wr.heap.size (some ⟨g, 1, none⟩) 16 16 gu rfl HG.out HLEN.out hsr ?_; intro v7 w7 ho7 hb7 hgr)
          | fail)
        go_ret2
        exact HQ.out _ _ ⟨_, rfl, ho7.out.mono hs4, M4.out.trans ((HLw.out.trans hb7).mono hs4)⟩
  by_cases h1 : c = 1
  · have c1 : (c == 1) = true := by simpa using h1
    have b0 : (c == 0) = false := by simpa using h0
    have b3 : (c == 3) = false := by rw [h1]; decide
    have ew : wantAsk c a = { zeroAsk with proof := a.proof, user := a.user } := by unfold wantAsk; rw [if_neg h0, if_pos h1]
    have kw := wantAsk_ok (c := c) ka
    rw [ew] at kw
    have hbw := beside_want c a
    rw [ew] at hbw
    have CS : Hid (∀ w' : World, Below w.heap.size w w' → Calls Tryd.prog 15 #[.agg (acells (.slice none 0 0) (.slice none 0 0) (.slice none 0 0) ({ zeroAsk with proof := a.proof, user := a.user })).toArray, .agg cs.toArray] w' fun e v => e = .returned (.bool (decide ({ zeroAsk with proof := a.proof, user := a.user } = a))) ∧ Below w'.heap.size w' v) := fun w' hb => Asks_any w' _ _ _ _ kw ka ⟨none, 0, 0, none, 0, 0, none, 0, 0, rfl, HoldsF.nil _ _ _, Holds.nil _ _, HoldsS.nil _ _ _ _⟩ (HA.out.over hb) ⟨Nat.zero_le _, Nat.zero_le _, Nat.zero_le _⟩ HLN.out
    have FA : Hid (∀ (w : World) (g : Nat), Blk w g 32 cs → w.cell? ⟨g, 49, none⟩ = some (.string a.user) ∧ w.rangeAt g 17 (a.proof.map (Value.int .u8))) := fun w g h => by obtain ⟨D1, D2, D3, X1, X2, X3, M1, M2, M3, rfl, _⟩ := ha; exact ⟨h.at (acells_get ka 0), acells_proof h ka⟩
    have RG : Hid (∀ (w : World) (g : Nat), Blk w g 32 cs → Holds w w.heap.size (some ⟨g, 17, none⟩) 32 32 a.proof) := fun w g h => by obtain ⟨D1, D2, D3, X1, X2, X3, M1, M2, M3, rfl, _⟩ := ha; exact acells_proofH ka h
    have NC : Hid ((a.proof.map (Value.int .u8)).length = 32) := by show _ = _; rw [List.length_map]; exact ka.plen
    have OC : Hid (∀ v ∈ a.proof.map (Value.int .u8), v.oneCell' = true) := fun v hv => mem_nums hv
    have E1 : Hid ((acells (.slice none 0 0) (.slice none 0 0) (.slice none 0 0) zeroAsk).take 17 ++ (a.proof.map (Value.int .u8) ++ (acells (.slice none 0 0) (.slice none 0 0) (.slice none 0 0) zeroAsk).drop (17 + 32)) = acells (.slice none 0 0) (.slice none 0 0) (.slice none 0 0) { zeroAsk with proof := a.proof }) := acells_proofS zeroAsk_ok a.proof
    have kz : ({ zeroAsk with proof := a.proof } : AskV).ok := ⟨zeroAsk_ok.dial, zeroAsk_ok.glen, zeroAsk_ok.gbyte, ka.plen, ka.pbyte, zeroAsk_ok.acc, zeroAsk_ok.shr, zeroAsk_ok.way, zeroAsk_ok.opt, zeroAsk_ok.lev, zeroAsk_ok.dur, zeroAsk_ok.file, zeroAsk_ok.at_, zeroAsk_ok.n, zeroAsk_ok.data, zeroAsk_ok.locks, zeroAsk_ok.most, zeroAsk_ok.cls, zeroAsk_ok.siz⟩
    have E2 : Hid ((acells (.slice none 0 0) (.slice none 0 0) (.slice none 0 0) { zeroAsk with proof := a.proof }).set 49 (.string a.user) = acells (.slice none 0 0) (.slice none 0 0) (.slice none 0 0) ({ zeroAsk with proof := a.proof, user := a.user })) := acells_user kz a.user
    have HZ1 : Hid ((acells (.slice none 0 0) (.slice none 0 0) (.slice none 0 0) { zeroAsk with proof := a.proof }).length = 69) := acells_len kz
    have HDS : Hid ((acells (.slice none 0 0) (.slice none 0 0) (.slice none 0 0) ({ zeroAsk with proof := a.proof, user := a.user })).length = 69) := acells_len kw
    have HPL := Lib.hid ka.plen
    have HER := Lib.hid (fun hz : ¬ { zeroAsk with proof := a.proof, user := a.user } = a => HE.out (by unfold askErrP; rw [if_neg (fun h => hz (hbw.1 h.2))]))
    have h2 : { zeroAsk with proof := a.proof, user := a.user } = a → askErrP c a = ptextErr a.user.data.toList := fun hz => by unfold askErrP; rw [if_pos ⟨hk, hbw.2 hz⟩, if_neg h0, if_pos h1]
    have HQ : Hid ({ zeroAsk with proof := a.proof, user := a.user } = a → ∀ e w', (∃ v, e = .returned (.tuple #[v, .int .i64 (ptextErr a.user.data.toList)]) ∧ Own w' w.heap.size v (if ptextErr a.user.data.toList = 0 then a.proof ++ ptextOf a.user.data.toList else []) ∧ Below w.heap.size w w') → PAskPost w c a e w') := by
      intro hz e w' hh
      unfold PAskPost askOfP
      rw [h2 hz, if_neg h0, if_pos h1]
      exact hh
    have CT : Hid (∀ w' : World, Calls Tryd.prog 36 #[.string a.user] w' fun e w2 => ∃ v, e = .returned (.tuple #[v, .int .i64 (ptextErr a.user.data.toList)]) ∧ Own w2 w'.heap.size v (ptextOf a.user.data.toList) ∧ Below w'.heap.size w' w2) := fun w' => RPutText_any a.user w' hu0
    have HPB := Lib.hid (ptextOf_bytes a.user.data.toList)
    have hpl := rowOf_le a.user.data.toList
    obtain ⟨bw, hbw'⟩ : ∃ b, b = decide ({ zeroAsk with proof := a.proof, user := a.user } = a) := ⟨_, rfl⟩
    rw [← hbw'] at CS
    have HB0 : Hid (bw = false → ∀ e w', e = .returned (.tuple #[.slice none 0 0, .int .i64 2]) → Below w.heap.size w w' → PAskPost w c a e w') := fun h => HER.out (by rw [h] at hbw'; simpa using hbw'.symm)
    have HB1 := Lib.hid (fun h : bw = true => HQ.out (by rw [h] at hbw'; simpa using hbw'.symm))
    obtain ⟨er, her⟩ : ∃ x, x = ptextErr a.user.data.toList := ⟨_, rfl⟩
    obtain ⟨ys, hys⟩ : ∃ x, x = ptextOf a.user.data.toList := ⟨_, rfl⟩
    rw [← her, ← hys] at HB1 CT
    rw [← hys] at HPB hpl
    obtain ⟨zs, hzs⟩ : ∃ x, x = acells (.slice none 0 0) (.slice none 0 0) (.slice none 0 0) zeroAsk := ⟨_, rfl⟩
    obtain ⟨z1, hz1⟩ : ∃ x, x = acells (.slice none 0 0) (.slice none 0 0) (.slice none 0 0) { zeroAsk with proof := a.proof } := ⟨_, rfl⟩
    obtain ⟨ds, hds⟩ : ∃ x, x = acells (.slice none 0 0) (.slice none 0 0) (.slice none 0 0) ({ zeroAsk with proof := a.proof, user := a.user }) := ⟨_, rfl⟩
    obtain ⟨lc, hlc⟩ : ∃ x, x = a.proof.map (Value.int .u8) := ⟨_, rfl⟩
    rw [← hzs] at ZH HZ E1
    rw [← hz1] at E1 E2 HZ1
    rw [← hds] at E2 CS HDS
    rw [← hlc] at FA NC OC E1
    obtain ⟨us, hus⟩ : ∃ x, x = a.user := ⟨_, rfl⟩
    obtain ⟨px, hpx⟩ : ∃ x, x = a.proof := ⟨_, rfl⟩
    rw [← hus] at FA E2 CT
    rw [← hpx] at RG HB1 HPL
    clear hzs hz1 hds hlc hus hpx hbw' HQ HER h2 hbw HE HA ew kw ka hk kz ha HLN hlen h0 h1 hu0 hu1 her hys
    cases bw
    · have HQ := Lib.hid (HB0.out rfl)
      clear HB0 HB1
      go_enter Tryd.func13, Tryd.ntmps13
      go_wp2_with (first
        | ((with_reducible show wpList _ _ _ (⟨some 3, _, _, _, _, _⟩ :: _) _ _); refine wpList_box_blk rfl _ (.tmp 1) rfl cs rfl ?_; intro g w1 hg1 hg2 K1 L1)
        | ((with_reducible show wpList _ _ _ (⟨some 6, _, _, _, _, _⟩ :: _) _ _); refine wpList_alloc_blk rfl _ rfl zs _ ZH ?_; intro h w2 hg3 hg4 Z2 L02; have K2 := Lib.hid (K1.out.over L02.out); have L2 := Lib.hid (step L1.out L02.out); have hgh : g ≠ h := (by omega); have hhw : w.heap.size ≤ h := (by have := L1.out.size; omega))
        | fail)
      go_upto_region 5 with fail
      refine wp_region_held (S := fun w' => Blk w' g 32 cs) (by kernel_rfl) ?_
      change wpAnyH _ _ _ _ _ _ _ _ w2.drew
      have S0 : Hid (Blk w2.drew g 32 cs) := K2.out.drew
      have b0 : Hid (Below w.heap.size w w2.drew) := L2.out.drew
      refine wpAnyH_take (i := 0) (v := _) rfl (by kernel_rfl) (by kernel_rfl) (by kernel_rfl) (fun _ _ _ h => h) (yieldsIf_fld (by kernel_rfl) _ (.tmp 3) 2 rfl (.pointer (some ⟨g, 0, none⟩)) (.pointer (some ⟨g, 17, none⟩)) (by kernel_rfl) (fld_askT g 2 17 (by decide))) S0.out ?_
      refine wpAnyH_take (i := 1) (v := _) rfl (by kernel_rfl) (by kernel_rfl) (by kernel_rfl) (fun _ _ _ h => h) (yieldsIf_load_mid (by kernel_rfl) _ (.tmp 21) rfl g 17 (by kernel_rfl) lc _ (fun w h => (FA.out w g h).2) Tryd.underlying26 rfl (by rw [size_proof, NC.out])) S0.out ?_
      refine wpAnyH_take (i := 2) (v := _) rfl (by kernel_rfl) (by kernel_rfl) (by kernel_rfl) (fun _ _ _ h => h) (yieldsIf_fld (by kernel_rfl) _ (.tmp 3) 3 rfl (.pointer (some ⟨g, 0, none⟩)) (.pointer (some ⟨g, 49, none⟩)) (by kernel_rfl) (fld_askT g 3 49 (by decide))) S0.out ?_
      refine wpAnyH_take (i := 3) (v := _) rfl (by kernel_rfl) (by kernel_rfl) (by kernel_rfl) (fun _ _ _ h => h) (yieldsIf_load_one (by kernel_rfl) _ (.tmp 23) rfl g 49 (by kernel_rfl) (.string us) (fun w h => (FA.out w g h).1) _ Tryd.underlying9 rfl) S0.out ?_
      have X0 : Hid (Blk w2.drew h 32 zs) := Z2.out.drew
      refine wpAnyH_take (i := 4) (v := _) rfl (by kernel_rfl) (by kernel_rfl) (by kernel_rfl) (fun _ _ _ h => h) (yieldsIf_fld (by kernel_rfl) _ (.tmp 6) 2 rfl (.pointer (some ⟨h, 0, none⟩)) (.pointer (some ⟨h, 17, none⟩)) (by kernel_rfl) (fld_askT h 2 17 (by decide))) S0.out ?_
      refine wpAnyH_frame fun a1 ha1 => ?_
      have e1_25 : a1.eval (.tmp 25) = .pointer (some ⟨h, 17, none⟩) := by rw [ha1]; kernel_rfl
      have e1_22 : a1.eval (.tmp 22) = .agg lc.toArray := by rw [ha1]; kernel_rfl
      refine wpAnyH_one 5 _ (by kernel_rfl) rfl fun K hK => ?_
      refine step_store_midb rfl 26 (.tmp 25) (.tmp 22) (by kernel_rfl) h 17 e1_25 32 zs lc e1_22 X0 32 size_proof NC (by have := HZ.out; show 17 + 32 ≤ _; omega) OC ?_
      intro v1 X1 P1 q1
      rw [E1.out] at X1
      have S1 : Hid (Blk v1 g 32 cs) := S0.out.only P1.out hgh
      have b1 : Hid (Below w.heap.size w v1) := below_only b0.out P1.out hhw
      refine hK _ _ S1.out ?_
      clear hK K P1 q1
      change wpAnyH _ _ _ _ _ _ _ a1 v1
      rw [ha1]
      refine wpAnyH_take (i := 6) (v := _) rfl (by kernel_rfl) (by kernel_rfl) (by kernel_rfl) (fun _ _ _ h => h) (yieldsIf_fld (by kernel_rfl) _ (.tmp 6) 3 rfl (.pointer (some ⟨h, 0, none⟩)) (.pointer (some ⟨h, 49, none⟩)) (by kernel_rfl) (fld_askT h 3 49 (by decide))) S1.out ?_
      refine wpAnyH_frame fun a2 ha2 => ?_
      have e2_26 : a2.eval (.tmp 26) = .pointer (some ⟨h, 49, none⟩) := by rw [ha2]; kernel_rfl
      have e2_24 : a2.eval (.tmp 24) = .string us := by rw [ha2]; kernel_rfl
      refine wpAnyH_one 7 _ (by kernel_rfl) rfl fun K hK => ?_
      refine step_store_fld rfl 9 (.tmp 26) (.tmp 24) (by kernel_rfl) h 49 e2_26 32 z1 (.string us) e2_24 X1 (by have := HZ1.out; show 49 < _; omega) (by kernel_rfl) rfl ?_
      intro v2 X2 P2 q2
      rw [E2.out] at X2
      have S2 : Hid (Blk v2 g 32 cs) := S1.out.only P2.out hgh
      have b2 : Hid (Below w.heap.size w v2) := below_only b1.out P2.out hhw
      refine hK _ _ S2.out ?_
      clear hK K P2 q2
      change wpAnyH _ _ _ _ _ _ _ a2 v2
      rw [ha2]
      refine wpAnyH_done (by kernel_rfl) ?_ _
      have KS := S2
      have MS := b2
      clear S2 b2 S1 b1 X1 ha1 ha2 e1_25 e1_22 e2_26 e2_24 a1 a2
      go_wp2_with fail
      refine (CK.out _).mono ?_
      rintro e w' ⟨rfl, rfl⟩
      go_wp2_with (first
        | ((with_reducible show wpList _ _ _ (⟨some 36, _, _, _, _, _⟩ :: _) _ _); refine wpList_load_want (by kernel_rfl) _ (.tmp 6) rfl h rfl _ ds X2 69 _ Tryd.underlying32 rfl size_ask HDS ?_)
        | ((with_reducible show wpList _ _ _ (⟨some 37, _, _, _, _, _⟩ :: _) _ _); refine wpList_load_want (by kernel_rfl) _ (.tmp 3) rfl g rfl _ cs KS 69 _ Tryd.underlying32 rfl size_ask HL ?_)
        | fail)
      refine (CS.out _ MS.out).mono ?_
      rintro e w4 ⟨rfl, L4⟩
      have K4 := Lib.hid (KS.out.over L4)
      have M4 := Lib.hid (step MS.out L4)
      have hs4 := M4.out.size
      have hgw : g < w4.heap.size := K4.out.lt
      clear KS MS L4 X2
      go_wp2
      go_ret2
      exact HQ.out _ _ rfl M4.out
    have HQ := Lib.hid (HB1.out rfl)
    clear HB0 HB1
    by_cases he : er = 0
    rotate_left
    · rw [if_neg he] at HQ
      have hne : (er != 0) = true := by simpa using he
      go_enter Tryd.func13, Tryd.ntmps13
      go_wp2_with (first
        | ((with_reducible show wpList _ _ _ (⟨some 3, _, _, _, _, _⟩ :: _) _ _); refine wpList_box_blk rfl _ (.tmp 1) rfl cs rfl ?_; intro g w1 hg1 hg2 K1 L1)
        | ((with_reducible show wpList _ _ _ (⟨some 6, _, _, _, _, _⟩ :: _) _ _); refine wpList_alloc_blk rfl _ rfl zs _ ZH ?_; intro h w2 hg3 hg4 Z2 L02; have K2 := Lib.hid (K1.out.over L02.out); have L2 := Lib.hid (step L1.out L02.out); have hgh : g ≠ h := (by omega); have hhw : w.heap.size ≤ h := (by have := L1.out.size; omega))
        | fail)
      go_upto_region 5 with fail
      refine wp_region_held (S := fun w' => Blk w' g 32 cs) (by kernel_rfl) ?_
      change wpAnyH _ _ _ _ _ _ _ _ w2.drew
      have S0 : Hid (Blk w2.drew g 32 cs) := K2.out.drew
      have b0 : Hid (Below w.heap.size w w2.drew) := L2.out.drew
      refine wpAnyH_take (i := 0) (v := _) rfl (by kernel_rfl) (by kernel_rfl) (by kernel_rfl) (fun _ _ _ h => h) (yieldsIf_fld (by kernel_rfl) _ (.tmp 3) 2 rfl (.pointer (some ⟨g, 0, none⟩)) (.pointer (some ⟨g, 17, none⟩)) (by kernel_rfl) (fld_askT g 2 17 (by decide))) S0.out ?_
      refine wpAnyH_take (i := 1) (v := _) rfl (by kernel_rfl) (by kernel_rfl) (by kernel_rfl) (fun _ _ _ h => h) (yieldsIf_load_mid (by kernel_rfl) _ (.tmp 21) rfl g 17 (by kernel_rfl) lc _ (fun w h => (FA.out w g h).2) Tryd.underlying26 rfl (by rw [size_proof, NC.out])) S0.out ?_
      refine wpAnyH_take (i := 2) (v := _) rfl (by kernel_rfl) (by kernel_rfl) (by kernel_rfl) (fun _ _ _ h => h) (yieldsIf_fld (by kernel_rfl) _ (.tmp 3) 3 rfl (.pointer (some ⟨g, 0, none⟩)) (.pointer (some ⟨g, 49, none⟩)) (by kernel_rfl) (fld_askT g 3 49 (by decide))) S0.out ?_
      refine wpAnyH_take (i := 3) (v := _) rfl (by kernel_rfl) (by kernel_rfl) (by kernel_rfl) (fun _ _ _ h => h) (yieldsIf_load_one (by kernel_rfl) _ (.tmp 23) rfl g 49 (by kernel_rfl) (.string us) (fun w h => (FA.out w g h).1) _ Tryd.underlying9 rfl) S0.out ?_
      have X0 : Hid (Blk w2.drew h 32 zs) := Z2.out.drew
      refine wpAnyH_take (i := 4) (v := _) rfl (by kernel_rfl) (by kernel_rfl) (by kernel_rfl) (fun _ _ _ h => h) (yieldsIf_fld (by kernel_rfl) _ (.tmp 6) 2 rfl (.pointer (some ⟨h, 0, none⟩)) (.pointer (some ⟨h, 17, none⟩)) (by kernel_rfl) (fld_askT h 2 17 (by decide))) S0.out ?_
      refine wpAnyH_frame fun a1 ha1 => ?_
      have e1_25 : a1.eval (.tmp 25) = .pointer (some ⟨h, 17, none⟩) := by rw [ha1]; kernel_rfl
      have e1_22 : a1.eval (.tmp 22) = .agg lc.toArray := by rw [ha1]; kernel_rfl
      refine wpAnyH_one 5 _ (by kernel_rfl) rfl fun K hK => ?_
      refine step_store_midb rfl 26 (.tmp 25) (.tmp 22) (by kernel_rfl) h 17 e1_25 32 zs lc e1_22 X0 32 size_proof NC (by have := HZ.out; show 17 + 32 ≤ _; omega) OC ?_
      intro v1 X1 P1 q1
      rw [E1.out] at X1
      have S1 : Hid (Blk v1 g 32 cs) := S0.out.only P1.out hgh
      have b1 : Hid (Below w.heap.size w v1) := below_only b0.out P1.out hhw
      refine hK _ _ S1.out ?_
      clear hK K P1 q1
      change wpAnyH _ _ _ _ _ _ _ a1 v1
      rw [ha1]
      refine wpAnyH_take (i := 6) (v := _) rfl (by kernel_rfl) (by kernel_rfl) (by kernel_rfl) (fun _ _ _ h => h) (yieldsIf_fld (by kernel_rfl) _ (.tmp 6) 3 rfl (.pointer (some ⟨h, 0, none⟩)) (.pointer (some ⟨h, 49, none⟩)) (by kernel_rfl) (fld_askT h 3 49 (by decide))) S1.out ?_
      refine wpAnyH_frame fun a2 ha2 => ?_
      have e2_26 : a2.eval (.tmp 26) = .pointer (some ⟨h, 49, none⟩) := by rw [ha2]; kernel_rfl
      have e2_24 : a2.eval (.tmp 24) = .string us := by rw [ha2]; kernel_rfl
      refine wpAnyH_one 7 _ (by kernel_rfl) rfl fun K hK => ?_
      refine step_store_fld rfl 9 (.tmp 26) (.tmp 24) (by kernel_rfl) h 49 e2_26 32 z1 (.string us) e2_24 X1 (by have := HZ1.out; show 49 < _; omega) (by kernel_rfl) rfl ?_
      intro v2 X2 P2 q2
      rw [E2.out] at X2
      have S2 : Hid (Blk v2 g 32 cs) := S1.out.only P2.out hgh
      have b2 : Hid (Below w.heap.size w v2) := below_only b1.out P2.out hhw
      refine hK _ _ S2.out ?_
      clear hK K P2 q2
      change wpAnyH _ _ _ _ _ _ _ a2 v2
      rw [ha2]
      refine wpAnyH_done (by kernel_rfl) ?_ _
      have KS := S2
      have MS := b2
      clear S2 b2 S1 b1 X1 ha1 ha2 e1_25 e1_22 e2_26 e2_24 a1 a2
      go_wp2_with fail
      refine (CK.out _).mono ?_
      rintro e w' ⟨rfl, rfl⟩
      go_wp2_with (first
        | ((with_reducible show wpList _ _ _ (⟨some 36, _, _, _, _, _⟩ :: _) _ _); refine wpList_load_want (by kernel_rfl) _ (.tmp 6) rfl h rfl _ ds X2 69 _ Tryd.underlying32 rfl size_ask HDS ?_)
        | ((with_reducible show wpList _ _ _ (⟨some 37, _, _, _, _, _⟩ :: _) _ _); refine wpList_load_want (by kernel_rfl) _ (.tmp 3) rfl g rfl _ cs KS 69 _ Tryd.underlying32 rfl size_ask HL ?_)
        | fail)
      refine (CS.out _ MS.out).mono ?_
      rintro e w4 ⟨rfl, L4⟩
      have K4 := Lib.hid (KS.out.over L4)
      have M4 := Lib.hid (step MS.out L4)
      have hs4 := M4.out.size
      have hgw : g < w4.heap.size := K4.out.lt
      clear KS MS L4 X2
      obtain ⟨gd, _⟩ := FA.out _ _ K4.out
      go_wp2_with fail
      refine (CT.out w4).mono ?_
      rintro e w5 ⟨v5, rfl, ho5, L5⟩
      obtain ⟨A5, c5, rfl⟩ := ho5.len
      clear ho5
      go_wp2
      go_ret2
      exact HQ.out _ _ ⟨_, rfl, Own.nil _ _, step M4.out L5⟩
    subst he
    rw [if_pos rfl] at HQ
    have HL1 : Hid (([] : List Int).length + px.length ≤ 140737488355328) := by have h := HPL.out; show _ ≤ _; simp only [List.length_nil]; omega
    go_enter Tryd.func13, Tryd.ntmps13
    go_wp2_with (first
      | ((with_reducible show wpList _ _ _ (⟨some 3, _, _, _, _, _⟩ :: _) _ _); refine wpList_box_blk rfl _ (.tmp 1) rfl cs rfl ?_; intro g w1 hg1 hg2 K1 L1)
      | ((with_reducible show wpList _ _ _ (⟨some 6, _, _, _, _, _⟩ :: _) _ _); refine wpList_alloc_blk rfl _ rfl zs _ ZH ?_; intro h w2 hg3 hg4 Z2 L02; have K2 := Lib.hid (K1.out.over L02.out); have L2 := Lib.hid (step L1.out L02.out); have hgh : g ≠ h := (by omega); have hhw : w.heap.size ≤ h := (by have := L1.out.size; omega))
      | fail)
    go_upto_region 5 with fail
    refine wp_region_held (S := fun w' => Blk w' g 32 cs) (by kernel_rfl) ?_
    change wpAnyH _ _ _ _ _ _ _ _ w2.drew
    have S0 : Hid (Blk w2.drew g 32 cs) := K2.out.drew
    have b0 : Hid (Below w.heap.size w w2.drew) := L2.out.drew
    refine wpAnyH_take (i := 0) (v := _) rfl (by kernel_rfl) (by kernel_rfl) (by kernel_rfl) (fun _ _ _ h => h) (yieldsIf_fld (by kernel_rfl) _ (.tmp 3) 2 rfl (.pointer (some ⟨g, 0, none⟩)) (.pointer (some ⟨g, 17, none⟩)) (by kernel_rfl) (fld_askT g 2 17 (by decide))) S0.out ?_
    refine wpAnyH_take (i := 1) (v := _) rfl (by kernel_rfl) (by kernel_rfl) (by kernel_rfl) (fun _ _ _ h => h) (yieldsIf_load_mid (by kernel_rfl) _ (.tmp 21) rfl g 17 (by kernel_rfl) lc _ (fun w h => (FA.out w g h).2) Tryd.underlying26 rfl (by rw [size_proof, NC.out])) S0.out ?_
    refine wpAnyH_take (i := 2) (v := _) rfl (by kernel_rfl) (by kernel_rfl) (by kernel_rfl) (fun _ _ _ h => h) (yieldsIf_fld (by kernel_rfl) _ (.tmp 3) 3 rfl (.pointer (some ⟨g, 0, none⟩)) (.pointer (some ⟨g, 49, none⟩)) (by kernel_rfl) (fld_askT g 3 49 (by decide))) S0.out ?_
    refine wpAnyH_take (i := 3) (v := _) rfl (by kernel_rfl) (by kernel_rfl) (by kernel_rfl) (fun _ _ _ h => h) (yieldsIf_load_one (by kernel_rfl) _ (.tmp 23) rfl g 49 (by kernel_rfl) (.string us) (fun w h => (FA.out w g h).1) _ Tryd.underlying9 rfl) S0.out ?_
    have X0 : Hid (Blk w2.drew h 32 zs) := Z2.out.drew
    refine wpAnyH_take (i := 4) (v := _) rfl (by kernel_rfl) (by kernel_rfl) (by kernel_rfl) (fun _ _ _ h => h) (yieldsIf_fld (by kernel_rfl) _ (.tmp 6) 2 rfl (.pointer (some ⟨h, 0, none⟩)) (.pointer (some ⟨h, 17, none⟩)) (by kernel_rfl) (fld_askT h 2 17 (by decide))) S0.out ?_
    refine wpAnyH_frame fun a1 ha1 => ?_
    have e1_25 : a1.eval (.tmp 25) = .pointer (some ⟨h, 17, none⟩) := by rw [ha1]; kernel_rfl
    have e1_22 : a1.eval (.tmp 22) = .agg lc.toArray := by rw [ha1]; kernel_rfl
    refine wpAnyH_one 5 _ (by kernel_rfl) rfl fun K hK => ?_
    refine step_store_midb rfl 26 (.tmp 25) (.tmp 22) (by kernel_rfl) h 17 e1_25 32 zs lc e1_22 X0 32 size_proof NC (by have := HZ.out; show 17 + 32 ≤ _; omega) OC ?_
    intro v1 X1 P1 q1
    rw [E1.out] at X1
    have S1 : Hid (Blk v1 g 32 cs) := S0.out.only P1.out hgh
    have b1 : Hid (Below w.heap.size w v1) := below_only b0.out P1.out hhw
    refine hK _ _ S1.out ?_
    clear hK K P1 q1
    change wpAnyH _ _ _ _ _ _ _ a1 v1
    rw [ha1]
    refine wpAnyH_take (i := 6) (v := _) rfl (by kernel_rfl) (by kernel_rfl) (by kernel_rfl) (fun _ _ _ h => h) (yieldsIf_fld (by kernel_rfl) _ (.tmp 6) 3 rfl (.pointer (some ⟨h, 0, none⟩)) (.pointer (some ⟨h, 49, none⟩)) (by kernel_rfl) (fld_askT h 3 49 (by decide))) S1.out ?_
    refine wpAnyH_frame fun a2 ha2 => ?_
    have e2_26 : a2.eval (.tmp 26) = .pointer (some ⟨h, 49, none⟩) := by rw [ha2]; kernel_rfl
    have e2_24 : a2.eval (.tmp 24) = .string us := by rw [ha2]; kernel_rfl
    refine wpAnyH_one 7 _ (by kernel_rfl) rfl fun K hK => ?_
    refine step_store_fld rfl 9 (.tmp 26) (.tmp 24) (by kernel_rfl) h 49 e2_26 32 z1 (.string us) e2_24 X1 (by have := HZ1.out; show 49 < _; omega) (by kernel_rfl) rfl ?_
    intro v2 X2 P2 q2
    rw [E2.out] at X2
    have S2 : Hid (Blk v2 g 32 cs) := S1.out.only P2.out hgh
    have b2 : Hid (Below w.heap.size w v2) := below_only b1.out P2.out hhw
    refine hK _ _ S2.out ?_
    clear hK K P2 q2
    change wpAnyH _ _ _ _ _ _ _ a2 v2
    rw [ha2]
    refine wpAnyH_done (by kernel_rfl) ?_ _
    have KS := S2
    have MS := b2
    clear S2 b2 S1 b1 X1 ha1 ha2 e1_25 e1_22 e2_26 e2_24 a1 a2
    go_wp2_with fail
    refine (CK.out _).mono ?_
    rintro e w' ⟨rfl, rfl⟩
    go_wp2_with (first
      | ((with_reducible show wpList _ _ _ (⟨some 36, _, _, _, _, _⟩ :: _) _ _); refine wpList_load_want (by kernel_rfl) _ (.tmp 6) rfl h rfl _ ds X2 69 _ Tryd.underlying32 rfl size_ask HDS ?_)
      | ((with_reducible show wpList _ _ _ (⟨some 37, _, _, _, _, _⟩ :: _) _ _); refine wpList_load_want (by kernel_rfl) _ (.tmp 3) rfl g rfl _ cs KS 69 _ Tryd.underlying32 rfl size_ask HL ?_)
      | fail)
    refine (CS.out _ MS.out).mono ?_
    rintro e w4 ⟨rfl, L4⟩
    have K4 := Lib.hid (KS.out.over L4)
    have M4 := Lib.hid (step MS.out L4)
    have hs4 := M4.out.size
    have hgw : g < w4.heap.size := K4.out.lt
    clear KS MS L4 X2
    obtain ⟨gd, _⟩ := FA.out _ _ K4.out
    go_wp2_with fail
    refine (CT.out w4).mono ?_
    rintro e w5 ⟨v5, rfl, ho5, L5⟩
    obtain ⟨A5, c5, rfl, hh5⟩ := ho5.holds HPB.out (by omega)
    have HH5 := Lib.hid hh5
    have K5 := Lib.hid (K4.out.over L5)
    have HR5 := Lib.hid (RG.out _ _ K5.out)
    have M5 := Lib.hid (step M4.out L5)
    have hs5 := M5.out.size
    obtain ⟨m, hm⟩ : ∃ m, m = ys.length := ⟨_, rfl⟩
    have HM := Lib.hid hm
    rw [← hm] at HH5 hpl ⊢
    clear ho5 hh5 L5 hm gd
    have HL2 : Hid (([] ++ px).length + ys.length ≤ 140737488355328) := by have h := HPL.out; have h2 := HM.out; show _ ≤ _; rw [List.nil_append]; omega
    go_wp2_with (first
      | ((with_reducible show wpList _ _ _ (⟨some 87, _, _, _, _, _⟩ :: _) _ _); refine wpList_append_bytes rfl (.tmp 84) (.tmp 86) rfl w5.heap.size _ [] rfl (Own.nil _ _) w5.heap.size (some ⟨g, 17, none⟩) 32 32 px rfl HR5.out HL1.out (Nat.le_refl _) ?_; intro v6 w6 ho6 hb6 hgr6; have HH6 := Lib.hid (HH5.out.below hb6); have hs6 := hb6.size; obtain ⟨A6, c6, hv6⟩ := ho6.out.len; subst hv6)
      | ((with_reducible show wpList _ _ _ (⟨some 90, _, _, _, _, _⟩ :: _) _ _); refine wpList_append_bytes rfl (.tmp 88) (.tmp 89) rfl w5.heap.size _ ([] ++ px) rfl ho6.out w5.heap.size A5 m c5 ys rfl HH6.out HL2.out hs6 ?_; intro v7 w7 ho7 hb7 hgr7)
      | fail)
    go_ret2
    refine HQ.out _ _ ⟨_, rfl, ?_, M5.out.trans ((hb6.trans hb7).mono hs5)⟩
    have h9 := ho7.out.mono (base' := w.heap.size) hs5
    simpa using h9
  by_cases h3 : c = 3
  · have c3 : (c == 3) = true := by simpa using h3
    have b0 : (c == 0) = false := by simpa using h0
    have b1 : (c == 1) = false := by rw [h3]; decide
    have ew : wantAsk c a = { zeroAsk with share := a.share } := by unfold wantAsk; rw [if_neg h0, if_neg h1, if_pos h3]
    have kw := wantAsk_ok (c := c) ka
    rw [ew] at kw
    have hbw := beside_want c a
    rw [ew] at hbw
    have CS : Hid (∀ w' : World, Below w.heap.size w w' → Calls Tryd.prog 15 #[.agg (acells (.slice none 0 0) (.slice none 0 0) (.slice none 0 0) ({ zeroAsk with share := a.share })).toArray, .agg cs.toArray] w' fun e v => e = .returned (.bool (decide ({ zeroAsk with share := a.share } = a))) ∧ Below w'.heap.size w' v) := fun w' hb => Asks_any w' _ _ _ _ kw ka ⟨none, 0, 0, none, 0, 0, none, 0, 0, rfl, HoldsF.nil _ _ _, Holds.nil _ _, HoldsS.nil _ _ _ _⟩ (HA.out.over hb) ⟨Nat.zero_le _, Nat.zero_le _, Nat.zero_le _⟩ HLN.out
    have FA : Hid (∀ (w : World) (g : Nat), Blk w g 32 cs → w.cell? ⟨g, 50, none⟩ = some (.string a.share)) := fun w g h => by obtain ⟨D1, D2, D3, X1, X2, X3, M1, M2, M3, rfl, _⟩ := ha; exact h.at (acells_get ka 1)
    have E1 : Hid ((acells (.slice none 0 0) (.slice none 0 0) (.slice none 0 0) zeroAsk).set 50 (.string a.share) = acells (.slice none 0 0) (.slice none 0 0) (.slice none 0 0) ({ zeroAsk with share := a.share })) := acells_share zeroAsk_ok a.share
    have HDS : Hid ((acells (.slice none 0 0) (.slice none 0 0) (.slice none 0 0) ({ zeroAsk with share := a.share })).length = 69) := acells_len kw
    have HZ0 : Hid (50 < (acells (.slice none 0 0) (.slice none 0 0) (.slice none 0 0) zeroAsk).length) := by show _ < _; rw [HZ.out]; omega
    have HER := Lib.hid (fun hz : ¬ { zeroAsk with share := a.share } = a => HE.out (by unfold askErrP; rw [if_neg (fun h => hz (hbw.1 h.2))]))
    have h2 : { zeroAsk with share := a.share } = a → askErrP c a = ptextErr a.share.data.toList := fun hz => by unfold askErrP; rw [if_pos ⟨hk, hbw.2 hz⟩, if_neg h0, if_neg h1, if_pos h3]
    have HQ : Hid ({ zeroAsk with share := a.share } = a → ∀ e w', (∃ v, e = .returned (.tuple #[v, .int .i64 (ptextErr a.share.data.toList)]) ∧ Own w' w.heap.size v (ptextOf a.share.data.toList) ∧ Below w.heap.size w w') → PAskPost w c a e w') := by
      intro hz e w' hh
      unfold PAskPost askOfP
      rw [h2 hz, if_neg h0, if_neg h1, if_pos h3]
      by_cases hp : ptextErr a.share.data.toList = 0
      · rw [if_pos hp]; exact hh
      · rw [if_neg hp]; unfold ptextOf at hh; rw [if_neg hp] at hh; exact hh
    have CT : Hid (∀ w' : World, Calls Tryd.prog 36 #[.string a.share] w' fun e w2 => ∃ v, e = .returned (.tuple #[v, .int .i64 (ptextErr a.share.data.toList)]) ∧ Own w2 w'.heap.size v (ptextOf a.share.data.toList) ∧ Below w'.heap.size w' w2) := fun w' => RPutText_any a.share w' hu1
    obtain ⟨bw, hbw'⟩ : ∃ b, b = decide ({ zeroAsk with share := a.share } = a) := ⟨_, rfl⟩
    rw [← hbw'] at CS
    have HB0 : Hid (bw = false → ∀ e w', e = .returned (.tuple #[.slice none 0 0, .int .i64 2]) → Below w.heap.size w w' → PAskPost w c a e w') := fun h => HER.out (by rw [h] at hbw'; simpa using hbw'.symm)
    have HB1 := Lib.hid (fun h : bw = true => HQ.out (by rw [h] at hbw'; simpa using hbw'.symm))
    obtain ⟨er, her⟩ : ∃ x, x = ptextErr a.share.data.toList := ⟨_, rfl⟩
    obtain ⟨ys, hys⟩ : ∃ x, x = ptextOf a.share.data.toList := ⟨_, rfl⟩
    rw [← her, ← hys] at HB1 CT
    obtain ⟨zs, hzs⟩ : ∃ x, x = acells (.slice none 0 0) (.slice none 0 0) (.slice none 0 0) zeroAsk := ⟨_, rfl⟩
    obtain ⟨ds, hds⟩ : ∃ x, x = acells (.slice none 0 0) (.slice none 0 0) (.slice none 0 0) ({ zeroAsk with share := a.share }) := ⟨_, rfl⟩
    rw [← hzs] at ZH HZ E1 HZ0
    rw [← hds] at E1 CS HDS
    obtain ⟨us, hus⟩ : ∃ x, x = a.share := ⟨_, rfl⟩
    rw [← hus] at FA E1 CT
    clear hzs hds hus hbw' HQ HER h2 hbw HE HA ew kw ka hk ha HLN hlen h0 h1 h3 hu0 hu1 her hys
    cases bw
    · have HQ := Lib.hid (HB0.out rfl)
      clear HB0 HB1
      go_enter Tryd.func13, Tryd.ntmps13
      go_wp2_with (first
        | ((with_reducible show wpList _ _ _ (⟨some 3, _, _, _, _, _⟩ :: _) _ _); refine wpList_box_blk rfl _ (.tmp 1) rfl cs rfl ?_; intro g w1 hg1 hg2 K1 L1)
        | ((with_reducible show wpList _ _ _ (⟨some 6, _, _, _, _, _⟩ :: _) _ _); refine wpList_alloc_blk rfl _ rfl zs _ ZH ?_; intro h w2 hg3 hg4 Z2 L02; have K2 := Lib.hid (K1.out.over L02.out); have L2 := Lib.hid (step L1.out L02.out); have hgh : g ≠ h := (by omega); have hhw : w.heap.size ≤ h := (by have := L1.out.size; omega); have gd := FA.out _ _ K2.out)
        | ((with_reducible show wpList _ _ _ (⟨none, .store _ (.tmp 31) _, _, _, _, _⟩ :: _) _ _); refine wpList_store_fld rfl _ (.tmp 31) (.tmp 30) rfl h 50 rfl _ zs (.string us) rfl Z2 HZ0 (by kernel_rfl) rfl ?_; intro w3 X3 O3 q3; rw [E1.out] at X3; have KS : Hid (Blk w3 g 32 cs) := K2.out.only O3.out hgh; have MS : Hid (Below w.heap.size w w3) := below_only L2.out O3.out hhw)
        | fail)
      refine (CK.out _).mono ?_
      rintro e w' ⟨rfl, rfl⟩
      go_wp2_with (first
        | ((with_reducible show wpList _ _ _ (⟨some 36, _, _, _, _, _⟩ :: _) _ _); refine wpList_load_want (by kernel_rfl) _ (.tmp 6) rfl h rfl _ ds X3 69 _ Tryd.underlying32 rfl size_ask HDS ?_)
        | ((with_reducible show wpList _ _ _ (⟨some 37, _, _, _, _, _⟩ :: _) _ _); refine wpList_load_want (by kernel_rfl) _ (.tmp 3) rfl g rfl _ cs KS 69 _ Tryd.underlying32 rfl size_ask HL ?_)
        | fail)
      refine (CS.out _ MS.out).mono ?_
      rintro e w4 ⟨rfl, L4⟩
      have K4 := Lib.hid (KS.out.over L4)
      have M4 := Lib.hid (step MS.out L4)
      have hs4 := M4.out.size
      clear KS MS L4 X3 gd O3 q3
      go_wp2
      go_ret2
      exact HQ.out _ _ rfl M4.out
    have HQ := Lib.hid (HB1.out rfl)
    clear HB0 HB1
    go_enter Tryd.func13, Tryd.ntmps13
    go_wp2_with (first
      | ((with_reducible show wpList _ _ _ (⟨some 3, _, _, _, _, _⟩ :: _) _ _); refine wpList_box_blk rfl _ (.tmp 1) rfl cs rfl ?_; intro g w1 hg1 hg2 K1 L1)
      | ((with_reducible show wpList _ _ _ (⟨some 6, _, _, _, _, _⟩ :: _) _ _); refine wpList_alloc_blk rfl _ rfl zs _ ZH ?_; intro h w2 hg3 hg4 Z2 L02; have K2 := Lib.hid (K1.out.over L02.out); have L2 := Lib.hid (step L1.out L02.out); have hgh : g ≠ h := (by omega); have hhw : w.heap.size ≤ h := (by have := L1.out.size; omega); have gd := FA.out _ _ K2.out)
      | ((with_reducible show wpList _ _ _ (⟨none, .store _ (.tmp 31) _, _, _, _, _⟩ :: _) _ _); refine wpList_store_fld rfl _ (.tmp 31) (.tmp 30) rfl h 50 rfl _ zs (.string us) rfl Z2 HZ0 (by kernel_rfl) rfl ?_; intro w3 X3 O3 q3; rw [E1.out] at X3; have KS : Hid (Blk w3 g 32 cs) := K2.out.only O3.out hgh; have MS : Hid (Below w.heap.size w w3) := below_only L2.out O3.out hhw)
      | fail)
    refine (CK.out _).mono ?_
    rintro e w' ⟨rfl, rfl⟩
    go_wp2_with (first
      | ((with_reducible show wpList _ _ _ (⟨some 36, _, _, _, _, _⟩ :: _) _ _); refine wpList_load_want (by kernel_rfl) _ (.tmp 6) rfl h rfl _ ds X3 69 _ Tryd.underlying32 rfl size_ask HDS ?_)
      | ((with_reducible show wpList _ _ _ (⟨some 37, _, _, _, _, _⟩ :: _) _ _); refine wpList_load_want (by kernel_rfl) _ (.tmp 3) rfl g rfl _ cs KS 69 _ Tryd.underlying32 rfl size_ask HL ?_)
      | fail)
    refine (CS.out _ MS.out).mono ?_
    rintro e w4 ⟨rfl, L4⟩
    have K4 := Lib.hid (KS.out.over L4)
    have M4 := Lib.hid (step MS.out L4)
    have hs4 := M4.out.size
    clear KS MS L4 X3 gd O3 q3
    have gd := FA.out _ _ K4.out
    go_wp2_with fail
    refine (CT.out w4).mono ?_
    rintro e w5 ⟨v5, rfl, ho5, L5⟩
    have HO5 := Lib.hid ho5
    have L5' := Lib.hid L5
    clear ho5 L5
    go_wp2
    go_ret2
    exact HQ.out _ _ ⟨_, rfl, HO5.out.mono hs4, step M4.out L5'.out⟩
  have b0 : (c == 0) = false := by simpa using h0
  have b1 : (c == 1) = false := by simpa using h1
  have b3 : (c == 3) = false := by simpa using h3
  have ew : wantAsk c a = zeroAsk := by unfold wantAsk; rw [if_neg h0, if_neg h1, if_neg h3]
  have kw := wantAsk_ok (c := c) ka
  rw [ew] at kw
  have hbw := beside_want c a
  rw [ew] at hbw
  have CS : Hid (∀ w' : World, Below w.heap.size w w' → Calls Tryd.prog 15 #[.agg (acells (.slice none 0 0) (.slice none 0 0) (.slice none 0 0) zeroAsk).toArray, .agg cs.toArray] w' fun e v => e = .returned (.bool (decide (zeroAsk = a))) ∧ Below w'.heap.size w' v) := fun w' hb => Asks_any w' _ _ _ _ kw ka (zeroAsk_is w' _) (HA.out.over hb) ⟨Nat.zero_le _, Nat.zero_le _, Nat.zero_le _⟩ HLN.out
  have h2 : zeroAsk = a → askErrP c a = 0 := fun hz => by unfold askErrP; rw [if_pos ⟨hk, hbw.2 hz⟩, if_neg h0, if_neg h1, if_neg h3]
  have HER := Lib.hid (fun hz : ¬ zeroAsk = a => HE.out (by unfold askErrP; rw [if_neg (fun h => hz (hbw.1 h.2))]))
  have HQ : Hid (zeroAsk = a → ∀ e w', (∃ v, e = .returned (.tuple #[v, .int .i64 0]) ∧ Own w' w.heap.size v (le 0 4) ∧ Below w.heap.size w w') → PAskPost w c a e w') := by
    intro hz e w' hh
    unfold PAskPost askOfP
    rw [h2 hz, if_pos rfl, if_neg h0, if_neg h1, if_neg h3]
    exact hh
  have C0 : Hid (∀ (w : World) (base : Nat) (v : Value) (xs : List Int), Own w base v xs → xs.length ≤ 1000000 → base ≤ w.heap.size → Calls Tryd.prog 43 #[v, .int .u64 0, .int .i64 4] w fun e w' => ∃ v, e = .returned v ∧ Own w' base v (xs ++ le 0 4) ∧ Below base w w') := fun w base v xs ho hx hb => LayT_le w base v xs 0 4 (by decide) (by decide) (by decide) ho hx hb
  obtain ⟨bw, hbw'⟩ : ∃ b, b = decide (zeroAsk = a) := ⟨_, rfl⟩
  rw [← hbw'] at CS
  have HB0 : Hid (bw = false → ∀ e w', e = .returned (.tuple #[.slice none 0 0, .int .i64 2]) → Below w.heap.size w w' → PAskPost w c a e w') := fun h => HER.out (by rw [h] at hbw'; simpa using hbw'.symm)
  have HB1 := Lib.hid (fun h : bw = true => HQ.out (by rw [h] at hbw'; simpa using hbw'.symm))
  obtain ⟨zs, hzs⟩ : ∃ x, x = acells (.slice none 0 0) (.slice none 0 0) (.slice none 0 0) zeroAsk := ⟨_, rfl⟩
  rw [← hzs] at ZH HZ CS
  clear hzs hbw' HQ HER h2 hbw HE HA ew kw ka hk ha HLN hlen h0 h1 h3 hu0 hu1
  cases bw
  · have HQ := Lib.hid (HB0.out rfl)
    clear HB0 HB1
    go_enter Tryd.func13, Tryd.ntmps13
    go_wp2_with (first
      | ((with_reducible show wpList _ _ _ (⟨some 3, _, _, _, _, _⟩ :: _) _ _); refine wpList_box_blk rfl _ (.tmp 1) rfl cs rfl ?_; intro g w1 hg1 hg2 K1 L1)
      | ((with_reducible show wpList _ _ _ (⟨some 6, _, _, _, _, _⟩ :: _) _ _); refine wpList_alloc_blk rfl _ rfl zs _ ZH ?_; intro h w2 hg3 hg4 Z2 L02; have K2 := Lib.hid (K1.out.over L02.out); have L2 := Lib.hid (step L1.out L02.out); have hgh : g ≠ h := (by omega); have hhw : w.heap.size ≤ h := (by have := L1.out.size; omega))
      | fail)
    refine (CK.out _).mono ?_
    rintro e w' ⟨rfl, rfl⟩
    have KS := K2
    have MS := L2
    go_wp2_with (first
      | ((with_reducible show wpList _ _ _ (⟨some 36, _, _, _, _, _⟩ :: _) _ _); refine wpList_load_want (by kernel_rfl) _ (.tmp 6) rfl h rfl _ zs Z2 69 _ Tryd.underlying32 rfl size_ask HZ ?_)
      | ((with_reducible show wpList _ _ _ (⟨some 37, _, _, _, _, _⟩ :: _) _ _); refine wpList_load_want (by kernel_rfl) _ (.tmp 3) rfl g rfl _ cs KS 69 _ Tryd.underlying32 rfl size_ask HL ?_)
      | fail)
    refine (CS.out _ MS.out).mono ?_
    rintro e w4 ⟨rfl, L4⟩
    have M4 := Lib.hid (step MS.out L4)
    have hs4 := M4.out.size
    clear KS MS L4
    go_wp2
    go_ret2
    exact HQ.out _ _ rfl M4.out
  have HQ := Lib.hid (HB1.out rfl)
  clear HB0 HB1
  go_enter Tryd.func13, Tryd.ntmps13
  go_wp2_with (first
    | ((with_reducible show wpList _ _ _ (⟨some 3, _, _, _, _, _⟩ :: _) _ _); refine wpList_box_blk rfl _ (.tmp 1) rfl cs rfl ?_; intro g w1 hg1 hg2 K1 L1)
    | ((with_reducible show wpList _ _ _ (⟨some 6, _, _, _, _, _⟩ :: _) _ _); refine wpList_alloc_blk rfl _ rfl zs _ ZH ?_; intro h w2 hg3 hg4 Z2 L02; have K2 := Lib.hid (K1.out.over L02.out); have L2 := Lib.hid (step L1.out L02.out); have hgh : g ≠ h := (by omega); have hhw : w.heap.size ≤ h := (by have := L1.out.size; omega))
    | fail)
  refine (CK.out _).mono ?_
  rintro e w' ⟨rfl, rfl⟩
  have KS := K2
  have MS := L2
  go_wp2_with (first
    | ((with_reducible show wpList _ _ _ (⟨some 36, _, _, _, _, _⟩ :: _) _ _); refine wpList_load_want (by kernel_rfl) _ (.tmp 6) rfl h rfl _ zs Z2 69 _ Tryd.underlying32 rfl size_ask HZ ?_)
    | ((with_reducible show wpList _ _ _ (⟨some 37, _, _, _, _, _⟩ :: _) _ _); refine wpList_load_want (by kernel_rfl) _ (.tmp 3) rfl g rfl _ cs KS 69 _ Tryd.underlying32 rfl size_ask HL ?_)
    | fail)
  refine (CS.out _ MS.out).mono ?_
  rintro e w4 ⟨rfl, L4⟩
  have M4 := Lib.hid (step MS.out L4)
  have hs4 := M4.out.size
  clear KS MS L4
  go_wp2_with fail
  refine (C0.out w4 w4.heap.size _ [] (Own.nil _ _) (by simp) (Nat.le_refl _)).mono ?_
  rintro e w5 ⟨v5, rfl, ho5, L5⟩
  rw [List.nil_append] at ho5
  have HO5 := Lib.hid ho5
  have L5' := Lib.hid L5
  clear ho5 L5
  go_wp2
  go_ret2
  exact HQ.out _ _ ⟨_, rfl, HO5.out.mono hs4, step M4.out L5'.out⟩
end Go.Proofs.YtepkamkgodbffaaDoor
