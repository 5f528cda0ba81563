/-
  Contract of the document's PutSay (refectoryref08) (one region written by tools/gen_reft5.py).
-/
import Derived.Test.YtepkamkgodbffaaDoorZC
import Derived.Test.YtepkamkgodbffaaDoorYAskF
import Derived.Test.YtepkamkgodbffaaDoorZB
namespace Go.Proofs.YtepkamkgodbffaaDoor
open Go.RowKit
set_option linter.unusedVariables false

def wantSay (c : Int) (s : SayV) : SayV := if c = 0 then { zeroSay with dia := s.dia, siz := s.siz, chal := s.chal } else zeroSay
def sayErrT (c : Int) (s : SayV) : Int := if knownT c = true ∧ wantSay c s = s ∧ s.siz < 4294967296 then 0 else 2
def sayOfT (c : Int) (s : SayV) : List Int := if sayErrT c s = 0 then (if c = 0 then le s.dia 2 ++ le 0 2 ++ le s.siz 4 ++ s.chal else le 0 4) else []
theorem wantSay_ok {c : Int} {s : SayV} (k : s.ok) : (wantSay c s).ok := by
  unfold wantSay
  split
  · exact ⟨k.dia, k.siz, k.clen, k.cbyte, zeroSay_ok.lev, zeroSay_ok.dur, zeroSay_ok.made, zeroSay_ok.file, zeroSay_ok.kind, zeroSay_ok.data, zeroSay_ok.n, zeroSay_ok.ents⟩
  · exact zeroSay_ok

theorem fld_say (g : Nat) (i o : Nat) (h : (i = 0 ∧ o = 0) ∨ (i = 1 ∧ o = 1) ∨ (i = 2 ∧ o = 2)) (w : World) : (Instr.fieldAt 45 (.pointer (some ⟨g, 0, none⟩)) i).run Tryd.prog w = .ok (.pointer (some ⟨g, o, none⟩)) w := by
  rcases h with ⟨rfl, rfl⟩ | ⟨rfl, rfl⟩ | ⟨rfl, rfl⟩ <;> go_simp

theorem putOf_le (n : Int) (s : Nat) (hs : sizeOk (s : Int) = true) (h : n < 256 ^ s) : putOf n (s : Int) = le n s := by
  unfold putOf putOk
  rw [hs, Int.toNat_natCast, decide_eq_true h]
  rfl
theorem LayT_le (w : World) (base : Nat) (v : Value) (xs : List Int) (n : Int) (s : Nat) (h0 : 0 ≤ n) (h1 : n < 256 ^ s) (hs : sizeOk (s : Int) = true) (ho : Own w base v xs) (hxl : xs.length ≤ 1000000) (hb : base ≤ w.heap.size) :
    Calls Tryd.prog 43 #[v, .int .u64 n, .int .i64 (s : Int)] w fun e w' => ∃ v, e = .returned v ∧ Own w' base v (xs ++ le n s) ∧ Below base w w' := by
  have e := putOf_le n s hs h1
  have hs8 : s ≤ 8 := by
    rcases sizeOk_cases hs with h | h | h | h <;> omega
  have e8 : (256 : Int) ^ s ≤ 18446744073709551616 := by
    rcases sizeOk_cases hs with h | h | h | h
    · obtain rfl : s = 1 := by omega
      decide
    · obtain rfl : s = 2 := by omega
      decide
    · obtain rfl : s = 4 := by omega
      decide
    · obtain rfl : s = 8 := by omega
      decide
  have h2 := LayT_any w base v xs n (s : Int) ⟨h0, by omega⟩ ho hxl (by rw [e, le_length]; exact hs8) (by rw [e]; exact le_bytes _ _) hb
  unfold LayTPost at h2
  rw [e] at h2
  exact h2

/-- what PutSay answers -/
def RPutSayPost (w : World) (c : Int) (s : SayV) (e : Ending) (w' : World) : Prop := ∃ v, e = .returned (.tuple #[v, .int .i64 (sayErrT c s)]) ∧ Own w' w.heap.size v (sayOfT c s) ∧ Below w.heap.size w w'

set_option maxRecDepth 100000 in
set_option maxHeartbeats 2000000 in
theorem RPutSay_any (w : World) (cs : List Value) (c : Int) (s : SayV) (hc : 0 ≤ c ∧ c ≤ 65535) (k : s.ok) (hs : SayIs w w.heap.size cs s) (hlen : s.data.length ≤ 281474976710656 ∧ s.ents.length ≤ 281474976710656) :
    Calls Tryd.prog 19 #[.int .u16 c, .agg cs.toArray] w (RPutSayPost w c s) := by
  have HL := Lib.hid (hs.len k)
  have ZH := Lib.hid zero_say
  have HZ : Hid ((scells (.slice none 0 0) (.slice none 0 0) zeroSay).length = 20) := scells_len zeroSay_ok
  have CK : Hid (∀ w : World, Calls Tryd.prog 42 #[.int .u16 c] w fun e w' => e = .returned (.bool (knownT c)) ∧ w = w') := fun w => RKnownT_any w c
  have HE : Hid (sayErrT c s = 2 → ∀ e w', (∃ v, e = .returned (.tuple #[v, .int .i64 2]) ∧ Own w' w.heap.size v [] ∧ Below w.heap.size w w') → RPutSayPost w c s e w') := by
    intro h e w' hh
    unfold RPutSayPost sayOfT
    rw [h, if_neg (by decide)]
    exact hh
  by_cases hk : knownT c = true
  rotate_left
  · have hk' : knownT c = false := by simpa using hk
    have HQ := Lib.hid (HE.out (by unfold sayErrT; rw [if_neg (fun h => hk h.1)]))
    have hc0 : (c == 0) = false := by
      simp only [beq_eq_false_iff_ne]
      rintro rfl
      exact hk (by decide)
    rw [hk'] at CK
    obtain ⟨zs, hzs⟩ : ∃ zs, zs = scells (.slice none 0 0) (.slice none 0 0) zeroSay := ⟨_, rfl⟩
    rw [← hzs] at ZH
    clear hk hk' HE hzs hs k
    go_enter Tryd.func19, Tryd.ntmps19
    go_wp2_with (first
      | ((with_reducible show wpList _ _ _ (⟨some 3, _, _, _, _, _⟩ :: _) _ _); refine wpList_box_blk rfl _ (.tmp 1) rfl cs rfl ?_; intro g w1 hg1 hg2 K1 L1)
      | ((with_reducible show wpList _ _ _ (⟨some 6, _, _, _, _, _⟩ :: _) _ _); refine wpList_alloc_blk rfl _ rfl zs _ ZH ?_; intro h w2 hg3 hg4 Z2 L2)
      | fail)
    refine (CK.out _).mono ?_
    rintro e w' ⟨rfl, rfl⟩
    go_wp2
    go_ret2
    exact HQ.out _ _ ⟨_, rfl, Own.nil _ _, step L1.out L2.out⟩
  rw [hk] at CK
  have hkd := k.dia
  have hks := k.siz
  obtain ⟨hkd0, hkd1⟩ := hkd
  obtain ⟨hks0, hks1⟩ := hks
  have C0 : Hid (∀ (w : World) (base : Nat) (v : Value) (xs : List Int), Own w base v xs → xs.length ≤ 1000000 → base ≤ w.heap.size → Calls Tryd.prog 43 #[v, .int .u64 0, .int .i64 4] w fun e w' => ∃ v, e = .returned v ∧ Own w' base v (xs ++ le 0 4) ∧ Below base w w') := fun w base v xs ho hx hb => LayT_le w base v xs 0 4 (by decide) (by decide) (by decide) ho hx hb
  by_cases hc0 : c = 0
  rotate_left
  · have ew : wantSay c s = zeroSay := by unfold wantSay; rw [if_neg hc0]
    have hcb : (c == 0) = false := by simpa using hc0
    have hcn : (c != 0) = true := by simpa using hc0
    have CS : Hid (∀ w' : World, Below w.heap.size w w' → Calls Tryd.prog 20 #[.agg (scells (.slice none 0 0) (.slice none 0 0) zeroSay).toArray, .agg cs.toArray] w' fun e v => e = .returned (.bool (decide (zeroSay = s))) ∧ Below w'.heap.size w' v) := fun w' hb => Says_any w' _ _ _ _ zeroSay_ok k (zeroSay_is w' _) (hs.over hb) ⟨by decide, by decide⟩ hlen
    obtain ⟨zs, hzs⟩ : ∃ zs, zs = scells (.slice none 0 0) (.slice none 0 0) zeroSay := ⟨_, rfl⟩
    rw [← hzs] at ZH HZ CS
    by_cases hz : zeroSay = s
    · have hq : sayErrT c s = 0 := by
        unfold sayErrT
        rw [if_pos ⟨hk, by rw [ew]; exact hz, by rw [← hz]; decide⟩]
      have HQ : Hid (∀ e w', (∃ v, e = .returned (.tuple #[v, .int .i64 0]) ∧ Own w' w.heap.size v (le 0 4) ∧ Below w.heap.size w w') → RPutSayPost w c s e w') := by
        intro e w' hh
        unfold RPutSayPost sayOfT
        rw [hq, if_pos rfl, if_neg hc0]
        exact hh
      rw [decide_eq_true hz] at CS
      have FZ : Hid (∀ (w : World) (g : Nat), Blk w g 45 cs → w.cell? ⟨g, 1, none⟩ = some (.int .u64 0)) := by
        intro w g h
        obtain ⟨_, _, _, _, _, _, rfl, _⟩ := hs
        rw [← hz] at h
        exact h.at rfl
      clear hk HE hzs hs k ew hq hz hc0 hks0 hks1 hkd0 hkd1
      go_enter Tryd.func19, Tryd.ntmps19
      go_wp2_with (first
        | ((with_reducible show wpList _ _ _ (⟨some 3, _, _, _, _, _⟩ :: _) _ _); refine wpList_box_blk rfl _ (.tmp 1) rfl cs rfl ?_; intro g w1 hg1 hg2 K1 L1)
        | ((with_reducible show wpList _ _ _ (⟨some 6, _, _, _, _, _⟩ :: _) _ _); refine wpList_alloc_blk rfl _ rfl zs _ ZH ?_; intro h w2 hg3 hg4 Z2 L2)
        | fail)
      have K2 := Lib.hid (K1.out.over L2.out)
      have L12 := Lib.hid (step L1.out L2.out)
      clear K1 L1 L2
      refine (CK.out _).mono ?_
      rintro e w' ⟨rfl, rfl⟩
      go_wp2_with (first
        | ((with_reducible show wpList _ _ _ (⟨some 23, _, _, _, _, _⟩ :: _) _ _); refine wpList_load_want (by kernel_rfl) _ (.tmp 6) rfl h rfl _ zs Z2 20 _ Tryd.underlying45 rfl size_say HZ ?_)
        | ((with_reducible show wpList _ _ _ (⟨some 24, _, _, _, _, _⟩ :: _) _ _); refine wpList_load_want (by kernel_rfl) _ (.tmp 3) rfl g rfl _ cs K2 20 _ Tryd.underlying45 rfl size_say HL ?_)
        | fail)
      refine (CS.out _ L12.out).mono ?_
      rintro e w3 ⟨rfl, L3⟩
      have gd := FZ.out _ _ (K2.out.over L3)
      have L13 := Lib.hid (step L12.out L3)
      clear K2 Z2 L12 L3
      go_wp2_with fail
      refine (C0.out w3 w.heap.size _ [] (Own.nil _ _) (by simp) L13.out.size).mono ?_
      rintro e w4 ⟨v, rfl, ho, L4⟩
      go_wp2
      go_ret2
      exact HQ.out _ _ ⟨_, rfl, by rw [List.nil_append] at ho; exact ho, L13.out.trans L4⟩
    · have HQ := Lib.hid (HE.out (by unfold sayErrT; rw [if_neg (fun h => hz (by rw [← ew]; exact h.2.1))]))
      rw [decide_eq_false hz] at CS
      clear hk HE hzs hs k ew hz hc0 hks0 hks1 hkd0 hkd1
      go_enter Tryd.func19, Tryd.ntmps19
      go_wp2_with (first
        | ((with_reducible show wpList _ _ _ (⟨some 3, _, _, _, _, _⟩ :: _) _ _); refine wpList_box_blk rfl _ (.tmp 1) rfl cs rfl ?_; intro g w1 hg1 hg2 K1 L1)
        | ((with_reducible show wpList _ _ _ (⟨some 6, _, _, _, _, _⟩ :: _) _ _); refine wpList_alloc_blk rfl _ rfl zs _ ZH ?_; intro h w2 hg3 hg4 Z2 L2)
        | fail)
      have K2 := Lib.hid (K1.out.over L2.out)
      have L12 := Lib.hid (step L1.out L2.out)
      clear K1 L1 L2
      refine (CK.out _).mono ?_
      rintro e w' ⟨rfl, rfl⟩
      go_wp2_with (first
        | ((with_reducible show wpList _ _ _ (⟨some 23, _, _, _, _, _⟩ :: _) _ _); refine wpList_load_want (by kernel_rfl) _ (.tmp 6) rfl h rfl _ zs Z2 20 _ Tryd.underlying45 rfl size_say HZ ?_)
        | ((with_reducible show wpList _ _ _ (⟨some 24, _, _, _, _, _⟩ :: _) _ _); refine wpList_load_want (by kernel_rfl) _ (.tmp 3) rfl g rfl _ cs K2 20 _ Tryd.underlying45 rfl size_say HL ?_)
        | fail)
      refine (CS.out _ L12.out).mono ?_
      rintro e w3 ⟨rfl, L3⟩
      go_wp2
      go_ret2
      exact HQ.out _ _ ⟨_, rfl, Own.nil _ _, step L12.out L3⟩
  subst hc0
  have ew : wantSay 0 s = { zeroSay with dia := s.dia, siz := s.siz, chal := s.chal } := by unfold wantSay; rw [if_pos rfl]
  have kw := wantSay_ok (c := 0) k
  have CS : Hid (∀ w' : World, Below w.heap.size w w' → Calls Tryd.prog 20 #[.agg (scells (.slice none 0 0) (.slice none 0 0) (wantSay 0 s)).toArray, .agg cs.toArray] w' fun e v => e = .returned (.bool (decide (wantSay 0 s = s))) ∧ Below w'.heap.size w' v) := fun w' hb =>
    Says_any w' _ _ _ _ kw k ⟨none, 0, 0, none, 0, 0, rfl, by rw [ew]; exact Holds.nil _ _, by rw [ew]; exact HoldsS.nil _ _ _ _⟩ (hs.over hb) (by rw [ew]; exact ⟨Nat.zero_le _, Nat.zero_le _⟩) hlen
  have HDS : Hid ((scells (.slice none 0 0) (.slice none 0 0) (wantSay 0 s)).length = 20) := scells_len kw
  have FA : Hid (∀ (w : World) (g : Nat), Blk w g 45 cs → w.cell? ⟨g, 0, none⟩ = some (.int .u16 s.dia) ∧ w.cell? ⟨g, 1, none⟩ = some (.int .u64 s.siz)) := by
    intro w g h
    obtain ⟨_, _, _, _, _, _, rfl, _⟩ := hs
    exact ⟨h.at rfl, h.at rfl⟩
  have RA : Hid (∀ (w : World) (g : Nat), Blk w g 45 cs → w.rangeAt g 2 (s.chal.map (Value.int .u8))) := by
    intro w g h
    obtain ⟨_, _, _, _, _, _, rfl, _⟩ := hs
    exact scells_chal h k
  have HC : Hid (∀ (w : World) (g : Nat), Blk w g 45 cs → Holds w w.heap.size (some ⟨g, 2, none⟩) 8 8 s.chal) := by
    intro w g h
    have hr := RA.out w g h
    refine ⟨k.clen, Nat.le_refl _, by decide, k.cbyte, fun hA => (by cases hA), fun _ => ⟨g, 2, rfl, h.lt, fun i hi => ?_⟩⟩
    rw [hr i (.int .u8 (s.chal.getD i 0)) (by
      have : i < s.chal.length := by rw [k.clen]; exact hi
      simp [List.getD_eq_getElem?_getD, this])]
  have NC : Hid ((s.chal.map (Value.int .u8)).length = 8) := by show _ = _; rw [List.length_map]; exact k.clen
  have OC : Hid (∀ v ∈ s.chal.map (Value.int .u8), v.oneCell' = true) := fun v hv => mem_nums hv
  have HCL := Lib.hid k.clen
  have E1 : Hid ((scells (.slice none 0 0) (.slice none 0 0) zeroSay).set 0 (.int .u16 s.dia) = scells (.slice none 0 0) (.slice none 0 0) { zeroSay with dia := s.dia }) := rfl
  have E2 : Hid ((scells (.slice none 0 0) (.slice none 0 0) { zeroSay with dia := s.dia }).set 1 (.int .u64 s.siz) = scells (.slice none 0 0) (.slice none 0 0) { zeroSay with dia := s.dia, siz := s.siz }) := rfl
  have E3 : Hid ((scells (.slice none 0 0) (.slice none 0 0) { zeroSay with dia := s.dia, siz := s.siz }).take 2 ++ (s.chal.map (Value.int .u8) ++ (scells (.slice none 0 0) (.slice none 0 0) { zeroSay with dia := s.dia, siz := s.siz }).drop (2 + 8)) = scells (.slice none 0 0) (.slice none 0 0) (wantSay 0 s)) := by
    show _ = _
    rw [ew]
    rfl
  have HZ1 : Hid ((scells (.slice none 0 0) (.slice none 0 0) { zeroSay with dia := s.dia }).length = 20) := rfl
  have HZ2 : Hid ((scells (.slice none 0 0) (.slice none 0 0) { zeroSay with dia := s.dia, siz := s.siz }).length = 20) := rfl
  have HQ : Hid (wantSay 0 s = s → s.siz < 4294967296 → ∀ e w', (∃ v, e = .returned (.tuple #[v, .int .i64 0]) ∧ Own w' w.heap.size v (le s.dia 2 ++ le 0 2 ++ le s.siz 4 ++ s.chal) ∧ Below w.heap.size w w') → RPutSayPost w 0 s e w') := by
    intro h1 h2 e w' hh
    have hq : sayErrT 0 s = 0 := by unfold sayErrT; rw [if_pos ⟨hk, h1, h2⟩]
    unfold RPutSayPost sayOfT
    rw [hq, if_pos rfl, if_pos rfl]
    exact hh
  have HN1 : Hid (¬ wantSay 0 s = s → sayErrT 0 s = 2) := fun h => by unfold sayErrT; rw [if_neg (fun q => h q.2.1)]
  have HN2 : Hid (¬ s.siz < 4294967296 → sayErrT 0 s = 2) := fun h => by unfold sayErrT; rw [if_neg (fun q => h q.2.2)]
  have D1 : Hid (∀ (w : World) (base : Nat) (v : Value) (xs : List Int), Own w base v xs → xs.length ≤ 1000000 → base ≤ w.heap.size → Calls Tryd.prog 43 #[v, .int .u64 s.dia, .int .i64 2] w fun e w' => ∃ v, e = .returned v ∧ Own w' base v (xs ++ le s.dia 2) ∧ Below base w w') := fun w base v xs ho hx hb => LayT_le w base v xs s.dia 2 hkd0 (by show s.dia < 256 ^ 2; rw [show (256 : Int) ^ 2 = 65536 from by decide]; omega) (by decide) ho hx hb
  have D2 : Hid (∀ (w : World) (base : Nat) (v : Value) (xs : List Int), Own w base v xs → xs.length ≤ 1000000 → base ≤ w.heap.size → Calls Tryd.prog 43 #[v, .int .u64 0, .int .i64 2] w fun e w' => ∃ v, e = .returned v ∧ Own w' base v (xs ++ le 0 2) ∧ Below base w w') := fun w base v xs ho hx hb => LayT_le w base v xs 0 2 (by decide) (by decide) (by decide) ho hx hb
  have D3 : Hid (s.siz < 4294967296 → ∀ (w : World) (base : Nat) (v : Value) (xs : List Int), Own w base v xs → xs.length ≤ 1000000 → base ≤ w.heap.size → Calls Tryd.prog 43 #[v, .int .u64 s.siz, .int .i64 4] w fun e w' => ∃ v, e = .returned v ∧ Own w' base v (xs ++ le s.siz 4) ∧ Below base w w') := fun hq w base v xs ho hx hb => LayT_le w base v xs s.siz 4 hks0 (by show s.siz < 256 ^ 4; rw [show (256 : Int) ^ 4 = 4294967296 from by decide]; exact hq) (by decide) ho hx hb
  have zdia : IntKind.u64.wrap s.dia = s.dia := by rw [IntKind.wrap_u64]; omega
  have ZW := Lib.hid (by trivial : True)
  obtain ⟨bw, hbw⟩ : ∃ bw, bw = decide (wantSay 0 s = s) := ⟨_, rfl⟩
  have HBW := Lib.hid hbw
  rw [← hbw] at CS
  obtain ⟨dia, hdia⟩ : ∃ x, x = s.dia := ⟨_, rfl⟩
  obtain ⟨siz, hsiz⟩ : ∃ x, x = s.siz := ⟨_, rfl⟩
  obtain ⟨chal, hchal⟩ : ∃ x, x = s.chal := ⟨_, rfl⟩
  obtain ⟨lc, hlc⟩ : ∃ x, x = s.chal.map (Value.int .u8) := ⟨_, rfl⟩
  obtain ⟨zs, hzs⟩ : ∃ x, x = scells (.slice none 0 0) (.slice none 0 0) zeroSay := ⟨_, rfl⟩
  obtain ⟨z1, hz1⟩ : ∃ x, x = scells (.slice none 0 0) (.slice none 0 0) { zeroSay with dia := s.dia } := ⟨_, rfl⟩
  obtain ⟨z2, hz2⟩ : ∃ x, x = scells (.slice none 0 0) (.slice none 0 0) { zeroSay with dia := s.dia, siz := s.siz } := ⟨_, rfl⟩
  obtain ⟨ds, hds⟩ : ∃ x, x = scells (.slice none 0 0) (.slice none 0 0) (wantSay 0 s) := ⟨_, rfl⟩
  rw [← hzs] at ZH HZ E1
  rw [← hz1] at E1 E2 HZ1
  rw [← hz2] at E2 E3 HZ2
  rw [← hds] at E3 CS HDS
  rw [← hlc] at RA NC OC E3
  rw [← hdia] at FA E1 HQ D1 zdia hkd0 hkd1
  rw [← hsiz] at FA E2 HQ D3 HN2 hks0 hks1
  rw [← hchal] at HC HQ HCL
  clear hbw hdia hsiz hchal hlc hzs hz1 hz2 hds hk hs k kw ew ZW
  by_cases hq : siz < 4294967296
  · have D3' := Lib.hid (D3.out hq)
    cases bw
    · have HQ2 := Lib.hid (HE.out (HN1.out (by have := HBW.out; simpa using this.symm)))
      go_enter Tryd.func19, Tryd.ntmps19
      go_wp2_with (first
        | ((with_reducible show wpList _ _ _ (⟨some 3, _, _, _, _, _⟩ :: _) _ _); refine wpList_box_blk rfl _ (.tmp 1) rfl cs rfl ?_; intro g w1 hg1 hg2 K1 L1)
        | ((with_reducible show wpList _ _ _ (⟨some 6, _, _, _, _, _⟩ :: _) _ _); refine wpList_alloc_blk rfl _ rfl zs _ ZH ?_; intro h w2 hg3 hg4 Z2 L02; have K2 := Lib.hid (K1.out.over L02.out); have L2 := Lib.hid (step L1.out L02.out); have hgh : g ≠ h := (by omega); have hhw : w.heap.size ≤ h := (by have := L1.out.size; omega))
        | fail)
      go_upto_region 3 with fail
      refine wp_region_held (S := fun w' => Blk w' g 45 cs) (by kernel_rfl) ?_
      change wpAnyH _ _ _ _ _ _ _ _ w2.drew
      have S0 : Hid (Blk w2.drew g 45 cs) := K2.out.drew
      have b0 : Hid (Below w.heap.size w w2.drew) := L2.out.drew
      refine wpAnyH_take (i := 0) (v := _) rfl (by kernel_rfl) (by kernel_rfl) (by kernel_rfl) (fun _ _ _ h => h) (yieldsIf_fld (by kernel_rfl) _ (.tmp 3) 0 rfl (.pointer (some ⟨g, 0, none⟩)) (.pointer (some ⟨g, 0, none⟩)) (by kernel_rfl) (fld_say g 0 0 (by decide))) S0.out ?_
      refine wpAnyH_take (i := 1) (v := _) rfl (by kernel_rfl) (by kernel_rfl) (by kernel_rfl) (fun _ _ _ h => h) (yieldsIf_load_one (by kernel_rfl) _ (.tmp 10) rfl g 0 (by kernel_rfl) (.int .u16 dia) (fun w h => (FA.out w g h).1) _ Tryd.underlying22 rfl) S0.out ?_
      refine wpAnyH_take (i := 2) (v := _) rfl (by kernel_rfl) (by kernel_rfl) (by kernel_rfl) (fun _ _ _ h => h) (yieldsIf_fld (by kernel_rfl) _ (.tmp 3) 1 rfl (.pointer (some ⟨g, 0, none⟩)) (.pointer (some ⟨g, 1, none⟩)) (by kernel_rfl) (fld_say g 1 1 (by decide))) S0.out ?_
      refine wpAnyH_take (i := 3) (v := _) rfl (by kernel_rfl) (by kernel_rfl) (by kernel_rfl) (fun _ _ _ h => h) (yieldsIf_load_one (by kernel_rfl) _ (.tmp 12) rfl g 1 (by kernel_rfl) (.int .u64 siz) (fun w h => (FA.out w g h).2) _ Tryd.underlying28 rfl) S0.out ?_
      refine wpAnyH_take (i := 4) (v := _) rfl (by kernel_rfl) (by kernel_rfl) (by kernel_rfl) (fun _ _ _ h => h) (yieldsIf_fld (by kernel_rfl) _ (.tmp 3) 2 rfl (.pointer (some ⟨g, 0, none⟩)) (.pointer (some ⟨g, 2, none⟩)) (by kernel_rfl) (fld_say g 2 2 (by decide))) S0.out ?_
      refine wpAnyH_take (i := 5) (v := _) rfl (by kernel_rfl) (by kernel_rfl) (by kernel_rfl) (fun _ _ _ h => h) (yieldsIf_load_mid (by kernel_rfl) _ (.tmp 14) rfl g 2 (by kernel_rfl) lc _ (fun w h => RA.out w g h) Tryd.underlying41 rfl (by rw [size_chal, NC.out])) S0.out ?_
      have X0 : Hid (Blk w2.drew h 45 zs) := Z2.out.drew
      refine wpAnyH_take (i := 6) (v := _) rfl (by kernel_rfl) (by kernel_rfl) (by kernel_rfl) (fun _ _ _ h => h) (yieldsIf_fld (by kernel_rfl) _ (.tmp 6) 0 rfl (.pointer (some ⟨h, 0, none⟩)) (.pointer (some ⟨h, 0, none⟩)) (by kernel_rfl) (fld_say h 0 0 (by decide))) S0.out ?_
      refine wpAnyH_frame fun a1 ha1 => ?_
      have e1_16 : a1.eval (.tmp 16) = .pointer (some ⟨h, 0, none⟩) := by rw [ha1]; kernel_rfl
      have e1_11 : a1.eval (.tmp 11) = .int .u16 dia := by rw [ha1]; kernel_rfl
      refine wpAnyH_one 7 _ (by kernel_rfl) rfl fun K hK => ?_
      refine step_store_fld rfl 22 (.tmp 16) (.tmp 11) (by kernel_rfl) h 0 e1_16 45 zs (.int .u16 dia) e1_11 X0 (by have := HZ.out; show 0 < _; omega) (by kernel_rfl) rfl ?_
      intro v1 X1 P1 q1
      rw [E1.out] at X1
      have S1 : Hid (Blk v1 g 45 cs) := S0.out.only P1.out hgh
      have b1 : Hid (Below w.heap.size w v1) := below_only b0.out P1.out hhw
      refine hK _ _ S1.out ?_
      clear hK K P1 q1
      change wpAnyH _ _ _ _ _ _ _ a1 v1
      rw [ha1]
      refine wpAnyH_take (i := 8) (v := _) rfl (by kernel_rfl) (by kernel_rfl) (by kernel_rfl) (fun _ _ _ h => h) (yieldsIf_fld (by kernel_rfl) _ (.tmp 6) 1 rfl (.pointer (some ⟨h, 0, none⟩)) (.pointer (some ⟨h, 1, none⟩)) (by kernel_rfl) (fld_say h 1 1 (by decide))) S1.out ?_
      refine wpAnyH_frame fun a2 ha2 => ?_
      have e2_17 : a2.eval (.tmp 17) = .pointer (some ⟨h, 1, none⟩) := by rw [ha2]; kernel_rfl
      have e2_13 : a2.eval (.tmp 13) = .int .u64 siz := by rw [ha2]; kernel_rfl
      refine wpAnyH_one 9 _ (by kernel_rfl) rfl fun K hK => ?_
      refine step_store_fld rfl 28 (.tmp 17) (.tmp 13) (by kernel_rfl) h 1 e2_17 45 z1 (.int .u64 siz) e2_13 X1 (by have := HZ1.out; show 1 < _; omega) (by kernel_rfl) rfl ?_
      intro v2 X2 P2 q2
      rw [E2.out] at X2
      have S2 : Hid (Blk v2 g 45 cs) := S1.out.only P2.out hgh
      have b2 : Hid (Below w.heap.size w v2) := below_only b1.out P2.out hhw
      refine hK _ _ S2.out ?_
      clear hK K P2 q2
      change wpAnyH _ _ _ _ _ _ _ a2 v2
      rw [ha2]
      refine wpAnyH_take (i := 10) (v := _) rfl (by kernel_rfl) (by kernel_rfl) (by kernel_rfl) (fun _ _ _ h => h) (yieldsIf_fld (by kernel_rfl) _ (.tmp 6) 2 rfl (.pointer (some ⟨h, 0, none⟩)) (.pointer (some ⟨h, 2, none⟩)) (by kernel_rfl) (fld_say h 2 2 (by decide))) S2.out ?_
      refine wpAnyH_frame fun a3 ha3 => ?_
      have e3_18 : a3.eval (.tmp 18) = .pointer (some ⟨h, 2, none⟩) := by rw [ha3]; kernel_rfl
      have e3_15 : a3.eval (.tmp 15) = .agg lc.toArray := by rw [ha3]; kernel_rfl
      refine wpAnyH_one 11 _ (by kernel_rfl) rfl fun K hK => ?_
      refine step_store_midb rfl 41 (.tmp 18) (.tmp 15) (by kernel_rfl) h 2 e3_18 45 z2 lc e3_15 X2 8 size_chal NC (by have := HZ2.out; show 2 + 8 ≤ _; omega) OC ?_
      intro v3 X3 P3 q3
      rw [E3.out] at X3
      have S3 : Hid (Blk v3 g 45 cs) := S2.out.only P3.out hgh
      have b3 : Hid (Below w.heap.size w v3) := below_only b2.out P3.out hhw
      refine hK _ _ S3.out ?_
      clear hK K P3 q3
      change wpAnyH _ _ _ _ _ _ _ a3 v3
      rw [ha3]
      refine wpAnyH_done (by kernel_rfl) ?_ _
      go_wp2_with fail
      refine (CK.out _).mono ?_
      rintro e w' ⟨rfl, rfl⟩
      go_wp2_with (first
        | ((with_reducible show wpList _ _ _ (⟨some 23, _, _, _, _, _⟩ :: _) _ _); refine wpList_load_want (by kernel_rfl) _ (.tmp 6) rfl h rfl _ ds X3 20 _ Tryd.underlying45 rfl size_say HDS ?_)
        | ((with_reducible show wpList _ _ _ (⟨some 24, _, _, _, _, _⟩ :: _) _ _); refine wpList_load_want (by kernel_rfl) _ (.tmp 3) rfl g rfl _ cs S3 20 _ Tryd.underlying45 rfl size_say HL ?_)
        | fail)
      refine (CS.out _ b3.out).mono ?_
      rintro e w4 ⟨rfl, L4⟩
      go_wp2
      go_ret2
      exact HQ2.out _ _ ⟨_, rfl, Own.nil _ _, step b3.out L4⟩
    · have HQ2 := Lib.hid (HQ.out (by have := HBW.out; simpa using this.symm) hq)
      go_enter Tryd.func19, Tryd.ntmps19
      go_wp2_with (first
        | ((with_reducible show wpList _ _ _ (⟨some 3, _, _, _, _, _⟩ :: _) _ _); refine wpList_box_blk rfl _ (.tmp 1) rfl cs rfl ?_; intro g w1 hg1 hg2 K1 L1)
        | ((with_reducible show wpList _ _ _ (⟨some 6, _, _, _, _, _⟩ :: _) _ _); refine wpList_alloc_blk rfl _ rfl zs _ ZH ?_; intro h w2 hg3 hg4 Z2 L02; have K2 := Lib.hid (K1.out.over L02.out); have L2 := Lib.hid (step L1.out L02.out); have hgh : g ≠ h := (by omega); have hhw : w.heap.size ≤ h := (by have := L1.out.size; omega))
        | fail)
      go_upto_region 3 with fail
      refine wp_region_held (S := fun w' => Blk w' g 45 cs) (by kernel_rfl) ?_
      change wpAnyH _ _ _ _ _ _ _ _ w2.drew
      have S0 : Hid (Blk w2.drew g 45 cs) := K2.out.drew
      have b0 : Hid (Below w.heap.size w w2.drew) := L2.out.drew
      refine wpAnyH_take (i := 0) (v := _) rfl (by kernel_rfl) (by kernel_rfl) (by kernel_rfl) (fun _ _ _ h => h) (yieldsIf_fld (by kernel_rfl) _ (.tmp 3) 0 rfl (.pointer (some ⟨g, 0, none⟩)) (.pointer (some ⟨g, 0, none⟩)) (by kernel_rfl) (fld_say g 0 0 (by decide))) S0.out ?_
      refine wpAnyH_take (i := 1) (v := _) rfl (by kernel_rfl) (by kernel_rfl) (by kernel_rfl) (fun _ _ _ h => h) (yieldsIf_load_one (by kernel_rfl) _ (.tmp 10) rfl g 0 (by kernel_rfl) (.int .u16 dia) (fun w h => (FA.out w g h).1) _ Tryd.underlying22 rfl) S0.out ?_
      refine wpAnyH_take (i := 2) (v := _) rfl (by kernel_rfl) (by kernel_rfl) (by kernel_rfl) (fun _ _ _ h => h) (yieldsIf_fld (by kernel_rfl) _ (.tmp 3) 1 rfl (.pointer (some ⟨g, 0, none⟩)) (.pointer (some ⟨g, 1, none⟩)) (by kernel_rfl) (fld_say g 1 1 (by decide))) S0.out ?_
      refine wpAnyH_take (i := 3) (v := _) rfl (by kernel_rfl) (by kernel_rfl) (by kernel_rfl) (fun _ _ _ h => h) (yieldsIf_load_one (by kernel_rfl) _ (.tmp 12) rfl g 1 (by kernel_rfl) (.int .u64 siz) (fun w h => (FA.out w g h).2) _ Tryd.underlying28 rfl) S0.out ?_
      refine wpAnyH_take (i := 4) (v := _) rfl (by kernel_rfl) (by kernel_rfl) (by kernel_rfl) (fun _ _ _ h => h) (yieldsIf_fld (by kernel_rfl) _ (.tmp 3) 2 rfl (.pointer (some ⟨g, 0, none⟩)) (.pointer (some ⟨g, 2, none⟩)) (by kernel_rfl) (fld_say g 2 2 (by decide))) S0.out ?_
      refine wpAnyH_take (i := 5) (v := _) rfl (by kernel_rfl) (by kernel_rfl) (by kernel_rfl) (fun _ _ _ h => h) (yieldsIf_load_mid (by kernel_rfl) _ (.tmp 14) rfl g 2 (by kernel_rfl) lc _ (fun w h => RA.out w g h) Tryd.underlying41 rfl (by rw [size_chal, NC.out])) S0.out ?_
      have X0 : Hid (Blk w2.drew h 45 zs) := Z2.out.drew
      refine wpAnyH_take (i := 6) (v := _) rfl (by kernel_rfl) (by kernel_rfl) (by kernel_rfl) (fun _ _ _ h => h) (yieldsIf_fld (by kernel_rfl) _ (.tmp 6) 0 rfl (.pointer (some ⟨h, 0, none⟩)) (.pointer (some ⟨h, 0, none⟩)) (by kernel_rfl) (fld_say h 0 0 (by decide))) S0.out ?_
      refine wpAnyH_frame fun a1 ha1 => ?_
      have e1_16 : a1.eval (.tmp 16) = .pointer (some ⟨h, 0, none⟩) := by rw [ha1]; kernel_rfl
      have e1_11 : a1.eval (.tmp 11) = .int .u16 dia := by rw [ha1]; kernel_rfl
      refine wpAnyH_one 7 _ (by kernel_rfl) rfl fun K hK => ?_
      refine step_store_fld rfl 22 (.tmp 16) (.tmp 11) (by kernel_rfl) h 0 e1_16 45 zs (.int .u16 dia) e1_11 X0 (by have := HZ.out; show 0 < _; omega) (by kernel_rfl) rfl ?_
      intro v1 X1 P1 q1
      rw [E1.out] at X1
      have S1 : Hid (Blk v1 g 45 cs) := S0.out.only P1.out hgh
      have b1 : Hid (Below w.heap.size w v1) := below_only b0.out P1.out hhw
      refine hK _ _ S1.out ?_
      clear hK K P1 q1
      change wpAnyH _ _ _ _ _ _ _ a1 v1
      rw [ha1]
      refine wpAnyH_take (i := 8) (v := _) rfl (by kernel_rfl) (by kernel_rfl) (by kernel_rfl) (fun _ _ _ h => h) (yieldsIf_fld (by kernel_rfl) _ (.tmp 6) 1 rfl (.pointer (some ⟨h, 0, none⟩)) (.pointer (some ⟨h, 1, none⟩)) (by kernel_rfl) (fld_say h 1 1 (by decide))) S1.out ?_
      refine wpAnyH_frame fun a2 ha2 => ?_
      have e2_17 : a2.eval (.tmp 17) = .pointer (some ⟨h, 1, none⟩) := by rw [ha2]; kernel_rfl
      have e2_13 : a2.eval (.tmp 13) = .int .u64 siz := by rw [ha2]; kernel_rfl
      refine wpAnyH_one 9 _ (by kernel_rfl) rfl fun K hK => ?_
      refine step_store_fld rfl 28 (.tmp 17) (.tmp 13) (by kernel_rfl) h 1 e2_17 45 z1 (.int .u64 siz) e2_13 X1 (by have := HZ1.out; show 1 < _; omega) (by kernel_rfl) rfl ?_
      intro v2 X2 P2 q2
      rw [E2.out] at X2
      have S2 : Hid (Blk v2 g 45 cs) := S1.out.only P2.out hgh
      have b2 : Hid (Below w.heap.size w v2) := below_only b1.out P2.out hhw
      refine hK _ _ S2.out ?_
      clear hK K P2 q2
      change wpAnyH _ _ _ _ _ _ _ a2 v2
      rw [ha2]
      refine wpAnyH_take (i := 10) (v := _) rfl (by kernel_rfl) (by kernel_rfl) (by kernel_rfl) (fun _ _ _ h => h) (yieldsIf_fld (by kernel_rfl) _ (.tmp 6) 2 rfl (.pointer (some ⟨h, 0, none⟩)) (.pointer (some ⟨h, 2, none⟩)) (by kernel_rfl) (fld_say h 2 2 (by decide))) S2.out ?_
      refine wpAnyH_frame fun a3 ha3 => ?_
      have e3_18 : a3.eval (.tmp 18) = .pointer (some ⟨h, 2, none⟩) := by rw [ha3]; kernel_rfl
      have e3_15 : a3.eval (.tmp 15) = .agg lc.toArray := by rw [ha3]; kernel_rfl
      refine wpAnyH_one 11 _ (by kernel_rfl) rfl fun K hK => ?_
      refine step_store_midb rfl 41 (.tmp 18) (.tmp 15) (by kernel_rfl) h 2 e3_18 45 z2 lc e3_15 X2 8 size_chal NC (by have := HZ2.out; show 2 + 8 ≤ _; omega) OC ?_
      intro v3 X3 P3 q3
      rw [E3.out] at X3
      have S3 : Hid (Blk v3 g 45 cs) := S2.out.only P3.out hgh
      have b3 : Hid (Below w.heap.size w v3) := below_only b2.out P3.out hhw
      refine hK _ _ S3.out ?_
      clear hK K P3 q3
      change wpAnyH _ _ _ _ _ _ _ a3 v3
      rw [ha3]
      refine wpAnyH_done (by kernel_rfl) ?_ _
      go_wp2_with fail
      refine (CK.out _).mono ?_
      rintro e w' ⟨rfl, rfl⟩
      go_wp2_with (first
        | ((with_reducible show wpList _ _ _ (⟨some 23, _, _, _, _, _⟩ :: _) _ _); refine wpList_load_want (by kernel_rfl) _ (.tmp 6) rfl h rfl _ ds X3 20 _ Tryd.underlying45 rfl size_say HDS ?_)
        | ((with_reducible show wpList _ _ _ (⟨some 24, _, _, _, _, _⟩ :: _) _ _); refine wpList_load_want (by kernel_rfl) _ (.tmp 3) rfl g rfl _ cs S3 20 _ Tryd.underlying45 rfl size_say HL ?_)
        | fail)
      refine (CS.out _ b3.out).mono ?_
      rintro e w4 ⟨rfl, L4⟩
      have K4 := Lib.hid (S3.out.over L4)
      have L04 := Lib.hid (step b3.out L4)
      obtain ⟨gd0, gd1⟩ := FA.out _ _ K4.out
      have hgw : g < w4.heap.size := K4.out.lt
      have hs4 := L04.out.size
      clear S3 b3 L4 X3
      go_wp2_with fail
      refine (D1.out w4 w4.heap.size _ [] (Own.nil _ _) (by simp) (Nat.le_refl _)).mono ?_
      rintro e w5 ⟨v5, rfl, ho5, L5⟩
      rw [List.nil_append] at ho5
      have HO5 := Lib.hid ho5
      have M5 := Lib.hid L5
      have hs5 := L5.size
      clear ho5 L5
      go_wp2_with fail
      refine (D2.out w5 w4.heap.size _ _ HO5.out (by rw [le_length]; omega) hs5).mono ?_
      rintro e w6 ⟨v6, rfl, ho6, L6⟩
      have HO6 := Lib.hid ho6
      have M6 := Lib.hid (M5.out.trans L6)
      have hs6 := M6.out.size
      obtain ⟨gd6, gd7⟩ := FA.out _ _ (K4.out.below M6.out hgw)
      clear ho6 L6 M5 HO5
      go_wp2_with fail
      refine (D3'.out w6 w4.heap.size _ _ HO6.out (by rw [List.length_append, le_length, le_length]; omega) hs6).mono ?_
      rintro e w7 ⟨v7, rfl, ho7, L7⟩
      have M7 := Lib.hid (M6.out.trans L7)
      have HC7 := Lib.hid (HC.out _ _ (K4.out.below M7.out hgw))
      have hs7 := M7.out.size
      have hl7 : (le dia 2 ++ le 0 2 ++ le siz 4).length = 8 := by simp only [List.length_append, le_length]
      obtain ⟨xs, hxs⟩ : ∃ xs, xs = le dia 2 ++ le 0 2 ++ le siz 4 := ⟨_, rfl⟩
      rw [← hxs] at ho7 hl7 HQ2
      have HO7 := Lib.hid ho7
      have HLEN : Hid (xs.length + chal.length ≤ 140737488355328) := by have := HCL.out; show _ ≤ _; omega
      clear ho7 L7 M6 HO6 hxs gd0 gd1 gd6 gd7
      go_wp2_with (first
        | (at_builtin; refine wpList_append_bytes rfl (.tmp 48) (.tmp 50) rfl w4.heap.size _ xs rfl HO7.out w7.heap.size (some ⟨g, 2, none⟩) 8 8 chal rfl HC7.out HLEN.out hs7 ?_; intro v8 w8 ho8 hb8 hgr)
        | fail)
      go_ret2
      exact HQ2.out _ _ ⟨_, rfl, ho8.out.mono hs4, L04.out.trans ((M7.out.trans hb8).mono hs4)⟩
  · have HQ2 := Lib.hid (HE.out (HN2.out hq))
    cases bw
    · go_enter Tryd.func19, Tryd.ntmps19
      go_wp2_with (first
        | ((with_reducible show wpList _ _ _ (⟨some 3, _, _, _, _, _⟩ :: _) _ _); refine wpList_box_blk rfl _ (.tmp 1) rfl cs rfl ?_; intro g w1 hg1 hg2 K1 L1)
        | ((with_reducible show wpList _ _ _ (⟨some 6, _, _, _, _, _⟩ :: _) _ _); refine wpList_alloc_blk rfl _ rfl zs _ ZH ?_; intro h w2 hg3 hg4 Z2 L02; have K2 := Lib.hid (K1.out.over L02.out); have L2 := Lib.hid (step L1.out L02.out); have hgh : g ≠ h := (by omega); have hhw : w.heap.size ≤ h := (by have := L1.out.size; omega))
        | fail)
      go_upto_region 3 with fail
      refine wp_region_held (S := fun w' => Blk w' g 45 cs) (by kernel_rfl) ?_
      change wpAnyH _ _ _ _ _ _ _ _ w2.drew
      have S0 : Hid (Blk w2.drew g 45 cs) := K2.out.drew
      have b0 : Hid (Below w.heap.size w w2.drew) := L2.out.drew
      refine wpAnyH_take (i := 0) (v := _) rfl (by kernel_rfl) (by kernel_rfl) (by kernel_rfl) (fun _ _ _ h => h) (yieldsIf_fld (by kernel_rfl) _ (.tmp 3) 0 rfl (.pointer (some ⟨g, 0, none⟩)) (.pointer (some ⟨g, 0, none⟩)) (by kernel_rfl) (fld_say g 0 0 (by decide))) S0.out ?_
      refine wpAnyH_take (i := 1) (v := _) rfl (by kernel_rfl) (by kernel_rfl) (by kernel_rfl) (fun _ _ _ h => h) (yieldsIf_load_one (by kernel_rfl) _ (.tmp 10) rfl g 0 (by kernel_rfl) (.int .u16 dia) (fun w h => (FA.out w g h).1) _ Tryd.underlying22 rfl) S0.out ?_
      refine wpAnyH_take (i := 2) (v := _) rfl (by kernel_rfl) (by kernel_rfl) (by kernel_rfl) (fun _ _ _ h => h) (yieldsIf_fld (by kernel_rfl) _ (.tmp 3) 1 rfl (.pointer (some ⟨g, 0, none⟩)) (.pointer (some ⟨g, 1, none⟩)) (by kernel_rfl) (fld_say g 1 1 (by decide))) S0.out ?_
      refine wpAnyH_take (i := 3) (v := _) rfl (by kernel_rfl) (by kernel_rfl) (by kernel_rfl) (fun _ _ _ h => h) (yieldsIf_load_one (by kernel_rfl) _ (.tmp 12) rfl g 1 (by kernel_rfl) (.int .u64 siz) (fun w h => (FA.out w g h).2) _ Tryd.underlying28 rfl) S0.out ?_
      refine wpAnyH_take (i := 4) (v := _) rfl (by kernel_rfl) (by kernel_rfl) (by kernel_rfl) (fun _ _ _ h => h) (yieldsIf_fld (by kernel_rfl) _ (.tmp 3) 2 rfl (.pointer (some ⟨g, 0, none⟩)) (.pointer (some ⟨g, 2, none⟩)) (by kernel_rfl) (fld_say g 2 2 (by decide))) S0.out ?_
      refine wpAnyH_take (i := 5) (v := _) rfl (by kernel_rfl) (by kernel_rfl) (by kernel_rfl) (fun _ _ _ h => h) (yieldsIf_load_mid (by kernel_rfl) _ (.tmp 14) rfl g 2 (by kernel_rfl) lc _ (fun w h => RA.out w g h) Tryd.underlying41 rfl (by rw [size_chal, NC.out])) S0.out ?_
      have X0 : Hid (Blk w2.drew h 45 zs) := Z2.out.drew
      refine wpAnyH_take (i := 6) (v := _) rfl (by kernel_rfl) (by kernel_rfl) (by kernel_rfl) (fun _ _ _ h => h) (yieldsIf_fld (by kernel_rfl) _ (.tmp 6) 0 rfl (.pointer (some ⟨h, 0, none⟩)) (.pointer (some ⟨h, 0, none⟩)) (by kernel_rfl) (fld_say h 0 0 (by decide))) S0.out ?_
      refine wpAnyH_frame fun a1 ha1 => ?_
      have e1_16 : a1.eval (.tmp 16) = .pointer (some ⟨h, 0, none⟩) := by rw [ha1]; kernel_rfl
      have e1_11 : a1.eval (.tmp 11) = .int .u16 dia := by rw [ha1]; kernel_rfl
      refine wpAnyH_one 7 _ (by kernel_rfl) rfl fun K hK => ?_
      refine step_store_fld rfl 22 (.tmp 16) (.tmp 11) (by kernel_rfl) h 0 e1_16 45 zs (.int .u16 dia) e1_11 X0 (by have := HZ.out; show 0 < _; omega) (by kernel_rfl) rfl ?_
      intro v1 X1 P1 q1
      rw [E1.out] at X1
      have S1 : Hid (Blk v1 g 45 cs) := S0.out.only P1.out hgh
      have b1 : Hid (Below w.heap.size w v1) := below_only b0.out P1.out hhw
      refine hK _ _ S1.out ?_
      clear hK K P1 q1
      change wpAnyH _ _ _ _ _ _ _ a1 v1
      rw [ha1]
      refine wpAnyH_take (i := 8) (v := _) rfl (by kernel_rfl) (by kernel_rfl) (by kernel_rfl) (fun _ _ _ h => h) (yieldsIf_fld (by kernel_rfl) _ (.tmp 6) 1 rfl (.pointer (some ⟨h, 0, none⟩)) (.pointer (some ⟨h, 1, none⟩)) (by kernel_rfl) (fld_say h 1 1 (by decide))) S1.out ?_
      refine wpAnyH_frame fun a2 ha2 => ?_
      have e2_17 : a2.eval (.tmp 17) = .pointer (some ⟨h, 1, none⟩) := by rw [ha2]; kernel_rfl
      have e2_13 : a2.eval (.tmp 13) = .int .u64 siz := by rw [ha2]; kernel_rfl
      refine wpAnyH_one 9 _ (by kernel_rfl) rfl fun K hK => ?_
      refine step_store_fld rfl 28 (.tmp 17) (.tmp 13) (by kernel_rfl) h 1 e2_17 45 z1 (.int .u64 siz) e2_13 X1 (by have := HZ1.out; show 1 < _; omega) (by kernel_rfl) rfl ?_
      intro v2 X2 P2 q2
      rw [E2.out] at X2
      have S2 : Hid (Blk v2 g 45 cs) := S1.out.only P2.out hgh
      have b2 : Hid (Below w.heap.size w v2) := below_only b1.out P2.out hhw
      refine hK _ _ S2.out ?_
      clear hK K P2 q2
      change wpAnyH _ _ _ _ _ _ _ a2 v2
      rw [ha2]
      refine wpAnyH_take (i := 10) (v := _) rfl (by kernel_rfl) (by kernel_rfl) (by kernel_rfl) (fun _ _ _ h => h) (yieldsIf_fld (by kernel_rfl) _ (.tmp 6) 2 rfl (.pointer (some ⟨h, 0, none⟩)) (.pointer (some ⟨h, 2, none⟩)) (by kernel_rfl) (fld_say h 2 2 (by decide))) S2.out ?_
      refine wpAnyH_frame fun a3 ha3 => ?_
      have e3_18 : a3.eval (.tmp 18) = .pointer (some ⟨h, 2, none⟩) := by rw [ha3]; kernel_rfl
      have e3_15 : a3.eval (.tmp 15) = .agg lc.toArray := by rw [ha3]; kernel_rfl
      refine wpAnyH_one 11 _ (by kernel_rfl) rfl fun K hK => ?_
      refine step_store_midb rfl 41 (.tmp 18) (.tmp 15) (by kernel_rfl) h 2 e3_18 45 z2 lc e3_15 X2 8 size_chal NC (by have := HZ2.out; show 2 + 8 ≤ _; omega) OC ?_
      intro v3 X3 P3 q3
      rw [E3.out] at X3
      have S3 : Hid (Blk v3 g 45 cs) := S2.out.only P3.out hgh
      have b3 : Hid (Below w.heap.size w v3) := below_only b2.out P3.out hhw
      refine hK _ _ S3.out ?_
      clear hK K P3 q3
      change wpAnyH _ _ _ _ _ _ _ a3 v3
      rw [ha3]
      refine wpAnyH_done (by kernel_rfl) ?_ _
      go_wp2_with fail
      refine (CK.out _).mono ?_
      rintro e w' ⟨rfl, rfl⟩
      go_wp2_with (first
        | ((with_reducible show wpList _ _ _ (⟨some 23, _, _, _, _, _⟩ :: _) _ _); refine wpList_load_want (by kernel_rfl) _ (.tmp 6) rfl h rfl _ ds X3 20 _ Tryd.underlying45 rfl size_say HDS ?_)
        | ((with_reducible show wpList _ _ _ (⟨some 24, _, _, _, _, _⟩ :: _) _ _); refine wpList_load_want (by kernel_rfl) _ (.tmp 3) rfl g rfl _ cs S3 20 _ Tryd.underlying45 rfl size_say HL ?_)
        | fail)
      refine (CS.out _ b3.out).mono ?_
      rintro e w4 ⟨rfl, L4⟩
      go_wp2
      go_ret2
      exact HQ2.out _ _ ⟨_, rfl, Own.nil _ _, step b3.out L4⟩
    · go_enter Tryd.func19, Tryd.ntmps19
      go_wp2_with (first
        | ((with_reducible show wpList _ _ _ (⟨some 3, _, _, _, _, _⟩ :: _) _ _); refine wpList_box_blk rfl _ (.tmp 1) rfl cs rfl ?_; intro g w1 hg1 hg2 K1 L1)
        | ((with_reducible show wpList _ _ _ (⟨some 6, _, _, _, _, _⟩ :: _) _ _); refine wpList_alloc_blk rfl _ rfl zs _ ZH ?_; intro h w2 hg3 hg4 Z2 L02; have K2 := Lib.hid (K1.out.over L02.out); have L2 := Lib.hid (step L1.out L02.out); have hgh : g ≠ h := (by omega); have hhw : w.heap.size ≤ h := (by have := L1.out.size; omega))
        | fail)
      go_upto_region 3 with fail
      refine wp_region_held (S := fun w' => Blk w' g 45 cs) (by kernel_rfl) ?_
      change wpAnyH _ _ _ _ _ _ _ _ w2.drew
      have S0 : Hid (Blk w2.drew g 45 cs) := K2.out.drew
      have b0 : Hid (Below w.heap.size w w2.drew) := L2.out.drew
      refine wpAnyH_take (i := 0) (v := _) rfl (by kernel_rfl) (by kernel_rfl) (by kernel_rfl) (fun _ _ _ h => h) (yieldsIf_fld (by kernel_rfl) _ (.tmp 3) 0 rfl (.pointer (some ⟨g, 0, none⟩)) (.pointer (some ⟨g, 0, none⟩)) (by kernel_rfl) (fld_say g 0 0 (by decide))) S0.out ?_
      refine wpAnyH_take (i := 1) (v := _) rfl (by kernel_rfl) (by kernel_rfl) (by kernel_rfl) (fun _ _ _ h => h) (yieldsIf_load_one (by kernel_rfl) _ (.tmp 10) rfl g 0 (by kernel_rfl) (.int .u16 dia) (fun w h => (FA.out w g h).1) _ Tryd.underlying22 rfl) S0.out ?_
      refine wpAnyH_take (i := 2) (v := _) rfl (by kernel_rfl) (by kernel_rfl) (by kernel_rfl) (fun _ _ _ h => h) (yieldsIf_fld (by kernel_rfl) _ (.tmp 3) 1 rfl (.pointer (some ⟨g, 0, none⟩)) (.pointer (some ⟨g, 1, none⟩)) (by kernel_rfl) (fld_say g 1 1 (by decide))) S0.out ?_
      refine wpAnyH_take (i := 3) (v := _) rfl (by kernel_rfl) (by kernel_rfl) (by kernel_rfl) (fun _ _ _ h => h) (yieldsIf_load_one (by kernel_rfl) _ (.tmp 12) rfl g 1 (by kernel_rfl) (.int .u64 siz) (fun w h => (FA.out w g h).2) _ Tryd.underlying28 rfl) S0.out ?_
      refine wpAnyH_take (i := 4) (v := _) rfl (by kernel_rfl) (by kernel_rfl) (by kernel_rfl) (fun _ _ _ h => h) (yieldsIf_fld (by kernel_rfl) _ (.tmp 3) 2 rfl (.pointer (some ⟨g, 0, none⟩)) (.pointer (some ⟨g, 2, none⟩)) (by kernel_rfl) (fld_say g 2 2 (by decide))) S0.out ?_
      refine wpAnyH_take (i := 5) (v := _) rfl (by kernel_rfl) (by kernel_rfl) (by kernel_rfl) (fun _ _ _ h => h) (yieldsIf_load_mid (by kernel_rfl) _ (.tmp 14) rfl g 2 (by kernel_rfl) lc _ (fun w h => RA.out w g h) Tryd.underlying41 rfl (by rw [size_chal, NC.out])) S0.out ?_
      have X0 : Hid (Blk w2.drew h 45 zs) := Z2.out.drew
      refine wpAnyH_take (i := 6) (v := _) rfl (by kernel_rfl) (by kernel_rfl) (by kernel_rfl) (fun _ _ _ h => h) (yieldsIf_fld (by kernel_rfl) _ (.tmp 6) 0 rfl (.pointer (some ⟨h, 0, none⟩)) (.pointer (some ⟨h, 0, none⟩)) (by kernel_rfl) (fld_say h 0 0 (by decide))) S0.out ?_
      refine wpAnyH_frame fun a1 ha1 => ?_
      have e1_16 : a1.eval (.tmp 16) = .pointer (some ⟨h, 0, none⟩) := by rw [ha1]; kernel_rfl
      have e1_11 : a1.eval (.tmp 11) = .int .u16 dia := by rw [ha1]; kernel_rfl
      refine wpAnyH_one 7 _ (by kernel_rfl) rfl fun K hK => ?_
      refine step_store_fld rfl 22 (.tmp 16) (.tmp 11) (by kernel_rfl) h 0 e1_16 45 zs (.int .u16 dia) e1_11 X0 (by have := HZ.out; show 0 < _; omega) (by kernel_rfl) rfl ?_
      intro v1 X1 P1 q1
      rw [E1.out] at X1
      have S1 : Hid (Blk v1 g 45 cs) := S0.out.only P1.out hgh
      have b1 : Hid (Below w.heap.size w v1) := below_only b0.out P1.out hhw
      refine hK _ _ S1.out ?_
      clear hK K P1 q1
      change wpAnyH _ _ _ _ _ _ _ a1 v1
      rw [ha1]
      refine wpAnyH_take (i := 8) (v := _) rfl (by kernel_rfl) (by kernel_rfl) (by kernel_rfl) (fun _ _ _ h => h) (yieldsIf_fld (by kernel_rfl) _ (.tmp 6) 1 rfl (.pointer (some ⟨h, 0, none⟩)) (.pointer (some ⟨h, 1, none⟩)) (by kernel_rfl) (fld_say h 1 1 (by decide))) S1.out ?_
      refine wpAnyH_frame fun a2 ha2 => ?_
      have e2_17 : a2.eval (.tmp 17) = .pointer (some ⟨h, 1, none⟩) := by rw [ha2]; kernel_rfl
      have e2_13 : a2.eval (.tmp 13) = .int .u64 siz := by rw [ha2]; kernel_rfl
      refine wpAnyH_one 9 _ (by kernel_rfl) rfl fun K hK => ?_
      refine step_store_fld rfl 28 (.tmp 17) (.tmp 13) (by kernel_rfl) h 1 e2_17 45 z1 (.int .u64 siz) e2_13 X1 (by have := HZ1.out; show 1 < _; omega) (by kernel_rfl) rfl ?_
      intro v2 X2 P2 q2
      rw [E2.out] at X2
      have S2 : Hid (Blk v2 g 45 cs) := S1.out.only P2.out hgh
      have b2 : Hid (Below w.heap.size w v2) := below_only b1.out P2.out hhw
      refine hK _ _ S2.out ?_
      clear hK K P2 q2
      change wpAnyH _ _ _ _ _ _ _ a2 v2
      rw [ha2]
      refine wpAnyH_take (i := 10) (v := _) rfl (by kernel_rfl) (by kernel_rfl) (by kernel_rfl) (fun _ _ _ h => h) (yieldsIf_fld (by kernel_rfl) _ (.tmp 6) 2 rfl (.pointer (some ⟨h, 0, none⟩)) (.pointer (some ⟨h, 2, none⟩)) (by kernel_rfl) (fld_say h 2 2 (by decide))) S2.out ?_
      refine wpAnyH_frame fun a3 ha3 => ?_
      have e3_18 : a3.eval (.tmp 18) = .pointer (some ⟨h, 2, none⟩) := by rw [ha3]; kernel_rfl
      have e3_15 : a3.eval (.tmp 15) = .agg lc.toArray := by rw [ha3]; kernel_rfl
      refine wpAnyH_one 11 _ (by kernel_rfl) rfl fun K hK => ?_
      refine step_store_midb rfl 41 (.tmp 18) (.tmp 15) (by kernel_rfl) h 2 e3_18 45 z2 lc e3_15 X2 8 size_chal NC (by have := HZ2.out; show 2 + 8 ≤ _; omega) OC ?_
      intro v3 X3 P3 q3
      rw [E3.out] at X3
      have S3 : Hid (Blk v3 g 45 cs) := S2.out.only P3.out hgh
      have b3 : Hid (Below w.heap.size w v3) := below_only b2.out P3.out hhw
      refine hK _ _ S3.out ?_
      clear hK K P3 q3
      change wpAnyH _ _ _ _ _ _ _ a3 v3
      rw [ha3]
      refine wpAnyH_done (by kernel_rfl) ?_ _
      go_wp2_with fail
      refine (CK.out _).mono ?_
      rintro e w' ⟨rfl, rfl⟩
      go_wp2_with (first
        | ((with_reducible show wpList _ _ _ (⟨some 23, _, _, _, _, _⟩ :: _) _ _); refine wpList_load_want (by kernel_rfl) _ (.tmp 6) rfl h rfl _ ds X3 20 _ Tryd.underlying45 rfl size_say HDS ?_)
        | ((with_reducible show wpList _ _ _ (⟨some 24, _, _, _, _, _⟩ :: _) _ _); refine wpList_load_want (by kernel_rfl) _ (.tmp 3) rfl g rfl _ cs S3 20 _ Tryd.underlying45 rfl size_say HL ?_)
        | fail)
      refine (CS.out _ b3.out).mono ?_
      rintro e w4 ⟨rfl, L4⟩
      have K4 := Lib.hid (S3.out.over L4)
      obtain ⟨gd0, gd1⟩ := FA.out _ _ K4.out
      go_wp2
      go_ret2
      exact HQ2.out _ _ ⟨_, rfl, Own.nil _ _, step b3.out L4⟩
end Go.Proofs.YtepkamkgodbffaaDoor
