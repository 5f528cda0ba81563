/-
  Contracts of the document's answers for layer 7 (refectoryref07): Known, Has, May, lay, number.
-/
import Derived.Test.YthoddihoccpidaaHeadA
import Derived.Test.YthoddihoccpidaaRef1
import Derived.Test.YthoddihoccpidaaRef2
namespace Go.Proofs.Ythoddihoccpidaa
open Go.RowKit

def cmdCells : List Value := commands.map (Value.int .u16)

set_option maxHeartbeats 1000000 in
theorem RKnown_any (w : World) (c : Int) :
    Calls Try.prog 16 #[.int .u16 c] w fun e w' => e = .returned (.bool (known c)) ∧ Below w.heap.size w w' := by
  have HK : Hid (∀ k, k < 17 → commands.getD k 0 = c → known c = true) := fun k hk he => by
    rw [← he]
    have h17 : k < commands.length := hk
    exact List.contains_iff_mem.2 (by rw [List.getD_eq_getElem?_getD, List.getElem?_eq_getElem h17]; exact List.getElem_mem h17)
  have HN : Hid ((∀ k, k < 17 → ¬ commands.getD k 0 = c) → known c = false) := fun hn => by
    rw [Bool.eq_false_iff]
    intro h
    obtain ⟨i, hi, he⟩ := List.mem_iff_getElem.1 (List.contains_iff_mem.1 h)
    exact hn i hi (by rw [List.getD_eq_getElem?_getD, List.getElem?_eq_getElem hi]; exact he)
  have HC : Hid (∀ k, k < 17 → cmdCells[k]? = some (.int .u16 (commands.getD k 0))) := fun k hk => by
    have h17 : k < commands.length := hk
    simp [cmdCells, h17]
  obtain ⟨z, hz⟩ : ∃ z, z = known c := ⟨_, rfl⟩
  rw [← hz] at HK HN ⊢
  have hcs : Try.prog.builtSlice 24 17 [(0, .int .u16 0), (1, .int .u16 1), (2, .int .u16 2), (3, .int .u16 3), (4, .int .u16 4), (5, .int .u16 5), (6, .int .u16 6), (7, .int .u16 7), (8, .int .u16 8), (9, .int .u16 9), (10, .int .u16 10), (11, .int .u16 12), (12, .int .u16 13), (13, .int .u16 14), (14, .int .u16 16), (15, .int .u16 17), (16, .int .u16 18)] = some cmdCells.toArray := by kernel_rfl
  obtain ⟨cs, hc⟩ : ∃ cs, cs = cmdCells := ⟨_, rfl⟩
  obtain ⟨cl, hcl⟩ : ∃ cl, cl = commands := ⟨_, rfl⟩
  rw [← hc] at HC hcs
  rw [← hcl] at HC HK HN
  clear hz hc hcl
  go_enter Try.func16, Try.ntmps16
  go_wp2_with (((with_reducible show wpList _ _ _ (⟨some 5, _, _, _, _, _⟩ :: _) _ _); refine wpList_slice_blk rfl _ _ 17 _ rfl Try.underlying57 cs (by refine Eq.trans ?_ hcs; kernel_rfl) ?_; intro g w1 hg1 hg2 B1 L1))
  go_loop [4] (fun i => ∃ k : Nat, k ≤ 17 ∧ i = .int .i64 k ∧ Hid (∀ j, j < k → ¬ cl.getD j 0 = c)) (fun i => 17 - (intOf i).toNat)
  case atStart => exact ⟨0, Nat.zero_le _, rfl, fun j hj => absurd hj (by omega)⟩
  case round =>
    obtain ⟨k, hk, rfl, HT⟩ := hrel
    by_cases hlt : k < 17
    · have gc := (B1.out.cell k).trans (HC.out k hlt)
      have hK := HK.out k hlt
      have hT := HT.out
      obtain ⟨y, hy⟩ : ∃ y, y = cl.getD k 0 := ⟨_, rfl⟩
      rw [← hy] at gc hK
      have HY := Lib.hid hy
      clear hy
      by_cases he : y = c
      · have hS := Lib.hid (hK he)
        have hb : (y == c) = true := by simpa using he
        clear hK hT HT he
        go_wp2
        go_ret
        exact ⟨ret_bool hS.out.symm, L1.out⟩
      · have hS : Hid (∀ j, j < k + 1 → ¬ cl.getD j 0 = c) := fun j hj => by
          by_cases hjk : j < k
          · exact hT j hjk
          · obtain rfl : j = k := by omega
            rw [← HY.out]
            exact he
        have hb : (y == c) = false := by simpa using he
        clear hK hT HT he
        go_wp2
        go_round
        case rel => exact ⟨k + 1, by omega, by go_num, hS⟩
        case measure => simp [intOf]; omega
    · obtain rfl : k = 17 := by omega
      have hS := Lib.hid (HN.out HT.out)
      clear HT HN HK
      go_wp2
      go_ret
      exact ⟨ret_bool hS.out.symm, L1.out⟩

set_option maxHeartbeats 400000 in
theorem RHas_any (w : World) (h : Hd) (k : h.ok) :
    Calls Try.prog 27 #[hv h, .int .u32 2] w fun e w' => e = .returned (.bool (isAs h.fl)) ∧ Below w.heap.size w w' := by
  have h1 := k.fl
  have hb : Hid ((h.fl / 2 % 2 == 1) = isAs h.fl) := by
    show _ = _
    unfold isAs
    rw [Bool.eq_iff_iff, beq_iff_eq, decide_eq_true_iff]
  obtain ⟨z, hz⟩ : ∃ z, z = isAs h.fl := ⟨_, rfl⟩
  rw [← hz] at hb ⊢
  have F4 : Hid (∀ (w : World) (g : Nat), Blk w g 28 (hcells h) → w.cell? ⟨g, 4, none⟩ = some (.int .u32 h.fl)) := fun w g B => HB.c4 B
  obtain ⟨fl, hfl⟩ : ∃ fl, fl = h.fl := ⟨_, rfl⟩
  rw [← hfl] at h1 hb F4
  obtain ⟨cs, hcs⟩ : ∃ cs, cs = hcells h := ⟨_, rfl⟩
  unfold hv
  rw [← hcs] at F4 ⊢
  obtain ⟨h0, h1⟩ := h1
  have hq : fl.tdiv 2 = fl / 2 := Int.tdiv_eq_ediv_of_nonneg h0
  have hm : (fl / 2).tmod 2 = fl / 2 % 2 := Int.tmod_eq_emod_of_nonneg (by omega)
  have hb' := hb.out
  clear hz k hfl hcs hb
  go_enter Try.func27, Try.ntmps27
  go_wp2_with (((with_reducible show wpList _ _ _ (⟨some 2, _, _, _, _, _⟩ :: _) _ _); refine wpList_box_blk rfl _ (.tmp 0) rfl cs rfl ?_; intro g w1 hg1 hg2 B1 L1; have gc := F4.out _ _ B1.out))
  go_ret
  exact ⟨rfl, L1.out⟩

set_option maxHeartbeats 400000 in
theorem RMay_any (w : World) (h : Hd) (k : h.ok) :
    Calls Try.prog 14 #[hv h] w fun e w' => e = .returned (.bool (mayP h)) ∧ Below w.heap.size w w' := by
  have CK : Hid (∀ w : World, Calls Try.prog 16 #[.int .u16 h.cm] w fun e w' => e = .returned (.bool (known h.cm)) ∧ Below w.heap.size w w') := fun w => RKnown_any w h.cm
  have CH : Hid (∀ w : World, Calls Try.prog 27 #[hv h, .int .u32 2] w fun e w' => e = .returned (.bool (isAs h.fl)) ∧ Below w.heap.size w w') := fun w => RHas_any w h k
  have HL := Lib.hid (hcells_len k)
  obtain ⟨f0, f1⟩ := k.fl
  have FB : Hid (∀ (w : World) (g : Nat), Blk w g 28 (hcells h) → w.cell? ⟨g, 2, none⟩ = some (.int .u16 h.cm) ∧ w.cell? ⟨g, 4, none⟩ = some (.int .u32 h.fl) ∧ w.cell? ⟨g, 7, none⟩ = some (.int .u64 h.asy) ∧ w.cell? ⟨g, 8, none⟩ = some (.int .u32 h.tr)) := fun w g B => ⟨HB.c2 B, HB.c4 B, HB.c7 B, HB.c8 B⟩
  have HM : Hid (mayP h = (known h.cm && (decide (h.fl < 16) && (if isAs h.fl = true then decide (h.tr = 0) else decide (h.asy = 0))))) := rfl
  obtain ⟨fl, hfl⟩ : ∃ fl, fl = h.fl := ⟨_, rfl⟩
  obtain ⟨cm, hcm⟩ : ∃ cm, cm = h.cm := ⟨_, rfl⟩
  obtain ⟨tr, htr⟩ : ∃ tr, tr = h.tr := ⟨_, rfl⟩
  obtain ⟨asy, hasy⟩ : ∃ asy, asy = h.asy := ⟨_, rfl⟩
  obtain ⟨cs, hcs⟩ : ∃ cs, cs = hcells h := ⟨_, rfl⟩
  rw [← hfl] at FB HM CH f0 f1
  rw [← hcm] at FB HM CK
  rw [← htr, ← hasy] at FB HM
  unfold hv at CH ⊢
  rw [← hcs] at FB CH HL ⊢
  clear hfl hcm htr hasy hcs k
  by_cases hk : known cm = true
  · rw [hk] at CK HM
    by_cases h16 : fl < 16
    · rw [decide_eq_true h16] at HM
      have hd : decide (16 ≤ fl) = false := by rw [decide_eq_false_iff_not]; omega
      by_cases hi : isAs fl = true
      · rw [hi] at CH HM
        rw [show mayP h = (tr == 0) from by
          rw [HM.out, if_pos rfl, Bool.true_and, Bool.true_and, Bool.eq_iff_iff, beq_iff_eq, decide_eq_true_iff]]
        clear hk hi HM
        go_enter Try.func14, Try.ntmps14
        go_wp2_with (first
          | ((with_reducible show wpList _ _ _ (⟨some 1, _, _, _, _, _⟩ :: _) _ _); refine wpList_box_blk rfl _ (.tmp 0) rfl cs rfl ?_; intro g w1 hg1 hg2 B1 L1; have ga := (FB.out _ _ B1.out).1)
          | fail)
        refine (CK.out _).mono ?_
        rintro e w2 ⟨rfl, L2⟩
        have B2 := Lib.hid (B1.out.over L2)
        have gb := (FB.out _ _ B2.out).2.1
        have L12 := Lib.hid (step L1.out L2)
        clear B1 L1 L2 ga CK
        go_wp2_with (first
          | ((with_reducible show wpList _ _ _ (⟨some 12, _, _, _, _, _⟩ :: _) _ _); refine wpList_load_blk rfl _ (.tmp 1) rfl g rfl _ _ B2 26 _ Try.underlying28 rfl size_hd HL ?_)
          | fail)
        refine (CH.out _).mono ?_
        rintro e w3 ⟨rfl, L3⟩
        have gd := (FB.out _ _ (B2.out.over L3)).2.2.2
        clear CH B2 gb
        go_wp2
        go_ret
        exact ⟨rfl, step L12.out L3⟩
      · have hi' : isAs fl = false := by simpa using hi
        rw [hi'] at CH HM
        rw [show mayP h = (asy == 0) from by
          rw [HM.out, if_neg (by decide), Bool.true_and, Bool.true_and, Bool.eq_iff_iff, beq_iff_eq, decide_eq_true_iff]]
        clear hk hi hi' HM
        go_enter Try.func14, Try.ntmps14
        go_wp2_with (first
          | ((with_reducible show wpList _ _ _ (⟨some 1, _, _, _, _, _⟩ :: _) _ _); refine wpList_box_blk rfl _ (.tmp 0) rfl cs rfl ?_; intro g w1 hg1 hg2 B1 L1; have ga := (FB.out _ _ B1.out).1)
          | fail)
        refine (CK.out _).mono ?_
        rintro e w2 ⟨rfl, L2⟩
        have B2 := Lib.hid (B1.out.over L2)
        have gb := (FB.out _ _ B2.out).2.1
        have L12 := Lib.hid (step L1.out L2)
        clear B1 L1 L2 ga CK
        go_wp2_with (first
          | ((with_reducible show wpList _ _ _ (⟨some 12, _, _, _, _, _⟩ :: _) _ _); refine wpList_load_blk rfl _ (.tmp 1) rfl g rfl _ _ B2 26 _ Try.underlying28 rfl size_hd HL ?_)
          | fail)
        refine (CH.out _).mono ?_
        rintro e w3 ⟨rfl, L3⟩
        have gd := (FB.out _ _ (B2.out.over L3)).2.2.1
        clear CH B2 gb
        go_wp2
        go_ret
        exact ⟨rfl, step L12.out L3⟩
    · rw [decide_eq_false h16] at HM
      have hd : decide (16 ≤ fl) = true := by rw [decide_eq_true_iff]; omega
      rw [show mayP h = false from by rw [HM.out]; simp]
      clear hk HM CH
      go_enter Try.func14, Try.ntmps14
      go_wp2_with (first
        | ((with_reducible show wpList _ _ _ (⟨some 1, _, _, _, _, _⟩ :: _) _ _); refine wpList_box_blk rfl _ (.tmp 0) rfl cs rfl ?_; intro g w1 hg1 hg2 B1 L1; have ga := (FB.out _ _ B1.out).1)
        | fail)
      refine (CK.out _).mono ?_
      rintro e w2 ⟨rfl, L2⟩
      have gb := (FB.out _ _ (B1.out.over L2)).2.1
      clear ga CK
      go_wp2
      go_ret
      exact ⟨rfl, step L1.out L2⟩
  · have hk' : known cm = false := by simpa using hk
    rw [hk'] at CK HM
    rw [show mayP h = false from by rw [HM.out]; simp]
    clear hk hk' HM CH
    go_enter Try.func14, Try.ntmps14
    go_wp2_with (first
      | ((with_reducible show wpList _ _ _ (⟨some 1, _, _, _, _, _⟩ :: _) _ _); refine wpList_box_blk rfl _ (.tmp 0) rfl cs rfl ?_; intro g w1 hg1 hg2 B1 L1; have ga := (FB.out _ _ B1.out).1)
      | fail)
    refine (CK.out _).mono ?_
    rintro e w2 ⟨rfl, L2⟩
    clear ga CK
    go_wp2
    go_ret
    exact ⟨rfl, step L1.out L2⟩

/-- what lay answers: a number behind others -/
def LayPost (w : World) (base : Nat) (xs : List Int) (n s : Int) (e : Ending) (w' : World) : Prop := ∃ v, e = .returned v ∧ Own w' base v (xs ++ putOf n s) ∧ Below base w w'

set_option maxHeartbeats 400000 in
theorem lay_any (w : World) (base : Nat) (v : Value) (xs : List Int) (n s : Int) (hn : 0 ≤ n ∧ n ≤ 18446744073709551615) (ho : Own w base v xs) (hxl : xs.length ≤ 1000) (hps : (putOf n s).length ≤ 8) (hpb : Bytes (putOf n s)) (hb : base ≤ w.heap.size) :
    Calls Try.prog 26 #[v, .int .u64 n, .int .i64 s] w (LayPost w base xs n s) := by
  have C1 := Lib.hid (RPut_any w n s hn)
  have HO := Lib.hid ho
  have HQ : Hid (∀ e w', (∃ v, e = .returned v ∧ Own w' base v (xs ++ putOf n s) ∧ Below base w w') → LayPost w base xs n s e w') := fun _ _ hh => hh
  have HPB := Lib.hid hpb
  obtain ⟨A0, c0, hv0⟩ := ho.len
  obtain ⟨ys, hys⟩ : ∃ ys, ys = putOf n s := ⟨_, rfl⟩
  unfold RPutPost at C1
  rw [← hys] at C1 HQ hps HPB
  have hlen : xs.length + ys.length ≤ 140737488355328 := by omega
  clear hys hn hpb ho
  subst hv0
  go_enter Try.func26, Try.ntmps26
  go_wp2_with fail
  refine C1.out.mono ?_
  rintro e w1 ⟨x, rfl, hx, L1⟩
  obtain ⟨A1, c1, rfl, hh⟩ := hx.holds HPB.out (by omega)
  have HO1 := HO.out.below L1
  have hs1 := L1.size
  obtain ⟨m, hm⟩ : ∃ m, m = ys.length := ⟨_, rfl⟩
  rw [← hm] at hh ⊢
  have HH := Lib.hid hh
  obtain ⟨m0, hm0⟩ : ∃ m, m = xs.length := ⟨_, rfl⟩
  have HO1' := Lib.hid HO1
  have HLEN := Lib.hid hlen
  rw [← hm0] at HO1' ⊢
  clear hm hm0 hh hx HO HO1 hlen
  go_wp2_with (at_builtin; refine wpList_append_bytes rfl (.tmp 15) (.tmp 16) rfl base _ xs rfl HO1'.out _ A1 m c1 ys rfl HH.out HLEN.out (by omega) ?_; intro v2 w2 ho2 hb2 hgr)
  go_ret
  exact HQ.out _ _ ⟨_, rfl, ho2.out, (L1.mono hb).trans hb2⟩

set_option maxHeartbeats 400000 in
theorem number_any (w : World) (B : Nat) (A : Option Addr) (n c : Nat) (xs : List Int) (a s : Int) (h : Holds w B A n c xs)
    (ha : -9223372036854775808 ≤ a ∧ a ≤ 9223372036854775807) (hs : -9223372036854775808 ≤ s ∧ s ≤ 9223372036854775807) :
    Calls Try.prog 32 #[.slice A n c, .int .i64 a, .int .i64 s] w fun e w' => e = .returned (.int .u64 (getOf xs a s)) ∧ w = w' := by
  have C1 := Lib.hid (RGet_any w B A n c xs a s h ha hs)
  obtain ⟨z, hz⟩ : ∃ z, z = getOf xs a s := ⟨_, rfl⟩
  obtain ⟨er, her⟩ : ∃ er, er = getErr n a s := ⟨_, rfl⟩
  rw [← hz, ← her] at C1
  rw [← hz]
  clear hz her h
  go_enter Try.func32, Try.ntmps32
  go_wp2_with fail
  refine C1.out.mono ?_
  rintro e w1 ⟨rfl, rfl⟩
  go_wp2
  go_ret
  exact ⟨rfl, rfl⟩
end Go.Proofs.Ythoddihoccpidaa
