/-
  Layer 14 (extent): allCopied and joined of the program (written by tools/gen_exv.py).
-/
import Derived.Test.YtgbhnnobbciemaaExU
import Derived.Deep.MidRow
namespace Go.Proofs.Ytgbhnnobbciemaa
set_option maxRecDepth 100000
open Go.RowKit
set_option linter.unusedVariables false

set_option maxHeartbeats 4000000 in
theorem allCopied_any (w : World) (A : Option Addr) (n c : Nat) (l : List ExtV) (hl : LExt w w.heap.size A n c l) (hn : n ≤ 65536) (hx : ∀ x ∈ l, x.2.2.1 ≤ 65536) :
    Calls Try.prog 35 #[.slice A n c] w fun e w' => ∃ q l', e = .returned (.slice (some ⟨q, 0, none⟩) n n) ∧ OwnS extCells 2 41 w' w.heap.size (.slice (some ⟨q, 0, none⟩) n n) l' ∧
      (∀ x ∈ l', OwnZ .u8 5 w' w.heap.size (partV x.2) x.2.2.2.2) ∧ extsL l' = extsL l ∧ Below w.heap.size w w' := by
  have HL := Lib.hid hl
  have HX := Lib.hid hx
  have ZX := Lib.hid zero_ext2
  obtain ⟨i0, hi0, hz0, hz1, hz2⟩ := info_parts info_ext
  have hb0 : i0.bytes * n ≤ 281474976710656 := by rw [hz2]; omega
  have HI := Lib.hid hi0
  have HZ0 := Lib.hid hz0
  have HZ1 := Lib.hid hz1
  have HB0 := Lib.hid hb0
  obtain ⟨base, hbase⟩ : ∃ b, b = w.heap.size := ⟨_, rfl⟩
  have hbw : Hid (base ≤ w.heap.size) := by rw [hbase]; exact Nat.le_refl _
  have HBA := Lib.hid hbase
  rw [← hbase] at HL ⊢
  clear hl hx hi0 hz0 hz1 hz2 hb0 hbase
  go_enter Try.func35, Try.ntmps35
  go_wp2_with (first
    | ((with_reducible show wpList _ _ _ (⟨some 8, _, _, _, _, _⟩ :: _) _ _); go_loud (refine wpList_make_full w rfl (.tmp 7) (.tmp 7) 38 rfl w.heap.size 41 i0 (.agg #[.int .i64 0, .slice none 0 0]) 2 Try.underlying38 HI.out HZ0.out HZ1.out .i64 .i64 _ _ n rfl rfl rfl rfl HB0.out (by unfold maxLen; omega) (Nat.le_refl _) ?_); intro w1 ho1 hg1)
    | fail)
  obtain ⟨hlen0, cur0, hcl0, hB0, l1⟩ : ∃ hlen0 : True, ∃ cur : List Value, cur.length = n * 2 ∧ Blk w1 w.heap.size 41 cur ∧ Below w.heap.size w w1 := by
    refine ⟨trivial, ?_⟩
    have hb := (Below.refl _ _).grown hg1 (Nat.le_refl _) (fun k hk => by cases hk)
    rcases ho1.2 with ⟨h0, _⟩ | ⟨g, cap, cur, hv, _, hh, _, _, hcs, htk⟩
    · cases h0
    · simp only [Value.slice.injEq, Option.some.injEq, Addr.mk.injEq, and_true, true_and] at hv
      obtain ⟨rfl, rfl⟩ := hv
      exact ⟨cur.toList, by rw [Array.length_toList, hcs], by unfold Blk; rw [hh], hb⟩
  obtain ⟨q, hq⟩ : ∃ q, q = w.heap.size := ⟨_, rfl⟩
  have l1 : Below w.heap.size w w1 := l1
  rw [← hq] at hB0 ⊢
  have hqw : Hid (base ≤ q) := by rw [hq]; exact hbw.out
  have HC0 := Lib.hid hcl0
  have HBK := Lib.hid hB0
  have L1 : Hid (Below base w w1) := by show Below _ _ _; rw [HBA.out]; exact l1
  clear hcl0 hB0 l1 hg1 ho1 hq
  go_loopw [4, 5, 11] (fun _ _ I wr => ∃ (i : Nat) (cur : List Value) (l' : List ExtV), i ≤ n ∧ I = .int .i64 (i : Nat) ∧ Hid (Blk wr q 41 cur) ∧ Hid (cur.length = n * 2) ∧ Hid (cur.take (i * 2) = l'.flatMap extCells) ∧ Hid (l'.length = i ∧ extsL l' = extsL (l.take i)) ∧ Hid (∀ x ∈ l', OwnZ .u8 5 wr base (partV x.2) x.2.2.2.2) ∧ Hid (Below base w wr)) (fun _ _ I _ => n - (intOf I).toNat)
  case atStart => exact ⟨0, cur0, [], Nat.zero_le _, rfl, HBK, HC0, (by show _ = _; simp), ⟨rfl, by simp [extsL]⟩, (fun x h => by cases h), L1⟩
  case round =>
    obtain ⟨i, cur, l', hi, rfl, BR, CR, TR, ER, OR, LR⟩ := hrel
    by_cases hlt : i < n
    · obtain ⟨bb, oo, x, rfl, hbb, hx, k0, k1, hy⟩ := (HL.out.below LR.out).at hlt
      have hxl := HX.out x (List.mem_of_getElem? hx)
      have hxt : extsL (l.take (i + 1)) = extsL (l.take i) ++ [(x.1, x.2.2.2.2)] := by
        obtain ⟨h1, h2⟩ := List.getElem?_eq_some_iff.1 hx
        unfold extsL
        rw [List.take_succ_eq_append_getElem h1, List.map_append, h2]
        rfl
      obtain ⟨xa, xA, xn, xc, px⟩ := x
      simp only at hxl hxt k0 k1 hy
      have HXT := Lib.hid hxt
      have HY := Lib.hid hy
      have kx : wr.rangeAt bb (oo + i * 2) [.int .i64 (xa : Nat), .slice xA xn xc] := fun j v hj => by
        match j, hj with
        | 0, hj => injection hj with hj; subst hj; exact k0
        | 1, hj => injection hj with hj; subst hj; exact k1
      have KX := Lib.hid kx
      clear hx hxt hy kx
      go_wp2_with (first
        | ((with_reducible show wpList _ _ _ (⟨some 15, _, _, _, _, _⟩ :: _) _ _); go_loud (refine wpList_load_mid rfl _ (.tmp 14) rfl bb (oo + i * 2) rfl [.int .i64 (xa : Nat), .slice xA xn xc] _ KX.out Try.underlying41 rfl (by rw [size_ext]; rfl) ?_))
        | ((with_reducible show wpList _ _ _ (⟨some 5, _, _, _, _, _⟩ :: _) _ _); go_loud (refine wpList_alloc_blk rfl _ rfl [.int .i64 0, .slice none 0 0] _ ZX ?_); intro gx w7 hgx hgx2 X7 L7)
        | ((with_reducible show wpList _ _ _ (⟨none, .store _ (.tmp 5) _, _, _, _, _⟩ :: _) _ _); go_loud (refine wpList_store_blk rfl _ (.tmp 5) (.tmp 15) rfl gx rfl _ [.int .i64 0, .slice none 0 0] [.int .i64 (xa : Nat), .slice xA xn xc] rfl X7 2 size_ext rfl rfl (ext_one _ _ rfl) ?_); intro w8 X8 O8 hg8)
        | ((with_reducible show wpList _ _ _ (⟨some 18, _, _, _, _, _⟩ :: _) _ _); go_loud (refine wpList_load_blk rfl _ (.tmp 5) rfl gx rfl _ [.int .i64 (xa : Nat), .slice xA xn xc] X8 2 _ Try.underlying41 rfl size_ext rfl ?_))
        | fail)
      have hwg : base ≤ gx := by have := LR.out.size; have := hbw.out; omega
      have l8 : Below base w w8 := below_only (LR.out.trans (L7.out.mono (Nat.le_trans hbw.out LR.out.size))) O8.out hwg
      have k8 : Below wr.heap.size wr w8 := below_only L7.out O8.out hgx
      have B8 := Lib.hid (BR.out.below k8 BR.out.lt)
      have HY8 := (HY.out.below (k8.mono (Nat.le_trans hbw.out LR.out.size))).mono (Nat.le_trans hbw.out l8.size)
      refine (copied_any w8 xa xn xc xA px HY8 (by omega)).mono ?_
      rintro e w9 ⟨v, rfl, o9, l9⟩
      obtain ⟨A1, n1, c1', rfl, _⟩ := o9.own.open
      have k9 : Below wr.heap.size wr w9 := k8.trans (l9.mono k8.size)
      have L9 := Lib.hid (l8.trans (l9.mono (Nat.le_trans hbw.out l8.size)))
      have B9 := Lib.hid (B8.out.over l9)
      have O9 := Lib.hid (o9.mono (Nat.le_trans hbw.out l8.size))
      have OR9 : Hid (∀ x ∈ l', OwnZ .u8 5 w9 base (partV x.2) x.2.2.2.2) := fun x hx => (OR.out x hx).below k9
      have hfit : Hid (i * 2 + 2 ≤ cur.length) := by show _ ≤ _; rw [CR.out]; omega
      clear X7 X8 O8 L7 k8 l8 k9 B8 HY8 o9 l9 BR OR LR k0 k1
      go_wp2_with (first
        | ((with_reducible show wpList _ _ _ (⟨none, .store _ (.tmp 20) _, _, _, _, _⟩ :: _) _ _); go_loud (refine wpList_store_midb rfl _ (.tmp 20) (.tmp 19) rfl q (i * 2) rfl _ cur [.int .i64 (xa : Nat), .slice A1 n1 c1'] rfl B9 2 size_ext rfl hfit (ext_one _ _ rfl) ?_); intro w10 B10 O10 hg10)
        | fail)
      go_roundw
      case rel =>
        refine ⟨i + 1, _, l' ++ [((xa, A1, n1, c1', px) : ExtV)], by omega, by go_num, B10, ?_, ?_, ?_, ?_, below_only L9.out O10.out hqw.out⟩
        · show _ = _
          have := CR.out
          simp only [List.length_append, List.length_take, List.length_drop, List.length_cons, List.length_nil]
          omega
        · show _ = _
          have h1 : (cur.take (i * 2)).length = i * 2 := by rw [List.length_take, CR.out]; omega
          rw [List.flatMap_append, ← TR.out, show (i + 1) * 2 = i * 2 + 2 by omega, ← List.append_assoc, List.take_left' (by rw [List.length_append, h1]; rfl)]
          rfl
        · refine ⟨by rw [List.length_append, ER.out.1]; rfl, ?_⟩
          rw [HXT.out, ← ER.out.2]
          unfold extsL
          rw [List.map_append]
          rfl
        · intro x hx
          rcases List.mem_append.1 hx with hx | hx
          · exact (OR9.out x hx).keep fun j cs hj hcs => O10.out.rest j fun e => by
              subst e
              rw [show w9.heap[j]? = _ from B9.out] at hcs
              simp only [Option.some.injEq, Obj.cells.injEq] at hcs
              exact absurd hcs.2.1 (by decide)
          · rw [List.mem_singleton.1 hx]
            exact O9.out.keep fun j cs hj hcs => O10.out.rest j fun e => by
              subst e
              rw [show w9.heap[j]? = _ from B9.out] at hcs
              simp only [Option.some.injEq, Obj.cells.injEq] at hcs
              exact absurd hcs.2.1 (by decide)
      case measure => simp [intOf]; omega
    · obtain rfl : i = n := by omega
      go_wp2_with fail
      go_ret
      have h1 := ER.out
      have hll := HL.out.len
      rw [List.take_of_length_le (by omega)] at h1
      refine ⟨q, l', rfl, OwnS.of_blk extCells_len hqw.out BR.out CR.out (by unfold maxLen; omega) h1.1 (Nat.le_refl _) TR.out, OR.out, h1.2, LR.out⟩

/-- ys laid at a place -/
def layB (X : List Int) (o : Nat) (ys : List Int) : List Int := X.take o ++ ys ++ X.drop (o + ys.length)
/-- so many pieces laid over noughts, counted from a on -/
def joinB (a N : Nat) (lo : List ExtV) (j : Nat) : List Int := (lo.take j).foldl (fun X x => layB X (x.1 - a) x.2.2.2.2) (List.replicate N 0)
theorem joinB_succ {a N : Nat} {lo : List ExtV} {j : Nat} {x : ExtV} (h : lo[j]? = some x) : joinB a N lo (j + 1) = layB (joinB a N lo j) (x.1 - a) x.2.2.2.2 := by
  obtain ⟨h1, h2⟩ := List.getElem?_eq_some_iff.1 h
  unfold joinB
  rw [List.take_succ_eq_append_getElem h1, List.foldl_append, h2]
  rfl
theorem layB_len {X ys : List Int} {o : Nat} (h : o + ys.length ≤ X.length) : (layB X o ys).length = X.length := by
  unfold layB
  rw [List.length_append, List.length_append, List.length_take, List.length_drop]
  omega
theorem joinB_len {a N : Nat} {lo : List ExtV} (h : ∀ x ∈ lo, x.1 - a + x.2.2.2.2.length ≤ N) (j : Nat) : (joinB a N lo j).length = N := by
  induction j with
  | zero => simp [joinB]
  | succ j ih =>
    rcases Nat.lt_or_ge j lo.length with h1 | h1
    · have hx : lo[j]? = some lo[j] := List.getElem?_eq_getElem h1
      rw [joinB_succ hx, layB_len (by rw [ih]; exact h _ (List.getElem_mem _)), ih]
    · have e : joinB a N lo (j + 1) = joinB a N lo j := by
        unfold joinB
        rw [List.take_of_length_le (by omega), List.take_of_length_le h1]
      rw [e, ih]

set_option maxHeartbeats 8000000 in
/-- old and own are put together: from a up to t -/
theorem joined_any (w : World) (A : Option Addr) (n c : Nat) (lo : List ExtV) (hl : LExt w w.heap.size A n c lo) (hn : n ≤ 65536) (oa on oc a t : Nat) (oA : Option Addr) (ox : List Int) (ho : Holds w w.heap.size oA on oc ox) (hon0 : 0 < on) (hot : oa + on ≤ 65536) (ht : t ≤ 65536)
    (ha0 : n = 0 → a = oa ∧ t = oa + on) (ha1 : ∀ x, lo[0]? = some x → a = min oa x.1) (ht1 : ∀ x, 0 < n → lo[n - 1]? = some x → t = max (oa + on) (x.1 + x.2.2.1))
    (hfit : ∀ x ∈ lo, a ≤ x.1 ∧ x.1 + x.2.2.1 ≤ t ∧ 0 < x.2.2.1) :
    Calls Try.prog 34 #[.slice A n c, .agg #[.int .i64 (oa : Nat), .slice oA on oc]] w fun e w' => ∃ h, e = .returned (.agg #[.int .i64 (a : Nat), .slice (some ⟨h, 0, none⟩) (t - a) (t - a)]) ∧ w.heap.size ≤ h ∧
      Row w' h (layB (joinB a (t - a) lo n) (oa - a) ox) ∧ Below w.heap.size w w' := by
  have haoa : a ≤ oa ∧ oa + on ≤ t := by
    rcases Nat.eq_zero_or_pos n with h0 | h0
    · obtain ⟨h1, h2⟩ := ha0 h0
      omega
    · have hll := hl.len
      have h1 := ha1 _ (List.getElem?_eq_getElem (show 0 < lo.length by omega))
      have h2 := ht1 _ h0 (List.getElem?_eq_getElem (show n - 1 < lo.length by omega))
      omega
  obtain ⟨hao, hto⟩ := haoa
  obtain ⟨N, hN⟩ : ∃ N, N = t - a := ⟨_, rfl⟩
  obtain ⟨o0, ho0⟩ : ∃ o, o = oa - a := ⟨_, rfl⟩
  rw [← hN, ← ho0]
  have HL := Lib.hid hl
  have HO := Lib.hid ho
  have hol := ho.len
  have hHL := hl.len
  have HWO : Hid (IntKind.i64.wrap ((oa : Int) - (a : Int)) = (o0 : Int)) := by show _ = _; rw [IntKind.wrap_i64]; omega
  have HWN : Hid ((t : Int) - (a : Int) = (N : Int)) := by show _ = _; omega
  have hsub : IntKind.i64.wrap ((t : Int) - (a : Int)) = (N : Int) := by rw [IntKind.wrap_i64]; omega
  have JL : Hid (∀ j, (joinB a N lo j).length = N) := fun j => joinB_len (fun x hx => by
    obtain ⟨h1, h2, _⟩ := hfit x hx
    obtain ⟨k, hk, hkx⟩ := mem_at hx
    have h3 : x.2.2.2.2.length = x.2.2.1 := (hl.each x hx).len
    omega) j
  have FIT : Hid (∀ x ∈ lo, a ≤ x.1 ∧ x.1 + x.2.2.1 ≤ t ∧ 0 < x.2.2.1) := hfit
  have honN : on ≤ N - o0 := by omega
  have hoN : (o0 : Int) ≤ (N : Int) := by omega
  have hNo : ¬ N = o0 := by omega
  have ZX := Lib.hid zero_ext2
  have hN64 : N ≤ 65536 := by omega
  have HFIN : Hid (o0 + on ≤ N) := by show _ ≤ _; omega
  have HNE : Hid (t = a + N) := by show _ = _; omega
  rcases Nat.eq_zero_or_pos n with h0 | h0
  · obtain ⟨h1, h2⟩ := ha0 h0
    have HN0 := Lib.hid h0
    have hgt0 : decide ((0 : Int) < (n : Int)) = false := decide_eq_false (by omega)
    have hle0 : ¬ (0 : Int) < (n : Int) := by omega
    have hw0 : IntKind.i64.wrap 0 = 0 := rfl
    clear hl ho ha0 ha1 ht1 hfit hN hHL
    subst h2
    subst h1
    obtain rfl : o0 = 0 := by omega
    clear ho0
    have HNZ : Hid ((a : Int) + (on : Int) - (a : Int) = (N : Int)) := by have := HNE.out; show _ = _; omega
    clear h0
    go_enter Try.func34, Try.ntmps34
    go_upto_region 1 with (first
      | ((with_reducible show wpList _ _ _ (⟨some 3, _, _, _, _, _⟩ :: _) _ _); refine wpList_box_blk rfl _ (.tmp 1) rfl [.int .i64 (a : Nat), .slice oA on oc] rfl ?_; intro g w1 hg1 hg2 B1 L1)
      | ((with_reducible show wpList _ _ _ (⟨some 4, _, _, _, _, _⟩ :: _) _ _); refine wpList_alloc_blk rfl _ rfl [.int .i64 0, .slice none 0 0] _ ZX ?_; intro h w2 hg3 hg4 Z2 L2; have B2 := Lib.hid (B1.out.over L2.out); have L12 := Lib.hid (L1.out.trans (L2.out.mono L1.out.size)))
      | fail)
    have hwh : w.heap.size ≤ h := by have := L1.out.size; omega
    have c0 : w2.cell? ⟨g, 0, none⟩ = some (.int .i64 (a : Nat)) := B2.out.cell 0
    refine wp_region_held (S := fun w' => w'.cell? ⟨g, 0, none⟩ = some (.int .i64 (a : Nat)) ∧ w'.rangeAt g 0 [.int .i64 (a : Nat), .slice oA on oc]) (by kernel_rfl) ?_
    change wpAnyH _ _ _ _ _ _ _ _ w2.drew
    have Sr0 : Hid (w2.drew.cell? ⟨g, 0, none⟩ = some (.int .i64 (a : Nat)) ∧ w2.drew.rangeAt g 0 [.int .i64 (a : Nat), .slice oA on oc]) := ⟨c0, fun j v h => (B2.out.range 0) j v h⟩
    have br0 : Hid (True) := trivial
    refine wpAnyH_take (i := 0) (v := _) rfl (by kernel_rfl) (by kernel_rfl) (by kernel_rfl) (fun _ _ _ h => h) (yieldsIf_fld (by kernel_rfl) _ (.tmp 3) 0 rfl (.pointer (some ⟨g, 0, none⟩)) (.pointer (some ⟨g, 0, none⟩)) (by kernel_rfl) (fun w => by go_simp)) Sr0.out ?_
    refine wpAnyH_take (i := 1) (v := _) rfl (by kernel_rfl) (by kernel_rfl) (by kernel_rfl) (fun _ _ _ h => h) (yieldsIf_load_one (by kernel_rfl) _ (.tmp 10) rfl g (0) (by kernel_rfl) (.int .i64 (a : Nat)) (fun _ h => h.1) _ Try.underlying3 rfl) Sr0.out ?_
    refine wpAnyH_take (i := 2) (v := _) rfl (by kernel_rfl) (by kernel_rfl) (by kernel_rfl) (fun _ _ _ h => h) (yieldsIf_load_range (by kernel_rfl) _ (.tmp 3) rfl g 0 (by kernel_rfl) [.int .i64 (a : Nat), .slice oA on oc] (fun _ h => h.2) 2 _ Try.underlying41 rfl size_ext (rfl : Hid (([.int .i64 (a : Nat), .slice oA on oc] : List Value).length = 2))) Sr0.out ?_
    refine wpAnyH_one 3 _ (by kernel_rfl) rfl fun K hK => ?_
    go_simp
    refine (end_any _ a on oc _ (by omega) (by omega)).mono ?_
    rintro e vr1 ⟨rfl, l3⟩
    have Sr1 : Hid (vr1.cell? ⟨g, 0, none⟩ = some (.int .i64 (a : Nat)) ∧ vr1.rangeAt g 0 [.int .i64 (a : Nat), .slice oA on oc]) := ⟨(l3.cell (lt_of_cell Sr0.out.1)).trans Sr0.out.1, range_below Sr0.out.2 l3 (lt_of_cell Sr0.out.1)⟩
    have br1 : Hid (True) := trivial
    have L3 := Lib.hid l3
    clear l3
    refine hK _ _ Sr1.out ?_
    clear hK K 
    refine wpAnyH_one 4 _ (by kernel_rfl) rfl fun K hK => ?_
    go_simp
    refine hK _ _ Sr1.out ?_
    clear hK K
    refine wpAnyH_one 5 _ (by kernel_rfl) rfl fun K hK => ?_
    go_simp
    refine hK _ _ Sr1.out ?_
    clear hK K
    refine wpAnyH_done (by kernel_rfl) ?_ _
    have LA := Lib.hid (L12.out.trans (((Below.refl w2.heap.size w2).drew.trans L3.out).mono L12.out.size))
    have BA := Lib.hid ((B2.out.drew).over L3.out)
    have ZA := Lib.hid ((Z2.out.drew).over L3.out)
    go_wp2_with (first
      | ((with_reducible show wpList _ _ _ (⟨some 35, _, _, _, _, _⟩ :: _) _ _); go_loud (refine wpList_make_bytes _ rfl (.tmp 34) (.tmp 34) rfl _ _ N rfl rfl HNZ.out HNZ.out (by omega) ?_); intro w6 R6 L6)
      | fail)
    obtain ⟨h6, hh6⟩ : ∃ x, x = vr1.heap.size := ⟨_, rfl⟩
    rw [← hh6] at R6 ⊢
    have Lw6 := Lib.hid (LA.out.trans (L6.mono LA.out.size))
    have B6 := Lib.hid (BA.out.over L6)
    have Z6 := Lib.hid (ZA.out.over L6)
    have hgh : Hid (g < h6 ∧ h < h6 ∧ w.heap.size ≤ h6) := ⟨by rw [hh6]; exact BA.out.lt, by rw [hh6]; exact ZA.out.lt, by rw [hh6]; exact LA.out.size⟩
    clear hh6 L6
    go_loopw [9, 38] (fun _ I wr => ∃ i : Nat, i ≤ n ∧ I = .int .i64 (i : Nat) ∧ Hid (Row wr h6 (joinB a N lo i)) ∧ Hid (Blk wr g 41 [.int .i64 (a : Nat), .slice oA on oc]) ∧ Hid (Blk wr h 41 [.int .i64 0, .slice none 0 0]) ∧ Hid (Below w.heap.size w wr) ∧ Hid (h6 < wr.heap.size)) (fun _ I _ => n - (intOf I).toNat)
    case atStart => exact ⟨0, Nat.zero_le _, rfl, R6, B6, Z6, Lw6, R6.out.lt⟩
    case round =>
      obtain ⟨i, hi, rfl, RR, BR, ZR, LR, SR⟩ := hrel
      by_cases hlt : i < n
      · have := HN0.out
        omega
      · obtain rfl : i = n := by omega
        have hwo : IntKind.i64.wrap ((a : Int) - (a : Int)) = (0 : Int) := HWO.out
        have g0 : wr.cell? ⟨g, 0, none⟩ = some (.int .i64 (a : Nat)) := BR.out.cell 0
        have g1 : wr.cell? ⟨g, 1, none⟩ = some (.slice oA on oc) := BR.out.cell 1
        have hjl := JL.out i
        have hoN2 := HFIN.out
        have hfit : Hid (0 + on ≤ ((joinB a N lo i).map (Value.int .u8)).length) := by show _ ≤ _; rw [List.length_map, hjl]; omega
        have R8 : Hid (Blk wr.drew h6 5 ((joinB a N lo i).map (Value.int .u8))) := RR.out
        have HO8 := Lib.hid ((HO.out.below LR.out).drew)
        clear hjl hoN2
        go_upto_region 10 with fail
        go_still_tail 8, (by kernel_rfl)
        change wpList _ _ _ _ _ wr.drew
        go_wp2_with (first
          | ((with_reducible show wpList _ _ _ (⟨some 60, _, _, _, _, _⟩ :: _) _ _); go_loud (refine wpList_copy_mid rfl (.tmp 57) (.tmp 59) rfl h6 0 5 _ _ on oc oA rfl rfl _ ox w.heap.size R8 HO8.out hon0 honN hfit ?_); intro w9 R9 O9; have Z9 := Lib.hid (ZR.out.drew.only O9.out (by have := hgh.out.2.1; omega)))
          | ((with_reducible show wpList _ _ _ (⟨some 63, _, _, _, _, _⟩ :: _) _ _); go_loud (refine wpList_build_blk rfl _ _ rfl [.int .i64 (a : Nat), .slice (some ⟨h6, 0, none⟩) N N] (by kernel_rfl) ?_))
          | ((with_reducible show wpList _ _ _ (⟨none, .store _ _ _, _, _, _, _⟩ :: _) _ _); go_loud (refine wpList_store_blk rfl _ (.tmp 4) (.tmp 63) rfl h rfl _ [.int .i64 0, .slice none 0 0] [.int .i64 (a : Nat), .slice (some ⟨h6, 0, none⟩) N N] rfl Z9 2 size_ext rfl rfl (ext_one _ _ rfl) ?_); intro w10 Z10 O10 hg10)
          | fail)
        have L9 : Below w.heap.size w w9 := below_only LR.out.drew O9.out hgh.out.2.2
        refine bodyPost_ret (v := .agg #[.int .i64 (a : Nat), .slice (some ⟨h6, 0, none⟩) N N]) ?_ rfl ⟨h6, rfl, hgh.out.2.2, ?_, below_only L9 O10.out hwh⟩
        · exact results_cell_row rfl _ _ h _ _ (0, 0) _ rfl Z10.out Try.underlying41 rfl (by rw [size_ext]; rfl)
        · have := R9.out
          rw [spliced_row] at this
          exact Row.only (g' := h) this O10.out (by have := hgh.out.2.1; omega)
  · have hA : ∃ b off, A = some ⟨b, off, none⟩ := by
      obtain ⟨b, off, x, e, _⟩ := hl.at h0
      exact ⟨b, off, e⟩
    obtain ⟨b, off, rfl⟩ := hA
    have hfst : ∃ fa, (∀ w2, Below w.heap.size w w2 → w2.cell? ⟨b, off, none⟩ = some (.int .i64 (fa : Nat))) ∧ min (oa : Int) (fa : Int) = (a : Int) := by
      obtain ⟨b', off', x, e, hb', hx, f0, _⟩ := hl.at h0
      injection e with e
      injection e with e1 e2
      subst e1 e2
      rw [Nat.zero_mul, Nat.add_zero] at f0
      have := ha1 x hx
      exact ⟨x.1, fun w2 hb2 => (hb2.cell hb').trans f0, by omega⟩
    obtain ⟨fa, FF, hmin⟩ := hfst
    have hlst : ∃ ya yA yn yc, (∀ w2, Below w.heap.size w w2 → w2.rangeAt b (off + (n - 1) * 2) [.int .i64 (ya : Nat), .slice yA yn yc]) ∧ max ((oa + on : Nat) : Int) ((ya + yn : Nat) : Int) = (t : Int) ∧ ya + yn ≤ 65536 := by
      obtain ⟨b', off', x, e, hb', hx, f0, f1, _⟩ := hl.at (show n - 1 < n by omega)
      injection e with e
      injection e with e1 e2
      subst e1 e2
      have h5 := ht1 x h0 hx
      have h6 := hfit x (List.mem_of_getElem? hx)
      refine ⟨x.1, x.2.1, x.2.2.1, x.2.2.2.1, fun w2 hb2 j v hj => ?_, by omega, by omega⟩
      match j, hj with
      | 0, hj => injection hj with hj; subst hj; exact (hb2.cell (p := ⟨b, off + (n - 1) * 2, none⟩) hb').trans f0
      | 1, hj => injection hj with hj; subst hj; exact (hb2.cell (p := ⟨b, off + (n - 1) * 2 + 1, none⟩) hb').trans f1
    obtain ⟨ya, yA, yn, yc, RF, hmax, hyy⟩ := hlst
    have FF' := Lib.hid FF
    have RF' := Lib.hid RF
    have hmax2 : max ((oa : Int) + (on : Int)) ((ya : Int) + (yn : Int)) = (t : Int) := by omega
    have hn1 : (n : Int) - 1 = ((n - 1 : Nat) : Int) := by omega
    have hnw : IntKind.i64.wrap ((n : Int) - 1) = ((n - 1 : Nat) : Int) := by rw [IntKind.wrap_i64]; omega
    have hn1n : n - 1 < n := by omega
    have hnw2 : IntKind.i64.wrap ((n - 1 : Nat) : Int) = ((n - 1 : Nat) : Int) := by rw [IntKind.wrap_i64]; omega
    clear hl ho ha0 ha1 ht1 hfit FF RF hN ho0
    go_enter Try.func34, Try.ntmps34
    go_upto_region 1 with (first
      | ((with_reducible show wpList _ _ _ (⟨some 3, _, _, _, _, _⟩ :: _) _ _); refine wpList_box_blk rfl _ (.tmp 1) rfl [.int .i64 (oa : Nat), .slice oA on oc] rfl ?_; intro g w1 hg1 hg2 B1 L1)
      | ((with_reducible show wpList _ _ _ (⟨some 4, _, _, _, _, _⟩ :: _) _ _); refine wpList_alloc_blk rfl _ rfl [.int .i64 0, .slice none 0 0] _ ZX ?_; intro h w2 hg3 hg4 Z2 L2; have B2 := Lib.hid (B1.out.over L2.out); have L12 := Lib.hid (L1.out.trans (L2.out.mono L1.out.size)))
      | fail)
    have hwh : w.heap.size ≤ h := by have := L1.out.size; omega
    have c0 : w2.cell? ⟨g, 0, none⟩ = some (.int .i64 (oa : Nat)) := B2.out.cell 0
    refine wp_region_held (S := fun w' => w'.cell? ⟨g, 0, none⟩ = some (.int .i64 (oa : Nat)) ∧ w'.rangeAt g 0 [.int .i64 (oa : Nat), .slice oA on oc]) (by kernel_rfl) ?_
    change wpAnyH _ _ _ _ _ _ _ _ w2.drew
    have Sr0 : Hid (w2.drew.cell? ⟨g, 0, none⟩ = some (.int .i64 (oa : Nat)) ∧ w2.drew.rangeAt g 0 [.int .i64 (oa : Nat), .slice oA on oc]) := ⟨c0, fun j v h => (B2.out.range 0) j v h⟩
    have br0 : Hid (True) := trivial
    refine wpAnyH_take (i := 0) (v := _) rfl (by kernel_rfl) (by kernel_rfl) (by kernel_rfl) (fun _ _ _ h => h) (yieldsIf_fld (by kernel_rfl) _ (.tmp 3) 0 rfl (.pointer (some ⟨g, 0, none⟩)) (.pointer (some ⟨g, 0, none⟩)) (by kernel_rfl) (fun w => by go_simp)) Sr0.out ?_
    refine wpAnyH_take (i := 1) (v := _) rfl (by kernel_rfl) (by kernel_rfl) (by kernel_rfl) (fun _ _ _ h => h) (yieldsIf_load_one (by kernel_rfl) _ (.tmp 10) rfl g (0) (by kernel_rfl) (.int .i64 (oa : Nat)) (fun _ h => h.1) _ Try.underlying3 rfl) Sr0.out ?_
    refine wpAnyH_take (i := 2) (v := _) rfl (by kernel_rfl) (by kernel_rfl) (by kernel_rfl) (fun _ _ _ h => h) (yieldsIf_load_range (by kernel_rfl) _ (.tmp 3) rfl g 0 (by kernel_rfl) [.int .i64 (oa : Nat), .slice oA on oc] (fun _ h => h.2) 2 _ Try.underlying41 rfl size_ext (rfl : Hid (([.int .i64 (oa : Nat), .slice oA on oc] : List Value).length = 2))) Sr0.out ?_
    refine wpAnyH_one 3 _ (by kernel_rfl) rfl fun K hK => ?_
    go_simp
    refine (end_any _ oa on oc _ (by omega) (by omega)).mono ?_
    rintro e vr1 ⟨rfl, l3⟩
    have Sr1 : Hid (vr1.cell? ⟨g, 0, none⟩ = some (.int .i64 (oa : Nat)) ∧ vr1.rangeAt g 0 [.int .i64 (oa : Nat), .slice oA on oc]) := ⟨(l3.cell (lt_of_cell Sr0.out.1)).trans Sr0.out.1, range_below Sr0.out.2 l3 (lt_of_cell Sr0.out.1)⟩
    have br1 : Hid (True) := trivial
    have L3 := Lib.hid l3
    clear l3
    refine hK _ _ Sr1.out ?_
    clear hK K 
    refine wpAnyH_one 4 _ (by kernel_rfl) rfl fun K hK => ?_
    go_simp
    refine hK _ _ Sr1.out ?_
    clear hK K
    refine wpAnyH_one 5 _ (by kernel_rfl) rfl fun K hK => ?_
    go_simp
    refine hK _ _ Sr1.out ?_
    clear hK K
    refine wpAnyH_done (by kernel_rfl) ?_ _
    have LA := Lib.hid (L12.out.trans (((Below.refl w2.heap.size w2).drew.trans L3.out).mono L12.out.size))
    have BA := Lib.hid ((B2.out.drew).over L3.out)
    have ZA := Lib.hid ((Z2.out.drew).over L3.out)
    go_upto_region 3 with fail
    obtain ⟨w3, hw3⟩ : ∃ w3, w3 = vr1 := ⟨_, rfl⟩
    rw [← hw3] at LA BA ZA ⊢
    have f0 : w3.drew.cell? ⟨b, off, none⟩ = some (.int .i64 (fa : Nat)) := FF'.out w3.drew LA.out.drew
    have r0 := RF'.out w3.drew LA.out.drew
    clear hw3 L3 Sr1 c0 B2 Z2 L12
    refine wp_region_held (S := fun w' => w'.cell? ⟨b, off, none⟩ = some (.int .i64 (fa : Nat)) ∧ w'.rangeAt b (off + (n - 1) * 2) [.int .i64 (ya : Nat), .slice yA yn yc]) (by kernel_rfl) ?_
    change wpAnyH _ _ _ _ _ _ _ _ w3.drew
    have Sq0 : Hid (w3.drew.cell? ⟨b, off, none⟩ = some (.int .i64 (fa : Nat)) ∧ w3.drew.rangeAt b (off + (n - 1) * 2) [.int .i64 (ya : Nat), .slice yA yn yc]) := ⟨f0, r0⟩
    have bq0 : Hid (True) := trivial
    refine wpAnyH_take (i := 0) (v := _) rfl (by kernel_rfl) (by kernel_rfl) (by kernel_rfl) (fun _ _ _ h => h) (yieldsIf_move (by kernel_rfl) (.tmp 5) rfl (.int .i64 (oa : Nat)) (by kernel_rfl)) Sq0.out ?_
    refine wpAnyH_take (i := 1) (v := _) rfl (by kernel_rfl) (by kernel_rfl) (by kernel_rfl) (fun _ _ _ h => h) (yieldsIf_move (by kernel_rfl) (.tmp 0) rfl (.slice (some ⟨b, off, none⟩) n c) (by kernel_rfl)) Sq0.out ?_
    refine wpAnyH_take (i := 2) (v := .pointer (some ⟨b, off, none⟩)) rfl (by kernel_rfl) (by kernel_rfl) (by kernel_rfl) (fun _ _ _ h => h) (.inl ⟨by kernel_rfl, fun w _ => by go_simp⟩) Sq0.out ?_
    refine wpAnyH_take (i := 3) (v := _) rfl (by kernel_rfl) (by kernel_rfl) (by kernel_rfl) (fun _ _ _ h => h) (yieldsIf_fld (by kernel_rfl) _ (.tmp 19) 0 rfl (.pointer (some ⟨b, off, none⟩)) (.pointer (some ⟨b, off, none⟩)) (by kernel_rfl) (fun w => by go_simp)) Sq0.out ?_
    refine wpAnyH_take (i := 4) (v := _) rfl (by kernel_rfl) (by kernel_rfl) (by kernel_rfl) (fun _ _ _ h => h) (yieldsIf_load_one (by kernel_rfl) _ (.tmp 20) rfl b (off) (by kernel_rfl) (.int .i64 (fa : Nat)) (fun _ h => h.1) _ Try.underlying3 rfl) Sq0.out ?_
    refine wpAnyH_take (i := 5) (v := .int .i64 (a : Nat)) rfl (by kernel_rfl) (by kernel_rfl) (by kernel_rfl) (fun _ _ _ h => h) (.inl ⟨by kernel_rfl, fun w _ => by go_simp⟩) Sq0.out ?_
    refine wpAnyH_take (i := 6) (v := _) rfl (by kernel_rfl) (by kernel_rfl) (by kernel_rfl) (fun _ _ _ h => h) (yieldsIf_move (by kernel_rfl) (.tmp 6) rfl (.int .i64 ((oa + on : Nat) : Int)) (by kernel_rfl)) Sq0.out ?_
    refine wpAnyH_take (i := 7) (v := _) rfl (by kernel_rfl) (by kernel_rfl) (by kernel_rfl) (fun _ _ _ h => h) (yieldsIf_move (by kernel_rfl) (.tmp 0) rfl (.slice (some ⟨b, off, none⟩) n c) (by kernel_rfl)) Sq0.out ?_
    refine wpAnyH_take (i := 8) (v := _) rfl (by kernel_rfl) (by kernel_rfl) (by kernel_rfl) (fun _ _ _ h => h) (yieldsIf_move (by kernel_rfl) (.tmp 0) rfl (.slice (some ⟨b, off, none⟩) n c) (by kernel_rfl)) Sq0.out ?_
    refine wpAnyH_take (i := 9) (v := .int .i64 (n : Nat)) rfl (by kernel_rfl) (by kernel_rfl) (by kernel_rfl) (fun _ _ _ h => h) (.inl ⟨by kernel_rfl, fun w _ => by go_simp⟩) Sq0.out ?_
    refine wpAnyH_take (i := 10) (v := .int .i64 ((n - 1 : Nat) : Int)) rfl (by kernel_rfl) (by kernel_rfl) (by kernel_rfl) (fun _ _ _ h => h) (.inl ⟨by kernel_rfl, fun w _ => by go_simp⟩) Sq0.out ?_
    refine wpAnyH_take (i := 11) (v := .pointer (some ⟨b, off + (n - 1) * 2, none⟩)) rfl (by kernel_rfl) (by kernel_rfl) (by kernel_rfl) (fun _ _ _ h => h) (.inl ⟨by kernel_rfl, fun w _ => by go_simp⟩) Sq0.out ?_
    refine wpAnyH_take (i := 12) (v := _) rfl (by kernel_rfl) (by kernel_rfl) (by kernel_rfl) (fun _ _ _ h => h) (yieldsIf_load_range (by kernel_rfl) _ (.tmp 28) rfl b (off + (n - 1) * 2) (by kernel_rfl) [.int .i64 (ya : Nat), .slice yA yn yc] (fun _ h => h.2) 2 _ Try.underlying41 rfl size_ext (rfl : Hid (([.int .i64 (ya : Nat), .slice yA yn yc] : List Value).length = 2))) Sq0.out ?_
    refine wpAnyH_one 13 _ (by kernel_rfl) rfl fun K hK => ?_
    go_simp
    refine (end_any _ ya yn yc _ (by omega) (by omega)).mono ?_
    rintro e vq1 ⟨rfl, l4⟩
    have Sq1 : Hid (vq1.cell? ⟨b, off, none⟩ = some (.int .i64 (fa : Nat)) ∧ vq1.rangeAt b (off + (n - 1) * 2) [.int .i64 (ya : Nat), .slice yA yn yc]) := ⟨(l4.cell (lt_of_cell Sq0.out.1)).trans Sq0.out.1, range_below Sq0.out.2 l4 (lt_of_cell Sq0.out.1)⟩
    have bq1 : Hid (True) := trivial
    have L4 := Lib.hid l4
    clear l4
    refine hK _ _ Sq1.out ?_
    clear hK K 
    refine wpAnyH_take (i := 14) (v := .int .i64 (t : Nat)) rfl (by kernel_rfl) (by kernel_rfl) (by kernel_rfl) (fun _ _ _ h => h) (.inl ⟨by kernel_rfl, fun w _ => by go_simp⟩) Sq1.out ?_
    refine wpAnyH_one 15 _ (by kernel_rfl) rfl fun K hK => ?_
    go_simp
    refine hK _ _ Sq1.out ?_
    clear hK K
    refine wpAnyH_one 16 _ (by kernel_rfl) rfl fun K hK => ?_
    go_simp
    refine hK _ _ Sq1.out ?_
    clear hK K
    refine wpAnyH_done (by kernel_rfl) ?_ _
    have LB := Lib.hid (LA.out.trans (((Below.refl w3.heap.size w3).drew.trans L4.out).mono LA.out.size))
    have BB := Lib.hid ((BA.out.drew).over L4.out)
    have ZB := Lib.hid ((ZA.out.drew).over L4.out)
    go_wp2_with (first
      | ((with_reducible show wpList _ _ _ (⟨some 35, _, _, _, _, _⟩ :: _) _ _); go_loud (refine wpList_make_bytes _ rfl (.tmp 34) (.tmp 34) rfl _ _ N rfl rfl rfl rfl (by omega) ?_); intro w6 R6 L6)
      | fail)
    obtain ⟨h6, hh6⟩ : ∃ x, x = vq1.heap.size := ⟨_, rfl⟩
    rw [← hh6] at R6 ⊢
    have Lw6 := Lib.hid (LB.out.trans (L6.mono LB.out.size))
    have B6 := Lib.hid (BB.out.over L6)
    have Z6 := Lib.hid (ZB.out.over L6)
    have hgh : Hid (g < h6 ∧ h < h6 ∧ w.heap.size ≤ h6) := ⟨by rw [hh6]; exact BB.out.lt, by rw [hh6]; exact ZB.out.lt, by rw [hh6]; exact LB.out.size⟩
    clear hh6 L6
    go_loopw [9, 38] (fun _ I wr => ∃ i : Nat, i ≤ n ∧ I = .int .i64 (i : Nat) ∧ Hid (Row wr h6 (joinB a N lo i)) ∧ Hid (Blk wr g 41 [.int .i64 (oa : Nat), .slice oA on oc]) ∧ Hid (Blk wr h 41 [.int .i64 0, .slice none 0 0]) ∧ Hid (Below w.heap.size w wr) ∧ Hid (h6 < wr.heap.size)) (fun _ I _ => n - (intOf I).toNat)
    case atStart => exact ⟨0, Nat.zero_le _, rfl, R6, B6, Z6, Lw6, R6.out.lt⟩
    case round =>
      obtain ⟨i, hi, rfl, RR, BR, ZR, LR, SR⟩ := hrel
      by_cases hlt : i < n
      · obtain ⟨bb, oo, x, eA, hbb, hx, k0, k1, hy⟩ := (HL.out.below LR.out).at hlt
        injection eA with eA
        injection eA with e1 e2
        subst e1 e2
        have hNe := HNE.out
        have hfx := FIT.out x (List.mem_of_getElem? hx)
        have hjs := joinB_succ (a := a) (N := N) hx
        have hjl := JL.out i
        obtain ⟨xa, xA, xn, xc, px⟩ := x
        simp only at hfx hjs k0 k1 hy
        have hpl : px.length = xn := hy.len
        obtain ⟨o, ho⟩ : ∃ o, o = xa - a := ⟨_, rfl⟩
        have hwo : IntKind.i64.wrap ((xa : Int) - (a : Int)) = (o : Int) := by rw [IntKind.wrap_i64]; omega
        have hoN : (o : Int) ≤ (N : Int) := by omega
        have hNo : ¬ N = o := by omega
        have HY := Lib.hid hy
        rw [← ho] at hjs
        have HJS := Lib.hid hjs
        have hfit : Hid (o + xn ≤ ((joinB a N lo i).map (Value.int .u8)).length) := by show _ ≤ _; rw [List.length_map, hjl]; omega
        have hxn0 : 0 < xn := by omega
        have hxnN : xn ≤ N - o := by omega
        have kx : wr.rangeAt b (off + i * 2) [.int .i64 (xa : Nat), .slice xA xn xc] := fun j v hj => by
          match j, hj with
          | 0, hj => injection hj with hj; subst hj; exact k0
          | 1, hj => injection hj with hj; subst hj; exact k1
        have KX := Lib.hid kx
        clear hx hjs hjl hy hpl kx ho hNe
        go_upto_region 8 with (first
          | ((with_reducible show wpList _ _ _ (⟨some 41, _, _, _, _, _⟩ :: _) _ _); go_loud (refine wpList_load_mid rfl _ (.tmp 40) rfl b (off + i * 2) rfl [.int .i64 (xa : Nat), .slice xA xn xc] _ KX.out Try.underlying41 rfl (by rw [size_ext]; rfl) ?_))
          | ((with_reducible show wpList _ _ _ (⟨some 9, _, _, _, _, _⟩ :: _) _ _); go_loud (refine wpList_alloc_blk rfl _ rfl [.int .i64 0, .slice none 0 0] _ ZX ?_); intro gx w7 hgx hgx2 X7 L7; have HY7 := Lib.hid (HY.out.below (L7.out.mono LR.out.size)); have R7 := Lib.hid (RR.out.over L7.out))
          | ((with_reducible show wpList _ _ _ (⟨none, .store _ _ _, _, _, _, _⟩ :: _) _ _); go_loud (refine wpList_store_blk rfl _ (.tmp 9) (.tmp 41) rfl gx rfl _ [.int .i64 0, .slice none 0 0] [.int .i64 (xa : Nat), .slice xA xn xc] rfl X7 2 size_ext rfl rfl (ext_one _ _ rfl) ?_); intro w8 X8 O8 hg8; have e0 : w8.cell? ⟨gx, 0, none⟩ = some (.int .i64 (xa : Nat)) := X8.out.cell 0; have e1 : w8.cell? ⟨gx, 1, none⟩ = some (.slice xA xn xc) := X8.out.cell 1)
          | fail)
        have hgxh : gx ≠ h6 := by have := SR.out; omega
        have R8 : Hid (Blk w8.drew h6 5 ((joinB a N lo i).map (Value.int .u8))) := (R7.out.only O8.out (fun e => hgxh e.symm) : Row w8 h6 (joinB a N lo i))
        have hwg : w.heap.size ≤ gx := by have := LR.out.size; omega
        have HY8 := Lib.hid (HY7.out.below (O8.out.below hwg)).drew
        have L8 : Hid (Below w.heap.size w w8.drew) := (below_only (LR.out.trans (L7.out.mono LR.out.size)) O8.out hwg).drew
        have B8 := Lib.hid ((BR.out.over L7.out).only O8.out (by have := BR.out.lt; omega))
        have Z8 := Lib.hid ((ZR.out.over L7.out).only O8.out (by have := ZR.out.lt; omega))
        have hs8 : Hid (h6 < w8.heap.size) := by show _ < _; rw [O8.out.size]; have := SR.out; have := L7.out.size; omega
        clear R7 HY7 HY RR BR ZR LR SR L7 X7 X8 O8 k0 k1
        go_still_tail 8, (by kernel_rfl)
        change wpList _ _ _ _ _ w8.drew
        go_wp2_with (first
          | ((with_reducible show wpList _ _ _ (⟨some 50, _, _, _, _, _⟩ :: _) _ _); go_loud (refine wpList_copy_mid rfl (.tmp 47) (.tmp 49) rfl h6 o 5 _ _ xn xc xA rfl rfl _ px w.heap.size R8 HY8.out hxn0 hxnN hfit ?_); intro w9 R9 O9)
          | fail)
        go_roundw
        case rel =>
          refine ⟨i + 1, by omega, by go_num, ?_, B8.out.drew.only O9.out (by have := hgh.out.1; omega), Z8.out.drew.only O9.out (by have := hgh.out.2.1; omega), below_only L8.out O9.out hgh.out.2.2, ?_⟩
          · have := R9.out
            rw [spliced_row] at this
            show Row _ _ _
            rw [HJS.out]
            exact this
          · show _ < _
            rw [O9.out.size]
            exact hs8.out
        case measure => simp [intOf]; omega
      · obtain rfl : i = n := by omega
        have hwo : IntKind.i64.wrap ((oa : Int) - (a : Int)) = (o0 : Int) := HWO.out
        have g0 : wr.cell? ⟨g, 0, none⟩ = some (.int .i64 (oa : Nat)) := BR.out.cell 0
        have g1 : wr.cell? ⟨g, 1, none⟩ = some (.slice oA on oc) := BR.out.cell 1
        have hjl := JL.out i
        have hoN2 := HFIN.out
        have hfit : Hid (o0 + on ≤ ((joinB a N lo i).map (Value.int .u8)).length) := by show _ ≤ _; rw [List.length_map, hjl]; omega
        have R8 : Hid (Blk wr.drew h6 5 ((joinB a N lo i).map (Value.int .u8))) := RR.out
        have HO8 := Lib.hid ((HO.out.below LR.out).drew)
        clear hjl hoN2
        go_upto_region 10 with fail
        go_still_tail 8, (by kernel_rfl)
        change wpList _ _ _ _ _ wr.drew
        go_wp2_with (first
          | ((with_reducible show wpList _ _ _ (⟨some 60, _, _, _, _, _⟩ :: _) _ _); go_loud (refine wpList_copy_mid rfl (.tmp 57) (.tmp 59) rfl h6 o0 5 _ _ on oc oA rfl rfl _ ox w.heap.size R8 HO8.out hon0 honN hfit ?_); intro w9 R9 O9; have Z9 := Lib.hid (ZR.out.drew.only O9.out (by have := hgh.out.2.1; omega)))
          | ((with_reducible show wpList _ _ _ (⟨some 63, _, _, _, _, _⟩ :: _) _ _); go_loud (refine wpList_build_blk rfl _ _ rfl [.int .i64 (a : Nat), .slice (some ⟨h6, 0, none⟩) N N] (by kernel_rfl) ?_))
          | ((with_reducible show wpList _ _ _ (⟨none, .store _ _ _, _, _, _, _⟩ :: _) _ _); go_loud (refine wpList_store_blk rfl _ (.tmp 4) (.tmp 63) rfl h rfl _ [.int .i64 0, .slice none 0 0] [.int .i64 (a : Nat), .slice (some ⟨h6, 0, none⟩) N N] rfl Z9 2 size_ext rfl rfl (ext_one _ _ rfl) ?_); intro w10 Z10 O10 hg10)
          | fail)
        have L9 : Below w.heap.size w w9 := below_only LR.out.drew O9.out hgh.out.2.2
        refine bodyPost_ret (v := .agg #[.int .i64 (a : Nat), .slice (some ⟨h6, 0, none⟩) N N]) ?_ rfl ⟨h6, rfl, hgh.out.2.2, ?_, below_only L9 O10.out hwh⟩
        · exact results_cell_row rfl _ _ h _ _ (0, 0) _ rfl Z10.out Try.underlying41 rfl (by rw [size_ext]; rfl)
        · have := R9.out
          rw [spliced_row] at this
          exact Row.only (g' := h) this O10.out (by have := hgh.out.2.1; omega)
end Go.Proofs.Ytgbhnnobbciemaa
