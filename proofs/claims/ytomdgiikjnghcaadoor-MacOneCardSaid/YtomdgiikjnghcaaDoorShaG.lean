/-
  Contracts of layer 3 (sha): Begin (the program's and the document's), and the program's Sum.
-/
import Derived.Test.YtomdgiikjnghcaaDoorShaF
import Derived.Deep.RegionWith
import Derived.Deep.DeepCutAuto
namespace Go.Proofs.YtomdgiikjnghcaaDoor
open Go.RowKit

theorem size_o : (Tryd.prog.info? 24).map (·.size) = some 32 := by kernel_rfl
/-- the first state -/
def H0 : List Int := [1779033703, 3144134277, 1013904242, 2773480762, 1359893119, 2600822924, 528734635, 1541459225]
theorem H0_len : H0.length = 8 := rfl
theorem H0_w : W32 H0 := W32.of_all (by decide)

set_option maxHeartbeats 1000000 in
theorem Begin_any (w : World) : Calls Tryd.prog 45 #[] w fun e w' => e = .returned (.agg (H0.map (Value.int .u32)).toArray) ∧ Below w.heap.size w w' := by
  obtain ⟨Y, hY⟩ : ∃ Z : List Int, Z = List.replicate 8 0 := ⟨_, rfl⟩
  have HY := len0 8
  have hy1 := zero_s
  rw [← hY] at HY hy1
  have HY1 := Lib.hid hy1
  clear hy1 hY
  go_enter Tryd.func45, Tryd.ntmps45
  go_wp2_with (first
    | ((with_reducible show wpList _ _ _ (⟨some 0, _, _, _, _, _⟩ :: _) _ _); refine wpList_alloc_arr rfl _ rfl .u32 Y 8 HY1 ?_; intro g4 w4 e4 s4 A4 b4)
    | ((with_reducible show wpList _ _ _ (⟨none, _, _, _, _, _⟩ :: _) _ _); refine wpList_store_arr rfl _ (.tmp 0) (.tmp 1) rfl g4 rfl .u32 _ _ H0 rfl A4 8 size_s HY rfl ?_; intro w9 A9 o9 s9)
    | fail)
  refine bodyPost_ret (v := .agg (H0.map (Value.int .u32)).toArray) ?_ rfl ⟨rfl, b4.out.trans (o9.out.below e4)⟩
  exact results_cell_row rfl _ _ g4 _ _ (0, 0) _ rfl A9.out Tryd.underlying55 rfl (by rw [size_s]; rfl)

set_option maxHeartbeats 1000000 in
theorem RBegin_any (w : World) : Calls Tryd.prog 36 #[] w fun e w' => e = .returned (.agg (H0.map (Value.int .u32)).toArray) ∧ Below w.heap.size w w' := by
  obtain ⟨Y, hY⟩ : ∃ Z : List Int, Z = List.replicate 8 0 := ⟨_, rfl⟩
  have HY := len0 8
  have hy1 := zero_s
  rw [← hY] at HY hy1
  have HY1 := Lib.hid hy1
  clear hy1 hY
  go_enter Tryd.func36, Tryd.ntmps36
  go_wp2_with (first
    | ((with_reducible show wpList _ _ _ (⟨some 0, _, _, _, _, _⟩ :: _) _ _); refine wpList_alloc_arr rfl _ rfl .u32 Y 8 HY1 ?_; intro g4 w4 e4 s4 A4 b4)
    | ((with_reducible show wpList _ _ _ (⟨none, _, _, _, _, _⟩ :: _) _ _); refine wpList_store_arr rfl _ (.tmp 0) (.tmp 1) rfl g4 rfl .u32 _ _ H0 rfl A4 8 size_s HY rfl ?_; intro w9 A9 o9 s9)
    | fail)
  refine bodyPost_ret (v := .agg (H0.map (Value.int .u32)).toArray) ?_ rfl ⟨rfl, b4.out.trans (o9.out.below e4)⟩
  exact results_cell_row rfl _ _ g4 _ _ (0, 0) _ rfl A9.out Tryd.underlying55 rfl (by rw [size_s]; rfl)

theorem bcell {W w1 : World} (hb : Below W.heap.size W w1) : (∀ b o, b < W.heap.size → w1.cell? ⟨b, o, none⟩ = W.cell? ⟨b, o, none⟩) ∧ (∀ b o, b < W.heap.size → w1.frozen? ⟨b, o, none⟩ = W.frozen? ⟨b, o, none⟩) :=
  ⟨fun b o h => hb.cell (p := ⟨b, o, none⟩) h, fun b o h => hb.frozen (p := ⟨b, o, none⟩) h⟩
/-- eight stores fill the array -/
theorem only8 (w : World) (g : Nat) (y0 y1 y2 y3 y4 y5 y6 y7 : Int) :
    Only g w ((((((((w.setCell ⟨g, 0, none⟩ (.int .u32 y0)).setCell ⟨g, 1, none⟩ (.int .u32 y1)).setCell ⟨g, 2, none⟩ (.int .u32 y2)).setCell ⟨g, 3, none⟩ (.int .u32 y3)).setCell ⟨g, 4, none⟩ (.int .u32 y4)).setCell ⟨g, 5, none⟩ (.int .u32 y5)).setCell ⟨g, 6, none⟩ (.int .u32 y6)).setCell ⟨g, 7, none⟩ (.int .u32 y7)) :=
  ((((((((Only.refl g w).setCell 0 _).setCell 1 _).setCell 2 _).setCell 3 _).setCell 4 _).setCell 5 _).setCell 6 _).setCell 7 _
theorem fill8 {w : World} {g : Nat} {T : TypeId} {zs : List Int} (h : Arr w g .u32 T zs) (hz : zs.length = 8) (y0 y1 y2 y3 y4 y5 y6 y7 : Int) :
    Arr ((((((((w.setCell ⟨g, 0, none⟩ (.int .u32 y0)).setCell ⟨g, 1, none⟩ (.int .u32 y1)).setCell ⟨g, 2, none⟩ (.int .u32 y2)).setCell ⟨g, 3, none⟩ (.int .u32 y3)).setCell ⟨g, 4, none⟩ (.int .u32 y4)).setCell ⟨g, 5, none⟩ (.int .u32 y5)).setCell ⟨g, 6, none⟩ (.int .u32 y6)).setCell ⟨g, 7, none⟩ (.int .u32 y7)) g .u32 T [y0, y1, y2, y3, y4, y5, y6, y7] := by
  match zs, hz with
  | [a, b, c, d, e, f, i, j], _ => exact (((((((h.set 0 y0).set 1 y1).set 2 y2).set 3 y3).set 4 y4).set 5 y5).set 6 y6).set 7 y7
theorem eight {l : List Int} (h : l.length = 8) : ∃ a b c d e f g i, l = [a, b, c, d, e, f, g, i] := by
  match l, h with
  | [a, b, c, d, e, f, g, i], _ => exact ⟨a, b, c, d, e, f, g, i, rfl⟩

/-- the sum's bytes -/
def outOf (st : List Int) : List Int := (List.range 32).map fun i => st.getD (i / 4) 0 / 2 ^ (24 - 8 * (i % 4)) % 256
theorem outOf_len (st : List Int) : (outOf st).length = 32 := by simp [outOf]
theorem outOf_bytes (st : List Int) : Bytes (outOf st) := fun x hx => by
  obtain ⟨j, _, rfl⟩ := List.mem_map.1 hx
  omega
/-- the row of the sum, behind k of its bytes -/
def outRow (st : List Int) (k : Nat) : List Int := (outOf st).take k ++ List.replicate (32 - k) 0
theorem outRow_len (st : List Int) (k : Nat) (h : k ≤ 32) : (outRow st k).length = 32 := by simp [outRow, outOf_len]; omega
theorem outRow_zero (st : List Int) : outRow st 0 = List.replicate 32 0 := by simp [outRow]
theorem outRow_full (st : List Int) : outRow st 32 = outOf st := by
  unfold outRow
  rw [List.take_of_length_le (by rw [outOf_len]; exact Nat.le_refl _)]
  simp
theorem outRow_set (st : List Int) (k : Nat) (h : k < 32) : (outRow st k).set k (st.getD (k / 4) 0 / 2 ^ (24 - 8 * (k % 4)) % 256) = outRow st (k + 1) := by
  have hl : k < (outOf st).length := by rw [outOf_len]; exact h
  unfold outRow
  rw [fill_set _ _ _ _ (by simp [outOf_len]; omega) (by omega), List.take_succ_eq_append_getElem hl, show 32 - k - 1 = 32 - (k + 1) by omega]
  congr 2
  simp [outOf]
/-- what is pressed: the bytes and what stands behind them -/
def allOf (xs : List Int) : List Int := xs ++ behindOf xs.length
def stateOf (xs : List Int) : List Int := blocksS H0 (allOf xs) ((allOf xs).length / 64)
def sumOf (xs : List Int) : List Int := outOf (stateOf xs)

theorem allOf_len (xs : List Int) (h : xs.length ≤ 140737488355200) : (allOf xs).length % 64 = 0 := by
  have h1 := behindOf_len xs.length (by omega)
  unfold allOf
  rw [List.length_append, h1]
  unfold noughts
  omega
theorem allOf_bytes (xs : List Int) (h : Bytes xs) : Bytes (allOf xs) := h.append (behindOf_bytes _)
theorem stateOf_len (xs : List Int) : (stateOf xs).length = 8 := blocksS_len H0_len _ _
theorem stateOf_w (xs : List Int) : W32 (stateOf xs) := blocksS_w H0_w _ _
/-- the whole blocks first, then the rest with what stands behind -/
theorem stateOf_parts (xs : List Int) (h : xs.length ≤ 140737488355200) (q : Nat) (hq : q = xs.length / 64) :
    stateOf xs = blocksS (blocksS H0 (xs.take (64 * q)) q) (xs.drop (64 * q) ++ behindOf xs.length) ((xs.drop (64 * q) ++ behindOf xs.length).length / 64) := by
  have h0 := allOf_len xs h
  have hl : (xs.take (64 * q)).length = 64 * q := by rw [List.length_take]; omega
  have e : xs.take (64 * q) ++ (xs.drop (64 * q) ++ behindOf xs.length) = allOf xs := by
    rw [← List.append_assoc, List.take_append_drop]
    rfl
  rw [blocksS_behind _ _ _ _ _ hl, e]
  have e2 : (allOf xs).length = 64 * q + (xs.drop (64 * q) ++ behindOf xs.length).length := by rw [← e, List.length_append, hl]
  unfold stateOf
  rw [e2]
  congr 1
  omega
theorem Holds.behind {w : World} {B : Nat} {A : Option Addr} {n c m : Nat} {xs : List Int} (h : Holds w B A n c xs) (hm : m ≤ n) : Holds w B (if c = m then A else Option.map (fun x => x.add m) A) (n - m) (c - m) (xs.drop m) := by
  have hf := h.fit
  have hl := h.len
  by_cases hn : n - m = 0
  · rw [hn, show xs.drop m = [] from List.drop_of_length_le (by omega)]
    refine Holds.empty _ _ _ _ fun hA => ?_
    by_cases hc : c = m
    · omega
    · rw [if_neg hc] at hA
      have : A = none := by cases A <;> simp_all
      have := h.bare this
      omega
  · rw [if_neg (by omega)]
    have h1 := h.part (k := m) (m := n - m) (c' := c - m) (by omega) (by omega) (by omega)
    rwa [List.take_of_length_le (by rw [List.length_drop]; omega)] at h1

set_option maxRecDepth 100000 in
set_option maxHeartbeats 4000000 in
theorem Sum_any (w : World) (A : Option Addr) (n c : Nat) (xs : List Int) (hn : n ≤ 140737488355200) (h : Holds w w.heap.size A n c xs) (hK : KTab w) :
    Calls Tryd.prog 39 #[.slice A n c] w
      fun e w' => e = .returned (.agg ((sumOf xs).map (Value.int .u8)).toArray) ∧ Below w.heap.size w w' := by
  have HL := Lib.hid h.len
  have hfit := h.fit
  have hby := h.byte
  have HK := Lib.hid hK
  have hz4 : Tryd.prog.built 24 [] = some ((List.replicate 32 (0 : Int)).map (Value.int .u8)).toArray := by kernel_rfl
  have hz3 : (Tryd.prog.info? 24).map (fun i => (i.zero, i.size)) = some (some (.agg ((List.replicate 32 (0 : Int)).map (Value.int .u8)).toArray), 32) := by kernel_rfl
  obtain ⟨X, hX⟩ : ∃ Z : List Int, Z = List.replicate 32 0 := ⟨_, rfl⟩
  have HX := len0 32
  rw [← hX] at HX hz3 hz4
  have HX2 := Lib.hid hz4
  have HXe := Lib.hid hX
  have HX1 := Lib.hid hz3
  clear hK hz3 hz4 hX
  obtain ⟨q, hq⟩ : ∃ q, q = n / 64 := ⟨_, rfl⟩
  obtain ⟨m, hm⟩ : ∃ m, m = 64 * q := ⟨_, rfl⟩
  have hm0 : m ≤ n := by omega
  have hm1 : (n : Int) - (n : Int) % 64 = (m : Int) := by omega
  have hm2 : n - m < 64 := by omega
  have HMm := Lib.hid hm
  have HQq := Lib.hid hq
  clear hm hq
  have hm3 : (0 : Int) ≤ (m : Int) := by omega
  have hm4 : (m : Int) ≤ (c : Int) := by omega
  have cb := fun w => Lib.hid (Begin_any w)
  have hun : IntKind.u64.wrap (n : Int) = (n : Int) := by rw [IntKind.wrap_u64]; omega
  have hr := h.behind hm0
  obtain ⟨A3, hA3⟩ : ∃ A3, (if c = m then A else Option.map (fun x => x.add m) A) = A3 := ⟨_, rfl⟩
  rw [hA3] at hr
  have hsp := stateOf_parts xs (by rw [HL.out]; omega) q (by rw [HL.out]; exact HQq.out)
  have hal := allOf_len xs (by rw [HL.out]; omega)
  have hal2 : (allOf xs).length = n + (behindOf xs.length).length := by unfold allOf; rw [List.length_append, HL.out]
  have hbl := behindOf_len xs.length (by rw [HL.out]; omega)
  have hnl := noughts_lt xs.length
  have heb := behindOf_bytes xs.length
  rw [← HMm.out] at hsp
  have cbh := fun w => Behind_any w (xs.length : Int) (by have := HL.out; omega)
  unfold BehPost at cbh
  obtain ⟨E, hE⟩ : ∃ E, E = behindOf (xs.length : Int) := ⟨_, rfl⟩
  rw [← hE] at cbh hsp hal2 hbl heb
  obtain ⟨L, hL⟩ : ∃ L, L = E.length := ⟨_, rfl⟩
  rw [← hL] at cbh hal2 hbl
  rw [HL.out] at cbh
  have HEL := Lib.hid hL
  have HEB := Lib.hid heb
  have CBH := fun w => Lib.hid (cbh w)
  have hL9 : 9 ≤ L := by omega
  have hL72 : L ≤ 72 := by omega
  have hrl : (xs.drop m ++ E).length = n - m + L := by rw [List.length_append, List.length_drop, HL.out, hL]
  have hrb : Bytes (xs.drop m ++ E) := (hby.drop m).append heb
  obtain ⟨R, hR⟩ : ∃ R, R = xs.drop m ++ E := ⟨_, rfl⟩
  rw [← hR] at hsp hrl hrb
  have HRe := Lib.hid hR
  obtain ⟨r, hr0⟩ : ∃ r, r = n - m + L := ⟨_, rfl⟩
  rw [← hr0] at hrl
  have hr64 : r = 64 * (R.length / 64) := by have := HMm.out; omega
  have hrle : r ≤ 136 := by omega
  have HRL := Lib.hid hrl
  have HR64 := Lib.hid hr64
  have HR0 := Lib.hid hr0
  have HSP := Lib.hid hsp
  clear hsp hal hal2 hbl hnl heb cbh hE hL hrl hR hr0 hr64
  have hh1 : Holds w w.heap.size A m c (xs.take m) := ⟨by have := HL.out; rw [List.length_take]; omega, by omega, by omega, hby.take m, h.bare, fun h0 => by
    obtain ⟨b, off, rfl, hb, hc⟩ := h.cells (by omega)
    exact ⟨b, off, rfl, hb, fun i hi => by rw [hc i (by omega)]; simp [List.getD_eq_getElem?_getD, hi]⟩⟩
  have cp : ∀ W, Below w.heap.size w W → Hid (Calls Tryd.prog 44 #[.agg (H0.map (Value.int .u32)).toArray, .slice A m c] W
      fun e w' => e = .returned (.agg ((blocksS H0 (xs.take m) q).map (Value.int .u32)).toArray) ∧ Below W.heap.size W w') := fun W hb =>
    pressAll_any W H0 (xs.take m) H0_len H0_w A m c q HMm.out (by omega) ((hh1.below hb).mono hb.size) (HK.out.below hb)
  obtain ⟨s1, hs1⟩ : ∃ s1, s1 = blocksS H0 (xs.take m) q := ⟨_, rfl⟩
  have hl1 := blocksS_len H0_len (xs.take m) q
  rw [← hs1] at cp hl1
  have HS1 := Lib.hid hs1
  clear hs1
  go_enter Tryd.func39, Tryd.ntmps39
  go_wp2_with (first
    | ((with_reducible show wpList _ _ _ (⟨some 2, _, _, _, _, _⟩ :: _) _ _); refine wpList_alloc_arr rfl _ rfl .u8 X 32 HX1 ?_; intro g2 w2 e2 s2 A2 b2)
    | fail)
  have B2 : Hid (Below w.heap.size w w2) := b2
  have hw2 := b2.out.size
  clear b2
  go_upto_region 2 with (fail)
  go_cut [4] (fun s4 wx => ∃ g4, s4 = .pointer (some ⟨g4, 0, none⟩) ∧ g2 < g4 ∧ Hid (Arr wx g4 .u32 55 s1) ∧ Hid (Arr wx g2 .u8 24 X) ∧ Hid (Below w.heap.size w wx))
  case first =>
    have HH0 : Hid (H0 = [1779033703, 3144134277, 1013904242, 2773480762, 1359893119, 2600822924, 528734635, 1541459225]) := rfl
    obtain ⟨y0, y1, y2, y3, y4, y5, y6, y7, rfl⟩ := eight hl1
    go_region_with (first
      | (go_at_call 45; go_loud (refine (cb _).out.mono ?_; rintro e w3 ⟨rfl, b3⟩; obtain ⟨hc3, hf3⟩ := bcell b3; have hz3 := b3.size; simp at hz3; (try have hz3' : w2.heap.size < w3.heap.size := by omega)))
      | (go_at_call 44; (refine (cp _ (by first | exact B2.out.drew.trans (b3.mono hw2) | exact (B2.out.drew.trans (b3.mono hw2)).alloc (Nat.le_trans hw2 b3.size) _ | exact (B2.out.alloc hw2 _).drew.trans (b3.mono (Nat.le_trans hw2 (by simp))))).out.mono ?_; rintro e w4 ⟨rfl, b4⟩; obtain ⟨hc4, hf4⟩ := bcell b4; have hz4 := b4.size)))
    all_goals go_wp2_with fail
    all_goals go_meet
    all_goals clear hc3 hf3 hc4 hf4
    · have B4 : Below w.heap.size w w4 := (B2.out.drew.trans (b3.mono hw2)).trans (b4.mono (by omega))
      have X4 : Arr w4 g2 .u8 24 X := (A2.out.drew.over b3).over b4
      refine ⟨_, rfl, by omega, Arr.new w4 .u32 55 [y0, y1, y2, y3, y4, y5, y6, y7], X4.over ((Below.refl _ _).alloc (Nat.le_refl _) _), B4.alloc B4.size _⟩
    · simp at hz4
      have B4 : Below w.heap.size w w4 := ((B2.out.drew.trans (b3.mono hw2)).alloc (Nat.le_trans hw2 b3.size) _).trans (b4.mono (by simp; omega))
      have X4 : Arr w4 g2 .u8 24 X := ((A2.out.drew.over b3).over ((Below.refl _ _).alloc (Nat.le_refl _) _)).over b4
      have Z4 : Arr w4 w3.heap.size .u32 55 [0, 0, 0, 0, 0, 0, 0, 0] := (Arr.new w3 .u32 55 [0, 0, 0, 0, 0, 0, 0, 0]).over b4
      have o8 := only8 w4 w3.heap.size y0 y1 y2 y3 y4 y5 y6 y7
      refine ⟨_, rfl, by omega, fill8 Z4 rfl _ _ _ _ _ _ _ _, X4.only o8 (by omega), B4.trans (o8.below (by omega))⟩
    · have B4 : Below w.heap.size w w4 := ((B2.out.alloc hw2 _).drew.trans (b3.mono (Nat.le_trans hw2 (by simp)))).trans (b4.mono (by omega))
      have X4 : Arr w4 g2 .u8 24 X := (((A2.out.over ((Below.refl _ _).alloc (Nat.le_refl _) _)).drew).over b3).over b4
      have Z4 : Arr w4 w2.heap.size .u32 55 [0, 0, 0, 0, 0, 0, 0, 0] := ((Arr.new w2 .u32 55 [0, 0, 0, 0, 0, 0, 0, 0]).drew.over b3).over b4
      have o8 := only8 w4 w2.heap.size y0 y1 y2 y3 y4 y5 y6 y7
      refine ⟨_, rfl, by omega, fill8 Z4 rfl _ _ _ _ _ _ _ _, X4.only o8 (by omega), B4.trans (o8.below (by omega))⟩
  case rest =>
    obtain ⟨g4, rfl, l24, A4, A2r, B4⟩ := hcut
    go_upto_region 3 with (fail)
    go_cut [] (fun wx => Hid (Arr wx g4 .u32 55 (stateOf xs)) ∧ Hid (Arr wx g2 .u8 24 X) ∧ Hid (Below w.heap.size w wx))
    case first =>
      have hsw1 : W32 s1 := by rw [HS1.out]; exact blocksS_w H0_w _ _
      have cp2 : ∀ W A6 c6, Below w.heap.size w W → Holds W W.heap.size A6 r c6 R → Hid (Calls Tryd.prog 44 #[.agg (s1.map (Value.int .u32)).toArray, .slice A6 r c6] W
          fun e w' => e = .returned (.agg ((stateOf xs).map (Value.int .u32)).toArray) ∧ Below W.heap.size W w') := fun W A6 c6 hb hh => by
        rw [HSP.out, ← HS1.out]
        exact pressAll_any W s1 R hl1 hsw1 A6 r c6 (R.length / 64) HR64.out (by omega) hh (HK.out.below hb)
      have hls := stateOf_len xs
      obtain ⟨so, hso⟩ : ∃ so, so = stateOf xs := ⟨_, rfl⟩
      rw [← hso] at cp2 hls
      have HSO := Lib.hid hso
      clear hso cp
      obtain ⟨z0, z1, z2, z3, z4, z5, z6, z7, rfl⟩ := eight hls
      obtain ⟨y0, y1, y2, y3, y4, y5, y6, y7, rfl⟩ := eight hl1
      have hg4 := A4.out.lt
      have hwc := B4.out.size
      have k0 : wc.cell? ⟨g4, 0, none⟩ = some (.int .u32 y0) := A4.out.cell (i := 0) (by show _ < 8; omega)
      have k1 : wc.cell? ⟨g4, 1, none⟩ = some (.int .u32 y1) := A4.out.cell (i := 1) (by show _ < 8; omega)
      have k2 : wc.cell? ⟨g4, 2, none⟩ = some (.int .u32 y2) := A4.out.cell (i := 2) (by show _ < 8; omega)
      have k3 : wc.cell? ⟨g4, 3, none⟩ = some (.int .u32 y3) := A4.out.cell (i := 3) (by show _ < 8; omega)
      have k4 : wc.cell? ⟨g4, 4, none⟩ = some (.int .u32 y4) := A4.out.cell (i := 4) (by show _ < 8; omega)
      have k5 : wc.cell? ⟨g4, 5, none⟩ = some (.int .u32 y5) := A4.out.cell (i := 5) (by show _ < 8; omega)
      have k6 : wc.cell? ⟨g4, 6, none⟩ = some (.int .u32 y6) := A4.out.cell (i := 6) (by show _ < 8; omega)
      have k7 : wc.cell? ⟨g4, 7, none⟩ = some (.int .u32 y7) := A4.out.cell (i := 7) (by show _ < 8; omega)
      go_region_with (first
        | (go_at_call 46; go_loud (refine (CBH _).out.mono ?_; rintro e w5 ⟨A5, rfl, f5, b5⟩; have R5 : Hid (Arr w5 g4 .u32 55 [y0, y1, y2, y3, y4, y5, y6, y7]) := A4.out.drew.over b5; have hfzw5 : ∀ o, w5.frozen? ⟨g4, o, none⟩ = false := (fun o => R5.out.frozen o); have hclw50 : w5.cell? ⟨g4, 0, none⟩ = some (.int .u32 y0) := R5.out.cell (i := 0) (show 0 < 8 by omega); have hclw51 : w5.cell? ⟨g4, 1, none⟩ = some (.int .u32 y1) := R5.out.cell (i := 1) (show 1 < 8 by omega); have hclw52 : w5.cell? ⟨g4, 2, none⟩ = some (.int .u32 y2) := R5.out.cell (i := 2) (show 2 < 8 by omega); have hclw53 : w5.cell? ⟨g4, 3, none⟩ = some (.int .u32 y3) := R5.out.cell (i := 3) (show 3 < 8 by omega); have hclw54 : w5.cell? ⟨g4, 4, none⟩ = some (.int .u32 y4) := R5.out.cell (i := 4) (show 4 < 8 by omega); have hclw55 : w5.cell? ⟨g4, 5, none⟩ = some (.int .u32 y5) := R5.out.cell (i := 5) (show 5 < 8 by omega); have hclw56 : w5.cell? ⟨g4, 6, none⟩ = some (.int .u32 y6) := R5.out.cell (i := 6) (show 6 < 8 by omega); have hclw57 : w5.cell? ⟨g4, 7, none⟩ = some (.int .u32 y7) := R5.out.cell (i := 7) (show 7 < 8 by omega); have hq5 : g4 < w5.heap.size := (by have := b5.size; simp at this; omega); have hv5 : wc.heap.size ≤ w5.heap.size := b5.size; have B5 := Lib.hid (B4.out.drew.trans (b5.mono hwc)); have F5 := Lib.hid (f5.holds HEL.out.symm HEB.out (by omega)); clear f5))
        | (go_at_call 31; go_loud (refine (Concat_any _ w5.heap.size A3 A5 (n - m) (c - m) L L (xs.drop m) E (by simp) (by simp) (by simp) ((hr.below (B5.out.alloc B5.out.size _)).mono (by simp; omega)) ((F5.out.below ((Below.refl _ w5).alloc (Nat.le_refl _) _)).mono (by simp)) (by omega) (by omega)).mono ?_; rintro e w6 ⟨v6, rfl, o6, b6⟩; have R6 : Hid (Arr w6 g4 .u32 55 [y0, y1, y2, y3, y4, y5, y6, y7]) := (R5.out.over ((Below.refl _ w5).alloc (Nat.le_refl _) _)).over b6; have hfzw6 : ∀ o, w6.frozen? ⟨g4, o, none⟩ = false := (fun o => R6.out.frozen o); have hclw60 : w6.cell? ⟨g4, 0, none⟩ = some (.int .u32 y0) := R6.out.cell (i := 0) (show 0 < 8 by omega); have hclw61 : w6.cell? ⟨g4, 1, none⟩ = some (.int .u32 y1) := R6.out.cell (i := 1) (show 1 < 8 by omega); have hclw62 : w6.cell? ⟨g4, 2, none⟩ = some (.int .u32 y2) := R6.out.cell (i := 2) (show 2 < 8 by omega); have hclw63 : w6.cell? ⟨g4, 3, none⟩ = some (.int .u32 y3) := R6.out.cell (i := 3) (show 3 < 8 by omega); have hclw64 : w6.cell? ⟨g4, 4, none⟩ = some (.int .u32 y4) := R6.out.cell (i := 4) (show 4 < 8 by omega); have hclw65 : w6.cell? ⟨g4, 5, none⟩ = some (.int .u32 y5) := R6.out.cell (i := 5) (show 5 < 8 by omega); have hclw66 : w6.cell? ⟨g4, 6, none⟩ = some (.int .u32 y6) := R6.out.cell (i := 6) (show 6 < 8 by omega); have hclw67 : w6.cell? ⟨g4, 7, none⟩ = some (.int .u32 y7) := R6.out.cell (i := 7) (show 7 < 8 by omega); have B6 := Lib.hid ((B5.out.alloc B5.out.size _).trans (b6.mono (by simp; omega))); have hq6 : g4 < w6.heap.size := (by have := b6.size; simp at this; omega); obtain ⟨A6, c6, rfl, hh6⟩ := o6.holds (by rw [← HRe.out]; exact hrb) (by rw [← HRe.out, HRL.out]; omega); rw [← HRe.out, HRL.out] at hh6 ⊢; have HH6 := Lib.hid hh6; clear hh6 o6))
        | (go_at_call 44; go_loud (refine (cp2 _ A6 c6 B6.out HH6.out).out.mono ?_; rintro e w7 ⟨rfl, b7⟩; have R7 : Hid (Arr w7 g4 .u32 55 [y0, y1, y2, y3, y4, y5, y6, y7]) := R6.out.over b7; have hfzw7 : ∀ o, w7.frozen? ⟨g4, o, none⟩ = false := (fun o => R7.out.frozen o); have hclw70 : w7.cell? ⟨g4, 0, none⟩ = some (.int .u32 y0) := R7.out.cell (i := 0) (show 0 < 8 by omega); have hclw71 : w7.cell? ⟨g4, 1, none⟩ = some (.int .u32 y1) := R7.out.cell (i := 1) (show 1 < 8 by omega); have hclw72 : w7.cell? ⟨g4, 2, none⟩ = some (.int .u32 y2) := R7.out.cell (i := 2) (show 2 < 8 by omega); have hclw73 : w7.cell? ⟨g4, 3, none⟩ = some (.int .u32 y3) := R7.out.cell (i := 3) (show 3 < 8 by omega); have hclw74 : w7.cell? ⟨g4, 4, none⟩ = some (.int .u32 y4) := R7.out.cell (i := 4) (show 4 < 8 by omega); have hclw75 : w7.cell? ⟨g4, 5, none⟩ = some (.int .u32 y5) := R7.out.cell (i := 5) (show 5 < 8 by omega); have hclw76 : w7.cell? ⟨g4, 6, none⟩ = some (.int .u32 y6) := R7.out.cell (i := 6) (show 6 < 8 by omega); have hclw77 : w7.cell? ⟨g4, 7, none⟩ = some (.int .u32 y7) := R7.out.cell (i := 7) (show 7 < 8 by omega)))
        | fail)
      all_goals go_wp2_with fail
      all_goals go_meet
      all_goals
        have X7 : Arr w7 g2 .u8 24 X := (((A2r.out.drew.over b5).over ((Below.refl _ w5).alloc (Nat.le_refl _) _)).over b6).over b7
        have o8 := only8 w7 g4 z0 z1 z2 z3 z4 z5 z6 z7
        have hs6 := B6.out.size
        exact ⟨by rw [← HSO.out]; exact fill8 R7.out rfl _ _ _ _ _ _ _ _, X7.only o8 (by omega), (B6.out.trans (b7.mono hs6)).trans (o8.below (by omega))⟩
    case rest =>
      obtain ⟨A4', A2', B4'⟩ := hcut
      have hls := Lib.hid (stateOf_len xs)
      obtain ⟨so, hso⟩ : ∃ so, so = stateOf xs := ⟨_, rfl⟩
      have hsow := stateOf_w xs
      rw [← hso] at A4' hls hsow
      have HSO := Lib.hid hso
      clear hso A4 A2r B4 A2 B2
      have hg4' := A4'.lt
      go_wp2_with (first
        | (refine wpList_build_zero rfl _ rfl .u8 X HX2 ?_)
        | ((with_reducible show wpList _ _ _ (⟨some 5, _, _, _, _, _⟩ :: _) _ _); refine wpList_alloc_arr rfl _ rfl .u8 X 32 HX1 ?_; intro g5 w6 e6 s6 A6 b6)
        | ((with_reducible show wpList _ _ _ (⟨none, _, _, _, _, _⟩ :: _) _ _); refine wpList_store_arr rfl _ (.tmp 5) (.tmp 29) rfl g5 rfl .u8 _ _ X rfl A6 32 size_o HX HX ?_; intro w7 A7 o7 s7)
        | fail)
      have hs6 := B4'.size
      have A47 : Hid (Arr w7 g4 .u32 55 so) := (A4'.over b6.out).only o7.out (by omega)
      have A27 : Hid (Arr w7 g2 .u8 24 X) := (A2'.over b6.out).only o7.out (by omega)
      have B7 : Hid (Below w.heap.size w w7) := (B4'.trans (b6.out.mono hs6)).trans (o7.out.below (by omega))
      have l45 : g4 < g5 := by omega
      have l25 : g2 < g5 := by omega
      have lw5 : w.heap.size ≤ g5 := by omega
      clear A4' A2' B4' A6 b6 o7 s6 s7 hs6 hg4'
      go_loopw [30, 6] (fun i _ wr => ∃ k : Nat, k ≤ 32 ∧ i = .int .i64 k ∧ Hid (Arr wr g5 .u8 24 (outRow so k)) ∧ Hid (Only g5 w7 wr)) (fun i _ _ => 32 - (intOf i).toNat)
      case atStart => exact ⟨0, by omega, rfl, by rw [outRow_zero, ← HXe.out]; exact A7, Only.refl _ _⟩
      case round =>
        obtain ⟨k, hk, rfl, hR, hO⟩ := hrel
        by_cases hlt : k < 32
        · have gc := (A47.out.only hO.out (by omega)).cell (i := k / 4) (by rw [hls.out]; omega)
          have hb := hsow.getD (k / 4)
          have hS := hR.out.set k (so.getD (k / 4) 0 / 2 ^ (24 - 8 * (k % 4)) % 256)
          rw [outRow_set so k hlt] at hS
          obtain ⟨y, hy⟩ : ∃ y, y = so.getD (k / 4) 0 := ⟨_, rfl⟩
          rw [← hy] at gc hb hS
          have gd := hR.out.cell (i := k) (by rw [outRow_len so k hk]; exact hlt)
          obtain ⟨old, hold⟩ : ∃ old, old = (outRow so k).getD k 0 := ⟨_, rfl⟩
          rw [← hold] at gd
          have gf := hR.out.frozen k
          have en : (24 - 8 * ((k : Int) % 4)).toNat = 24 - 8 * (k % 4) := by omega
          have hSh := Lib.hid hS
          obtain ⟨hb0, hb1⟩ := hb
          clear hy hold hS hR
          go_wp2_with fail
          go_roundw
          case rel => exact ⟨k + 1, by omega, by go_num, hSh, hO.out.setCell _ _⟩
          case measure => simp [intOf]; omega
        · have hge : (32 : Int) ≤ (k : Int) := by omega
          have hF : Hid (Arr wr g5 .u8 24 (sumOf xs)) := by
            have h0 := hR.out
            rw [show k = 32 by omega, outRow_full, HSO.out] at h0
            exact h0
          have A2f := Lib.hid (A27.out.only hO.out (by omega))
          have Bf : Hid (Below w.heap.size w wr) := B7.out.trans (hO.out.below lw5)
          have HP : Hid ((sumOf xs).length = 32) := outOf_len _
          obtain ⟨p, hp⟩ : ∃ p, p = sumOf xs := ⟨_, rfl⟩
          rw [← hp] at hF HP
          have HPe := Lib.hid hp
          clear hR hO hp
          go_wp2_with (first
            | ((with_reducible show wpList _ _ _ (⟨some 46, _, _, _, _, _⟩ :: _) _ _); refine wpList_load_arr rfl _ (.tmp 5) rfl g5 rfl .u8 _ p hF 32 _ Tryd.underlying24 size_o HP ?_)
            | ((with_reducible show wpList _ _ _ (⟨none, _, _, _, _, _⟩ :: _) _ _); refine wpList_store_arr rfl _ (.tmp 2) (.tmp 46) rfl g2 rfl .u8 _ _ p rfl A2f 32 size_o HX HP ?_; intro w14 A14 o14 s14)
            | fail)
          rw [← HPe.out]
          refine bodyPost_ret (v := .agg (p.map (Value.int .u8)).toArray) ?_ rfl ⟨rfl, Bf.out.trans (o14.out.below (by omega))⟩
          exact results_cell_row rfl _ _ g2 _ _ (0, 0) _ rfl A14.out Tryd.underlying24 rfl (by rw [size_o]; have := HP.out; simp [this])
end Go.Proofs.YtomdgiikjnghcaaDoor
