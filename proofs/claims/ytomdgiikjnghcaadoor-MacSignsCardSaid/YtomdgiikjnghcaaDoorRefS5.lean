/-
  Contract of the document's layer 3 (refectoryref03): Sum.
-/
import Derived.Test.YtomdgiikjnghcaaDoorShaG
import Derived.Test.YtomdgiikjnghcaaDoorRefS3
import Derived.Test.YtomdgiikjnghcaaDoorRefS4
namespace Go.Proofs.YtomdgiikjnghcaaDoor
open Go.RowKit

theorem zero_b : (Tryd.prog.info? 44).map (fun i => (i.zero, i.size)) = some (some (.agg ((List.replicate 64 (0 : Int)).map (Value.int .u8)).toArray), 64) := by kernel_rfl
theorem zero_o : (Tryd.prog.info? 24).map (fun i => (i.zero, i.size)) = some (some (.agg ((List.replicate 32 (0 : Int)).map (Value.int .u8)).toArray), 32) := by kernel_rfl

/-- a block that is filled byte by byte, behind k of them -/
def copyRow (bl : List Int) (k : Nat) : List Int := bl.take k ++ List.replicate (64 - k) 0
theorem copyRow_len (bl : List Int) (h : bl.length = 64) (k : Nat) (hk : k ≤ 64) : (copyRow bl k).length = 64 := by simp [copyRow, h]; omega
theorem copyRow_zero (bl : List Int) : copyRow bl 0 = List.replicate 64 0 := by simp [copyRow]
theorem copyRow_full (bl : List Int) (h : bl.length = 64) : copyRow bl 64 = bl := by
  unfold copyRow
  rw [List.take_of_length_le (by omega)]
  simp
theorem copyRow_set (bl : List Int) (h : bl.length = 64) (k : Nat) (hk : k < 64) : (copyRow bl k).set k (bl.getD k 0) = copyRow bl (k + 1) := by
  have hl : k < bl.length := by omega
  unfold copyRow
  rw [fill_set _ _ _ _ (by simp; omega) (by omega), List.take_succ_eq_append_getElem hl, show 64 - k - 1 = 64 - (k + 1) by omega]
  congr 2
  simp [hl]
theorem outRow_set4 (st : List Int) (i k : Nat) (hi : i < 8) (hk : k < 4) : (outRow st (4 * i + k)).set (4 * i + k) (st.getD i 0 / 2 ^ (24 - 8 * k) % 256) = outRow st (4 * i + k + 1) := by
  have h := outRow_set st (4 * i + k) (by omega)
  rwa [show (4 * i + k) / 4 = i by omega, show (4 * i + k) % 4 = k by omega] at h

set_option maxRecDepth 100000 in
set_option maxHeartbeats 4000000 in
theorem RSum_any (w : World) (A : Option Addr) (n c : Nat) (xs : List Int) (hn : n ≤ 140737488355200) (h : Holds w w.heap.size A n c xs) :
    Calls Tryd.prog 26 #[.slice A n c] w
      fun e w' => e = .returned (.agg ((sumOf xs).map (Value.int .u8)).toArray) ∧ Below w.heap.size w w' := by
  have HL := Lib.hid h.len
  have hfit := h.fit
  have hby := h.byte
  obtain ⟨X, hX⟩ : ∃ Z : List Int, Z = List.replicate 32 0 := ⟨_, rfl⟩
  have HX := len0 32
  have hx1 := zero_o
  rw [← hX] at HX hx1
  obtain ⟨Z, hZ⟩ : ∃ Z : List Int, Z = List.replicate 64 0 := ⟨_, rfl⟩
  have HZ := len0 64
  have hz1 := zero_b
  rw [← hZ] at HZ hz1
  obtain ⟨Y, hY⟩ : ∃ Z : List Int, Z = List.replicate 8 0 := ⟨_, rfl⟩
  have HY := len0 8
  have hy1 := zero_s
  rw [← hY] at HY hy1
  have HX1 := Lib.hid hx1
  have HZ1 := Lib.hid hz1
  have HY1 := Lib.hid hy1
  have HXe := Lib.hid hX
  have HZe := Lib.hid hZ
  have hal := allOf_len xs (by rw [HL.out]; omega)
  have hall := allOf_bytes xs hby
  have hbl := behindOf_len xs.length (by rw [HL.out]; omega)
  have hnl := noughts_lt xs.length
  have heb := behindOf_bytes xs.length
  have cb := fun w => Lib.hid (RBegin_any w)
  have cbh := fun w => RBehind_any w (xs.length : Int) (by have := HL.out; omega)
  have hae : allOf xs = xs ++ behindOf (xs.length : Int) := rfl
  obtain ⟨E, hE⟩ : ∃ E, E = behindOf (xs.length : Int) := ⟨_, rfl⟩
  rw [← hE] at cbh hbl heb hae
  rw [HL.out] at cbh
  have CBH := fun w => Lib.hid (cbh w)
  obtain ⟨L, hL⟩ : ∃ L, L = E.length := ⟨_, rfl⟩
  rw [← hL] at hbl
  have hLb : L ≤ 72 := by omega
  have HEL := Lib.hid hL
  obtain ⟨all, hall0⟩ : ∃ all, all = allOf xs := ⟨_, rfl⟩
  have hso : stateOf xs = blocksS H0 all (all.length / 64) := by rw [hall0]; rfl
  rw [← hall0] at hal hall hae
  obtain ⟨N, hN⟩ : ∃ N, N = all.length := ⟨_, rfl⟩
  rw [← hN] at hal hso
  have hN1 : N = n + L := by rw [hN, hae, List.length_append, HL.out, hL]
  obtain ⟨q, hq⟩ : ∃ q, q = N / 64 := ⟨_, rfl⟩
  rw [← hq] at hso
  have hNq : N = 64 * q := by omega
  have hNb : N ≤ 140737488355328 := by omega
  have HNq := Lib.hid hNq
  have HNl := Lib.hid hN
  have HAE := Lib.hid hae
  have HSO := Lib.hid hso
  have cp := fun w s b h1 h2 h3 h4 => Lib.hid (RPress_any w s b h1 h2 h3 h4)
  have hun : IntKind.u64.wrap (n : Int) = (n : Int) := by rw [IntKind.wrap_u64]; omega
  clear hX hx1 hZ hz1 hY hy1 hal hnl hE cbh hL hall0 hN hN1 hq hNq hae hso hbl
  go_enter Tryd.func26, Tryd.ntmps26
  go_wp2_with (first
    | ((with_reducible show wpList _ _ _ (⟨some 2, _, _, _, _, _⟩ :: _) _ _); refine wpList_alloc_arr rfl _ rfl .u8 X 32 HX1 ?_; intro g2 w2 e2 s2 A2 b2; have hb2 := b2.out.size)
    | (at_builtin; refine wpList_append_bytes rfl (.tmp 12) (.tmp 13) rfl w2.heap.size _ [] rfl (Own.nil _ _) w.heap.size A n c xs rfl (h.below b2.out) (by rw [HL.out]; simp; omega) (Nat.le_refl _) ?_; intro v3 w3 o3 b3 gr3)
    | fail)
  rw [List.nil_append] at o3
  refine (CBH _).out.mono ?_
  rintro e w4 ⟨v4, rfl, o4, b4⟩
  obtain ⟨A4, c4, rfl, h4⟩ := o4.holds heb (by rw [← HEL.out]; omega)
  rw [← HEL.out] at h4 ⊢
  have H4 := Lib.hid h4
  have O3 := Lib.hid (o3.out.below b4)
  have hs3 := b3.size
  have hs4 := b4.size
  have s24 : w2.heap.size ≤ w4.heap.size := by omega
  have B4 : Hid (Below w.heap.size w w4) := step (step b2.out b3) b4
  have A24 : Hid (Arr w4 g2 .u8 24 X) := (A2.out.over b3).over b4
  clear o3 o4 h4 b3 b4 gr3 hs3 hs4 A2 b2 hb2
  go_wp2_with (first
    | (at_builtin; refine wpList_append_bytes rfl (.tmp 19) (.tmp 20) rfl w2.heap.size _ xs rfl O3.out _ A4 L c4 E rfl H4.out (by rw [HL.out, ← HEL.out]; omega) s24 ?_; intro v5 w5 o5 b5 _)
    | fail)
  rw [← HAE.out] at o5
  refine (cb _).out.mono ?_
  rintro e w6 ⟨rfl, b6⟩
  obtain ⟨Av, cv, rfl, hv⟩ := (o5.out.below b6).holds hall (by rw [← HNl.out]; omega)
  rw [← HNl.out] at hv ⊢
  have HV := Lib.hid hv
  have B6 : Hid (Below w.heap.size w w6) := step (B4.out.trans (b5.mono (by omega))) b6
  have A26 : Hid (Arr w6 g2 .u8 24 X) := (A24.out.below b5 (by omega)).over b6
  clear hv o5 b5 b6 A24 B4 O3 H4
  go_wp2_with (first
    | ((with_reducible show wpList _ _ _ (⟨some 5, _, _, _, _, _⟩ :: _) _ _); refine wpList_alloc_arr rfl _ rfl .u32 Y 8 HY1 ?_; intro g5 w7 e7 s7 A7 b7)
    | ((with_reducible show wpList _ _ _ (⟨none, _, _, _, _, _⟩ :: _) _ _); refine wpList_store_arr rfl _ (.tmp 5) (.tmp 22) rfl g5 rfl .u32 _ _ H0 rfl A7 8 size_s HY rfl ?_; intro w8 A8 o8 s8)
    | fail)
  have hs6 := B6.out.size
  have l25 : g2 < g5 := by have := A26.out.lt; omega
  have lw5 : w.heap.size ≤ g5 := by omega
  have A28 : Hid (Arr w8 g2 .u8 24 X) := (A26.out.over b7.out).only o8.out (by omega)
  have B8 : Hid (Below w.heap.size w w8) := (B6.out.trans (b7.out.mono hs6)).trans (o8.out.below lw5)
  have V8 : Hid (Holds w8 g5 Av N cv all) := ((HV.out.below b7.out).mono e7).below (o8.out.below (Nat.le_refl _))
  clear HV B6 A26 A7 b7 o8 s7 e7 hs6
  go_loopw [6] (fun i wr => ∃ m : Nat, m ≤ q ∧ i = .int .i64 ((64 * m : Nat) : Int) ∧ Hid (Arr wr g5 .u32 55 (blocksS H0 all m)) ∧ Hid (Below g5 w8 wr)) (fun i _ => N - (intOf i).toNat)
  case atStart => exact ⟨0, by omega, rfl, A8, Below.refl _ _⟩
  case round =>
    obtain ⟨m, hm, rfl, hR, hB⟩ := hrel
    by_cases hlt : m < q
    · have hVr : Holds wr g5 Av N cv all := V8.out.below hB.out
      have hlN : 64 * m + 64 ≤ N := by have := HNq.out; omega
      obtain ⟨b, off, rfl, hb, hc⟩ := hVr.cells (by omega)
      obtain ⟨k0, hk0⟩ : ∃ k0, k0 = 64 * m := ⟨_, rfl⟩
      have hlb : Hid (((all.drop (64 * m)).take 64).length = 64) := by
        show _ = _
        rw [List.length_take, List.length_drop, ← HNl.out]
        omega
      have hbb := (hall.drop (64 * m)).take 64
      have hcb : Hid (∀ i, i < 64 → wr.cell? ⟨b, off + (k0 + i), none⟩ = some (.int .u8 (((all.drop (64 * m)).take 64).getD i 0))) := fun i hi => by
        have e : ((all.drop (64 * m)).take 64).getD i 0 = all.getD (64 * m + i) 0 := by
          simp [List.getD_eq_getElem?_getD, List.getElem?_drop, hi]
        rw [e, hk0, ← hc (64 * m + i) (by omega)]
      have hst : pressOf (blocksS H0 all m) ((all.drop (64 * m)).take 64) = blocksS H0 all (m + 1) := rfl
      have hsl := Lib.hid (blocksS_len H0_len all m)
      have hsw := blocksS_w H0_w all m
      have hslN := Lib.hid (blocksS_len H0_len all (m + 1))
      obtain ⟨bl, hble⟩ : ∃ bl, bl = (all.drop (64 * m)).take 64 := ⟨_, rfl⟩
      obtain ⟨s1, hs1⟩ : ∃ s1, s1 = blocksS H0 all m := ⟨_, rfl⟩
      obtain ⟨s2', hs2⟩ : ∃ s2, s2 = blocksS H0 all (m + 1) := ⟨_, rfl⟩
      rw [← hble] at hlb hbb hcb hst
      rw [← hs1] at hR hsl hsw hst
      rw [← hs2] at hslN hst
      have cp1 := fun w => cp w s1 bl hsl.out hsw hlb.out hbb
      rw [hst] at cp1
      have HS2 := Lib.hid hs2
      have HKm := Lib.hid hk0
      rw [← hk0] at hlN ⊢
      have hbl : b < g5 := hb
      clear hc hble hs1 hs2 hst hk0 hVr hb
      go_wp2_with (first
        | ((with_reducible show wpList _ _ _ (⟨some 7, _, _, _, _, _⟩ :: _) _ _); refine wpList_alloc_arr rfl _ rfl .u8 Z 64 HZ1 ?_; intro g7 w9 e9 s9 A9 b9)
        | fail)
      have hsr := hR.out.lt
      have l57 : g5 < g7 := by omega
      have hcb9 : Hid (∀ i, i < 64 → w9.cell? ⟨b, off + (k0 + i), none⟩ = some (.int .u8 (bl.getD i 0))) := fun i hi => by
        rw [← hcb.out i hi]
        exact b9.out.cell (p := ⟨b, off + (k0 + i), none⟩) (show b < wr.heap.size by omega)
      have R9 : Hid (Arr w9 g5 .u32 55 s1) := hR.out.over b9.out
      have B9 : Hid (Below g5 w8 w9) := hB.out.trans (b9.out.mono (by omega))
      clear hcb hR hB b9 e9 s9
      go_loopw [8] (fun j wr => ∃ k : Nat, k ≤ 64 ∧ j = .int .i64 k ∧ Hid (Arr wr g7 .u8 44 (copyRow bl k)) ∧ Hid (Only g7 w9 wr)) (fun j _ => 64 - (intOf j).toNat)
      case atStart => exact ⟨0, by omega, rfl, by rw [copyRow_zero, ← HZe.out]; exact A9, Only.refl _ _⟩
      case round =>
        obtain ⟨k, hk, rfl, hR7, hO⟩ := hrel
        by_cases hlt2 : k < 64
        · have gb : wr.cell? ⟨b, off + (k0 + k), none⟩ = some (.int .u8 (bl.getD k 0)) := by
            rw [← hcb9.out k hlt2]
            exact (hO.out.below (Nat.le_refl _)).cell (p := ⟨b, off + (k0 + k), none⟩) (show b < g7 by omega)
          have hS := hR7.out.set k (bl.getD k 0)
          rw [copyRow_set bl hlb.out k hlt2] at hS
          have hbk := hbb.getD k
          obtain ⟨y, hy⟩ : ∃ y, y = bl.getD k 0 := ⟨_, rfl⟩
          rw [← hy] at gb hS hbk
          have gd := hR7.out.cell (i := k) (by rw [copyRow_len bl hlb.out k hk]; exact hlt2)
          obtain ⟨old, hold⟩ : ∃ old, old = (copyRow bl k).getD k 0 := ⟨_, rfl⟩
          rw [← hold] at gd
          have gf := hR7.out.frozen k
          have hSh := Lib.hid hS
          obtain ⟨hbk0, hbk1⟩ := hbk
          have hkN : (k0 : Int) + (k : Int) < (N : Int) := by omega
          clear hy hold hS hR7
          go_wp2_with fail
          go_roundw
          case rel => exact ⟨k + 1, by omega, by go_num, hSh, hO.out.setCell _ _⟩
          case measure => simp [intOf]; omega
        · have hge : (64 : Int) ≤ (k : Int) := by omega
          have hF : Hid (Arr wr g7 .u8 44 bl) := by
            have h0 := hR7.out
            rwa [show k = 64 by omega, copyRow_full bl hlb.out] at h0
          have Rr : Hid (Arr wr g5 .u32 55 s1) := R9.out.only hO.out (by omega)
          have Br : Hid (Below g5 w8 wr) := B9.out.trans (hO.out.below (by omega))
          obtain ⟨wz, hwz⟩ : ∃ wz, wz = wr := ⟨_, rfl⟩
          rw [← hwz] at hF Rr Br ⊢
          clear hR7 hO R9 B9 hcb9 hwz
          go_wp2_with (first
            | ((with_reducible show wpList _ _ _ (⟨some 41, _, _, _, _, _⟩ :: _) _ _); refine wpList_load_arr rfl _ (.tmp 5) rfl g5 rfl .u32 _ s1 Rr 8 _ Tryd.underlying55 size_s hsl ?_)
            | ((with_reducible show wpList _ _ _ (⟨some 42, _, _, _, _, _⟩ :: _) _ _); refine wpList_load_arr rfl _ (.tmp 7) rfl g7 rfl .u8 _ bl hF 64 _ Tryd.underlying44 size_b hlb ?_)
            | fail)
          refine (cp1 _).out.mono ?_
          rintro e w10 ⟨rfl, b10⟩
          have hsz := Rr.out.lt
          have R10 : Hid (Arr w10 g5 .u32 55 s1) := Rr.out.over b10
          have B10 : Hid (Below g5 w8 w10) := Br.out.trans (b10.mono (by omega))
          clear b10 Rr Br hsz
          go_wp2_with (first
            | ((with_reducible show wpList _ _ _ (⟨none, _, _, _, _, _⟩ :: _) _ _); refine wpList_store_arr rfl _ (.tmp 5) (.tmp 43) rfl g5 rfl .u32 _ _ s2' rfl R10 8 size_s hsl hslN ?_; intro w11 A11 o11 s11)
            | fail)
          go_roundw
          case rel => exact ⟨m + 1, by omega, by rw [show 64 * (m + 1) = k0 + 64 by have := HKm.out; omega]; go_num, by rw [← HS2.out]; exact A11, B10.out.trans (o11.out.below (Nat.le_refl _))⟩
          case measure => have := HKm.out; simp [intOf]; omega
    · have hge : (N : Int) ≤ ((64 * m : Nat) : Int) := by have := HNq.out; omega
      have hF : Hid (Arr wr g5 .u32 55 (stateOf xs)) := by
        have h0 := hR.out
        rwa [show m = q by omega, ← HSO.out] at h0
      have hls := Lib.hid (stateOf_len xs)
      have hsow := stateOf_w xs
      have hsum : sumOf xs = outOf (stateOf xs) := rfl
      obtain ⟨so, hso⟩ : ∃ so, so = stateOf xs := ⟨_, rfl⟩
      rw [← hso] at hF hls hsow hsum
      have HSUM := Lib.hid hsum
      have A2r : Hid (Arr wr g2 .u8 24 X) := A28.out.below hB.out l25
      have Br : Hid (Below w.heap.size w wr) := B8.out.trans (hB.out.mono lw5)
      obtain ⟨k0, hk0⟩ : ∃ k0, k0 = 64 * m := ⟨_, rfl⟩
      rw [← hk0] at hge ⊢
      clear hso hsum hR hB hk0 V8 A28 B8 A8 hlt
      go_wp2_with (first
        | ((with_reducible show wpList _ _ _ (⟨some 9, _, _, _, _, _⟩ :: _) _ _); refine wpList_alloc_arr rfl _ rfl .u8 X 32 HX1 ?_; intro g9 w9 e9 s9 A9 b9)
        | fail)
      have hs5 := hF.out.lt
      have hs2' := A2r.out.lt
      have l59 : g5 < g9 := by omega
      have l29 : g2 < g9 := by omega
      have lw9 : w.heap.size ≤ g9 := by omega
      have F9 : Hid (Arr w9 g5 .u32 55 so) := hF.out.over b9.out
      have A29 : Hid (Arr w9 g2 .u8 24 X) := A2r.out.over b9.out
      have B9 : Hid (Below w.heap.size w w9) := step Br.out b9.out
      clear hF A2r Br b9 e9 hs5 hs2'
      go_loopw [10] (fun i wr => ∃ k : Nat, k ≤ 8 ∧ i = .int .i64 k ∧ Hid (Arr wr g9 .u8 24 (outRow so (4 * k))) ∧ Hid (Only g9 w9 wr)) (fun i _ => 8 - (intOf i).toNat)
      case atStart => exact ⟨0, by omega, rfl, by rw [Nat.mul_zero, outRow_zero, ← HXe.out]; exact A9, Only.refl _ _⟩
      case round =>
        obtain ⟨i, hi, rfl, hR9, hO9⟩ := hrel
        by_cases hlt3 : i < 8
        · obtain ⟨wo, hwo⟩ : ∃ wo, wo = wr := ⟨_, rfl⟩
          rw [← hwo] at hR9 hO9 ⊢
          clear hwo
          have hi0 : (0 : Int) ≤ (i : Int) := by omega
          have hi1 : (i : Int) < 8 := by omega
          have hbi := hsow.getD i
          go_wp2_with fail
          go_loopw [11] (fun j wr => ∃ k : Nat, k ≤ 4 ∧ j = .int .i64 k ∧ Hid (Arr wr g9 .u8 24 (outRow so (4 * i + k))) ∧ Hid (Only g9 w9 wr)) (fun j _ => 4 - (intOf j).toNat)
          case atStart => exact ⟨0, by omega, rfl, hR9, hO9⟩
          case round =>
            obtain ⟨k, hk, rfl, hR, hO⟩ := hrel
            by_cases hlt4 : k < 4
            · have gc := (F9.out.only hO.out (by omega)).cell (i := i) (by rw [hls.out]; omega)
              have hS := hR.out.set (4 * i + k) (so.getD i 0 / 2 ^ (24 - 8 * k) % 256)
              rw [outRow_set4 so i k hlt3 hlt4] at hS
              obtain ⟨y, hy⟩ : ∃ y, y = so.getD i 0 := ⟨_, rfl⟩
              rw [← hy] at gc hS
              have hb := hbi
              rw [← hy] at hb
              have gd := hR.out.cell (i := 4 * i + k) (by rw [outRow_len so _ (by omega)]; omega)
              obtain ⟨old, hold⟩ : ∃ old, old = (outRow so (4 * i + k)).getD (4 * i + k) 0 := ⟨_, rfl⟩
              rw [← hold] at gd
              have gf := hR.out.frozen (4 * i + k)
              have en : (24 - 8 * (k : Int)).toNat = 24 - 8 * k := by omega
              have hSh := Lib.hid hS
              obtain ⟨hb0, hb1⟩ := hb
              have hk4 : (k : Int) < 4 := by omega
              clear hy hold hS hR
              go_wp2_with fail
              go_roundw
              case rel => exact ⟨k + 1, by omega, by go_num, hSh, hO.out.setCell _ _⟩
              case measure => simp [intOf]; omega
            · have hge2 : (4 : Int) ≤ (k : Int) := by omega
              have hF : Hid (Arr wr g9 .u8 24 (outRow so (4 * (i + 1)))) := by
                have h0 := hR.out
                rwa [show 4 * i + k = 4 * (i + 1) by omega] at h0
              clear hR
              go_wp2_with fail
              go_roundw
              case rel => exact ⟨i + 1, by omega, by go_num, hF, hO⟩
              case measure => simp [intOf]; omega
        · have hge3 : (8 : Int) ≤ (i : Int) := by omega
          have hF : Hid (Arr wr g9 .u8 24 (sumOf xs)) := by
            have h0 := hR9.out
            rw [show 4 * i = 32 by omega, outRow_full, ← HSUM.out] at h0
            exact h0
          have A2f := Lib.hid (A29.out.only hO9.out (by omega))
          have Bf : Hid (Below w.heap.size w wr) := B9.out.trans (hO9.out.below lw9)
          have HP : Hid ((sumOf xs).length = 32) := outOf_len _
          obtain ⟨p, hp⟩ : ∃ p, p = sumOf xs := ⟨_, rfl⟩
          rw [← hp] at hF HP
          have HPe := Lib.hid hp
          clear hR9 hO9 hp
          go_wp2_with (first
            | ((with_reducible show wpList _ _ _ (⟨some 66, _, _, _, _, _⟩ :: _) _ _); refine wpList_load_arr rfl _ (.tmp 9) rfl g9 rfl .u8 _ p hF 32 _ Tryd.underlying24 size_o HP ?_)
            | ((with_reducible show wpList _ _ _ (⟨none, _, _, _, _, _⟩ :: _) _ _); refine wpList_store_arr rfl _ (.tmp 2) (.tmp 66) rfl g2 rfl .u8 _ _ p rfl A2f 32 size_o HX HP ?_; intro w14 A14 o14 s14)
            | fail)
          rw [← HPe.out]
          refine bodyPost_ret (v := .agg (p.map (Value.int .u8)).toArray) ?_ rfl ⟨rfl, Bf.out.trans (o14.out.below (by omega))⟩
          exact results_cell_row rfl _ _ g2 _ _ (0, 0) _ rfl A14.out Tryd.underlying24 rfl (by rw [size_o]; have := HP.out; simp [this])
end Go.Proofs.YtomdgiikjnghcaaDoor
