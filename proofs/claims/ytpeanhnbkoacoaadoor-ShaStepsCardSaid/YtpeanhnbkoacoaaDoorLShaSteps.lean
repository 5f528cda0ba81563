/-
  The walk of the statement ShaSteps: the sum is what pressing block by block comes to, of the bytes and what stands behind them.
-/
import Derived.Test.YtpeanhnbkoacoaaDoorWorksS
import Derived.Test.YtpeanhnbkoacoaaDoorRefS5
import Derived.Test.YtpeanhnbkoacoaaDoorOpen
namespace Go.Proofs.YtpeanhnbkoacoaaDoor
open Go.RowKit
set_option linter.unusedVariables false

set_option maxRecDepth 100000 in
set_option maxHeartbeats 4000000 in
theorem walk_ShaSteps (W : World) (hT : KTab W) (A0 : Option Addr) (n0 c0 : Nat) (z0 : List Int) (l0 : n0 ≤ c0) (r0 : c0 ≤ 140737488351232) (h0 : Holds W W.heap.size A0 c0 c0 z0) :
    Calls Tryd.prog 6 #[.slice A0 n0 c0] W fun e W' => e = .returned (.bool true) ∧ Below W.heap.size W W' := by
  have h1 := h0.head l0
  obtain ⟨xs, hxs⟩ : ∃ xs, xs = z0.take n0 := ⟨_, rfl⟩
  rw [← hxs] at h1
  obtain ⟨w, hw⟩ : ∃ w, w = W := ⟨_, rfl⟩
  obtain ⟨A, hA⟩ : ∃ A, A = A0 := ⟨_, rfl⟩
  obtain ⟨n, hn0⟩ : ∃ n, n = n0 := ⟨_, rfl⟩
  obtain ⟨c, hc0⟩ : ∃ c, c = c0 := ⟨_, rfl⟩
  have h : Holds w w.heap.size A n c xs := by rw [hw, hA, hn0, hc0]; exact h1
  have hn : n ≤ 140737488355200 := by omega
  rw [← hw] at hT
  rw [← hw, ← hA, ← hn0, ← hc0]
  have HT := Lib.hid hT
  clear hxs h0 h1 hw hA hn0 hc0 l0 r0 hT
  have HL := Lib.hid h.len
  have hfit := h.fit
  have hby := h.byte
  obtain ⟨X, hX⟩ : ∃ Z : List Int, Z = List.replicate 32 0 := ⟨_, rfl⟩
  have HX := len0 32
  have hx1 := zero_o
  rw [← hX] at HX hx1
  obtain ⟨Z, hZ⟩ : ∃ Z : List Int, Z = List.replicate 64 0 := ⟨_, rfl⟩
  have HZ := len0 64
  have hz1 := zero_b
  rw [← hZ] at HZ hz1
  obtain ⟨Y, hY⟩ : ∃ Z : List Int, Z = List.replicate 8 0 := ⟨_, rfl⟩
  have HY := len0 8
  have hy1 := zero_s
  rw [← hY] at HY hy1
  have HX1 := Lib.hid hx1
  have HZ1 := Lib.hid hz1
  have HY1 := Lib.hid hy1
  have HXe := Lib.hid hX
  have HZe := Lib.hid hZ
  have hal := allOf_len xs (by rw [HL.out]; omega)
  have hall := allOf_bytes xs hby
  have hbl := behindOf_len xs.length (by rw [HL.out]; omega)
  have hnl := noughts_lt xs.length
  have heb := behindOf_bytes xs.length
  have cb := fun w => Lib.hid (Begin_any w)
  have cbh := fun w => Behind_any w (xs.length : Int) (by have := HL.out; omega)
  have hae : allOf xs = xs ++ behindOf (xs.length : Int) := rfl
  unfold BehPost at cbh
  obtain ⟨E, hE⟩ : ∃ E, E = behindOf (xs.length : Int) := ⟨_, rfl⟩
  rw [← hE] at cbh hbl heb hae
  rw [HL.out] at cbh
  obtain ⟨L, hL⟩ : ∃ L, L = E.length := ⟨_, rfl⟩
  rw [← hL] at hbl cbh
  have CBH := fun w => Lib.hid (cbh w)
  have hLb : L ≤ 72 := by omega
  have HEL := Lib.hid hL
  obtain ⟨all, hall0⟩ : ∃ all, all = allOf xs := ⟨_, rfl⟩
  have hso : stateOf xs = blocksS H0 all (all.length / 64) := by rw [hall0]; rfl
  rw [← hall0] at hal hall hae
  obtain ⟨N, hN⟩ : ∃ N, N = all.length := ⟨_, rfl⟩
  rw [← hN] at hal hso
  have hN1 : N = n + L := by rw [hN, hae, List.length_append, HL.out, hL]
  obtain ⟨q, hq⟩ : ∃ q, q = N / 64 := ⟨_, rfl⟩
  rw [← hq] at hso
  have hNq : N = 64 * q := by omega
  have hNb : N ≤ 140737488355328 := by omega
  have HNq := Lib.hid hNq
  have HNl := Lib.hid hN
  have HAE := Lib.hid hae
  have HSO := Lib.hid hso
  have cp := fun w s b h1 h2 h3 h4 h5 => Lib.hid (Press_any w s b h1 h2 h3 h4 h5)
  have hun : IntKind.u64.wrap (n : Int) = (n : Int) := by rw [IntKind.wrap_u64]; omega
  have hN64 : (N : Int) % 64 = 0 := by omega
  clear hX hx1 hZ hz1 hY hy1 hal hnl hE cbh hL hall0 hN hN1 hq hNq hae hso hbl
  go_enter Tryd.func6, Tryd.ntmps6
  go_wp2_with (first
    | (at_builtin; refine wpList_append_bytes rfl (.tmp 11) (.tmp 12) rfl w.heap.size _ [] rfl (Own.nil _ _) w.heap.size A n c xs rfl h (by rw [HL.out]; simp; omega) (Nat.le_refl _) ?_; intro v3 w3 o3 b3 gr3)
    | fail)
  rw [List.nil_append] at o3
  refine (CBH _).out.mono ?_
  rintro e w4 ⟨A4, rfl, f4, b4⟩
  have H4 := Lib.hid (f4.holds HEL.out.symm heb (by omega))
  have O3 := Lib.hid (o3.out.below b4)
  have hs3 := b3.size
  have hs4 := b4.size
  have s24 : w.heap.size ≤ w4.heap.size := by omega
  have B4 : Hid (Below w.heap.size w w4) := step b3 b4
  clear o3 f4 b3 b4 gr3 hs3 hs4
  go_wp2_with (first
    | (at_builtin; refine wpList_append_bytes rfl (.tmp 18) (.tmp 19) rfl w.heap.size _ xs rfl O3.out _ A4 L L E rfl H4.out (by rw [HL.out, ← HEL.out]; omega) s24 ?_; intro v5 w5 o5 b5 _; rw [← HAE.out] at o5; obtain ⟨Av, cv, rfl, hv⟩ := o5.out.holds hall (by rw [← HNl.out]; omega); rw [← HNl.out] at hv ⊢; have HV := Lib.hid hv; have B5 : Hid (Below w.heap.size w w5) := B4.out.trans b5; clear hv o5 b5)
    | fail)
  refine (cb _).out.mono ?_
  rintro e w6 ⟨rfl, b6⟩
  have HV6 := Lib.hid (HV.out.over b6)
  have B6 : Hid (Below w.heap.size w w6) := step B5.out b6
  clear HV B5 b6 B4 O3 H4
  go_wp2_with (first
    | ((with_reducible show wpList _ _ _ (⟨some 5, _, _, _, _, _⟩ :: _) _ _); refine wpList_alloc_arr rfl _ rfl .u32 Y 8 HY1 ?_; intro g5 w7 e7 s7 A7 b7)
    | ((with_reducible show wpList _ _ _ (⟨none, _, _, _, _, _⟩ :: _) _ _); refine wpList_store_arr rfl _ (.tmp 5) (.tmp 25) rfl g5 rfl .u32 _ _ H0 rfl A7 8 size_s HY rfl ?_; intro w8 A8 o8 s8)
    | fail)
  have hs6 := B6.out.size
  have lw5 : w.heap.size ≤ g5 := by omega
  have B8 : Hid (Below w.heap.size w w8) := (B6.out.trans (b7.out.mono hs6)).trans (o8.out.below lw5)
  have V8 : Hid (Holds w8 g5 Av N cv all) := ((HV6.out.below b7.out).mono e7).below (o8.out.below (Nat.le_refl _))
  clear HV6 B6 A7 b7 o8 s7 e7 hs6
  go_loopw [6] (fun i wr => ∃ m : Nat, m ≤ q ∧ i = .int .i64 ((64 * m : Nat) : Int) ∧ Hid (Arr wr g5 .u32 23 (blocksS H0 all m)) ∧ Hid (Below g5 w8 wr)) (fun i _ => N - (intOf i).toNat)
  case atStart => exact ⟨0, by omega, rfl, A8, Below.refl _ _⟩
  case round =>
    obtain ⟨m, hm, rfl, hR, hB⟩ := hrel
    by_cases hlt : m < q
    · have hVr : Holds wr g5 Av N cv all := V8.out.below hB.out
      have hlN : 64 * m + 64 ≤ N := by have := HNq.out; omega
      obtain ⟨b, off, rfl, hb, hc⟩ := hVr.cells (by omega)
      obtain ⟨k0, hk0⟩ : ∃ k0, k0 = 64 * m := ⟨_, rfl⟩
      have hlb : Hid (((all.drop (64 * m)).take 64).length = 64) := by
        show _ = _
        rw [List.length_take, List.length_drop, ← HNl.out]
        omega
      have hbb := (hall.drop (64 * m)).take 64
      have hcb : Hid (∀ i, i < 64 → wr.cell? ⟨b, off + (k0 + i), none⟩ = some (.int .u8 (((all.drop (64 * m)).take 64).getD i 0))) := fun i hi => by
        have e : ((all.drop (64 * m)).take 64).getD i 0 = all.getD (64 * m + i) 0 := by
          simp [List.getD_eq_getElem?_getD, List.getElem?_drop, hi]
        rw [e, hk0, ← hc (64 * m + i) (by omega)]
      have hst : pressOf (blocksS H0 all m) ((all.drop (64 * m)).take 64) = blocksS H0 all (m + 1) := rfl
      have hsl := Lib.hid (blocksS_len H0_len all m)
      have hsw := blocksS_w H0_w all m
      have hslN := Lib.hid (blocksS_len H0_len all (m + 1))
      obtain ⟨bl, hble⟩ : ∃ bl, bl = (all.drop (64 * m)).take 64 := ⟨_, rfl⟩
      obtain ⟨s1, hs1⟩ : ∃ s1, s1 = blocksS H0 all m := ⟨_, rfl⟩
      obtain ⟨s2', hs2⟩ : ∃ s2, s2 = blocksS H0 all (m + 1) := ⟨_, rfl⟩
      rw [← hble] at hlb hbb hcb hst
      rw [← hs1] at hR hsl hsw hst
      rw [← hs2] at hslN hst
      have cp1 := fun w hK => cp w s1 bl hsl.out hsw hlb.out hbb hK
      rw [hst] at cp1
      have HS2 := Lib.hid hs2
      have HKm := Lib.hid hk0
      rw [← hk0] at hlN ⊢
      have hbl : b < g5 := hb
      clear hc hble hs1 hs2 hst hk0 hVr hb
      go_wp2_with (first
        | ((with_reducible show wpList _ _ _ (⟨some 7, _, _, _, _, _⟩ :: _) _ _); refine wpList_alloc_arr rfl _ rfl .u8 Z 64 HZ1 ?_; intro g7 w9 e9 s9 A9 b9)
        | fail)
      have hsr := hR.out.lt
      have l57 : g5 < g7 := by omega
      have hcb9 : Hid (∀ i, i < 64 → w9.cell? ⟨b, off + (k0 + i), none⟩ = some (.int .u8 (bl.getD i 0))) := fun i hi => by
        rw [← hcb.out i hi]
        exact b9.out.cell (p := ⟨b, off + (k0 + i), none⟩) (show b < wr.heap.size by omega)
      have R9 : Hid (Arr w9 g5 .u32 23 s1) := hR.out.over b9.out
      have B9 : Hid (Below g5 w8 w9) := hB.out.trans (b9.out.mono (by omega))
      clear hcb hR hB b9 e9 s9
      go_loopw [8] (fun j wr => ∃ k : Nat, k ≤ 64 ∧ j = .int .i64 k ∧ Hid (Arr wr g7 .u8 24 (copyRow bl k)) ∧ Hid (Only g7 w9 wr)) (fun j _ => 64 - (intOf j).toNat)
      case atStart => exact ⟨0, by omega, rfl, by rw [copyRow_zero, ← HZe.out]; exact A9, Only.refl _ _⟩
      case round =>
        obtain ⟨k, hk, rfl, hR7, hO⟩ := hrel
        by_cases hlt2 : k < 64
        · have gb : wr.cell? ⟨b, off + (k0 + k), none⟩ = some (.int .u8 (bl.getD k 0)) := by
            rw [← hcb9.out k hlt2]
            exact (hO.out.below (Nat.le_refl _)).cell (p := ⟨b, off + (k0 + k), none⟩) (show b < g7 by omega)
          have hS := hR7.out.set k (bl.getD k 0)
          rw [copyRow_set bl hlb.out k hlt2] at hS
          have hbk := hbb.getD k
          obtain ⟨y, hy⟩ : ∃ y, y = bl.getD k 0 := ⟨_, rfl⟩
          rw [← hy] at gb hS hbk
          have gd := hR7.out.cell (i := k) (by rw [copyRow_len bl hlb.out k hk]; exact hlt2)
          obtain ⟨old, hold⟩ : ∃ old, old = (copyRow bl k).getD k 0 := ⟨_, rfl⟩
          rw [← hold] at gd
          have gf := hR7.out.frozen k
          have hSh := Lib.hid hS
          obtain ⟨hbk0, hbk1⟩ := hbk
          have hkN : (k0 : Int) + (k : Int) < (N : Int) := by omega
          clear hy hold hS hR7
          go_wp2_with fail
          go_roundw
          case rel => exact ⟨k + 1, by omega, by go_num, hSh, hO.out.setCell _ _⟩
          case measure => simp [intOf]; omega
        · have hge : (64 : Int) ≤ (k : Int) := by omega
          have hF : Hid (Arr wr g7 .u8 24 bl) := by
            have h0 := hR7.out
            rwa [show k = 64 by omega, copyRow_full bl hlb.out] at h0
          have Rr : Hid (Arr wr g5 .u32 23 s1) := R9.out.only hO.out (by omega)
          have Br : Hid (Below g5 w8 wr) := B9.out.trans (hO.out.below (by omega))
          obtain ⟨wz, hwz⟩ : ∃ wz, wz = wr := ⟨_, rfl⟩
          rw [← hwz] at hF Rr Br ⊢
          clear hR7 hO R9 B9 hcb9 hwz
          go_wp2_with (first
            | ((with_reducible show wpList _ _ _ (⟨some 44, _, _, _, _, _⟩ :: _) _ _); refine wpList_load_arr rfl _ (.tmp 5) rfl g5 rfl .u32 _ s1 Rr 8 _ Tryd.underlying23 size_s hsl ?_)
            | ((with_reducible show wpList _ _ _ (⟨some 45, _, _, _, _, _⟩ :: _) _ _); refine wpList_load_arr rfl _ (.tmp 7) rfl g7 rfl .u8 _ bl hF 64 _ Tryd.underlying24 size_b hlb ?_)
            | fail)
          refine (cp1 _ (HT.out.below (B8.out.trans (Br.out.mono lw5)))).out.mono ?_
          rintro e w10 ⟨rfl, b10⟩
          have hsz := Rr.out.lt
          have R10 : Hid (Arr w10 g5 .u32 23 s1) := Rr.out.over b10
          have B10 : Hid (Below g5 w8 w10) := Br.out.trans (b10.mono (by omega))
          clear b10 Rr Br hsz
          go_wp2_with (first
            | ((with_reducible show wpList _ _ _ (⟨none, _, _, _, _, _⟩ :: _) _ _); refine wpList_store_arr rfl _ (.tmp 5) (.tmp 46) rfl g5 rfl .u32 _ _ s2' rfl R10 8 size_s hsl hslN ?_; intro w11 A11 o11 s11)
            | fail)
          go_roundw
          case rel => exact ⟨m + 1, by omega, by rw [show 64 * (m + 1) = k0 + 64 by have := HKm.out; omega]; go_num, by rw [← HS2.out]; exact A11, B10.out.trans (o11.out.below (Nat.le_refl _))⟩
          case measure => have := HKm.out; simp [intOf]; omega
    · have hge : (N : Int) ≤ ((64 * m : Nat) : Int) := by have := HNq.out; omega
      have hF : Hid (Arr wr g5 .u32 23 (stateOf xs)) := by
        have h0 := hR.out
        rwa [show m = q by omega, ← HSO.out] at h0
      have hls := Lib.hid (stateOf_len xs)
      have hsow := stateOf_w xs
      have hsum : sumOf xs = outOf (stateOf xs) := rfl
      have cs := fun w h hK => Lib.hid (Sum_any w A n c xs hn h hK)
      obtain ⟨so, hso⟩ : ∃ so, so = stateOf xs := ⟨_, rfl⟩
      rw [← hso] at hF hls hsow hsum
      rw [hsum] at cs
      have Br : Hid (Below w.heap.size w wr) := B8.out.trans (hB.out.mono lw5)
      obtain ⟨k0, hk0⟩ : ∃ k0, k0 = 64 * m := ⟨_, rfl⟩
      rw [← hk0] at hge ⊢
      have HP : Hid ((outOf so).length = 32) := outOf_len _
      have hpv : Hid (∀ k, k < 32 → (outOf so).getD k 0 = so.getD (k / 4) 0 / 2 ^ (24 - 8 * (k % 4)) % 256) := fun k hk => by simp [outOf, hk]
      obtain ⟨p, hp⟩ : ∃ p, p = outOf so := ⟨_, rfl⟩
      rw [← hp] at cs HP hpv
      clear hso hsum hR hB hk0 V8 B8 A8 hlt hp
      go_wp2_with fail
      refine (cs _ ((h.below Br.out).mono Br.out.size) (HT.out.below Br.out)).out.mono ?_
      rintro e w9 ⟨rfl, b9⟩
      have F9 : Hid (Arr w9 g5 .u32 23 so) := hF.out.over b9
      have B9 : Hid (Below w.heap.size w w9) := step Br.out b9
      clear hF Br b9 cs
      go_wp2_with (first
        | ((with_reducible show wpList _ _ _ (⟨some 9, _, _, _, _, _⟩ :: _) _ _); refine wpList_alloc_arr rfl _ rfl .u8 X 32 HX1 ?_; intro g9 w10 e10 s10 A10 b10)
        | ((with_reducible show wpList _ _ _ (⟨none, _, _, _, _, _⟩ :: _) _ _); refine wpList_store_arr rfl _ (.tmp 9) (.tmp 48) rfl g9 rfl .u8 _ _ p rfl A10 32 size_o HX HP ?_; intro w11 A11 o11 s11)
        | fail)
      have hs9 := B9.out.size
      have hs5 := F9.out.lt
      have F11 : Hid (Arr w11 g5 .u32 23 so) := (F9.out.over b10.out).only o11.out (by omega)
      have B11 : Hid (Below w.heap.size w w11) := (step B9.out b10.out).trans (o11.out.below (by omega))
      have cw := fun w hK => Lib.hid (works_any w hK)
      clear F9 B9 A10 b10 o11 e10 s10 s11 hs9 hs5
      go_loopw [10] (fun i wr => ∃ k : Nat, k ≤ 32 ∧ i = .int .i64 k ∧ ∃ d, wr = w11.drewN d) (fun i _ => 32 - (intOf i).toNat)
      case atStart => exact ⟨0, by omega, rfl, 0, rfl⟩
      case round =>
        obtain ⟨k, hk, rfl, d, rfl⟩ := hrel
        by_cases hlt2 : k < 32
        · obtain ⟨wq, hwq⟩ : ∃ wq, wq = w11.drewN d := ⟨_, rfl⟩
          have gc : wq.cell? ⟨g5, k / 4, none⟩ = some (.int .u32 (so.getD (k / 4) 0)) := by rw [hwq]; exact F11.out.cell (i := k / 4) (by rw [hls.out]; omega)
          have gs : wq.cell? ⟨g9, k, none⟩ = some (.int .u8 (p.getD k 0)) := by rw [hwq]; exact A11.out.cell (i := k) (by rw [HP.out]; exact hlt2)
          rw [hpv.out k hlt2] at gs
          have hb := hsow.getD (k / 4)
          obtain ⟨y, hy⟩ : ∃ y, y = so.getD (k / 4) 0 := ⟨_, rfl⟩
          rw [← hy] at gc gs hb
          obtain ⟨hb0, hb1⟩ := hb
          have HWQ := Lib.hid hwq
          rw [← hwq]
          have k0' : (0 : Int) ≤ (k : Int) := by omega
          have k1' : (k : Int) < 32 := by omega
          have en : (24 - 8 * ((k : Int) % 4)).toNat = 24 - 8 * (k % 4) := by omega
          have i1 : IntKind.i64.wrap (8 * ((k : Int) % 4)) = 8 * ((k : Int) % 4) := IntWalk.i64_in _ (by omega)
          have i2 : IntKind.i64.wrap (24 - 8 * ((k : Int) % 4)) = 24 - 8 * ((k : Int) % 4) := IntWalk.i64_in _ (by omega)
          clear hwq hy
          go_wp2_with fail
          go_quiet (fail)
          go_wp2_with fail
          go_roundw
          case rel => exact ⟨k + 1, by omega, by go_num, d + nq, by rw [HWQ.out, World.drewN_drewN]⟩
          case measure => simp [intOf]; omega
        · have hge3 : (32 : Int) ≤ (k : Int) := by omega
          have B12 : Hid (Below w.heap.size w (w11.drewN d)) := B11.out.trans ⟨rfl, rfl, rfl, Nat.le_refl _, fun _ _ => rfl⟩
          obtain ⟨w12, hw12⟩ : ∃ w12, w12 = w11.drewN d := ⟨_, rfl⟩
          rw [← hw12] at B12 ⊢
          clear hw12
          go_wp2_with fail
          refine (cw _ (HT.out.below B12.out)).out.mono ?_
          rintro e w13 ⟨rfl, b13⟩
          go_wp2_with fail
          go_ret
          exact ⟨rfl, step B12.out b13⟩
end Go.Proofs.YtpeanhnbkoacoaaDoor
