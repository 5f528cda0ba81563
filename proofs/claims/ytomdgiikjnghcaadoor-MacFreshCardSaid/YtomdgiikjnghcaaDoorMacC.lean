/-
  Contract of the program's layer 4 (mac): macOf, the sum by a key of parts.
-/
import Derived.Test.YtomdgiikjnghcaaDoorMacB
namespace Go.Proofs.YtomdgiikjnghcaaDoor
open Go.RowKit

/-- the row of a key, behind k of its bytes -/
def xorRow (c : Int) (K : List Int) (k : Nat) : List Int := (xorL c K).take k ++ K.drop k
theorem xorRow_len (c : Int) (K : List Int) (k : Nat) (hk : k ≤ K.length) : (xorRow c K k).length = K.length := by simp [xorRow, xorL_len]; omega
theorem xorRow_zero (c : Int) (K : List Int) : xorRow c K 0 = K := by simp [xorRow]
theorem xorRow_full (c : Int) (K : List Int) (k : Nat) (hk : K.length = k) : xorRow c K k = xorL c K := by
  unfold xorRow
  rw [List.take_of_length_le (by rw [xorL_len]; omega), List.drop_of_length_le (by omega), List.append_nil]
theorem xorRow_get (c : Int) (K : List Int) (k : Nat) (hk : k < K.length) : (xorRow c K k).getD k 0 = K.getD k 0 := by
  have hl : ((xorL c K).take k).length = k := by simp [xorL_len]; omega
  unfold xorRow
  rw [List.getD_eq_getElem?_getD, List.getElem?_append_right (by omega), hl, Nat.sub_self, List.getElem?_drop, Nat.add_zero, List.getD_eq_getElem?_getD]
theorem xorRow_set (c : Int) (K : List Int) (k : Nat) (hk : k < K.length) : (xorRow c K k).set k (bits .xor .u8 (K.getD k 0) c) = xorRow c K (k + 1) := by
  have hl : ((xorL c K).take k).length = k := by simp [xorL_len]; omega
  have hx : k < (xorL c K).length := by rw [xorL_len]; exact hk
  unfold xorRow
  rw [List.set_append_right _ _ (by omega), hl, Nat.sub_self, List.drop_eq_getElem_cons hk, List.set_cons_zero, List.take_succ_eq_append_getElem hx, List.append_assoc]
  congr 2
  simp [xorL, hk]

set_option maxRecDepth 100000 in
set_option maxHeartbeats 4000000 in
theorem macOf_any (w : World) (A : Option Addr) (n c : Nat) (ks : List Int) (hn : n ≤ 140737488355200) (h : Holds w w.heap.size A n c ks) (gs m : Nat) (PA : Nat → Option Addr) (pn pc : Nat → Nat) (PX : Nat → List Int) (hP : Parts w gs m PA pn pc PX)
    (hm : m ≤ 1000) (hb : sumN pn m ≤ 140737488355100) (hK : KTab w) :
    Calls Tryd.prog 25 #[.slice A n c, .slice (some ⟨gs, 0, none⟩) m m] w fun e w' => e = .returned (.agg ((macL ks (catL PX m)).map (Value.int .u8)).toArray) ∧ Below w.heap.size w w' := by
  have cl := fun w h hK => Lib.hid (laid_any w A n c ks hn h hK)
  have cc := fun w hP => Lib.hid (ConcatN_any w gs m PA pn pc PX hP hm (by omega))
  have cs := fun w gs A1 A2 n1 c1 n2 c2 xs ys hP hb hK => Lib.hid (sumOf_any w gs A1 A2 n1 c1 n2 c2 xs ys hP hb hK)
  have hXl : (catL PX m).length = sumN pn m := catL_len (fun i hi => (hP.holds i hi).len) (Nat.le_refl _)
  have hXb : Bytes (catL PX m) := catL_bytes (fun i hi => (hP.holds i hi).byte) (Nat.le_refl _)
  have HKl : Hid ((keyL ks).length = 64) := keyL_len ks
  have hKb : Bytes (keyL ks) := keyL_bytes ks h.byte
  have hmac : macL ks (catL PX m) = sumOf (xorL 92 (keyL ks) ++ sumOf (xorL 54 (keyL ks) ++ catL PX m)) := rfl
  have HR : Hid ((macL ks (catL PX m)).length = 32) := macL_len _ _
  obtain ⟨R, hR⟩ : ∃ R, R = macL ks (catL PX m) := ⟨_, rfl⟩
  obtain ⟨K, hKe⟩ : ∃ K, K = keyL ks := ⟨_, rfl⟩
  obtain ⟨Y, hY⟩ : ∃ Y, Y = catL PX m := ⟨_, rfl⟩
  obtain ⟨N, hN⟩ : ∃ N, N = sumN pn m := ⟨_, rfl⟩
  rw [← hR] at hmac HR ⊢
  rw [← hKe] at cl HKl hKb hmac
  rw [← hY] at cc hXl hXb hmac
  rw [← hN] at hXl hb
  have HMAC := Lib.hid hmac
  have HYL := Lib.hid hXl
  have HT := Lib.hid hK
  have HPP := Lib.hid hP
  have HH := Lib.hid h
  obtain ⟨X, hX⟩ : ∃ Z : List Int, Z = List.replicate 32 0 := ⟨_, rfl⟩
  have HX := len0 32
  have hx1 := zero_m
  rw [← hX] at HX hx1
  have HX1 := Lib.hid hx1
  obtain ⟨Z, hZ⟩ : ∃ Z : List Int, Z = List.replicate 64 0 := ⟨_, rfl⟩
  have HZ := len0 64
  have hz1 := zero_k
  rw [← hZ] at HZ hz1
  have HZ1 := Lib.hid hz1
  clear hR hKe hY hN hx1 hX hz1 hZ hmac hXl hK hP h
  go_enter Tryd.func25, Tryd.ntmps25
  go_wp2_with (first
    | ((with_reducible show wpList _ _ _ (⟨some 4, _, _, _, _, _⟩ :: _) _ _); refine wpList_alloc_arr rfl _ rfl .u8 X 32 HX1 ?_; intro g4 w4 e4 s4 A4 b4)
    | fail)
  refine (cl _ (HH.out.over b4.out) (HT.out.below b4.out)).out.mono ?_
  rintro e w5 ⟨rfl, b5⟩
  have A45 : Hid (Arr w5 g4 .u8 24 X) := A4.out.over b5
  have B5 : Hid (Below w.heap.size w w5) := step b4.out b5
  have l45 := A45.out.lt
  clear A4 b4 b5 s4 HH
  go_wp2_with (first
    | ((with_reducible show wpList _ _ _ (⟨some 5, _, _, _, _, _⟩ :: _) _ _); refine wpList_alloc_arr rfl _ rfl .u8 Z 64 HZ1 ?_; intro g5 w6 e6 s6 A6 b6)
    | ((with_reducible show wpList _ _ _ (⟨none, .store _ (.tmp 5) _, _, _, _, _⟩ :: _) _ _); refine wpList_store_arr rfl _ (.tmp 5) (.tmp 10) rfl g5 rfl .u8 _ _ K rfl A6 64 size_k HZ HKl ?_; intro w7 A7 o7 s7)
    | ((with_reducible show wpList _ _ _ (⟨some 11, _, _, _, _, _⟩ :: _) _ _); refine wpList_load_arr rfl _ (.tmp 5) rfl g5 rfl .u8 _ K A7 64 _ Tryd.underlying44 size_k HKl ?_)
    | ((with_reducible show wpList _ _ _ (⟨some 6, _, _, _, _, _⟩ :: _) _ _); refine wpList_alloc_arr rfl _ rfl .u8 Z 64 HZ1 ?_; intro g6 w8 e8 s8 A8 b8)
    | ((with_reducible show wpList _ _ _ (⟨none, .store _ (.tmp 6) _, _, _, _, _⟩ :: _) _ _); refine wpList_store_arr rfl _ (.tmp 6) (.tmp 11) rfl g6 rfl .u8 _ _ K rfl A8 64 size_k HZ HKl ?_; intro w9 A9 o9 s9)
    | fail)
  have hs5 := B5.out.size
  have l56 : g5 < g6 := by omega
  have A59 : Hid (Arr w9 g5 .u8 44 K) := (A7.out.over b8.out).only o9.out (by omega)
  have A49 : Hid (Arr w9 g4 .u8 24 X) := (((A45.out.over b6.out).only o7.out (by omega)).over b8.out).only o9.out (by omega)
  have B9 : Hid (Below w.heap.size w w9) := (((B5.out.trans (b6.out.mono hs5)).trans (o7.out.below (by omega))).trans (b8.out.mono (by omega))).trans (o9.out.below (by omega))
  have l4 : w.heap.size ≤ g4 := e4
  have l4' : g4 < g5 := by omega
  clear A45 A6 A7 A8 b6 o7 b8 o9 s6 s7 s8 e6 e8 e4 hs5 B5
  go_loopw [12, 7] (fun i _ wr => ∃ k : Nat, k ≤ 64 ∧ i = .int .i64 k ∧ Hid (Arr wr g5 .u8 44 (xorRow 54 K k)) ∧ Hid (Arr wr g6 .u8 44 (xorRow 92 K k)) ∧ Hid (Below g5 w9 wr)) (fun i _ _ => 64 - (intOf i).toNat)
  case atStart => exact ⟨0, by omega, rfl, by rw [xorRow_zero]; exact A59, by rw [xorRow_zero]; exact A9, Below.refl _ _⟩
  case round =>
    obtain ⟨k, hk, rfl, hR5, hR6, hB⟩ := hrel
    by_cases hlt : k < 64
    · have hkl : k < K.length := by rw [HKl.out]; exact hlt
      have gc := hR5.out.cell (i := k) (by rw [xorRow_len _ _ _ (by omega)]; exact hkl)
      have gd := hR6.out.cell (i := k) (by rw [xorRow_len _ _ _ (by omega)]; exact hkl)
      rw [xorRow_get _ _ _ hkl] at gc gd
      have gf := hR5.out.frozen k
      have gh := hR6.out.frozen k
      have S5 := hR5.out.set k (bits .xor .u8 (K.getD k 0) 54)
      rw [xorRow_set _ _ _ hkl] at S5
      have S6 := (hR6.out.setOther (show g6 ≠ g5 by omega) k (.int .u8 (bits .xor .u8 (K.getD k 0) 54))).set k (bits .xor .u8 (K.getD k 0) 92)
      rw [xorRow_set _ _ _ hkl] at S6
      have S5' := S5.setOther (show g5 ≠ g6 by omega) k (.int .u8 (bits .xor .u8 (K.getD k 0) 92))
      have hbk := hKb.getD k
      obtain ⟨y, hy⟩ : ∃ y, y = K.getD k 0 := ⟨_, rfl⟩
      rw [← hy] at gc gd S5' S6 hbk
      have HS5 := Lib.hid S5'
      have HS6 := Lib.hid S6
      have hB2 : Hid (Below g5 w9 ((wr.setCell ⟨g5, k, none⟩ (.int .u8 (bits .xor .u8 y 54))).setCell ⟨g6, k, none⟩ (.int .u8 (bits .xor .u8 y 92)))) := (hB.out.setCell (Nat.le_refl _) _).setCell (show g5 ≤ g6 by omega) _
      obtain ⟨hbk0, hbk1⟩ := hbk
      have hne : ¬ g5 = g6 := by omega
      have hne' : ¬ g6 = g5 := by omega
      clear hy S5 S5' S6 hR5 hR6 hB
      go_wp2_with fail
      go_roundw
      case rel => exact ⟨k + 1, by omega, by go_num, HS5, HS6, hB2⟩
      case measure => simp [intOf]; omega
    · obtain rfl : k = 64 := by omega
      have hKX5 := xorRow_full 54 K 64 HKl.out
      have hKX6 := xorRow_full 92 K 64 HKl.out
      rw [hKX5] at hR5
      rw [hKX6] at hR6
      have HI : Hid ((xorL 54 K).length = 64) := by show _ = _; rw [xorL_len, HKl.out]
      have HO : Hid ((xorL 92 K).length = 64) := by show _ = _; rw [xorL_len, HKl.out]
      have hIb := xorL_bytes 54 K
      have hOb := xorL_bytes 92 K
      have HM1 := HMAC.out
      obtain ⟨inn, hinn⟩ : ∃ p, p = xorL 54 K := ⟨_, rfl⟩
      obtain ⟨out, hout⟩ : ∃ p, p = xorL 92 K := ⟨_, rfl⟩
      rw [← hinn] at hR5 HI hIb HM1
      rw [← hout] at hR6 HO hOb HM1
      have HS1 : Hid ((sumOf (inn ++ Y)).length = 32) := sumOf_len _
      have hS1b := sumOf_bytes (inn ++ Y)
      have cs1 := fun w gs A2 n2 c2 g => cs w gs (some ⟨g, 0, none⟩) A2 64 64 n2 c2 inn Y
      obtain ⟨s1, hs1⟩ : ∃ p, p = sumOf (inn ++ Y) := ⟨_, rfl⟩
      rw [← hs1] at HS1 hS1b cs1 HM1
      have cs2 := fun w gs A2 g => cs w gs (some ⟨g, 0, none⟩) A2 64 64 32 32 out s1
      rw [← HM1] at cs2
      have Br : Hid (Below w.heap.size w wr) := B9.out.trans (hB.out.mono (by omega))
      have A4r : Hid (Arr wr g4 .u8 24 X) := A49.out.below hB.out l4'
      obtain ⟨wz, hwz⟩ : ∃ wz, wz = wr := ⟨_, rfl⟩
      rw [← hwz] at Br A4r hR5 hR6 ⊢
      have HM := Lib.hid HM1
      clear hinn hout hs1 HM1 hB A9 A59 A49 B9 hKX5 hKX6 hwz HMAC cs cl hlt hk
      go_upto_region 9 with (fail)
      go_cut [8] (fun s8 wx => ∃ g8, s8 = .pointer (some ⟨g8, 0, none⟩) ∧ Hid (Arr wx g8 .u8 24 s1) ∧ Hid (Arr wx g6 .u8 44 out) ∧ Hid (Arr wx g4 .u8 24 X) ∧ Hid (Below w.heap.size w wx) ∧ g4 < g8)
      case first =>
        have B0 : Hid (Below w.heap.size w wz.drew) := Br.out.drew
        have R40 : Hid (Arr wz.drew g4 .u8 24 X) := A4r.out.drew
        have R50 : Hid (Arr wz.drew g5 .u8 44 inn) := hR5.out.drew
        have R60 : Hid (Arr wz.drew g6 .u8 44 out) := hR6.out.drew
        refine wp_region_held (S := fun _ => True) (by kernel_rfl) ?_
        change wpAnyH _ _ _ _ _ _ _ _ wz.drew
        refine wpAnyH_take (i := 0) (v := .slice (some ⟨g5, 0, none⟩) 64 64) rfl (by kernel_rfl) (by kernel_rfl) (by kernel_rfl) (fun _ _ _ h => h) (.inl ⟨rfl, fun w _ => by go_simp⟩) trivial ?_
        refine wpAnyH_take (i := 1) (v := .slice (some ⟨gs, 0, none⟩) m m) rfl (by kernel_rfl) (by kernel_rfl) (by kernel_rfl) (fun _ _ _ h => h) (.inl ⟨rfl, fun w _ => by go_simp⟩) trivial ?_
        refine wpAnyH_two 2 5 _ _ (by kernel_rfl) rfl rfl (fun K hK => ?_) (fun K hK => ?_)
        · skip
          go_simp
          refine (cc _ (HPP.out.over B0.out)).out.mono ?_
          rintro e w1 ⟨_, rfl, o3, b2⟩
          obtain ⟨A5, c6, rfl, h4⟩ := o3.holds hXb (by rw [HYL.out]; omega)
          rw [HYL.out] at h4 ⊢
          refine hK _ _ trivial ?_
          clear hK K
          have R47 := Lib.hid (R40.out.over b2)
          have R58 := Lib.hid (R50.out.over b2)
          have R69 := Lib.hid (R60.out.over b2)
          have B10 := Lib.hid (step B0.out b2)
          have HY11 := Lib.hid h4
          clear o3 h4 b2
          refine wpAnyH_two 3 5 _ _ (by kernel_rfl) rfl rfl (fun K hK => ?_) (fun K hK => ?_)
          · skip
            go_simp
            refine hK _ _ trivial ?_
            clear hK K
            have b12 : Below w1.heap.size w1 (w1.alloc (.cells #[.slice (some ⟨g5, 0, none⟩) 64 64, .slice A5 N c6] 22)) := (Below.refl _ _).alloc (Nat.le_refl _) _
            have R416 := Lib.hid (R47.out.over b12)
            have R517 := Lib.hid (R58.out.over b12)
            have R618 := Lib.hid (R69.out.over b12)
            have HY19 := Lib.hid (HY11.out.over b12)
            have B20 := Lib.hid (step B10.out b12)
            have PP15 := Lib.hid (parts2 (gs := w1.heap.size) (by simp) (by simp) (by simp) (R517.out.holds HI.out hIb (by omega)) HY19.out)
            obtain ⟨w13, hu14⟩ : ∃ x, x = w1.alloc (.cells #[.slice (some ⟨g5, 0, none⟩) 64 64, .slice A5 N c6] 22) := ⟨_, rfl⟩
            obtain ⟨gp21, hu14g⟩ : ∃ x, x = w1.heap.size := ⟨_, rfl⟩
            rw [← hu14] at R416 R517 R618 HY19 PP15 B20 ⊢
            rw [← hu14g] at PP15 ⊢
            clear b12 hu14 hu14g
            refine wpAnyH_two 4 5 _ _ (by kernel_rfl) rfl rfl (fun K hK => ?_) (fun K hK => ?_)
            · skip
              go_simp
              refine (cs1 _ gp21 A5 N c6 g5 PP15.out (by omega) (HT.out.below B20.out)).out.mono ?_
              rintro e w22 ⟨rfl, b23⟩
              refine hK _ _ trivial ?_
              clear hK K
              have R424 := Lib.hid (R416.out.over b23)
              have R525 := Lib.hid (R517.out.over b23)
              have R626 := Lib.hid (R618.out.over b23)
              have HY27 := Lib.hid (HY19.out.over b23)
              have PP28 := Lib.hid (PP15.out.over b23)
              have B29 := Lib.hid (step B20.out b23)
              clear b23
              refine wpAnyH_one 5 _ (by kernel_rfl) rfl fun K hK => ?_
              refine step_alloc_arr rfl _ rfl .u8 X 32 HX1 ?_
              intro g8 w30 e33 s34 R832 b31
              refine hK _ _ trivial ?_
              clear hK K
              have hlw : w.heap.size ≤ g8 := Nat.le_trans B29.out.size e33
              have hl6 : g6 < g8 := Nat.lt_of_lt_of_le R626.out.lt e33
              have hl4 : g4 < g8 := Nat.lt_of_lt_of_le R424.out.lt e33
              have R435 := Lib.hid (R424.out.over b31.out)
              have R536 := Lib.hid (R525.out.over b31.out)
              have R637 := Lib.hid (R626.out.over b31.out)
              have HY38 := Lib.hid (HY27.out.over b31.out)
              have PP39 := Lib.hid (PP28.out.over b31.out)
              have B40 := Lib.hid (step B29.out b31.out)
              clear b31 e33 s34
              refine wpAnyH_one 6 _ (by kernel_rfl) rfl fun K hK => ?_
              refine step_store_arr rfl _ (.tmp 8) (.tmp 30) rfl g8 rfl .u8 _ X s1 rfl R832 32 size_o HX HS1 ?_
              intro w41 F842 o43 s44
              refine hK _ _ trivial ?_
              clear hK K
              refine wpAnyH_done (by kernel_rfl) ?_ _
              go_wp2_with fail
              go_meet
              exact ⟨g8, rfl, F842.out, R637.out.only o43.out (by omega), R435.out.only o43.out (by omega), B40.out.trans (o43.out.below hlw), hl4⟩
            · skip
              refine step_alloc_arr rfl _ rfl .u8 X 32 HX1 ?_
              intro g8 w45 e48 s49 R847 b46
              refine hK _ _ trivial ?_
              clear hK K
              have hlw : w.heap.size ≤ g8 := Nat.le_trans B20.out.size e48
              have hl6 : g6 < g8 := Nat.lt_of_lt_of_le R618.out.lt e48
              have hl4 : g4 < g8 := Nat.lt_of_lt_of_le R416.out.lt e48
              have R450 := Lib.hid (R416.out.over b46.out)
              have R551 := Lib.hid (R517.out.over b46.out)
              have R652 := Lib.hid (R618.out.over b46.out)
              have HY53 := Lib.hid (HY19.out.over b46.out)
              have PP54 := Lib.hid (PP15.out.over b46.out)
              have B55 := Lib.hid (step B20.out b46.out)
              clear b46 e48 s49
              refine wpAnyH_one 4 _ (by kernel_rfl) rfl fun K hK => ?_
              go_simp
              refine (cs1 _ gp21 A5 N c6 g5 PP54.out (by omega) (HT.out.below B55.out)).out.mono ?_
              rintro e w56 ⟨rfl, b57⟩
              refine hK _ _ trivial ?_
              clear hK K
              have R458 := Lib.hid (R450.out.over b57)
              have R559 := Lib.hid (R551.out.over b57)
              have R660 := Lib.hid (R652.out.over b57)
              have R861 := Lib.hid (R847.out.over b57)
              have HY62 := Lib.hid (HY53.out.over b57)
              have PP63 := Lib.hid (PP54.out.over b57)
              have B64 := Lib.hid (step B55.out b57)
              clear b57
              refine wpAnyH_one 6 _ (by kernel_rfl) rfl fun K hK => ?_
              refine step_store_arr rfl _ (.tmp 8) (.tmp 30) rfl g8 rfl .u8 _ X s1 rfl R861 32 size_o HX HS1 ?_
              intro w65 F866 o67 s68
              refine hK _ _ trivial ?_
              clear hK K
              refine wpAnyH_done (by kernel_rfl) ?_ _
              go_wp2_with fail
              go_meet
              exact ⟨g8, rfl, F866.out, R660.out.only o67.out (by omega), R458.out.only o67.out (by omega), B64.out.trans (o67.out.below hlw), hl4⟩
          · skip
            refine step_alloc_arr rfl _ rfl .u8 X 32 HX1 ?_
            intro g8 w69 e72 s73 R871 b70
            refine hK _ _ trivial ?_
            clear hK K
            have hlw : w.heap.size ≤ g8 := Nat.le_trans B10.out.size e72
            have hl6 : g6 < g8 := Nat.lt_of_lt_of_le R69.out.lt e72
            have hl4 : g4 < g8 := Nat.lt_of_lt_of_le R47.out.lt e72
            have R474 := Lib.hid (R47.out.over b70.out)
            have R575 := Lib.hid (R58.out.over b70.out)
            have R676 := Lib.hid (R69.out.over b70.out)
            have HY77 := Lib.hid (HY11.out.over b70.out)
            have B78 := Lib.hid (step B10.out b70.out)
            clear b70 e72 s73
            refine wpAnyH_one 3 _ (by kernel_rfl) rfl fun K hK => ?_
            go_simp
            refine hK _ _ trivial ?_
            clear hK K
            have b79 : Below w69.heap.size w69 (w69.alloc (.cells #[.slice (some ⟨g5, 0, none⟩) 64 64, .slice A5 N c6] 22)) := (Below.refl _ _).alloc (Nat.le_refl _) _
            have R483 := Lib.hid (R474.out.over b79)
            have R584 := Lib.hid (R575.out.over b79)
            have R685 := Lib.hid (R676.out.over b79)
            have R886 := Lib.hid (R871.out.over b79)
            have HY87 := Lib.hid (HY77.out.over b79)
            have B88 := Lib.hid (step B78.out b79)
            have PP82 := Lib.hid (parts2 (gs := w69.heap.size) (by simp) (by simp) (by simp) (R584.out.holds HI.out hIb (by omega)) HY87.out)
            obtain ⟨w80, hu81⟩ : ∃ x, x = w69.alloc (.cells #[.slice (some ⟨g5, 0, none⟩) 64 64, .slice A5 N c6] 22) := ⟨_, rfl⟩
            obtain ⟨gp89, hu81g⟩ : ∃ x, x = w69.heap.size := ⟨_, rfl⟩
            rw [← hu81] at R483 R584 R685 R886 HY87 PP82 B88 ⊢
            rw [← hu81g] at PP82 ⊢
            clear b79 hu81 hu81g
            refine wpAnyH_one 4 _ (by kernel_rfl) rfl fun K hK => ?_
            go_simp
            refine (cs1 _ gp89 A5 N c6 g5 PP82.out (by omega) (HT.out.below B88.out)).out.mono ?_
            rintro e w90 ⟨rfl, b91⟩
            refine hK _ _ trivial ?_
            clear hK K
            have R492 := Lib.hid (R483.out.over b91)
            have R593 := Lib.hid (R584.out.over b91)
            have R694 := Lib.hid (R685.out.over b91)
            have R895 := Lib.hid (R886.out.over b91)
            have HY96 := Lib.hid (HY87.out.over b91)
            have PP97 := Lib.hid (PP82.out.over b91)
            have B98 := Lib.hid (step B88.out b91)
            clear b91
            refine wpAnyH_one 6 _ (by kernel_rfl) rfl fun K hK => ?_
            refine step_store_arr rfl _ (.tmp 8) (.tmp 30) rfl g8 rfl .u8 _ X s1 rfl R895 32 size_o HX HS1 ?_
            intro w99 F8100 o101 s102
            refine hK _ _ trivial ?_
            clear hK K
            refine wpAnyH_done (by kernel_rfl) ?_ _
            go_wp2_with fail
            go_meet
            exact ⟨g8, rfl, F8100.out, R694.out.only o101.out (by omega), R492.out.only o101.out (by omega), B98.out.trans (o101.out.below hlw), hl4⟩
        · skip
          refine step_alloc_arr rfl _ rfl .u8 X 32 HX1 ?_
          intro g8 w103 e106 s107 R8105 b104
          refine hK _ _ trivial ?_
          clear hK K
          have hlw : w.heap.size ≤ g8 := Nat.le_trans B0.out.size e106
          have hl6 : g6 < g8 := Nat.lt_of_lt_of_le R60.out.lt e106
          have hl4 : g4 < g8 := Nat.lt_of_lt_of_le R40.out.lt e106
          have R4108 := Lib.hid (R40.out.over b104.out)
          have R5109 := Lib.hid (R50.out.over b104.out)
          have R6110 := Lib.hid (R60.out.over b104.out)
          have B111 := Lib.hid (step B0.out b104.out)
          clear b104 e106 s107
          refine wpAnyH_one 2 _ (by kernel_rfl) rfl fun K hK => ?_
          go_simp
          refine (cc _ (HPP.out.over B111.out)).out.mono ?_
          rintro e w112 ⟨_, rfl, o114, b113⟩
          obtain ⟨A116, c117, rfl, h115⟩ := o114.holds hXb (by rw [HYL.out]; omega)
          rw [HYL.out] at h115 ⊢
          refine hK _ _ trivial ?_
          clear hK K
          have R4118 := Lib.hid (R4108.out.over b113)
          have R5119 := Lib.hid (R5109.out.over b113)
          have R6120 := Lib.hid (R6110.out.over b113)
          have R8121 := Lib.hid (R8105.out.over b113)
          have B122 := Lib.hid (step B111.out b113)
          have HY123 := Lib.hid h115
          clear o114 h115 b113
          refine wpAnyH_one 3 _ (by kernel_rfl) rfl fun K hK => ?_
          go_simp
          refine hK _ _ trivial ?_
          clear hK K
          have b124 : Below w112.heap.size w112 (w112.alloc (.cells #[.slice (some ⟨g5, 0, none⟩) 64 64, .slice A116 N c117] 22)) := (Below.refl _ _).alloc (Nat.le_refl _) _
          have R4128 := Lib.hid (R4118.out.over b124)
          have R5129 := Lib.hid (R5119.out.over b124)
          have R6130 := Lib.hid (R6120.out.over b124)
          have R8131 := Lib.hid (R8121.out.over b124)
          have HY132 := Lib.hid (HY123.out.over b124)
          have B133 := Lib.hid (step B122.out b124)
          have PP127 := Lib.hid (parts2 (gs := w112.heap.size) (by simp) (by simp) (by simp) (R5129.out.holds HI.out hIb (by omega)) HY132.out)
          obtain ⟨w125, hu126⟩ : ∃ x, x = w112.alloc (.cells #[.slice (some ⟨g5, 0, none⟩) 64 64, .slice A116 N c117] 22) := ⟨_, rfl⟩
          obtain ⟨gp134, hu126g⟩ : ∃ x, x = w112.heap.size := ⟨_, rfl⟩
          rw [← hu126] at R4128 R5129 R6130 R8131 HY132 PP127 B133 ⊢
          rw [← hu126g] at PP127 ⊢
          clear b124 hu126 hu126g
          refine wpAnyH_one 4 _ (by kernel_rfl) rfl fun K hK => ?_
          go_simp
          refine (cs1 _ gp134 A116 N c117 g5 PP127.out (by omega) (HT.out.below B133.out)).out.mono ?_
          rintro e w135 ⟨rfl, b136⟩
          refine hK _ _ trivial ?_
          clear hK K
          have R4137 := Lib.hid (R4128.out.over b136)
          have R5138 := Lib.hid (R5129.out.over b136)
          have R6139 := Lib.hid (R6130.out.over b136)
          have R8140 := Lib.hid (R8131.out.over b136)
          have HY141 := Lib.hid (HY132.out.over b136)
          have PP142 := Lib.hid (PP127.out.over b136)
          have B143 := Lib.hid (step B133.out b136)
          clear b136
          refine wpAnyH_one 6 _ (by kernel_rfl) rfl fun K hK => ?_
          refine step_store_arr rfl _ (.tmp 8) (.tmp 30) rfl g8 rfl .u8 _ X s1 rfl R8140 32 size_o HX HS1 ?_
          intro w144 F8145 o146 s147
          refine hK _ _ trivial ?_
          clear hK K
          refine wpAnyH_done (by kernel_rfl) ?_ _
          go_wp2_with fail
          go_meet
          exact ⟨g8, rfl, F8145.out, R6139.out.only o146.out (by omega), R4137.out.only o146.out (by omega), B143.out.trans (o146.out.below hlw), hl4⟩
      case rest =>
        obtain ⟨g8, rfl, A8, A6, A4c, Bc, l48⟩ := hcut
        go_upto_region 10 with (fail)
        refine wp_region_held (S := fun _ => True) (by kernel_rfl) ?_
        change wpAnyH _ _ _ _ _ _ _ _ wc.drew
        have B0 : Hid (Below w.heap.size w wc.drew) := Bc.out.drew
        have R40 : Hid (Arr wc.drew g4 .u8 24 X) := A4c.out.drew
        have R60 : Hid (Arr wc.drew g6 .u8 44 out) := A6.out.drew
        have R80 : Hid (Arr wc.drew g8 .u8 24 s1) := A8.out.drew
        obtain ⟨wq, hwq⟩ : ∃ x, x = wc.drew := ⟨_, rfl⟩
        rw [← hwq] at B0 R40 R60 R80 ⊢
        clear hwq
        refine wpAnyH_take (i := 0) (v := .slice (some ⟨g6, 0, none⟩) 64 64) rfl (by kernel_rfl) (by kernel_rfl) (by kernel_rfl) (fun _ _ _ h => h) (.inl ⟨rfl, fun w _ => by go_simp⟩) trivial ?_
        refine wpAnyH_take (i := 1) (v := .slice (some ⟨g8, 0, none⟩) 32 32) rfl (by kernel_rfl) (by kernel_rfl) (by kernel_rfl) (fun _ _ _ h => h) (.inl ⟨rfl, fun w _ => by go_simp⟩) trivial ?_
        refine wpAnyH_one 2 _ (by kernel_rfl) rfl fun K hK => ?_
        go_simp
        refine hK _ _ trivial ?_
        clear hK K
        have b1 : Below wq.heap.size wq (wq.alloc (.cells #[.slice (some ⟨g6, 0, none⟩) 64 64, .slice (some ⟨g8, 0, none⟩) 32 32] 22)) := (Below.refl _ _).alloc (Nat.le_refl _) _
        have R41 := Lib.hid (R40.out.over b1)
        have R61 := Lib.hid (R60.out.over b1)
        have R81 := Lib.hid (R80.out.over b1)
        have B1 := Lib.hid (step B0.out b1)
        have PP := Lib.hid (parts2 (gs := wq.heap.size) (by simp) (by simp) (by simp) (R61.out.holds HO.out hOb (by omega)) (R81.out.holds HS1.out hS1b (by omega)))
        obtain ⟨w1, hw1⟩ : ∃ x, x = wq.alloc (.cells #[.slice (some ⟨g6, 0, none⟩) 64 64, .slice (some ⟨g8, 0, none⟩) 32 32] 22) := ⟨_, rfl⟩
        rw [← hw1] at R41 R61 R81 B1 PP ⊢
        clear b1 hw1 R40 R60 R80 B0
        refine wpAnyH_one 3 _ (by kernel_rfl) rfl fun K hK => ?_
        go_simp
        refine (cs2 _ _ _ g6 PP.out (by omega) (HT.out.below B1.out)).out.mono ?_
        rintro e w2 ⟨rfl, b2⟩
        refine hK _ _ trivial ?_
        clear hK K
        have R42 := Lib.hid (R41.out.over b2)
        have B2 := Lib.hid (step B1.out b2)
        clear b2 R41 R61 R81 B1 PP
        refine wpAnyH_one 4 _ (by kernel_rfl) rfl fun K hK => ?_
        refine step_store_arr rfl _ (.tmp 4) (.tmp 34) rfl g4 rfl .u8 _ X R rfl R42 32 size_o HX HR ?_
        intro w3 A3 o3 s3
        refine hK _ _ trivial ?_
        clear hK K
        refine wpAnyH_done (by kernel_rfl) ?_ _
        go_wp2_with fail
        refine bodyPost_ret (v := .agg (R.map (Value.int .u8)).toArray) ?_ rfl ⟨rfl, B2.out.trans (o3.out.below l4)⟩
        exact results_cell_row rfl _ _ g4 _ _ (0, 0) _ rfl A3.out Tryd.underlying24 rfl (by rw [size_o]; have := HR.out; simp [this])
end Go.Proofs.YtomdgiikjnghcaaDoor
