/-
  Contracts of the document's layer 4 (refectoryref04): signature, Sign, Check.
-/
import Derived.Test.YtomdgiikjnghcaaDoorRefM3
namespace Go.Proofs.YtomdgiikjnghcaaDoor
open Go.RowKit

theorem getD_zeros (n k : Nat) : (List.replicate n (0 : Int)).getD k 0 = 0 := by
  by_cases h : k < n
  · simp [List.getD_eq_getElem?_getD, h]
  · rw [List.getD_eq_getElem?_getD, List.getElem?_eq_none (by simp; omega)]
    rfl
theorem overRow_blank (m : List Int) : overRow m (List.replicate 16 0) 16 = blankL m := by
  unfold overRow blankL
  rw [List.take_of_length_le (l := List.replicate 16 0) (by rw [List.length_replicate]; omega)]

set_option maxRecDepth 100000 in
set_option maxHeartbeats 4000000 in
theorem Rsignature_any (w : World) (A : Option Addr) (n c : Nat) (ks : List Int) (hn : n ≤ 140737488355100) (h : Holds w w.heap.size A n c ks) (A2 : Option Addr) (n2 c2 : Nat) (ms : List Int) (h64 : 64 ≤ n2) (hn2 : n2 ≤ 140737488355100) (h2 : Holds w w.heap.size A2 n2 c2 ms) :
    Calls Tryd.prog 32 #[.slice A n c, .slice A2 n2 c2] w fun e w' => e = .returned (.agg ((sigL ks ms).map (Value.int .u8)).toArray) ∧ Below w.heap.size w w' := by
  have hml := macL_len ks (blankL ms)
  have hmb := macL_bytes ks (blankL ms)
  have HR : Hid ((sigL ks ms).length = 16) := sigL_len _ _
  have chf := fun w => half_any w (macL ks (blankL ms)) hml hmb
  have hde : sigL ks ms = (macL ks (blankL ms)).take 16 := rfl
  rw [← hde] at chf
  have CHF := fun w => Lib.hid (chf w)
  have cm := fun w h A2 c2 h2 => Lib.hid (RMac_any w A n c ks hn h A2 n2 c2 (blankL ms) hn2 h2)
  obtain ⟨R, hR⟩ : ∃ R, R = sigL ks ms := ⟨_, rfl⟩
  rw [← hR] at CHF HR ⊢
  obtain ⟨P, hP⟩ : ∃ P, P = macL ks (blankL ms) := ⟨_, rfl⟩
  rw [← hP] at cm CHF
  have hbb := blankL_bytes ms h2.byte
  have hbl : (blankL ms).length = n2 := by rw [blankL_len ms (by rw [h2.len]; exact h64), h2.len]
  have hob := overRow_blank ms
  obtain ⟨D, hD⟩ : ∃ D, D = blankL ms := ⟨_, rfl⟩
  rw [← hD] at cm hbb hbl hob
  obtain ⟨Z, hZ⟩ : ∃ Z : List Int, Z = List.replicate 16 0 := ⟨_, rfl⟩
  have HZ := len0 16
  have hz1 := zero_g
  have hzg : ∀ k, Z.getD k 0 = 0 := fun k => by rw [hZ]; exact getD_zeros 16 k
  rw [← hZ] at HZ hz1 hob
  have HZ1 := Lib.hid hz1
  have HZG := Lib.hid hzg
  have HOB := Lib.hid hob
  have HBL := Lib.hid hbl
  have HL2 := Lib.hid h2.len
  have HH := Lib.hid h
  have HH2 := Lib.hid h2
  clear hR hP hD hz1 hZ h h2 hml hmb hde chf hob hbl hzg
  go_enter Tryd.func32, Tryd.ntmps32
  go_wp2_with (first
    | ((with_reducible show wpList _ _ _ (⟨some 4, _, _, _, _, _⟩ :: _) _ _); refine wpList_alloc_arr rfl _ rfl .u8 Z 16 HZ1 ?_; intro g4 w4 e4 s4 A4 b4)
    | (at_builtin; refine wpList_append_bytes rfl (.tmp 7) (.tmp 8) rfl w4.heap.size _ [] rfl (Own.nil _ _) _ A2 n2 c2 ms rfl (HH2.out.over b4.out) (by rw [HL2.out]; simp; omega) (Nat.le_refl _) ?_; intro v5 w5 o5 b5 _; rw [List.nil_append] at o5)
    | fail)
  obtain ⟨_, _, c5, rfl, hl5, _, _, _, hcells⟩ := OwnK.open (show OwnK .u8 5 w5 w4.heap.size v5 ms from o5.out)
  rw [HL2.out] at hl5
  subst hl5
  obtain ⟨g5, rfl, hg5, _, _⟩ := hcells (by omega)
  have B5 := Lib.hid b5
  have hn2i : (64 : Int) ≤ (n2 : Int) := by omega
  clear hcells b5
  go_loopw [6] (fun i wr => ∃ j : Nat, j ≤ 16 ∧ i = .int .i64 ((48 + j : Nat) : Int) ∧ Hid (OwnK .u8 5 wr w4.heap.size (.slice (some ⟨g5, 0, none⟩) n2 c5) (overRow ms Z j)) ∧ Hid (Below w4.heap.size w5 wr)) (fun i _ => 64 - (intOf i).toNat)
  case atStart => exact ⟨0, by omega, rfl, by rw [overRow_zero]; exact o5, Below.refl _ _⟩
  case round =>
    obtain ⟨j, hj, rfl, hO, hB⟩ := hrel
    by_cases hlt : j < 16
    · have gc := hO.out.cell (i := 48 + j) (by omega)
      have gf := hO.out.frozen (48 + j)
      have hS := hO.out.set (48 + j) (Z.getD j 0)
      rw [overRow_set ms Z j (by rw [HL2.out]; omega) HZ.out hlt, HZG.out j] at hS
      obtain ⟨old, hold⟩ : ∃ old, old = (overRow ms Z j).getD (48 + j) 0 := ⟨_, rfl⟩
      rw [← hold] at gc
      have HS := Lib.hid hS
      have hBS := Lib.hid (show Below w4.heap.size w5 (wr.setCell ⟨g5, 48 + j, none⟩ (.int .u8 0)) from hB.out.setCell hg5 _)
      obtain ⟨q, hq⟩ : ∃ q, q = 48 + j := ⟨_, rfl⟩
      rw [← hq] at gc gf HS hBS ⊢
      have HQ := Lib.hid hq
      have hqb : q < 64 := by omega
      clear hold hS hO hq
      go_wp2_with fail
      go_roundw
      case rel => exact ⟨j + 1, by omega, by rw [show 48 + (j + 1) = q + 1 by have := HQ.out; omega]; go_num, HS, hBS⟩
      case measure => simp [intOf]; omega
    · have hj16 : j = 16 := by omega
      have hF : Own wr w4.heap.size (.slice (some ⟨g5, 0, none⟩) n2 c5) D := by
        have h0 := hO.out
        rwa [hj16, HOB.out] at h0
      obtain ⟨_, _, e0, h5⟩ := hF.holds hbb (by rw [HBL.out]; omega)
      rw [HBL.out] at e0 h5
      simp only [Value.slice.injEq, true_and] at e0
      obtain ⟨rfl, rfl⟩ := e0
      have H5 := Lib.hid h5
      have hs4w := b4.out.size
      have A4r := Lib.hid ((A4.out.over B5.out).below hB.out s4)
      have Br := Lib.hid ((step b4.out B5.out).trans (hB.out.mono hs4w))
      rw [hj16]
      clear h5 hF hO hB
      go_wp2_with fail
      refine (cm _ (HH.out.over Br.out) _ _ H5.out).out.mono ?_
      rintro e w11 ⟨rfl, b11⟩
      have A411 := Lib.hid (A4r.out.over b11)
      have B11 := Lib.hid (step Br.out b11)
      clear b11 A4r Br H5
      go_wp2_with fail
      refine (CHF _).out.mono ?_
      rintro e w12 ⟨rfl, b12⟩
      have A412 := Lib.hid (A411.out.over b12)
      have B12 := Lib.hid (step B11.out b12)
      clear b12 A411 B11
      go_wp2_with (first
        | ((with_reducible show wpList _ _ _ (⟨none, .store _ (.tmp 4) _, _, _, _, _⟩ :: _) _ _); refine wpList_store_arr rfl _ (.tmp 4) (.tmp 20) rfl g4 rfl .u8 _ _ R rfl A412 16 size_g HZ HR ?_; intro w19 A19 o19 s19)
        | fail)
      refine bodyPost_ret (v := .agg (R.map (Value.int .u8)).toArray) ?_ rfl ⟨rfl, B12.out.trans (o19.out.below e4)⟩
      exact results_cell_row rfl _ _ g4 _ _ (0, 0) _ rfl A19.out Tryd.underlying26 rfl (by rw [size_g]; have := HR.out; simp [this])

set_option maxRecDepth 100000 in
set_option maxHeartbeats 4000000 in
theorem RSign_any (w : World) (A : Option Addr) (n c : Nat) (ks : List Int) (hn : n ≤ 140737488355100) (h : Holds w w.heap.size A n c ks) (A2 : Option Addr) (n2 c2 : Nat) (ms : List Int) (hn2 : n2 ≤ 140737488355100) (h2 : Holds w w.heap.size A2 n2 c2 ms) :
    Calls Tryd.prog 18 #[.slice A n c, .slice A2 n2 c2] w (SignPost w ks ms) := by
  have HL2 := Lib.hid h2.len
  by_cases hlt : n2 < 64
  · have hq : ∀ e w', (e = .returned (.tuple #[.slice none 0 0, .int .i64 2]) ∧ w = w') → SignPost w ks ms e w' := by
      rintro e w' ⟨rfl, rfl⟩
      refine ⟨.slice none 0 0, ?_, ?_, Below.refl _ _⟩
      · unfold signErr; rw [if_pos (by rw [HL2.out]; exact hlt)]
      · unfold signO; rw [if_pos (by rw [HL2.out]; exact hlt)]; exact Own.nil _ _
    have HQ := Lib.hid hq
    clear hq
    go_enter Tryd.func18, Tryd.ntmps18
    go_wp2_with fail
    go_ret2
    exact HQ.out _ _ ⟨rfl, rfl⟩
  · have h64 : 64 ≤ n2 := by omega
    have hov : overRow ms (sigL ks ms) 16 = signL ks ms := by
      unfold overRow signL
      rw [List.take_of_length_le (l := sigL ks ms) (by rw [sigL_len]; omega)]
    have hq : ∀ e w', (∃ v, e = .returned (.tuple #[v, .int .i64 0]) ∧ Own w' w.heap.size v (overRow ms (sigL ks ms) 16) ∧ Below w.heap.size w w') → SignPost w ks ms e w' := by
      rintro e w' ⟨v, rfl, ho, hb⟩
      rw [hov] at ho
      refine ⟨v, ?_, ?_, hb⟩
      · unfold signErr; rw [if_neg (by rw [HL2.out]; exact hlt)]
      · unfold signO; rw [if_neg (by rw [HL2.out]; exact hlt)]; exact ho
    have cg := fun w h h2 => Lib.hid (Rsignature_any w A n c ks hn h A2 n2 c2 ms h64 hn2 h2)
    have HR : Hid ((sigL ks ms).length = 16) := sigL_len _ _
    have hRb := sigL_bytes ks ms
    clear hov
    obtain ⟨R, hR⟩ : ∃ R, R = sigL ks ms := ⟨_, rfl⟩
    rw [← hR] at cg HR hRb hq
    have HQ := Lib.hid hq
    obtain ⟨Z, hZ⟩ : ∃ Z : List Int, Z = List.replicate 16 0 := ⟨_, rfl⟩
    have HZ := len0 16
    have hz1 := zero_g
    rw [← hZ] at HZ hz1
    have HZ1 := Lib.hid hz1
    have HH := Lib.hid h
    have HH2 := Lib.hid h2
    have hge : (64 : Int) ≤ (n2 : Int) := by omega
    clear hq hR hZ hz1 h h2
    go_enter Tryd.func18, Tryd.ntmps18
    go_wp2_with fail
    refine (cg _ HH.out HH2.out).out.mono ?_
    rintro e w1 ⟨rfl, b1⟩
    have B1 := Lib.hid b1
    clear b1
    go_wp2_with (first
      | ((with_reducible show wpList _ _ _ (⟨some 6, _, _, _, _, _⟩ :: _) _ _); refine wpList_alloc_arr rfl _ rfl .u8 Z 16 HZ1 ?_; intro g6 w5 e5 s5 A5 b5)
      | ((with_reducible show wpList _ _ _ (⟨none, .store _ (.tmp 6) _, _, _, _, _⟩ :: _) _ _); refine wpList_store_arr rfl _ (.tmp 6) (.tmp 14) rfl g6 rfl .u8 _ _ R rfl A5 16 size_g HZ HR ?_; intro w6 A6 o6 s6; have hs1 := B1.out.size; have B6 : Hid (Below w.heap.size w w6) := (step B1.out b5.out).trans (o6.out.below (by omega)))
      | (at_builtin; refine wpList_append_bytes rfl (.tmp 15) (.tmp 16) rfl w6.heap.size _ [] rfl (Own.nil _ _) _ A2 n2 c2 ms rfl (HH2.out.over B6.out) (by rw [HL2.out]; simp; omega) (Nat.le_refl _) ?_; intro v7 w7 o7 b7 _; rw [List.nil_append] at o7)
      | fail)
    obtain ⟨_, _, c7, rfl, hl7, _, _, _, hcells⟩ := OwnK.open (show OwnK .u8 5 w7 w6.heap.size v7 ms from o7.out)
    rw [HL2.out] at hl7
    subst hl7
    obtain ⟨g7, rfl, hg7, _, _⟩ := hcells (by omega)
    have B7 := Lib.hid b7
    have A67 := Lib.hid (A6.out.over b7)
    have hs6 := B6.out.size
    have l67 : g6 < w6.heap.size := s6
    clear hcells b7 A6 A5 b5 o6
    go_loopw [8] (fun i wr => ∃ j : Nat, j ≤ 16 ∧ i = .int .i64 j ∧ Hid (OwnK .u8 5 wr w6.heap.size (.slice (some ⟨g7, 0, none⟩) n2 c7) (overRow ms R j)) ∧ Hid (Below w6.heap.size w7 wr)) (fun i _ => 16 - (intOf i).toNat)
    case atStart => exact ⟨0, by omega, rfl, by rw [overRow_zero]; exact o7, Below.refl _ _⟩
    case round =>
      obtain ⟨j, hj, rfl, hO, hB⟩ := hrel
      by_cases hlt2 : j < 16
      · have gc := hO.out.cell (i := 48 + j) (by omega)
        have gf := hO.out.frozen (48 + j)
        have gs := (A67.out.below hB.out l67).cell (i := j) (by rw [HR.out]; exact hlt2)
        have hS := hO.out.set (48 + j) (R.getD j 0)
        rw [overRow_set ms R j (by rw [HL2.out]; omega) HR.out hlt2] at hS
        obtain ⟨old, hold⟩ : ∃ old, old = (overRow ms R j).getD (48 + j) 0 := ⟨_, rfl⟩
        rw [← hold] at gc
        have hbk := hRb.getD j
        obtain ⟨y, hy⟩ : ∃ y, y = R.getD j 0 := ⟨_, rfl⟩
        rw [← hy] at gs hS hbk
        obtain ⟨hbk0, hbk1⟩ := hbk
        have HS := Lib.hid hS
        have hBS := Lib.hid (show Below w6.heap.size w7 (wr.setCell ⟨g7, 48 + j, none⟩ (.int .u8 y)) from hB.out.setCell hg7 _)
        clear hold hS hO hy
        go_wp2_with fail
        go_roundw
        case rel => exact ⟨j + 1, by omega, by go_num, HS, hBS⟩
        case measure => simp [intOf]; omega
      · have hj16 : j = 16 := by omega
        have hF : Hid (Own wr w.heap.size (.slice (some ⟨g7, 0, none⟩) n2 c7) (overRow ms R 16)) := by
          have h0 := hO.out
          rw [hj16] at h0
          exact h0.mono hs6
        have Br := Lib.hid ((step B6.out B7.out).trans (hB.out.mono hs6))
        rw [hj16]
        clear hO hB
        go_wp2_with fail
        go_ret2
        exact HQ.out _ _ ⟨_, rfl, hF.out, Br.out⟩

set_option maxRecDepth 100000 in
set_option maxHeartbeats 4000000 in
theorem RCheck_any (w : World) (A : Option Addr) (n c : Nat) (ks : List Int) (hn : n ≤ 140737488355100) (h : Holds w w.heap.size A n c ks) (A2 : Option Addr) (n2 c2 : Nat) (ms : List Int) (hn2 : n2 ≤ 140737488355100) (h2 : Holds w w.heap.size A2 n2 c2 ms) :
    Calls Tryd.prog 21 #[.slice A n c, .slice A2 n2 c2] w fun e w' => e = .returned (.int .i64 (checkErr ks ms)) ∧ Below w.heap.size w w' := by
  have HL2 := Lib.hid h2.len
  by_cases hlt : n2 < 64
  · have he : checkErr ks ms = 2 := by unfold checkErr; rw [if_pos (by rw [HL2.out]; exact hlt)]
    rw [he]
    clear he
    go_enter Tryd.func21, Tryd.ntmps21
    go_wp2_with fail
    go_ret
    exact ⟨rfl, Below.refl _ _⟩
  · have h64 : 64 ≤ n2 := by omega
    obtain ⟨b, off, rfl, hbb, hcc⟩ := h2.cells (by omega)
    have he : checkErr ks ms = if decide ((ms.drop 48).take 16 = sigL ks ms) = true then 0 else 6 := by
      unfold checkErr
      rw [if_neg (by rw [HL2.out]; exact hlt)]
      rfl
    have cg := fun w h h2 => Lib.hid (Rsignature_any w A n c ks hn h (some ⟨b, off, none⟩) n2 c2 ms h64 hn2 h2)
    have HR : Hid ((sigL ks ms).length = 16) := sigL_len _ _
    have HM : Hid (((ms.drop 48).take 16).length = 16) := by have := HL2.out; show _ = _; rw [List.length_take, List.length_drop]; omega
    have hmid : ∀ i, i < 16 → w.cell? ⟨b, off + (48 + i), none⟩ = some (.int .u8 (((ms.drop 48).take 16).getD i 0)) := fun i hi => by
      rw [hcc (48 + i) (by omega)]
      simp [List.getD_eq_getElem?_getD, List.getElem?_drop, hi]
    obtain ⟨R, hR⟩ : ∃ R, R = sigL ks ms := ⟨_, rfl⟩
    obtain ⟨M, hM⟩ : ∃ M, M = (ms.drop 48).take 16 := ⟨_, rfl⟩
    rw [← hR] at cg HR he
    rw [← hM] at HM hmid he
    have HE : Hid (checkErr ks ms = if decide (M = R) = true then 0 else 6) := he
    obtain ⟨E, hE⟩ : ∃ E, E = checkErr ks ms := ⟨_, rfl⟩
    rw [← hE] at HE ⊢
    obtain ⟨Z, hZ⟩ : ∃ Z : List Int, Z = List.replicate 16 0 := ⟨_, rfl⟩
    have HZ := len0 16
    have hz1 := zero_g
    rw [← hZ] at HZ hz1
    have HZ1 := Lib.hid hz1
    have HH := Lib.hid h
    have HH2 := Lib.hid h2
    have HMID := Lib.hid hmid
    have hge : (64 : Int) ≤ (n2 : Int) := by omega
    clear he hR hM hE hZ hz1 h h2 hmid hcc
    go_enter Tryd.func21, Tryd.ntmps21
    go_wp2_with fail
    refine (cg _ HH.out HH2.out).out.mono ?_
    rintro e w1 ⟨rfl, b1⟩
    have B1 := Lib.hid b1
    clear b1
    go_wp2_with (first
      | ((with_reducible show wpList _ _ _ (⟨some 5, _, _, _, _, _⟩ :: _) _ _); refine wpList_alloc_arr rfl _ rfl .u8 Z 16 HZ1 ?_; intro g5 w5 e5 s5 A5 b5)
      | ((with_reducible show wpList _ _ _ (⟨none, .store _ (.tmp 5) _, _, _, _, _⟩ :: _) _ _); refine wpList_store_arr rfl _ (.tmp 5) (.tmp 12) rfl g5 rfl .u8 _ _ R rfl A5 16 size_g HZ HR ?_; intro w6 A6 o6 s6)
      | fail)
    have hs1 := B1.out.size
    have B6 : Hid (Below w.heap.size w w6) := (step B1.out b5.out).trans (o6.out.below (by omega))
    have C6 : Hid (∀ i, i < 16 → w6.cell? ⟨b, off + (48 + i), none⟩ = some (.int .u8 (M.getD i 0))) := fun i hi => by
      rw [← HMID.out i hi]
      exact B6.out.cell (p := ⟨b, off + (48 + i), none⟩) hbb
    clear B1 b5 A5 o6 e5 s5 HMID hs1
    go_loopw [6] (fun i wr => ∃ j : Nat, j ≤ 16 ∧ i = .int .i64 j ∧ Hid (M.take j = R.take j) ∧ ∃ d, wr = w6.drewN d) (fun i _ => 16 - (intOf i).toNat)
    case atStart => exact ⟨0, by omega, rfl, rfl, 0, rfl⟩
    case round =>
      obtain ⟨j, hj, rfl, HT, d, rfl⟩ := hrel
      by_cases hlt2 : j < 16
      · have gm : (w6.drewN d).cell? ⟨b, off + (48 + j), none⟩ = some (.int .u8 (M.getD j 0)) := C6.out j hlt2
        have gs : (w6.drewN d).cell? ⟨g5, j, none⟩ = some (.int .u8 (R.getD j 0)) := A6.out.cell (i := j) (by rw [HR.out]; exact hlt2)
        obtain ⟨x, hx⟩ : ∃ x, x = M.getD j 0 := ⟨_, rfl⟩
        obtain ⟨y, hy⟩ : ∃ y, y = R.getD j 0 := ⟨_, rfl⟩
        rw [← hx] at gm
        rw [← hy] at gs
        have HX := Lib.hid hx
        have HY := Lib.hid hy
        obtain ⟨wq, hwq⟩ : ∃ wq, wq = w6.drewN d := ⟨_, rfl⟩
        rw [← hwq] at gm gs ⊢
        have HWQ := Lib.hid hwq
        have i1 : IntKind.i64.wrap (48 + (j : Int)) = ((48 + j : Nat) : Int) := by rw [IntWalk.i64_in _ (by omega)]; omega
        have i2 : (((48 + j : Nat) : Int)).toNat = 48 + j := by omega
        have k0 : (0 : Int) ≤ ((48 + j : Nat) : Int) := by omega
        have k1 : ((48 + j : Nat) : Int) < (n2 : Int) := by omega
        have k2 : (0 : Int) ≤ (j : Int) := by omega
        have k3 : (j : Int) < 16 := by omega
        clear hx hy hwq
        by_cases he : x = y
        · have hS : Hid (M.take (j + 1) = R.take (j + 1)) := take_eq_step (by have := HM.out; omega) (by have := HR.out; omega) HT.out (by rw [← HX.out, ← HY.out, he])
          clear HX HY HT
          subst he
          have hb0 : (x != x) = false := by simp
          go_wp2_with fail
          go_quiet (fail)
          go_wp2_with fail
          go_roundw
          case rel => exact ⟨j + 1, by omega, by go_num, hS, _, by rw [HWQ.out, World.drewN_drewN]⟩
          case measure => simp [intOf]; omega
        · have hS := Lib.hid (ne_of_getD (xs := M) (ys := R) (k := j) (by rw [← HX.out, ← HY.out]; exact he))
          clear HX HY HT
          have hb0 : (x != y) = true := by simpa using he
          clear he
          go_wp2_with fail
          go_quiet (fail)
          go_wp2_with fail
          go_ret
          refine ⟨ret_int ?_, ?_⟩
          · rw [HE.out, hS.out]; rfl
          · rw [HWQ.out]; exact below_drewN (below_drewN B6.out _) _
      · have hS := Lib.hid (eq_of_take (n := 16) HM.out HR.out (by have := HT.out; rwa [show j = 16 from by omega] at this))
        have hge2 : (16 : Int) ≤ (j : Int) := by omega
        clear HT
        go_wp2_with fail
        go_ret
        refine ⟨ret_int ?_, below_drewN B6.out _⟩
        rw [HE.out, hS.out]; rfl
end Go.Proofs.YtomdgiikjnghcaaDoor
