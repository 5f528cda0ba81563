/-
  The walk of the statement MacProof: a proof is the sum of the challenge by the password's bytes; a key of a key is the first half of a sum.
-/
import Derived.Test.YtomdgiikjnghcaaDoorWorksM
import Derived.Test.YtomdgiikjnghcaaDoorOpen
import Derived.BigQuiet
namespace Go.Proofs.YtomdgiikjnghcaaDoor
open Go.RowKit
set_option linter.unusedVariables false

theorem zero_8 : (Tryd.prog.info? 23).map (·.size) = some 8 := by kernel_rfl

set_option maxRecDepth 100000 in
set_option maxHeartbeats 4000000 in
theorem walk_MacProof (W : World) (hT : KTab W) (a0 : ByteArray) (w0 : a0.size ≤ 140737488351232) (x1 : List Int) (l1 : x1.length = 8) (w1 : ∀ x ∈ x1, (Lit.int .u8 x).wf = true)
    (A2 : Option Addr) (n2 c2 : Nat) (z2 : List Int) (l2 : n2 ≤ c2) (r2 : c2 ≤ 140737488351232) (h2 : Holds W W.heap.size A2 c2 c2 z2) :
    Calls Tryd.prog 8 #[.string a0, .agg (x1.map (Value.int .u8)).toArray, .slice A2 n2 c2] W fun e W' => e = .returned (.bool true) ∧ Below W.heap.size W W' := by
  have hk := h2.head l2
  obtain ⟨ks, hks⟩ : ∃ xs, xs = z2.take n2 := ⟨_, rfl⟩
  rw [← hks] at hk
  have hx1 : Bytes x1 := fun x hx => wf8 (w1 x hx)
  have cw := fun w hK => Lib.hid (works_any w hK)
  have c1' := fun w A c h A2 c2 h2 hK => Mac_any w A a0.size c (textL a0) (by omega) h A2 8 c2 x1 (by omega) h2 hK
  have c4' := fun w hK => Proof_any w a0 (by omega) x1 l1 hx1 hK
  have c2' := fun w h hK => Derive_any w A2 n2 c2 ks (by omega) h ⟨#[]⟩ ⟨#[]⟩ (by decide) hK
  have c3' := fun w h A3 c3 h3 hK => Mac_any w A2 n2 c2 ks (by omega) h A3 9 c3 [0, 0, 0, 1, 0, 0, 0, 0, 128] (by omega) h3 hK
  have hd : deriveL ks (textL ⟨#[]⟩) (textL ⟨#[]⟩) = (macL ks [0, 0, 0, 1, 0, 0, 0, 0, 128]).take 16 := rfl
  have HP : Hid ((macL (textL a0) x1).length = 32) := macL_len _ _
  have HS : Hid ((macL ks [0, 0, 0, 1, 0, 0, 0, 0, 128]).length = 32) := macL_len _ _
  rw [hd] at c2'
  obtain ⟨p, hp⟩ : ∃ p, p = macL (textL a0) x1 := ⟨_, rfl⟩
  obtain ⟨s, hs⟩ : ∃ p, p = macL ks [0, 0, 0, 1, 0, 0, 0, 0, 128] := ⟨_, rfl⟩
  rw [← hp] at c1' c4' HP
  rw [← hs] at c2' c3' HS
  have HD : Hid ((s.take 16).length = 16) := len16 s HS.out
  have HDG : Hid (∀ i, i < 16 → (s.take 16).getD i 0 = s.getD i 0) := fun i hi => by simp [List.getD_eq_getElem?_getD, hi]
  obtain ⟨d, hd0⟩ : ∃ p, p = s.take 16 := ⟨_, rfl⟩
  rw [← hd0] at c2' HD HDG
  have C1 := fun w A c h A2 c2 h2 hK => Lib.hid (c1' w A c h A2 c2 h2 hK)
  have C2 := fun w h hK => Lib.hid (c2' w h hK)
  have C3 := fun w h A3 c3 h3 hK => Lib.hid (c3' w h A3 c3 h3 hK)
  have C4 := fun w hK => Lib.hid (c4' w hK)
  have q1 := fun w => run_equalIn_arr (P := Tryd.prog) Tryd.underlying24 Tryd.underlying5 one_u8 p HP.out 9998 w
  have qg : Tryd.prog.eqGuardType Tryd.prog.depth 24 = false := by kernel_rfl
  have HT := Lib.hid hT
  have HK := Lib.hid hk
  have HXL := Lib.hid l1
  obtain ⟨X, hX⟩ : ∃ Z : List Int, Z = List.replicate 32 0 := ⟨_, rfl⟩
  have HX := len0 32
  have hxz := zero_m
  rw [← hX] at HX hxz
  have HX1 := Lib.hid hxz
  obtain ⟨Z, hZ⟩ : ∃ Z : List Int, Z = List.replicate 16 0 := ⟨_, rfl⟩
  have HZ := len0 16
  have hzz := zero_g
  rw [← hZ] at HZ hzz
  have HZ1 := Lib.hid hzz
  clear hks hp hs hd0 hd c1' c2' c3' c4' h2 hk hT l1 w1 hX hxz hZ hzz
  go_enter Tryd.func8, Tryd.ntmps8
  go_wp2_with (first
    | ((with_reducible show wpList _ _ _ (⟨some 4, _, _, _, _, _⟩ :: _) _ _); refine wpList_box_arr rfl _ (.tmp 1) rfl .u8 x1 rfl ?_; intro g4 w4 e4 s4 A4 b4)
    | ((with_reducible show wpList _ _ _ (⟨some 12, _, _, _, _, _⟩ :: _) _ _); refine wpList_text rfl (.tmp 11) rfl a0 rfl (by omega) ?_; intro g12 C12 w12 H12 b12)
    | fail)
  have A412 := Lib.hid (A4.out.over b12.out)
  have B12 := Lib.hid (step b4.out b12.out)
  clear A4 b4 b12
  refine (C1 _ _ _ H12.out _ _ (A412.out.holds (n := 8) HXL.out hx1 (by omega)) (HT.out.below B12.out)).out.mono ?_
  rintro e w13 ⟨rfl, b13⟩
  have A413 := Lib.hid (A412.out.over b13)
  have B13 := Lib.hid (step B12.out b13)
  clear A412 B12 b13 H12 s4
  go_wp2_with (first
    | ((with_reducible show wpList _ _ _ (⟨some 7, _, _, _, _, _⟩ :: _) _ _); refine wpList_alloc_arr rfl _ rfl .u8 X 32 HX1 ?_; intro g7 w7 e7 s7 A7 b7)
    | ((with_reducible show wpList _ _ _ (⟨none, .store _ (.tmp 7) _, _, _, _, _⟩ :: _) _ _); refine wpList_store_arr rfl _ (.tmp 7) (.tmp 14) rfl g7 rfl .u8 _ _ p rfl A7 32 size_o HX HP ?_; intro w17 A17 o17 s17)
    | fail)
  have hs13 := B13.out.size
  have l13 := A413.out.lt
  have A417 := Lib.hid ((A413.out.over b7.out).only o17.out (by omega))
  have B17 := Lib.hid ((step B13.out b7.out).trans (o17.out.below (by omega)))
  clear A413 B13 A7 b7 o17 e7 s7 s17 hs13 l13
  refine (C2 _ (HK.out.over B17.out) (HT.out.below B17.out)).out.mono ?_
  rintro e w18 ⟨rfl, b18⟩
  have A418 := Lib.hid (A417.out.over b18)
  have A718 := Lib.hid (A17.out.over b18)
  have B18 := Lib.hid (step B17.out b18)
  clear A417 A17 B17 b18
  go_wp2_with (first
    | ((with_reducible show wpList _ _ _ (⟨some 8, _, _, _, _, _⟩ :: _) _ _); refine wpList_alloc_arr rfl _ rfl .u8 Z 16 HZ1 ?_; intro g8 w8 e8 s8 A8 b8)
    | ((with_reducible show wpList _ _ _ (⟨none, .store _ (.tmp 8) _, _, _, _, _⟩ :: _) _ _); refine wpList_store_arr rfl _ (.tmp 8) (.tmp 16) rfl g8 rfl .u8 _ _ d rfl A8 16 size_g HZ HD ?_; intro w19 A19 o19 s19)
    | ((with_reducible show wpList _ _ _ (⟨some 18, _, _, _, _, _⟩ :: _) _ _); refine wpList_lit8 rfl 9 _ rfl [0, 0, 0, 1, 0, 0, 0, 0, 128] rfl (by omega) (by omega) (Bytes.of_all rfl) rfl ?_; intro g18 w20 H18 b20)
    | fail)
  have hs18 := B18.out.size
  have l418 := A418.out.lt
  have l718 := A718.out.lt
  have b19 : Below w18.heap.size w18 w20 := (b8.out.trans (o19.out.below e8)).trans (b20.out.mono (by have := b8.out.size; have := o19.out.size; omega))
  have A420 := Lib.hid (A418.out.over b19)
  have A720 := Lib.hid (A718.out.over b19)
  have A820 := Lib.hid (A19.out.over b20.out)
  have B20 := Lib.hid (step B18.out b19)
  clear A418 A718 A19 B18 b19 b20 b8 o19 A8 e8 s8 s19 hs18 l418 l718
  refine (C3 _ (HK.out.over B20.out) _ _ H18.out (HT.out.below B20.out)).out.mono ?_
  rintro e w21 ⟨rfl, b21⟩
  have A421 := Lib.hid (A420.out.over b21)
  have A721 := Lib.hid (A720.out.over b21)
  have A821 := Lib.hid (A820.out.over b21)
  have B21 := Lib.hid (step B20.out b21)
  clear A420 A720 A820 B20 b21 H18
  go_wp2_with (first
    | ((with_reducible show wpList _ _ _ (⟨some 9, _, _, _, _, _⟩ :: _) _ _); refine wpList_alloc_arr rfl _ rfl .u8 X 32 HX1 ?_; intro g9 w22 e22 s22 A22 b22)
    | ((with_reducible show wpList _ _ _ (⟨none, .store _ (.tmp 9) _, _, _, _, _⟩ :: _) _ _); refine wpList_store_arr rfl _ (.tmp 9) (.tmp 19) rfl g9 rfl .u8 _ _ s rfl A22 32 size_o HX HS ?_; intro w23 A23 o23 s23)
    | fail)
  have b23 : Below w21.heap.size w21 w23 := b22.out.trans (o23.out.below e22)
  have A423 := Lib.hid (A421.out.over b23)
  have A723 := Lib.hid (A721.out.over b23)
  have A823 := Lib.hid (A821.out.over b23)
  have B23 := Lib.hid (step B21.out b23)
  clear A421 A721 A821 B21 b23 b22 o23 A22 e22 s22 s23
  go_loopw [10] (fun i wr => ∃ j : Nat, j ≤ 16 ∧ i = .int .i64 j ∧ ∃ k, wr = w23.drewN k) (fun i _ => 16 - (intOf i).toNat)
  case atStart => exact ⟨0, by omega, rfl, 0, rfl⟩
  case round =>
    obtain ⟨j, hj, rfl, k, rfl⟩ := hrel
    by_cases hlt : j < 16
    · have gd : (w23.drewN k).cell? ⟨g8, j, none⟩ = some (.int .u8 (d.getD j 0)) := A823.out.cell (i := j) (by rw [HD.out]; exact hlt)
      have gs : (w23.drewN k).cell? ⟨g9, j, none⟩ = some (.int .u8 (s.getD j 0)) := A23.out.cell (i := j) (by rw [HS.out]; omega)
      rw [HDG.out j hlt] at gd
      obtain ⟨y, hy⟩ : ∃ y, y = s.getD j 0 := ⟨_, rfl⟩
      rw [← hy] at gd gs
      obtain ⟨wq, hwq⟩ : ∃ wq, wq = w23.drewN k := ⟨_, rfl⟩
      rw [← hwq] at gd gs ⊢
      have HWQ := Lib.hid hwq
      have hb0 : (y != y) = false := by simp
      have k2 : (0 : Int) ≤ (j : Int) := by omega
      have k3 : (j : Int) < 16 := by omega
      have k4 : (j : Int) < 32 := by omega
      clear hy hwq
      go_wp2_with fail
      go_quiet (fail)
      go_wp2_with fail
      go_roundw
      case rel => exact ⟨j + 1, by omega, by go_num, _, by rw [HWQ.out, World.drewN_drewN]⟩
      case measure => simp [intOf]; omega
    · have hge : (16 : Int) ≤ (j : Int) := by omega
      have B24 : Hid (Below W.heap.size W (w23.drewN k)) := B23.out.trans ⟨rfl, rfl, rfl, Nat.le_refl _, fun _ _ => rfl⟩
      have A424 : Hid (Arr (w23.drewN k) g4 .u8 23 x1) := A423.out.drewN k
      have A724 : Hid (Arr (w23.drewN k) g7 .u8 24 p) := A723.out.drewN k
      obtain ⟨w24, hw24⟩ : ∃ x, x = w23.drewN k := ⟨_, rfl⟩
      rw [← hw24] at B24 A424 A724 ⊢
      clear hw24 A423 A723 A823 A23 B23
      go_upto_region 9 with (fail)
      refine wp_region_held (S := fun w' => Arr w' g4 .u8 23 x1 ∧ Arr w' g7 .u8 24 p) (by kernel_rfl) ?_
      change wpAnyH _ _ _ _ _ _ _ _ w24.drew
      have S0 : Hid (Arr w24.drew g4 .u8 23 x1 ∧ Arr w24.drew g7 .u8 24 p) := ⟨A424.out.drew, A724.out.drew⟩
      have B0 : Hid (Below W.heap.size W w24.drew) := B24.out.drew
      refine wpAnyH_take (i := 0) (v := .string a0) rfl (by kernel_rfl) (by kernel_rfl) (by kernel_rfl) (fun _ _ _ h => h) (.inl ⟨rfl, fun w _ => by go_simp⟩) S0.out ?_
      refine wpAnyH_take (i := 1) (v := _) rfl (by kernel_rfl) (by kernel_rfl) (by kernel_rfl) (fun _ _ _ h => h) (yieldsIf_load_arr rfl _ (.tmp 4) rfl g4 rfl .u8 _ x1 (fun _ h => h.1) 8 _ Tryd.underlying23 zero_8 HXL) S0.out ?_
      refine wpAnyH_take (i := 3) (v := _) rfl (by kernel_rfl) (by kernel_rfl) (by kernel_rfl) (fun _ _ _ h => h) (yieldsIf_load_arr rfl _ (.tmp 7) rfl g7 rfl .u8 _ p (fun _ h => h.2) 32 _ Tryd.underlying24 size_o HP) S0.out ?_
      refine wpAnyH_one 2 _ (by kernel_rfl) rfl fun K hK => ?_
      go_simp
      refine (C4 _ (HT.out.below B0.out)).out.mono ?_
      rintro e w25 ⟨rfl, b25⟩
      have S1 : Hid (Arr w25 g4 .u8 23 x1 ∧ Arr w25 g7 .u8 24 p) := ⟨S0.out.1.over b25, S0.out.2.over b25⟩
      have B1 := Lib.hid (step B0.out b25)
      refine hK _ _ S1.out ?_
      clear hK K b25
      refine wpAnyH_one 4 _ (by kernel_rfl) rfl fun K hK => ?_
      go_simp
      refine hK _ _ S1.out ?_
      clear hK K
      refine wpAnyH_one 5 _ (by kernel_rfl) rfl fun K hK => ?_
      go_simp
      refine hK _ _ S1.out ?_
      clear hK K
      refine wpAnyH_one 6 _ (by kernel_rfl) rfl fun K hK => ?_
      go_simp
      refine (cw _ (HT.out.below B1.out)).out.mono ?_
      rintro e w26 ⟨rfl, b26⟩
      have S2 : Hid (Arr w26 g4 .u8 23 x1 ∧ Arr w26 g7 .u8 24 p) := ⟨S1.out.1.over b26, S1.out.2.over b26⟩
      have B2 := Lib.hid (step B1.out b26)
      refine hK _ _ S2.out ?_
      clear hK K b26
      refine wpAnyH_one 7 _ (by kernel_rfl) rfl fun K hK => ?_
      go_simp
      refine hK _ _ S2.out ?_
      clear hK K
      refine wpAnyH_one 8 _ (by kernel_rfl) rfl fun K hK => ?_
      go_simp
      refine hK _ _ S2.out ?_
      clear hK K
      refine wpAnyH_done (by kernel_rfl) ?_ _
      go_wp2_with fail
      go_ret
      exact ⟨rfl, B2.out⟩
end Go.Proofs.YtomdgiikjnghcaaDoor
