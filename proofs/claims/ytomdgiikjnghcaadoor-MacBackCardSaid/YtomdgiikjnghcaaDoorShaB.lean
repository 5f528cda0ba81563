/-
  Contract of the program's layer 3 (sha): words.
-/
import Derived.Test.YtomdgiikjnghcaaDoorShaA
import Derived.Test.YtomdgiikjnghcaaDoorArr
import Derived.StillTailTactics
import Derived.Deep.RegionLaw
namespace Go.Proofs.YtomdgiikjnghcaaDoor
open Go.RowKit

theorem zero_w : (Tryd.prog.info? 60).map (fun i => (i.zero, i.size)) = some (some (.agg ((List.replicate 64 (0 : Int)).map (Value.int .u32)).toArray), 64) := by kernel_rfl
theorem size_w : (Tryd.prog.info? 60).map (·.size) = some 64 := by kernel_rfl
theorem built_w : Tryd.prog.built 60 [] = some ((List.replicate 64 (0 : Int)).map (Value.int .u32)).toArray := by kernel_rfl
theorem size_b : (Tryd.prog.info? 44).map (·.size) = some 64 := by kernel_rfl
theorem one_u8 : (Tryd.prog.info? 5).map (·.size) = some 1 := by kernel_rfl
theorem one_u32 : (Tryd.prog.info? 54).map (·.size) = some 1 := by kernel_rfl
theorem len0 (n : Nat) : Hid ((List.replicate n (0 : Int)).length = n) := by show _ = _; rw [List.length_replicate]

set_option maxHeartbeats 1000000 in
theorem words_any (w : World) (xs : List Int) (hl : xs.length = 64) (hx : Bytes xs) :
    Calls Tryd.prog 49 #[.agg (xs.map (Value.int .u8)).toArray] w fun e w' => e = .returned (.agg ((sched xs).map (Value.int .u32)).toArray) ∧ Below w.heap.size w w' := by
  have HL := Lib.hid hl
  obtain ⟨Z, hZ⟩ : ∃ Z : List Int, Z = List.replicate 64 0 := ⟨_, rfl⟩
  have HZ := len0 64
  have hz1 := zero_w
  have hz2 := built_w
  rw [← hZ] at HZ hz1 hz2
  have HZ1 := Lib.hid hz1
  have HZ2 := Lib.hid hz2
  have HZe := Lib.hid hZ
  clear hl hZ hz1 hz2
  go_enter Tryd.func49, Tryd.ntmps49
  go_wp2_with (first
    | (refine wpList_box_arr rfl _ (.tmp 0) rfl .u8 xs rfl ?_; intro g1 w1 e1 s1 A1 b1)
    | ((with_reducible show wpList _ _ _ (⟨some 2, _, _, _, _, _⟩ :: _) _ _); refine wpList_alloc_arr rfl _ rfl .u32 Z 64 HZ1 ?_; intro g2 w2 e2 s2 A2 b2)
    | ((with_reducible show wpList _ _ _ (⟨some 3, _, _, _, _, _⟩ :: _) _ _); refine wpList_alloc_arr rfl _ rfl .u32 Z 64 HZ1 ?_; intro g3 w3 e3 s3 A3 b3)
    | (refine wpList_build_zero rfl _ rfl .u32 Z HZ2 ?_)
    | ((with_reducible show wpList _ _ _ (⟨none, _, _, _, _, _⟩ :: _) _ _); refine wpList_store_arr rfl _ (.tmp 3) (.tmp 11) rfl g3 rfl .u32 _ _ _ rfl A3 64 size_w HZ HZ ?_; intro w4 A4 o4 s4; have A14 := Lib.hid (((A1.out.over b2.out).over b3.out).only o4.out (by omega)))
    | (refine wpList_load_arr rfl _ (.tmp 1) rfl g1 rfl .u8 _ xs A14 64 _ Tryd.underlying44 size_b HL ?_)
    | fail)
  have A24 := Lib.hid (((A2.out.over b3.out)).only o4.out (by omega))
  have B4 : Hid (Below w.heap.size w w4) := (step b1.out (step b2.out b3.out)).trans (o4.out.below (by omega))
  have l23 : g2 < g3 := by omega
  have lw3 : w.heap.size ≤ g3 := by omega
  have lw2 : w.heap.size ≤ g2 := by omega
  clear A1 A14 A2 A3 b1 b2 b3 o4 s1 s2 s3 e2 e3
  go_loopw [13] (fun i wr => ∃ k : Nat, k ≤ 64 ∧ i = .int .i64 k ∧ Hid (Arr wr g3 .u32 60 (partRow xs k)) ∧ Hid (Only g3 w4 wr)) (fun i _ => 64 - (intOf i).toNat)
  case atStart => exact ⟨0, by omega, rfl, by rw [partRow_zero, ← HZe.out]; exact A4, Only.refl _ _⟩
  case round =>
    obtain ⟨k, hk, rfl, hR, hO⟩ := hrel
    by_cases hlt : k < 64
    · have hq : k / 4 < 64 := by omega
      have gc := hR.out.cell (i := k / 4) (by rw [partRow_len]; exact hq)
      have gf := hR.out.frozen (k / 4)
      rw [partRow_getD _ _ _ hq] at gc
      have hws := word_small xs hx k (by rw [HL.out]; exact hlt)
      obtain ⟨z, hz⟩ : ∃ z, z = word (xs.take k) (k / 4) := ⟨_, rfl⟩
      have hb := hx.getD k
      obtain ⟨y, hy⟩ : ∃ y, y = xs.getD k 0 := ⟨_, rfl⟩
      have hS := hR.out.set (k / 4) (z * 256 + y)
      rw [hz, hy, partRow_set xs k (by rw [HL.out]; exact hlt), ← hz, ← hy] at hS
      have HS := Lib.hid hS
      rw [← hz] at gc hws
      rw [← hy] at hb
      have e1 := or_byte32 z y hws.1 hws.2 hb.1 hb.2
      have HY := Lib.hid hy
      clear hz hS hy hR
      obtain ⟨hw0, hw1⟩ := hws
      obtain ⟨hb0, hb1⟩ := hb
      go_wp2_with (first
        | (refine wpList_index_arr rfl _ (.tmp 12) (.tmp 13) rfl .u8 xs rfl 64 _ Tryd.underlying44 Tryd.underlying5 one_u8 k rfl hlt HL ?_; rw [← HY.out])
        | fail)
      go_roundw
      case rel => exact ⟨k + 1, by omega, by go_num, HS, hO.out.setCell _ _⟩
      case measure => simp [intOf]; omega
    · have hS := hR.out
      rw [show k = 64 by omega, partRow_full xs HL.out] at hS
      have hge : (64 : Int) ≤ (k : Int) := by omega
      have HS : Hid (Arr wr g3 .u32 60 (schedRow xs 0)) := hS
      have A2r := Lib.hid (A24.out.only hO.out (by omega))
      have Br : Hid (Below w.heap.size w wr) := B4.out.trans (hO.out.below (by omega))
      have s3 := hS.lt
      clear hR hS hO A4 A24 B4 hlt s4
      go_wp2_with fail
      obtain ⟨w5, hw5⟩ : ∃ w5, w5 = wr := ⟨_, rfl⟩
      rw [← hw5] at A2r Br s3 HS ⊢
      clear hw5
      go_loopw [6] (fun i wr => ∃ t : Nat, 16 ≤ t ∧ t ≤ 64 ∧ i = .int .i64 t ∧ Hid (Arr wr g3 .u32 60 (schedRow xs (t - 16))) ∧ Hid (Only g3 w5 wr)) (fun i _ => 64 - (intOf i).toNat)
      case atStart => exact ⟨16, by omega, by omega, rfl, HS, Only.refl _ _⟩
      case round =>
        obtain ⟨t, ht, hk, rfl, hR, hO⟩ := hrel
        have hlen := Lib.hid (schedRow_len xs (t - 16) (by omega))
        by_cases hlt : t < 64
        · have g15 := hR.out.cell (i := t - 15) (by rw [hlen.out]; omega)
          have g2' := hR.out.cell (i := t - 2) (by rw [hlen.out]; omega)
          have g7 := hR.out.cell (i := t - 7) (by rw [hlen.out]; omega)
          have g16 := hR.out.cell (i := t - 16) (by rw [hlen.out]; omega)
          have hw := schedRow_w xs hx (t - 16)
          have b15 := hw.getD (t - 15)
          have b2 := hw.getD (t - 2)
          obtain ⟨x15, hx15⟩ : ∃ x, x = (schedRow xs (t - 16)).getD (t - 15) 0 := ⟨_, rfl⟩
          obtain ⟨x2, hx2⟩ : ∃ x, x = (schedRow xs (t - 16)).getD (t - 2) 0 := ⟨_, rfl⟩
          obtain ⟨x7, hx7⟩ : ∃ x, x = (schedRow xs (t - 16)).getD (t - 7) 0 := ⟨_, rfl⟩
          obtain ⟨x16, hx16⟩ : ∃ x, x = (schedRow xs (t - 16)).getD (t - 16) 0 := ⟨_, rfl⟩
          rw [← hx15] at g15 b15
          rw [← hx2] at g2' b2
          rw [← hx7] at g7
          rw [← hx16] at g16
          have H15 := Lib.hid hx15
          have H2 := Lib.hid hx2
          have H7 := Lib.hid hx7
          have H16 := Lib.hid hx16
          clear hx15 hx2 hx7 hx16 hw
          have gf := hR.out.frozen t
          have c7 := fun w => Lib.hid (turn_any w x15 7 b15 (by omega))
          have c18 := fun w => Lib.hid (turn_any w x15 18 b15 (by omega))
          have c17 := fun w => Lib.hid (turn_any w x2 17 b2 (by omega))
          have c19 := fun w => Lib.hid (turn_any w x2 19 b2 (by omega))
          obtain ⟨b150, b151⟩ := b15
          obtain ⟨b20, b21⟩ := b2
          have i15 : IntKind.i64.wrap ((t : Int) - 15) = (t : Int) - 15 := IntWalk.i64_in _ (by omega)
          have i2 : IntKind.i64.wrap ((t : Int) - 2) = (t : Int) - 2 := IntWalk.i64_in _ (by omega)
          have j15 : 0 ≤ (t : Int) - 15 := by omega
          have j2 : 0 ≤ (t : Int) - 2 := by omega
          have k15 : (t : Int) - 15 < 64 := by omega
          have k2 : (t : Int) - 2 < 64 := by omega
          have n15 : ((t : Int) - 15).toNat = t - 15 := by omega
          have n2 : ((t : Int) - 2).toNat = t - 2 := by omega
          go_wp2_with fail
          go_quiet (fail)
          clear i15 i2 j15 j2 k15 k2 n15 n2 b150 b151 b20 b21
          go_wp2_with fail
          refine (c7 _).out.mono ?_
          rintro e w' ⟨rfl, rfl⟩
          go_wp2_with fail
          refine (c18 _).out.mono ?_
          rintro e w' ⟨rfl, rfl⟩
          go_wp2_with fail
          refine (c17 _).out.mono ?_
          rintro e w' ⟨rfl, rfl⟩
          go_wp2_with fail
          refine (c19 _).out.mono ?_
          rintro e w' ⟨rfl, rfl⟩
          obtain ⟨wx, hwx⟩ : ∃ wx, wx = wr.drewN nq := ⟨_, rfl⟩
          have hRx : Hid (Arr wx g3 .u32 60 (schedRow xs (t - 16))) := by rw [hwx]; exact hR.out.drewN nq
          have hOx : Hid (Only g3 w5 wx) := by rw [hwx]; exact hO.out.drewN nq
          rw [← hwx]
          clear g7 g16 gf hR hO hwx
          have g7 := hRx.out.cell (i := t - 7) (by rw [hlen.out]; omega)
          have g16 := hRx.out.cell (i := t - 16) (by rw [hlen.out]; omega)
          have g0 := hRx.out.cell (i := t) (by rw [hlen.out]; omega)
          have gf := hRx.out.frozen t
          rw [← H7.out] at g7
          rw [← H16.out] at g16
          obtain ⟨x0, hx0⟩ : ∃ x, x = (schedRow xs (t - 16)).getD t 0 := ⟨_, rfl⟩
          rw [← hx0] at g0
          clear hx0
          have i7 : IntKind.i64.wrap ((t : Int) - 7) = (t : Int) - 7 := IntWalk.i64_in _ (by omega)
          have i16 : IntKind.i64.wrap ((t : Int) - 16) = (t : Int) - 16 := IntWalk.i64_in _ (by omega)
          have j7 : 0 ≤ (t : Int) - 7 := by omega
          have j16 : 0 ≤ (t : Int) - 16 := by omega
          have k7 : (t : Int) - 7 < 64 := by omega
          have k16 : (t : Int) - 16 < 64 := by omega
          have n7 : ((t : Int) - 7).toNat = t - 7 := by omega
          have n16 : ((t : Int) - 16).toNat = t - 16 := by omega
          go_wp2_with fail
          have m7 : 7 ≤ (t : Int) := by omega
          have m16 : 16 ≤ (t : Int) := by omega
          go_still_tail 15, (by kernel_rfl)

          change wpList _ _ _ _ _ wx.drew
          go_wp2_with fail

          go_roundw
          case rel =>
            refine ⟨t + 1, by omega, by omega, by go_num, ?_, (hOx.out.setCell _ _).drewN 1⟩
            have hS := hRx.out.set t (nextW (schedRow xs (t - 16)) t)
            have hq := schedRow_set xs (t - 16) (by omega) (nextW (schedRow xs (t - 16)) t) (by rw [show 16 + (t - 16) = t by omega])
            rw [show 16 + (t - 16) = t by omega] at hq
            rw [hq] at hS
            rw [show t + 1 - 16 = t - 16 + 1 by omega]
            have e : ∀ a b c d : Int, (a + b + c + d) % 4294967296 = IntKind.u32.wrap (IntKind.u32.wrap (IntKind.u32.wrap (a + b) + c) + d) := by
              intro a b c d
              simp only [IntKind.wrap_u32']
              omega
            have hn : nextW (schedRow xs (t - 16)) t = (sig1 x2 + x7 + sig0 x15 + x16) % 4294967296 := by
              rw [e]
              unfold nextW
              rw [← H15.out, ← H2.out, ← H7.out, ← H16.out]
            rw [hn] at hS
            exact hS.drew
          case measure => simp [intOf]; omega
        · have hge2 : (64 : Int) ≤ (t : Int) := by omega
          have hS := hR.out
          rw [show t = 64 by omega] at hS
          have hF : Hid (Arr wr g3 .u32 60 (sched xs)) := by
            have e : schedRow xs 48 = sched xs := by unfold schedRow sched; simp
            rw [← e]
            exact hS
          have A2f := Lib.hid (A2r.out.only hO.out (by omega))
          have Bf : Hid (Below w.heap.size w wr) := Br.out.trans (hO.out.below lw3)
          have HLs := Lib.hid (sched_len xs)
          obtain ⟨Sc, hSc⟩ : ∃ Sc, Sc = sched xs := ⟨_, rfl⟩
          rw [← hSc] at hF HLs
          have HSc := Lib.hid hSc
          clear hS hR hO hSc
          go_wp2_with (first
            | ((with_reducible show wpList _ _ _ (⟨some 72, _, _, _, _, _⟩ :: _) _ _); refine wpList_load_arr rfl _ (.tmp 3) rfl g3 rfl .u32 _ Sc hF 64 _ Tryd.underlying60 size_w HLs ?_)
            | ((with_reducible show wpList _ _ _ (⟨none, _, _, _, _, _⟩ :: _) _ _); refine wpList_store_arr rfl _ (.tmp 2) (.tmp 72) rfl g2 rfl .u32 _ _ _ rfl A2f 64 size_w HZ HLs ?_; intro w6 A6 o6 s6)
            | fail)
          rw [← HSc.out]
          refine bodyPost_ret (v := .agg (Sc.map (Value.int .u32)).toArray) ?_ rfl ⟨rfl, Bf.out.trans (o6.out.below (by omega))⟩
          exact results_cell_row rfl _ _ g2 _ _ (0, 0) _ rfl A6.out Tryd.underlying60 rfl (by rw [size_w]; have := HLs.out; simp [this])
end Go.Proofs.YtomdgiikjnghcaaDoor
