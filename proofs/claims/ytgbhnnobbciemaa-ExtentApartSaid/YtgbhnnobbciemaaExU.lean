/-
  Layer 14 (extent): part and copied of the program (written by tools/gen_exu.py).
-/
import Derived.Test.YtgbhnnobbciemaaExT
import Derived.Test.YtgbhnnobbciemaaClo
import Derived.Test.YtgbhnnobbciemaaStM
import Derived.Laws.Rows
namespace Go.Proofs.Ytgbhnnobbciemaa
set_option maxRecDepth 100000
open Go.RowKit
set_option linter.unusedVariables false

theorem zero_ext2 : (Try.prog.info? 41).map (fun i => (i.zero, i.size)) = some (some (.agg ([.int .i64 0, .slice none 0 0] : List Value).toArray), 2) := by kernel_rfl
theorem ext_one (xa : Nat) (v : Value) (hv : v.oneCell' = true) : Hid (∀ u ∈ [Value.int .i64 (xa : Nat), v], u.oneCell' = true) := fun u hu => by
  simp only [List.mem_cons, List.not_mem_nil, or_false] at hu
  rcases hu with rfl | rfl
  · rfl
  · exact hv
theorem only_cell {w w' : World} {g : Nat} {p : Addr} (hO : Only g w w') (hp : p.block ≠ g) : w'.cell? p = w.cell? p := by
  unfold World.cell?
  rw [hO.rest p.block hp]

set_option maxHeartbeats 4000000 in
theorem part_any (w : World) (xa b off xn xc f t p0 p1 : Nat) (hc : xn ≤ xc) (hxa : xa ≤ 4611686018427387903) (hxn : xn ≤ 4611686018427387903) (hf : f ≤ 4611686018427387903) (ht : t ≤ 4611686018427387903) (h0 : p0 = max f xa) (h1 : p1 = min t (xa + xn)) (hlt : p0 < p1) :
    Calls Try.prog 31 #[.agg #[.int .i64 (xa : Nat), .slice (some ⟨b, off, none⟩) xn xc], .int .i64 (f : Nat), .int .i64 (t : Nat)] w fun e w' =>
      e = .returned (.agg #[.int .i64 (p0 : Nat), .slice (some ⟨b, off + (p0 - xa), none⟩) (p1 - p0) (p1 - p0)]) ∧ Below w.heap.size w w' := by
  have hmax : max (f : Int) (xa : Int) = (p0 : Int) := by omega
  have hmin : min (t : Int) ((xa + xn : Nat) : Int) = (p1 : Int) := by omega
  have hmin2 : min (t : Int) ((xa : Int) + (xn : Int)) = (p1 : Int) := by omega
  have hp0 : xa ≤ p0 := by omega
  have hp1 : p1 ≤ xa + xn := by omega
  obtain ⟨i, hi⟩ : ∃ i, i = p0 - xa := ⟨_, rfl⟩
  obtain ⟨j, hj⟩ : ∃ j, j = p1 - xa := ⟨_, rfl⟩
  have hsi : IntKind.i64.wrap ((p0 : Int) - (xa : Int)) = (i : Int) := by rw [IntKind.wrap_i64]; omega
  have hsj : IntKind.i64.wrap ((p1 : Int) - (xa : Int)) = (j : Int) := by rw [IntKind.wrap_i64]; omega
  have hij : i ≤ j := by omega
  have hjc : j ≤ xc := by omega
  have hne : ¬ j = i := by omega
  have hji : j - i = p1 - p0 := by omega
  rw [← hi]
  have ZX := Lib.hid zero_ext2
  clear h0 h1 hi hj
  go_enter Try.func31, Try.ntmps31
  go_upto_region 1 with (first
    | ((with_reducible show wpList _ _ _ (⟨some 3, _, _, _, _, _⟩ :: _) _ _); refine wpList_box_blk rfl _ (.tmp 0) rfl [.int .i64 (xa : Nat), .slice (some ⟨b, off, none⟩) xn xc] rfl ?_; intro g w1 hg1 hg2 B1 L1)
    | ((with_reducible show wpList _ _ _ (⟨some 6, _, _, _, _, _⟩ :: _) _ _); refine wpList_alloc_blk rfl _ rfl [.int .i64 0, .slice none 0 0] _ ZX ?_; intro h w2 hg3 hg4 Z2 L2; have B2 := Lib.hid (B1.out.over L2.out); have L12 := Lib.hid (L1.out.trans (L2.out.mono L1.out.size)))
    | fail)
  have c0 : w2.cell? ⟨g, 0, none⟩ = some (.int .i64 (xa : Nat)) := B2.out.cell 0
  refine wp_region_held (S := fun w' => w'.cell? ⟨g, 0, none⟩ = some (.int .i64 (xa : Nat)) ∧ w'.rangeAt g 0 [.int .i64 (xa : Nat), .slice (some ⟨b, off, none⟩) xn xc]) (by kernel_rfl) ?_
  change wpAnyH _ _ _ _ _ _ _ _ w2.drew
  have Sr0 : Hid (w2.drew.cell? ⟨g, 0, none⟩ = some (.int .i64 (xa : Nat)) ∧ w2.drew.rangeAt g 0 [.int .i64 (xa : Nat), .slice (some ⟨b, off, none⟩) xn xc]) := ⟨c0, fun j v h => (B2.out.range 0) j v h⟩
  have br0 : Hid (True) := trivial
  refine wpAnyH_take (i := 0) (v := _) rfl (by kernel_rfl) (by kernel_rfl) (by kernel_rfl) (fun _ _ _ h => h) (yieldsIf_move (by kernel_rfl) (.tmp 1) rfl (.int .i64 (f : Nat)) (by kernel_rfl)) Sr0.out ?_
  refine wpAnyH_take (i := 1) (v := _) rfl (by kernel_rfl) (by kernel_rfl) (by kernel_rfl) (fun _ _ _ h => h) (yieldsIf_fld (by kernel_rfl) _ (.tmp 3) 0 rfl (.pointer (some ⟨g, 0, none⟩)) (.pointer (some ⟨g, 0, none⟩)) (by kernel_rfl) (fun w => by go_simp)) Sr0.out ?_
  refine wpAnyH_take (i := 2) (v := _) rfl (by kernel_rfl) (by kernel_rfl) (by kernel_rfl) (fun _ _ _ h => h) (yieldsIf_load_one (by kernel_rfl) _ (.tmp 10) rfl g (0) (by kernel_rfl) (.int .i64 (xa : Nat)) (fun _ h => h.1) _ Try.underlying3 rfl) Sr0.out ?_
  refine wpAnyH_take (i := 3) (v := .int .i64 (p0 : Nat)) rfl (by kernel_rfl) (by kernel_rfl) (by kernel_rfl) (fun _ _ _ h => h) (.inl ⟨by kernel_rfl, fun w _ => by go_simp⟩) Sr0.out ?_
  refine wpAnyH_take (i := 4) (v := _) rfl (by kernel_rfl) (by kernel_rfl) (by kernel_rfl) (fun _ _ _ h => h) (yieldsIf_move (by kernel_rfl) (.tmp 2) rfl (.int .i64 (t : Nat)) (by kernel_rfl)) Sr0.out ?_
  refine wpAnyH_take (i := 5) (v := _) rfl (by kernel_rfl) (by kernel_rfl) (by kernel_rfl) (fun _ _ _ h => h) (yieldsIf_load_range (by kernel_rfl) _ (.tmp 3) rfl g 0 (by kernel_rfl) [.int .i64 (xa : Nat), .slice (some ⟨b, off, none⟩) xn xc] (fun _ h => h.2) 2 _ Try.underlying41 rfl size_ext (rfl : Hid ([Value.int .i64 (xa : Nat), .slice (some ⟨b, off, none⟩) xn xc].length = 2))) Sr0.out ?_
  refine wpAnyH_one 6 _ (by kernel_rfl) rfl fun K hK => ?_
  go_simp
  refine (end_any _ xa xn xc _ hxa hxn).mono ?_
  rintro e vr1 ⟨rfl, l3⟩
  have Sr1 : Hid (vr1.cell? ⟨g, 0, none⟩ = some (.int .i64 (xa : Nat)) ∧ vr1.rangeAt g 0 [.int .i64 (xa : Nat), .slice (some ⟨b, off, none⟩) xn xc]) := ⟨(l3.cell (lt_of_cell Sr0.out.1)).trans Sr0.out.1, range_below Sr0.out.2 l3 (lt_of_cell Sr0.out.1)⟩
  have br1 : Hid (True) := trivial
  have L3 := Lib.hid l3
  clear l3
  refine hK _ _ Sr1.out ?_
  clear hK K 
  refine wpAnyH_take (i := 7) (v := .int .i64 (p1 : Nat)) rfl (by kernel_rfl) (by kernel_rfl) (by kernel_rfl) (fun _ _ _ h => h) (.inl ⟨by kernel_rfl, fun w _ => by go_simp⟩) Sr1.out ?_
  refine wpAnyH_one 8 _ (by kernel_rfl) rfl fun K hK => ?_
  go_simp
  refine hK _ _ Sr1.out ?_
  clear hK K
  refine wpAnyH_one 9 _ (by kernel_rfl) rfl fun K hK => ?_
  go_simp
  refine hK _ _ Sr1.out ?_
  clear hK K
  refine wpAnyH_done (by kernel_rfl) ?_ _
  have L13 := Lib.hid (L12.out.trans (((Below.refl w2.heap.size w2).drew.trans L3.out).mono L12.out.size))
  have B3 := Lib.hid ((B2.out.drew).over L3.out)
  have Z3 := Lib.hid ((Z2.out.drew).over L3.out)
  have c0 : vr1.cell? ⟨g, 0, none⟩ = some (.int .i64 (xa : Nat)) := B3.out.cell 0
  have c1 : vr1.cell? ⟨g, 1, none⟩ = some (.slice (some ⟨b, off, none⟩) xn xc) := B3.out.cell 1
  go_upto_region 2 with fail
  go_quiet (fail)
  go_wp2_with (first
    | ((with_reducible show wpList _ _ _ (⟨some 32, _, _, _, _, _⟩ :: _) _ _); go_loud (refine wpList_build_blk rfl _ _ rfl [.int .i64 (p0 : Nat), .slice (some ⟨b, off + i, none⟩) (p1 - p0) (p1 - p0)] (by kernel_rfl) ?_))
    | ((with_reducible show wpList _ _ _ (⟨none, .store _ _ _, _, _, _, _⟩ :: _) _ _); go_loud (refine wpList_store_blk rfl _ (.tmp 6) (.tmp 32) rfl h rfl _ [.int .i64 0, .slice none 0 0] [.int .i64 (p0 : Nat), .slice (some ⟨b, off + i, none⟩) (p1 - p0) (p1 - p0)] rfl Z3 2 size_ext rfl rfl (ext_one _ _ rfl) ?_); intro w4 Z4 O4 hg4)
    | fail)
  have hlt := L12.out.size
  have hwh : w.heap.size ≤ h := by omega
  have L14 := L13.out.trans ((drewed vr1 nq).mono L13.out.size)
  refine bodyPost_ret (v := .agg #[.int .i64 (p0 : Nat), .slice (some ⟨b, off + i, none⟩) (p1 - p0) (p1 - p0)]) ?_ rfl ⟨rfl, below_only L14 O4.out hwh⟩
  exact results_cell_row rfl _ _ h _ _ (0, 0) _ rfl Z4.out Try.underlying41 rfl (by rw [size_ext]; rfl)

set_option maxHeartbeats 4000000 in
theorem copied_any (w : World) (xa n c : Nat) (A : Option Addr) (px : List Int) (hx : Holds w w.heap.size A n c px) (hn : n ≤ 140737488355328) :
    Calls Try.prog 37 #[.agg #[.int .i64 (xa : Nat), .slice A n c]] w fun e w' => ∃ v, e = .returned (.agg #[.int .i64 (xa : Nat), v]) ∧ OwnZ .u8 5 w' w.heap.size v px ∧ Below w.heap.size w w' := by
  have HX := Lib.hid hx
  have ZX := Lib.hid zero_ext2
  clear hx
  go_enter Try.func37, Try.ntmps37
  go_upto_region 1 with (first
    | ((with_reducible show wpList _ _ _ (⟨some 1, _, _, _, _, _⟩ :: _) _ _); refine wpList_box_blk rfl _ (.tmp 0) rfl [.int .i64 (xa : Nat), .slice A n c] rfl ?_; intro g w1 hg1 hg2 B1 L1)
    | ((with_reducible show wpList _ _ _ (⟨some 2, _, _, _, _, _⟩ :: _) _ _); refine wpList_alloc_blk rfl _ rfl [.int .i64 0, .slice none 0 0] _ ZX ?_; intro h w2 hg3 hg4 Z2 L2; have B2 := Lib.hid (B1.out.over L2.out); have L12 := Lib.hid (L1.out.trans (L2.out.mono L1.out.size)))
    | fail)
  have hgh : g ≠ h := by omega
  have H2 := Lib.hid (HX.out.over L12.out)
  have c0 : w2.cell? ⟨g, 0, none⟩ = some (.int .i64 (xa : Nat)) := B2.out.cell 0
  have c1 : w2.cell? ⟨g, 1, none⟩ = some (.slice A n c) := B2.out.cell 1
  refine wp_region_held (S := fun w' => w'.cell? ⟨g, 0, none⟩ = some (.int .i64 (xa : Nat)) ∧ w'.cell? ⟨g, 1, none⟩ = some (.slice A n c)) (by kernel_rfl) ?_
  change wpAnyH _ _ _ _ _ _ _ _ w2.drew
  have Sr0 : Hid (w2.drew.cell? ⟨g, 0, none⟩ = some (.int .i64 (xa : Nat)) ∧ w2.drew.cell? ⟨g, 1, none⟩ = some (.slice A n c)) := ⟨c0, c1⟩
  have br0 : Hid (True) := trivial
  refine wpAnyH_take (i := 0) (v := _) rfl (by kernel_rfl) (by kernel_rfl) (by kernel_rfl) (fun _ _ _ h => h) (yieldsIf_fld (by kernel_rfl) _ (.tmp 1) 0 rfl (.pointer (some ⟨g, 0, none⟩)) (.pointer (some ⟨g, 0, none⟩)) (by kernel_rfl) (fun w => by go_simp)) Sr0.out ?_
  refine wpAnyH_take (i := 1) (v := _) rfl (by kernel_rfl) (by kernel_rfl) (by kernel_rfl) (fun _ _ _ h => h) (yieldsIf_load_one (by kernel_rfl) _ (.tmp 3) rfl g (0) (by kernel_rfl) (.int .i64 (xa : Nat)) (fun _ h => h.1) _ Try.underlying3 rfl) Sr0.out ?_
  refine wpAnyH_take (i := 2) (v := _) rfl (by kernel_rfl) (by kernel_rfl) (by kernel_rfl) (fun _ _ _ h => h) (yieldsIf_fld (by kernel_rfl) _ (.tmp 1) 1 rfl (.pointer (some ⟨g, 0, none⟩)) (.pointer (some ⟨g, 1, none⟩)) (by kernel_rfl) (fun w => by go_simp)) Sr0.out ?_
  refine wpAnyH_take (i := 3) (v := _) rfl (by kernel_rfl) (by kernel_rfl) (by kernel_rfl) (fun _ _ _ h => h) (yieldsIf_load_one (by kernel_rfl) _ (.tmp 5) rfl g (1) (by kernel_rfl) (.slice A n c) (fun _ h => h.2) _ Try.underlying29 rfl) Sr0.out ?_
  refine wpAnyH_one 4 _ (by kernel_rfl) rfl fun K hK => ?_
  go_simp
  refine (Clone_any _ A n c px (H2.out.drew) hn).mono ?_
  rintro e vr1 ⟨v, rfl, o3, l3⟩
  have Sr1 : Hid (vr1.cell? ⟨g, 0, none⟩ = some (.int .i64 (xa : Nat)) ∧ vr1.cell? ⟨g, 1, none⟩ = some (.slice A n c)) := ⟨(l3.cell (lt_of_cell Sr0.out.1)).trans Sr0.out.1, (l3.cell (lt_of_cell Sr0.out.2)).trans Sr0.out.2⟩
  have br1 : Hid (True) := trivial
  have Z3 := Lib.hid ((Z2.out.drew).over l3)
  obtain ⟨A1, n1, c1', rfl, _⟩ := o3.own.open
  have O3 := Lib.hid o3
  have L3 := Lib.hid l3
  clear o3 l3
  refine hK _ _ Sr1.out ?_
  clear hK K 
  refine wpAnyH_take (i := 5) (v := _) rfl (by kernel_rfl) (by kernel_rfl) (by kernel_rfl) (fun _ _ _ h => h) (yieldsIf_build_blk (by kernel_rfl) _ _ rfl [.int .i64 (xa : Nat), .slice A1 n1 c1'] (by kernel_rfl)) Sr1.out ?_
  refine wpAnyH_one 6 _ (by kernel_rfl) rfl fun K hK => ?_
  refine step_store_midb rfl _ (.tmp 2) (.tmp 8) rfl h 0 rfl 41 [.int .i64 0, .slice none 0 0] [.int .i64 (xa : Nat), .slice A1 n1 c1'] rfl Z3 2 size_ext (rfl : _ = _) (Nat.le_refl 2 : Hid (0 + 2 ≤ 2)) (ext_one _ _ rfl) ?_
  intro w4 Z4 O4 hw4
  have Sr2 : Hid (w4.cell? ⟨g, 0, none⟩ = some (.int .i64 (xa : Nat)) ∧ w4.cell? ⟨g, 1, none⟩ = some (.slice A n c)) := ⟨(only_cell O4.out (p := ⟨g, 0, none⟩) hgh).trans Sr1.out.1, (only_cell O4.out (p := ⟨g, 1, none⟩) hgh).trans Sr1.out.2⟩
  refine hK _ _ Sr2.out ?_
  clear hK K
  refine wpAnyH_done (by kernel_rfl) ?_ _
  go_wp2_with fail
  have L13 := Lib.hid (L12.out.trans (((Below.refl w2.heap.size w2).drew.trans L3.out).mono L12.out.size))
  have hlt := L12.out.size
  refine bodyPost_ret (v := .agg #[.int .i64 (xa : Nat), .slice A1 n1 c1']) ?_ rfl ⟨_, rfl, ?_, below_only L13.out O4.out (by omega)⟩
  · exact results_cell_row rfl _ _ h _ _ (0, 0) _ rfl Z4.out Try.underlying41 rfl (by rw [size_ext]; rfl)
  · exact (O3.out.mono hlt).keep fun i _ hi _ => O4.out.rest i (by have := (O3.out.own.block hi).1; have : w2.drew.heap.size = w2.heap.size := rfl; omega)
end Go.Proofs.Ytgbhnnobbciemaa
