/-
  Contract of the document's layer 4 (refectoryref04): Proof. A store into a row of the call's own.
-/
import Derived.Test.YtomdgiikjnghcaaDoorRefM2
import Derived.BigQuiet
namespace Go.Proofs.YtomdgiikjnghcaaDoor
open Go.RowKit

section
variable {k : IntKind} {e : TypeId} {w : World} {base g n c : Nat} {xs : List Int}
theorem OwnK.heap (h : OwnK k e w base (.slice (some ⟨g, 0, none⟩) n c) xs) : base ≤ g ∧ xs.length = n ∧ ∃ cur : Array Value, w.heap[g]? = some (.cells cur e (0, 0)) ∧ n ≤ cur.size ∧ cur.toList.take n = xs.map (Value.int k) ∧ n ≤ c ∧ c ≤ maxLen ∧ cur.size = c := by
  rcases h.2 with ⟨h0, _⟩ | ⟨g', cap, cur, hv, hb, hg, hnc, hcm, hcs, htk⟩
  · cases h0
  · simp only [Value.slice.injEq, Option.some.injEq, Addr.mk.injEq, and_true] at hv
    obtain ⟨rfl, hn, rfl⟩ := hv
    rw [Nat.mul_one] at htk hcs
    exact ⟨hb, hn.symm, cur, hg, by omega, by rw [hn]; exact htk, by omega, hcm, hcs⟩
theorem OwnK.set (h : OwnK k e w base (.slice (some ⟨g, 0, none⟩) n c) xs) (i : Nat) (u : Int) : OwnK k e (w.setCell ⟨g, i, none⟩ (.int k u)) base (.slice (some ⟨g, 0, none⟩) n c) (xs.set i u) := by
  obtain ⟨hb, hn, cur, hg, hns, htk, hnc, hcm, hcs⟩ := h.heap
  have h1 := heap_setCell_same w g i cur e (.int k u) hg
  have hl : (xs.set i u).length = n := by rw [List.length_set, hn]
  refine ⟨by simp, .inr ⟨g, c, _, by rw [hl], hb, h1, by rw [hl]; exact hnc, hcm, by simp [hcs], ?_⟩⟩
  rw [hl, Nat.mul_one, Array.toList_setIfInBounds, List.take_set, htk, List.map_set]
theorem OwnK.frozen (h : OwnK k e w base (.slice (some ⟨g, 0, none⟩) n c) xs) (i : Nat) : w.frozen? ⟨g, i, none⟩ = false := by
  obtain ⟨_, _, cur, hg, _⟩ := h.heap
  exact frozen_of_row w g i _ e hg
theorem OwnK.cell (h : OwnK k e w base (.slice (some ⟨g, 0, none⟩) n c) xs) {i : Nat} (hi : i < n) : w.cell? ⟨g, i, none⟩ = some (.int k (xs.getD i 0)) := by
  obtain ⟨_, hn, cur, hg, hns, htk, _⟩ := h.heap
  rw [cell_of_row w g i cur e (0, 0) hg]
  have e1 : cur[i]? = (cur.toList.take n)[i]? := by
    rw [List.getElem?_take, if_pos hi, Array.getElem?_toList]
  rw [e1, htk]
  have : i < xs.length := by omega
  simp [this]
end

/-- a message whose sixteen bytes are overwritten by those of s, behind k of them -/
def overRow (m s : List Int) (k : Nat) : List Int := m.take 48 ++ s.take k ++ m.drop (48 + k)
theorem overRow_zero (m s : List Int) : overRow m s 0 = m := by simp [overRow]
theorem overRow_len (m s : List Int) (k : Nat) (hm : 64 ≤ m.length) (hs : s.length = 16) (hk : k ≤ 16) : (overRow m s k).length = m.length := by simp [overRow, hs]; omega
theorem overRow_set (m s : List Int) (k : Nat) (hm : 64 ≤ m.length) (hs : s.length = 16) (hk : k < 16) : (overRow m s k).set (48 + k) (s.getD k 0) = overRow m s (k + 1) := by
  have hl : (m.take 48 ++ s.take k).length = 48 + k := by simp [hs]; omega
  have hd : 48 + k < m.length := by omega
  have hx : k < s.length := by omega
  unfold overRow
  rw [List.set_append_right _ _ (by omega), hl, Nat.sub_self, List.drop_eq_getElem_cons hd, List.set_cons_zero, List.take_succ_eq_append_getElem hx, show s.getD k 0 = s[k] by simp [hx]]
  simp only [List.append_assoc, List.cons_append, List.nil_append, Nat.add_assoc]

set_option maxRecDepth 100000 in
set_option maxHeartbeats 4000000 in
theorem RProof_any (w : World) (l : ByteArray) (hl : l.size ≤ 140737488355000) (xs : List Int) (hx : xs.length = 8) (hb : Bytes xs) :
    Calls Tryd.prog 15 #[.string l, .agg (xs.map (Value.int .u8)).toArray] w fun e w' => e = .returned (.agg ((macL (textL l) xs).map (Value.int .u8)).toArray) ∧ Below w.heap.size w w' := by
  have hLl := textL_len l
  have hLb := textL_bytes l
  have HR : Hid ((macL (textL l) xs).length = 32) := macL_len _ _
  have cm := fun w A c h A2 c2 h2 => Lib.hid (RMac_any w A l.size c (textL l) (by omega) h A2 8 c2 xs (by omega) h2)
  obtain ⟨R, hR⟩ : ∃ R, R = macL (textL l) xs := ⟨_, rfl⟩
  rw [← hR] at cm HR ⊢
  obtain ⟨L, hL⟩ : ∃ L, L = textL l := ⟨_, rfl⟩
  rw [← hL] at hLl hLb cm
  have HL := Lib.hid hL
  have HLl := Lib.hid hLl
  have HXl := Lib.hid hx
  obtain ⟨X, hX⟩ : ∃ Z : List Int, Z = List.replicate 32 0 := ⟨_, rfl⟩
  have HX := len0 32
  have hx1 := zero_m
  rw [← hX] at HX hx1
  have HX1 := Lib.hid hx1
  clear hL hR hx1 hX hLl hx
  go_enter Tryd.func15, Tryd.ntmps15
  go_wp2_with (first
    | ((with_reducible show wpList _ _ _ (⟨some 3, _, _, _, _, _⟩ :: _) _ _); refine wpList_box_arr rfl _ (.tmp 1) rfl .u8 xs rfl ?_; intro g3 w3 e3 s3 A3 b3)
    | ((with_reducible show wpList _ _ _ (⟨some 4, _, _, _, _, _⟩ :: _) _ _); refine wpList_alloc_arr rfl _ rfl .u8 X 32 HX1 ?_; intro g4 w4 e4 s4 A4 b4)
    | fail)
  have A34 := Lib.hid (A3.out.over b4.out)
  have B4 := Lib.hid (step b3.out b4.out)
  have lw4 : w.heap.size ≤ g4 := by omega
  have s34 : g3 < w4.heap.size := by omega
  clear A3 b3 b4 e3 s3 e4
  go_loopw [5, 7] (fun v i wr => ∃ j : Nat, j ≤ l.size ∧ i = .int .i64 j ∧ Hid (OwnK .u8 5 wr w4.heap.size v (L.take j)) ∧ Hid (Below w4.heap.size w4 wr)) (fun _ i _ => l.size - (intOf i).toNat)
  case atStart => exact ⟨0, by omega, rfl, OwnK.nil _ _ _ _, Below.refl _ _⟩
  case round =>
    obtain ⟨j, hj, rfl, hO, hB⟩ := hrel
    have hbs := Lib.hid hB.out.size
    have hlj : Hid ((L.take j).length = j) := by show _ = _; rw [List.length_take, HLl.out]; omega
    by_cases hlt : j < l.size
    · have he := take_snoc L j (by rw [HLl.out]; exact hlt)
      have HLj : Hid ((textL l).getD j 0 = L.getD j 0) := by show _ = _; rw [HL.out]
      obtain ⟨y, hy⟩ : ∃ y, y = L.getD j 0 := ⟨_, rfl⟩
      rw [← hy] at he HLj
      clear hy
      go_wp2_with (first
        | ((with_reducible show wpList _ _ _ (⟨some 18, _, _, _, _, _⟩ :: _) _ _); refine wpList_index_text rfl (.tmp 16) (.tmp 17) rfl l rfl j rfl hlt ?_; rw [HLj.out])
        | (at_builtin; refine wpList_append_lit rfl (.tmp 15) (.tmp 19) .u8 22 5 1 Tryd.underlying22 info_b rfl w4.heap.size _ (L.take j) [y] _ rfl 1 1 rfl rfl rfl hO.out (by rw [hlj.out]; omega) (by rw [hlj.out]; omega) hbs.out ?_; intro v1 w1 ho1 hg1)
        | fail)
      have hO1 := ho1.out
      rw [he] at hO1
      go_roundw
      case rel => exact ⟨j + 1, by omega, by go_num, hO1, hB.out.trans (hg1.out.below hO.out hbs.out)⟩
      case measure => simp [intOf]; omega
    · have hO1 : Own wr w4.heap.size u5 L := by
        have h0 := hO.out
        rwa [List.take_of_length_le (by rw [HLl.out]; omega)] at h0
      obtain ⟨A5, c5, rfl, h5⟩ := hO1.holds hLb (by rw [HLl.out]; omega)
      rw [HLl.out] at h5 ⊢
      have H5 := Lib.hid h5
      have hge : (l.size : Int) ≤ (j : Int) := by omega
      have A3r := Lib.hid (A34.out.below hB.out s34)
      have A4r := Lib.hid (A4.out.over hB.out)
      have Br := Lib.hid (step B4.out hB.out)
      obtain ⟨w7, hw7⟩ : ∃ x, x = wr := ⟨_, rfl⟩
      rw [← hw7] at H5 A3r A4r Br hbs ⊢
      clear hw7 hO hlj h5 hO1 hB A34 A4 B4
      go_wp2_with fail
      go_loopw [6, 8] (fun v i wr => ∃ j : Nat, j ≤ 8 ∧ i = .int .i64 j ∧ Hid (OwnK .u8 5 wr w7.heap.size v (xs.take j)) ∧ Hid (Below w7.heap.size w7 wr)) (fun _ i _ => 8 - (intOf i).toNat)
      case atStart => exact ⟨0, by omega, rfl, OwnK.nil _ _ _ _, Below.refl _ _⟩
      case round =>
        obtain ⟨j, hj, rfl, hO, hB⟩ := hrel
        have hbs8 := Lib.hid hB.out.size
        have hlj : Hid ((xs.take j).length = j) := by show _ = _; rw [List.length_take, HXl.out]; omega
        by_cases hlt : j < 8
        · have he := take_snoc xs j (by rw [HXl.out]; exact hlt)
          have gc := (A3r.out.over hB.out).cell (i := j) (by rw [HXl.out]; exact hlt)
          have hbk := hb.getD j
          obtain ⟨y, hy⟩ : ∃ y, y = xs.getD j 0 := ⟨_, rfl⟩
          rw [← hy] at he gc hbk
          obtain ⟨hbk0, hbk1⟩ := hbk
          clear hy
          go_wp2_with (first
            | (at_builtin; refine wpList_append_lit rfl (.tmp 25) (.tmp 29) .u8 22 5 1 Tryd.underlying22 info_b rfl w7.heap.size _ (xs.take j) [y] _ rfl 1 1 rfl rfl rfl hO.out (by rw [hlj.out]; omega) (by rw [hlj.out]; omega) hbs8.out ?_; intro v1 w1 ho1 hg1)
            | fail)
          have hO1 := ho1.out
          rw [he] at hO1
          go_roundw
          case rel => exact ⟨j + 1, by omega, by go_num, hO1, hB.out.trans (hg1.out.below hO.out hbs8.out)⟩
          case measure => simp [intOf]; omega
        · have hO1 : Own wr w7.heap.size u6 xs := by
            have h0 := hO.out
            rwa [List.take_of_length_le (by rw [HXl.out]; omega)] at h0
          obtain ⟨A6, c6, rfl, h6⟩ := hO1.holds hb (by rw [HXl.out]; omega)
          rw [HXl.out] at h6 ⊢
          have H6 := Lib.hid h6
          have hge : (8 : Int) ≤ (j : Int) := by omega
          have H5r := Lib.hid (H5.out.over hB.out)
          have A48 := Lib.hid (A4r.out.over hB.out)
          have B8 := Lib.hid (step Br.out hB.out)
          clear hO hlj hlt h6 hO1 hB A3r A4r H5 Br
          go_wp2_with fail
          refine (cm _ _ _ H5r.out _ _ H6.out).out.mono ?_
          rintro e w11 ⟨rfl, b11⟩
          have A411 := Lib.hid (A48.out.over b11)
          have B11 := Lib.hid (step B8.out b11)
          clear b11 A48 B8 H5r H6
          go_wp2_with (first
            | ((with_reducible show wpList _ _ _ (⟨none, .store _ (.tmp 4) _, _, _, _, _⟩ :: _) _ _); refine wpList_store_arr rfl _ (.tmp 4) (.tmp 33) rfl g4 rfl .u8 _ _ R rfl A411 32 size_o HX HR ?_; intro w19 A19 o19 s19)
            | fail)
          refine bodyPost_ret (v := .agg (R.map (Value.int .u8)).toArray) ?_ rfl ⟨rfl, B11.out.trans (o19.out.below lw4)⟩
          exact results_cell_row rfl _ _ g4 _ _ (0, 0) _ rfl A19.out Tryd.underlying24 rfl (by rw [size_o]; have := HR.out; simp [this])

end Go.Proofs.YtomdgiikjnghcaaDoor
