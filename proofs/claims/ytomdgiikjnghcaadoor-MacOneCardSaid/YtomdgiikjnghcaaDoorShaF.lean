/-
  Contract of the program's layer 3 (sha): pressAll.
-/
import Derived.Test.YtomdgiikjnghcaaDoorShaE
namespace Go.Proofs.YtomdgiikjnghcaaDoor
open Go.RowKit

/-- the state behind m blocks -/
def blocksS (st xs : List Int) : Nat → List Int
  | 0 => st
  | m + 1 => pressOf (blocksS st xs m) ((xs.drop (64 * m)).take 64)
theorem blocksS_len {st : List Int} (h : st.length = 8) (xs : List Int) (m : Nat) : (blocksS st xs m).length = 8 := by
  induction m with
  | zero => exact h
  | succ m ih => exact pressOf_len _ _ ih
theorem blocksS_w {st : List Int} (h : W32 st) (xs : List Int) (m : Nat) : W32 (blocksS st xs m) := by
  cases m with
  | zero => exact h
  | succ m => exact pressOf_w _ _
/-- what stands behind is not seen -/
theorem blocksS_append (st xs ys : List Int) (m : Nat) (h : 64 * m ≤ xs.length) : blocksS st (xs ++ ys) m = blocksS st xs m := by
  induction m with
  | zero => rfl
  | succ m ih =>
    simp only [blocksS]
    rw [ih (by omega), List.drop_append_of_le_length (by omega), List.take_append_of_le_length (by rw [List.length_drop]; omega)]
/-- the blocks behind others -/
theorem blocksS_behind (st xs ys : List Int) (m k : Nat) (h : xs.length = 64 * m) : blocksS (blocksS st xs m) ys k = blocksS st (xs ++ ys) (m + k) := by
  induction k with
  | zero => rw [Nat.add_zero, blocksS_append _ _ _ _ (by omega)]; rfl
  | succ k ih =>
    simp only [blocksS, Nat.add_eq]
    rw [ih, show 64 * (m + k) = xs.length + 64 * k by omega, List.drop_append, List.drop_of_length_le (l := xs) (by omega), List.nil_append, show xs.length + 64 * k - xs.length = 64 * k by omega]

/-- copy(array[:], b[at:]) that fills the array -/
theorem wpList_copy_arr {w : World} {ops : Array Oper} {rest : List Oper} {o : Oper} {a : Act} {Q : Exit → Act → World → Prop} (hgd : o.guard = none) (d s : Operand)
    (ho : o.op = .call { callee := .builtin .copy, args := #[d, s], argTypes := #[22, 22] })
    (g m : Nat) (T : TypeId) (b off n c : Nat) (hd : a.eval d = .slice (some ⟨g, 0, none⟩) m m) (hs : a.eval s = .slice (some ⟨b, off, none⟩) n c)
    (cur ys : List Int) (hrow : Hid (Arr w g .u8 T cur)) (hl : Hid (cur.length = m)) (hy : Hid (ys.length = m)) (hn : m ≤ n) (hc : Hid (∀ i, i < m → w.cell? ⟨b, off + i, none⟩ = some (.int .u8 (ys.getD i 0))))
    (h : ∀ w', Hid (Arr w' g .u8 T ys) → Hid (Below g w w') → wpList Tryd.prog ops Q rest (a.put o.dst (goInt m)) w') :
    wpList Tryd.prog ops Q (o :: rest) a w := by
  have hl' := hl.out
  have hy' := hy.out
  obtain ⟨i0, hi, hz0, hz1, hz2⟩ := info_parts info_u8
  refine wpList_copy_splice hgd d s 22 22 ho 5 Tryd.underlying22 (by rw [hi]; simp [hz1]) (some ⟨g, 0, none⟩) (some ⟨b, off, none⟩) m m n c hd hs g 0 (cur.map (Value.int .u8)) T hrow.out (ys.map (Value.int .u8)) (by rw [List.length_map, hy']; exact (Nat.min_eq_right hn).symm) ?_ (by simp; omega)
    (by intro v hv; obtain ⟨x, _, rfl⟩ := List.mem_map.1 hv; rfl) g w (Below.refl _ _) (Nat.le_refl _) ?_
  · intro h0
    refine ⟨rfl, ⟨b, off, none⟩, rfl, fun j v hj => ?_⟩
    have hjl : j < ys.length := by
      by_cases hj' : j < ys.length
      · exact hj'
      · rw [List.getElem?_eq_none (by simp; omega)] at hj
        cases hj
    have e : (⟨b, off, none⟩ : Addr).add j = ⟨b, off + j, none⟩ := by
      by_cases hj0 : j = 0
      · subst hj0; simp [Addr.add]
      · simp [Addr.add, hj0]
    rw [e, hc.out j (by omega), ← hj]
    simp [hjl]
  · intro w' hr hb
    have e : (splice (cur.map (Value.int .u8)) 0 (ys.map (Value.int .u8))) = ys.map (Value.int .u8) := by
      simp [splice, hl', hy']
    have hr' := hr.out
    rw [e] at hr'
    rw [List.length_map, hy'] at *
    exact h w' hr' hb

set_option maxRecDepth 100000 in
set_option maxHeartbeats 2000000 in
theorem pressAll_any (w : World) (st xs : List Int) (hs : st.length = 8) (hsw : W32 st) (A : Option Addr) (n c q : Nat) (hq : n = 64 * q) (hn : n ≤ 140737488355328) (h : Holds w w.heap.size A n c xs) (hK : KTab w) :
    Calls Tryd.prog 44 #[.agg (st.map (Value.int .u32)).toArray, .slice A n c] w
      fun e w' => e = .returned (.agg ((blocksS st xs q).map (Value.int .u32)).toArray) ∧ Below w.heap.size w w' := by
  have HL := Lib.hid h.len
  have hfit := h.fit
  have hby := h.byte
  have HS := Lib.hid hs
  have HQ := Lib.hid hq
  obtain ⟨Z, hZ⟩ : ∃ Z : List Int, Z = List.replicate 64 0 := ⟨_, rfl⟩
  have HZ := len0 64
  have hz2 : Tryd.prog.built 44 [] = some ((List.replicate 64 (0 : Int)).map (Value.int .u8)).toArray := by kernel_rfl
  have hz1 : (Tryd.prog.info? 44).map (fun i => (i.zero, i.size)) = some (some (.agg ((List.replicate 64 (0 : Int)).map (Value.int .u8)).toArray), 64) := by kernel_rfl
  rw [← hZ] at HZ hz1 hz2
  obtain ⟨Y, hY⟩ : ∃ Z : List Int, Z = List.replicate 8 0 := ⟨_, rfl⟩
  have HY := len0 8
  have hy1 := zero_s
  rw [← hY] at HY hy1
  have HZ1 := Lib.hid hz1
  have HZ2 := Lib.hid hz2
  have HY1 := Lib.hid hy1
  have HK := Lib.hid hK
  have cp := fun w s b h1 h2 h3 h4 h5 => Lib.hid (Press_any w s b h1 h2 h3 h4 h5)
  clear hs hZ hz1 hz2 hY hy1 hK hq
  go_enter Tryd.func44, Tryd.ntmps44
  go_wp2_with (first
    | ((with_reducible show wpList _ _ _ (⟨some 2, _, _, _, _, _⟩ :: _) _ _); refine wpList_box_arr rfl _ (.tmp 0) rfl .u32 st rfl ?_; intro g2 w2 e2 s2 A2 b2)
    | ((with_reducible show wpList _ _ _ (⟨some 4, _, _, _, _, _⟩ :: _) _ _); refine wpList_alloc_arr rfl _ rfl .u32 Y 8 HY1 ?_; intro g4 w4 e4 s4 A4 b4)
    | fail)
  have B4 : Hid (Below w.heap.size w w4) := step b2.out b4.out
  have A24 := Lib.hid (A2.out.over b4.out)
  have HK4 := Lib.hid ((HK.out.below b2.out).below b4.out)
  have lw2 : w.heap.size ≤ g2 := e2
  have l24 : g2 < g4 := by omega
  clear b2 b4 A2
  go_loopw [5] (fun i wr => ∃ m : Nat, m ≤ q ∧ i = .int .i64 ((64 * m : Nat) : Int) ∧ Hid (Arr wr g2 .u32 55 (blocksS st xs m)) ∧ Hid (Arr wr g4 .u32 55 Y) ∧ Hid (Below w.heap.size w wr)) (fun i _ => n - (intOf i).toNat)
  case atStart => exact ⟨0, by omega, rfl, A24, A4, B4⟩
  case round =>
    obtain ⟨m, hm, rfl, hR, hR4, hB⟩ := hrel
    by_cases hlt : m < q
    · have hlt' : 64 * m + 64 ≤ n := by have := HQ.out; omega
      obtain ⟨b, off, rfl, hb, hc⟩ := h.cells (by omega)
      have hbl : Hid (b < w.heap.size) := hb
      have hwr := hB.out.size
      have hc1 : Hid (∀ i, i < 64 → wr.cell? ⟨b, off + 64 * m + i, none⟩ = some (.int .u8 (((xs.drop (64 * m)).take 64).getD i 0))) := fun i hi => by
        have e : ((xs.drop (64 * m)).take 64).getD i 0 = xs.getD (64 * m + i) 0 := by
          simp [List.getD_eq_getElem?_getD, List.getElem?_drop, hi]
        rw [e, Nat.add_assoc, ← hc (64 * m + i) (by omega)]
        exact hB.out.cell (p := ⟨b, off + (64 * m + i), none⟩) hb
      have hlb : Hid (((xs.drop (64 * m)).take 64).length = 64) := by
        show _ = _
        have := HL.out
        rw [List.length_take, List.length_drop]
        omega
      have hbb := (hby.drop (64 * m)).take 64
      obtain ⟨bl, hble⟩ : ∃ bl, bl = (xs.drop (64 * m)).take 64 := ⟨_, rfl⟩
      rw [← hble] at hc1 hlb hbb
      have HBL := Lib.hid hble
      clear hc hb hble
      go_wp2_with (first
        | (refine wpList_build_zero rfl _ rfl .u8 Z HZ2 ?_)
        | ((with_reducible show wpList _ _ _ (⟨some 6, _, _, _, _, _⟩ :: _) _ _); refine wpList_alloc_arr rfl _ rfl .u8 Z 64 HZ1 ?_; intro g6 w6 e6 s6 A6 b6)
        | ((with_reducible show wpList _ _ _ (⟨none, _, _, _, _, _⟩ :: _) _ _); refine wpList_store_arr rfl _ (.tmp 6) (.tmp 13) rfl g6 rfl .u8 _ _ Z rfl A6 64 size_b HZ HZ ?_; intro w7 A7 o7 s7)
        | fail)
      obtain ⟨k, hk⟩ : ∃ k, k = 64 * m := ⟨_, rfl⟩
      rw [← hk] at hlt' hc1 ⊢
      have HKm := Lib.hid hk
      clear hk
      have hk1 : (k : Int) ≤ (n : Int) := by omega
      have hk2 : (0 : Int) ≤ (k : Int) := by omega
      have hk3 : k < c := by omega
      have hk4 : (k : Int) ≤ (c : Int) := by omega
      go_still_tail 4, (by kernel_rfl)
      change wpList _ _ _ _ _ w7.drew
      rw [if_neg (show ¬ c = k by omega)]
      have l26 : g2 < g6 := by have := hR.out.lt; omega
      have l46 : g4 < g6 := by have := hR4.out.lt; omega
      have hwg : w.heap.size ≤ g6 := by omega
      have hc7 : Hid (∀ i, i < 64 → w7.drew.cell? ⟨b, off + k + i, none⟩ = some (.int .u8 (bl.getD i 0))) := fun i hi => by
        have hb := hbl.out
        rw [← hc1.out i hi]
        have h1 : w7.cell? ⟨b, off + k + i, none⟩ = w6.cell? ⟨b, off + k + i, none⟩ := (o7.out.below (B := g6) (Nat.le_refl _)).cell (p := ⟨b, off + k + i, none⟩) (show b < g6 by omega)
        exact h1.trans (b6.out.cell (p := ⟨b, off + k + i, none⟩) (show b < wr.heap.size by omega))
      refine wpList_copy_arr rfl (.tmp 14) (.tmp 17) rfl g6 64 44 b (off + k) (n - k) (c - k) rfl rfl Z bl A7.out.drew HZ hlb (by omega) hc7 ?_
      intro w8 A8 b8
      have R8 : Hid (Arr w8 g2 .u32 55 (blocksS st xs m)) := (((hR.out.over b6.out).only o7.out (by omega)).drew).below b8.out l26
      have R84 : Hid (Arr w8 g4 .u32 55 Y) := (((hR4.out.over b6.out).only o7.out (by omega)).drew).below b8.out l46
      have B8 : Hid (Below w.heap.size w w8) := ((hB.out.trans (b6.out.mono (by omega))).trans (o7.out.below hwg)).drew.trans (b8.out.mono hwg)
      have HK8 : Hid (KTab w8) := HK.out.below B8.out
      have hsl := Lib.hid (blocksS_len HS.out xs m)
      have hsw' := blocksS_w hsw xs m
      have hstep : pressOf (blocksS st xs m) bl = blocksS st xs (m + 1) := by rw [HBL.out]; rfl
      have hslN := Lib.hid (blocksS_len HS.out xs (m + 1))
      obtain ⟨s1, hs1⟩ : ∃ s1, s1 = blocksS st xs m := ⟨_, rfl⟩
      obtain ⟨s2', hs2⟩ : ∃ s2, s2 = blocksS st xs (m + 1) := ⟨_, rfl⟩
      rw [← hs1] at R8 hsl hsw' hstep
      rw [← hs2] at hstep hslN
      have cp1 := cp w8 s1 bl hsl.out hsw' hlb.out hbb HK8.out
      rw [hstep] at cp1
      have HS2 := Lib.hid hs2
      clear hs1 hs2 hstep hR hR4 hB b6 o7 b8 A6 A7 hc1 hc7 s7 s6 e6 hk1 hk2 hk4
      go_wp2_with (first
        | ((with_reducible show wpList _ _ _ (⟨some 19, _, _, _, _, _⟩ :: _) _ _); refine wpList_load_arr rfl _ (.tmp 2) rfl g2 rfl .u32 _ s1 R8 8 _ Tryd.underlying55 size_s hsl ?_)
        | ((with_reducible show wpList _ _ _ (⟨some 20, _, _, _, _, _⟩ :: _) _ _); refine wpList_load_arr rfl _ (.tmp 6) rfl g6 rfl .u8 _ bl A8 64 _ Tryd.underlying44 size_b hlb ?_)
        | fail)
      refine cp1.out.mono ?_
      rintro e w9 ⟨rfl, b9⟩
      have R9 : Hid (Arr w9 g2 .u32 55 s1) := R8.out.over b9
      have R94 : Hid (Arr w9 g4 .u32 55 Y) := R84.out.over b9
      have B9 : Hid (Below w.heap.size w w9) := step B8.out b9
      clear b9 R8 R84 B8 HK8 cp1
      go_wp2_with (first
        | ((with_reducible show wpList _ _ _ (⟨none, _, _, _, _, _⟩ :: _) _ _); refine wpList_store_arr rfl _ (.tmp 2) (.tmp 21) rfl g2 rfl .u32 _ _ s2' rfl R9 8 size_s hsl hslN ?_; intro w10 A10 o10 s10)
        | fail)
      go_roundw
      case rel => exact ⟨m + 1, by omega, by rw [show 64 * (m + 1) = k + 64 by have := HKm.out; omega]; go_num, by rw [← HS2.out]; exact A10, R94.out.only o10.out (by omega), B9.out.trans (o10.out.below lw2)⟩
      case measure => have := HKm.out; simp [intOf]; omega
    · have hge : (n : Int) ≤ ((64 * m : Nat) : Int) := by have := HQ.out; omega
      have hF : Hid (Arr wr g2 .u32 55 (blocksS st xs q)) := by
        have h0 := hR.out
        rwa [show m = q by omega] at h0
      have hsl := Lib.hid (blocksS_len HS.out xs q)
      obtain ⟨s1, hs1⟩ : ∃ s1, s1 = blocksS st xs q := ⟨_, rfl⟩
      rw [← hs1] at hF hsl
      have HS1 := Lib.hid hs1
      obtain ⟨k, hk⟩ : ∃ k, k = 64 * m := ⟨_, rfl⟩
      rw [← hk] at hge ⊢
      clear hR hs1 hk
      go_wp2_with (first
        | ((with_reducible show wpList _ _ _ (⟨some 22, _, _, _, _, _⟩ :: _) _ _); refine wpList_load_arr rfl _ (.tmp 2) rfl g2 rfl .u32 _ s1 hF 8 _ Tryd.underlying55 size_s hsl ?_)
        | ((with_reducible show wpList _ _ _ (⟨none, _, _, _, _, _⟩ :: _) _ _); refine wpList_store_arr rfl _ (.tmp 4) (.tmp 22) rfl g4 rfl .u32 _ _ s1 rfl hR4 8 size_s HY hsl ?_; intro w9 A9 o9 s9)
        | fail)
      rw [← HS1.out]
      refine bodyPost_ret (v := .agg (s1.map (Value.int .u32)).toArray) ?_ rfl ⟨rfl, hB.out.trans (o9.out.below (by omega))⟩
      exact results_cell_row rfl _ _ g4 _ _ (0, 0) _ rfl A9.out Tryd.underlying55 rfl (by rw [size_s]; have := hsl.out; simp [this])
end Go.Proofs.YtomdgiikjnghcaaDoor
