/-
  Layer 6: contracts of the document's answers: refectoryref00.Texts, refectoryref02.fold, .Order, .Alike, refectoryref06.barred, .Name.
-/
import Derived.Test.YtaggjlobmikagaaDoorPathE
import Derived.Test.YtaggjlobmikagaaDoorRefU2
import Derived.Test.YtaggjlobmikagaaDoorSame
namespace Go.Proofs.YtaggjlobmikagaaDoor
open Go.RowKit

/-- a call that leaves the world as it is, as a quiet region wants it -/
theorem quiet_pure {P : Program} {f : FuncId} {args : Array Value} {w : World} {n : Nat} {v : Value}
    (h : ∀ w, Calls P f args w fun e w' => e = .returned v ∧ w = w') : Calls P f args (w.drewN n) fun e w'' => e = .returned v ∧ ∃ m, w'' = w.drewN m :=
  (h _).mono fun _ _ ⟨he, hm⟩ => ⟨he, n, hm.symm⟩

/-! ### Texts -/

theorem mk_eq (p q : List UInt8) : ((⟨p.toArray⟩ : ByteArray).toList == (⟨q.toArray⟩ : ByteArray).toList) = decide (p = q) := by
  rw [Lib.toList_data, Lib.toList_data, Bool.eq_iff_iff, beq_iff_eq, decide_eq_true_eq]

theorem drop_step {xs ys : List (List UInt8)} {k : Nat} {x y : List UInt8} (hx : xs[k]? = some x) (hy : ys[k]? = some y) : (xs.drop k = ys.drop k) ↔ (x = y ∧ xs.drop (k + 1) = ys.drop (k + 1)) := by
  obtain ⟨h1, h2⟩ := List.getElem?_eq_some_iff.1 hx
  obtain ⟨h3, h4⟩ := List.getElem?_eq_some_iff.1 hy
  rw [List.drop_eq_getElem_cons h1, List.drop_eq_getElem_cons h3, h2, h4, List.cons.injEq]

set_option maxRecDepth 100000 in
set_option maxHeartbeats 2000000 in
theorem Texts_any (w : World) (B B' : Nat) (A A' : Option Addr) (n c n' c' : Nat) (xs ys : List (List UInt8)) (hx : HoldsF strV w B A n c xs) (hy : HoldsF strV w B' A' n' c' ys) (hn63 : n ≤ 9223372036854775807) (hn63' : n' ≤ 9223372036854775807) :
    Calls Tryd.prog 14 #[.slice A n c, .slice A' n' c'] w fun e w' => e = .returned (.bool (decide (xs = ys))) ∧ ∃ k, w.drewN k = w' := by
  have hxl := hx.len
  have hyl := hy.len
  by_cases hnn : n = n'
  · subst hnn
    obtain ⟨R, hR⟩ : ∃ R, R = decide (xs = ys) := ⟨_, rfl⟩
    rw [← hR]
    have HR := Lib.hid hR
    have HX := Lib.hid hx
    have HY := Lib.hid hy
    have HXL := Lib.hid hxl
    have HYL := Lib.hid hyl
    clear hx hy hR hxl hyl
    go_enter Tryd.func14, Tryd.ntmps14
    go_wp2
    go_loopw [5] (fun i wr => ∃ k : Nat, i = .int .i64 k ∧ k ≤ n ∧ Hid (R = decide (xs.drop k = ys.drop k)) ∧ ∃ j, wr = w.drewN j) (fun i _ => n - (intOf i).toNat)
    case atStart => exact ⟨0, rfl, Nat.zero_le _, by rw [List.drop_zero, List.drop_zero]; exact HR.out, 0, rfl⟩
    case round =>
      obtain ⟨k, rfl, hk, HE, j, rfl⟩ := hrel
      by_cases hlt : k < n
      · obtain ⟨b, off, rfl, hbk, hc⟩ := HX.out.cells (by omega)
        obtain ⟨b', off', rfl, hbk', hc'⟩ := HY.out.cells (by omega)
        have hkx : k < xs.length := by have := HXL.out; omega
        have hky : k < ys.length := by have := HYL.out; omega
        obtain ⟨p, hp⟩ : ∃ p, p = xs[k] := ⟨_, rfl⟩
        obtain ⟨q, hq⟩ : ∃ q, q = ys[k] := ⟨_, rfl⟩
        have ex : xs[k]? = some p := by rw [hp]; exact List.getElem?_eq_getElem hkx
        have ey : ys[k]? = some q := by rw [hq]; exact List.getElem?_eq_getElem hky
        have gc := hc k p ex
        have gc' := hc' k q ey
        unfold strV at gc gc'
        have hst := drop_step ex ey
        have hpq := mk_eq p q
        obtain ⟨X, hX⟩ : ∃ X : ByteArray, X = ⟨p.toArray⟩ := ⟨_, rfl⟩
        obtain ⟨Y, hY⟩ : ∃ X : ByteArray, X = ⟨q.toArray⟩ := ⟨_, rfl⟩
        rw [← hX] at gc hpq
        rw [← hY] at gc' hpq
        clear hc hc' hp hq hkx hky ex ey hX hY
        by_cases hal : p = q
        · rw [decide_eq_true hal] at hpq
          have HE2 : Hid (R = decide (xs.drop (k + 1) = ys.drop (k + 1))) := by
            show _ = _
            rw [HE.out]
            refine decide_eq_decide.2 (hst.trans ?_)
            simp [hal]
          have hpq2 : (X.toList != Y.toList) = false := by unfold bne; rw [hpq]; rfl
          clear hst hal HE
          go_wp2
          go_quiet (fail)
          go_wp2
          go_roundw
          case rel => exact ⟨k + 1, by go_num, hlt, HE2, _, rfl⟩
          case measure => simp [intOf]; omega
        · rw [decide_eq_false hal] at hpq
          have HE2 : Hid (R = false) := by
            show _ = _
            rw [HE.out]
            exact decide_eq_false fun h => hal (hst.1 h).1
          have hpq2 : (X.toList != Y.toList) = true := by unfold bne; rw [hpq]; rfl
          clear hst hal HE
          go_wp2
          go_quiet (fail)
          go_wp2
          go_ret
          exact ⟨ret_bool HE2.out.symm, _, (World.drewN_drewN ..).symm⟩
      · obtain rfl : k = n := by omega
        have HE2 : Hid (R = true) := by
          show _ = _
          rw [HE.out, List.drop_of_length_le (by have := HXL.out; omega), List.drop_of_length_le (by have := HYL.out; omega)]
          rfl
        clear HE
        go_wp2
        go_ret
        exact ⟨ret_bool HE2.out.symm, _, rfl⟩
  · have hf : decide (xs = ys) = false := decide_eq_false fun h => by
      have := congrArg List.length h
      omega
    rw [hf]
    have hne : ((n : Int) != n') = true := by rw [bne_iff_ne]; omega
    clear hf hnn hx hy hxl hyl
    go_enter Tryd.func14, Tryd.ntmps14
    go_wp2
    go_ret
    exact ⟨rfl, 0, rfl⟩

/-! ### fold, Order, Alike -/

set_option maxHeartbeats 400000 in
theorem Rfold_any (r : Int) (w : World) (h0 : 0 ≤ r) (h1 : r ≤ 2000000) :
    Calls Tryd.prog 66 #[.int .i64 r] w fun e w' => e = .returned (.int .i64 (foldR r)) ∧ w = w' := by
  unfold foldR
  by_cases h : 65 ≤ r ∧ r ≤ 90
  · rw [if_pos h]
    obtain ⟨h2, h3⟩ := h
    go_enter Tryd.func66, Tryd.ntmps66
    go_wp2
    go_ret
    exact ⟨rfl, rfl⟩
  · rw [if_neg h]
    have h' : r < 65 ∨ 90 < r := by omega
    clear h
    rcases h' with h | h
    all_goals
      go_enter Tryd.func66, Tryd.ntmps66
      go_wp2
      go_ret
      exact ⟨rfl, rfl⟩

theorem ord_step {xs ys : List Int} {k : Nat} {x y : Int} (hx : xs[k]? = some x) (hy : ys[k]? = some y) : ordL (xs.drop k) (ys.drop k) = if foldR x = foldR y then ordL (xs.drop (k + 1)) (ys.drop (k + 1)) else foldR x - foldR y := by
  obtain ⟨h1, h2⟩ := List.getElem?_eq_some_iff.1 hx
  obtain ⟨h3, h4⟩ := List.getElem?_eq_some_iff.1 hy
  rw [List.drop_eq_getElem_cons h1, List.drop_eq_getElem_cons h3, h2, h4, ordL]
theorem ord_end {xs ys : List Int} {k : Nat} (hk : k ≤ xs.length) (hk2 : k ≤ ys.length) (h : ¬ k < xs.length ∨ ¬ k < ys.length) : ordL (xs.drop k) (ys.drop k) = (xs.length : Int) - (ys.length : Int) := by
  by_cases h1 : k < xs.length
  · rw [List.drop_of_length_le (l := ys) (by omega), List.drop_eq_getElem_cons h1, ordL]
    simp
    omega
  · rw [List.drop_of_length_le (l := xs) (by omega)]
    by_cases h2 : k < ys.length
    · rw [List.drop_eq_getElem_cons h2, ordL]
      simp
      omega
    · rw [List.drop_of_length_le (l := ys) (by omega), ordL]
      omega
theorem foldR_bounds {r : Int} (h0 : 0 ≤ r) (h1 : r ≤ 1114367) : 0 ≤ foldR r ∧ foldR r ≤ 1114367 := by
  unfold foldR
  split <;> omega
theorem ordL_alike (a b : List UInt8) : (ordL (letters a) (letters b) == 0) = alikeOf a b := by
  unfold alikeOf
  rw [Bool.eq_iff_iff, beq_iff_eq, decide_eq_true_eq, ordL_zero]
  constructor
  · intro h
    rw [← folded_enc a, ← folded_enc b]
    unfold foldedOf
    rw [h]
  · intro h
    rw [← letters_low, ← letters_low, h]

set_option maxRecDepth 100000 in
set_option maxHeartbeats 4000000 in
theorem ROrder_any (s t : ByteArray) (w : World) (hs : s.size ≤ 4398046511104) (ht : t.size ≤ 4398046511104) :
    Calls Tryd.prog 57 #[.string s, .string t] w fun e w' => e = .returned (.int .i64 (ordL (letters s.data.toList) (letters t.data.toList))) ∧ Below w.heap.size w w' := by
  have c1 := Letters_any s w hs
  have c2 := fun w => Letters_any t w ht
  unfold LettersPost at c1 c2
  have o1 := letters_one s.data.toList
  have o2 := letters_one t.data.toList
  have hl1 := letters_le s.data.toList
  have hl2 := letters_le t.data.toList
  rw [← Lib.size_eq] at hl1 hl2
  obtain ⟨L, hL⟩ : ∃ L, L = letters s.data.toList := ⟨_, rfl⟩
  obtain ⟨M, hM⟩ : ∃ L, L = letters t.data.toList := ⟨_, rfl⟩
  obtain ⟨b1, hb1⟩ : ∃ b, b = isText s.data.toList := ⟨_, rfl⟩
  obtain ⟨b2, hb2⟩ : ∃ b, b = isText t.data.toList := ⟨_, rfl⟩
  rw [← hL, ← hb1] at c1
  rw [← hM, ← hb2] at c2
  rw [← hL] at o1 hl1
  rw [← hM] at o2 hl2
  rw [← hL, ← hM]
  obtain ⟨R, hR⟩ : ∃ R, R = ordL L M := ⟨_, rfl⟩
  rw [← hR]
  have HR := Lib.hid hR
  have C1 := Lib.hid c1
  have C2 := Lib.hid c2
  clear c1 c2 hL hM hb1 hb2 hR
  go_enter Tryd.func57, Tryd.ntmps57
  go_wp2_with fail
  refine C1.out.mono ?_
  rintro e w1 ⟨v, rfl, ho1, hb1⟩
  have HO1 := Lib.hid ho1
  clear ho1
  go_wp2_with fail
  refine (C2.out _).mono ?_
  rintro e w2 ⟨u, rfl, ho2, hb2⟩
  have HO1' := Lib.hid (HO1.out.below hb2)
  obtain ⟨A, n, c, rfl, hn, _, hm, _, hc⟩ := HO1'.out.open
  obtain ⟨A', n', c', rfl, hn', _, hm', _, hc'⟩ := ho2.open
  have HN := Lib.hid hn
  have HN' := Lib.hid hn'
  have hns : n ≤ s.size := by omega
  have hns' : n' ≤ t.size := by omega
  have hB2 := step hb1 hb2
  clear ho2 HO1 HO1' hn hn' hl1 hl2 C1 C2
  go_wp2
  go_loopw [9] (fun i wr => ∃ k : Nat, i = .int .i64 k ∧ k ≤ n ∧ k ≤ n' ∧ Hid (ordL (L.drop k) (M.drop k) = R) ∧ ∃ j, wr = w2.drewN j) (fun i _ => n - (intOf i).toNat)
  case atStart => exact ⟨0, rfl, Nat.zero_le _, Nat.zero_le _, HR.out.symm, 0, rfl⟩
  case round =>
    obtain ⟨k, rfl, hk, hk', HE, j, rfl⟩ := hrel
    have hB3 := Lib.hid (hB2.trans ((drewed w2 j).mono hB2.size))
    by_cases h1 : k < n
    · by_cases h2 : k < n'
      · obtain ⟨g, rfl, _, _, hcc⟩ := hc (by omega)
        obtain ⟨g', rfl, _, _, hcc'⟩ := hc' (by omega)
        have gc := hcc k h1
        have gc' := hcc' k h2
        have hkl : k < L.length := by have := HN.out; omega
        have hkm : k < M.length := by have := HN'.out; omega
        have ex : L[k]? = some (L.getD k 0) := by rw [List.getD_eq_getElem?_getD, List.getElem?_eq_getElem hkl]; rfl
        have ey : M[k]? = some (M.getD k 0) := by rw [List.getD_eq_getElem?_getD, List.getElem?_eq_getElem hkm]; rfl
        have bx := (o1 (L.getD k 0) (List.mem_of_getElem? ex)).bounds
        have by_ := (o2 (M.getD k 0) (List.mem_of_getElem? ey)).bounds
        have hst := ord_step ex ey
        obtain ⟨x, hx⟩ : ∃ x, x = L.getD k 0 := ⟨_, rfl⟩
        obtain ⟨y, hy⟩ : ∃ y, y = M.getD k 0 := ⟨_, rfl⟩
        rw [← hx] at gc bx hst
        rw [← hy] at gc' by_ hst
        obtain ⟨bx0, bx1⟩ := bx
        obtain ⟨by0, by1⟩ := by_
        have fx := foldR_bounds bx0 bx1
        have fy := foldR_bounds by0 by1
        have cx := fun w => Rfold_any x w bx0 (by omega)
        have cy := fun w => Rfold_any y w by0 (by omega)
        obtain ⟨X, hX⟩ : ∃ z, z = foldR x := ⟨_, rfl⟩
        obtain ⟨Y, hY⟩ : ∃ z, z = foldR y := ⟨_, rfl⟩
        rw [← hX] at fx cx hst
        rw [← hY] at fy cy hst
        obtain ⟨fx0, fx1⟩ := fx
        obtain ⟨fy0, fy1⟩ := fy
        have CX := Lib.hid cx
        have CY := Lib.hid cy
        rw [HE.out] at hst
        obtain ⟨wa, hwa⟩ : ∃ wa, wa = w2.drewN j := ⟨_, rfl⟩
        rw [← hwa] at hB3 ⊢
        have gc : wa.cell? ⟨g, k, none⟩ = some (.int .i64 x) := by rw [hwa]; exact gc
        have gc' : wa.cell? ⟨g', k, none⟩ = some (.int .i64 y) := by rw [hwa]; exact gc'
        have HWA := Lib.hid hwa
        clear hwa hcc hcc' hc hc' hx hy hX hY hkl hkm ex ey cx cy o1 o2
        by_cases he : X = Y
        · subst he
          rw [if_pos rfl] at hst
          have HE2 : Hid (ordL (L.drop (k + 1)) (M.drop (k + 1)) = R) := hst.symm
          have t1 : (X != X) = false := by simp
          clear hst HE
          go_wp2
          go_quiet ((go_at_call 66; (first | ((with_reducible exact quiet_pure CX.out)) | ((with_reducible exact quiet_pure CY.out)))))
          go_wp2
          go_roundw
          case rel => exact ⟨k + 1, by go_num, h1, h2, HE2, j + _, by rw [HWA.out]; exact World.drewN_drewN ..⟩
          case measure => simp [intOf]; omega
        · rw [if_neg he] at hst
          have HST := Lib.hid hst
          have t1 : (X != Y) = true := by simpa using he
          have t2 : IntKind.i64.wrap (X - Y) = X - Y := by simp [IntKind.wrap, IntKind.signed, IntKind.bits]; omega
          clear hst HE he
          go_wp2
          go_quiet ((go_at_call 66; (first | ((with_reducible exact quiet_pure CX.out)) | ((with_reducible exact quiet_pure CY.out)))))
          go_wp2
          obtain ⟨wb, hwb⟩ : ∃ wq, wq = wa.drewN nq := ⟨_, rfl⟩
          rw [← hwb]
          have gc : wb.cell? ⟨g, k, none⟩ = some (.int .i64 x) := by rw [hwb]; exact gc
          have gc' : wb.cell? ⟨g', k, none⟩ = some (.int .i64 y) := by rw [hwb]; exact gc'
          have HB4 : Hid (Below w.heap.size w wb) := by rw [hwb]; exact hB3.out.trans ((drewed _ _).mono hB3.out.size)
          clear hwb hB3
          go_quiet ((go_at_call 66; (first | ((with_reducible exact quiet_pure CX.out)) | ((with_reducible exact quiet_pure CY.out)))))
          go_wp2
          go_ret
          exact ⟨ret_int HST.out.symm, HB4.out.trans ((drewed _ _).mono HB4.out.size)⟩
      · have hE := HE.out
        rw [ord_end (by have := HN.out; omega) (by have := HN'.out; omega) (.inr (by have := HN'.out; omega)), HN.out, HN'.out] at hE
        have HE2 := Lib.hid hE
        clear hE HE hc hc' o1 o2
        go_wp2
        go_ret
        exact ⟨ret_int HE2.out, hB3.out⟩
    · have hE := HE.out
      rw [ord_end (by have := HN.out; omega) (by have := HN'.out; omega) (.inl (by have := HN.out; omega)), HN.out, HN'.out] at hE
      have HE2 := Lib.hid hE
      clear hE HE hc hc' o1 o2
      go_wp2
      go_ret
      exact ⟨ret_int HE2.out, hB3.out⟩
end Go.Proofs.YtaggjlobmikagaaDoor
