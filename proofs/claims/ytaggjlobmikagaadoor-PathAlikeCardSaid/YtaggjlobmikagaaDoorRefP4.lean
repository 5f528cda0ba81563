/-
  Layer 6: contracts of the document's answers: refectoryref06.Parent, .begins, .Alike, .Under.
-/
import Derived.Test.YtaggjlobmikagaaDoorRefP3
import Derived.Deep.DeepCutAuto
namespace Go.Proofs.YtaggjlobmikagaaDoor
open Go.RowKit

set_option maxRecDepth 100000 in
set_option maxHeartbeats 2000000 in
theorem RParent_any (s : ByteArray) (w : World) (hs : s.size ≤ 4294967296) :
    Calls Tryd.prog 21 #[.string s] w (ParentPost w s.data.toList) := by
  have c1 := RParse_any s w hs
  unfold ParsePost at c1
  have hq : ∀ (p q : List UInt8) (m : Int), dirOf s.data.toList = p → lastOf s.data.toList = q → parentErr s.data.toList = m → ∀ e w', e = .returned (.tuple #[.string ⟨p.toArray⟩, .string ⟨q.toArray⟩, .int .i64 m]) ∧ Below w.heap.size w w' → ParentPost w s.data.toList e w' := fun p q m hp hq hm e w' h => by
    unfold ParentPost
    rw [hp, hq, hm]
    exact h
  by_cases he : parseErr s.data.toList = 0
  · rw [he] at c1
    by_cases hn : s.data.toList = []
    · have h1 : parentErr s.data.toList = 2 := by unfold parentErr; rw [if_neg (by simp [he]), if_pos hn]
      obtain ⟨h2, h3⟩ := parent_bad (l := s.data.toList) (by omega)
      have HF := Lib.hid (hq _ _ _ h2 h3 h1)
      rw [(parse_root he).2 hn] at c1
      have C1 := Lib.hid c1
      clear c1 hq he hn h1 h2 h3
      go_enter Tryd.func21, Tryd.ntmps21
      go_wp2_with fail
      refine C1.out.mono ?_
      rintro e w1 ⟨v, rfl, ho, hb1⟩
      obtain ⟨A, k, c, rfl, hk, _, _, _, _⟩ := ho.open
      obtain rfl : k = 0 := hk.symm
      clear ho
      go_wp2
      go_ret3
      exact HF.out _ _ ⟨rfl, hb1⟩
    · have h1 : parentErr s.data.toList = 0 := parentErr_ok.2 ⟨he, hn⟩
      have h2 : dirOf s.data.toList = joinB (parseOf s.data.toList).dropLast := if_pos h1
      have h3 : lastOf s.data.toList = (parseOf s.data.toList).getLast?.getD [] := if_pos h1
      have hne : parseOf s.data.toList ≠ [] := fun h => hn ((parse_root he).1 h)
      have hnm := parse_names (l := s.data.toList)
      have h8 := parse_le8 s.data.toList
      obtain ⟨L, hL⟩ : ∃ L, L = parseOf s.data.toList := ⟨_, rfl⟩
      rw [← hL] at c1 h2 h3 hne hnm h8
      have hd : namesErr L.dropLast = 0 := namesErr_ok.2 ⟨fun p hp => hnm p (List.dropLast_subset _ hp), by rw [List.length_dropLast]; omega⟩
      have hj : joinOf L.dropLast = joinB L.dropLast := if_pos hd
      have hpos := List.length_pos_iff.2 hne
      have hlast : L[L.length - 1]? = some (L.getLast?.getD []) := by
        rw [List.getLast?_eq_getElem?]
        rw [List.getElem?_eq_getElem (by omega)]
        rfl
      obtain ⟨Z, hZ⟩ : ∃ Z, Z = L.getLast?.getD [] := ⟨_, rfl⟩
      rw [← hZ] at h3 hlast
      rw [← hj] at h2
      have hq' := hq _ _ _ h2 h3 h1
      have c5 := fun (w : World) A n c hx => RJoin_any w A n c L.dropLast hx (fun p hp => by have := name_bytes (hnm p (List.dropLast_subset _ hp)); omega)
      unfold JoinPost at c5
      rw [hd] at c5
      obtain ⟨D, hD⟩ : ∃ D : ByteArray, D = ⟨(joinOf L.dropLast).toArray⟩ := ⟨_, rfl⟩
      rw [← hD] at c5 hq'
      have HF := Lib.hid hq'
      have C1 := Lib.hid c1
      have C5 := Lib.hid c5
      have HLAST := Lib.hid hlast
      have HDL : Hid (L.dropLast = L.take (L.length - 1)) := List.dropLast_eq_take
      clear c1 c5 hq hq' he hn h1 h2 h3 hne hnm hL hd hj hlast hZ hD
      go_enter Tryd.func21, Tryd.ntmps21
      go_wp2_with fail
      refine C1.out.mono ?_
      rintro e w1 ⟨v, rfl, ho, hb1⟩
      obtain ⟨A, k, c, rfl, hh⟩ := ho.holds
      have hk := hh.len
      have hkc := hh.fit
      rw [hk] at h8 hpos
      have hk1 : 1 ≤ k := by omega
      have hne0 : ((k : Int) == 0) = false := by rw [beq_eq_false_iff_ne]; omega
      obtain ⟨b, off, rfl, hbk, hc⟩ := hh.cells (by omega)
      have HK := Lib.hid hk
      have hpre := hh.pre (m := k - 1) (by omega)
      rw [← hk, ← HDL.out, hk] at hpre
      have HPRE := Lib.hid hpre
      have hcl := hc (k - 1) Z (by rw [← hk]; exact HLAST.out)
      have HCL := Lib.hid hcl
      clear ho hh hk hc C1 hpre hcl hpos
      go_wp2_with fail
      refine (C5.out _ _ _ _ HPRE.out (by omega)).mono ?_
      rintro e w2 ⟨rfl, hb2⟩
      have gc := (hb2.cell (p := ⟨b, off + (k - 1), none⟩) hbk).trans HCL.out
      unfold strV at gc
      have hB2 := Lib.hid (step hb1 hb2)
      have hk0 : (0 : Int) ≤ (k : Int) - 1 := by omega
      have hk2 : (1 : Int) ≤ (k : Int) := by omega
      clear HPRE HCL HDL HLAST hb2 C5
      go_wp2
      go_quiet (fail)
      go_wp2
      go_ret3
      refine HF.out _ _ ⟨rfl, ?_⟩
      exact hB2.out.trans ((drewed _ _).mono hB2.out.size)
  · obtain ⟨E, hE⟩ : ∃ E, E = parseErr s.data.toList := ⟨_, rfl⟩
    have h1 : parentErr s.data.toList = E := by rw [hE]; exact if_pos he
    rw [← hE] at c1 he
    obtain ⟨h2, h3⟩ := parent_bad (l := s.data.toList) (by omega)
    have HF := Lib.hid (hq _ _ _ h2 h3 h1)
    have hne : (E != 0) = true := by simpa using he
    have C1 := Lib.hid c1
    clear c1 hq hE he h1 h2 h3
    go_enter Tryd.func21, Tryd.ntmps21
    go_wp2_with fail
    refine C1.out.mono ?_
    rintro e w1 ⟨v, rfl, ho, hb1⟩
    go_wp2
    go_ret3
    exact HF.out _ _ ⟨rfl, hb1⟩

/-! ### begins -/

theorem begin_step {xs ys : List (List UInt8)} {k : Nat} {x y : List UInt8} (hx : xs[k]? = some x) (hy : ys[k]? = some y) : (((xs.take ys.length).drop k).map foldB = (ys.drop k).map foldB) ↔ (foldB x = foldB y ∧ ((xs.take ys.length).drop (k + 1)).map foldB = (ys.drop (k + 1)).map foldB) := by
  refine fold_step ?_ hy
  have := (List.getElem?_eq_some_iff.1 hy).1
  rw [List.getElem?_take, if_pos this, hx]

set_option maxRecDepth 100000 in
set_option maxHeartbeats 4000000 in
theorem begins_any (w : World) (A A' : Option Addr) (n c n' c' : Nat) (xs ys : List (List UInt8)) (hx : HoldsF strV w w.heap.size A n c xs) (hy : HoldsF strV w w.heap.size A' n' c' ys) (lx : ∀ p ∈ xs, p.length ≤ 4398046511104) (ly : ∀ p ∈ ys, p.length ≤ 4398046511104) (hn63 : n ≤ 9223372036854775807) (hn63' : n' ≤ 9223372036854775807) :
    Calls Tryd.prog 38 #[.slice A n c, .slice A' n' c'] w fun e w' => e = .returned (.bool (decide (ys.length ≤ xs.length ∧ (xs.take ys.length).map foldB = ys.map foldB))) ∧ Below w.heap.size w w' := by
  have c2 := fun (s t : ByteArray) (w : World) hs ht => Lib.hid (RAlike2_any s t w hs ht)
  have hxl := hx.len
  have hyl := hy.len
  by_cases hnn : n' ≤ n
  · obtain ⟨R, hR⟩ : ∃ R, R = decide (ys.length ≤ xs.length ∧ (xs.take ys.length).map foldB = ys.map foldB) := ⟨_, rfl⟩
    rw [← hR]
    have hR2 : R = decide ((xs.take ys.length).map foldB = ys.map foldB) := by
      rw [hR]
      refine decide_eq_decide.2 ⟨fun h => h.2, fun h => ⟨by omega, h⟩⟩
    have HR := Lib.hid hR2
    have HX := Lib.hid hx
    have HY := Lib.hid hy
    have HXL := Lib.hid hxl
    have HYL := Lib.hid hyl
    have hnlt : ¬ n < n' := by omega
    clear hx hy hR hxl hyl hR2
    go_enter Tryd.func38, Tryd.ntmps38
    go_wp2
    go_loopw [5] (fun i wr => ∃ k : Nat, i = .int .i64 k ∧ k ≤ n' ∧ Hid (Below w.heap.size w wr) ∧ Hid (R = decide (((xs.take ys.length).drop k).map foldB = (ys.drop k).map foldB))) (fun i _ => n' - (intOf i).toNat)
    case atStart => exact ⟨0, rfl, Nat.zero_le _, Below.refl _ _, by rw [List.drop_zero, List.drop_zero]; exact HR.out⟩
    case round =>
      obtain ⟨k, rfl, hk, HB, HE⟩ := hrel
      by_cases hlt : k < n'
      · obtain ⟨b, off, rfl, hbk, hc⟩ := (HX.out.below HB.out).cells (by omega)
        obtain ⟨b', off', rfl, hbk', hc'⟩ := (HY.out.below HB.out).cells (by omega)
        have hkx : k < xs.length := by have := HXL.out; omega
        have hky : k < ys.length := by have := HYL.out; omega
        obtain ⟨p, hp⟩ : ∃ p, p = xs[k] := ⟨_, rfl⟩
        obtain ⟨q, hq⟩ : ∃ q, q = ys[k] := ⟨_, rfl⟩
        have ex : xs[k]? = some p := by rw [hp]; exact List.getElem?_eq_getElem hkx
        have ey : ys[k]? = some q := by rw [hq]; exact List.getElem?_eq_getElem hky
        have gc := hc k p ex
        have gc' := hc' k q ey
        unfold strV at gc gc'
        have d2 := fun w => c2 ⟨p.toArray⟩ ⟨q.toArray⟩ w (by rw [mk_size, hp]; exact lx _ (List.getElem_mem hkx)) (by rw [mk_size, hq]; exact ly _ (List.getElem_mem hky))
        rw [show (⟨p.toArray⟩ : ByteArray).data.toList = p from rfl, show (⟨q.toArray⟩ : ByteArray).data.toList = q from rfl] at d2
        unfold alikeOf at d2
        have hst := begin_step ex ey
        have hltn : k < n := by omega
        have HBS := HB.out.size
        clear hc hc' hp hq hkx hky ex ey c2
        by_cases hal : foldB p = foldB q
        · rw [decide_eq_true hal] at d2
          have HE2 : Hid (R = decide (((xs.take ys.length).drop (k + 1)).map foldB = (ys.drop (k + 1)).map foldB)) := by
            show _ = _
            rw [HE.out]
            refine decide_eq_decide.2 (hst.trans ?_)
            simp [hal]
          clear hst hal HE HR
          go_upto_region 6 with (fail)
          go_cut [26] (fun t wx => t = .bool false ∧ Hid (Below w.heap.size w wx))
          case first =>
            go_region_with (first
              | (go_at_call 48; go_loud (refine (d2 _).out.mono ?_; rintro e w2 ⟨rfl, hb2⟩))
              | fail)
            all_goals go_wp2_with fail
            all_goals go_meet
            all_goals exact ⟨rfl, HB.out.drew.trans (hb2.mono HBS)⟩
          case rest =>
            obtain ⟨rfl, HB2⟩ := hcut
            go_wp2
            go_roundw
            case rel => exact ⟨k + 1, by go_num, hlt, HB2, HE2⟩
            case measure => simp [intOf]; omega
        · rw [decide_eq_false hal] at d2
          have HE2 : Hid (R = false) := by
            show _ = _
            rw [HE.out]
            exact decide_eq_false fun h => hal (hst.1 h).1
          clear hst hal HE HR
          go_upto_region 6 with (fail)
          go_cut [26] (fun t wx => t = .bool true ∧ Hid (Below w.heap.size w wx))
          case first =>
            go_region_with (first
              | (go_at_call 48; go_loud (refine (d2 _).out.mono ?_; rintro e w2 ⟨rfl, hb2⟩))
              | fail)
            all_goals go_wp2_with fail
            all_goals go_meet
            all_goals exact ⟨rfl, HB.out.drew.trans (hb2.mono HBS)⟩
          case rest =>
            obtain ⟨rfl, HB2⟩ := hcut
            go_wp2
            go_ret
            exact ⟨ret_bool HE2.out.symm, HB2.out⟩
      · obtain rfl : k = n' := by omega
        have HE2 : Hid (R = true) := by
          show _ = _
          rw [HE.out, List.drop_of_length_le (by rw [List.length_take]; have := HYL.out; omega), List.drop_of_length_le (by have := HYL.out; omega)]
          rfl
        clear HE c2
        go_wp2
        go_ret
        exact ⟨ret_bool HE2.out.symm, HB.out⟩
  · have hf : decide (ys.length ≤ xs.length ∧ (xs.take ys.length).map foldB = ys.map foldB) = false := decide_eq_false fun h => by omega
    rw [hf]
    have hlt : n < n' := by omega
    clear hf hnn hx hy hxl hyl c2
    go_enter Tryd.func38, Tryd.ntmps38
    go_wp2
    go_ret
    exact ⟨rfl, Below.refl _ _⟩

/-! ### Alike, Under -/

set_option maxHeartbeats 2000000 in
theorem RPAlike_any (s t : ByteArray) (w : World) (hs : s.size ≤ 4294967296) (ht : t.size ≤ 4294967296) :
    Calls Tryd.prog 23 #[.string s, .string t] w fun e w' => e = .returned (.bool (alikeP s.data.toList t.data.toList)) ∧ Below w.heap.size w w' := by
  have c1 := RParse_any s w hs
  have c2 := fun w => RParse_any t w ht
  unfold ParsePost at c1 c2
  unfold alikeP
  have n1 := parse_names (l := s.data.toList)
  have n2 := parse_names (l := t.data.toList)
  have l1 := parse_le8 s.data.toList
  have l2 := parse_le8 t.data.toList
  obtain ⟨L, hL⟩ : ∃ L, L = parseOf s.data.toList := ⟨_, rfl⟩
  obtain ⟨M, hM⟩ : ∃ L, L = parseOf t.data.toList := ⟨_, rfl⟩
  obtain ⟨E, hE⟩ : ∃ E, E = parseErr s.data.toList := ⟨_, rfl⟩
  obtain ⟨F, hF⟩ : ∃ E, E = parseErr t.data.toList := ⟨_, rfl⟩
  rw [← hL, ← hE] at c1
  rw [← hM, ← hF] at c2
  rw [← hL, ← hM, ← hE, ← hF]
  rw [← hL] at n1 l1
  rw [← hM] at n2 l2
  have c3 := fun (w : World) A A' n c n' c' hx hy => begins_any w A A' n c n' c' L M hx hy (fun p hp => by have := name_bytes (n1 p hp); omega) (fun p hp => by have := name_bytes (n2 p hp); omega)
  have HL1 := Lib.hid l1
  have HL2 := Lib.hid l2
  have C1 := Lib.hid c1
  have C2 := Lib.hid c2
  clear c1 c2 hL hM hE hF n1 n2 l1 l2
  by_cases he : E = 0
  · subst he
    by_cases hf : F = 0
    · subst hf
      by_cases hlen : L.length = M.length
      · have hd : decide (M.length ≤ L.length ∧ (L.take M.length).map foldB = M.map foldB) = decide ((0 : Int) = 0 ∧ (0 : Int) = 0 ∧ L.map foldB = M.map foldB) := by
          refine decide_eq_decide.2 ?_
          rw [List.take_of_length_le (by omega)]
          simp
          omega
        rw [hd] at c3
        obtain ⟨R, hR⟩ : ∃ R, R = decide ((0 : Int) = 0 ∧ (0 : Int) = 0 ∧ L.map foldB = M.map foldB) := ⟨_, rfl⟩
        rw [← hR] at c3 ⊢
        have C3 := Lib.hid c3
        have HLEN := Lib.hid hlen
        clear c3 hd hR hlen
        go_enter Tryd.func23, Tryd.ntmps23
        go_wp2_with fail
        refine C1.out.mono ?_
        rintro e w1 ⟨v, rfl, ho1, hb1⟩
        have HO1 := Lib.hid ho1
        clear ho1
        go_wp2_with fail
        refine (C2.out _).mono ?_
        rintro e w2 ⟨u, rfl, ho2, hb2⟩
        obtain ⟨A, k, c, rfl, hh⟩ := (HO1.out.below hb2).holds
        obtain ⟨A', k', c', rfl, hh'⟩ := ho2.holds
        have e1 := hh.len
        have e2 := hh'.len
        obtain rfl : k = k' := by have := HLEN.out; omega
        have d3 := Lib.hid (C3.out _ _ _ _ _ _ _ hh hh' (by have := HL1.out; omega) (by have := HL1.out; omega))
        have tk : ((k : Int) == k) = true := by simp
        have hB2 := step hb1 hb2
        clear ho2 HO1 hh hh' e1 e2 C1 C2 C3
        go_wp2_with fail
        refine d3.out.mono ?_
        rintro e w3 ⟨rfl, hb3⟩
        go_wp2
        go_ret
        exact ⟨rfl, step hB2 hb3⟩
      · rw [decide_eq_false (fun h => hlen (by simpa using congrArg List.length h.2.2))]
        have HLEN := Lib.hid hlen
        clear c3 hlen
        go_enter Tryd.func23, Tryd.ntmps23
        go_wp2_with fail
        refine C1.out.mono ?_
        rintro e w1 ⟨v, rfl, ho1, hb1⟩
        have HO1 := Lib.hid ho1
        clear ho1
        go_wp2_with fail
        refine (C2.out _).mono ?_
        rintro e w2 ⟨u, rfl, ho2, hb2⟩
        obtain ⟨A, k, c, rfl, hh⟩ := (HO1.out.below hb2).holds
        obtain ⟨A', k', c', rfl, hh'⟩ := ho2.holds
        have e1 := hh.len
        have e2 := hh'.len
        have tk : ((k : Int) == k') = false := by rw [beq_eq_false_iff_ne]; have := HLEN.out; omega
        have hB2 := step hb1 hb2
        clear ho2 HO1 hh hh' e1 e2 C1 C2
        go_wp2
        go_ret
        exact ⟨rfl, hB2⟩
    · rw [decide_eq_false (fun h => hf h.2.1)]
      have tf : (F == 0) = false := by simpa using hf
      clear c3 hf
      go_enter Tryd.func23, Tryd.ntmps23
      go_wp2_with fail
      refine C1.out.mono ?_
      rintro e w1 ⟨v, rfl, ho1, hb1⟩
      go_wp2_with fail
      refine (C2.out _).mono ?_
      rintro e w2 ⟨u, rfl, ho2, hb2⟩
      go_wp2
      go_ret
      exact ⟨rfl, step hb1 hb2⟩
  · rw [decide_eq_false (fun h => he h.1)]
    have te : (E == 0) = false := by simpa using he
    clear c3 he
    go_enter Tryd.func23, Tryd.ntmps23
    go_wp2_with fail
    refine C1.out.mono ?_
    rintro e w1 ⟨v, rfl, ho1, hb1⟩
    go_wp2_with fail
    refine (C2.out _).mono ?_
    rintro e w2 ⟨u, rfl, ho2, hb2⟩
    go_wp2
    go_ret
    exact ⟨rfl, step hb1 hb2⟩

set_option maxHeartbeats 2000000 in
theorem RPUnder_any (s t : ByteArray) (w : World) (hs : s.size ≤ 4294967296) (ht : t.size ≤ 4294967296) :
    Calls Tryd.prog 25 #[.string s, .string t] w fun e w' => e = .returned (.bool (underP s.data.toList t.data.toList)) ∧ Below w.heap.size w w' := by
  have c1 := RParse_any s w hs
  have c2 := fun w => RParse_any t w ht
  unfold ParsePost at c1 c2
  unfold underP
  have n1 := parse_names (l := s.data.toList)
  have n2 := parse_names (l := t.data.toList)
  have l1 := parse_le8 s.data.toList
  have l2 := parse_le8 t.data.toList
  obtain ⟨L, hL⟩ : ∃ L, L = parseOf s.data.toList := ⟨_, rfl⟩
  obtain ⟨M, hM⟩ : ∃ L, L = parseOf t.data.toList := ⟨_, rfl⟩
  obtain ⟨E, hE⟩ : ∃ E, E = parseErr s.data.toList := ⟨_, rfl⟩
  obtain ⟨F, hF⟩ : ∃ E, E = parseErr t.data.toList := ⟨_, rfl⟩
  rw [← hL, ← hE] at c1
  rw [← hM, ← hF] at c2
  rw [← hL, ← hM, ← hE, ← hF]
  rw [← hL] at n1 l1
  rw [← hM] at n2 l2
  have c3 := fun (w : World) A A' n c n' c' hx hy => begins_any w A A' n c n' c' L M hx hy (fun p hp => by have := name_bytes (n1 p hp); omega) (fun p hp => by have := name_bytes (n2 p hp); omega)
  have HL1 := Lib.hid l1
  have HL2 := Lib.hid l2
  have C1 := Lib.hid c1
  have C2 := Lib.hid c2
  clear c1 c2 hL hM hE hF n1 n2 l1 l2
  by_cases he : E = 0
  · subst he
    by_cases hf : F = 0
    · subst hf
      by_cases hlen : M.length < L.length
      · have hd : decide (M.length ≤ L.length ∧ (L.take M.length).map foldB = M.map foldB) = decide ((0 : Int) = 0 ∧ (0 : Int) = 0 ∧ M.length < L.length ∧ (L.take M.length).map foldB = M.map foldB) := by
          refine decide_eq_decide.2 ⟨fun h => ⟨rfl, rfl, hlen, h.2⟩, fun h => ⟨by omega, h.2.2.2⟩⟩
        rw [hd] at c3
        obtain ⟨R, hR⟩ : ∃ R, R = decide ((0 : Int) = 0 ∧ (0 : Int) = 0 ∧ M.length < L.length ∧ (L.take M.length).map foldB = M.map foldB) := ⟨_, rfl⟩
        rw [← hR] at c3 ⊢
        have C3 := Lib.hid c3
        have HLEN := Lib.hid hlen
        clear c3 hd hR hlen
        go_enter Tryd.func25, Tryd.ntmps25
        go_wp2_with fail
        refine C1.out.mono ?_
        rintro e w1 ⟨v, rfl, ho1, hb1⟩
        have HO1 := Lib.hid ho1
        clear ho1
        go_wp2_with fail
        refine (C2.out _).mono ?_
        rintro e w2 ⟨u, rfl, ho2, hb2⟩
        obtain ⟨A, k, c, rfl, hh⟩ := (HO1.out.below hb2).holds
        obtain ⟨A', k', c', rfl, hh'⟩ := ho2.holds
        have e1 := hh.len
        have e2 := hh'.len
        have tk : (k' : Int) < k := by have := HLEN.out; omega
        have d3 := Lib.hid (C3.out _ _ _ _ _ _ _ hh hh' (by have := HL1.out; omega) (by have := HL2.out; omega))
        have hB2 := step hb1 hb2
        clear ho2 HO1 hh hh' e1 e2 C1 C2 C3
        go_wp2_with fail
        refine d3.out.mono ?_
        rintro e w3 ⟨rfl, hb3⟩
        go_wp2
        go_ret
        exact ⟨rfl, step hB2 hb3⟩
      · rw [decide_eq_false (fun h => hlen h.2.2.1)]
        have HLEN := Lib.hid hlen
        clear c3 hlen
        go_enter Tryd.func25, Tryd.ntmps25
        go_wp2_with fail
        refine C1.out.mono ?_
        rintro e w1 ⟨v, rfl, ho1, hb1⟩
        have HO1 := Lib.hid ho1
        clear ho1
        go_wp2_with fail
        refine (C2.out _).mono ?_
        rintro e w2 ⟨u, rfl, ho2, hb2⟩
        obtain ⟨A, k, c, rfl, hh⟩ := (HO1.out.below hb2).holds
        obtain ⟨A', k', c', rfl, hh'⟩ := ho2.holds
        have e1 := hh.len
        have e2 := hh'.len
        have tk : ¬ (k' : Int) < k := by have := HLEN.out; omega
        have hB2 := step hb1 hb2
        clear ho2 HO1 hh hh' e1 e2 C1 C2
        go_wp2
        go_ret
        exact ⟨rfl, hB2⟩
    · rw [decide_eq_false (fun h => hf h.2.1)]
      have tf : (F == 0) = false := by simpa using hf
      clear c3 hf
      go_enter Tryd.func25, Tryd.ntmps25
      go_wp2_with fail
      refine C1.out.mono ?_
      rintro e w1 ⟨v, rfl, ho1, hb1⟩
      go_wp2_with fail
      refine (C2.out _).mono ?_
      rintro e w2 ⟨u, rfl, ho2, hb2⟩
      go_wp2
      go_ret
      exact ⟨rfl, step hb1 hb2⟩
  · rw [decide_eq_false (fun h => he h.1)]
    have te : (E == 0) = false := by simpa using he
    clear c3 he
    go_enter Tryd.func25, Tryd.ntmps25
    go_wp2_with fail
    refine C1.out.mono ?_
    rintro e w1 ⟨v, rfl, ho1, hb1⟩
    go_wp2_with fail
    refine (C2.out _).mono ?_
    rintro e w2 ⟨u, rfl, ho2, hb2⟩
    go_wp2
    go_ret
    exact ⟨rfl, step hb1 hb2⟩
end Go.Proofs.YtaggjlobmikagaaDoor
