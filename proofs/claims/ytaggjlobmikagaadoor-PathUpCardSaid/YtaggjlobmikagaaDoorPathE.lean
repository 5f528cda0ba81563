/-
  Layer 6: the contracts of path.Parent, path.both, slices.EqualFunc over utf.Alike, path.Alike, path.Under.
-/
import Derived.Test.YtaggjlobmikagaaDoorPathD
namespace Go.Proofs.YtaggjlobmikagaaDoor
open Go.RowKit

/-- what Parent answers -/
def ParentPost (w : World) (l : List UInt8) (e : Ending) (w' : World) : Prop := e = .returned (.tuple #[.string ⟨(dirOf l).toArray⟩, .string ⟨(lastOf l).toArray⟩, .int .i64 (parentErr l)]) ∧ Below w.heap.size w w'

theorem parent_bad {l : List UInt8} (h : parentErr l ≠ 0) : dirOf l = [] ∧ lastOf l = [] := ⟨if_neg h, if_neg h⟩
theorem parse_names {l : List UInt8} : ∀ p ∈ parseOf l, nameOf p = true := by
  intro p hp
  by_cases h : parseErr l = 0
  · exact (namesErr_ok.1 (join_parse h).1).1 p hp
  · rw [parseOf_bad h] at hp
    cases hp
theorem parse_le8 (l : List UInt8) : (parseOf l).length ≤ 8 := by
  by_cases h : parseErr l = 0
  · exact parse_len h
  · rw [parseOf_bad h]; simp

set_option maxRecDepth 100000 in
set_option maxHeartbeats 2000000 in
theorem Parent_any (s : ByteArray) (w : World) (hs : s.size ≤ 140737488355328) (hT : Tabs w) :
    Calls Tryd.prog 20 #[.string s] w (ParentPost w s.data.toList) := by
  have c1 := Parse_any s w hs hT
  unfold ParsePost at c1
  have hq : ∀ (p q : List UInt8) (m : Int), dirOf s.data.toList = p → lastOf s.data.toList = q → parentErr s.data.toList = m → ∀ e w', e = .returned (.tuple #[.string ⟨p.toArray⟩, .string ⟨q.toArray⟩, .int .i64 m]) ∧ Below w.heap.size w w' → ParentPost w s.data.toList e w' := fun p q m hp hq hm e w' h => by
    unfold ParentPost
    rw [hp, hq, hm]
    exact h
  by_cases he : parseErr s.data.toList = 0
  · rw [he] at c1
    by_cases hn : s.data.toList = []
    · have h1 : parentErr s.data.toList = 2 := by unfold parentErr; rw [if_neg (by simp [he]), if_pos hn]
      obtain ⟨h2, h3⟩ := parent_bad (l := s.data.toList) (by omega)
      have HF := Lib.hid (hq _ _ _ h2 h3 h1)
      rw [(parse_root he).2 hn] at c1
      have C1 := Lib.hid c1
      clear c1 hq he hn h1 h2 h3
      go_enter Tryd.func20, Tryd.ntmps20
      go_wp2_with fail
      refine C1.out.mono ?_
      rintro e w1 ⟨v, rfl, ho, hb1⟩
      obtain ⟨A, k, c, rfl, hk, _, _, _, _⟩ := ho.open
      obtain rfl : k = 0 := hk.symm
      clear ho
      go_wp2
      go_ret3
      exact HF.out _ _ ⟨rfl, hb1⟩
    · have h1 : parentErr s.data.toList = 0 := parentErr_ok.2 ⟨he, hn⟩
      have h2 : dirOf s.data.toList = joinB (parseOf s.data.toList).dropLast := if_pos h1
      have h3 : lastOf s.data.toList = (parseOf s.data.toList).getLast?.getD [] := if_pos h1
      have hne : parseOf s.data.toList ≠ [] := fun h => hn ((parse_root he).1 h)
      have hnm := parse_names (l := s.data.toList)
      have h8 := parse_le8 s.data.toList
      obtain ⟨L, hL⟩ : ∃ L, L = parseOf s.data.toList := ⟨_, rfl⟩
      rw [← hL] at c1 h2 h3 hne hnm h8
      have hd : namesErr L.dropLast = 0 := namesErr_ok.2 ⟨fun p hp => hnm p (List.dropLast_subset _ hp), by rw [List.length_dropLast]; omega⟩
      have hj : joinOf L.dropLast = joinB L.dropLast := if_pos hd
      have hpos := List.length_pos_iff.2 hne
      have hlast : L[L.length - 1]? = some (L.getLast?.getD []) := by
        rw [List.getLast?_eq_getElem?]
        rw [List.getElem?_eq_getElem (by omega)]
        rfl
      obtain ⟨Z, hZ⟩ : ∃ Z, Z = L.getLast?.getD [] := ⟨_, rfl⟩
      rw [← hZ] at h3 hlast
      rw [← hj] at h2
      have hq' := hq _ _ _ h2 h3 h1
      have c5 := fun (w : World) A n c hx hT => Join_any w A n c L.dropLast hx (fun p hp => by have := name_bytes (hnm p (List.dropLast_subset _ hp)); omega) hT
      unfold JoinPost at c5
      rw [hd] at c5
      obtain ⟨D, hD⟩ : ∃ D : ByteArray, D = ⟨(joinOf L.dropLast).toArray⟩ := ⟨_, rfl⟩
      rw [← hD] at c5 hq'
      have HF := Lib.hid hq'
      have C1 := Lib.hid c1
      have C5 := Lib.hid c5
      have HLAST := Lib.hid hlast
      have HDL : Hid (L.dropLast = L.take (L.length - 1)) := List.dropLast_eq_take
      clear c1 c5 hq hq' he hn h1 h2 h3 hne hnm hL hd hj hlast hZ hD
      go_enter Tryd.func20, Tryd.ntmps20
      go_wp2_with fail
      refine C1.out.mono ?_
      rintro e w1 ⟨v, rfl, ho, hb1⟩
      obtain ⟨A, k, c, rfl, hh⟩ := ho.holds
      have hk := hh.len
      have hkc := hh.fit
      rw [hk] at h8 hpos
      have hk1 : 1 ≤ k := by omega
      have hne0 : ((k : Int) == 0) = false := by rw [beq_eq_false_iff_ne]; omega
      obtain ⟨b, off, rfl, hbk, hc⟩ := hh.cells (by omega)
      have HK := Lib.hid hk
      have hT1 := hT.below hb1
      have hpre := hh.pre (m := k - 1) (by omega)
      rw [← hk, ← HDL.out, hk] at hpre
      have HPRE := Lib.hid hpre
      have HH := Lib.hid hh
      have hcl := hc (k - 1) Z (by rw [← hk]; exact HLAST.out)
      have HCL := Lib.hid hcl
      clear ho hh hk hc C1 hpre hcl hpos
      go_wp2_with fail
      refine (C5.out _ _ _ _ HPRE.out hT1 (by omega)).mono ?_
      rintro e w2 ⟨rfl, hb2⟩
      have gc := (hb2.cell (p := ⟨b, off + (k - 1), none⟩) hbk).trans HCL.out
      unfold strV at gc
      have hB2 := Lib.hid (step hb1 hb2)
      have hk0 : (0 : Int) ≤ (k : Int) - 1 := by omega
      have hk2 : (1 : Int) ≤ (k : Int) := by omega
      clear HPRE HCL HH HDL HLAST hb2 C5
      go_wp2
      go_quiet (fail)
      go_wp2
      go_ret3
      refine HF.out _ _ ⟨rfl, ?_⟩
      exact hB2.out.trans ((drewed _ _).mono hB2.out.size)
  · obtain ⟨E, hE⟩ : ∃ E, E = parseErr s.data.toList := ⟨_, rfl⟩
    have h1 : parentErr s.data.toList = E := by rw [hE]; exact if_pos he
    rw [← hE] at c1 he
    obtain ⟨h2, h3⟩ := parent_bad (l := s.data.toList) (by omega)
    have HF := Lib.hid (hq _ _ _ h2 h3 h1)
    have hne : (E != 0) = true := by simpa using he
    have C1 := Lib.hid c1
    clear c1 hq hE he h1 h2 h3
    go_enter Tryd.func20, Tryd.ntmps20
    go_wp2_with fail
    refine C1.out.mono ?_
    rintro e w1 ⟨v, rfl, ho, hb1⟩
    go_wp2
    go_ret3
    exact HF.out _ _ ⟨rfl, hb1⟩

/-! ### both -/

def BothPost (w : World) (a b : List UInt8) (e : Ending) (w' : World) : Prop :=
  ∃ v u, e = .returned (.tuple #[v, u, .bool (decide (parseErr a = 0 ∧ parseErr b = 0))]) ∧ OwnF strV 9 w' w.heap.size v (parseOf a) ∧ (parseErr a = 0 → OwnF strV 9 w' w.heap.size u (parseOf b)) ∧ Below w.heap.size w w'

set_option maxHeartbeats 2000000 in
theorem both_any (s t : ByteArray) (w : World) (hs : s.size ≤ 140737488355328) (ht : t.size ≤ 140737488355328) (hT : Tabs w) :
    Calls Tryd.prog 35 #[.string s, .string t] w (BothPost w s.data.toList t.data.toList) := by
  have c1 := Parse_any s w hs hT
  have c2 := fun w hT => Parse_any t w ht hT
  unfold ParsePost at c1 c2
  have hq : ∀ (a b : Int), parseErr s.data.toList = a → parseErr t.data.toList = b → ∀ e w', (∃ v u, e = .returned (.tuple #[v, u, .bool (decide (a = 0 ∧ b = 0))]) ∧ OwnF strV 9 w' w.heap.size v (parseOf s.data.toList) ∧ (a = 0 → OwnF strV 9 w' w.heap.size u (parseOf t.data.toList)) ∧ Below w.heap.size w w') → BothPost w s.data.toList t.data.toList e w' := fun a b ha hb e w' h => by
    unfold BothPost
    rw [ha, hb]
    exact h
  have hbad : parseErr s.data.toList ≠ 0 → parseOf s.data.toList = [] := parseOf_bad
  obtain ⟨L, hL⟩ : ∃ L, L = parseOf s.data.toList := ⟨_, rfl⟩
  obtain ⟨M, hM⟩ : ∃ L, L = parseOf t.data.toList := ⟨_, rfl⟩
  obtain ⟨E, hE⟩ : ∃ E, E = parseErr s.data.toList := ⟨_, rfl⟩
  obtain ⟨F, hF⟩ : ∃ E, E = parseErr t.data.toList := ⟨_, rfl⟩
  rw [← hL, ← hE] at c1
  rw [← hM, ← hF] at c2
  rw [← hE, ← hL] at hbad
  have hq' := hq E F hE.symm hF.symm
  rw [← hL, ← hM] at hq'
  have HQ := Lib.hid hq'
  have C1 := Lib.hid c1
  have C2 := Lib.hid c2
  clear c1 c2 hq hq' hL hM hE hF
  by_cases he : E = 0
  · subst he
    have HF : Hid (decide ((0 : Int) = 0 ∧ F = 0) = (F == 0)) := by
      show _ = _
      rw [Bool.eq_iff_iff, decide_eq_true_eq, beq_iff_eq]
      simp
    clear hbad
    go_enter Tryd.func35, Tryd.ntmps35
    go_wp2_with fail
    refine C1.out.mono ?_
    rintro e w1 ⟨v, rfl, ho1, hb1⟩
    have HO1 := Lib.hid ho1
    clear ho1
    go_wp2_with fail
    refine (C2.out _ (hT.below hb1)).mono ?_
    rintro e w2 ⟨u, rfl, ho2, hb2⟩
    have HO2 := Lib.hid ho2
    clear ho2
    go_wp2
    go_ret3
    refine HQ.out _ _ ⟨v, u, ?_, HO1.out.below hb2, fun _ => HO2.out.mono hb1.size, step hb1 hb2⟩
    rw [HF.out]
    rfl
  · have hb := hbad he
    have hne : (E != 0) = true := by simpa using he
    have HF : Hid (decide (E = 0 ∧ F = 0) = false) := by
      show _ = _
      rw [decide_eq_false]
      exact fun h => he h.1
    have HB := Lib.hid hb
    clear hbad hb
    go_enter Tryd.func35, Tryd.ntmps35
    go_wp2_with fail
    refine C1.out.mono ?_
    rintro e w1 ⟨v, rfl, ho1, hb1⟩
    go_wp2
    go_ret3
    refine HQ.out _ _ ⟨.slice none 0 0, .slice none 0 0, ?_, ?_, fun h => absurd h he, hb1⟩
    · rw [HF.out]; rfl
    · rw [HB.out]; exact OwnF.nil _ _ _ _

/-! ### EqualFunc -/

theorem fold_step {xs ys : List (List UInt8)} {k : Nat} {x y : List UInt8} (hx : xs[k]? = some x) (hy : ys[k]? = some y) : ((xs.drop k).map foldB = (ys.drop k).map foldB) ↔ (foldB x = foldB y ∧ (xs.drop (k + 1)).map foldB = (ys.drop (k + 1)).map foldB) := by
  obtain ⟨h1, h2⟩ := List.getElem?_eq_some_iff.1 hx
  obtain ⟨h3, h4⟩ := List.getElem?_eq_some_iff.1 hy
  rw [List.drop_eq_getElem_cons h1, List.drop_eq_getElem_cons h3, h2, h4, List.map_cons, List.map_cons, List.cons.injEq]

set_option maxRecDepth 100000 in
set_option maxHeartbeats 2000000 in
theorem EqualFunc_any (w : World) (A A' : Option Addr) (n c n' c' : Nat) (xs ys : List (List UInt8)) (hx : HoldsF strV w w.heap.size A n c xs) (hy : HoldsF strV w w.heap.size A' n' c' ys) (lx : ∀ p ∈ xs, p.length ≤ 4398046511104) (ly : ∀ p ∈ ys, p.length ≤ 4398046511104) (hT : Tabs w) (hn63 : n ≤ 9223372036854775807) (hn63' : n' ≤ 9223372036854775807) :
    Calls Tryd.prog 36 #[.slice A n c, .slice A' n' c', .func (.func 37) #[] #[]] w fun e w' => e = .returned (.bool (decide (xs.map foldB = ys.map foldB))) ∧ Below w.heap.size w w' := by
  have c2 := fun (s t : ByteArray) (w : World) hs ht hT => Lib.hid (Alike_any s t w hs ht hT)
  have hxl := hx.len
  have hyl := hy.len
  by_cases hnn : n = n'
  · subst hnn
    obtain ⟨R, hR⟩ : ∃ R, R = decide (xs.map foldB = ys.map foldB) := ⟨_, rfl⟩
    rw [← hR]
    have HR := Lib.hid hR
    have HX := Lib.hid hx
    have HY := Lib.hid hy
    have HXL := Lib.hid hxl
    have HYL := Lib.hid hyl
    clear hx hy hR hxl hyl
    go_enter Tryd.func36, Tryd.ntmps36
    go_wp2
    go_loopw [7, 8, 9, 17] (fun _ _ _ i wr => ∃ k : Nat, i = .int .i64 k ∧ k ≤ n ∧ Hid (Below w.heap.size w wr) ∧ Hid (R = decide ((xs.drop k).map foldB = (ys.drop k).map foldB))) (fun _ _ _ i _ => n - (intOf i).toNat)
    case atStart => exact ⟨0, rfl, Nat.zero_le _, Below.refl _ _, by rw [List.drop_zero, List.drop_zero]; exact HR.out⟩
    case round =>
      obtain ⟨k, rfl, hk, HB, HE⟩ := hrel
      by_cases hlt : k < n
      · obtain ⟨b, off, rfl, hbk, hc⟩ := (HX.out.below HB.out).cells (by omega)
        obtain ⟨b', off', rfl, hbk', hc'⟩ := (HY.out.below HB.out).cells (by omega)
        have hkx : k < xs.length := by have := HXL.out; omega
        have hky : k < ys.length := by have := HYL.out; omega
        obtain ⟨p, hp⟩ : ∃ p, p = xs[k] := ⟨_, rfl⟩
        obtain ⟨q, hq⟩ : ∃ q, q = ys[k] := ⟨_, rfl⟩
        have ex : xs[k]? = some p := by rw [hp]; exact List.getElem?_eq_getElem hkx
        have ey : ys[k]? = some q := by rw [hq]; exact List.getElem?_eq_getElem hky
        have gc := hc k p ex
        have gc' := hc' k q ey
        unfold strV at gc gc'
        have d2 := c2 ⟨p.toArray⟩ ⟨q.toArray⟩ wr (by rw [mk_size, hp]; exact lx _ (List.getElem_mem hkx)) (by rw [mk_size, hq]; exact ly _ (List.getElem_mem hky)) (hT.below HB.out)
        rw [show (⟨p.toArray⟩ : ByteArray).data.toList = p from rfl, show (⟨q.toArray⟩ : ByteArray).data.toList = q from rfl] at d2
        unfold alikeOf at d2
        have hst := fold_step ex ey
        clear hc hc' hp hq hkx hky ex ey c2
        by_cases hal : foldB p = foldB q
        · rw [decide_eq_true hal] at d2
          have HE2 : Hid (R = decide ((xs.drop (k + 1)).map foldB = (ys.drop (k + 1)).map foldB)) := by
            show _ = _
            rw [HE.out]
            refine decide_eq_decide.2 (hst.trans ?_)
            simp [hal]
          clear hst hal HE
          go_wp2_with fail
          refine d2.out.mono ?_
          rintro e w2 ⟨rfl, hb2⟩
          have HB2 := Lib.hid (HB.out.trans (hb2.mono HB.out.size))
          clear hb2
          go_wp2
          go_roundw
          case rel => exact ⟨k + 1, by go_num, hlt, HB2, HE2⟩
          case measure => simp [intOf]; omega
        · rw [decide_eq_false hal] at d2
          have HE2 : Hid (R = false) := by
            show _ = _
            rw [HE.out]
            exact decide_eq_false fun h => hal (hst.1 h).1
          clear hst hal HE
          go_wp2_with fail
          refine d2.out.mono ?_
          rintro e w2 ⟨rfl, hb2⟩
          have HB2 := Lib.hid (HB.out.trans (hb2.mono HB.out.size))
          clear hb2
          go_wp2
          go_ret
          exact ⟨ret_bool HE2.out.symm, HB2.out⟩
      · obtain rfl : k = n := by omega
        have HE2 : Hid (R = true) := by
          show _ = _
          rw [HE.out, List.drop_of_length_le (by have := HXL.out; omega), List.drop_of_length_le (by have := HYL.out; omega)]
          rfl
        clear HE c2
        go_wp2
        go_ret
        exact ⟨ret_bool HE2.out.symm, HB.out⟩
  · have hf : decide (xs.map foldB = ys.map foldB) = false := decide_eq_false fun h => by
      have := congrArg List.length h
      rw [List.length_map, List.length_map] at this
      omega
    rw [hf]
    have hne : ((n : Int) != n') = true := by rw [bne_iff_ne]; omega
    clear hf hnn hx hy hxl hyl c2
    go_enter Tryd.func36, Tryd.ntmps36
    go_wp2
    go_ret
    exact ⟨rfl, Below.refl _ _⟩

/-! ### Alike, Under -/

set_option maxHeartbeats 2000000 in
theorem PAlike_any (s t : ByteArray) (w : World) (hs : s.size ≤ 140737488355328) (ht : t.size ≤ 140737488355328) (hT : Tabs w) :
    Calls Tryd.prog 22 #[.string s, .string t] w fun e w' => e = .returned (.bool (alikeP s.data.toList t.data.toList)) ∧ Below w.heap.size w w' := by
  have c1 := both_any s t w hs ht hT
  unfold BothPost at c1
  unfold alikeP
  have n1 := parse_names (l := s.data.toList)
  have n2 := parse_names (l := t.data.toList)
  have l1 := parse_le8 s.data.toList
  have l2 := parse_le8 t.data.toList
  obtain ⟨L, hL⟩ : ∃ L, L = parseOf s.data.toList := ⟨_, rfl⟩
  obtain ⟨M, hM⟩ : ∃ L, L = parseOf t.data.toList := ⟨_, rfl⟩
  obtain ⟨E, hE⟩ : ∃ E, E = parseErr s.data.toList := ⟨_, rfl⟩
  obtain ⟨F, hF⟩ : ∃ E, E = parseErr t.data.toList := ⟨_, rfl⟩
  rw [← hL, ← hM, ← hE, ← hF] at c1 ⊢
  rw [← hL] at n1 l1
  rw [← hM] at n2 l2
  have c3 := fun (w : World) A A' n c n' c' hx hy hT => EqualFunc_any w A A' n c n' c' L M hx hy (fun p hp => by have := name_bytes (n1 p hp); omega) (fun p hp => by have := name_bytes (n2 p hp); omega) hT
  by_cases hok : E = 0 ∧ F = 0
  · obtain ⟨rfl, rfl⟩ := hok
    rw [show decide ((0 : Int) = 0 ∧ (0 : Int) = 0) = true from rfl] at c1
    have hd : decide ((0 : Int) = 0 ∧ (0 : Int) = 0 ∧ L.map foldB = M.map foldB) = decide (L.map foldB = M.map foldB) := by simp
    rw [hd]
    obtain ⟨R, hR⟩ : ∃ R, R = decide (L.map foldB = M.map foldB) := ⟨_, rfl⟩
    rw [← hR] at c3 ⊢
    have C1 := Lib.hid c1
    have C3 := Lib.hid c3
    clear c1 c3 hL hM hE hF n1 n2 hd hR
    go_enter Tryd.func22, Tryd.ntmps22
    go_wp2_with fail
    refine C1.out.mono ?_
    rintro e w1 ⟨v, u, rfl, ho1, ho2, hb1⟩
    obtain ⟨A, k, c, rfl, hh⟩ := ho1.holds
    obtain ⟨A', k', c', rfl, hh'⟩ := (ho2 (by trivial)).holds
    have e1 := hh.len
    have e2 := hh'.len
    have d3 := Lib.hid (C3.out _ _ _ _ _ _ _ hh hh' (hT.below hb1) (by omega) (by omega))
    clear ho1 ho2 hh hh' e1 e2 C1 C3 l1 l2
    go_wp2_with fail
    refine d3.out.mono ?_
    rintro e w2 ⟨rfl, hb2⟩
    go_wp2
    go_ret
    exact ⟨rfl, step hb1 hb2⟩
  · rw [decide_eq_false hok] at c1
    rw [decide_eq_false (fun h => hok ⟨h.1, h.2.1⟩)]
    have C1 := Lib.hid c1
    clear c1 c3 hL hM hE hF n1 n2 hok
    go_enter Tryd.func22, Tryd.ntmps22
    go_wp2_with fail
    refine C1.out.mono ?_
    rintro e w1 ⟨v, u, rfl, ho1, ho2, hb1⟩
    go_wp2
    go_ret
    exact ⟨rfl, hb1⟩

set_option maxHeartbeats 2000000 in
theorem PUnder_any (s t : ByteArray) (w : World) (hs : s.size ≤ 140737488355328) (ht : t.size ≤ 140737488355328) (hT : Tabs w) :
    Calls Tryd.prog 24 #[.string s, .string t] w fun e w' => e = .returned (.bool (underP s.data.toList t.data.toList)) ∧ Below w.heap.size w w' := by
  have c1 := both_any s t w hs ht hT
  unfold BothPost at c1
  unfold underP
  have n1 := parse_names (l := s.data.toList)
  have n2 := parse_names (l := t.data.toList)
  have l1 := parse_le8 s.data.toList
  have l2 := parse_le8 t.data.toList
  obtain ⟨L, hL⟩ : ∃ L, L = parseOf s.data.toList := ⟨_, rfl⟩
  obtain ⟨M, hM⟩ : ∃ L, L = parseOf t.data.toList := ⟨_, rfl⟩
  obtain ⟨E, hE⟩ : ∃ E, E = parseErr s.data.toList := ⟨_, rfl⟩
  obtain ⟨F, hF⟩ : ∃ E, E = parseErr t.data.toList := ⟨_, rfl⟩
  rw [← hL, ← hM, ← hE, ← hF] at c1 ⊢
  rw [← hL] at n1 l1
  rw [← hM] at n2 l2
  by_cases hok : E = 0 ∧ F = 0
  · obtain ⟨rfl, rfl⟩ := hok
    rw [show decide ((0 : Int) = 0 ∧ (0 : Int) = 0) = true from rfl] at c1
    by_cases hlen : M.length < L.length
    · have c3 := fun (w : World) A A' n c n' c' hx hy hT => EqualFunc_any w A A' n c n' c' (L.take M.length) M hx hy (fun p hp => by have := name_bytes (n1 p (List.mem_of_mem_take hp)); omega) (fun p hp => by have := name_bytes (n2 p hp); omega) hT
      have hd : decide ((0 : Int) = 0 ∧ (0 : Int) = 0 ∧ M.length < L.length ∧ (L.take M.length).map foldB = M.map foldB) = decide ((L.take M.length).map foldB = M.map foldB) := by simp [hlen]
      rw [hd]
      obtain ⟨R, hR⟩ : ∃ R, R = decide ((L.take M.length).map foldB = M.map foldB) := ⟨_, rfl⟩
      rw [← hR] at c3 ⊢
      have C1 := Lib.hid c1
      have C3 := Lib.hid c3
      clear c1 c3 hL hM hE hF n1 n2 hd hR
      go_enter Tryd.func24, Tryd.ntmps24
      go_wp2_with fail
      refine C1.out.mono ?_
      rintro e w1 ⟨v, u, rfl, ho1, ho2, hb1⟩
      obtain ⟨A, k, c, rfl, hh⟩ := ho1.holds
      obtain ⟨A', k', c', rfl, hh'⟩ := (ho2 (by trivial)).holds
      have e1 := hh.len
      have e2 := hh'.len
      have e3 := hh.fit
      have hp := hh.pre (m := k') (by omega)
      rw [← e2] at hp
      have d3 := C3.out _ _ _ _ _ _ _ hp hh' (hT.below hb1) (by omega) (by omega)
      rw [e2] at d3
      have D3 := Lib.hid d3
      have hkk : k' < k := by omega
      clear ho1 ho2 hh hh' e1 e2 C1 C3 l1 l2 hp d3 hlen
      go_wp2_with fail
      refine D3.out.mono ?_
      rintro e w2 ⟨rfl, hb2⟩
      go_wp2
      go_ret
      exact ⟨rfl, step hb1 hb2⟩
    · rw [decide_eq_false (fun h => hlen h.2.2.1)]
      have C1 := Lib.hid c1
      clear c1 hL hM hE hF n1 n2
      go_enter Tryd.func24, Tryd.ntmps24
      go_wp2_with fail
      refine C1.out.mono ?_
      rintro e w1 ⟨v, u, rfl, ho1, ho2, hb1⟩
      obtain ⟨A, k, c, rfl, hh⟩ := ho1.holds
      obtain ⟨A', k', c', rfl, hh'⟩ := (ho2 (by trivial)).holds
      have e1 := hh.len
      have e2 := hh'.len
      have hkk : ¬ k' < k := by omega
      clear ho1 ho2 hh hh' e1 e2 C1 l1 l2 hlen
      go_wp2
      go_ret
      exact ⟨rfl, hb1⟩
  · rw [decide_eq_false hok] at c1
    rw [decide_eq_false (fun h => hok ⟨h.1, h.2.1⟩)]
    have C1 := Lib.hid c1
    clear c1 hL hM hE hF n1 n2 hok
    go_enter Tryd.func24, Tryd.ntmps24
    go_wp2_with fail
    refine C1.out.mono ?_
    rintro e w1 ⟨v, u, rfl, ho1, ho2, hb1⟩
    go_wp2
    go_ret
    exact ⟨rfl, hb1⟩
end Go.Proofs.YtaggjlobmikagaaDoor
