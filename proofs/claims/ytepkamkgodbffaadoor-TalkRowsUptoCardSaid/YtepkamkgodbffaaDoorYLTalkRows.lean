/-
  The walk of the statement TalkRows: rows and texts, of any bytes, at any place, are the document's.
-/
import Derived.Test.YtepkamkgodbffaaDoorZD
import Derived.Test.YtepkamkgodbffaaDoorZC
import Derived.Test.YtepkamkgodbffaaDoorYMem
import Derived.Test.YtepkamkgodbffaaDoorZA
namespace Go.Proofs.YtepkamkgodbffaaDoor
open Go.RowKit
set_option linter.unusedVariables false
set_option maxRecDepth 100000

theorem wide_holds {w : World} {g n : Nat} {xs : List Int} (hr : Row w g (xs ++ [7, 7, 7])) (hl : xs.length = n) (hn : n ≤ 281474976710653) (hb : Bytes xs) : Holds w w.heap.size (some ⟨g, 0, none⟩) n (n + 3) xs := by
  refine ⟨hl, by omega, by omega, hb, fun hA => (by cases hA), fun h0 => ⟨g, 0, rfl, hr.lt, fun i hi => ?_⟩⟩
  rw [Nat.zero_add, hr.cell (by simp; omega)]
  simp [List.getD_eq_getElem?_getD, List.getElem?_append, hl, hi]

set_option maxHeartbeats 4000000 in
theorem walk_TalkRows (W : World) (hT : Tabs W) (A0 : Option Addr) (n0 c0 : Nat) (z0 : List Int) (l0 : n0 ≤ c0) (r0 : c0 ≤ 1048576) (h0 : Holds W W.heap.size A0 c0 c0 z0)
    (a1 : Int) (w1 : -9223372036854775808 ≤ a1 ∧ a1 ≤ 9223372036854775807) (a2 : Int) (w2 : -9223372036854775808 ≤ a2 ∧ a2 ≤ 9223372036854775807) (a3 : ByteArray) (r3 : a3.size ≤ 1048576) :
    Calls Tryd.prog 10 #[.slice A0 n0 c0, .int .i64 a1, .int .i64 a2, .string a3] W fun e W' => e = .returned (.bool true) ∧ Below W.heap.size W W' := by
  have h := h0.head l0
  obtain ⟨xs, hxs⟩ : ∃ xs, xs = z0.take n0 := ⟨_, rfl⟩
  rw [← hxs] at h
  have HX := Lib.hid h
  have HXL := Lib.hid h.len
  have HXB := Lib.hid h.byte
  have HT := Lib.hid hT
  have CW := Wide_any W A0 n0 c0 xs h (by omega)
  unfold WidePost at CW
  rw [h.len] at CW
  have CW' := Lib.hid CW
  have CS : Hid (∀ (w : World) (A A' : Option Addr) (n c n' c' : Nat) (ys : List Int), Holds w w.heap.size A n c ys → Holds w w.heap.size A' n' c' ys → Calls Tryd.prog 14 #[.slice A n c, .slice A' n' c'] w fun e w' => e = .returned (.bool true) ∧ ∃ k, w.drewN k = w') := fun w A A' n c n' c' ys h1 h2 => by
    have h3 := Same_any w _ _ _ _ _ _ _ _ ys ys h1 h2
    rwa [decide_eq_true rfl] at h3
  have CA : Hid (∀ (w : World) (A : Option Addr) (n c : Nat), Holds w w.heap.size A n c xs → Calls Tryd.prog 29 #[.slice A n c] w fun e w' => ∃ v, e = .returned (.tuple #[v, .int .i64 (rowErr xs.length)]) ∧ Own w' w.heap.size v (rowOf xs) ∧ Below w.heap.size w w') := fun w A n c hh => PutRow_any w A n c xs hh
  have CB : Hid (∀ (w : World) (A : Option Addr) (n c : Nat), Holds w w.heap.size A n c xs → Calls Tryd.prog 30 #[.slice A n c] w fun e w' => ∃ v, e = .returned (.tuple #[v, .int .i64 (rowErr xs.length)]) ∧ Own w' w.heap.size v (rowOf xs) ∧ Below w.heap.size w w') := fun w A n c hh => RPutRow_any w A n c xs hh
  have CG : Hid (∀ (w : World) (A : Option Addr) (n c : Nat), Holds w w.heap.size A n c xs → Calls Tryd.prog 31 #[.slice A n c, .int .i64 a1, .int .i64 a2] w fun e w' => ∃ A' m, e = .returned (.tuple #[.slice A' m m, .int .i64 (growNext xs a1 a2), .int .i64 (growErr xs a1 a2)]) ∧ m = (growOf xs a1 a2).length ∧ Fresh w' w.heap.size A' (growOf xs a1 a2) ∧ Below w.heap.size w w') := fun w A n c hh => GetRow_any w A n c xs a1 a2 hh w1 w2
  have CH : Hid (∀ (w : World) (A : Option Addr) (n c : Nat), Holds w w.heap.size A n c xs → Calls Tryd.prog 32 #[.slice A n c, .int .i64 a1, .int .i64 a2] w fun e w' => ∃ v, e = .returned (.tuple #[v, .int .i64 (growNext xs a1 a2), .int .i64 (growErr xs a1 a2)]) ∧ Own w' w.heap.size v (growOf xs a1 a2) ∧ Below w.heap.size w w') := fun w A n c hh => RGetRow_any w A n c xs a1 a2 hh w1 w2
  have CI : Hid (∀ (w : World) (A : Option Addr) (n c : Nat), Holds w w.heap.size A n c xs → Calls Tryd.prog 33 #[.slice A n c, .int .i64 a1] w fun e w' => e = .returned (.tuple #[.string ⟨(gtextOf xs a1).toArray⟩, .int .i64 (gtextNext xs a1), .int .i64 (gtextErr xs a1)]) ∧ Below w.heap.size w w') := fun w A n c hh => GetText_any w A n c xs a1 hh w1
  have CJ : Hid (∀ (w : World) (A : Option Addr) (n c : Nat), Holds w w.heap.size A n c xs → Calls Tryd.prog 34 #[.slice A n c, .int .i64 a1] w fun e w' => e = .returned (.tuple #[.string ⟨(gtextOf xs a1).toArray⟩, .int .i64 (gtextNext xs a1), .int .i64 (gtextErr xs a1)]) ∧ Below w.heap.size w w') := fun w A n c hh => RGetText_any w A n c xs a1 hh w1
  have CK : Hid (∀ w : World, Tabs w → Calls Tryd.prog 35 #[.string a3] w fun e w' => ∃ v, e = .returned (.tuple #[v, .int .i64 (ptextErr a3.data.toList)]) ∧ Own w' w.heap.size v (ptextOf a3.data.toList) ∧ Below w.heap.size w w') := fun w hT => PutText_any a3 w (by omega) hT
  have CM : Hid (∀ w : World, Calls Tryd.prog 36 #[.string a3] w fun e w' => ∃ v, e = .returned (.tuple #[v, .int .i64 (ptextErr a3.data.toList)]) ∧ Own w' w.heap.size v (ptextOf a3.data.toList) ∧ Below w.heap.size w w') := fun w => RPutText_any a3 w (by omega)
  have CL : Hid (∀ w : World, Tabs w → Calls Tryd.prog 16 #[] w fun e w' => e = .returned (.bool true) ∧ Below w.heap.size w w') := lives_any
  have HRB := Lib.hid (rowOf_bytes h.byte)
  have HRL : Hid ((rowOf xs).length ≤ 65537) := by
    show _ ≤ _
    by_cases hq : xs.length ≤ 65535
    · rw [rowOf_len xs hq]; omega
    · unfold rowOf; rw [if_neg hq]; simp
  have HGB := Lib.hid (growOf_bytes h.byte a1 a2)
  have HGL := Lib.hid (growOf_le h.byte a1 a2)
  have HPB := Lib.hid (ptextOf_bytes a3.data.toList)
  have HPL := Lib.hid (rowOf_le a3.data.toList)
  obtain ⟨re, hre⟩ : ∃ x, x = rowErr xs.length := ⟨_, rfl⟩
  obtain ⟨rr, hrr⟩ : ∃ x, x = rowOf xs := ⟨_, rfl⟩
  obtain ⟨gn, hgn⟩ : ∃ x, x = growNext xs a1 a2 := ⟨_, rfl⟩
  obtain ⟨ge, hge⟩ : ∃ x, x = growErr xs a1 a2 := ⟨_, rfl⟩
  obtain ⟨gr, hgr⟩ : ∃ x, x = growOf xs a1 a2 := ⟨_, rfl⟩
  obtain ⟨tx, htx⟩ : ∃ x : ByteArray, x = ⟨(gtextOf xs a1).toArray⟩ := ⟨_, rfl⟩
  obtain ⟨tn, htn⟩ : ∃ x, x = gtextNext xs a1 := ⟨_, rfl⟩
  obtain ⟨te, hte⟩ : ∃ x, x = gtextErr xs a1 := ⟨_, rfl⟩
  obtain ⟨pe, hpe⟩ : ∃ x, x = ptextErr a3.data.toList := ⟨_, rfl⟩
  obtain ⟨pr, hpr⟩ : ∃ x, x = ptextOf a3.data.toList := ⟨_, rfl⟩
  rw [← hre, ← hrr] at CA CB
  rw [← hrr] at HRB HRL
  rw [← hgn, ← hge, ← hgr] at CG CH
  rw [← hgr] at HGB HGL
  rw [← htx, ← htn, ← hte] at CI CJ
  rw [← hpe, ← hpr] at CK CM
  rw [← hpr] at HPB HPL
  clear hre hrr hgn hge hgr htx htn hte hpe hpr h h0 hxs hT CW
  go_enter Tryd.func10, Tryd.ntmps10
  go_wp2_with fail
  refine CW'.out.mono ?_
  rintro e v1 ⟨rfl, hrow, L1⟩
  have R1 := Lib.hid hrow
  have M1 := Lib.hid L1
  have hW1 := R1.out.lt
  obtain ⟨gw, hgw⟩ : ∃ g, g = W.heap.size := ⟨_, rfl⟩
  have HGW := Lib.hid hgw
  rw [← hgw] at R1 hW1 ⊢
  clear hrow L1 CW' hgw
  go_wp2_with fail
  refine (CA.out _ _ _ _ (wide_holds R1.out HXL.out (by omega) HXB.out)).mono ?_
  rintro e v2 ⟨u2, rfl, ho2, L2⟩
  have R2 := Lib.hid (R1.out.over L2)
  have M2 := Lib.hid (M1.out.trans (L2.mono M1.out.size))
  have O2 := Lib.hid ho2
  clear R1 M1 ho2 L2
  go_wp2_with fail
  refine (CB.out _ _ _ _ ((HX.out.below M2.out).mono M2.out.size)).mono ?_
  rintro e v3 ⟨u3, rfl, ho3, L3⟩
  have R3 := Lib.hid (R2.out.over L3)
  have M3 := Lib.hid (M2.out.trans (L3.mono M2.out.size))
  obtain ⟨A2, c2, rfl, hh2⟩ := (O2.out.below L3).holds HRB.out (by have := HRL.out; omega)
  obtain ⟨A3, c3, rfl, hh3⟩ := ho3.holds HRB.out (by have := HRL.out; omega)
  have D3 := Lib.hid (CS.out _ _ _ _ _ _ _ _ hh2 hh3)
  obtain ⟨lr, hlr⟩ : ∃ n, n = rr.length := ⟨_, rfl⟩
  rw [← hlr] at D3 ⊢
  clear R2 M2 O2 ho3 L3 hh2 hh3 hlr
  go_wp2_with fail
  refine D3.out.mono ?_
  rintro e v4 ⟨rfl, k4, rfl⟩
  obtain ⟨v4, hv4⟩ : ∃ v, v = v3.drewN k4 := ⟨_, rfl⟩
  have R4 : Hid (Row v4 gw (xs ++ [7, 7, 7])) := by rw [hv4]; exact R3.out.drewN k4
  have M4 : Hid (Below W.heap.size W v4) := by rw [hv4]; exact M3.out.trans ((drewed v3 k4).mono M3.out.size)
  rw [← hv4]
  clear hv4 R3 M3 D3
  go_wp2_with fail
  refine (CG.out _ _ _ _ (wide_holds R4.out HXL.out (by omega) HXB.out)).mono ?_
  rintro e v5 ⟨A5, m5, rfl, hm5, hf5, L5⟩
  have R5 := Lib.hid (R4.out.over L5)
  have M5 := Lib.hid (M4.out.trans (L5.mono M4.out.size))
  have H5 := Lib.hid (hf5.holds hm5.symm HGB.out (by have := HGL.out; omega))
  clear R4 M4 hf5 L5 hm5
  go_wp2_with fail
  refine (CH.out _ _ _ _ ((HX.out.below M5.out).mono M5.out.size)).mono ?_
  rintro e v6 ⟨u6, rfl, ho6, L6⟩
  have R6 := Lib.hid (R5.out.over L6)
  have M6 := Lib.hid (M5.out.trans (L6.mono M5.out.size))
  obtain ⟨A6, c6, rfl, hh6⟩ := ho6.holds HGB.out (by have := HGL.out; omega)
  have D6 := Lib.hid (CS.out _ _ _ _ _ _ _ _ (H5.out.over L6) hh6)
  obtain ⟨lg, hlg⟩ : ∃ n, n = gr.length := ⟨_, rfl⟩
  rw [← hlg] at D6 ⊢
  clear R5 M5 H5 ho6 L6 hh6 hlg
  go_wp2_with fail
  refine D6.out.mono ?_
  rintro e v7 ⟨rfl, k7, rfl⟩
  obtain ⟨v7, hv7⟩ : ∃ v, v = v6.drewN k7 := ⟨_, rfl⟩
  have R7 : Hid (Row v7 gw (xs ++ [7, 7, 7])) := by rw [hv7]; exact R6.out.drewN k7
  have M7 : Hid (Below W.heap.size W v7) := by rw [hv7]; exact M6.out.trans ((drewed v6 k7).mono M6.out.size)
  rw [← hv7]
  clear hv7 R6 M6 D6
  go_wp2_with fail
  refine (CI.out _ _ _ _ (wide_holds R7.out HXL.out (by omega) HXB.out)).mono ?_
  rintro e v8 ⟨rfl, L8⟩
  have R8 := Lib.hid (R7.out.over L8)
  have M8 := Lib.hid (M7.out.trans (L8.mono M7.out.size))
  clear R7 M7 L8
  go_wp2_with fail
  refine (CJ.out _ _ _ _ ((HX.out.below M8.out).mono M8.out.size)).mono ?_
  rintro e v9 ⟨rfl, L9⟩
  have R9 := Lib.hid (R8.out.over L9)
  have M9 := Lib.hid (M8.out.trans (L9.mono M8.out.size))
  clear R8 M8 L9
  go_wp2_with fail
  refine (CK.out _ (HT.out.below M9.out)).mono ?_
  rintro e v10 ⟨u10, rfl, ho10, L10⟩
  have R10 := Lib.hid (R9.out.over L10)
  have M10 := Lib.hid (M9.out.trans (L10.mono M9.out.size))
  have O10 := Lib.hid ho10
  clear R9 M9 ho10 L10
  go_wp2_with fail
  refine (CM.out _).mono ?_
  rintro e v11 ⟨u11, rfl, ho11, L11⟩
  have R11 := Lib.hid (R10.out.over L11)
  have M11 := Lib.hid (M10.out.trans (L11.mono M10.out.size))
  obtain ⟨A10, c10, rfl, hh10⟩ := (O10.out.below L11).holds HPB.out (by have := HPL.out; omega)
  obtain ⟨A11, c11, rfl, hh11⟩ := ho11.holds HPB.out (by have := HPL.out; omega)
  have D11 := Lib.hid (CS.out _ _ _ _ _ _ _ _ hh10 hh11)
  obtain ⟨lp, hlp⟩ : ∃ n, n = pr.length := ⟨_, rfl⟩
  rw [← hlp] at D11 ⊢
  clear R10 M10 O10 ho11 L11 hh10 hh11 hlp
  go_wp2_with fail
  refine D11.out.mono ?_
  rintro e v12 ⟨rfl, k12, rfl⟩
  obtain ⟨v12, hv12⟩ : ∃ v, v = v11.drewN k12 := ⟨_, rfl⟩
  have R12 : Hid (Row v12 gw (xs ++ [7, 7, 7])) := by rw [hv12]; exact R11.out.drewN k12
  have M12 : Hid (Below W.heap.size W v12) := by rw [hv12]; exact M11.out.trans ((drewed v11 k12).mono M11.out.size)
  rw [← hv12]
  clear hv12 R11 M11 D11
  have D12 := Lib.hid (Left_any v12 gw A0 n0 c0 xs R12.out ((HX.out.below M12.out).mono M12.out.size))
  go_wp2_with fail
  refine D12.out.mono ?_
  rintro e v13 ⟨rfl, k13, rfl⟩
  have M13 : Hid (Below W.heap.size W (v12.drewN k13)) := M12.out.trans ((drewed v12 k13).mono M12.out.size)
  obtain ⟨v13, hv13⟩ : ∃ v, v = v12.drewN k13 := ⟨_, rfl⟩
  rw [← hv13] at M13 ⊢
  clear hv13 D12 R12 M12
  go_wp2_with fail
  refine (CL.out _ (HT.out.below M13.out)).mono ?_
  rintro e v14 ⟨rfl, L14⟩
  go_wp2
  go_ret
  exact ⟨rfl, M13.out.trans (L14.mono M13.out.size)⟩
end Go.Proofs.YtepkamkgodbffaaDoor
