/-
  Contract of the document's layer 3 (refectoryref03): Press.
-/
import Derived.Test.YtomdgiikjnghcaaDoorRefS2
namespace Go.Proofs.YtomdgiikjnghcaaDoor
open Go.RowKit

theorem P64_bound (i : Nat) (h : i < 64) : 2 ≤ P64.getD i 0 ∧ P64.getD i 0 ≤ 400 := by
  have hl : i < P64.length := by rw [P64_len]; exact h
  have e : P64.getD i 0 = P64[i] := by simp [hl]
  have := PP_bound 310 _ (List.getElem_mem hl)
  rw [e]
  omega

set_option maxRecDepth 100000 in
set_option maxHeartbeats 4000000 in
theorem RPress_any (w : World) (st xs : List Int) (hs : st.length = 8) (hsw : W32 st) (hl : xs.length = 64) (hx : Bytes xs) :
    Calls Tryd.prog 37 #[.agg (st.map (Value.int .u32)).toArray, .agg (xs.map (Value.int .u8)).toArray] w
      fun e w' => e = .returned (.agg ((pressOf st xs).map (Value.int .u32)).toArray) ∧ Below w.heap.size w w' := by
  have HL := Lib.hid hl
  have HS := Lib.hid hs
  obtain ⟨Z, hZ⟩ : ∃ Z : List Int, Z = List.replicate 64 0 := ⟨_, rfl⟩
  have HZ := len0 64
  have hz1 := zero_w
  rw [← hZ] at HZ hz1
  obtain ⟨Y, hY⟩ : ∃ Z : List Int, Z = List.replicate 8 0 := ⟨_, rfl⟩
  have HY := len0 8
  have hy1 := zero_s
  rw [← hY] at HY hy1
  have HZ1 := Lib.hid hz1
  have HY1 := Lib.hid hy1
  have cw := fun w => Lib.hid (schedule_any w xs hl hx)
  have cp := fun w => Lib.hid (primes_any w)
  have hsl := sched_len xs
  have hscw := sched_w xs hx
  obtain ⟨sc, hsc⟩ : ∃ sc, sc = sched xs := ⟨_, rfl⟩
  rw [← hsc] at cw hsl hscw
  have HSC := Lib.hid hsc
  have HSL := Lib.hid hsl
  clear hl hs hZ hz1 hY hy1 hsc hsl
  go_enter Tryd.func37, Tryd.ntmps37
  go_wp2_with (first
    | ((with_reducible show wpList _ _ _ (⟨some 2, _, _, _, _, _⟩ :: _) _ _); refine wpList_box_arr rfl _ (.tmp 0) rfl .u32 st rfl ?_; intro g2 w2 e2 s2 A2 b2)
    | ((with_reducible show wpList _ _ _ (⟨some 3, _, _, _, _, _⟩ :: _) _ _); refine wpList_box_arr rfl _ (.tmp 1) rfl .u8 xs rfl ?_; intro g3 w3 e3 s3 A3 b3)
    | ((with_reducible show wpList _ _ _ (⟨some 4, _, _, _, _, _⟩ :: _) _ _); refine wpList_alloc_arr rfl _ rfl .u32 Y 8 HY1 ?_; intro g4 w4 e4 s4 A4 b4; have A34 := Lib.hid (A3.out.over b4.out))
    | ((with_reducible show wpList _ _ _ (⟨some 14, _, _, _, _, _⟩ :: _) _ _); refine wpList_load_arr rfl _ (.tmp 3) rfl g3 rfl .u8 _ xs A34 64 _ Tryd.underlying44 size_b HL ?_)
    | fail)
  refine (cw _).out.mono ?_
  rintro e w5 ⟨rfl, b5⟩
  have B5 := Lib.hid b5
  clear b5
  go_wp2_with (first
    | ((with_reducible show wpList _ _ _ (⟨some 5, _, _, _, _, _⟩ :: _) _ _); refine wpList_alloc_arr rfl _ rfl .u32 Z 64 HZ1 ?_; intro g5 w6 e6 s6 A6 b6)
    | ((with_reducible show wpList _ _ _ (⟨none, _, _, _, _, _⟩ :: _) _ _); refine wpList_store_arr rfl _ (.tmp 5) (.tmp 15) rfl g5 rfl .u32 _ _ sc rfl A6 64 size_w HZ HSL ?_; intro w7 A7 o7 s7)
    | fail)
  refine (cp _).out.mono ?_
  rintro e w8 ⟨vp, rfl, op8, b8⟩
  have B8 := Lib.hid b8
  obtain ⟨Ap, np, cpp, rfl, hnp, hnc, hn2, hAp, hcell⟩ := op8.open
  rw [P64_len] at hnp
  subst hnp
  obtain ⟨gp, rfl, hgp1, hgp2, _⟩ := hcell (by omega)
  have HO8 := Lib.hid op8
  clear op8 b8 hcell hAp hn2
  have hsz2 := b3.out.size
  have hsz3 := b4.out.size
  have hsz4 := B5.out.size
  have hsz5 := b6.out.size
  have A28 := Lib.hid ((((((A2.out.over b3.out).over b4.out).over B5.out).over b6.out).only o7.out (by omega)).over B8.out)
  go_wp2_with (first
    | ((with_reducible show wpList _ _ _ (⟨some 17, _, _, _, _, _⟩ :: _) _ _); refine wpList_load_arr rfl _ (.tmp 2) rfl g2 rfl .u32 _ st A28 8 _ Tryd.underlying55 size_s HS ?_)
    | ((with_reducible show wpList _ _ _ (⟨some 7, _, _, _, _, _⟩ :: _) _ _); refine wpList_alloc_arr rfl _ rfl .u32 Y 8 HY1 ?_; intro g7 w9 e9 s9 A9 b9)
    | ((with_reducible show wpList _ _ _ (⟨none, _, _, _, _, _⟩ :: _) _ _); refine wpList_store_arr rfl _ (.tmp 7) (.tmp 17) rfl g7 rfl .u32 _ _ st rfl A9 8 size_s HY HS ?_; intro w10 A10 o10 s10)
    | fail)
  have hsz8 := B8.out.size
  have hsz7 := o7.out.size
  have l2 : g2 < g7 := by omega
  have l4 : g4 < g7 := by omega
  have l5 : g5 < g7 := by omega
  have lp : gp < g7 := by omega
  have lw4 : w.heap.size ≤ g4 := by omega
  have lw7 : w.heap.size ≤ g7 := by omega
  have B10 : Hid (Below w.heap.size w w10) := (step ((step b2.out (step b3.out (step b4.out (step B5.out b6.out)))).trans (o7.out.below (by omega)) |>.trans (B8.out.mono (by omega))) b9.out).trans (o10.out.below (by omega))
  have A2x := Lib.hid ((A28.out.over b9.out).only o10.out (by omega))
  have A4x := Lib.hid ((((((A4.out.over B5.out).over b6.out).only o7.out (by omega)).over B8.out).over b9.out).only o10.out (by omega))
  have A5x := Lib.hid (((A7.out.over B8.out).over b9.out).only o10.out (by omega))
  have HOx : Hid (OwnK .u64 53 w10 0 (.slice (some ⟨gp, 0, none⟩) 64 cpp) P64) := by
    refine ((HO8.out.mono (Nat.zero_le _)).below b9.out).keep fun i cs hi _ => ?_
    simp only [Value.ownBlock, Option.some.injEq] at hi
    subst hi
    exact o10.out.rest _ (by omega)
  obtain ⟨s0, hs0⟩ : ∃ s0, s0 = St.of st := ⟨_, rfl⟩
  have hsw0 := St.of_w hsw
  rw [← hs0] at hsw0
  have e0 : st = s0.list := by
    rw [hs0]
    have h8 := HS.out
    apply List.ext_getElem
    · rw [h8]; rfl
    · intro i h1 h2
      have hi : i = 0 ∨ i = 1 ∨ i = 2 ∨ i = 3 ∨ i = 4 ∨ i = 5 ∨ i = 6 ∨ i = 7 := by omega
      have e : st[i] = st.getD i 0 := by simp [h1]
      rw [e]
      rcases hi with rfl | rfl | rfl | rfl | rfl | rfl | rfl | rfl <;> rfl
  have HS0 := Lib.hid hs0
  have A7x : Hid (Arr w10 g7 .u32 55 s0.list) := by rw [← e0]; exact A10
  clear hs0 e0 A2 b2 A3 b3 A4 b4 A34 B5 A6 b6 A7 o7 B8 HO8 A28 A9 b9 A10 o10 hsz2 hsz3 hsz4 hsz5 hsz7 hsz8 s2 s3 s4 s6 s7 s9 e2 e3 e4 e6 e9 hgp1 hgp2
  go_loopw [8] (fun i wr => ∃ t : Nat, t ≤ 64 ∧ i = .int .i64 t ∧ Hid (Arr wr g7 .u32 55 (runS KK sc s0 t).list) ∧ Hid (Only g7 w10 wr)) (fun i _ => 64 - (intOf i).toNat)
  case atStart => exact ⟨0, by omega, rfl, A7x, Only.refl _ _⟩
  case round =>
    obtain ⟨t, ht, rfl, hR, hO⟩ := hrel
    by_cases hlt : t < 64
    · have hw := runS_w hsw0 KK sc t
      obtain ⟨s, hSt⟩ : ∃ s, s = runS KK sc s0 t := ⟨_, rfl⟩
      rw [← hSt] at hw hR
      have HSt := Lib.hid hSt
      clear hSt
      obtain ⟨a, b, c, d, e, f, g, h8⟩ := s
      obtain ⟨⟨a0, a1⟩, ⟨b0, b1⟩, ⟨c0, c1⟩, ⟨d0, d1⟩, ⟨e0, e1⟩, ⟨f0, f1⟩, ⟨g0, g1⟩, ⟨h0, h1⟩⟩ := hw
      have hsig : IntKind.u32.signed = false := rfl
      simp only at a0 a1 b0 b1 c0 c1 d0 d1 e0 e1 f0 f1 g0 g1 h0 h1
      have k0 : wr.cell? ⟨g7, 0, none⟩ = some (.int .u32 a) := hR.out.cell (i := 0) (by show _ < 8; omega)
      have k1 : wr.cell? ⟨g7, 1, none⟩ = some (.int .u32 b) := hR.out.cell (i := 1) (by show _ < 8; omega)
      have k2 : wr.cell? ⟨g7, 2, none⟩ = some (.int .u32 c) := hR.out.cell (i := 2) (by show _ < 8; omega)
      have k3 : wr.cell? ⟨g7, 3, none⟩ = some (.int .u32 d) := hR.out.cell (i := 3) (by show _ < 8; omega)
      have k4 : wr.cell? ⟨g7, 4, none⟩ = some (.int .u32 e) := hR.out.cell (i := 4) (by show _ < 8; omega)
      have k5 : wr.cell? ⟨g7, 5, none⟩ = some (.int .u32 f) := hR.out.cell (i := 5) (by show _ < 8; omega)
      have k6 : wr.cell? ⟨g7, 6, none⟩ = some (.int .u32 g) := hR.out.cell (i := 6) (by show _ < 8; omega)
      have k7 : wr.cell? ⟨g7, 7, none⟩ = some (.int .u32 h8) := hR.out.cell (i := 7) (by show _ < 8; omega)
      have hOr : OwnK .u64 53 wr 0 (.slice (some ⟨gp, 0, none⟩) 64 cpp) P64 := HOx.out.keep fun i cs hi _ => by
        simp only [Value.ownBlock, Option.some.injEq] at hi
        subst hi
        exact hO.out.rest _ (by omega)
      obtain ⟨Aq, nq, cq, hvq, hnq, _, _, _, hcq⟩ := hOr.open
      rw [P64_len] at hnq
      subst hnq
      obtain ⟨gq, rfl, _, _, hcq⟩ := hcq (by omega)
      simp only [Value.slice.injEq, Option.some.injEq, Addr.mk.injEq, and_true, true_and] at hvq
      obtain ⟨rfl, rfl⟩ := hvq
      have gk := hcq t hlt
      have hpb := P64_bound t hlt
      have hkk := P64_KK ⟨t, hlt⟩
      simp only at hkk
      obtain ⟨p, hp⟩ : ∃ p, p = P64.getD t 0 := ⟨_, rfl⟩
      rw [← hp] at gk hpb hkk
      obtain ⟨kt, hkt⟩ : ∃ kt, kt = KK.getD t 0 := ⟨_, rfl⟩
      have hk := KK_w.getD t
      rw [← hkt] at hk hkk
      have HKT := Lib.hid hkt
      have gx := (A5x.out.only hO.out (by omega)).cell (i := t) (by rw [HSL.out]; exact hlt)
      have hx' := hscw.getD t
      obtain ⟨x, hxe⟩ : ∃ x, x = sc.getD t 0 := ⟨_, rfl⟩
      rw [← hxe] at hx' gx
      have HXE := Lib.hid hxe
      obtain ⟨hk0, hk1⟩ := hk
      obtain ⟨hx0, hx1⟩ := hx'
      have cc := fun w => constant_any w p (by omega)
      rw [hkk] at cc
      have CC := fun w => Lib.hid (cc w)
      have ct6 : ∀ w, Hid (Calls Tryd.prog 42 #[.int .u32 e, .int .u64 6] w fun e' w' => e' = .returned (.int .u32 (rot e 6)) ∧ w = w') := fun w => turned_any w e 6 ⟨e0, e1⟩ (by omega)
      have ct11 : ∀ w, Hid (Calls Tryd.prog 42 #[.int .u32 e, .int .u64 11] w fun e' w' => e' = .returned (.int .u32 (rot e 11)) ∧ w = w') := fun w => turned_any w e 11 ⟨e0, e1⟩ (by omega)
      have ct25 : ∀ w, Hid (Calls Tryd.prog 42 #[.int .u32 e, .int .u64 25] w fun e' w' => e' = .returned (.int .u32 (rot e 25)) ∧ w = w') := fun w => turned_any w e 25 ⟨e0, e1⟩ (by omega)
      have ct2 : ∀ w, Hid (Calls Tryd.prog 42 #[.int .u32 a, .int .u64 2] w fun e' w' => e' = .returned (.int .u32 (rot a 2)) ∧ w = w') := fun w => turned_any w a 2 ⟨a0, a1⟩ (by omega)
      have ct13 : ∀ w, Hid (Calls Tryd.prog 42 #[.int .u32 a, .int .u64 13] w fun e' w' => e' = .returned (.int .u32 (rot a 13)) ∧ w = w') := fun w => turned_any w a 13 ⟨a0, a1⟩ (by omega)
      have ct22 : ∀ w, Hid (Calls Tryd.prog 42 #[.int .u32 a, .int .u64 22] w fun e' w' => e' = .returned (.int .u32 (rot a 22)) ∧ w = w') := fun w => turned_any w a 22 ⟨a0, a1⟩ (by omega)
      obtain ⟨hp0, hp1⟩ := hpb
      have re := rots_bounds e 6 11 25
      have ra := rots_bounds a 2 13 22
      have tt0 : (0 : Int) ≤ (t : Int) := by omega
      have tt1 : (t : Int) < 64 := by omega
      clear hcq hOr hp hkt hxe hkk cc
      go_wp2_with fail
      go_quiet (fail)
      go_wp2_with fail
      obtain ⟨wa, hwa⟩ : ∃ wq, wq = wr.drewN nq := ⟨_, rfl⟩
      rw [← hwa]
      have k0 : wa.cell? ⟨g7, 0, none⟩ = some (.int .u32 a) := by rw [hwa]; exact k0
      have k1 : wa.cell? ⟨g7, 1, none⟩ = some (.int .u32 b) := by rw [hwa]; exact k1
      have k2 : wa.cell? ⟨g7, 2, none⟩ = some (.int .u32 c) := by rw [hwa]; exact k2
      have k3 : wa.cell? ⟨g7, 3, none⟩ = some (.int .u32 d) := by rw [hwa]; exact k3
      have k4 : wa.cell? ⟨g7, 4, none⟩ = some (.int .u32 e) := by rw [hwa]; exact k4
      have k5 : wa.cell? ⟨g7, 5, none⟩ = some (.int .u32 f) := by rw [hwa]; exact k5
      have k6 : wa.cell? ⟨g7, 6, none⟩ = some (.int .u32 g) := by rw [hwa]; exact k6
      have k7 : wa.cell? ⟨g7, 7, none⟩ = some (.int .u32 h8) := by rw [hwa]; exact k7
      have gk : wa.cell? ⟨gp, t, none⟩ = some (.int .u64 p) := by rw [hwa]; exact gk
      have gx : wa.cell? ⟨g5, t, none⟩ = some (.int .u32 x) := by rw [hwa]; exact gx
      have hRwa : Hid (Arr wa g7 .u32 55 (St.list ⟨a, b, c, d, e, f, g, h8⟩)) := by rw [hwa]; exact hR.out.drewN nq
      have hOwa : Hid (Only g7 w10 wa) := by rw [hwa]; exact hO.out.drewN nq
      clear hwa hR hO
      go_quiet ((first
        | (go_at_call 42; (first | ((with_reducible exact quiet_same (ct6 _).out)) | ((with_reducible exact quiet_same (ct11 _).out)) | ((with_reducible exact quiet_same (ct25 _).out))))
        | (go_at_call 43; exact quiet_same (CC _).out)))
      go_wp2_with fail
      obtain ⟨wb, hwb⟩ : ∃ wq, wq = wa.drewN nq := ⟨_, rfl⟩
      rw [← hwb]
      have k0 : wb.cell? ⟨g7, 0, none⟩ = some (.int .u32 a) := by rw [hwb]; exact k0
      have k1 : wb.cell? ⟨g7, 1, none⟩ = some (.int .u32 b) := by rw [hwb]; exact k1
      have k2 : wb.cell? ⟨g7, 2, none⟩ = some (.int .u32 c) := by rw [hwb]; exact k2
      have k3 : wb.cell? ⟨g7, 3, none⟩ = some (.int .u32 d) := by rw [hwb]; exact k3
      have k4 : wb.cell? ⟨g7, 4, none⟩ = some (.int .u32 e) := by rw [hwb]; exact k4
      have k5 : wb.cell? ⟨g7, 5, none⟩ = some (.int .u32 f) := by rw [hwb]; exact k5
      have k6 : wb.cell? ⟨g7, 6, none⟩ = some (.int .u32 g) := by rw [hwb]; exact k6
      have k7 : wb.cell? ⟨g7, 7, none⟩ = some (.int .u32 h8) := by rw [hwb]; exact k7
      have hRwb : Hid (Arr wb g7 .u32 55 (St.list ⟨a, b, c, d, e, f, g, h8⟩)) := by rw [hwb]; exact hRwa.out.drewN nq
      have hOwb : Hid (Only g7 w10 wb) := by rw [hwb]; exact hOwa.out.drewN nq
      clear hwb hRwa hOwa
      go_quiet ((go_at_call 42; (first | ((with_reducible exact quiet_same (ct2 _).out)) | ((with_reducible exact quiet_same (ct13 _).out)) | ((with_reducible exact quiet_same (ct22 _).out)))))
      obtain ⟨wc, hwc⟩ : ∃ wq, wq = wb.drewN nq := ⟨_, rfl⟩
      rw [← hwc]
      have k0 : wc.cell? ⟨g7, 0, none⟩ = some (.int .u32 a) := by rw [hwc]; exact k0
      have k1 : wc.cell? ⟨g7, 1, none⟩ = some (.int .u32 b) := by rw [hwc]; exact k1
      have k2 : wc.cell? ⟨g7, 2, none⟩ = some (.int .u32 c) := by rw [hwc]; exact k2
      have k3 : wc.cell? ⟨g7, 3, none⟩ = some (.int .u32 d) := by rw [hwc]; exact k3
      have k4 : wc.cell? ⟨g7, 4, none⟩ = some (.int .u32 e) := by rw [hwc]; exact k4
      have k5 : wc.cell? ⟨g7, 5, none⟩ = some (.int .u32 f) := by rw [hwc]; exact k5
      have k6 : wc.cell? ⟨g7, 6, none⟩ = some (.int .u32 g) := by rw [hwc]; exact k6
      have k7 : wc.cell? ⟨g7, 7, none⟩ = some (.int .u32 h8) := by rw [hwc]; exact k7
      have hRwc : Hid (Arr wc g7 .u32 55 (St.list ⟨a, b, c, d, e, f, g, h8⟩)) := by rw [hwc]; exact hRwb.out.drewN nq
      have hOwc : Hid (Only g7 w10 wc) := by rw [hwc]; exact hOwb.out.drewN nq
      clear hwc hRwb hOwb
      go_wp2_with (first
        | ((with_reducible show wpList _ _ _ (⟨none, _, _, _, _, _⟩ :: _) _ _); refine wpList_store_arr rfl _ (.tmp 7) (.tmp 101) rfl g7 rfl .u32 _ _ [_, _, _, _, _, _, _, _] rfl hRwc 8 size_s rfl rfl ?_; intro w11 A11 o11 s11)
        | fail)
      have hstep : Hid (Arr w11 g7 .u32 55 (runS KK sc s0 (t + 1)).list) := by
        have e : runS KK sc s0 (t + 1) = roundS kt x ⟨a, b, c, d, e, f, g, h8⟩ := by
          show roundS _ _ _ = _
          rw [← HSt.out, ← HKT.out, ← HXE.out]
        rw [e]
        have hA := A11.out
        simp only [roundS, t1Of, t2Of, St.list, ch, maj, rots]
        simp only [Int.emod_add_emod, Int.add_emod_emod]
        exact hA
      go_roundw
      case rel => exact ⟨t + 1, by omega, by go_num, hstep, hOwc.out.trans o11.out⟩
      case measure => simp [intOf]; omega
    · have hge : (64 : Int) ≤ (t : Int) := by omega
      obtain ⟨new, hnew⟩ : ∃ new, new = (runS KK sc s0 64).list := ⟨_, rfl⟩
      have hlw := list_w (runS_w hsw0 KK sc 64)
      have hR64 := hR.out
      rw [show t = 64 by omega, ← hnew] at hR64
      rw [← hnew] at hlw
      have HN := Lib.hid (show new.length = 8 by rw [hnew]; rfl)
      have HNe := Lib.hid hnew
      obtain ⟨w12, hw12⟩ : ∃ w12, w12 = wr := ⟨_, rfl⟩
      have A72 : Hid (Arr w12 g7 .u32 55 (sumRow new st 0)) := by rw [hw12, sumRow_zero]; exact hR64
      have A22 : Hid (Arr w12 g2 .u32 55 st) := by rw [hw12]; exact A2x.out.only hO.out (by omega)
      have A42 : Hid (Arr w12 g4 .u32 55 Y) := by rw [hw12]; exact A4x.out.only hO.out (by omega)
      have B12 : Hid (Below w.heap.size w w12) := by rw [hw12]; exact B10.out.trans (hO.out.below lw7)
      rw [← hw12]
      clear hw12 hR64 hnew hR hO A2x A4x A5x B10 A7x HOx hlt
      go_wp2_with fail
      go_loopw [13] (fun i wr => ∃ k : Nat, k ≤ 8 ∧ i = .int .i64 k ∧ Hid (Arr wr g7 .u32 55 (sumRow new st k)) ∧ Hid (Only g7 w12 wr)) (fun i _ => 8 - (intOf i).toNat)
      case atStart => exact ⟨0, by omega, rfl, A72, Only.refl _ _⟩
      case round =>
        obtain ⟨k, hk, rfl, hR, hO⟩ := hrel
        by_cases hlt : k < 8
        · have hs8 := HS.out
          have hn8 := HN.out
          have gc := hR.out.cell (i := k) (by rw [sumRow_len _ _ hn8 hs8 _ hk]; omega)
          rw [sumRow_getD _ _ hn8 hs8 _ hlt] at gc
          have gf := hR.out.frozen k
          have gs := (A22.out.only hO.out (by omega)).cell (i := k) (by rw [hs8]; exact hlt)
          have hS := hR.out.set k ((new.getD k 0 + st.getD k 0) % 4294967296)
          rw [sumRow_set _ _ hn8 hs8 _ hlt] at hS
          have hb := hsw.getD k
          have hb' := hlw.getD k
          obtain ⟨y, hy⟩ : ∃ y, y = st.getD k 0 := ⟨_, rfl⟩
          rw [← hy] at gs hS hb
          obtain ⟨x, hx⟩ : ∃ x, x = new.getD k 0 := ⟨_, rfl⟩
          rw [← hx] at hS gc hb'
          have hSh := Lib.hid hS
          obtain ⟨hb0, hb1⟩ := hb
          obtain ⟨hb2, hb3⟩ := hb'
          have kk0 : (0 : Int) ≤ (k : Int) := by omega
          have kk1 : (k : Int) < 8 := by omega
          clear hs8 hn8 hS hx hy hR
          go_wp2_with fail
          go_still_tail 9, (by kernel_rfl)
          change wpList _ _ _ _ _ wr.drew
          go_wp2_with fail
          go_roundw
          case rel => exact ⟨k + 1, by omega, by go_num, hSh.out.drew, (hO.out.setCell _ _).drewN 1⟩
          case measure => simp [intOf]; omega
        · have hge2 : (8 : Int) ≤ (k : Int) := by omega
          have hF : Hid (Arr wr g7 .u32 55 (pressOf st xs)) := by
            have h0 := hR.out
            rw [show k = 8 by omega, sumRow_full _ _ HN.out HS.out, HNe.out] at h0
            have e : pressOf st xs = addS (runS KK sc s0 64).list st := by
              unfold pressOf
              rw [← HSC.out, ← HS0.out, addS_comm]
            rw [e]
            exact h0
          have A4f := Lib.hid (A42.out.only hO.out (by omega))
          have Bf : Hid (Below w.heap.size w wr) := B12.out.trans (hO.out.below lw7)
          have HP := Lib.hid (pressOf_len st xs HS.out)
          obtain ⟨p, hp⟩ : ∃ p, p = pressOf st xs := ⟨_, rfl⟩
          rw [← hp] at hF HP
          have HPe := Lib.hid hp
          clear hR hO hp
          go_wp2_with (first
            | ((with_reducible show wpList _ _ _ (⟨some 115, _, _, _, _, _⟩ :: _) _ _); refine wpList_load_arr rfl _ (.tmp 7) rfl g7 rfl .u32 _ p hF 8 _ Tryd.underlying55 size_s HP ?_)
            | ((with_reducible show wpList _ _ _ (⟨none, _, _, _, _, _⟩ :: _) _ _); refine wpList_store_arr rfl _ (.tmp 4) (.tmp 115) rfl g4 rfl .u32 _ _ p rfl A4f 8 size_s HY HP ?_; intro w14 A14 o14 s14)
            | fail)
          rw [← HPe.out]
          refine bodyPost_ret (v := .agg (p.map (Value.int .u32)).toArray) ?_ rfl ⟨rfl, Bf.out.trans (o14.out.below (by omega))⟩
          exact results_cell_row rfl _ _ g4 _ _ (0, 0) _ rfl A14.out Tryd.underlying55 rfl (by rw [size_s]; have := HP.out; simp [this])
end Go.Proofs.YtomdgiikjnghcaaDoor
