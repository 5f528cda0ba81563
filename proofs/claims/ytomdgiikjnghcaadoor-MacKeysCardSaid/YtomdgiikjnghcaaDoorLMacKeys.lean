/-
  The walk of the statement MacKeys: a key of up to 64 bytes with noughts behind it is the same key.
-/
import Derived.Test.YtomdgiikjnghcaaDoorWorksM
import Derived.Test.YtomdgiikjnghcaaDoorRefM1
import Derived.Test.YtomdgiikjnghcaaDoorOpen
namespace Go.Proofs.YtomdgiikjnghcaaDoor
open Go.RowKit
set_option linter.unusedVariables false

theorem keyL_zeros (ks : List Int) (j : Nat) (h : ks.length + j ≤ 64) : keyL (ks ++ List.replicate j 0) = keyL ks := by
  have hl : (ks ++ List.replicate j (0 : Int)).length = ks.length + j := by simp
  unfold keyL padK
  rw [if_neg (by omega), if_neg (by omega), hl, List.append_assoc, List.replicate_append_replicate]
  congr 2
  omega
theorem macL_zeros (ks bs : List Int) (j : Nat) (h : ks.length + j ≤ 64) : macL (ks ++ List.replicate j 0) bs = macL ks bs := by unfold macL; rw [keyL_zeros ks j h]

set_option maxHeartbeats 2000000 in
theorem walk_MacKeys (W : World) (hT : KTab W) (A0 : Option Addr) (n0 c0 : Nat) (z0 : List Int) (l0 : n0 ≤ c0) (r0 : c0 ≤ 140737488351232) (h0 : Holds W W.heap.size A0 c0 c0 z0)
    (A1 : Option Addr) (n1 c1 : Nat) (z1 : List Int) (l1 : n1 ≤ c1) (r1 : c1 ≤ 140737488351232) (h1 : Holds W W.heap.size A1 c1 c1 z1) (a2 : Int) (w2 : 0 ≤ a2 ∧ a2 ≤ 255) :
    Calls Tryd.prog 7 #[.slice A0 n0 c0, .slice A1 n1 c1, .int .u8 a2] W fun e W' => e = .returned (.bool true) ∧ Below W.heap.size W W' := by
  have hk := h0.head l0
  have hm := h1.head l1
  obtain ⟨ks, hks⟩ : ∃ xs, xs = z0.take n0 := ⟨_, rfl⟩
  obtain ⟨bs, hbs⟩ : ∃ xs, xs = z1.take n1 := ⟨_, rfl⟩
  rw [← hks] at hk
  rw [← hbs] at hm
  have cw := fun w hK => Lib.hid (works_any w hK)
  have HT := Lib.hid hT
  have HK := Lib.hid hk
  have HM := Lib.hid hm
  have HKL := Lib.hid hk.len
  clear hks hbs h0 h1 hT hk hm
  by_cases hlt : 64 < n0
  · have hgi : (64 : Int) < (n0 : Int) := by omega
    go_enter Tryd.func7, Tryd.ntmps7
    go_wp2_with fail
    refine (cw _ HT.out).out.mono ?_
    rintro e w4 ⟨rfl, b4⟩
    go_wp2_with fail
    go_ret
    exact ⟨rfl, b4⟩
  · have hle : (n0 : Int) ≤ 64 := by omega
    obtain ⟨q, hq⟩ : ∃ q : Nat, q = (a2 % 8).toNat := ⟨_, rfl⟩
    have hq8 : q < 8 := by omega
    have htm : a2.tmod 8 = (q : Int) := by rw [Int.tmod_eq_emod_of_nonneg w2.1]; omega
    obtain ⟨w20, w21⟩ := w2
    have c1' := fun w A n c j (hj : n0 + j ≤ 64) (hn : n = n0 + j) (h : Holds w w.heap.size A n c (ks ++ List.replicate j 0)) h2 hK => (macL_zeros ks bs j (by rw [HKL.out]; exact hj)) ▸ Mac_any w A n c _ (by omega) h A1 n1 c1 bs (by omega) h2 hK
    have c2' := fun w h h2 hK => Mac_any w A0 n0 c0 ks (by omega) h A1 n1 c1 bs (by omega) h2 hK
    have hpl := macL_len ks bs
    obtain ⟨p, hp⟩ : ∃ p, p = macL ks bs := ⟨_, rfl⟩
    rw [← hp] at c2' hpl
    have C1 : ∀ w A n c j, n0 + j ≤ 64 → n = n0 + j → Holds w w.heap.size A n c (ks ++ List.replicate j 0) → Holds w w.heap.size A1 n1 c1 bs → KTab w →
        Hid (Calls Tryd.prog 10 #[.slice A n c, .slice A1 n1 c1] w fun e w' => e = .returned (.agg (p.map (Value.int .u8)).toArray) ∧ Below w.heap.size w w') := fun w A n c j hj hn h h2 hK => by
      rw [hp]
      exact c1' w A n c j hj hn h h2 hK
    have C2 := fun w h h2 hK => Lib.hid (c2' w h h2 hK)
    have q1 := fun w => run_equalIn_arr (P := Tryd.prog) Tryd.underlying24 Tryd.underlying5 one_u8 p hpl 9998 w
    have qg : Tryd.prog.eqGuardType Tryd.prog.depth 24 = false := by kernel_rfl
    clear hp c1' c2' hpl hq
    go_enter Tryd.func7, Tryd.ntmps7
    go_wp2_with (first
      | (at_builtin; refine wpList_append_bytes rfl (.tmp 13) (.tmp 14) rfl W.heap.size _ [] rfl (Own.nil _ _) _ A0 n0 c0 ks rfl HK.out (by rw [HKL.out]; simp; omega) (Nat.le_refl _) ?_; intro v5 w5 o5 b5 _; rw [List.nil_append] at o5)
      | fail)
    have hs5 := b5.size
    go_loopw [7, 8] (fun v i wr => ∃ j : Nat, n0 + j ≤ 64 ∧ j ≤ q ∧ i = .int .i64 j ∧ Hid (OwnK .u8 5 wr W.heap.size v (ks ++ List.replicate j 0)) ∧ Hid (Below W.heap.size w5 wr)) (fun _ i _ => 64 - (intOf i).toNat)
    case atStart => exact ⟨0, by omega, by omega, rfl, by rw [List.replicate_zero, List.append_nil]; exact o5, Below.refl _ _⟩
    case round =>
      obtain ⟨j, hj, hjq, rfl, hO, hB⟩ := hrel
      obtain ⟨Av, l, cv, rfl, hl, _⟩ := hO.out.open
      have hl0 : (ks ++ List.replicate j 0).length = n0 + j := by rw [List.length_append, List.length_replicate, HKL.out]
      rw [hl0] at hl
      subst hl
      have hbs : Hid (W.heap.size ≤ wr.heap.size) := Nat.le_trans hs5 hB.out.size
      have hpl := Lib.hid hl0
      by_cases hlt2 : j < q ∧ n0 + j < 64
      · obtain ⟨d1, d2⟩ := hlt2
        have d1' : (j : Int) < (q : Int) := by omega
        have d2' : ((n0 + j : Nat) : Int) < 64 := by omega
        go_wp2_with (first
          | (at_builtin; refine wpList_append_lit rfl (.tmp 28) (.tmp 29) .u8 22 5 1 Tryd.underlying22 info_u8 rfl W.heap.size _ (ks ++ List.replicate j 0) [0] _ rfl 1 1 rfl rfl rfl hO.out (by rw [hpl.out]; omega) (by rw [hpl.out]; omega) hbs.out ?_; intro v1 w1 ho1 hg1)
          | fail)
        have hO1 := ho1.out
        rw [snoc_zero] at hO1
        go_roundw
        case rel => exact ⟨j + 1, by omega, by omega, by go_num, hO1, hB.out.trans (hg1.out.below hO.out hbs.out)⟩
        case measure => simp [intOf]; omega
      · obtain ⟨_, _, e0, h5⟩ := Own.holds (show Own _ _ _ (ks ++ List.replicate j 0) from hO.out) (HK.out.byte.append (Bytes.zeros _)) (by rw [hpl.out]; omega)
        rw [hpl.out] at e0 h5
        simp only [Value.slice.injEq, true_and] at e0
        obtain ⟨rfl, rfl⟩ := e0
        have H5 := Lib.hid h5
        have B5 := Lib.hid (b5.trans hB.out)
        have HJ := Lib.hid hj
        clear h5 hO hB hl0 hpl
        by_cases d1 : j < q
        · have d1' : (j : Int) < (q : Int) := by omega
          have d2' : ¬ ((n0 + j : Nat) : Int) < 64 := by omega
          go_wp2_with fail
          refine (C1 _ Av _ cv j HJ.out rfl H5.out (HM.out.over B5.out) (HT.out.below B5.out)).out.mono ?_
          rintro e w6 ⟨rfl, b6⟩
          have B6 := Lib.hid (step B5.out b6)
          clear b6 B5 H5
          go_wp2_with fail
          refine (C2 _ (HK.out.over B6.out) (HM.out.over B6.out) (HT.out.below B6.out)).out.mono ?_
          rintro e w7 ⟨rfl, b7⟩
          have B7 := Lib.hid (step B6.out b7)
          clear b7 B6
          go_wp2_with fail
          refine (cw _ (HT.out.below B7.out)).out.mono ?_
          rintro e w8 ⟨rfl, b8⟩
          go_wp2_with fail
          go_ret
          exact ⟨rfl, step B7.out b8⟩
        · have d1' : (q : Int) ≤ (j : Int) := by omega
          go_wp2_with fail
          refine (C1 _ Av _ cv j HJ.out rfl H5.out (HM.out.over B5.out) (HT.out.below B5.out)).out.mono ?_
          rintro e w6 ⟨rfl, b6⟩
          have B6 := Lib.hid (step B5.out b6)
          clear b6 B5 H5
          go_wp2_with fail
          refine (C2 _ (HK.out.over B6.out) (HM.out.over B6.out) (HT.out.below B6.out)).out.mono ?_
          rintro e w7 ⟨rfl, b7⟩
          have B7 := Lib.hid (step B6.out b7)
          clear b7 B6
          go_wp2_with fail
          refine (cw _ (HT.out.below B7.out)).out.mono ?_
          rintro e w8 ⟨rfl, b8⟩
          go_wp2_with fail
          go_ret
          exact ⟨rfl, step B7.out b8⟩
end Go.Proofs.YtomdgiikjnghcaaDoor
