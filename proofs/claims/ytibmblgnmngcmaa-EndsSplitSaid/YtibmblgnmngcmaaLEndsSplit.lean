/-
  The walk of the statement EndsSplit: a part in two parts is both.
-/
import Derived.Test.YtibmblgnmngcmaaLEndsParts
namespace Go.Proofs.Ytibmblgnmngcmaa
open Go.RowKit
set_option linter.unusedVariables false

theorem partOf_split {xs : List Int} {a n m : Int} (h1 : partErr xs.length a n = 0) (h2 : partErr xs.length (a + n) m = 0) : partOf xs a n ++ partOf xs (a + n) m = partOf xs a (n + m) ∧ partErr xs.length a (n + m) = 0 := by
  unfold partErr at h1 h2
  have a1 : ¬ (a < 0 ∨ (xs.length : Int) < a ∨ n < 0) := fun h => by rw [if_pos h] at h1; omega
  have a2 : ¬ ((xs.length : Int) - a < n) := fun h => by rw [if_neg a1, if_pos h] at h1; omega
  have b1 : ¬ (a + n < 0 ∨ (xs.length : Int) < a + n ∨ m < 0) := fun h => by rw [if_pos h] at h2; omega
  have b2 : ¬ ((xs.length : Int) - (a + n) < m) := fun h => by rw [if_neg b1, if_pos h] at h2; omega
  have e : partErr xs.length a (n + m) = 0 := by unfold partErr; rw [if_neg (by omega), if_neg (by omega)]
  refine ⟨?_, e⟩
  have e1 : partErr xs.length a n = 0 := by unfold partErr; rw [if_neg a1, if_neg a2]
  have e2 : partErr xs.length (a + n) m = 0 := by unfold partErr; rw [if_neg b1, if_neg b2]
  unfold partOf
  rw [if_pos e1, if_pos e2, if_pos e]
  obtain ⟨k, rfl⟩ := Int.eq_ofNat_of_zero_le (show 0 ≤ a by omega)
  obtain ⟨i, rfl⟩ := Int.eq_ofNat_of_zero_le (show 0 ≤ n by omega)
  obtain ⟨j, rfl⟩ := Int.eq_ofNat_of_zero_le (show 0 ≤ m by omega)
  rw [show ((k : Int) + (i : Int)).toNat = k + i from by omega, show ((i : Int) + (j : Int)).toNat = i + j from by omega]
  simp only [Int.toNat_natCast]
  rw [← List.drop_drop, List.take_add]
theorem zeroOf_split {xs : List Int} {a n m : Int} (h1 : partErr xs.length a n = 0) (h2 : partErr xs.length (a + n) m = 0) : zeroOf xs a (n + m) = (zeroOf xs a n && zeroOf xs (a + n) m) := by
  obtain ⟨e1, e2⟩ := partOf_split h1 h2
  unfold zeroOf
  rw [h1, h2, e2, ← e1, List.all_append]
  simp

/-- is one of the four numbers out of bounds, as the statement asks? -/
def Bad (n0 : Nat) (a1 a2 a3 : Int) : Prop := a1 < 0 ∨ (n0 : Int) < a1 ∨ a2 < 0 ∨ (n0 : Int) < a2 ∨ a3 < 0 ∨ (n0 : Int) < a3

set_option maxHeartbeats 1000000 in
theorem split_bad (W : World) (A0 : Option Addr) (n0 c0 : Nat) (r0 : n0 ≤ 140737488351232) (a1 : Int) (w1 : -9223372036854775808 ≤ a1 ∧ a1 ≤ 9223372036854775807) (a2 : Int) (w2 : -9223372036854775808 ≤ a2 ∧ a2 ≤ 9223372036854775807)
    (a3 : Int) (w3 : -9223372036854775808 ≤ a3 ∧ a3 ≤ 9223372036854775807) (hbad : Bad n0 a1 a2 a3) :
    Calls Try.prog 9 #[.slice A0 n0 c0, .int .i64 a1, .int .i64 a2, .int .i64 a3] W fun e W' => e = .returned (.bool true) ∧ Below W.heap.size W W' := by
  have c7 := fun w => Lib.hid (works_any w)
  by_cases h1 : a1 < 0
  · clear hbad
    go_enter Try.func9, Try.ntmps9
    go_wp2_with fail
    refine (c7 _).out.mono ?_
    rintro e w' ⟨rfl, hb⟩
    go_wp2
    go_ret
    exact ⟨rfl, hb⟩
  by_cases h2 : (n0 : Int) < a1
  · clear hbad
    go_enter Try.func9, Try.ntmps9
    go_wp2_with fail
    refine (c7 _).out.mono ?_
    rintro e w' ⟨rfl, hb⟩
    go_wp2
    go_ret
    exact ⟨rfl, hb⟩
  by_cases h3 : a2 < 0
  · clear hbad
    go_enter Try.func9, Try.ntmps9
    go_wp2_with fail
    refine (c7 _).out.mono ?_
    rintro e w' ⟨rfl, hb⟩
    go_wp2
    go_ret
    exact ⟨rfl, hb⟩
  by_cases h4 : (n0 : Int) < a2
  · clear hbad
    go_enter Try.func9, Try.ntmps9
    go_wp2_with fail
    refine (c7 _).out.mono ?_
    rintro e w' ⟨rfl, hb⟩
    go_wp2
    go_ret
    exact ⟨rfl, hb⟩
  by_cases h5 : a3 < 0
  · clear hbad
    go_enter Try.func9, Try.ntmps9
    go_wp2_with fail
    refine (c7 _).out.mono ?_
    rintro e w' ⟨rfl, hb⟩
    go_wp2
    go_ret
    exact ⟨rfl, hb⟩
  have h6 : (n0 : Int) < a3 := by unfold Bad at hbad; omega
  clear hbad
  go_enter Try.func9, Try.ntmps9
  go_wp2_with fail
  refine (c7 _).out.mono ?_
  rintro e w' ⟨rfl, hb⟩
  go_wp2
  go_ret
  exact ⟨rfl, hb⟩

set_option maxHeartbeats 1000000 in
theorem walk_EndsSplit (W : World) (A0 : Option Addr) (n0 c0 : Nat) (z0 : List Int) (l0 : n0 ≤ c0) (r0 : c0 ≤ 140737488351232) (h0 : Holds W W.heap.size A0 c0 c0 z0)
    (a1 : Int) (w1 : -9223372036854775808 ≤ a1 ∧ a1 ≤ 9223372036854775807) (a2 : Int) (w2 : -9223372036854775808 ≤ a2 ∧ a2 ≤ 9223372036854775807) (a3 : Int) (w3 : -9223372036854775808 ≤ a3 ∧ a3 ≤ 9223372036854775807) :
    Calls Try.prog 9 #[.slice A0 n0 c0, .int .i64 a1, .int .i64 a2, .int .i64 a3] W fun e W' => e = .returned (.bool true) ∧ Below W.heap.size W W' := by
  by_cases hbad : Bad n0 a1 a2 a3
  · exact split_bad W A0 n0 c0 (by omega) a1 w1 a2 w2 a3 w3 hbad
  have hin : 0 ≤ a1 ∧ a1 ≤ n0 ∧ 0 ≤ a2 ∧ a2 ≤ n0 ∧ 0 ≤ a3 ∧ a3 ≤ n0 := by unfold Bad at hbad; omega
  obtain ⟨k1, k2, k3, k4, k5, k6⟩ := hin
  clear hbad
  have h := h0.head l0
  obtain ⟨xs, hxs⟩ : ∃ xs, xs = z0.take n0 := ⟨_, rfl⟩
  rw [← hxs] at h
  clear hxs h0
  have hl := h.len
  have c1 := fun w a m h h1 h2 => Lib.hid (Part_any w A0 n0 c0 xs a m h h1 h2)
  have c5 := fun w B a m h h1 h2 => Lib.hid (Zero_any w B A0 n0 c0 xs a m h h1 h2)
  have c7 := fun w => Lib.hid (works_any w)
  have c8 := fun w B B' A A' n c n' c' xs ys h h' => Lib.hid (Same_any w B B' A A' n c n' c' xs ys h h')
  by_cases p1 : partErr xs.length a1 a2 = 0
  · by_cases p2 : partErr xs.length (a1 + a2) a3 = 0
    · obtain ⟨e12, p3⟩ := partOf_split p1 p2
      have ez := zeroOf_split p1 p2
      have d1 := c1 W a1 a2 h w1 w2
      have d2 := fun w h => c1 w (a1 + a2) a3 h (by omega) w3
      have d3 := fun w h => c1 w a1 (a2 + a3) h w1 (by omega)
      have z1 := fun w B h => c5 w B a1 a2 h w1 w2
      have z2 := fun w B h => c5 w B (a1 + a2) a3 h (by omega) w3
      have z3 := fun w B h => c5 w B a1 (a2 + a3) h w1 (by omega)
      have b1 := partOf_bytes h.byte a1 a2
      have b2 := partOf_bytes h.byte (a1 + a2) a3
      have n1 := partOf_length xs a1 a2
      have n2 := partOf_length xs (a1 + a2) a3
      have n3 := partOf_length xs a1 (a2 + a3)
      rw [← e12, List.length_append, hl] at n3
      rw [hl] at n1 n2
      unfold PartPost at d1 d2 d3
      rw [p1] at d1
      rw [p2] at d2
      rw [p3, ← e12] at d3
      obtain ⟨t1, ht1⟩ : ∃ t, t = zeroOf xs a1 a2 := ⟨_, rfl⟩
      obtain ⟨t2, ht2⟩ : ∃ t, t = zeroOf xs (a1 + a2) a3 := ⟨_, rfl⟩
      obtain ⟨ys, hys⟩ : ∃ ys, ys = partOf xs a1 a2 := ⟨_, rfl⟩
      obtain ⟨zs, hzs⟩ : ∃ zs, zs = partOf xs (a1 + a2) a3 := ⟨_, rfl⟩
      rw [ez, ← ht1, ← ht2] at z3
      rw [← ht1] at z1
      rw [← ht2] at z2
      rw [← hys] at d1 d3 b1 n1 n3
      rw [← hzs] at d2 d3 b2 n2 n3
      rw [List.length_append] at d3
      have hlen : ys.length + zs.length ≤ 140737488355328 := by omega
      have b3 := b1.append b2
      clear e12 p3 ez c1 c5 hl p1 p2 ht1 ht2 hys hzs
      obtain ⟨i, hi⟩ : ∃ i, i = ys.length := ⟨_, rfl⟩
      obtain ⟨j, hj⟩ : ∃ j, j = zs.length := ⟨_, rfl⟩
      rw [← hi] at d1 d3 n1 n3
      rw [← hj] at d2 d3 n2 n3
      have HI := Lib.hid hi
      have HJ := Lib.hid hj
      clear hi hj
      cases t1
      all_goals
        go_enter Try.func9, Try.ntmps9
        go_wp2_with fail
        refine d1.out.mono ?_
        rintro e w1 ⟨A1, rfl, f1, hb1⟩
        have g1 := h.over hb1
        go_wp2_with fail
        refine (d2 _ g1).out.mono ?_
        rintro e w2 ⟨A2, rfl, f2, hb2⟩
        have g2 := g1.over hb2
        go_wp2_with fail
        refine (d3 _ g2).out.mono ?_
        rintro e w3 ⟨A3, rfl, f3, hb3⟩
        have g3 := g2.over hb3
        have hz3 := (f3.holds (n := i + j) (by rw [List.length_append, HI.out, HJ.out]) b3 (by omega))
        have o1 := ((f1.below hb2).below hb3).own HI.out.symm (by omega)
        have h2 := ((f2.below hb3).holds HJ.out.symm b2 (by omega))
        have hW3 : W.heap.size ≤ w3.heap.size := Nat.le_trans hb1.size (Nat.le_trans hb2.size hb3.size)
        go_wp2_with (at_builtin; refine wpList_append_bytes rfl (.tmp 78) (.tmp 79) rfl W.heap.size _ ys rfl o1 _ A2 j j zs rfl h2 hlen hW3 ?_; intro v4 w4 ho4 hb4 hgr)
        have hgr' : w3.grownBy w4 (Value.slice A1 i i).ownBlock := hgr
        have f34 : Fresh w4 w2.heap.size A3 (ys ++ zs) := f3.keep hgr' (fun k hk => by
          rcases f1 with ⟨rfl, _⟩ | ⟨g, rfl, _, hrow⟩
          · simp [Value.ownBlock] at hk
          · simp [Value.ownBlock] at hk
            have := hrow.lt
            have := hb2.size
            omega)
        have hb04 : Below W.heap.size W w4 := (step (step hb1 hb2) hb3).trans hb4
        have g4 := (h.below hb04).mono hb04.size
        obtain ⟨A4, k4, rfl, h4⟩ := ho4.out.holds b3 (by rw [List.length_append]; omega)
        have h5 := f34.holds (n := i + j) (by rw [List.length_append, HI.out, HJ.out]) b3 (by omega)
        refine (c8 _ _ _ _ _ _ _ _ _ _ _ h4 h5).out.mono ?_
        rintro e w5 ⟨rfl, j5, rfl⟩
        have g5 := g4.drewN j5
        go_wp2_with fail
        refine (z3 _ _ g5).out.mono ?_
        rintro e w' ⟨rfl, rfl⟩
        go_wp2_with fail
        refine (z1 _ _ g5).out.mono ?_
        rintro e w' ⟨rfl, rfl⟩
        go_wp2_with (go_at_call 21; refine (z2 _ _ g5).out.mono ?_; rintro e w' ⟨rfl, rfl⟩)
        refine (c7 _).out.mono ?_
        rintro e w6 ⟨rfl, hb6⟩
        go_wp2
        go_ret
        exact ⟨rfl, step (step hb04 (drewed _ j5)) hb6⟩
    · have p3 : partErr xs.length a1 (a2 + a3) = partErr xs.length (a1 + a2) a3 := by
        have q1 : ¬ ((n0 : Int) - a1 < a2) := fun q => by
          apply absurd p1
          rw [hl]
          unfold partErr
          rw [if_neg (by omega), if_pos q]
          omega
        have q2 : (n0 : Int) - (a1 + a2) < a3 := by
          apply Decidable.byContradiction
          intro q
          apply p2
          rw [hl]
          unfold partErr
          rw [if_neg (by omega), if_neg q]
        rw [hl]
        unfold partErr
        have b1 : ¬ (a1 < 0 ∨ (n0 : Int) < a1 ∨ a2 + a3 < 0) := by omega
        have b2 : ¬ (a1 + a2 < 0 ∨ (n0 : Int) < a1 + a2 ∨ a3 < 0) := by omega
        rw [if_neg b1, if_neg b2, if_pos q2, if_pos (by omega)]
      obtain ⟨er, her⟩ : ∃ er, er = partErr xs.length (a1 + a2) a3 := ⟨_, rfl⟩
      have d1 := c1 W a1 a2 h w1 w2
      have d2 := fun w h => c1 w (a1 + a2) a3 h (by omega) w3
      have d3 := fun w h => c1 w a1 (a2 + a3) h w1 (by omega)
      unfold PartPost at d1 d2 d3
      rw [p1] at d1
      rw [p3] at d3
      rw [← her] at d2 d3 p2
      have hne : (er != 0) = true := by simpa using p2
      have hne' : (er != er) = false := by simp
      clear p1 p2 p3 her c1 hl
      go_enter Try.func9, Try.ntmps9
      go_wp2_with fail
      refine d1.out.mono ?_
      rintro e w1 ⟨A1, rfl, f1, hb1⟩
      have g1 := h.over hb1
      go_wp2_with fail
      refine (d2 _ g1).out.mono ?_
      rintro e w2 ⟨A2, rfl, f2, hb2⟩
      have g2 := g1.over hb2
      go_wp2_with fail
      refine (d3 _ g2).out.mono ?_
      rintro e w3 ⟨A3, rfl, f3, hb3⟩
      go_wp2_with fail
      refine (c7 _).out.mono ?_
      rintro e w4 ⟨rfl, hb4⟩
      go_wp2
      go_ret
      exact ⟨rfl, step (step (step hb1 hb2) hb3) hb4⟩
  · have d1 := c1 W a1 a2 h w1 w2
    unfold PartPost at d1
    obtain ⟨er, her⟩ : ∃ er, er = partErr xs.length a1 a2 := ⟨_, rfl⟩
    rw [← her] at d1 p1
    have hne : (er != 0) = true := by simpa using p1
    clear p1 her c1 hl
    go_enter Try.func9, Try.ntmps9
    go_wp2_with fail
    refine d1.out.mono ?_
    rintro e w1 ⟨A1, rfl, f1, hb1⟩
    go_wp2_with fail
    refine (c7 _).out.mono ?_
    rintro e w4 ⟨rfl, hb4⟩
    go_wp2
    go_ret
    exact ⟨rfl, step hb1 hb4⟩
end Go.Proofs.Ytibmblgnmngcmaa
