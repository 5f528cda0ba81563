/-
  The walk of the statement EndsBack: what is put is got, wherever it stands, whatever is around it.
-/
import Derived.Test.YtibmblgnmngcmaaLEndsOne
import Derived.Test.YtibmblgnmngcmaaLEndsParts
namespace Go.Proofs.Ytibmblgnmngcmaa
open Go.RowKit
set_option linter.unusedVariables false

/-- what Put answers for a number that fits -/
def PutFits (w : World) (z : Int) (k : Nat) (e : Ending) (w' : World) : Prop :=
  ∃ A', e = .returned (.tuple #[.slice A' k k, .int .i64 0]) ∧ Fresh w' w.heap.size A' (le z k) ∧ Below w.heap.size w w'
theorem Put_fits (w : World) (z : Int) (k : Nat) (hk : sizeOk k = true) (hk8 : k ≤ 8) (h0 : 0 ≤ z ∧ z ≤ 18446744073709551615) (h1 : z < 256 ^ k) :
    Calls Try.prog 11 #[.int .u64 z, .int .i64 k] w (PutFits w z k) := by
  refine (Put_any w z k h0 (by omega)).mono ?_
  intro e w' h
  have hok : putOk z k = true := by unfold putOk; rw [hk, Int.toNat_natCast]; simpa using h1
  unfold PutPost putOf putErr at h
  rw [if_pos hok, if_pos hok, Int.toNat_natCast, le_length] at h
  exact h

theorem around_part (a b c : List Int) : partErr (a ++ b ++ c).length a.length b.length = 0 ∧ partOf (a ++ b ++ c) a.length b.length = b := by
  have e : partErr (a ++ b ++ c).length a.length b.length = 0 := by
    unfold partErr
    rw [if_neg (by simp; omega), if_neg (by simp; omega)]
  refine ⟨e, ?_⟩
  unfold partOf
  rw [if_pos e]
  simp
theorem around_get (a c : List Int) (z : Int) (k : Nat) (hk : sizeOk k = true) (h0 : 0 ≤ z) (h1 : z < 256 ^ k) :
    getErr (a ++ le z k ++ c).length a.length k = 0 ∧ getOf (a ++ le z k ++ c) a.length k = z := by
  have hl := le_length z k
  obtain ⟨e1, e2⟩ := around_part a (le z k) c
  rw [hl] at e1 e2
  have e : getErr (a ++ le z k ++ c).length a.length k = 0 := by unfold getErr; rw [if_pos hk, e1]
  refine ⟨e, ?_⟩
  unfold partOf at e2
  rw [if_pos e1] at e2
  unfold getOf
  rw [if_pos e, e2, num_le z k h0 h1]

set_option maxHeartbeats 4000000 in
theorem walk_EndsBack (W : World) (a0 : Int) (w0 : 0 ≤ a0 ∧ a0 ≤ 18446744073709551615) (a1 : Int) (w1 : 0 ≤ a1 ∧ a1 ≤ 255)
    (A2 : Option Addr) (n2 c2 : Nat) (z2 : List Int) (l2 : n2 ≤ c2) (r2 : c2 ≤ 1048576) (h2 : Holds W W.heap.size A2 c2 c2 z2)
    (A3 : Option Addr) (n3 c3 : Nat) (z3 : List Int) (l3 : n3 ≤ c3) (r3 : c3 ≤ 1048576) (h3 : Holds W W.heap.size A3 c3 c3 z3) :
    Calls Try.prog 6 #[.int .u64 a0, .int .u8 a1, .slice A2 n2 c2, .slice A3 n3 c3] W fun e W' => e = .returned (.bool true) ∧ Below W.heap.size W W' := by
  have g2 := h2.head l2
  have g3 := h3.head l3
  obtain ⟨xs, hxs⟩ : ∃ xs, xs = z2.take n2 := ⟨_, rfl⟩
  obtain ⟨ys, hys⟩ : ∃ ys, ys = z3.take n3 := ⟨_, rfl⟩
  rw [← hxs] at g2
  rw [← hys] at g3
  clear hxs hys h2 h3
  have hx := g2.byte
  have hy := g3.byte
  have HX := Lib.hid g2.len
  have HY := Lib.hid g3.len
  have hk := szOf_ok a1 w1.1
  have hk8 := szOf_le a1 w1.1
  have d1 := fun w => Lib.hid (size_any w a1 w1)
  have hkc : szOf a1 = 1 ∨ szOf a1 = 2 ∨ szOf a1 = 4 ∨ szOf a1 = 8 := by rcases szOf_cases a1 w1.1 with ⟨_, e⟩ | ⟨_, e⟩ | ⟨_, e⟩ | ⟨_, e⟩ <;> omega
  obtain ⟨k, hkk⟩ : ∃ k, k = szOf a1 := ⟨_, rfl⟩
  rw [← hkk] at hk hk8 d1 hkc
  clear hkk w1
  obtain ⟨w00, w01⟩ := w0
  have d2 := fun w z h0 h1 => Lib.hid (Put_fits w z k hk hk8 h0 h1)
  have d3 : ∀ (w : World) (z : Int) (A : Option Addr) (n c : Nat), Holds w w.heap.size A n c (xs ++ le z k ++ ys) → 0 ≤ z → z < 256 ^ k → Hid (Calls Try.prog 15 #[.slice A n c, .int .i64 n2, .int .i64 k] w (fun e w' => e = .returned (.tuple #[.int .u64 z, .int .i64 0]) ∧ w = w')) := fun w z A n c h h0 h1 => by
    have := Get_any w w.heap.size A n c (xs ++ le z k ++ ys) xs.length k h (by have := HX.out; omega) (by omega)
    obtain ⟨e1, e2⟩ := around_get xs ys z k hk h0 h1
    rw [h.len] at e1
    rw [e1, e2, HX.out] at this
    exact this
  have d4 : ∀ (w : World) (z : Int) (A : Option Addr) (n c : Nat), Holds w w.heap.size A n c (xs ++ le z k ++ ys) → Hid (Calls Try.prog 17 #[.slice A n c, .int .i64 n2, .int .i64 k] w (fun e w' => ∃ A', e = .returned (.tuple #[.slice A' k k, .int .i64 0]) ∧ Fresh w' w.heap.size A' (le z k) ∧ Below w.heap.size w w')) := fun w z A n c h => by
    have := Part_any w A n c (xs ++ le z k ++ ys) xs.length k h (by have := HX.out; omega) (by omega)
    obtain ⟨e1, e2⟩ := around_part xs (le z k) ys
    rw [le_length] at e1 e2
    unfold PartPost at this
    rw [e1, e2, le_length, HX.out] at this
    exact this
  have d7 := fun w => Lib.hid (works_any w)
  have d8 := fun w B B' A A' n c n' c' xs ys h h' => Lib.hid (Same_any w B B' A A' n c n' c' xs ys h h')
  have x1 : xs.length ≤ 1048576 := by have := HX.out; omega
  have x2 : ys.length ≤ 1048576 := by have := HY.out; omega
  clear hk
  rcases hkc with rfl | rfl | rfl | rfl
  · have hM : (256 : Int) ^ 1 = 256 := by decide
    have q0 : 0 ≤ (a0 / 72057594037927936) := by omega
    have q1 : (a0 / 72057594037927936) ≤ 18446744073709551615 := by omega
    have q2 : (a0 / 72057594037927936) < 256 ^ 1 := by rw [hM]; omega
    have HQ := Lib.hid q2
    have d2' := fun w => d2 w _ ⟨q0, q1⟩ q2
    have d3' := fun w A n c h => d3 w _ A n c h q0 q2
    have d4' := fun w A n c h => d4 w (a0 / 72057594037927936) A n c h
    have lz := le_length (a0 / 72057594037927936) 1
    have bz := le_bytes (a0 / 72057594037927936) 1
    have LZ := Lib.hid lz
    have lz1 : (le (a0 / 72057594037927936) 1).length ≤ 8 := by omega
    clear hM q2 lz d2 d3 d4
    go_enter Try.func6, Try.ntmps6
    go_wp2_with fail
    refine (d1 _).out.mono ?_
    rintro e w' ⟨rfl, rfl⟩
    go_wp2_with fail
    refine (d2' _).out.mono ?_
    rintro e w1 ⟨A1, rfl, f1, hb1⟩
    have v1 := f1.holds LZ.out bz (by omega)
    have u2 := g2.over hb1
    have v3 := g3.over hb1
    go_wp2_with (first
      | (at_builtin; refine wpList_append_bytes rfl (.tmp 31) (.tmp 32) rfl w1.heap.size _ [] rfl (Own.nil _ _) _ A2 n2 c2 xs rfl u2 (by simp; omega) (Nat.le_refl _) ?_; intro v2 w2 ho2 hb2 hgr2)
      | (at_builtin; refine wpList_append_bytes rfl (.tmp 34) (.tmp 35) rfl w1.heap.size _ _ rfl ho2.out _ A1 1 1 _ rfl (v1.below hb2) (by simp only [List.nil_append]; omega) hb2.size ?_; intro v4 w4 ho4 hb4 hgr4)
      | (at_builtin; refine wpList_append_bytes rfl (.tmp 37) (.tmp 38) rfl w1.heap.size _ _ rfl ho4.out _ A3 n3 c3 ys rfl ((v3.below hb2).below hb4) (by simp only [List.nil_append, List.length_append]; omega) (Nat.le_trans hb2.size hb4.size) ?_; intro v5 w5 ho5 hb5 hgr5))
    have ho6 := ho5.out
    rw [List.nil_append] at ho6
    have hb15 : Below w1.heap.size w1 w5 := (hb2.trans hb4).trans hb5
    obtain ⟨A5, k5, hv5, h5⟩ := ho6.holds ((hx.append bz).append hy) (by simp only [List.length_append]; omega)
    obtain ⟨N, hN⟩ : ∃ N, N = (xs ++ le (a0 / 72057594037927936) 1 ++ ys).length := ⟨_, rfl⟩
    rw [← hN] at h5 hv5
    clear hN ho5 ho6 ho4 ho2
    subst hv5
    have v6 := (v1.below hb15)
    go_wp2_with fail
    refine (d3' _ _ _ _ h5).out.mono ?_
    rintro e w' ⟨rfl, rfl⟩
    go_wp2_with fail
    refine (d4' _ _ _ _ h5).out.mono ?_
    rintro e w6 ⟨A6, rfl, f6, hb6⟩
    have v7 := f6.holds LZ.out bz (by omega)
    have v8 := v6.below (hb6.mono hb15.size)
    go_wp2_with fail
    refine (d8 _ _ _ _ _ _ _ _ _ _ _ v7 v8).out.mono ?_
    rintro e w7 ⟨rfl, j7, rfl⟩
    go_wp2_with fail
    refine (d7 _).out.mono ?_
    rintro e w8 ⟨rfl, hb8⟩
    go_wp2
    go_ret
    exact ⟨rfl, step (step (step (step hb1 hb15) hb6) (drewed _ j7)) hb8⟩
  · have hM : (256 : Int) ^ 2 = 65536 := by decide
    have q0 : 0 ≤ (a0 / 281474976710656) := by omega
    have q1 : (a0 / 281474976710656) ≤ 18446744073709551615 := by omega
    have q2 : (a0 / 281474976710656) < 256 ^ 2 := by rw [hM]; omega
    have HQ := Lib.hid q2
    have d2' := fun w => d2 w _ ⟨q0, q1⟩ q2
    have d3' := fun w A n c h => d3 w _ A n c h q0 q2
    have d4' := fun w A n c h => d4 w (a0 / 281474976710656) A n c h
    have lz := le_length (a0 / 281474976710656) 2
    have bz := le_bytes (a0 / 281474976710656) 2
    have LZ := Lib.hid lz
    have lz1 : (le (a0 / 281474976710656) 2).length ≤ 8 := by omega
    clear hM q2 lz d2 d3 d4
    go_enter Try.func6, Try.ntmps6
    go_wp2_with fail
    refine (d1 _).out.mono ?_
    rintro e w' ⟨rfl, rfl⟩
    go_wp2_with fail
    refine (d2' _).out.mono ?_
    rintro e w1 ⟨A1, rfl, f1, hb1⟩
    have v1 := f1.holds LZ.out bz (by omega)
    have u2 := g2.over hb1
    have v3 := g3.over hb1
    go_wp2_with (first
      | (at_builtin; refine wpList_append_bytes rfl (.tmp 31) (.tmp 32) rfl w1.heap.size _ [] rfl (Own.nil _ _) _ A2 n2 c2 xs rfl u2 (by simp; omega) (Nat.le_refl _) ?_; intro v2 w2 ho2 hb2 hgr2)
      | (at_builtin; refine wpList_append_bytes rfl (.tmp 34) (.tmp 35) rfl w1.heap.size _ _ rfl ho2.out _ A1 2 2 _ rfl (v1.below hb2) (by simp only [List.nil_append]; omega) hb2.size ?_; intro v4 w4 ho4 hb4 hgr4)
      | (at_builtin; refine wpList_append_bytes rfl (.tmp 37) (.tmp 38) rfl w1.heap.size _ _ rfl ho4.out _ A3 n3 c3 ys rfl ((v3.below hb2).below hb4) (by simp only [List.nil_append, List.length_append]; omega) (Nat.le_trans hb2.size hb4.size) ?_; intro v5 w5 ho5 hb5 hgr5))
    have ho6 := ho5.out
    rw [List.nil_append] at ho6
    have hb15 : Below w1.heap.size w1 w5 := (hb2.trans hb4).trans hb5
    obtain ⟨A5, k5, hv5, h5⟩ := ho6.holds ((hx.append bz).append hy) (by simp only [List.length_append]; omega)
    obtain ⟨N, hN⟩ : ∃ N, N = (xs ++ le (a0 / 281474976710656) 2 ++ ys).length := ⟨_, rfl⟩
    rw [← hN] at h5 hv5
    clear hN ho5 ho6 ho4 ho2
    subst hv5
    have v6 := (v1.below hb15)
    go_wp2_with fail
    refine (d3' _ _ _ _ h5).out.mono ?_
    rintro e w' ⟨rfl, rfl⟩
    go_wp2_with fail
    refine (d4' _ _ _ _ h5).out.mono ?_
    rintro e w6 ⟨A6, rfl, f6, hb6⟩
    have v7 := f6.holds LZ.out bz (by omega)
    have v8 := v6.below (hb6.mono hb15.size)
    go_wp2_with fail
    refine (d8 _ _ _ _ _ _ _ _ _ _ _ v7 v8).out.mono ?_
    rintro e w7 ⟨rfl, j7, rfl⟩
    go_wp2_with fail
    refine (d7 _).out.mono ?_
    rintro e w8 ⟨rfl, hb8⟩
    go_wp2
    go_ret
    exact ⟨rfl, step (step (step (step hb1 hb15) hb6) (drewed _ j7)) hb8⟩
  · have hM : (256 : Int) ^ 4 = 4294967296 := by decide
    have q0 : 0 ≤ (a0 / 4294967296) := by omega
    have q1 : (a0 / 4294967296) ≤ 18446744073709551615 := by omega
    have q2 : (a0 / 4294967296) < 256 ^ 4 := by rw [hM]; omega
    have HQ := Lib.hid q2
    have d2' := fun w => d2 w _ ⟨q0, q1⟩ q2
    have d3' := fun w A n c h => d3 w _ A n c h q0 q2
    have d4' := fun w A n c h => d4 w (a0 / 4294967296) A n c h
    have lz := le_length (a0 / 4294967296) 4
    have bz := le_bytes (a0 / 4294967296) 4
    have LZ := Lib.hid lz
    have lz1 : (le (a0 / 4294967296) 4).length ≤ 8 := by omega
    clear hM q2 lz d2 d3 d4
    go_enter Try.func6, Try.ntmps6
    go_wp2_with fail
    refine (d1 _).out.mono ?_
    rintro e w' ⟨rfl, rfl⟩
    go_wp2_with fail
    refine (d2' _).out.mono ?_
    rintro e w1 ⟨A1, rfl, f1, hb1⟩
    have v1 := f1.holds LZ.out bz (by omega)
    have u2 := g2.over hb1
    have v3 := g3.over hb1
    go_wp2_with (first
      | (at_builtin; refine wpList_append_bytes rfl (.tmp 31) (.tmp 32) rfl w1.heap.size _ [] rfl (Own.nil _ _) _ A2 n2 c2 xs rfl u2 (by simp; omega) (Nat.le_refl _) ?_; intro v2 w2 ho2 hb2 hgr2)
      | (at_builtin; refine wpList_append_bytes rfl (.tmp 34) (.tmp 35) rfl w1.heap.size _ _ rfl ho2.out _ A1 4 4 _ rfl (v1.below hb2) (by simp only [List.nil_append]; omega) hb2.size ?_; intro v4 w4 ho4 hb4 hgr4)
      | (at_builtin; refine wpList_append_bytes rfl (.tmp 37) (.tmp 38) rfl w1.heap.size _ _ rfl ho4.out _ A3 n3 c3 ys rfl ((v3.below hb2).below hb4) (by simp only [List.nil_append, List.length_append]; omega) (Nat.le_trans hb2.size hb4.size) ?_; intro v5 w5 ho5 hb5 hgr5))
    have ho6 := ho5.out
    rw [List.nil_append] at ho6
    have hb15 : Below w1.heap.size w1 w5 := (hb2.trans hb4).trans hb5
    obtain ⟨A5, k5, hv5, h5⟩ := ho6.holds ((hx.append bz).append hy) (by simp only [List.length_append]; omega)
    obtain ⟨N, hN⟩ : ∃ N, N = (xs ++ le (a0 / 4294967296) 4 ++ ys).length := ⟨_, rfl⟩
    rw [← hN] at h5 hv5
    clear hN ho5 ho6 ho4 ho2
    subst hv5
    have v6 := (v1.below hb15)
    go_wp2_with fail
    refine (d3' _ _ _ _ h5).out.mono ?_
    rintro e w' ⟨rfl, rfl⟩
    go_wp2_with fail
    refine (d4' _ _ _ _ h5).out.mono ?_
    rintro e w6 ⟨A6, rfl, f6, hb6⟩
    have v7 := f6.holds LZ.out bz (by omega)
    have v8 := v6.below (hb6.mono hb15.size)
    go_wp2_with fail
    refine (d8 _ _ _ _ _ _ _ _ _ _ _ v7 v8).out.mono ?_
    rintro e w7 ⟨rfl, j7, rfl⟩
    go_wp2_with fail
    refine (d7 _).out.mono ?_
    rintro e w8 ⟨rfl, hb8⟩
    go_wp2
    go_ret
    exact ⟨rfl, step (step (step (step hb1 hb15) hb6) (drewed _ j7)) hb8⟩
  · have hM : (256 : Int) ^ 8 = 18446744073709551616 := by decide
    have q0 : 0 ≤ a0 := by omega
    have q1 : a0 ≤ 18446744073709551615 := by omega
    have q2 : a0 < 256 ^ 8 := by rw [hM]; omega
    have HQ := Lib.hid q2
    have d2' := fun w => d2 w _ ⟨q0, q1⟩ q2
    have d3' := fun w A n c h => d3 w _ A n c h q0 q2
    have d4' := fun w A n c h => d4 w a0 A n c h
    have lz := le_length a0 8
    have bz := le_bytes a0 8
    have LZ := Lib.hid lz
    have lz1 : (le a0 8).length ≤ 8 := by omega
    clear hM q2 lz d2 d3 d4
    go_enter Try.func6, Try.ntmps6
    go_wp2_with fail
    refine (d1 _).out.mono ?_
    rintro e w' ⟨rfl, rfl⟩
    go_wp2_with fail
    refine (d2' _).out.mono ?_
    rintro e w1 ⟨A1, rfl, f1, hb1⟩
    have v1 := f1.holds LZ.out bz (by omega)
    have u2 := g2.over hb1
    have v3 := g3.over hb1
    go_wp2_with (first
      | (at_builtin; refine wpList_append_bytes rfl (.tmp 31) (.tmp 32) rfl w1.heap.size _ [] rfl (Own.nil _ _) _ A2 n2 c2 xs rfl u2 (by simp; omega) (Nat.le_refl _) ?_; intro v2 w2 ho2 hb2 hgr2)
      | (at_builtin; refine wpList_append_bytes rfl (.tmp 34) (.tmp 35) rfl w1.heap.size _ _ rfl ho2.out _ A1 8 8 _ rfl (v1.below hb2) (by simp only [List.nil_append]; omega) hb2.size ?_; intro v4 w4 ho4 hb4 hgr4)
      | (at_builtin; refine wpList_append_bytes rfl (.tmp 37) (.tmp 38) rfl w1.heap.size _ _ rfl ho4.out _ A3 n3 c3 ys rfl ((v3.below hb2).below hb4) (by simp only [List.nil_append, List.length_append]; omega) (Nat.le_trans hb2.size hb4.size) ?_; intro v5 w5 ho5 hb5 hgr5))
    have ho6 := ho5.out
    rw [List.nil_append] at ho6
    have hb15 : Below w1.heap.size w1 w5 := (hb2.trans hb4).trans hb5
    obtain ⟨A5, k5, hv5, h5⟩ := ho6.holds ((hx.append bz).append hy) (by simp only [List.length_append]; omega)
    obtain ⟨N, hN⟩ : ∃ N, N = (xs ++ le a0 8 ++ ys).length := ⟨_, rfl⟩
    rw [← hN] at h5 hv5
    clear hN ho5 ho6 ho4 ho2
    subst hv5
    have v6 := (v1.below hb15)
    go_wp2_with fail
    refine (d3' _ _ _ _ h5).out.mono ?_
    rintro e w' ⟨rfl, rfl⟩
    go_wp2_with fail
    refine (d4' _ _ _ _ h5).out.mono ?_
    rintro e w6 ⟨A6, rfl, f6, hb6⟩
    have v7 := f6.holds LZ.out bz (by omega)
    have v8 := v6.below (hb6.mono hb15.size)
    go_wp2_with fail
    refine (d8 _ _ _ _ _ _ _ _ _ _ _ v7 v8).out.mono ?_
    rintro e w7 ⟨rfl, j7, rfl⟩
    go_wp2_with fail
    refine (d7 _).out.mono ?_
    rintro e w8 ⟨rfl, hb8⟩
    go_wp2
    go_ret
    exact ⟨rfl, step (step (step (step hb1 hb15) hb6) (drewed _ j7)) hb8⟩
end Go.Proofs.Ytibmblgnmngcmaa
