/-
  The walk of the statement EndsOne: a number has one row of bytes of a size.
-/
import Derived.Test.YtibmblgnmngcmaaLEndsPuts
namespace Go.Proofs.Ytibmblgnmngcmaa
open Go.RowKit
set_option linter.unusedVariables false

/-- one of the four sizes -/
def szOf (n : Int) : Nat := if n % 4 = 0 then 1 else if n % 4 = 1 then 2 else if n % 4 = 2 then 4 else 8
theorem szOf_cases (n : Int) (h : 0 ≤ n) : (n % 4 = 0 ∧ szOf n = 1) ∨ (n % 4 = 1 ∧ szOf n = 2) ∨ (n % 4 = 2 ∧ szOf n = 4) ∨ (n % 4 = 3 ∧ szOf n = 8) := by
  unfold szOf
  have : n % 4 = 0 ∨ n % 4 = 1 ∨ n % 4 = 2 ∨ n % 4 = 3 := by omega
  rcases this with e | e | e | e <;> rw [e] <;> simp
theorem szOf_ok (n : Int) (h : 0 ≤ n) : sizeOk (szOf n) = true := by
  rcases szOf_cases n h with ⟨_, e⟩ | ⟨_, e⟩ | ⟨_, e⟩ | ⟨_, e⟩ <;> rw [e] <;> rfl
theorem szOf_le (n : Int) (h : 0 ≤ n) : szOf n ≤ 8 := by
  rcases szOf_cases n h with ⟨_, e⟩ | ⟨_, e⟩ | ⟨_, e⟩ | ⟨_, e⟩ <;> omega

theorem size_any (w : World) (n : Int) (h : 0 ≤ n ∧ n ≤ 255) : Calls Try.prog 23 #[.int .u8 n] w fun e w' => e = .returned (.int .i64 (szOf n)) ∧ w = w' := by
  obtain ⟨h0, h1⟩ := h
  rcases szOf_cases n h0 with ⟨hm, e⟩ | ⟨hm, e⟩ | ⟨hm, e⟩ | ⟨hm, e⟩
  all_goals
    rw [e]
    clear e
    go_enter Try.func23, Try.ntmps23
    go_wp2
    go_ret
    exact ⟨rfl, rfl⟩

set_option maxHeartbeats 1000000 in
theorem walk_EndsOne (W : World) (x0 : List Int) (l0 : x0.length = 8) (w0 : ∀ x ∈ x0, (Lit.int .u8 x).wf = true) (a1 : Int) (w1 : 0 ≤ a1 ∧ a1 ≤ 255) :
    Calls Try.prog 7 #[.agg (x0.map (Value.int .u8)).toArray, .int .u8 a1] W fun e W' => e = .returned (.bool true) ∧ Below W.heap.size W W' := by
  have hx : Bytes x0 := fun x hx => int_bounds_u8 (w0 x hx)
  have hk := szOf_ok a1 w1.1
  have hk8 := szOf_le a1 w1.1
  have c1 := fun w => Lib.hid (size_any w a1 w1)
  obtain ⟨k, hkk⟩ : ∃ k, k = szOf a1 := ⟨_, rfl⟩
  rw [← hkk] at hk hk8 c1
  have hlen : (x0.take k).length = k := by simp; omega
  have hnb := num_bounds (x0.take k) (hx.take k)
  rw [hlen] at hnb
  have hp0 : partErr 8 0 k = 0 := by unfold partErr; rw [if_neg (by omega), if_neg (by omega)]
  have e1 : getErr 8 0 k = 0 := by unfold getErr; rw [if_pos hk, hp0]
  have e2 : getOf x0 0 k = num (x0.take k) := by unfold getOf; rw [l0, if_pos e1]; rfl
  have hok : putOk (num (x0.take k)) k = true := by unfold putOk; rw [hk, Int.toNat_natCast]; simpa using hnb.2
  have e3 : putOf (num (x0.take k)) k = x0.take k := by
    unfold putOf
    rw [if_pos hok, Int.toNat_natCast]
    have := le_num (x0.take k) (hx.take k)
    rwa [hlen] at this
  have e4 : putErr (num (x0.take k)) k = 0 := by unfold putErr; rw [if_pos hok]
  have hz64 : num (x0.take k) ≤ 18446744073709551615 := by
    have h3 : (256 : Nat) ^ k ≤ 256 ^ 8 := Nat.pow_le_pow_right (by omega) hk8
    have h4 : (((256 : Nat) ^ k : Nat) : Int) ≤ ((256 ^ 8 : Nat) : Int) := Int.ofNat_le.2 h3
    have h5 : ((256 ^ 8 : Nat) : Int) = 18446744073709551616 := by decide
    rw [Int.natCast_pow] at h4
    have := hnb.2
    have h6 : ((256 : Nat) : Int) ^ k = (256 : Int) ^ k := rfl
    omega
  have hz0 := hnb.1
  have hL := Holds.lit W x0 _ W.heap.size 8 rfl rfl l0 hx (by omega) 38
  have c2 := Get_any _ _ _ _ _ x0 0 k hL (by omega) (by omega)
  rw [e1, e2] at c2
  obtain ⟨z, hz⟩ : ∃ z, z = num (x0.take k) := ⟨_, rfl⟩
  rw [← hz] at c2 e3 e4 hz64 hz0
  have c3 := fun w => Put_any w z k (by omega) (by omega)
  unfold PutPost at c3
  rw [e3, e4] at c3
  have hH := hL.head hk8
  obtain ⟨ys, hys⟩ : ∃ ys, ys = x0.take k := ⟨_, rfl⟩
  rw [← hys] at c3 hH hlen
  have hyb : Bytes ys := by rw [hys]; exact hx.take k
  have C2 := Lib.hid c2
  have C3 := fun w => Lib.hid (c3 w)
  have HLEN := Lib.hid hlen
  have c7 := fun w => Lib.hid (works_any w)
  have c8 := fun w B B' A A' n c n' c' xs ys h h' => Lib.hid (Same_any w B B' A A' n c n' c' xs ys h h')
  clear hkk w1 w0 hk hnb hp0 e1 e2 hok e3 e4 hL c2 hz c3 hys l0 hlen
  go_enter Try.func7, Try.ntmps7
  go_wp2_with fail
  refine (c1 _).out.mono ?_
  rintro e w' ⟨rfl, rfl⟩
  go_wp2_with fail
  refine C2.out.mono ?_
  rintro e w' ⟨rfl, rfl⟩
  go_wp2_with fail
  refine (C3 _).out.mono ?_
  rintro e w1 ⟨A1, rfl, f1, hb1⟩
  have h1 := f1.holds HLEN.out hyb (by omega)
  have hH1 := hH.below (hb1.mono (by simp))
  have hk8i : (k : Int) ≤ 8 := by omega
  have hk0i : (0 : Int) ≤ (k : Int) := by omega
  rw [HLEN.out]
  go_wp2_with fail
  refine (c8 _ _ _ _ _ _ _ _ _ _ _ h1 hH1).out.mono ?_
  rintro e w2 ⟨rfl, j2, rfl⟩
  go_wp2_with fail
  refine (c7 _).out.mono ?_
  rintro e w3 ⟨rfl, hb3⟩
  go_wp2
  go_ret
  exact ⟨rfl, step (step (step ((Below.refl _ _).alloc (Nat.le_refl _) _) hb1) (drewed _ j2)) hb3⟩
end Go.Proofs.Ytibmblgnmngcmaa
