/-
  Contract of the program's layer 1 (ends): Get.
-/
import Derived.Test.YthoddihoccpidaaEnds1
import Derived.Test.YthoddihoccpidaaBits
namespace Go.Proofs.Ythoddihoccpidaa
open Go.RowKit

theorem putOk_zero (s : Int) : putOk 0 s = sizeOk s := by
  unfold putOk
  cases h : sizeOk s with
  | false => rfl
  | true =>
    rcases sizeOk_cases h with rfl | rfl | rfl | rfl <;> rfl

set_option maxHeartbeats 400000 in
theorem Get_any (w : World) (B : Nat) (A : Option Addr) (n c : Nat) (xs : List Int) (a s : Int) (h : Holds w B A n c xs)
    (ha : -9223372036854775808 ≤ a ∧ a ≤ 9223372036854775807) (hs : -9223372036854775808 ≤ s ∧ s ≤ 9223372036854775807) :
    Calls Try.prog 49 #[.slice A n c, .int .i64 a, .int .i64 s] w fun e w' => e = .returned (.tuple #[.int .u64 (getOf xs a s), .int .i64 (getErr n a s)]) ∧ w = w' := by
  have hl := Lib.hid h.len
  by_cases hz : sizeOk s = true
  · by_cases hp : partErr n a s = 0
    · have e1 : getErr n a s = 0 := by unfold getErr; rw [if_pos hz, hp]
      have e2 : partOf xs a s = (xs.drop a.toNat).take s.toNat := by unfold partOf; rw [hl.out, if_pos hp]
      have e3 : getOf xs a s = num (partOf xs a s) := by unfold getOf; rw [hl.out, if_pos e1, e2]
      obtain ⟨z, hzz⟩ : ∃ z, z = num (partOf xs a s) := ⟨_, rfl⟩
      rw [e1, e3, ← hzz]
      have HZ := Lib.hid hzz
      have H2 := Lib.hid e2
      clear e1 e2 e3 hzz
      have c1 := sized_any w 0 s (by omega) hs
      rw [putOk_zero, hz] at c1
      have C1 := Lib.hid c1
      have c2 := view_any w B A n c xs a s h ha hs
      rw [hp] at c2
      have C2 := Lib.hid c2
      have HS8 : s.toNat ≤ 8 := by rcases sizeOk_cases hz with e | e | e | e <;> rw [e] <;> decide
      clear c1 c2 hz hp
      go_enter Try.func49, Try.ntmps49
      go_wp2_with fail
      refine C1.out.mono ?_
      rintro e w' ⟨rfl, rfl⟩
      go_wp2_with fail
      refine C2.out.mono ?_
      rintro e w' ⟨A', rfl, hv, rfl⟩
      obtain ⟨ys, hys⟩ : ∃ ys, ys = partOf xs a s := ⟨_, rfl⟩
      rw [← hys] at hv HZ H2 ⊢
      obtain ⟨m, hm⟩ : ∃ m, m = ys.length := ⟨_, rfl⟩
      rw [← hm] at hv ⊢
      have HM := Lib.hid hm
      have hm8 : m ≤ 8 := by rw [hm, H2.out, List.length_take]; omega
      clear hys hm
      have hvr := hv.room
      go_wp2_with fail
      go_loop [10, 11, 12, 28] (fun v i x k => ∃ k' : Nat, k' ≤ m ∧ k = .int .i64 k' ∧ ∃ z', v = .int .u64 z' ∧ Hid (z' = num (ys.take k'))) (fun _ _ _ k => m - (intOf k).toNat)
      case atStart => exact ⟨0, Nat.zero_le _, rfl, 0, rfl, rfl⟩
      case round =>
        obtain ⟨k, hk, rfl, z', rfl, HZ'⟩ := hrel
        by_cases hlt : k < m
        · obtain ⟨b, off, rfl, hb, hc⟩ := hv.cells (by omega)
          have gc := hc k hlt
          clear hc
          obtain ⟨y, hy⟩ : ∃ y, y = ys.getD k 0 := ⟨_, rfl⟩
          rw [← hy] at gc
          have hy1 : 0 ≤ y ∧ y ≤ 255 := by rw [hy]; exact hv.byte.getD k
          obtain ⟨hy1, hy2⟩ := hy1
          have HY := Lib.hid hy
          clear hy
          have hS := num_step hv.byte (by have := HM.out; omega) (by omega) HZ'.out HY.out
          have HS := Lib.hid hS
          clear hS HZ'
          go_wp2
          go_roundw
          case rel => exact ⟨k + 1, by omega, by go_num, _, rfl, HS⟩
          case measure => simp [intOf]; omega
        · have hS := Lib.hid (show z' = z by rw [HZ'.out, HZ.out, List.take_of_length_le (by have := HM.out; omega)])
          clear HZ'
          go_wp2
          go_ret2
          exact ⟨by rw [hS.out]; rfl, rfl⟩
    · have e1 : getErr n a s = partErr n a s := by unfold getErr; rw [if_pos hz]
      have e3 : getOf xs a s = 0 := by unfold getOf; rw [hl.out, e1, if_neg hp]
      have e2 : partOf xs a s = [] := by unfold partOf; rw [hl.out, if_neg hp]
      have c1 := sized_any w 0 s (by omega) hs
      rw [putOk_zero, hz] at c1
      have C1 := Lib.hid c1
      have c2 := view_any w B A n c xs a s h ha hs
      rw [e1, e3]
      rw [e2] at c2
      obtain ⟨er, her⟩ : ∃ er, er = partErr n a s := ⟨_, rfl⟩
      rw [← her] at c2 hp ⊢
      have C2 := Lib.hid c2
      have hne : (er != 0) = true := by simpa using hp
      clear c1 c2 hz hp e1 e2 e3 her
      go_enter Try.func49, Try.ntmps49
      go_wp2_with fail
      refine C1.out.mono ?_
      rintro e w' ⟨rfl, rfl⟩
      go_wp2_with fail
      refine C2.out.mono ?_
      rintro e w' ⟨A', rfl, hv, rfl⟩
      go_wp2
      go_ret2
      exact ⟨rfl, rfl⟩
  · have hz' : sizeOk s = false := by simpa using hz
    have e1 : getErr n a s = 2 := by unfold getErr; rw [if_neg hz]
    have e3 : getOf xs a s = 0 := by unfold getOf; rw [hl.out, e1]; rfl
    have c1 := sized_any w 0 s (by omega) hs
    rw [putOk_zero, hz'] at c1
    have C1 := Lib.hid c1
    rw [e1, e3]
    clear c1 hz hz' e1 e3
    go_enter Try.func49, Try.ntmps49
    go_wp2_with fail
    refine C1.out.mono ?_
    rintro e w' ⟨rfl, rfl⟩
    go_wp2
    go_ret2
    exact ⟨rfl, rfl⟩
end Go.Proofs.Ythoddihoccpidaa
