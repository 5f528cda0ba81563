/-
  Contracts of the document's answers for layer 1 (refectoryref01): Size, Part, Zero.
-/
import Derived.Test.YthoddihoccpidaaEnds1
import Derived.Test.YthoddihoccpidaaRow
namespace Go.Proofs.Ythoddihoccpidaa
open Go.RowKit

set_option maxHeartbeats 400000 in
theorem RSize_any (w : World) (s : Int) : Calls Try.prog 51 #[.int .i64 s] w fun e w' => e = .returned (.bool (sizeOk s)) ∧ w = w' := by
  by_cases h1 : s = 1
  · subst h1
    go_enter Try.func51, Try.ntmps51
    go_wp2
    go_ret
    exact ⟨rfl, rfl⟩
  by_cases h2 : s = 2
  · subst h2
    go_enter Try.func51, Try.ntmps51
    go_wp2
    go_ret
    exact ⟨rfl, rfl⟩
  by_cases h4 : s = 4
  · subst h4
    go_enter Try.func51, Try.ntmps51
    go_wp2
    go_ret
    exact ⟨rfl, rfl⟩
  by_cases h8 : s = 8
  · subst h8
    go_enter Try.func51, Try.ntmps51
    go_wp2
    go_ret
    exact ⟨rfl, rfl⟩
  · have e : sizeOk s = false := by simp [sizeOk, h1, h2, h4, h8]
    have b1 : (s == 1) = false := by simpa using h1
    have b2 : (s == 2) = false := by simpa using h2
    have b4 : (s == 4) = false := by simpa using h4
    have b8 : (s == 8) = false := by simpa using h8
    rw [e]
    clear e h1 h2 h4 h8
    go_enter Try.func51, Try.ntmps51
    go_wp2
    go_ret
    exact ⟨rfl, rfl⟩

/-- what the document's Part answers -/
def RPartPost (w : World) (xs : List Int) (a m : Int) (e : Ending) (w' : World) : Prop :=
  ∃ v, e = .returned (.tuple #[v, .int .i64 (partErr xs.length a m)]) ∧ Own w' w.heap.size v (partOf xs a m) ∧ Below w.heap.size w w'

theorem num_drop {ys : List Int} {k : Nat} (hk : k < ys.length) : num (ys.drop k) = ys.getD k 0 + 256 * num (ys.drop (k + 1)) := by
  rw [List.drop_eq_getElem_cons hk, num]
  simp [List.getD_eq_getElem?_getD, hk]

set_option maxHeartbeats 400000 in
theorem RGet_any (w : World) (B : Nat) (A : Option Addr) (n c : Nat) (xs : List Int) (a s : Int) (h : Holds w B A n c xs)
    (ha : -9223372036854775808 ≤ a ∧ a ≤ 9223372036854775807) (hs : -9223372036854775808 ≤ s ∧ s ≤ 9223372036854775807) :
    Calls Try.prog 50 #[.slice A n c, .int .i64 a, .int .i64 s] w fun e w' => e = .returned (.tuple #[.int .u64 (getOf xs a s), .int .i64 (getErr n a s)]) ∧ w = w' := by
  have hl := Lib.hid h.len
  have hr := h.room
  have c1 := RSize_any w s
  have hzero : getErr n a s ≠ 0 → getOf xs a s = 0 := fun h1 => by unfold getOf; rw [hl.out, if_neg h1]
  by_cases hz : sizeOk s = true
  · have hs8 : 1 ≤ s ∧ s ≤ 8 := by rcases sizeOk_cases hz with e | e | e | e <;> omega
    obtain ⟨hs1, hs8⟩ := hs8
    have e1 : getErr n a s = partErr n a s := by unfold getErr; rw [if_pos hz]
    have e2 : partErr n a s = 0 → getOf xs a s = num ((xs.drop a.toNat).take s.toNat) := fun h1 => by unfold getOf; rw [hl.out, e1, if_pos h1]
    rw [hz] at c1
    have C1 := Lib.hid c1
    clear c1 hz
    by_cases h1 : a < 0
    · have e3 : partErr n a s = 2 := by simp [partErr, h1]
      rw [hzero (by omega), e1, e3]
      clear e1 e2 e3 hzero
      go_enter Try.func50, Try.ntmps50
      go_wp2_with fail
      refine C1.out.mono ?_
      rintro e w' ⟨rfl, rfl⟩
      go_wp2
      go_ret2
      exact ⟨rfl, rfl⟩
    by_cases h2 : (n : Int) < a
    · have e3 : partErr n a s = 2 := by simp [partErr, h2]
      rw [hzero (by omega), e1, e3]
      clear e1 e2 e3 hzero
      go_enter Try.func50, Try.ntmps50
      go_wp2_with fail
      refine C1.out.mono ?_
      rintro e w' ⟨rfl, rfl⟩
      go_wp2
      go_ret2
      exact ⟨rfl, rfl⟩
    by_cases h4 : (n : Int) - a < s
    · have e3 : partErr n a s = 4 := by unfold partErr; rw [if_neg (by omega), if_pos h4]
      rw [hzero (by omega), e1, e3]
      clear e1 e2 e3 hzero
      go_enter Try.func50, Try.ntmps50
      go_wp2_with fail
      refine C1.out.mono ?_
      rintro e w' ⟨rfl, rfl⟩
      go_wp2
      go_ret2
      exact ⟨rfl, rfl⟩
    have e3 : partErr n a s = 0 := by unfold partErr; rw [if_neg (by omega), if_neg h4]
    rw [e2 e3, e1, e3]
    obtain ⟨p, rfl⟩ := Int.eq_ofNat_of_zero_le (show 0 ≤ a by omega)
    obtain ⟨j, rfl⟩ := Int.eq_ofNat_of_zero_le (show 0 ≤ s by omega)
    simp only [Int.toNat_natCast]
    obtain ⟨b, off, rfl, hb, hc⟩ := h.cells (by omega)
    obtain ⟨ys, hys⟩ : ∃ ys, ys = (xs.drop p).take j := ⟨_, rfl⟩
    have hyl : ys.length = j := by have := hl.out; rw [hys]; simp; omega
    have hyb : Bytes ys := by rw [hys]; exact (h.byte.drop _).take _
    have hyc : ∀ i, i < j → w.cell? ⟨b, off + (p + i), none⟩ = some (.int .u8 (ys.getD i 0)) := fun i hi => by
      rw [hc (p + i) (by omega), hys]
      simp [List.getD_eq_getElem?_getD, List.getElem?_drop, hi]
    rw [← hys]
    obtain ⟨z, hz⟩ : ∃ z, z = num ys := ⟨_, rfl⟩
    rw [← hz]
    have HZ := Lib.hid hz
    have HL := Lib.hid hyl
    have HC := Lib.hid hyc
    clear e1 e2 e3 hzero hys hyl hz hc hyc
    go_enter Try.func50, Try.ntmps50
    go_wp2_with fail
    refine C1.out.mono ?_
    rintro e w' ⟨rfl, rfl⟩
    go_wp2_with fail
    go_loop [8, 9] (fun v i => ∃ k : Nat, k ≤ j ∧ i = .int .i64 ((k : Int) - 1) ∧ ∃ z', v = .int .u64 z' ∧ Hid (z' = num (ys.drop k))) (fun _ i => (intOf i + 1).toNat)
    case atStart => exact ⟨j, Nat.le_refl _, rfl, 0, rfl, by rw [List.drop_of_length_le (by have := HL.out; omega)]; rfl⟩
    case round =>
      obtain ⟨k, hk, rfl, z', rfl, HZ'⟩ := hrel
      rcases k with _ | k
      · have hS : Hid (z' = z) := by show _ = _; rw [HZ'.out, HZ.out]; rfl
        clear HZ'
        go_wp2
        go_ret2
        exact ⟨by rw [hS.out]; rfl, rfl⟩
      · have gc := HC.out k (by omega)
        obtain ⟨y, hy⟩ : ∃ y, y = ys.getD k 0 := ⟨_, rfl⟩
        have hyr := hyb.getD k
        rw [← hy] at gc hyr
        obtain ⟨hy0, hy1⟩ := hyr
        have hz1 : 0 ≤ z' ∧ z' ≤ 72057594037927935 := by
          have h1 := num_bounds (ys.drop (k + 1)) (hyb.drop _)
          rw [← HZ'.out] at h1
          have h2 : (256 : Int) ^ (ys.drop (k + 1)).length ≤ 256 ^ 7 := by
            have h3 : (256 : Nat) ^ (ys.drop (k + 1)).length ≤ 256 ^ 7 := Nat.pow_le_pow_right (by omega) (by have := HL.out; simp; omega)
            have h4 : (((256 : Nat) ^ (ys.drop (k + 1)).length : Nat) : Int) ≤ ((256 ^ 7 : Nat) : Int) := Int.ofNat_le.2 h3
            simpa [Int.natCast_pow] using h4
          have h5 : (256 : Int) ^ 7 = 72057594037927936 := by decide
          omega
        obtain ⟨hz1, hz2⟩ := hz1
        have hS : Hid (256 * z' + y = num (ys.drop k)) := by
          show _ = _
          rw [num_drop (by have := HL.out; omega), ← HZ'.out, ← hy]; omega
        have ek : (((k + 1 : Nat) : Int) - 1) = (k : Int) := by omega
        rw [ek]
        clear HZ' hy ek
        go_wp2
        go_round
        case rel => exact ⟨k, by omega, by go_num, _, rfl, hS⟩
        case measure => simp [intOf]
  · have hz' : sizeOk s = false := by simpa using hz
    have e1 : getErr n a s = 2 := by unfold getErr; rw [if_neg hz]
    rw [hz'] at c1
    have C1 := Lib.hid c1
    rw [hzero (by omega), e1]
    clear c1 hz hz' e1 hzero
    go_enter Try.func50, Try.ntmps50
    go_wp2_with fail
    refine C1.out.mono ?_
    rintro e w' ⟨rfl, rfl⟩
    go_wp2
    go_ret2
    exact ⟨rfl, rfl⟩
end Go.Proofs.Ythoddihoccpidaa
