/-
  Contracts of the document's answers for layer 1 (refectoryref01): Size, Part, Zero.
-/
import Derived.Test.YtibmblgnmngcmaaEnds1
import Derived.Test.YtibmblgnmngcmaaRow
namespace Go.Proofs.Ytibmblgnmngcmaa
open Go.RowKit

set_option maxHeartbeats 400000 in
theorem RSize_any (w : World) (s : Int) : Calls Try.prog 28 #[.int .i64 s] w fun e w' => e = .returned (.bool (sizeOk s)) ∧ w = w' := by
  by_cases h1 : s = 1
  · subst h1
    go_enter Try.func28, Try.ntmps28
    go_wp2
    go_ret
    exact ⟨rfl, rfl⟩
  by_cases h2 : s = 2
  · subst h2
    go_enter Try.func28, Try.ntmps28
    go_wp2
    go_ret
    exact ⟨rfl, rfl⟩
  by_cases h4 : s = 4
  · subst h4
    go_enter Try.func28, Try.ntmps28
    go_wp2
    go_ret
    exact ⟨rfl, rfl⟩
  by_cases h8 : s = 8
  · subst h8
    go_enter Try.func28, Try.ntmps28
    go_wp2
    go_ret
    exact ⟨rfl, rfl⟩
  · have e : sizeOk s = false := by simp [sizeOk, h1, h2, h4, h8]
    have b1 : (s == 1) = false := by simpa using h1
    have b2 : (s == 2) = false := by simpa using h2
    have b4 : (s == 4) = false := by simpa using h4
    have b8 : (s == 8) = false := by simpa using h8
    rw [e]
    clear e h1 h2 h4 h8
    go_enter Try.func28, Try.ntmps28
    go_wp2
    go_ret
    exact ⟨rfl, rfl⟩

/-- what the document's Part answers -/
def RPartPost (w : World) (xs : List Int) (a m : Int) (e : Ending) (w' : World) : Prop :=
  ∃ v, e = .returned (.tuple #[v, .int .i64 (partErr xs.length a m)]) ∧ Own w' w.heap.size v (partOf xs a m) ∧ Below w.heap.size w w'

set_option maxHeartbeats 400000 in
theorem RPart_any (w : World) (A : Option Addr) (n c : Nat) (xs : List Int) (a m : Int) (h : Holds w w.heap.size A n c xs) (hn : n ≤ 140737488355328)
    (ha : -9223372036854775808 ≤ a ∧ a ≤ 9223372036854775807) (hm : -9223372036854775808 ≤ m ∧ m ≤ 9223372036854775807) :
    Calls Try.prog 18 #[.slice A n c, .int .i64 a, .int .i64 m] w (RPartPost w xs a m) := by
  have hl := Lib.hid h.len
  have hf := h.fit
  have hq : ∀ er ys, partErr n a m = er → partOf xs a m = ys → ∀ e w', (∃ v, e = .returned (.tuple #[v, .int .i64 er]) ∧ Own w' w.heap.size v ys ∧ Below w.heap.size w w') → RPartPost w xs a m e w' := by
    intro er ys h1 h2 e w' hh
    unfold RPartPost
    rw [hl.out, h1, h2]
    exact hh
  have hnone : partErr n a m ≠ 0 → partOf xs a m = [] := fun h1 => by unfold partOf; rw [hl.out, if_neg h1]
  by_cases h1 : a < 0
  · have e1 : partErr n a m = 2 := by simp [partErr, h1]
    have HQ := Lib.hid (hq 2 [] e1 (hnone (by omega)))
    clear e1 hq hnone
    go_enter Try.func18, Try.ntmps18
    go_wp2
    go_ret2
    exact HQ.out _ _ ⟨_, rfl, Own.nil _ _, Below.refl _ _⟩
  by_cases h2 : (n : Int) < a
  · have e1 : partErr n a m = 2 := by simp [partErr, h2]
    have HQ := Lib.hid (hq 2 [] e1 (hnone (by omega)))
    clear e1 hq hnone
    go_enter Try.func18, Try.ntmps18
    go_wp2
    go_ret2
    exact HQ.out _ _ ⟨_, rfl, Own.nil _ _, Below.refl _ _⟩
  by_cases h3 : m < 0
  · have e1 : partErr n a m = 2 := by simp [partErr, h3]
    have HQ := Lib.hid (hq 2 [] e1 (hnone (by omega)))
    clear e1 hq hnone
    go_enter Try.func18, Try.ntmps18
    go_wp2
    go_ret2
    exact HQ.out _ _ ⟨_, rfl, Own.nil _ _, Below.refl _ _⟩
  by_cases h4 : (n : Int) - a < m
  · have e1 : partErr n a m = 4 := by unfold partErr; rw [if_neg (by omega), if_pos h4]
    have HQ := Lib.hid (hq 4 [] e1 (hnone (by omega)))
    clear e1 hq hnone
    go_enter Try.func18, Try.ntmps18
    go_wp2
    go_ret2
    exact HQ.out _ _ ⟨_, rfl, Own.nil _ _, Below.refl _ _⟩
  have e1 : partErr n a m = 0 := by unfold partErr; rw [if_neg (by omega), if_neg h4]
  have e2 : partOf xs a m = (xs.drop a.toNat).take m.toNat := by unfold partOf; rw [hl.out, e1]; rfl
  obtain ⟨k, rfl⟩ := Int.eq_ofNat_of_zero_le (show 0 ≤ a by omega)
  obtain ⟨j, rfl⟩ := Int.eq_ofNat_of_zero_le (show 0 ≤ m by omega)
  simp only [Int.toNat_natCast] at e2
  have HQ := Lib.hid (hq 0 _ e1 e2)
  have e3 : ((xs.drop k).take j).length = j := by have := hl.out; simp; omega
  obtain ⟨ys, hys⟩ : ∃ ys, ys = (xs.drop k).take j := ⟨_, rfl⟩
  rw [← hys] at HQ e3
  have HY := Lib.hid hys
  have HL := Lib.hid e3
  clear e1 e2 e3 hq hnone hys
  by_cases hj : j = 0
  · subst hj
    have hy0 : ys = [] := List.eq_nil_of_length_eq_zero HL.out
    subst hy0
    by_cases hck : c = k
    · subst hck
      have hE := Holds.empty w w.heap.size A 0 (fun _ => rfl)
      go_enter Try.func18, Try.ntmps18
      go_wp2_with (at_builtin; refine wpList_append_bytes rfl (.tmp 27) (.tmp 33) rfl w.heap.size _ [] rfl (Own.nil _ _) w.heap.size _ 0 0 [] rfl hE (by simp) (Nat.le_refl _) ?_; intro v1 w1 ho1 hb1 hgr)
      go_ret2
      exact HQ.out _ _ ⟨_, rfl, ho1.out, hb1⟩
    · have hE := Holds.empty w w.heap.size (A.map (·.add k)) (c - k) (fun hA => by have := h.bare (by simpa using hA); omega)
      go_enter Try.func18, Try.ntmps18
      go_wp2_with (at_builtin; refine wpList_append_bytes rfl (.tmp 27) (.tmp 33) rfl w.heap.size _ [] rfl (Own.nil _ _) w.heap.size _ 0 _ [] rfl hE (by simp) (Nat.le_refl _) ?_; intro v1 w1 ho1 hb1 hgr)
      go_ret2
      exact HQ.out _ _ ⟨_, rfl, ho1.out, hb1⟩
  · have hck : ¬ c = k := by omega
    have hE := h.part (k := k) (m := j) (c' := c - k) (by omega) (by omega) (by omega)
    rw [← HY.out, show j = k + j - k from by omega] at hE
    have hyl : ys.length ≤ 140737488355328 := by have := HL.out; omega
    go_enter Try.func18, Try.ntmps18
    go_wp2_with (at_builtin; refine wpList_append_bytes rfl (.tmp 27) (.tmp 33) rfl w.heap.size _ [] rfl (Own.nil _ _) w.heap.size _ (k + j - k) _ ys rfl hE (by simpa using hyl) (Nat.le_refl _) ?_; intro v1 w1 ho1 hb1 hgr)
    go_ret2
    exact HQ.out _ _ ⟨_, rfl, ho1.out, hb1⟩

set_option maxHeartbeats 400000 in
theorem RZero_any (w : World) (A : Option Addr) (n c : Nat) (xs : List Int) (a m : Int) (h : Holds w w.heap.size A n c xs) (hn : n ≤ 140737488355328)
    (ha : -9223372036854775808 ≤ a ∧ a ≤ 9223372036854775807) (hm : -9223372036854775808 ≤ m ∧ m ≤ 9223372036854775807) :
    Calls Try.prog 22 #[.slice A n c, .int .i64 a, .int .i64 m] w fun e w' => e = .returned (.bool (zeroOf xs a m)) ∧ Below w.heap.size w w' := by
  have hl := Lib.hid h.len
  have c2 := RPart_any w A n c xs a m h hn ha hm
  unfold RPartPost at c2
  rw [hl.out] at c2
  have hby : Bytes (partOf xs a m) := by
    unfold partOf
    split
    · exact (h.byte.drop _).take _
    · exact Bytes.nil
  have hyl : (partOf xs a m).length ≤ n := by
    have := hl.out
    unfold partOf
    split
    · simp; omega
    · simp
  by_cases hp : partErr n a m = 0
  · have e0 : zeroOf xs a m = (partOf xs a m).all (· == 0) := by unfold zeroOf; rw [hl.out, hp]; simp
    rw [hp] at c2
    obtain ⟨ys, hys⟩ : ∃ ys, ys = partOf xs a m := ⟨_, rfl⟩
    rw [← hys] at c2 e0 hby hyl
    obtain ⟨z, hz⟩ : ∃ z, z = zeroOf xs a m := ⟨_, rfl⟩
    rw [← hz] at e0 ⊢
    have C2 := Lib.hid c2
    have E0 := Lib.hid e0
    clear c2 hp hys hz e0
    go_enter Try.func22, Try.ntmps22
    go_wp2_with fail
    refine C2.out.mono ?_
    rintro e w1 ⟨v, rfl, ho, hb1⟩
    obtain ⟨A', c', rfl, hv⟩ := ho.holds hby (by omega)
    obtain ⟨j, hj⟩ : ∃ j, j = ys.length := ⟨_, rfl⟩
    rw [← hj] at hv ⊢
    have HJ := Lib.hid hj
    clear hj ho
    have hjr := hv.room
    go_wp2_with fail
    go_loop [9] (fun k => ∃ k' : Nat, k' ≤ j ∧ k = .int .i64 k' ∧ Hid ((ys.take k').all (· == 0) = true)) (fun k => j - (intOf k).toNat)
    case atStart => exact ⟨0, Nat.zero_le _, rfl, rfl⟩
    case round =>
      obtain ⟨k, hk, rfl, HT⟩ := hrel
      by_cases hlt : k < j
      · obtain ⟨b, off, rfl, hb, hc⟩ := hv.cells (by omega)
        have gc := hc k hlt
        clear hc
        have hky : k < ys.length := by have := HJ.out; omega
        obtain ⟨y, hy⟩ : ∃ y, y = ys.getD k 0 := ⟨_, rfl⟩
        rw [← hy] at gc
        have ey : ys[k] = y := by rw [hy]; simp [List.getD_eq_getElem?_getD, hky]
        by_cases hy0 : y = 0
        · have hS : Hid ((ys.take (k + 1)).all (· == 0) = true) := by
            show _ = _
            rw [List.take_succ_eq_append_getElem hky, List.all_append, HT.out, ey, hy0]; rfl
          clear HT hky ey hy
          subst hy0
          go_wp2
          go_round
          case rel => exact ⟨k + 1, by omega, by go_num, hS⟩
          case measure => simp [intOf]; omega
        · have hS : Hid (z = false) := by
            show _ = _
            rw [E0.out, List.all_eq_false]
            exact ⟨ys[k], List.getElem_mem hky, by rw [ey]; simpa using hy0⟩
          clear HT hky ey hy
          have hne : (y != 0) = true := by simpa using hy0
          clear hy0
          go_wp2
          go_ret
          exact ⟨ret_bool hS.out.symm, hb1⟩
      · have hS : Hid (z = true) := by
          show _ = _
          rw [E0.out, ← HT.out, List.take_of_length_le (by have := HJ.out; omega)]
        clear HT
        go_wp2
        go_ret
        exact ⟨ret_bool hS.out.symm, hb1⟩
  · have e0 : zeroOf xs a m = false := by unfold zeroOf; rw [hl.out]; simp [hp]
    rw [e0]
    obtain ⟨er, her⟩ : ∃ er, er = partErr n a m := ⟨_, rfl⟩
    rw [← her] at c2 hp
    have C2 := Lib.hid c2
    have hne : (er != 0) = true := by simpa using hp
    clear c2 hp e0 her
    go_enter Try.func22, Try.ntmps22
    go_wp2_with fail
    refine C2.out.mono ?_
    rintro e w1 ⟨v, rfl, ho, hb1⟩
    go_wp2
    go_ret
    exact ⟨rfl, hb1⟩

theorem num_drop {ys : List Int} {k : Nat} (hk : k < ys.length) : num (ys.drop k) = ys.getD k 0 + 256 * num (ys.drop (k + 1)) := by
  rw [List.drop_eq_getElem_cons hk, num]
  simp [List.getD_eq_getElem?_getD, hk]

set_option maxHeartbeats 400000 in
theorem RGet_any (w : World) (B : Nat) (A : Option Addr) (n c : Nat) (xs : List Int) (a s : Int) (h : Holds w B A n c xs)
    (ha : -9223372036854775808 ≤ a ∧ a ≤ 9223372036854775807) (hs : -9223372036854775808 ≤ s ∧ s ≤ 9223372036854775807) :
    Calls Try.prog 16 #[.slice A n c, .int .i64 a, .int .i64 s] w fun e w' => e = .returned (.tuple #[.int .u64 (getOf xs a s), .int .i64 (getErr n a s)]) ∧ w = w' := by
  have hl := Lib.hid h.len
  have hr := h.room
  have c1 := RSize_any w s
  have hzero : getErr n a s ≠ 0 → getOf xs a s = 0 := fun h1 => by unfold getOf; rw [hl.out, if_neg h1]
  by_cases hz : sizeOk s = true
  · have hs8 : 1 ≤ s ∧ s ≤ 8 := by rcases sizeOk_cases hz with e | e | e | e <;> omega
    obtain ⟨hs1, hs8⟩ := hs8
    have e1 : getErr n a s = partErr n a s := by unfold getErr; rw [if_pos hz]
    have e2 : partErr n a s = 0 → getOf xs a s = num ((xs.drop a.toNat).take s.toNat) := fun h1 => by unfold getOf; rw [hl.out, e1, if_pos h1]
    rw [hz] at c1
    have C1 := Lib.hid c1
    clear c1 hz
    by_cases h1 : a < 0
    · have e3 : partErr n a s = 2 := by simp [partErr, h1]
      rw [hzero (by omega), e1, e3]
      clear e1 e2 e3 hzero
      go_enter Try.func16, Try.ntmps16
      go_wp2_with fail
      refine C1.out.mono ?_
      rintro e w' ⟨rfl, rfl⟩
      go_wp2
      go_ret2
      exact ⟨rfl, rfl⟩
    by_cases h2 : (n : Int) < a
    · have e3 : partErr n a s = 2 := by simp [partErr, h2]
      rw [hzero (by omega), e1, e3]
      clear e1 e2 e3 hzero
      go_enter Try.func16, Try.ntmps16
      go_wp2_with fail
      refine C1.out.mono ?_
      rintro e w' ⟨rfl, rfl⟩
      go_wp2
      go_ret2
      exact ⟨rfl, rfl⟩
    by_cases h4 : (n : Int) - a < s
    · have e3 : partErr n a s = 4 := by unfold partErr; rw [if_neg (by omega), if_pos h4]
      rw [hzero (by omega), e1, e3]
      clear e1 e2 e3 hzero
      go_enter Try.func16, Try.ntmps16
      go_wp2_with fail
      refine C1.out.mono ?_
      rintro e w' ⟨rfl, rfl⟩
      go_wp2
      go_ret2
      exact ⟨rfl, rfl⟩
    have e3 : partErr n a s = 0 := by unfold partErr; rw [if_neg (by omega), if_neg h4]
    rw [e2 e3, e1, e3]
    obtain ⟨p, rfl⟩ := Int.eq_ofNat_of_zero_le (show 0 ≤ a by omega)
    obtain ⟨j, rfl⟩ := Int.eq_ofNat_of_zero_le (show 0 ≤ s by omega)
    simp only [Int.toNat_natCast]
    obtain ⟨b, off, rfl, hb, hc⟩ := h.cells (by omega)
    obtain ⟨ys, hys⟩ : ∃ ys, ys = (xs.drop p).take j := ⟨_, rfl⟩
    have hyl : ys.length = j := by have := hl.out; rw [hys]; simp; omega
    have hyb : Bytes ys := by rw [hys]; exact (h.byte.drop _).take _
    have hyc : ∀ i, i < j → w.cell? ⟨b, off + (p + i), none⟩ = some (.int .u8 (ys.getD i 0)) := fun i hi => by
      rw [hc (p + i) (by omega), hys]
      simp [List.getD_eq_getElem?_getD, List.getElem?_drop, hi]
    rw [← hys]
    obtain ⟨z, hz⟩ : ∃ z, z = num ys := ⟨_, rfl⟩
    rw [← hz]
    have HZ := Lib.hid hz
    have HL := Lib.hid hyl
    have HC := Lib.hid hyc
    clear e1 e2 e3 hzero hys hyl hz hc hyc
    go_enter Try.func16, Try.ntmps16
    go_wp2_with fail
    refine C1.out.mono ?_
    rintro e w' ⟨rfl, rfl⟩
    go_wp2_with fail
    go_loop [8, 9] (fun v i => ∃ k : Nat, k ≤ j ∧ i = .int .i64 ((k : Int) - 1) ∧ ∃ z', v = .int .u64 z' ∧ Hid (z' = num (ys.drop k))) (fun _ i => (intOf i + 1).toNat)
    case atStart => exact ⟨j, Nat.le_refl _, rfl, 0, rfl, by rw [List.drop_of_length_le (by have := HL.out; omega)]; rfl⟩
    case round =>
      obtain ⟨k, hk, rfl, z', rfl, HZ'⟩ := hrel
      rcases k with _ | k
      · have hS : Hid (z' = z) := by show _ = _; rw [HZ'.out, HZ.out]; rfl
        clear HZ'
        go_wp2
        go_ret2
        exact ⟨by rw [hS.out]; rfl, rfl⟩
      · have gc := HC.out k (by omega)
        obtain ⟨y, hy⟩ : ∃ y, y = ys.getD k 0 := ⟨_, rfl⟩
        have hyr := hyb.getD k
        rw [← hy] at gc hyr
        obtain ⟨hy0, hy1⟩ := hyr
        have hz1 : 0 ≤ z' ∧ z' ≤ 72057594037927935 := by
          have h1 := num_bounds (ys.drop (k + 1)) (hyb.drop _)
          rw [← HZ'.out] at h1
          have h2 : (256 : Int) ^ (ys.drop (k + 1)).length ≤ 256 ^ 7 := by
            have h3 : (256 : Nat) ^ (ys.drop (k + 1)).length ≤ 256 ^ 7 := Nat.pow_le_pow_right (by omega) (by have := HL.out; simp; omega)
            have h4 : (((256 : Nat) ^ (ys.drop (k + 1)).length : Nat) : Int) ≤ ((256 ^ 7 : Nat) : Int) := Int.ofNat_le.2 h3
            simpa [Int.natCast_pow] using h4
          have h5 : (256 : Int) ^ 7 = 72057594037927936 := by decide
          omega
        obtain ⟨hz1, hz2⟩ := hz1
        have hS : Hid (256 * z' + y = num (ys.drop k)) := by
          show _ = _
          rw [num_drop (by have := HL.out; omega), ← HZ'.out, ← hy]; omega
        have ek : (((k + 1 : Nat) : Int) - 1) = (k : Int) := by omega
        rw [ek]
        clear HZ' hy ek
        go_wp2
        go_round
        case rel => exact ⟨k, by omega, by go_num, _, rfl, hS⟩
        case measure => simp [intOf]
  · have hz' : sizeOk s = false := by simpa using hz
    have e1 : getErr n a s = 2 := by unfold getErr; rw [if_neg hz]
    rw [hz'] at c1
    have C1 := Lib.hid c1
    rw [hzero (by omega), e1]
    clear c1 hz hz' e1 hzero
    go_enter Try.func16, Try.ntmps16
    go_wp2_with fail
    refine C1.out.mono ?_
    rintro e w' ⟨rfl, rfl⟩
    go_wp2
    go_ret2
    exact ⟨rfl, rfl⟩
end Go.Proofs.Ytibmblgnmngcmaa
