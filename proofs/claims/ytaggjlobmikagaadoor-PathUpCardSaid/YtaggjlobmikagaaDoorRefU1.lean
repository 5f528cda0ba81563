/-
  Contracts of the document's answers for layer 2 (refectoryref02): Letter, lead, first, Letters.
-/
import Derived.Test.YtaggjlobmikagaaDoorUtfD
namespace Go.Proofs.YtaggjlobmikagaaDoor
open Go.RowKit

def letterB (n : Int) : Bool := decide (0 ≤ n) && decide (n ≤ 1114111) && (decide (n < 55296) || decide (57343 < n))

set_option maxHeartbeats 400000 in
theorem Letter_any (w : World) (n : Int) (_hn : -9223372036854775808 ≤ n ∧ n ≤ 9223372036854775807) :
    Calls Tryd.prog 54 #[.int .i64 n] w fun e w' => e = .returned (.bool (letterB n)) ∧ w = w' := by
  by_cases h1 : 0 ≤ n
  · by_cases h2 : n ≤ 1114111
    · by_cases h3 : n < 55296
      · have e : letterB n = true := by simp [letterB, h1, h2, h3]
        rw [e]
        clear e
        go_enter Tryd.func54, Tryd.ntmps54
        go_wp2
        go_ret
        exact ⟨rfl, rfl⟩
      · by_cases h4 : 57343 < n
        · have e : letterB n = true := by simp [letterB, h1, h2, h4]
          rw [e]
          clear e
          go_enter Tryd.func54, Tryd.ntmps54
          go_wp2
          go_ret
          exact ⟨rfl, rfl⟩
        · have e : letterB n = false := by simp [letterB, h3, h4]
          rw [e]
          clear e
          go_enter Tryd.func54, Tryd.ntmps54
          go_wp2
          go_ret
          exact ⟨rfl, rfl⟩
    · have e : letterB n = false := by simp [letterB, h2]
      rw [e]
      clear e
      go_enter Tryd.func54, Tryd.ntmps54
      go_wp2
      go_ret
      exact ⟨rfl, rfl⟩
  · have e : letterB n = false := by simp [letterB, h1]
    rw [e]
    clear e
    go_enter Tryd.func54, Tryd.ntmps54
    go_wp2
    go_ret
    exact ⟨rfl, rfl⟩

/-- what a first byte says: how many bytes; the number's beginning; the least number -/
def leadN (b : Int) : Nat := if b < 128 then 1 else if b < 192 then 0 else if b < 224 then 2 else if b < 240 then 3 else if b < 248 then 4 else 0
def leadV (b : Int) : Int := if b < 128 then b else if b < 192 then 0 else if b < 224 then b - 192 else if b < 240 then b - 224 else if b < 248 then b - 240 else 0
def leadL (b : Int) : Int := if b < 128 then 0 else if b < 192 then 0 else if b < 224 then 128 else if b < 240 then 2048 else if b < 248 then 65536 else 0

set_option maxHeartbeats 1000000 in
theorem lead_any (w : World) (b : Int) (hb : 0 ≤ b ∧ b ≤ 255) :
    Calls Tryd.prog 53 #[.int .u8 b] w fun e w' => e = .returned (.tuple #[.int .i64 (leadN b), .int .i64 (leadV b), .int .i64 (leadL b)]) ∧ w = w' := by
  obtain ⟨hb0, hb1⟩ := hb
  unfold leadN leadV leadL
  by_cases h1 : b < 128
  · rw [if_pos h1, if_pos h1, if_pos h1]
    go_enter Tryd.func53, Tryd.ntmps53
    go_wp2
    go_ret3
    exact ⟨rfl, rfl⟩
  rw [if_neg h1, if_neg h1, if_neg h1]
  by_cases h2 : b < 192
  · rw [if_pos h2, if_pos h2, if_pos h2]
    go_enter Tryd.func53, Tryd.ntmps53
    go_wp2
    go_ret3
    exact ⟨rfl, rfl⟩
  rw [if_neg h2, if_neg h2, if_neg h2]
  by_cases h3 : b < 224
  · rw [if_pos h3, if_pos h3, if_pos h3]
    go_enter Tryd.func53, Tryd.ntmps53
    go_wp2
    go_ret3
    exact ⟨rfl, rfl⟩
  rw [if_neg h3, if_neg h3, if_neg h3]
  by_cases h4 : b < 240
  · rw [if_pos h4, if_pos h4, if_pos h4]
    go_enter Tryd.func53, Tryd.ntmps53
    go_wp2
    go_ret3
    exact ⟨rfl, rfl⟩
  rw [if_neg h4, if_neg h4, if_neg h4]
  by_cases h5 : b < 248
  · rw [if_pos h5, if_pos h5, if_pos h5]
    go_enter Tryd.func53, Tryd.ntmps53
    go_wp2
    go_ret3
    exact ⟨rfl, rfl⟩
  · rw [if_neg h5, if_neg h5, if_neg h5]
    go_enter Tryd.func53, Tryd.ntmps53
    go_wp2
    go_ret3
    exact ⟨rfl, rfl⟩


def gB (l : List UInt8) (i : Nat) : Int := ((l.getD i 0).toNat : Int)
/-- the number behind k more bytes -/
def valK (l : List UInt8) : Nat → Int
  | 0 => leadV (gB l 0)
  | k + 1 => 64 * valK l k + gB l (k + 1) - 128
def contB (x : Int) : Bool := decide (128 ≤ x) && decide (x < 192)
def contsK (l : List UInt8) : Nat → Bool
  | 0 => true
  | k + 1 => contsK l k && contB (gB l (k + 1))
/-- what first answers -/
def firstOf (l : List UInt8) : Int × Nat :=
  if leadN (gB l 0) = 0 ∨ l.length < leadN (gB l 0) then (0, 0)
  else if contsK l (leadN (gB l 0) - 1) = false then (0, 0)
  else if valK l (leadN (gB l 0) - 1) < leadL (gB l 0) ∨ letterB (valK l (leadN (gB l 0) - 1)) = false then (0, 0)
  else (valK l (leadN (gB l 0) - 1), leadN (gB l 0))
theorem gB_bounds (l : List UInt8) (i : Nat) : 0 ≤ gB l i ∧ gB l i ≤ 255 := by
  have := (l.getD i 0).toNat_lt
  unfold gB
  omega
theorem leadN_le (b : Int) : leadN b ≤ 4 := by
  unfold leadN
  repeat' split
  all_goals omega
theorem leadV_bounds {b : Int} (h : 0 ≤ b ∧ b ≤ 255) : 0 ≤ leadV b ∧ leadV b ≤ 127 := by unfold leadV; repeat' split <;> omega
theorem leadL_bounds (b : Int) : 0 ≤ leadL b ∧ leadL b ≤ 65536 := by unfold leadL; repeat' split <;> omega
theorem contB_iff (x : Int) : contB x = true ↔ 128 ≤ x ∧ x < 192 := by simp [contB]
theorem contsK_mono (l : List UInt8) {k : Nat} (h : contsK l k = false) : ∀ j, k ≤ j → contsK l j = false := by
  intro j hj
  induction j with
  | zero => obtain rfl : k = 0 := by omega
            exact h
  | succ j ih =>
    by_cases e : k = j + 1
    · rw [← e]; exact h
    · rw [contsK, ih (by omega)]; rfl
theorem valK_bounds (l : List UInt8) (k : Nat) (hk : k ≤ 3) (hc : contsK l k = true) : 0 ≤ valK l k ∧ valK l k ≤ 67108864 := by
  have h0 := leadV_bounds (gB_bounds l 0)
  have hcase : k = 0 ∨ k = 1 ∨ k = 2 ∨ k = 3 := by omega
  rcases hcase with rfl | rfl | rfl | rfl
  · simp only [valK]; omega
  · simp only [contsK, Bool.and_eq_true, contB_iff, true_and] at hc
    simp only [valK]; omega
  · simp only [contsK, Bool.and_eq_true, contB_iff, true_and] at hc
    simp only [valK]; omega
  · simp only [contsK, Bool.and_eq_true, contB_iff, true_and] at hc
    simp only [valK]; omega
theorem letterB_iff (n : Int) : letterB n = true ↔ IsLetter n := by
  unfold letterB IsLetter
  simp only [Bool.and_eq_true, Bool.or_eq_true, decide_eq_true_eq]
  omega
theorem letterB_false (n : Int) : letterB n = false ↔ ¬ IsLetter n := by rw [← letterB_iff]; simp

def pick (d : Nat × Nat) : Int × Nat := if d.1 = 65533 ∧ d.2 = 1 then (0, 0) else ((d.1 : Int), d.2)
theorem pick_bad : pick (65533, 1) = (0, 0) := rfl
theorem pick_ok (x w : Nat) (h : ¬ (x = 65533 ∧ w = 1)) : pick (x, w) = ((x : Int), w) := if_neg h
theorem pick_head (l : List UInt8) : (if (Lib.decodeL l).1 = 65533 ∧ (Lib.decodeL l).2 = 1 then ((0 : Int), 0) else (headOf l, (Lib.decodeL l).2)) = pick (Lib.decodeL l) := by
  unfold pick
  by_cases c : (Lib.decodeL l).1 = 65533 ∧ (Lib.decodeL l).2 = 1
  · rw [if_pos c, if_pos c]
  · rw [if_neg c, if_neg c]
    unfold headOf
    rw [if_neg c]

set_option maxRecDepth 100000 in
theorem first_decode (l : List UInt8) (hne : l ≠ []) :
    firstOf l = if (Lib.decodeL l).1 = 65533 ∧ (Lib.decodeL l).2 = 1 then (0, 0) else (headOf l, (Lib.decodeL l).2) := by
  have hl : 0 < l.length := List.length_pos_iff.2 hne
  have k0 := (l.getD 0 0).toNat_lt
  have k1 := (l.getD 1 0).toNat_lt
  have k2 := (l.getD 2 0).toNat_lt
  have k3 := (l.getD 3 0).toNat_lt
  rw [pick_head, Lib.decodeL_N]
  have g0 : gB l 0 = ((l.getD 0 0).toNat : Int) := rfl
  have g1 : gB l 1 = ((l.getD 1 0).toNat : Int) := rfl
  have g2 : gB l 2 = ((l.getD 2 0).toNat : Int) := rfl
  have g3 : gB l 3 = ((l.getD 3 0).toNat : Int) := rfl
  unfold firstOf
  generalize (l.getD 0 0).toNat = b0 at *
  generalize (l.getD 1 0).toNat = b1 at *
  generalize (l.getD 2 0).toNat = b2 at *
  generalize (l.getD 3 0).toNat = b3 at *
  generalize l.length = n at *
  by_cases c1 : b0 < 128
  · have e1 : leadN (gB l 0) = 1 := by rw [g0]; unfold leadN; rw [if_pos (by omega)]
    have e2 : leadL (gB l 0) = 0 := by rw [g0]; unfold leadL; rw [if_pos (by omega)]
    have e3 : valK l 0 = b0 := by rw [valK, g0]; unfold leadV; rw [if_pos (by omega)]
    have e4 : letterB (b0 : Int) = true := by rw [letterB_iff]; exact ⟨by omega, by omega, by omega⟩
    rw [Lib.decodeN_ascii _ _ _ _ _ c1, pick_ok _ _ (by omega), e1, e2, Nat.sub_self, if_neg (by omega), contsK, if_neg (by decide), e3, e4, if_neg (by simp)]
  by_cases c2 : b0 < 192
  · have e1 : leadN (gB l 0) = 0 := by rw [g0]; unfold leadN; rw [if_neg (by omega), if_pos (by omega)]
    have hd : Lib.decodeN n b0 b1 b2 b3 = (65533, 1) := by unfold Lib.decodeN; rw [if_neg c1, if_neg (by omega), if_neg (by omega), if_neg (by omega)]
    rw [hd, pick_bad, if_pos (.inl e1)]
  by_cases c3 : b0 < 224
  · have e1 : leadN (gB l 0) = 2 := by rw [g0]; unfold leadN; rw [if_neg (by omega), if_neg (by omega), if_pos (by omega)]
    have e2 : leadL (gB l 0) = 128 := by rw [g0]; unfold leadL; rw [if_neg (by omega), if_neg (by omega), if_pos (by omega)]
    have e3 : valK l 1 = 64 * (b0 - 192) + b1 - 128 := by rw [valK, valK, g0, g1]; unfold leadV; rw [if_neg (by omega), if_neg (by omega), if_pos (by omega)]
    have e4 : contsK l 1 = contB (gB l 1) := by rw [contsK, contsK, Bool.true_and]
    by_cases d1 : 1 < n ∧ b1 / 64 = 2
    · have f1 : contB (b1 : Int) = true := by rw [contB_iff]; omega
      by_cases d2 : b0 % 32 * 64 + b1 % 64 ≥ 128
      · have hd : Lib.decodeN n b0 b1 b2 b3 = (b0 % 32 * 64 + b1 % 64, 2) := by unfold Lib.decodeN; rw [if_neg c1, if_pos ⟨by omega, d1⟩, if_pos d2]
        have e5 : letterB (64 * ((b0 : Int) - 192) + b1 - 128) = true := by rw [letterB_iff]; exact ⟨by omega, by omega, by omega⟩
        rw [hd, pick_ok _ _ (by omega), e1, e2, show 2 - 1 = 1 from rfl, e3, e4, g1, f1, e5, if_neg (by omega), if_neg (by decide), if_neg (by simp; omega)]
        exact Prod.ext (by dsimp only; omega) rfl
      · have hd : Lib.decodeN n b0 b1 b2 b3 = (65533, 1) := by unfold Lib.decodeN; rw [if_neg c1, if_pos ⟨by omega, d1⟩, if_neg d2]
        rw [hd, pick_bad, e1, e2, show 2 - 1 = 1 from rfl, e3, e4, g1, f1, if_neg (by omega), if_neg (by decide), if_pos (.inl (by omega))]
    · have hd : Lib.decodeN n b0 b1 b2 b3 = (65533, 1) := by unfold Lib.decodeN; rw [if_neg c1, if_neg (fun h => d1 h.2), if_neg (by omega), if_neg (by omega)]
      rw [hd, pick_bad, e1, show 2 - 1 = 1 from rfl, e4, g1]
      by_cases d2 : n < 2
      · rw [if_pos (.inr d2)]
      · have f1 : contB (b1 : Int) = false := by rw [Bool.eq_false_iff, Ne, contB_iff]; omega
        rw [if_neg (by omega), f1, if_pos rfl]
  by_cases c4 : b0 < 240
  · have e1 : leadN (gB l 0) = 3 := by rw [g0]; unfold leadN; rw [if_neg (by omega), if_neg (by omega), if_neg (by omega), if_pos (by omega)]
    have e2 : leadL (gB l 0) = 2048 := by rw [g0]; unfold leadL; rw [if_neg (by omega), if_neg (by omega), if_neg (by omega), if_pos (by omega)]
    have e3 : valK l 2 = 64 * (64 * (b0 - 224) + b1 - 128) + b2 - 128 := by rw [valK, valK, valK, g0, g1, g2]; unfold leadV; rw [if_neg (by omega), if_neg (by omega), if_neg (by omega), if_pos (by omega)]
    have e4 : contsK l 2 = (contB (gB l 1) && contB (gB l 2)) := by rw [contsK, contsK, contsK, Bool.true_and]
    by_cases d1 : (1 < n ∧ b1 / 64 = 2) ∧ (2 < n ∧ b2 / 64 = 2)
    · have f1 : contB (b1 : Int) = true := by rw [contB_iff]; omega
      have f2 : contB (b2 : Int) = true := by rw [contB_iff]; omega
      by_cases d2 : b0 % 16 * 4096 + b1 % 64 * 64 + b2 % 64 ≥ 2048 ∧ (b0 % 16 * 4096 + b1 % 64 * 64 + b2 % 64 < 55296 ∨ (57344 ≤ b0 % 16 * 4096 + b1 % 64 * 64 + b2 % 64 ∧ b0 % 16 * 4096 + b1 % 64 * 64 + b2 % 64 ≤ 1114111))
      · have hd : Lib.decodeN n b0 b1 b2 b3 = (b0 % 16 * 4096 + b1 % 64 * 64 + b2 % 64, 3) := by unfold Lib.decodeN; rw [if_neg c1, if_neg (by omega), if_pos ⟨by omega, d1⟩, if_pos d2]
        have e5 : letterB (64 * (64 * ((b0 : Int) - 224) + b1 - 128) + b2 - 128) = true := by rw [letterB_iff]; exact ⟨by omega, by omega, by omega⟩
        rw [hd, pick_ok _ _ (by omega), e1, e2, show 3 - 1 = 2 from rfl, e3, e4, g1, g2, f1, f2, e5, if_neg (by omega), if_neg (by decide), if_neg (by simp; omega)]
        exact Prod.ext (by dsimp only; omega) rfl
      · have hd : Lib.decodeN n b0 b1 b2 b3 = (65533, 1) := by unfold Lib.decodeN; rw [if_neg c1, if_neg (by omega), if_pos ⟨by omega, d1⟩, if_neg d2]
        rw [hd, pick_bad, e1, e2, show 3 - 1 = 2 from rfl, e3, e4, g1, g2, f1, f2, if_neg (by omega), if_neg (by decide), if_pos]
        rw [letterB_false]
        unfold IsLetter
        omega
    · have hd : Lib.decodeN n b0 b1 b2 b3 = (65533, 1) := by unfold Lib.decodeN; rw [if_neg c1, if_neg (by omega), if_neg (fun h => d1 h.2), if_neg (by omega)]
      rw [hd, pick_bad, e1, show 3 - 1 = 2 from rfl, e4, g1, g2]
      by_cases d2 : n < 3
      · rw [if_pos (.inr d2)]
      · have f1 : (contB (b1 : Int) && contB (b2 : Int)) = false := by rw [Bool.eq_false_iff, Ne, Bool.and_eq_true, contB_iff, contB_iff]; omega
        rw [if_neg (by omega), f1, if_pos rfl]
  by_cases c5 : b0 < 248
  · have e1 : leadN (gB l 0) = 4 := by rw [g0]; unfold leadN; rw [if_neg (by omega), if_neg (by omega), if_neg (by omega), if_neg (by omega), if_pos (by omega)]
    have e2 : leadL (gB l 0) = 65536 := by rw [g0]; unfold leadL; rw [if_neg (by omega), if_neg (by omega), if_neg (by omega), if_neg (by omega), if_pos (by omega)]
    have e3 : valK l 3 = 64 * (64 * (64 * (b0 - 240) + b1 - 128) + b2 - 128) + b3 - 128 := by rw [valK, valK, valK, valK, g0, g1, g2, g3]; unfold leadV; rw [if_neg (by omega), if_neg (by omega), if_neg (by omega), if_neg (by omega), if_pos (by omega)]
    have e4 : contsK l 3 = (contB (gB l 1) && contB (gB l 2) && contB (gB l 3)) := by rw [contsK, contsK, contsK, contsK, Bool.true_and]
    by_cases d1 : (1 < n ∧ b1 / 64 = 2) ∧ (2 < n ∧ b2 / 64 = 2) ∧ (3 < n ∧ b3 / 64 = 2)
    · have f1 : contB (b1 : Int) = true := by rw [contB_iff]; omega
      have f2 : contB (b2 : Int) = true := by rw [contB_iff]; omega
      have f3 : contB (b3 : Int) = true := by rw [contB_iff]; omega
      by_cases d2 : b0 % 8 * 262144 + b1 % 64 * 4096 + b2 % 64 * 64 + b3 % 64 ≥ 65536 ∧ (b0 % 8 * 262144 + b1 % 64 * 4096 + b2 % 64 * 64 + b3 % 64 < 55296 ∨ (57344 ≤ b0 % 8 * 262144 + b1 % 64 * 4096 + b2 % 64 * 64 + b3 % 64 ∧ b0 % 8 * 262144 + b1 % 64 * 4096 + b2 % 64 * 64 + b3 % 64 ≤ 1114111))
      · have hd : Lib.decodeN n b0 b1 b2 b3 = (b0 % 8 * 262144 + b1 % 64 * 4096 + b2 % 64 * 64 + b3 % 64, 4) := by unfold Lib.decodeN; rw [if_neg c1, if_neg (by omega), if_neg (by omega), if_pos ⟨by omega, d1⟩, if_pos d2]
        have e5 : letterB (64 * (64 * (64 * ((b0 : Int) - 240) + b1 - 128) + b2 - 128) + b3 - 128) = true := by rw [letterB_iff]; exact ⟨by omega, by omega, by omega⟩
        rw [hd, pick_ok _ _ (by omega), e1, e2, show 4 - 1 = 3 from rfl, e3, e4, g1, g2, g3, f1, f2, f3, e5, if_neg (by omega), if_neg (by decide), if_neg (by simp; omega)]
        exact Prod.ext (by dsimp only; omega) rfl
      · have hd : Lib.decodeN n b0 b1 b2 b3 = (65533, 1) := by unfold Lib.decodeN; rw [if_neg c1, if_neg (by omega), if_neg (by omega), if_pos ⟨by omega, d1⟩, if_neg d2]
        rw [hd, pick_bad, e1, e2, show 4 - 1 = 3 from rfl, e3, e4, g1, g2, g3, f1, f2, f3, if_neg (by omega), if_neg (by decide), if_pos]
        rw [letterB_false]
        unfold IsLetter
        omega
    · have hd : Lib.decodeN n b0 b1 b2 b3 = (65533, 1) := by unfold Lib.decodeN; rw [if_neg c1, if_neg (by omega), if_neg (by omega), if_neg (fun h => d1 h.2)]
      rw [hd, pick_bad, e1, show 4 - 1 = 3 from rfl, e4, g1, g2, g3]
      by_cases d2 : n < 4
      · rw [if_pos (.inr d2)]
      · have f1 : (contB (b1 : Int) && contB (b2 : Int) && contB (b3 : Int)) = false := by rw [Bool.eq_false_iff, Ne, Bool.and_eq_true, Bool.and_eq_true, contB_iff, contB_iff, contB_iff]; omega
        rw [if_neg (by omega), f1, if_pos rfl]
  · have e1 : leadN (gB l 0) = 0 := by rw [g0]; unfold leadN; rw [if_neg (by omega), if_neg (by omega), if_neg (by omega), if_neg (by omega), if_neg (by omega)]
    have hd : Lib.decodeN n b0 b1 b2 b3 = (65533, 1) := by unfold Lib.decodeN; rw [if_neg c1, if_neg (by omega), if_neg (by omega), if_neg (by omega)]
    rw [hd, pick_bad, if_pos (.inl e1)]

theorem gB_drop (s : ByteArray) (pos i : Nat) (h : pos + i < s.size) : gB (s.data.toList.drop pos) i = ((s[pos + i]'h).toNat : Int) := by
  unfold gB
  have e : s.data[pos + i]? = some (s[pos + i]'h) := Array.getElem?_eq_getElem h
  rw [List.getD_eq_getElem?_getD, List.getElem?_drop, Array.getElem?_toList, e]
  rfl

set_option maxRecDepth 100000 in
set_option maxHeartbeats 2000000 in
theorem first_any (s : ByteArray) (pos : Nat) (w : World) (hp : pos < s.size) (hs : s.size ≤ 4398046511104) :
    Calls Tryd.prog 44 #[.string s, .int .i64 pos] w fun e w' => e = .returned (.tuple #[.int .i64 (firstOf (s.data.toList.drop pos)).1, .int .i64 (firstOf (s.data.toList.drop pos)).2]) ∧ w = w' := by
  obtain ⟨l, hl⟩ : ∃ l, l = s.data.toList.drop pos := ⟨_, rfl⟩
  have hll : l.length = s.size - pos := by rw [hl, List.length_drop, ← Lib.size_eq]
  have hb0 := gB_bounds l 0
  have hg0 : gB (s.data.toList.drop pos) 0 = ((s[pos]'hp).toNat : Int) := gB_drop s pos 0 (by omega)
  have hge : ∀ i, (h : pos + i < s.size) → gB l i = ((s[pos + i]'h).toNat : Int) := fun i h => by rw [hl]; exact gB_drop s pos i h
  have hq : ∀ r : Int × Nat, firstOf l = r → ∀ (e : Ending) (w' : World), (e = .returned (.tuple #[.int .i64 r.1, .int .i64 r.2]) ∧ w = w') → (e = .returned (.tuple #[.int .i64 (firstOf l).1, .int .i64 (firstOf l).2]) ∧ w = w') := fun r hr e w' h => by rw [hr]; exact h
  rw [← hl]
  rw [← hl] at hg0
  have HQ := Lib.hid hq
  have c1 := lead_any w (gB l 0) hb0
  have hN4 := leadN_le (gB l 0)
  have hL := leadL_bounds (gB l 0)
  have hV := leadV_bounds hb0
  have hf : ∀ r, firstOf l = r ↔ firstOf l = r := fun _ => Iff.rfl
  unfold firstOf at hf
  obtain ⟨N, hN⟩ : ∃ N, N = leadN (gB l 0) := ⟨_, rfl⟩
  obtain ⟨M, hM⟩ : ∃ M, M = leadL (gB l 0) := ⟨_, rfl⟩
  obtain ⟨V, hVV⟩ : ∃ V, V = leadV (gB l 0) := ⟨_, rfl⟩
  rw [← hN, ← hM, ← hVV] at c1
  rw [← hN] at hN4
  rw [← hM] at hL
  rw [← hVV] at hV
  rw [hg0] at c1
  obtain ⟨hL0, hL1⟩ := hL
  obtain ⟨hV0, hV1⟩ := hV
  have C1 := Lib.hid c1
  have HN := Lib.hid hN
  have HM := Lib.hid hM
  have HV := Lib.hid hVV
  have HG := Lib.hid hge
  have HLL := Lib.hid hll
  have hf0 : (N = 0 ∨ l.length < N) → firstOf l = (0, 0) := fun h => by unfold firstOf; rw [← HN.out, if_pos h]
  have hf1 : ¬ (N = 0 ∨ l.length < N) → contsK l (N - 1) = false → firstOf l = (0, 0) := fun h h1 => by unfold firstOf; rw [← HN.out, if_neg h, if_pos h1]
  have hf2 : ¬ (N = 0 ∨ l.length < N) → contsK l (N - 1) = true → (valK l (N - 1) < M ∨ letterB (valK l (N - 1)) = false) → firstOf l = (0, 0) := fun h h1 h2 => by unfold firstOf; rw [← HN.out, ← HM.out, if_neg h, if_neg (by rw [h1]; decide), if_pos h2]
  have hf3 : ¬ (N = 0 ∨ l.length < N) → contsK l (N - 1) = true → ¬ (valK l (N - 1) < M ∨ letterB (valK l (N - 1)) = false) → firstOf l = (valK l (N - 1), N) := fun h h1 h2 => by unfold firstOf; rw [← HN.out, ← HM.out, if_neg h, if_neg (by rw [h1]; decide), if_neg h2]
  have HF0 := Lib.hid hf0
  have HF1 := Lib.hid hf1
  have HF2 := Lib.hid hf2
  have HF3 := Lib.hid hf3
  clear hl hb0 hg0 hge hq c1 hf hN hM hVV hll hf0 hf1 hf2 hf3
  by_cases h0 : N = 0
  · have HE := Lib.hid (HF0.out (.inl h0))
    subst h0
    go_enter Tryd.func44, Tryd.ntmps44
    go_wp2_with fail
    refine C1.out.mono ?_
    rintro e w' ⟨rfl, rfl⟩
    go_wp2
    go_ret2
    exact HQ.out _ HE.out _ _ ⟨rfl, rfl⟩
  have h0b : ((N : Int) == 0) = false := by rw [beq_eq_false_iff_ne]; omega
  by_cases hlen : s.size < pos + N
  · have HE := Lib.hid (HF0.out (.inr (by rw [HLL.out]; omega)))
    go_enter Tryd.func44, Tryd.ntmps44
    go_wp2_with fail
    refine C1.out.mono ?_
    rintro e w' ⟨rfl, rfl⟩
    go_wp2
    go_ret2
    exact HQ.out _ HE.out _ _ ⟨rfl, rfl⟩
  have HNN : Hid (¬ (N = 0 ∨ l.length < N)) := by show ¬ _; rw [HLL.out]; omega
  have cL := fun w n h => Lib.hid (Letter_any w n h)
  go_enter Tryd.func44, Tryd.ntmps44
  go_wp2_with fail
  refine C1.out.mono ?_
  rintro e w' ⟨rfl, rfl⟩
  clear C1
  go_wp2
  go_loop [7, 9, 10] (fun n i _ => ∃ k : Nat, i = .int .i64 (k + 1 : Nat) ∧ k + 1 ≤ N ∧ Hid (contsK l k = true) ∧ ∃ z : Int, n = .int .i64 z ∧ Hid (z = valK l k)) (fun _ i _ => N - (intOf i).toNat)
  case atStart => exact ⟨0, rfl, by omega, rfl, V, rfl, HV.out⟩
  case round =>
    obtain ⟨k, rfl, hk, HC, z, rfl, HZ⟩ := hrel
    have hzb := valK_bounds l k (by omega) HC.out
    rw [← HZ.out] at hzb
    obtain ⟨hz0, hz1⟩ := hzb
    by_cases hlt : k + 1 < N
    · have hi : pos + (k + 1) < s.size := by omega
      have hx := HG.out (k + 1) hi
      have hxb := gB_bounds l (k + 1)
      obtain ⟨x, hxx⟩ : ∃ x, x = gB l (k + 1) := ⟨_, rfl⟩
      rw [← hxx] at hx hxb
      have HX := Lib.hid hxx
      have hxv : ((s[pos + (k + 1)]'hi).toNat : Int) = x := hx.symm
      have hmc := fun h => contsK_mono l (k := k + 1) h (N - 1) (by omega)
      have hcs : contsK l (k + 1) = (contsK l k && contB (gB l (k + 1))) := rfl
      rw [HC.out, Bool.true_and, ← HX.out] at hcs
      obtain ⟨hx0, hx1⟩ := hxb
      by_cases hb1 : x < 128
      · have HE := Lib.hid (HF1.out HNN.out (hmc (by rw [hcs]; simp [contB]; omega)))
        clear hxx hmc hcs hx
        go_wp2
        go_ret2
        exact HQ.out _ HE.out _ _ ⟨rfl, rfl⟩
      by_cases hb2 : 192 ≤ x
      · have HE := Lib.hid (HF1.out HNN.out (hmc (by rw [hcs]; simp [contB]; omega)))
        clear hxx hmc hcs hx
        go_wp2
        go_ret2
        exact HQ.out _ HE.out _ _ ⟨rfl, rfl⟩
      · have HC' : Hid (contsK l (k + 1) = true) := by show _ = _; rw [hcs, contB_iff]; omega
        have HZ' : Hid (64 * z + x - 128 = valK l (k + 1)) := by show _ = _; rw [valK, ← HX.out, ← HZ.out]
        clear hxx hmc hcs hx
        go_wp2
        go_round
        case rel => exact ⟨k + 1, by go_num, hlt, HC', _, by go_num, HZ'⟩
        case measure => simp [intOf]; omega
    · obtain rfl : N = k + 1 := by omega
      rw [Nat.add_sub_cancel] at HF1 HF2 HF3
      by_cases hm : z < M
      · have HE := Lib.hid (HF2.out HNN.out HC.out (.inl (by rw [← HZ.out]; exact hm)))
        go_wp2
        go_ret2
        exact HQ.out _ HE.out _ _ ⟨rfl, rfl⟩
      · by_cases hlb : letterB z = true
        · have HE := Lib.hid (HF3.out HNN.out HC.out (by rw [← HZ.out, hlb]; simp; omega))
          have c2 := (cL w z (by omega)).out
          rw [hlb] at c2
          have C2 := Lib.hid c2
          clear c2 cL hlb
          go_wp2_with fail
          refine C2.out.mono ?_
          rintro e w' ⟨rfl, rfl⟩
          go_wp2
          go_ret2
          exact HQ.out _ HE.out _ _ ⟨by rw [HZ.out]; rfl, rfl⟩
        · have hlb' : letterB z = false := by simpa using hlb
          have HE := Lib.hid (HF2.out HNN.out HC.out (.inr (by rw [← HZ.out]; exact hlb')))
          have c2 := (cL w z (by omega)).out
          rw [hlb'] at c2
          have C2 := Lib.hid c2
          clear c2 cL hlb hlb'
          go_wp2_with fail
          refine C2.out.mono ?_
          rintro e w' ⟨rfl, rfl⟩
          go_wp2
          go_ret2
          exact HQ.out _ HE.out _ _ ⟨rfl, rfl⟩
end Go.Proofs.YtaggjlobmikagaaDoor
