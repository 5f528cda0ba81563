import Derived.WalkKit
import Derived.Deep.Draws
import Derived.Laws.Rows
import Derived.Laws.OwnMore
import Derived.Lib.RuneBytes
import Derived.Lib.ValidLaws
import Derived.Test.YtangkcedgelegaaDoorRows
import Derived.Laws.CopyOwn
import Derived.Laws.AppendOwnNone
import Derived.Lib.Hide
import Derived.Laws.AppendOwn
import Derived.OwnWalk
import Derived.Lib.OthersKept
import Derived.Laws.BytesArg
import Derived.Shelf.Utf8.AppendRunePlain
import Derived.Shelf.Utf8.RuneCount
import Derived.Shelf.LaysM
import Derived.Shelf.Strconv.Clone
import Derived.Shelf.Unicode.DecodeSlow
import Derived.Shelf.Unicode.DecodeAny
import Derived.Shelf.Slices.Turned
import Derived.Shelf.Unicode.ValidAny
import Derived.Test.YtangkcedgelegaaDoorProg
import Derived.WalkSpells
import Derived.WalkLawsBesides
import Derived.Deep.QuietTactic
import Derived.BigQuiet
import Derived.Laws.Bits64
import Derived.Laws.BitsAllLaws
import Derived.Laws.Tables
import Derived.Laws.NewFold
import Derived.Deep.WholeRow
import Derived.Deep.DeepCutAuto
import Derived.Laws.IdiomStrings
import Derived.Laws.Cover4
import Derived.Lib.RuneCount
import Derived.Lib.IndexLaws
import Derived.OneCell
import Derived.StillTailTactics
import Derived.WalkMore
import Derived.ProofKit
import Derived.OpenShut
import Derived.ShutString
import Derived.SizedLaws
import Derived.ChangeOld
import Derived.Deep.RegionLaw
import Derived.Deep.Strs
import Derived.Lib.Join
import Derived.Lib.AppendZeros
import Derived.Deep.RegionWith
import Derived.Great.Walk
import Derived.Deep.Slices
import Derived.Deep.CutBlock
import Derived.Deep.MidRow
import Derived.Lib.SliceRun
import Derived.Maps.AppendAt
import Derived.Lib.Overlaps
import Derived.OrdersHeld
import Derived.Laws.StructEq
import Derived.ChangeKeysEq
import Derived.Test.YtangkcedgelegaaDoorWAC
namespace Go.Proofs.YtangkcedgelegaaDoor
set_option linter.all false
open Go.RowKit Go.Lib
set_option linter.unusedVariables false
/-- is one there that it is ahead of -/
def dDone (L : List DItem) (s : ByteArray) : Bool := L.any fun y => ahd s y.1
section
variable {L : List DItem} {s t u : ByteArray} {n : Int} {x y : DItem}
theorem dPut_end (h : dDone L s = false) : dPut L s n = L ++ [(s, n)] := by
  induction L with
  | nil => rfl
  | cons z r ih =>
    unfold dDone at h
    rw [List.any_cons, Bool.or_eq_false_iff] at h
    unfold dPut
    rw [if_neg (by rw [h.1]; decide), ih h.2]
    rfl
theorem dPut_done {z : DItem} (h : dDone L s = true) : dPut (L ++ [z]) s n = dPut L s n ++ [z] := by
  induction L with
  | nil => cases h
  | cons x r ih =>
    show dPut (x :: (r ++ [z])) s n = _
    unfold dPut
    by_cases hx : ahd s x.1 = true
    · rw [if_pos hx, if_pos hx]
      rfl
    · rw [if_neg hx, if_neg hx, ih (by unfold dDone at h ⊢; rw [List.any_cons] at h; simpa [hx] using h)]
      rfl
theorem dPut_here {z : DItem} (h : dDone L s = false) (hz : ahd s z.1 = true) : dPut (L ++ [z]) s n = L ++ [(s, n), z] := by
  induction L with
  | nil =>
    show dPut [z] s n = _
    unfold dPut
    rw [if_pos hz]
    rfl
  | cons x r ih =>
    unfold dDone at h
    rw [List.any_cons, Bool.or_eq_false_iff] at h
    show dPut (x :: (r ++ [z])) s n = _
    unfold dPut
    rw [if_neg (by rw [h.1]; decide), ih h.2]
    rfl
theorem dDone_snoc {z : DItem} : dDone (L ++ [z]) s = (dDone L s || ahd s z.1) := by
  unfold dDone
  rw [List.any_append]
  simp
theorem dRem_le : (dRem L s).length ≤ L.length := by
  unfold dRem
  split
  · exact (List.eraseIdx_sublist _ _).length_le
  · exact Nat.le_refl _
theorem dAdd_le : (dAdd L s n).length ≤ L.length + 1 := by
  unfold dAdd
  split
  · rw [dPut_len]; exact Nat.le_refl _
  · omega
theorem dRen_le : (dRen L s t).length ≤ L.length + 1 := by
  unfold dRen
  split
  · exact Nat.le_trans dAdd_le (by have := dRem_le (L := L) (s := s); omega)
  · omega
end
end Go.Proofs.YtangkcedgelegaaDoor

namespace Go.Proofs.YtangkcedgelegaaDoor
set_option linter.all false
open Go.Lib
/-! ### alike, by letters -/

/-- the document's order of two rows of letters -/
def ordL : List Int → List Int → Int
  | [], [] => 0
  | [], y :: ys => -((y :: ys).length : Int)
  | x :: xs, [] => ((x :: xs).length : Int)
  | x :: xs, y :: ys => if foldR x = foldR y then ordL xs ys else foldR x - foldR y
theorem ordL_zero (xs ys : List Int) : ordL xs ys = 0 ↔ xs.map foldR = ys.map foldR := by
  induction xs generalizing ys with
  | nil => cases ys with
    | nil => simp [ordL]
    | cons y ys => simp [ordL]; omega
  | cons x xs ih => cases ys with
    | nil => simp [ordL]; omega
    | cons y ys =>
      unfold ordL
      split
      · rename_i h
        rw [ih, List.map_cons, List.map_cons, h]
        simp
      · rename_i h
        constructor
        · intro h2; omega
        · intro h2
          rw [List.map_cons, List.map_cons] at h2
          exact absurd (List.cons.inj h2).1 h
end Go.Proofs.YtangkcedgelegaaDoor

namespace Go.Proofs.YtangkcedgelegaaDoor
set_option linter.all false
open Go.RowKit Go.ChangeShapes Go.WideShapes
section
variable {H : Type} {enc : TypeId × Value → H} {P : Program} {W : World} {base : Nat} {t e : TypeId} {v : Value} {d : DataW H} {p : List MemPlace}
theorem bulk_one_le (d : DataW H) : 1 ≤ Rows.uptoBulk d := by
  cases d with
  | lit l => cases l <;> simp [Rows.uptoBulk]
  | nil => simp [Rows.uptoBulk]
  | ptr d => simp [Rows.uptoBulk]
  | slice elems spare => simp [Rows.uptoBulk]
  | agg parts => simp [Rows.uptoBulk]
  | iface t d => simp [Rows.uptoBulk]
  | map entries => simp [Rows.uptoBulk]
  | held h => simp [Rows.uptoBulk]
theorem bulk_length_le (l : List (DataW H)) : l.length ≤ Rows.uptoBulkAll l := by
  induction l with
  | nil => simp [Rows.uptoBulkAll]
  | cons x r ih => have := bulk_one_le x; simp only [Rows.uptoBulkAll, List.length_cons]; omega
end
end Go.Proofs.YtangkcedgelegaaDoor

namespace Go.Proofs.YtangkcedgelegaaDoor
set_option linter.all false
open Go.RowKit
def letterB (n : Int) : Bool := decide (0 ≤ n) && decide (n ≤ 1114111) && (decide (n < 55296) || decide (57343 < n))
set_option maxHeartbeats 400000 in
theorem Letter_any (w : World) (n : Int) (_hn : -9223372036854775808 ≤ n ∧ n ≤ 9223372036854775807) :
    Calls Tryd.prog 80 #[.int .i64 n] w fun e w' => e = .returned (.bool (letterB n)) ∧ w = w' := by
  by_cases h1 : 0 ≤ n
  · by_cases h2 : n ≤ 1114111
    · by_cases h3 : n < 55296
      · have e : letterB n = true := by simp [letterB, h1, h2, h3]
        rw [e]
        clear e
        go_enter Tryd.func80, Tryd.ntmps80
        go_wp2
        go_ret
        exact ⟨rfl, rfl⟩
      · by_cases h4 : 57343 < n
        · have e : letterB n = true := by simp [letterB, h1, h2, h4]
          rw [e]
          clear e
          go_enter Tryd.func80, Tryd.ntmps80
          go_wp2
          go_ret
          exact ⟨rfl, rfl⟩
        · have e : letterB n = false := by simp [letterB, h3, h4]
          rw [e]
          clear e
          go_enter Tryd.func80, Tryd.ntmps80
          go_wp2
          go_ret
          exact ⟨rfl, rfl⟩
    · have e : letterB n = false := by simp [letterB, h2]
      rw [e]
      clear e
      go_enter Tryd.func80, Tryd.ntmps80
      go_wp2
      go_ret
      exact ⟨rfl, rfl⟩
  · have e : letterB n = false := by simp [letterB, h1]
    rw [e]
    clear e
    go_enter Tryd.func80, Tryd.ntmps80
    go_wp2
    go_ret
    exact ⟨rfl, rfl⟩
/-- what a first byte says: how many bytes; the number's beginning; the least number -/
def leadN (b : Int) : Nat := if b < 128 then 1 else if b < 192 then 0 else if b < 224 then 2 else if b < 240 then 3 else if b < 248 then 4 else 0
def leadV (b : Int) : Int := if b < 128 then b else if b < 192 then 0 else if b < 224 then b - 192 else if b < 240 then b - 224 else if b < 248 then b - 240 else 0
def leadL (b : Int) : Int := if b < 128 then 0 else if b < 192 then 0 else if b < 224 then 128 else if b < 240 then 2048 else if b < 248 then 65536 else 0
set_option maxHeartbeats 1000000 in
theorem lead_any (w : World) (b : Int) (hb : 0 ≤ b ∧ b ≤ 255) :
    Calls Tryd.prog 79 #[.int .u8 b] w fun e w' => e = .returned (.tuple #[.int .i64 (leadN b), .int .i64 (leadV b), .int .i64 (leadL b)]) ∧ w = w' := by
  obtain ⟨hb0, hb1⟩ := hb
  unfold leadN leadV leadL
  by_cases h1 : b < 128
  · rw [if_pos h1, if_pos h1, if_pos h1]
    go_enter Tryd.func79, Tryd.ntmps79
    go_wp2
    go_ret3
    exact ⟨rfl, rfl⟩
  rw [if_neg h1, if_neg h1, if_neg h1]
  by_cases h2 : b < 192
  · rw [if_pos h2, if_pos h2, if_pos h2]
    go_enter Tryd.func79, Tryd.ntmps79
    go_wp2
    go_ret3
    exact ⟨rfl, rfl⟩
  rw [if_neg h2, if_neg h2, if_neg h2]
  by_cases h3 : b < 224
  · rw [if_pos h3, if_pos h3, if_pos h3]
    go_enter Tryd.func79, Tryd.ntmps79
    go_wp2
    go_ret3
    exact ⟨rfl, rfl⟩
  rw [if_neg h3, if_neg h3, if_neg h3]
  by_cases h4 : b < 240
  · rw [if_pos h4, if_pos h4, if_pos h4]
    go_enter Tryd.func79, Tryd.ntmps79
    go_wp2
    go_ret3
    exact ⟨rfl, rfl⟩
  rw [if_neg h4, if_neg h4, if_neg h4]
  by_cases h5 : b < 248
  · rw [if_pos h5, if_pos h5, if_pos h5]
    go_enter Tryd.func79, Tryd.ntmps79
    go_wp2
    go_ret3
    exact ⟨rfl, rfl⟩
  · rw [if_neg h5, if_neg h5, if_neg h5]
    go_enter Tryd.func79, Tryd.ntmps79
    go_wp2
    go_ret3
    exact ⟨rfl, rfl⟩
def gB (l : List UInt8) (i : Nat) : Int := ((l.getD i 0).toNat : Int)
/-- the number behind k more bytes -/
def valK (l : List UInt8) : Nat → Int
  | 0 => leadV (gB l 0)
  | k + 1 => 64 * valK l k + gB l (k + 1) - 128
def contB (x : Int) : Bool := decide (128 ≤ x) && decide (x < 192)
def contsK (l : List UInt8) : Nat → Bool
  | 0 => true
  | k + 1 => contsK l k && contB (gB l (k + 1))
/-- what first answers -/
def firstOf (l : List UInt8) : Int × Nat :=
  if leadN (gB l 0) = 0 ∨ l.length < leadN (gB l 0) then (0, 0)
  else if contsK l (leadN (gB l 0) - 1) = false then (0, 0)
  else if valK l (leadN (gB l 0) - 1) < leadL (gB l 0) ∨ letterB (valK l (leadN (gB l 0) - 1)) = false then (0, 0)
  else (valK l (leadN (gB l 0) - 1), leadN (gB l 0))
theorem gB_bounds (l : List UInt8) (i : Nat) : 0 ≤ gB l i ∧ gB l i ≤ 255 := by
  have := (l.getD i 0).toNat_lt
  unfold gB
  omega
theorem leadN_le (b : Int) : leadN b ≤ 4 := by
  unfold leadN
  repeat' split
  all_goals omega
theorem leadV_bounds {b : Int} (h : 0 ≤ b ∧ b ≤ 255) : 0 ≤ leadV b ∧ leadV b ≤ 127 := by unfold leadV; repeat' split <;> omega
theorem leadL_bounds (b : Int) : 0 ≤ leadL b ∧ leadL b ≤ 65536 := by unfold leadL; repeat' split <;> omega
theorem contB_iff (x : Int) : contB x = true ↔ 128 ≤ x ∧ x < 192 := by simp [contB]
theorem contsK_mono (l : List UInt8) {k : Nat} (h : contsK l k = false) : ∀ j, k ≤ j → contsK l j = false := by
  intro j hj
  induction j with
  | zero => obtain rfl : k = 0 := by omega
            exact h
  | succ j ih =>
    by_cases e : k = j + 1
    · rw [← e]; exact h
    · rw [contsK, ih (by omega)]; rfl
theorem valK_bounds (l : List UInt8) (k : Nat) (hk : k ≤ 3) (hc : contsK l k = true) : 0 ≤ valK l k ∧ valK l k ≤ 67108864 := by
  have h0 := leadV_bounds (gB_bounds l 0)
  have hcase : k = 0 ∨ k = 1 ∨ k = 2 ∨ k = 3 := by omega
  rcases hcase with rfl | rfl | rfl | rfl
  · simp only [valK]; omega
  · simp only [contsK, Bool.and_eq_true, contB_iff, true_and] at hc
    simp only [valK]; omega
  · simp only [contsK, Bool.and_eq_true, contB_iff, true_and] at hc
    simp only [valK]; omega
  · simp only [contsK, Bool.and_eq_true, contB_iff, true_and] at hc
    simp only [valK]; omega
theorem letterB_iff (n : Int) : letterB n = true ↔ IsLetter n := by
  unfold letterB IsLetter
  simp only [Bool.and_eq_true, Bool.or_eq_true, decide_eq_true_eq]
  omega
theorem letterB_false (n : Int) : letterB n = false ↔ ¬ IsLetter n := by rw [← letterB_iff]; simp
def pick (d : Nat × Nat) : Int × Nat := if d.1 = 65533 ∧ d.2 = 1 then (0, 0) else ((d.1 : Int), d.2)
theorem pick_bad : pick (65533, 1) = (0, 0) := rfl
theorem pick_ok (x w : Nat) (h : ¬ (x = 65533 ∧ w = 1)) : pick (x, w) = ((x : Int), w) := if_neg h
theorem pick_head (l : List UInt8) : (if (Lib.decodeL l).1 = 65533 ∧ (Lib.decodeL l).2 = 1 then ((0 : Int), 0) else (headOf l, (Lib.decodeL l).2)) = pick (Lib.decodeL l) := by
  unfold pick
  by_cases c : (Lib.decodeL l).1 = 65533 ∧ (Lib.decodeL l).2 = 1
  · rw [if_pos c, if_pos c]
  · rw [if_neg c, if_neg c]
    unfold headOf
    rw [if_neg c]
set_option maxRecDepth 100000 in
theorem first_decode (l : List UInt8) (hne : l ≠ []) :
    firstOf l = if (Lib.decodeL l).1 = 65533 ∧ (Lib.decodeL l).2 = 1 then (0, 0) else (headOf l, (Lib.decodeL l).2) := by
  have hl : 0 < l.length := List.length_pos_iff.2 hne
  have k0 := (l.getD 0 0).toNat_lt
  have k1 := (l.getD 1 0).toNat_lt
  have k2 := (l.getD 2 0).toNat_lt
  have k3 := (l.getD 3 0).toNat_lt
  rw [pick_head, Lib.decodeL_N]
  have g0 : gB l 0 = ((l.getD 0 0).toNat : Int) := rfl
  have g1 : gB l 1 = ((l.getD 1 0).toNat : Int) := rfl
  have g2 : gB l 2 = ((l.getD 2 0).toNat : Int) := rfl
  have g3 : gB l 3 = ((l.getD 3 0).toNat : Int) := rfl
  unfold firstOf
  generalize (l.getD 0 0).toNat = b0 at *
  generalize (l.getD 1 0).toNat = b1 at *
  generalize (l.getD 2 0).toNat = b2 at *
  generalize (l.getD 3 0).toNat = b3 at *
  generalize l.length = n at *
  by_cases c1 : b0 < 128
  · have e1 : leadN (gB l 0) = 1 := by rw [g0]; unfold leadN; rw [if_pos (by omega)]
    have e2 : leadL (gB l 0) = 0 := by rw [g0]; unfold leadL; rw [if_pos (by omega)]
    have e3 : valK l 0 = b0 := by rw [valK, g0]; unfold leadV; rw [if_pos (by omega)]
    have e4 : letterB (b0 : Int) = true := by rw [letterB_iff]; exact ⟨by omega, by omega, by omega⟩
    rw [Lib.decodeN_ascii _ _ _ _ _ c1, pick_ok _ _ (by omega), e1, e2, Nat.sub_self, if_neg (by omega), contsK, if_neg (by decide), e3, e4, if_neg (by simp)]
  by_cases c2 : b0 < 192
  · have e1 : leadN (gB l 0) = 0 := by rw [g0]; unfold leadN; rw [if_neg (by omega), if_pos (by omega)]
    have hd : Lib.decodeN n b0 b1 b2 b3 = (65533, 1) := by unfold Lib.decodeN; rw [if_neg c1, if_neg (by omega), if_neg (by omega), if_neg (by omega)]
    rw [hd, pick_bad, if_pos (.inl e1)]
  by_cases c3 : b0 < 224
  · have e1 : leadN (gB l 0) = 2 := by rw [g0]; unfold leadN; rw [if_neg (by omega), if_neg (by omega), if_pos (by omega)]
    have e2 : leadL (gB l 0) = 128 := by rw [g0]; unfold leadL; rw [if_neg (by omega), if_neg (by omega), if_pos (by omega)]
    have e3 : valK l 1 = 64 * (b0 - 192) + b1 - 128 := by rw [valK, valK, g0, g1]; unfold leadV; rw [if_neg (by omega), if_neg (by omega), if_pos (by omega)]
    have e4 : contsK l 1 = contB (gB l 1) := by rw [contsK, contsK, Bool.true_and]
    by_cases d1 : 1 < n ∧ b1 / 64 = 2
    · have f1 : contB (b1 : Int) = true := by rw [contB_iff]; omega
      by_cases d2 : b0 % 32 * 64 + b1 % 64 ≥ 128
      · have hd : Lib.decodeN n b0 b1 b2 b3 = (b0 % 32 * 64 + b1 % 64, 2) := by unfold Lib.decodeN; rw [if_neg c1, if_pos ⟨by omega, d1⟩, if_pos d2]
        have e5 : letterB (64 * ((b0 : Int) - 192) + b1 - 128) = true := by rw [letterB_iff]; exact ⟨by omega, by omega, by omega⟩
        rw [hd, pick_ok _ _ (by omega), e1, e2, show 2 - 1 = 1 from rfl, e3, e4, g1, f1, e5, if_neg (by omega), if_neg (by decide), if_neg (by simp; omega)]
        exact Prod.ext (by dsimp only; omega) rfl
      · have hd : Lib.decodeN n b0 b1 b2 b3 = (65533, 1) := by unfold Lib.decodeN; rw [if_neg c1, if_pos ⟨by omega, d1⟩, if_neg d2]
        rw [hd, pick_bad, e1, e2, show 2 - 1 = 1 from rfl, e3, e4, g1, f1, if_neg (by omega), if_neg (by decide), if_pos (.inl (by omega))]
    · have hd : Lib.decodeN n b0 b1 b2 b3 = (65533, 1) := by unfold Lib.decodeN; rw [if_neg c1, if_neg (fun h => d1 h.2), if_neg (by omega), if_neg (by omega)]
      rw [hd, pick_bad, e1, show 2 - 1 = 1 from rfl, e4, g1]
      by_cases d2 : n < 2
      · rw [if_pos (.inr d2)]
      · have f1 : contB (b1 : Int) = false := by rw [Bool.eq_false_iff, Ne, contB_iff]; omega
        rw [if_neg (by omega), f1, if_pos rfl]
  by_cases c4 : b0 < 240
  · have e1 : leadN (gB l 0) = 3 := by rw [g0]; unfold leadN; rw [if_neg (by omega), if_neg (by omega), if_neg (by omega), if_pos (by omega)]
    have e2 : leadL (gB l 0) = 2048 := by rw [g0]; unfold leadL; rw [if_neg (by omega), if_neg (by omega), if_neg (by omega), if_pos (by omega)]
    have e3 : valK l 2 = 64 * (64 * (b0 - 224) + b1 - 128) + b2 - 128 := by rw [valK, valK, valK, g0, g1, g2]; unfold leadV; rw [if_neg (by omega), if_neg (by omega), if_neg (by omega), if_pos (by omega)]
    have e4 : contsK l 2 = (contB (gB l 1) && contB (gB l 2)) := by rw [contsK, contsK, contsK, Bool.true_and]
    by_cases d1 : (1 < n ∧ b1 / 64 = 2) ∧ (2 < n ∧ b2 / 64 = 2)
    · have f1 : contB (b1 : Int) = true := by rw [contB_iff]; omega
      have f2 : contB (b2 : Int) = true := by rw [contB_iff]; omega
      by_cases d2 : b0 % 16 * 4096 + b1 % 64 * 64 + b2 % 64 ≥ 2048 ∧ (b0 % 16 * 4096 + b1 % 64 * 64 + b2 % 64 < 55296 ∨ (57344 ≤ b0 % 16 * 4096 + b1 % 64 * 64 + b2 % 64 ∧ b0 % 16 * 4096 + b1 % 64 * 64 + b2 % 64 ≤ 1114111))
      · have hd : Lib.decodeN n b0 b1 b2 b3 = (b0 % 16 * 4096 + b1 % 64 * 64 + b2 % 64, 3) := by unfold Lib.decodeN; rw [if_neg c1, if_neg (by omega), if_pos ⟨by omega, d1⟩, if_pos d2]
        have e5 : letterB (64 * (64 * ((b0 : Int) - 224) + b1 - 128) + b2 - 128) = true := by rw [letterB_iff]; exact ⟨by omega, by omega, by omega⟩
        rw [hd, pick_ok _ _ (by omega), e1, e2, show 3 - 1 = 2 from rfl, e3, e4, g1, g2, f1, f2, e5, if_neg (by omega), if_neg (by decide), if_neg (by simp; omega)]
        exact Prod.ext (by dsimp only; omega) rfl
      · have hd : Lib.decodeN n b0 b1 b2 b3 = (65533, 1) := by unfold Lib.decodeN; rw [if_neg c1, if_neg (by omega), if_pos ⟨by omega, d1⟩, if_neg d2]
        rw [hd, pick_bad, e1, e2, show 3 - 1 = 2 from rfl, e3, e4, g1, g2, f1, f2, if_neg (by omega), if_neg (by decide), if_pos]
        rw [letterB_false]
        unfold IsLetter
        omega
    · have hd : Lib.decodeN n b0 b1 b2 b3 = (65533, 1) := by unfold Lib.decodeN; rw [if_neg c1, if_neg (by omega), if_neg (fun h => d1 h.2), if_neg (by omega)]
      rw [hd, pick_bad, e1, show 3 - 1 = 2 from rfl, e4, g1, g2]
      by_cases d2 : n < 3
      · rw [if_pos (.inr d2)]
      · have f1 : (contB (b1 : Int) && contB (b2 : Int)) = false := by rw [Bool.eq_false_iff, Ne, Bool.and_eq_true, contB_iff, contB_iff]; omega
        rw [if_neg (by omega), f1, if_pos rfl]
  by_cases c5 : b0 < 248
  · have e1 : leadN (gB l 0) = 4 := by rw [g0]; unfold leadN; rw [if_neg (by omega), if_neg (by omega), if_neg (by omega), if_neg (by omega), if_pos (by omega)]
    have e2 : leadL (gB l 0) = 65536 := by rw [g0]; unfold leadL; rw [if_neg (by omega), if_neg (by omega), if_neg (by omega), if_neg (by omega), if_pos (by omega)]
    have e3 : valK l 3 = 64 * (64 * (64 * (b0 - 240) + b1 - 128) + b2 - 128) + b3 - 128 := by rw [valK, valK, valK, valK, g0, g1, g2, g3]; unfold leadV; rw [if_neg (by omega), if_neg (by omega), if_neg (by omega), if_neg (by omega), if_pos (by omega)]
    have e4 : contsK l 3 = (contB (gB l 1) && contB (gB l 2) && contB (gB l 3)) := by rw [contsK, contsK, contsK, contsK, Bool.true_and]
    by_cases d1 : (1 < n ∧ b1 / 64 = 2) ∧ (2 < n ∧ b2 / 64 = 2) ∧ (3 < n ∧ b3 / 64 = 2)
    · have f1 : contB (b1 : Int) = true := by rw [contB_iff]; omega
      have f2 : contB (b2 : Int) = true := by rw [contB_iff]; omega
      have f3 : contB (b3 : Int) = true := by rw [contB_iff]; omega
      by_cases d2 : b0 % 8 * 262144 + b1 % 64 * 4096 + b2 % 64 * 64 + b3 % 64 ≥ 65536 ∧ (b0 % 8 * 262144 + b1 % 64 * 4096 + b2 % 64 * 64 + b3 % 64 < 55296 ∨ (57344 ≤ b0 % 8 * 262144 + b1 % 64 * 4096 + b2 % 64 * 64 + b3 % 64 ∧ b0 % 8 * 262144 + b1 % 64 * 4096 + b2 % 64 * 64 + b3 % 64 ≤ 1114111))
      · have hd : Lib.decodeN n b0 b1 b2 b3 = (b0 % 8 * 262144 + b1 % 64 * 4096 + b2 % 64 * 64 + b3 % 64, 4) := by unfold Lib.decodeN; rw [if_neg c1, if_neg (by omega), if_neg (by omega), if_pos ⟨by omega, d1⟩, if_pos d2]
        have e5 : letterB (64 * (64 * (64 * ((b0 : Int) - 240) + b1 - 128) + b2 - 128) + b3 - 128) = true := by rw [letterB_iff]; exact ⟨by omega, by omega, by omega⟩
        rw [hd, pick_ok _ _ (by omega), e1, e2, show 4 - 1 = 3 from rfl, e3, e4, g1, g2, g3, f1, f2, f3, e5, if_neg (by omega), if_neg (by decide), if_neg (by simp; omega)]
        exact Prod.ext (by dsimp only; omega) rfl
      · have hd : Lib.decodeN n b0 b1 b2 b3 = (65533, 1) := by unfold Lib.decodeN; rw [if_neg c1, if_neg (by omega), if_neg (by omega), if_pos ⟨by omega, d1⟩, if_neg d2]
        rw [hd, pick_bad, e1, e2, show 4 - 1 = 3 from rfl, e3, e4, g1, g2, g3, f1, f2, f3, if_neg (by omega), if_neg (by decide), if_pos]
        rw [letterB_false]
        unfold IsLetter
        omega
    · have hd : Lib.decodeN n b0 b1 b2 b3 = (65533, 1) := by unfold Lib.decodeN; rw [if_neg c1, if_neg (by omega), if_neg (by omega), if_neg (fun h => d1 h.2)]
      rw [hd, pick_bad, e1, show 4 - 1 = 3 from rfl, e4, g1, g2, g3]
      by_cases d2 : n < 4
      · rw [if_pos (.inr d2)]
      · have f1 : (contB (b1 : Int) && contB (b2 : Int) && contB (b3 : Int)) = false := by rw [Bool.eq_false_iff, Ne, Bool.and_eq_true, Bool.and_eq_true, contB_iff, contB_iff, contB_iff]; omega
        rw [if_neg (by omega), f1, if_pos rfl]
  · have e1 : leadN (gB l 0) = 0 := by rw [g0]; unfold leadN; rw [if_neg (by omega), if_neg (by omega), if_neg (by omega), if_neg (by omega), if_neg (by omega)]
    have hd : Lib.decodeN n b0 b1 b2 b3 = (65533, 1) := by unfold Lib.decodeN; rw [if_neg c1, if_neg (by omega), if_neg (by omega), if_neg (by omega)]
    rw [hd, pick_bad, if_pos (.inl e1)]
theorem gB_drop (s : ByteArray) (pos i : Nat) (h : pos + i < s.size) : gB (s.data.toList.drop pos) i = ((s[pos + i]'h).toNat : Int) := by
  unfold gB
  have e : s.data[pos + i]? = some (s[pos + i]'h) := Array.getElem?_eq_getElem h
  rw [List.getD_eq_getElem?_getD, List.getElem?_drop, Array.getElem?_toList, e]
  rfl
set_option maxRecDepth 100000 in
set_option maxHeartbeats 2000000 in
theorem first_any (s : ByteArray) (pos : Nat) (w : World) (hp : pos < s.size) (hs : s.size ≤ 4398046511104) :
    Calls Tryd.prog 68 #[.string s, .int .i64 pos] w fun e w' => e = .returned (.tuple #[.int .i64 (firstOf (s.data.toList.drop pos)).1, .int .i64 (firstOf (s.data.toList.drop pos)).2]) ∧ w = w' := by
  obtain ⟨l, hl⟩ : ∃ l, l = s.data.toList.drop pos := ⟨_, rfl⟩
  have hll : l.length = s.size - pos := by rw [hl, List.length_drop, ← Lib.size_eq]
  have hb0 := gB_bounds l 0
  have hg0 : gB (s.data.toList.drop pos) 0 = ((s[pos]'hp).toNat : Int) := gB_drop s pos 0 (by omega)
  have hge : ∀ i, (h : pos + i < s.size) → gB l i = ((s[pos + i]'h).toNat : Int) := fun i h => by rw [hl]; exact gB_drop s pos i h
  have hq : ∀ r : Int × Nat, firstOf l = r → ∀ (e : Ending) (w' : World), (e = .returned (.tuple #[.int .i64 r.1, .int .i64 r.2]) ∧ w = w') → (e = .returned (.tuple #[.int .i64 (firstOf l).1, .int .i64 (firstOf l).2]) ∧ w = w') := fun r hr e w' h => by rw [hr]; exact h
  rw [← hl]
  rw [← hl] at hg0
  have HQ := Lib.hid hq
  have c1 := lead_any w (gB l 0) hb0
  have hN4 := leadN_le (gB l 0)
  have hL := leadL_bounds (gB l 0)
  have hV := leadV_bounds hb0
  have hf : ∀ r, firstOf l = r ↔ firstOf l = r := fun _ => Iff.rfl
  unfold firstOf at hf
  obtain ⟨N, hN⟩ : ∃ N, N = leadN (gB l 0) := ⟨_, rfl⟩
  obtain ⟨M, hM⟩ : ∃ M, M = leadL (gB l 0) := ⟨_, rfl⟩
  obtain ⟨V, hVV⟩ : ∃ V, V = leadV (gB l 0) := ⟨_, rfl⟩
  rw [← hN, ← hM, ← hVV] at c1
  rw [← hN] at hN4
  rw [← hM] at hL
  rw [← hVV] at hV
  rw [hg0] at c1
  obtain ⟨hL0, hL1⟩ := hL
  obtain ⟨hV0, hV1⟩ := hV
  have C1 := Lib.hid c1
  have HN := Lib.hid hN
  have HM := Lib.hid hM
  have HV := Lib.hid hVV
  have HG := Lib.hid hge
  have HLL := Lib.hid hll
  have hf0 : (N = 0 ∨ l.length < N) → firstOf l = (0, 0) := fun h => by unfold firstOf; rw [← HN.out, if_pos h]
  have hf1 : ¬ (N = 0 ∨ l.length < N) → contsK l (N - 1) = false → firstOf l = (0, 0) := fun h h1 => by unfold firstOf; rw [← HN.out, if_neg h, if_pos h1]
  have hf2 : ¬ (N = 0 ∨ l.length < N) → contsK l (N - 1) = true → (valK l (N - 1) < M ∨ letterB (valK l (N - 1)) = false) → firstOf l = (0, 0) := fun h h1 h2 => by unfold firstOf; rw [← HN.out, ← HM.out, if_neg h, if_neg (by rw [h1]; decide), if_pos h2]
  have hf3 : ¬ (N = 0 ∨ l.length < N) → contsK l (N - 1) = true → ¬ (valK l (N - 1) < M ∨ letterB (valK l (N - 1)) = false) → firstOf l = (valK l (N - 1), N) := fun h h1 h2 => by unfold firstOf; rw [← HN.out, ← HM.out, if_neg h, if_neg (by rw [h1]; decide), if_neg h2]
  have HF0 := Lib.hid hf0
  have HF1 := Lib.hid hf1
  have HF2 := Lib.hid hf2
  have HF3 := Lib.hid hf3
  clear hl hb0 hg0 hge hq c1 hf hN hM hVV hll hf0 hf1 hf2 hf3
  by_cases h0 : N = 0
  · have HE := Lib.hid (HF0.out (.inl h0))
    subst h0
    go_enter Tryd.func68, Tryd.ntmps68
    go_wp2_with fail
    refine C1.out.mono ?_
    rintro e w' ⟨rfl, rfl⟩
    go_wp2
    go_ret2
    exact HQ.out _ HE.out _ _ ⟨rfl, rfl⟩
  have h0b : ((N : Int) == 0) = false := by rw [beq_eq_false_iff_ne]; omega
  by_cases hlen : s.size < pos + N
  · have HE := Lib.hid (HF0.out (.inr (by rw [HLL.out]; omega)))
    go_enter Tryd.func68, Tryd.ntmps68
    go_wp2_with fail
    refine C1.out.mono ?_
    rintro e w' ⟨rfl, rfl⟩
    go_wp2
    go_ret2
    exact HQ.out _ HE.out _ _ ⟨rfl, rfl⟩
  have HNN : Hid (¬ (N = 0 ∨ l.length < N)) := by show ¬ _; rw [HLL.out]; omega
  have cL := fun w n h => Lib.hid (Letter_any w n h)
  go_enter Tryd.func68, Tryd.ntmps68
  go_wp2_with fail
  refine C1.out.mono ?_
  rintro e w' ⟨rfl, rfl⟩
  clear C1
  go_wp2
  go_loop [7, 9, 10] (fun n i _ => ∃ k : Nat, i = .int .i64 (k + 1 : Nat) ∧ k + 1 ≤ N ∧ Hid (contsK l k = true) ∧ ∃ z : Int, n = .int .i64 z ∧ Hid (z = valK l k)) (fun _ i _ => N - (intOf i).toNat)
  case atStart => exact ⟨0, rfl, by omega, rfl, V, rfl, HV.out⟩
  case round =>
    obtain ⟨k, rfl, hk, HC, z, rfl, HZ⟩ := hrel
    have hzb := valK_bounds l k (by omega) HC.out
    rw [← HZ.out] at hzb
    obtain ⟨hz0, hz1⟩ := hzb
    by_cases hlt : k + 1 < N
    · have hi : pos + (k + 1) < s.size := by omega
      have hx := HG.out (k + 1) hi
      have hxb := gB_bounds l (k + 1)
      obtain ⟨x, hxx⟩ : ∃ x, x = gB l (k + 1) := ⟨_, rfl⟩
      rw [← hxx] at hx hxb
      have HX := Lib.hid hxx
      have hxv : ((s[pos + (k + 1)]'hi).toNat : Int) = x := hx.symm
      have hmc := fun h => contsK_mono l (k := k + 1) h (N - 1) (by omega)
      have hcs : contsK l (k + 1) = (contsK l k && contB (gB l (k + 1))) := rfl
      rw [HC.out, Bool.true_and, ← HX.out] at hcs
      obtain ⟨hx0, hx1⟩ := hxb
      by_cases hb1 : x < 128
      · have HE := Lib.hid (HF1.out HNN.out (hmc (by rw [hcs]; simp [contB]; omega)))
        clear hxx hmc hcs hx
        go_wp2
        go_ret2
        exact HQ.out _ HE.out _ _ ⟨rfl, rfl⟩
      by_cases hb2 : 192 ≤ x
      · have HE := Lib.hid (HF1.out HNN.out (hmc (by rw [hcs]; simp [contB]; omega)))
        clear hxx hmc hcs hx
        go_wp2
        go_ret2
        exact HQ.out _ HE.out _ _ ⟨rfl, rfl⟩
      · have HC' : Hid (contsK l (k + 1) = true) := by show _ = _; rw [hcs, contB_iff]; omega
        have HZ' : Hid (64 * z + x - 128 = valK l (k + 1)) := by show _ = _; rw [valK, ← HX.out, ← HZ.out]
        clear hxx hmc hcs hx
        go_wp2
        go_round
        case rel => exact ⟨k + 1, by go_num, hlt, HC', _, by go_num, HZ'⟩
        case measure => simp [intOf]; omega
    · obtain rfl : N = k + 1 := by omega
      rw [Nat.add_sub_cancel] at HF1 HF2 HF3
      by_cases hm : z < M
      · have HE := Lib.hid (HF2.out HNN.out HC.out (.inl (by rw [← HZ.out]; exact hm)))
        go_wp2
        go_ret2
        exact HQ.out _ HE.out _ _ ⟨rfl, rfl⟩
      · by_cases hlb : letterB z = true
        · have HE := Lib.hid (HF3.out HNN.out HC.out (by rw [← HZ.out, hlb]; simp; omega))
          have c2 := (cL w z (by omega)).out
          rw [hlb] at c2
          have C2 := Lib.hid c2
          clear c2 cL hlb
          go_wp2_with fail
          refine C2.out.mono ?_
          rintro e w' ⟨rfl, rfl⟩
          go_wp2
          go_ret2
          exact HQ.out _ HE.out _ _ ⟨by rw [HZ.out]; rfl, rfl⟩
        · have hlb' : letterB z = false := by simpa using hlb
          have HE := Lib.hid (HF2.out HNN.out HC.out (.inr (by rw [← HZ.out]; exact hlb')))
          have c2 := (cL w z (by omega)).out
          rw [hlb'] at c2
          have C2 := Lib.hid c2
          clear c2 cL hlb hlb'
          go_wp2_with fail
          refine C2.out.mono ?_
          rintro e w' ⟨rfl, rfl⟩
          go_wp2
          go_ret2
          exact HQ.out _ HE.out _ _ ⟨rfl, rfl⟩
end Go.Proofs.YtangkcedgelegaaDoor

namespace Go.Proofs.YtangkcedgelegaaDoor
set_option linter.all false
open Go.RowKit
/-- what Letters answers -/
def LettersPost (w : World) (l : List UInt8) (e : Ending) (w' : World) : Prop :=
  ∃ v, e = .returned (.tuple #[v, .bool (isText l)]) ∧ OwnK .i64 3 w' w.heap.size v (letters l) ∧ Below w.heap.size w w'
set_option maxRecDepth 100000 in
set_option maxHeartbeats 2000000 in
theorem Letters_any (s : ByteArray) (w : World) (hs : s.size ≤ 4398046511104) :
    Calls Tryd.prog 53 #[.string s] w (LettersPost w s.data.toList) := by
  have hq : ∀ b, isText s.data.toList = b → ∀ (e : Ending) (w' : World), (∃ v, e = .returned (.tuple #[v, .bool b]) ∧ OwnK .i64 3 w' w.heap.size v (letters s.data.toList) ∧ Below w.heap.size w w') → LettersPost w s.data.toList e w' := fun b hb e w' h => by
    unfold LettersPost
    rw [hb]
    exact h
  have HQ := Lib.hid hq
  have HS := Lib.hid (Lib.size_eq s)
  clear hq
  go_enter Tryd.func53, Tryd.ntmps53
  go_wp2
  go_loopw [4, 5, 6, 7, 8] (fun v b i _ _ wr => ∃ (pos : Nat) (zs : List Int) (t : Bool), i = .int .i64 pos ∧ b = .bool t ∧ Hid (OwnK .i64 3 wr w.heap.size v zs) ∧ Below w.heap.size w wr ∧ Hid (zs ++ letters (s.data.toList.drop pos) = letters s.data.toList) ∧ Hid ((t && isText (s.data.toList.drop pos)) = isText s.data.toList) ∧ zs.length ≤ pos ∧ pos ≤ s.size) (fun _ _ i _ _ _ => s.size - (intOf i).toNat)
  case atStart =>
    refine ⟨0, [], true, rfl, rfl, OwnK.nil _ _ _ _, Below.refl _ _, ?_, ?_, by simp, by omega⟩
    · show _ = _; rw [List.drop_zero, List.nil_append]
    · show _ = _; rw [List.drop_zero, Bool.true_and]
  case round =>
    obtain ⟨pos, zs, t, rfl, rfl, HO, hb, HE, HT, hzl, hps⟩ := hrel
    have hbs := hb.size
    by_cases hp : pos < s.size
    · have hne : s.data.toList.drop pos ≠ [] := by
        intro e
        have := congrArg List.length e
        rw [List.length_drop, ← HS.out] at this
        simp at this
        omega
      obtain ⟨n1, n2, n3⟩ := next_any s pos hp
      have hfd := first_decode _ hne
      have hts := isText_step _ hne
      rw [Lib.decodeL_drop] at hfd hts
      rw [List.drop_drop] at hts
      have c1 := first_any s pos wr hp hs
      have hh := head_at s pos hp
      obtain ⟨h, hh0⟩ : ∃ h, h = headOf (s.data.toList.drop pos) := ⟨_, rfl⟩
      rw [← hh0] at n1 hfd hts hh
      obtain ⟨Z, hZ⟩ : ∃ Z, Z = (Utf8.decode s pos).2 := ⟨_, rfl⟩
      rw [← hZ] at n1 n2 n3 hfd hts hh
      rcases hh with ⟨h1, h2, h3⟩ | ⟨h1, h2, h3⟩
      · rw [if_pos ⟨h1, h2⟩] at hfd
        rw [hfd] at c1
        have C1 := Lib.hid c1
        subst h2
        have HN : Hid (zs ++ [1114112 + ((s[pos]'hp).toNat : Int)] ++ letters (s.data.toList.drop (pos + 1)) = letters s.data.toList) := by
          show _ = _
          rw [← HE.out, n1, h3]
          simp
        have HT' : Hid ((false && isText (s.data.toList.drop (pos + 1))) = isText s.data.toList) := by
          show _ = _
          rw [← HT.out, hts, h3, decide_eq_false (by omega)]
          simp
        have hbyte : 0 ≤ ((s[pos]'hp).toNat : Int) ∧ ((s[pos]'hp).toNat : Int) ≤ 255 := by have := (s[pos]'hp).toNat_lt; omega
        obtain ⟨hy0, hy1⟩ := hbyte
        clear hne hfd hts c1 hh0 hZ n1 h1 h3 HE HT
        go_wp2_with fail
        refine C1.out.mono ?_
        rintro e w' ⟨rfl, rfl⟩
        go_wp2_with (at_builtin; go_loud (refine wpList_append_lit rfl (.tmp 21) (.tmp 27) .i64 77 3 8 Tryd.underlying77 info_i64 rfl w.heap.size _ zs [1114112 + ((s[pos]'hp).toNat : Int)] _ rfl 1 1 rfl rfl rfl HO.out (by omega) (by omega) hbs ?_; intro v5 w5 ho5 hg5))
        have hb5 := hg5.out.below HO.out hbs
        clear hg5
        go_roundw
        case rel => exact ⟨pos + 1, _, false, by go_num, rfl, ho5, hb.trans hb5, HN, HT', by simp; omega, by omega⟩
        case measure => simp [intOf]; omega
      · rw [if_neg h1] at hfd
        rw [hfd] at c1
        have C1 := Lib.hid c1
        have HN : Hid (zs ++ [h] ++ letters (s.data.toList.drop (pos + Z)) = letters s.data.toList) := by
          show _ = _
          rw [← HE.out, n1]
          simp
        have HT' : Hid ((t && isText (s.data.toList.drop (pos + Z))) = isText s.data.toList) := by
          show _ = _
          have := h3.2.1
          rw [← HT.out, hts, h2, decide_eq_true (by omega), Bool.true_and]
        have hZb : ((Z : Int) == 0) = false := by rw [beq_eq_false_iff_ne]; omega
        have hbd : 0 ≤ h ∧ h ≤ 1114111 := by rw [h2]; exact ⟨h3.1, h3.2.1⟩
        obtain ⟨hy0, hy1⟩ := hbd
        clear hne hfd hts c1 hh0 hZ n1 h1 h2 h3 HE HT
        go_wp2_with fail
        refine C1.out.mono ?_
        rintro e w' ⟨rfl, rfl⟩
        go_wp2_with (at_builtin; go_loud (refine wpList_append_lit rfl (.tmp 31) (.tmp 33) .i64 77 3 8 Tryd.underlying77 info_i64 rfl w.heap.size _ zs [h] _ rfl 1 1 rfl rfl rfl HO.out (by omega) (by omega) hbs ?_; intro v5 w5 ho5 hg5))
        have hb5 := hg5.out.below HO.out hbs
        clear hg5
        go_roundw
        case rel => exact ⟨pos + Z, _, t, by go_num, rfl, ho5, hb.trans hb5, HN, HT', by simp; omega, n3⟩
        case measure => simp [intOf]; omega
    · obtain rfl : pos = s.size := by omega
      have HEE : Hid (zs = letters s.data.toList) := by
        have := HE.out
        rw [next_end s _ hp, List.append_nil] at this
        exact this
      have HTT : Hid (isText s.data.toList = t) := by
        show _ = _
        rw [← HT.out, List.drop_of_length_le (by rw [← HS.out]; omega), isText_nil, Bool.and_true]
      clear HE HT
      go_wp2
      go_ret2
      refine HQ.out t HTT.out _ _ ⟨_, rfl, ?_, hb⟩
      rw [← HEE.out]
      exact HO.out
end Go.Proofs.YtangkcedgelegaaDoor

namespace Go.Proofs.YtangkcedgelegaaDoor
set_option linter.all false
open Go.RowKit
/-- a call that leaves the world as it is, as a quiet region wants it -/
theorem quiet_pure {P : Program} {f : FuncId} {args : Array Value} {w : World} {n : Nat} {v : Value}
    (h : ∀ w, Calls P f args w fun e w' => e = .returned v ∧ w = w') : Calls P f args (w.drewN n) fun e w'' => e = .returned v ∧ ∃ m, w'' = w.drewN m :=
  (h _).mono fun _ _ ⟨he, hm⟩ => ⟨he, n, hm.symm⟩
/-! ### fold, Order, Alike -/

set_option maxHeartbeats 400000 in
theorem Rfold_any (r : Int) (w : World) (h0 : 0 ≤ r) (h1 : r ≤ 2000000) :
    Calls Tryd.prog 69 #[.int .i64 r] w fun e w' => e = .returned (.int .i64 (foldR r)) ∧ w = w' := by
  unfold foldR
  by_cases h : 65 ≤ r ∧ r ≤ 90
  · rw [if_pos h]
    obtain ⟨h2, h3⟩ := h
    go_enter Tryd.func69, Tryd.ntmps69
    go_wp2
    go_ret
    exact ⟨rfl, rfl⟩
  · rw [if_neg h]
    have h' : r < 65 ∨ 90 < r := by omega
    clear h
    rcases h' with h | h
    all_goals
      go_enter Tryd.func69, Tryd.ntmps69
      go_wp2
      go_ret
      exact ⟨rfl, rfl⟩
theorem ord_step {xs ys : List Int} {k : Nat} {x y : Int} (hx : xs[k]? = some x) (hy : ys[k]? = some y) : ordL (xs.drop k) (ys.drop k) = if foldR x = foldR y then ordL (xs.drop (k + 1)) (ys.drop (k + 1)) else foldR x - foldR y := by
  obtain ⟨h1, h2⟩ := List.getElem?_eq_some_iff.1 hx
  obtain ⟨h3, h4⟩ := List.getElem?_eq_some_iff.1 hy
  rw [List.drop_eq_getElem_cons h1, List.drop_eq_getElem_cons h3, h2, h4, ordL]
theorem ord_end {xs ys : List Int} {k : Nat} (hk : k ≤ xs.length) (hk2 : k ≤ ys.length) (h : ¬ k < xs.length ∨ ¬ k < ys.length) : ordL (xs.drop k) (ys.drop k) = (xs.length : Int) - (ys.length : Int) := by
  by_cases h1 : k < xs.length
  · rw [List.drop_of_length_le (l := ys) (by omega), List.drop_eq_getElem_cons h1, ordL]
    simp
    omega
  · rw [List.drop_of_length_le (l := xs) (by omega)]
    by_cases h2 : k < ys.length
    · rw [List.drop_eq_getElem_cons h2, ordL]
      simp
      omega
    · rw [List.drop_of_length_le (l := ys) (by omega), ordL]
      omega
theorem foldR_bounds {r : Int} (h0 : 0 ≤ r) (h1 : r ≤ 1114367) : 0 ≤ foldR r ∧ foldR r ≤ 1114367 := by
  unfold foldR
  split <;> omega
theorem ordL_alike (a b : List UInt8) : (ordL (letters a) (letters b) == 0) = alikeOf a b := by
  unfold alikeOf
  rw [Bool.eq_iff_iff, beq_iff_eq, decide_eq_true_eq, ordL_zero]
  constructor
  · intro h
    rw [← folded_enc a, ← folded_enc b]
    unfold foldedOf
    rw [h]
  · intro h
    rw [← letters_low, ← letters_low, h]
set_option maxRecDepth 100000 in
set_option maxHeartbeats 4000000 in
theorem ROrder_any (s t : ByteArray) (w : World) (hs : s.size ≤ 4398046511104) (ht : t.size ≤ 4398046511104) :
    Calls Tryd.prog 54 #[.string s, .string t] w fun e w' => e = .returned (.int .i64 (ordL (letters s.data.toList) (letters t.data.toList))) ∧ Below w.heap.size w w' := by
  have c1 := Letters_any s w hs
  have c2 := fun w => Letters_any t w ht
  unfold LettersPost at c1 c2
  have o1 := letters_one s.data.toList
  have o2 := letters_one t.data.toList
  have hl1 := letters_le s.data.toList
  have hl2 := letters_le t.data.toList
  rw [← Lib.size_eq] at hl1 hl2
  obtain ⟨L, hL⟩ : ∃ L, L = letters s.data.toList := ⟨_, rfl⟩
  obtain ⟨M, hM⟩ : ∃ L, L = letters t.data.toList := ⟨_, rfl⟩
  obtain ⟨b1, hb1⟩ : ∃ b, b = isText s.data.toList := ⟨_, rfl⟩
  obtain ⟨b2, hb2⟩ : ∃ b, b = isText t.data.toList := ⟨_, rfl⟩
  rw [← hL, ← hb1] at c1
  rw [← hM, ← hb2] at c2
  rw [← hL] at o1 hl1
  rw [← hM] at o2 hl2
  rw [← hL, ← hM]
  obtain ⟨R, hR⟩ : ∃ R, R = ordL L M := ⟨_, rfl⟩
  rw [← hR]
  have HR := Lib.hid hR
  have C1 := Lib.hid c1
  have C2 := Lib.hid c2
  clear c1 c2 hL hM hb1 hb2 hR
  go_enter Tryd.func54, Tryd.ntmps54
  go_wp2_with fail
  refine C1.out.mono ?_
  rintro e w1 ⟨v, rfl, ho1, hb1⟩
  have HO1 := Lib.hid ho1
  clear ho1
  go_wp2_with fail
  refine (C2.out _).mono ?_
  rintro e w2 ⟨u, rfl, ho2, hb2⟩
  have HO1' := Lib.hid (HO1.out.below hb2)
  obtain ⟨A, n, c, rfl, hn, _, hm, _, hc⟩ := HO1'.out.open
  obtain ⟨A', n', c', rfl, hn', _, hm', _, hc'⟩ := ho2.open
  have HN := Lib.hid hn
  have HN' := Lib.hid hn'
  have hns : n ≤ s.size := by omega
  have hns' : n' ≤ t.size := by omega
  have hB2 := step hb1 hb2
  clear ho2 HO1 HO1' hn hn' hl1 hl2 C1 C2
  go_wp2
  go_loopw [9] (fun i wr => ∃ k : Nat, i = .int .i64 k ∧ k ≤ n ∧ k ≤ n' ∧ Hid (ordL (L.drop k) (M.drop k) = R) ∧ ∃ j, wr = w2.drewN j) (fun i _ => n - (intOf i).toNat)
  case atStart => exact ⟨0, rfl, Nat.zero_le _, Nat.zero_le _, HR.out.symm, 0, rfl⟩
  case round =>
    obtain ⟨k, rfl, hk, hk', HE, j, rfl⟩ := hrel
    have hB3 := Lib.hid (hB2.trans ((drewed w2 j).mono hB2.size))
    by_cases h1 : k < n
    · by_cases h2 : k < n'
      · obtain ⟨g, rfl, _, _, hcc⟩ := hc (by omega)
        obtain ⟨g', rfl, _, _, hcc'⟩ := hc' (by omega)
        have gc := hcc k h1
        have gc' := hcc' k h2
        have hkl : k < L.length := by have := HN.out; omega
        have hkm : k < M.length := by have := HN'.out; omega
        have ex : L[k]? = some (L.getD k 0) := by rw [List.getD_eq_getElem?_getD, List.getElem?_eq_getElem hkl]; rfl
        have ey : M[k]? = some (M.getD k 0) := by rw [List.getD_eq_getElem?_getD, List.getElem?_eq_getElem hkm]; rfl
        have bx := (o1 (L.getD k 0) (List.mem_of_getElem? ex)).bounds
        have by_ := (o2 (M.getD k 0) (List.mem_of_getElem? ey)).bounds
        have hst := ord_step ex ey
        obtain ⟨x, hx⟩ : ∃ x, x = L.getD k 0 := ⟨_, rfl⟩
        obtain ⟨y, hy⟩ : ∃ y, y = M.getD k 0 := ⟨_, rfl⟩
        rw [← hx] at gc bx hst
        rw [← hy] at gc' by_ hst
        obtain ⟨bx0, bx1⟩ := bx
        obtain ⟨by0, by1⟩ := by_
        have fx := foldR_bounds bx0 bx1
        have fy := foldR_bounds by0 by1
        have cx := fun w => Rfold_any x w bx0 (by omega)
        have cy := fun w => Rfold_any y w by0 (by omega)
        obtain ⟨X, hX⟩ : ∃ z, z = foldR x := ⟨_, rfl⟩
        obtain ⟨Y, hY⟩ : ∃ z, z = foldR y := ⟨_, rfl⟩
        rw [← hX] at fx cx hst
        rw [← hY] at fy cy hst
        obtain ⟨fx0, fx1⟩ := fx
        obtain ⟨fy0, fy1⟩ := fy
        have CX := Lib.hid cx
        have CY := Lib.hid cy
        rw [HE.out] at hst
        obtain ⟨wa, hwa⟩ : ∃ wa, wa = w2.drewN j := ⟨_, rfl⟩
        rw [← hwa] at hB3 ⊢
        have gc : wa.cell? ⟨g, k, none⟩ = some (.int .i64 x) := by rw [hwa]; exact gc
        have gc' : wa.cell? ⟨g', k, none⟩ = some (.int .i64 y) := by rw [hwa]; exact gc'
        have HWA := Lib.hid hwa
        clear hwa hcc hcc' hc hc' hx hy hX hY hkl hkm ex ey cx cy o1 o2
        by_cases he : X = Y
        · subst he
          rw [if_pos rfl] at hst
          have HE2 : Hid (ordL (L.drop (k + 1)) (M.drop (k + 1)) = R) := hst.symm
          have t1 : (X != X) = false := by simp
          clear hst HE
          go_wp2
          go_quiet ((go_at_call 69; (first | ((with_reducible exact quiet_pure CX.out)) | ((with_reducible exact quiet_pure CY.out)))))
          go_wp2
          go_roundw
          case rel => exact ⟨k + 1, by go_num, h1, h2, HE2, j + _, by rw [HWA.out]; exact World.drewN_drewN ..⟩
          case measure => simp [intOf]; omega
        · rw [if_neg he] at hst
          have HST := Lib.hid hst
          have t1 : (X != Y) = true := by simpa using he
          have t2 : IntKind.i64.wrap (X - Y) = X - Y := by simp [IntKind.wrap, IntKind.signed, IntKind.bits]; omega
          clear hst HE he
          go_wp2
          go_quiet ((go_at_call 69; (first | ((with_reducible exact quiet_pure CX.out)) | ((with_reducible exact quiet_pure CY.out)))))
          go_wp2
          obtain ⟨wb, hwb⟩ : ∃ wq, wq = wa.drewN nq := ⟨_, rfl⟩
          rw [← hwb]
          have gc : wb.cell? ⟨g, k, none⟩ = some (.int .i64 x) := by rw [hwb]; exact gc
          have gc' : wb.cell? ⟨g', k, none⟩ = some (.int .i64 y) := by rw [hwb]; exact gc'
          have HB4 : Hid (Below w.heap.size w wb) := by rw [hwb]; exact hB3.out.trans ((drewed _ _).mono hB3.out.size)
          clear hwb hB3
          go_quiet ((go_at_call 69; (first | ((with_reducible exact quiet_pure CX.out)) | ((with_reducible exact quiet_pure CY.out)))))
          go_wp2
          go_ret
          exact ⟨ret_int HST.out.symm, HB4.out.trans ((drewed _ _).mono HB4.out.size)⟩
      · have hE := HE.out
        rw [ord_end (by have := HN.out; omega) (by have := HN'.out; omega) (.inr (by have := HN'.out; omega)), HN.out, HN'.out] at hE
        have HE2 := Lib.hid hE
        clear hE HE hc hc' o1 o2
        go_wp2
        go_ret
        exact ⟨ret_int HE2.out, hB3.out⟩
    · have hE := HE.out
      rw [ord_end (by have := HN.out; omega) (by have := HN'.out; omega) (.inl (by have := HN.out; omega)), HN.out, HN'.out] at hE
      have HE2 := Lib.hid hE
      clear hE HE hc hc' o1 o2
      go_wp2
      go_ret
      exact ⟨ret_int HE2.out, hB3.out⟩
end Go.Proofs.YtangkcedgelegaaDoor

namespace Go.Proofs.YtangkcedgelegaaDoor
set_option linter.all false
open Go.RowKit
set_option maxHeartbeats 400000 in
theorem RAlike2_any (s t : ByteArray) (w : World) (hs : s.size ≤ 4398046511104) (ht : t.size ≤ 4398046511104) :
    Calls Tryd.prog 62 #[.string s, .string t] w fun e w' => e = .returned (.bool (alikeOf s.data.toList t.data.toList)) ∧ Below w.heap.size w w' := by
  have c1 := ROrder_any s t w hs ht
  rw [← ordL_alike]
  obtain ⟨R, hR⟩ : ∃ R, R = ordL (letters s.data.toList) (letters t.data.toList) := ⟨_, rfl⟩
  rw [← hR] at c1 ⊢
  have C1 := Lib.hid c1
  clear c1 hR
  go_enter Tryd.func62, Tryd.ntmps62
  go_wp2_with fail
  refine C1.out.mono ?_
  rintro e w1 ⟨rfl, hb1⟩
  go_wp2
  go_ret
  exact ⟨rfl, hb1⟩
end Go.Proofs.YtangkcedgelegaaDoor

namespace Go.Proofs.YtangkcedgelegaaDoor
set_option linter.all false
open Go.RowKit
set_option maxHeartbeats 400000 in
theorem RIs_any (s : ByteArray) (w : World) (hs : s.size ≤ 4398046511104) :
    Calls Tryd.prog 31 #[.string s] w fun e w' => e = .returned (.bool (isText s.data.toList)) ∧ Below w.heap.size w w' := by
  have c1 := Letters_any s w hs
  unfold LettersPost at c1
  obtain ⟨t, ht⟩ : ∃ t, t = isText s.data.toList := ⟨_, rfl⟩
  rw [← ht] at c1 ⊢
  have C1 := Lib.hid c1
  clear c1 ht
  go_enter Tryd.func31, Tryd.ntmps31
  go_wp2_with fail
  refine C1.out.mono ?_
  rintro e w1 ⟨v, rfl, _, hb1⟩
  go_wp2
  go_ret
  exact ⟨rfl, hb1⟩
end Go.Proofs.YtangkcedgelegaaDoor

namespace Go.Proofs.YtangkcedgelegaaDoor
set_option linter.all false
open Go.RowKit
section
variable {α : Type} {f : α → Value} {P : Program} {w : World} {ops : Array Oper} {rest : List Oper} {o : Oper} {a : Act} {Q : Exit → Act → World → Prop}
end
section
variable {α : Type} {f : α → Value} {e : TypeId} {w : World} {base g n c : Nat} {xs : List α}
end
section
open Go.ChangeShapes Go.WideShapes
variable {H : Type} {enc : TypeId × Value → H} {P : Program} {W : World} {base : Nat} {t e : TypeId} {v : Value} {d : DataW H} {p : List MemPlace}
theorem weights_all {l : List (DataW H)} {x : DataW H} {k : Nat} (h : x ∈ l) (hk : k ∈ x.weights P e) : k ∈ DataW.weightsAll P e l := by
  induction l with
  | nil => cases h
  | cons y r ih =>
    simp only [DataW.weightsAll, List.mem_append]
    rcases List.mem_cons.1 h with rfl | h
    · exact .inl hk
    · exact .inr (ih h)
end
end Go.Proofs.YtangkcedgelegaaDoor

namespace Go.Proofs.YtangkcedgelegaaDoor
set_option linter.all false
open Go.RowKit Go.ChangeShapes Go.WideShapes
set_option linter.unusedVariables false
section
variable {w w' : World} {B B' : Nat} {A : Option Addr} {n c : Nat} {ps : List PartT}
end
section
variable {H : Type} {enc : TypeId × Value → H} {P : Program} {W : World} {base : Nat} {t e q : TypeId} {v : Value} {d : DataW H} {p : List MemPlace}
theorem bulk_memL {l : List (DataW H)} {x : DataW H} (h : x ∈ l) : Rows.uptoBulk x ≤ Rows.uptoBulkAll l := by
  induction l with
  | nil => cases h
  | cons y r ih =>
    simp only [Rows.uptoBulkAll]
    rcases List.mem_cons.1 h with rfl | h
    · omega
    · have := ih h; omega
end
end Go.Proofs.YtangkcedgelegaaDoor

namespace Go.Proofs.YtangkcedgelegaaDoor
set_option linter.all false
set_option maxRecDepth 100000
open Go.RowKit
set_option linter.unusedVariables false
theorem ordL_neg (xs ys : List Int) : ordL xs ys < 0 ↔ lexc (xs.map foldR) (ys.map foldR) < 0 := by
  induction xs generalizing ys with
  | nil => cases ys with
    | nil => simp [ordL, lexc]
    | cons y ys =>
      constructor <;> intro <;> simp [ordL, lexc]
  | cons x xs ih => cases ys with
    | nil =>
      constructor <;> intro h <;> simp [ordL, lexc] at h
      omega
    | cons y ys =>
      rw [List.map_cons, List.map_cons]
      unfold ordL lexc
      by_cases h : foldR x = foldR y
      · rw [if_pos h, if_neg (by omega), if_neg (by omega)]
        exact ih ys
      · rw [if_neg h]
        by_cases h2 : foldR x < foldR y
        · rw [if_pos h2]
          constructor <;> intro <;> omega
        · rw [if_neg h2, if_pos (by omega)]
          constructor <;> intro <;> omega
theorem ordL_ahead (a b : List UInt8) : decide (ordL (letters a) (letters b) < 0) = aheadOf a b := by
  unfold aheadOf foldedOf
  rw [decide_eq_decide]
  exact ordL_neg _ _
set_option maxHeartbeats 400000 in
theorem RAhead2_any (s t : ByteArray) (w : World) (hs : s.size ≤ 4398046511104) (ht : t.size ≤ 4398046511104) :
    Calls Tryd.prog 32 #[.string s, .string t] w fun e w' => e = .returned (.bool (ahd s t)) ∧ Below w.heap.size w w' := by
  have c1 := ROrder_any s t w hs ht
  unfold ahd
  rw [← ordL_ahead]
  obtain ⟨R, hR⟩ : ∃ R, R = ordL (letters s.data.toList) (letters t.data.toList) := ⟨_, rfl⟩
  rw [← hR] at c1 ⊢
  have C1 := Lib.hid c1
  clear c1 hR
  go_enter Tryd.func32, Tryd.ntmps32
  go_wp2_with fail
  refine C1.out.mono ?_
  rintro e w1 ⟨rfl, hb1⟩
  go_wp2
  go_ret
  exact ⟨rfl, hb1⟩
theorem itemCells_one (x : DItem) : ∀ u ∈ itemCells x, u.oneCell' = true := by
  intro u hu
  simp only [itemCells, List.mem_cons, List.not_mem_nil, or_false] at hu
  rcases hu with rfl | rfl <;> rfl
theorem info_item : (Tryd.prog.info? 64).map (fun i => (i.zero, i.size, i.bytes)) = some (some (.agg #[.string .empty, .int .i64 0]), 2, 24) := by kernel_rfl
theorem size_item : (Tryd.prog.info? 64).map (·.size) = some 2 := by kernel_rfl
section
variable {w w' : World} {base base' g : Nat} {v : Value} {L : List DItem} {S : Nat → Prop}
end
def atI (L : List DItem) (s : ByteArray) : Int := if dHas L s = true then (dIx L s : Int) else -1
theorem atI_here {L : List DItem} {s : ByteArray} {i : Nat} (hi : i < L.length) (h : alk L[i].1 s = true) (hn : ∀ j (hj : j < i), alk (L[j]'(by omega)).1 s = false) : atI L s = (i : Int) := by
  have h1 : dHas L s = true := dHas_iff.2 ⟨_, List.getElem_mem hi, h⟩
  have h2 : dIx L s = i := by
    unfold dIx
    exact (List.findIdx_eq hi).2 ⟨h, fun j hj => hn j hj⟩
  unfold atI
  rw [if_pos h1, h2]
theorem atI_none {L : List DItem} {s : ByteArray} (hn : ∀ j (hj : j < L.length), alk L[j].1 s = false) : atI L s = -1 := by
  unfold atI
  rw [if_neg]
  intro h
  obtain ⟨x, hx, ha⟩ := dHas_iff.1 h
  obtain ⟨j, hj, rfl⟩ := List.mem_iff_getElem.1 hx
  rw [hn j hj] at ha
  cases ha
set_option maxHeartbeats 4000000 in
theorem RAt_any (w : World) (base g : Nat) (v : Value) (L : List DItem) (d : RDr w base g v L) (s : ByteArray) (hs : s.size ≤ 4398046511104) :
    Calls Tryd.prog 61 #[.pointer (some ⟨g, 0, none⟩), .string s] w fun e w' => e = .returned (.int .i64 (atI L s)) ∧ Below w.heap.size w w' := by
  obtain ⟨A, c, rfl⟩ := d.len
  have k0 : w.cell? ⟨g, 0, none⟩ = some (.slice A L.length c) := d.blk.cell 0
  have D := Lib.hid d
  obtain ⟨n, hn⟩ : ∃ n, n = L.length := ⟨_, rfl⟩
  have hsm := d.small
  rw [← hn] at k0 hsm
  have HN := Lib.hid hn
  clear d hn
  go_enter Tryd.func61, Tryd.ntmps61
  go_wp2_with fail
  go_loopw [5] (fun I wr => ∃ i : Nat, i ≤ n ∧ I = .int .i64 (i : Nat) ∧ Hid (∀ j (hj : j < L.length), j < i → alk L[j].1 s = false) ∧ Hid (Below w.heap.size w wr)) (fun I _ => n - (intOf I).toNat)
  case atStart => exact ⟨0, Nat.zero_le _, rfl, (fun j _ h => absurd h (Nat.not_lt_zero _)), Below.refl _ _⟩
  case round =>
    obtain ⟨i, hi, rfl, NO, LR⟩ := hrel
    have k0' : wr.cell? ⟨g, 0, none⟩ = some (.slice A n c) := (LR.out.cell (lt_of_cellD k0)).trans k0
    by_cases hlt : i < n
    · have hil : i < L.length := by have := HN.out; omega
      obtain ⟨q, c', e, hnc, hcm, k1, _⟩ := D.out.at hil
      injection e with e1 e2 e3
      subst e1 e3
      have k1' : wr.cell? ⟨q, i * 2, none⟩ = some (.string L[i].1) := (LR.out.cell (lt_of_cellD k1)).trans k1
      have CA := Lib.hid (RAlike2_any L[i].1 s wr (D.out.text _ (List.getElem_mem hil)) hs)
      obtain ⟨z, hz⟩ : ∃ z, z = alk L[i].1 s := ⟨_, rfl⟩
      have hz' : alikeOf L[i].1.data.toList s.data.toList = z := hz.symm
      rw [hz'] at CA
      obtain ⟨x, hx⟩ : ∃ x, x = L[i].1 := ⟨_, rfl⟩
      rw [← hx] at k1' CA
      have HZ := Lib.hid hz
      clear hz hz' e2 k1 hx
      go_wp2_with fail
      refine CA.out.mono ?_
      rintro e w1 ⟨rfl, l1⟩
      have L1 := Lib.hid (LR.out.trans (l1.mono LR.out.size))
      clear l1 CA
      cases z with
      | true =>
        have HR : Hid (atI L s = (i : Int)) := atI_here hil HZ.out.symm fun j hj => NO.out j _ hj
        go_wp2_with fail
        go_ret
        exact ⟨by rw [HR.out]; rfl, L1.out⟩
      | false =>
        go_wp2_with fail
        go_roundw
        case rel => exact ⟨i + 1, by omega, by go_num, (fun j hj hji => by
          rcases Nat.lt_or_ge j i with h | h
          · exact NO.out j hj h
          · obtain rfl : j = i := by omega
            exact HZ.out.symm), L1.out⟩
        case measure => simp [intOf]; omega
    · obtain rfl : i = n := by omega
      have HR : Hid (atI L s = -1) := atI_none fun j hj => NO.out j hj (by have := HN.out; omega)
      go_wp2_with fail
      go_ret
      exact ⟨by rw [HR.out]; rfl, LR.out⟩
end Go.Proofs.YtangkcedgelegaaDoor

namespace Go.Proofs.YtangkcedgelegaaDoor
set_option linter.all false
set_option maxRecDepth 100000
open Go.RowKit
set_option linter.unusedVariables false
set_option maxHeartbeats 4000000 in
theorem RFind_any (w : World) (base g : Nat) (v : Value) (L : List DItem) (d : RDr w base g v L) (s : ByteArray) (hs : s.size ≤ 4398046511104) :
    Calls Tryd.prog 44 #[.pointer (some ⟨g, 0, none⟩), .string s] w fun e w' => e = .returned (.tuple #[.int .i64 (dFind L s).2, .string (dFind L s).1, .int .i64 (dFindE L s)]) ∧ Below w.heap.size w w' := by
  have hE : dFindE L s = if dBad s = true then 5 else if dHas L s = true then 0 else 7 := rfl
  have hF : dFindE L s ≠ 0 → dFind L s = (.empty, 0) := dFind_no
  have hB : dBad s = (decide (s.size = 0) || !isText s.data.toList) := rfl
  by_cases h0 : s.size = 0
  · rw [hB, decide_eq_true h0, Bool.true_or, if_pos rfl] at hE
    rw [hF (by rw [hE]; decide), hE]
    have t0 : (s.toList == []) = true := by rw [empty_beq]; exact decide_eq_true h0
    have t1 : s.toList.isEmpty = true := by rw [empty_isEmpty]; exact decide_eq_true h0
    clear hE hF hB d h0
    go_enter Tryd.func44, Tryd.ntmps44
    go_wp2_with fail
    go_ret3
    exact ⟨rfl, Below.refl _ _⟩
  · have t0 : (s.toList == []) = false := by rw [empty_beq]; exact decide_eq_false h0
    have t1 : s.toList.isEmpty = false := by rw [empty_isEmpty]; exact decide_eq_false h0
    rw [hB, decide_eq_false h0, Bool.false_or] at hE
    have CI := Lib.hid (RIs_any s w hs)
    obtain ⟨b, hb⟩ : ∃ b, b = isText s.data.toList := ⟨_, rfl⟩
    rw [← hb] at CI hE
    cases b with
    | false =>
      rw [if_pos (by decide)] at hE
      rw [hF (by rw [hE]; decide), hE]
      clear hE hF hB d h0 hb
      go_enter Tryd.func44, Tryd.ntmps44
      go_wp2_with fail
      refine CI.out.mono ?_
      rintro e w1 ⟨rfl, l1⟩
      have L1 := Lib.hid l1
      clear l1 CI
      go_wp2_with fail
      go_ret3
      exact ⟨rfl, L1.out⟩
    | true =>
      rw [if_neg (by decide)] at hE
      have hbad : dBad s = false := by rw [hB, decide_eq_false h0, ← hb]; rfl
      have CT : Hid (∀ w', Below w.heap.size w w' → Calls Tryd.prog 61 #[.pointer (some ⟨g, 0, none⟩), .string s] w' fun e w2 => e = .returned (.int .i64 (atI L s)) ∧ Below w'.heap.size w' w2) := fun w' hb' => RAt_any w' base g v L (d.below hb') s hs
      by_cases hh : dHas L s = true
      · obtain ⟨k, hk⟩ : ∃ k, k = dIx L s := ⟨_, rfl⟩
        have hkl : k < L.length := by rw [hk]; exact dIx_lt hh
        have hat : atI L s = (k : Int) := by unfold atI; rw [if_pos hh, hk]
        have hfd : dFind L s = L[k] := by
          unfold dFind
          rw [if_pos (by rw [hE, if_pos hh]), ← hk, List.getD_eq_getElem?_getD, List.getElem?_eq_getElem hkl]
          rfl
        rw [if_pos hh] at hE
        rw [hE, hfd]
        rw [hat] at CT
        obtain ⟨q, c, rfl, hnc, hcm, k1, k2⟩ := d.at hkl
        have k0 : w.cell? ⟨g, 0, none⟩ = some (.slice (some ⟨q, 0, none⟩) L.length c) := d.blk.cell 0
        obtain ⟨x1, hx1⟩ : ∃ x, x = L[k].1 := ⟨_, rfl⟩
        obtain ⟨x2, hx2⟩ : ∃ x, x = L[k].2 := ⟨_, rfl⟩
        rw [← hx1] at k1 ⊢
        rw [← hx2] at k2 ⊢
        obtain ⟨n, hn⟩ : ∃ n, n = L.length := ⟨_, rfl⟩
        have hsm := d.small
        rw [← hn] at k0 hkl hsm
        clear hE hF hB h0 hb hbad hh hk hat hfd hx1 hx2 hn d hnc
        go_enter Tryd.func44, Tryd.ntmps44
        go_wp2_with fail
        refine CI.out.mono ?_
        rintro e w1 ⟨rfl, l1⟩
        have L1 := Lib.hid l1
        clear l1 CI
        go_wp2_with fail
        refine (CT.out _ L1.out).mono ?_
        rintro e w2 ⟨rfl, l2⟩
        have L2 := Lib.hid (L1.out.trans (l2.mono L1.out.size))
        have j0 : w2.cell? ⟨g, 0, none⟩ = some (.slice (some ⟨q, 0, none⟩) n c) := (L2.out.cell (lt_of_cellD k0)).trans k0
        have j1 : w2.cell? ⟨q, k * 2, none⟩ = some (.string x1) := (L2.out.cell (lt_of_cellD k1)).trans k1
        have j2 : w2.cell? ⟨q, k * 2 + 1, none⟩ = some (.int .i64 x2) := (L2.out.cell (lt_of_cellD k2)).trans k2
        clear l2 CT
        go_upto_region 6 with fail
        go_quiet (fail)
        go_wp2_with fail
        go_ret3
        exact ⟨rfl, L2.out.trans ((drewed w2 _).mono L2.out.size)⟩
      · have hat : atI L s = -1 := by unfold atI; rw [if_neg hh]
        rw [if_neg hh] at hE
        rw [hF (by rw [hE]; decide), hE]
        rw [hat] at CT
        clear hE hF hB h0 hb hbad hh hat d
        go_enter Tryd.func44, Tryd.ntmps44
        go_wp2_with fail
        refine CI.out.mono ?_
        rintro e w1 ⟨rfl, l1⟩
        have L1 := Lib.hid l1
        clear l1 CI
        go_wp2_with fail
        refine (CT.out _ L1.out).mono ?_
        rintro e w2 ⟨rfl, l2⟩
        have L2 := Lib.hid (L1.out.trans (l2.mono L1.out.size))
        clear l2 CT
        go_wp2_with fail
        go_ret3
        exact ⟨rfl, L2.out⟩
/-- what is answered by what turns the directory -/
def RDrPost (w : World) (base g : Nat) (v : Value) (E : Int) (L' : List DItem) (e : Ending) (w' : World) : Prop :=
  e = .returned (.int .i64 E) ∧ ∃ v', RDr w' base g v' L' ∧ Spare (rdrS g v) w w' ∧ Wander w v v'
end Go.Proofs.YtangkcedgelegaaDoor

namespace Go.Proofs.YtangkcedgelegaaDoor
set_option linter.all false
set_option maxRecDepth 100000
open Go.RowKit
set_option linter.unusedVariables false
/-- the list that Add makes, behind so many names -/
def addL (L : List DItem) (s : ByteArray) (n : Int) (i : Nat) : List DItem := if dDone (L.take i) s = true then dPut (L.take i) s n else L.take i
theorem addL_done {L : List DItem} {s : ByteArray} {n : Int} {i : Nat} (h : i < L.length) (hd : dDone (L.take i) s = true) : dDone (L.take (i + 1)) s = true ∧ addL L s n (i + 1) = addL L s n i ++ [L[i]] := by
  have h1 : dDone (L.take (i + 1)) s = true := by rw [take_snocD h, dDone_snoc, hd]; rfl
  refine ⟨h1, ?_⟩
  unfold addL
  rw [if_pos h1, if_pos hd, take_snocD h, dPut_done hd]
theorem addL_here {L : List DItem} {s : ByteArray} {n : Int} {i : Nat} (h : i < L.length) (hd : dDone (L.take i) s = false) (ha : ahd s L[i].1 = true) : dDone (L.take (i + 1)) s = true ∧ addL L s n (i + 1) = (addL L s n i ++ [(s, n)]) ++ [L[i]] := by
  have h1 : dDone (L.take (i + 1)) s = true := by rw [take_snocD h, dDone_snoc, ha, Bool.or_true]
  refine ⟨h1, ?_⟩
  unfold addL
  rw [if_pos h1, if_neg (by rw [hd]; decide), take_snocD h, dPut_here hd ha, List.append_assoc]
  rfl
theorem addL_not {L : List DItem} {s : ByteArray} {n : Int} {i : Nat} (h : i < L.length) (hd : dDone (L.take i) s = false) (ha : ahd s L[i].1 = false) : dDone (L.take (i + 1)) s = false ∧ addL L s n (i + 1) = addL L s n i ++ [L[i]] := by
  have h1 : dDone (L.take (i + 1)) s = false := by rw [take_snocD h, dDone_snoc, ha, hd]; rfl
  refine ⟨h1, ?_⟩
  unfold addL
  rw [if_neg (by rw [h1]; decide), if_neg (by rw [hd]; decide), take_snocD h]
theorem addL_end {L : List DItem} {s : ByteArray} {n : Int} : dPut L s n = if dDone L s = true then addL L s n L.length else addL L s n L.length ++ [(s, n)] := by
  unfold addL
  rw [List.take_length]
  by_cases h : dDone L s = true
  · rw [if_pos h, if_pos h]
  · rw [if_neg h, if_neg h, dPut_end (by simpa using h)]
theorem addL_len {L : List DItem} {s : ByteArray} {n : Int} (i : Nat) : (addL L s n i).length ≤ L.length + 1 := by
  unfold addL
  split
  · rw [dPut_len, List.length_take]; omega
  · rw [List.length_take]; omega
theorem Blk.cast {w : World} {g : Nat} {T : TypeId} {cs ds : List Value} (h : Blk w g T cs) (e : cs = ds) : Blk w g T ds := e ▸ h
theorem lit_cells (x : DItem) (w : World) (b : Nat) (h : Blk w b 64 (itemCells x)) : ∀ j u, ([x].flatMap itemCells)[j]? = some u → w.cell? ⟨b, 0 + j, none⟩ = some u := fun j u hj => by
  rw [Nat.zero_add, h.cell, ← hj]
  simp
set_option maxHeartbeats 8000000 in
theorem RAdd_any (w : World) (base g : Nat) (v : Value) (L : List DItem) (d : RDr w base g v L) (hb : base ≤ w.heap.size) (hL : L.length < 65536) (s : ByteArray) (hs : s.size ≤ 4398046511104) (m : Int) :
    Calls Tryd.prog 41 #[.pointer (some ⟨g, 0, none⟩), .string s, .int .i64 m] w (RDrPost w base g v (dAddE L s) (dAdd L s m)) := by
  have hE : dAddE L s = if dBad s = true then 5 else if dHas L s = true then 8 else 0 := rfl
  have hF : dAddE L s ≠ 0 → dAdd L s m = L := fun h => if_neg h
  have hB : dBad s = (decide (s.size = 0) || !isText s.data.toList) := rfl
  have same : ∀ w', Below w.heap.size w w' → ∃ v', RDr w' base g v' L ∧ Spare (rdrS g v) w w' ∧ Wander w v v' := fun w' h => ⟨v, d.below h, Spare.of_over _ h, Wander.refl _ _⟩
  have SAME := Lib.hid same
  unfold RDrPost
  by_cases h0 : s.size = 0
  · rw [hB, decide_eq_true h0, Bool.true_or, if_pos rfl] at hE
    rw [hF (by rw [hE]; decide), hE]
    have t0 : (s.toList == []) = true := by rw [empty_beq]; exact decide_eq_true h0
    have t1 : s.toList.isEmpty = true := by rw [empty_isEmpty]; exact decide_eq_true h0
    clear hE hF hB d h0 same
    go_enter Tryd.func41, Tryd.ntmps41
    go_wp2_with fail
    go_ret
    exact ⟨rfl, SAME.out _ (Below.refl _ _)⟩
  · have t0 : (s.toList == []) = false := by rw [empty_beq]; exact decide_eq_false h0
    have t1 : s.toList.isEmpty = false := by rw [empty_isEmpty]; exact decide_eq_false h0
    rw [hB, decide_eq_false h0, Bool.false_or] at hE
    have CI := Lib.hid (RIs_any s w hs)
    obtain ⟨b, hb'⟩ : ∃ b, b = isText s.data.toList := ⟨_, rfl⟩
    rw [← hb'] at CI hE
    cases b with
    | false =>
      rw [if_pos (by decide)] at hE
      rw [hF (by rw [hE]; decide), hE]
      clear hE hF hB d h0 hb' same
      go_enter Tryd.func41, Tryd.ntmps41
      go_wp2_with fail
      refine CI.out.mono ?_
      rintro e w1 ⟨rfl, l1⟩
      have L1 := Lib.hid l1
      clear l1 CI
      go_wp2_with fail
      go_ret
      exact ⟨rfl, SAME.out _ L1.out⟩
    | true =>
      rw [if_neg (by decide)] at hE
      have CT : Hid (∀ w', Below w.heap.size w w' → Calls Tryd.prog 61 #[.pointer (some ⟨g, 0, none⟩), .string s] w' fun e w2 => e = .returned (.int .i64 (atI L s)) ∧ Below w'.heap.size w' w2) := fun w' hb' => RAt_any w' base g v L (d.below hb') s hs
      by_cases hh : dHas L s = true
      · have hat : atI L s = (dIx L s : Int) := by unfold atI; rw [if_pos hh]
        rw [if_pos hh] at hE
        rw [hF (by rw [hE]; decide), hE]
        rw [hat] at CT
        obtain ⟨k, hk⟩ : ∃ k, k = dIx L s := ⟨_, rfl⟩
        rw [← hk] at CT
        clear hE hF hB h0 hb' hh hat d hk same
        go_enter Tryd.func41, Tryd.ntmps41
        go_wp2_with fail
        refine CI.out.mono ?_
        rintro e w1 ⟨rfl, l1⟩
        have L1 := Lib.hid l1
        clear l1 CI
        go_wp2_with fail
        refine (CT.out _ L1.out).mono ?_
        rintro e w2 ⟨rfl, l2⟩
        have L2 := Lib.hid (L1.out.trans (l2.mono L1.out.size))
        clear l2 CT
        go_wp2_with fail
        go_ret
        exact ⟨rfl, SAME.out _ L2.out⟩
      · have hat : atI L s = -1 := by unfold atI; rw [if_neg hh]
        rw [if_neg hh] at hE
        have hA : dAdd L s m = dPut L s m := by unfold dAdd; rw [if_pos hE]
        rw [hE, hA]
        rw [hat] at CT
        obtain ⟨A, c, rfl⟩ := d.len
        have k0 : w.cell? ⟨g, 0, none⟩ = some (.slice A L.length c) := d.blk.cell 0
        have hgw : Hid (g < w.heap.size) := d.blk.lt
        have D := Lib.hid d
        obtain ⟨n, hn⟩ : ∃ n, n = L.length := ⟨_, rfl⟩
        rw [← hn] at k0 hL
        have HN := Lib.hid hn
        clear hE hF hB h0 hb' hh hat hA d same hn
        have HLEN : Hid (∀ i, (addL L s m i).length ≤ n + 1) := fun i => by rw [HN.out]; exact addL_len i
        go_enter Tryd.func41, Tryd.ntmps41
        go_wp2_with fail
        refine CI.out.mono ?_
        rintro e w1 ⟨rfl, l1⟩
        have L1 := Lib.hid l1
        clear l1 CI
        go_wp2_with fail
        refine (CT.out _ L1.out).mono ?_
        rintro e w2 ⟨rfl, l2⟩
        have L2 := Lib.hid (L1.out.trans (l2.mono L1.out.size))
        clear l2 CT L1
        go_wp2_with fail
        go_loopw [7, 8, 9] (fun O F I wr => ∃ (i : Nat) (b : Bool), i ≤ n ∧ I = .int .i64 (i : Nat) ∧ F = .bool b ∧ Hid (dDone (L.take i) s = b) ∧ Hid (OwnS itemCells 2 64 wr w.heap.size O (addL L s m i)) ∧ Hid (Below w.heap.size w wr)) (fun _ _ I _ => n - (intOf I).toNat)
        case atStart => exact ⟨0, false, Nat.zero_le _, rfl, rfl, rfl, OwnS.nil _ _ _ _ _, L2⟩
        case round =>
          obtain ⟨i, b, hi, rfl, rfl, DB, OR, LR⟩ := hrel
          have j0 : wr.cell? ⟨g, 0, none⟩ = some (.slice A n c) := (LR.out.cell (lt_of_cellD k0)).trans k0
          have hws := LR.out.size
          by_cases hlt : i < n
          · have hil : i < L.length := by have := HN.out; omega
            obtain ⟨q, c', e, hnc, hcm, p1, p2⟩ := D.out.at hil
            injection e with e1 e2 e3
            subst e1 e3
            have j1 : wr.cell? ⟨q, i * 2, none⟩ = some (.string L[i].1) := (LR.out.cell (lt_of_cellD p1)).trans p1
            have j2 : wr.cell? ⟨q, i * 2 + 1, none⟩ = some (.int .i64 L[i].2) := (LR.out.cell (lt_of_cellD p2)).trans p2
            have hqw := lt_of_cellD p1
            obtain ⟨x1, hx1⟩ : ∃ x, x = L[i].1 := ⟨_, rfl⟩
            obtain ⟨x2, hx2⟩ : ∃ x, x = L[i].2 := ⟨_, rfl⟩
            have HX12 : Hid ((x1, x2) = L[i]) := by rw [hx1, hx2]; rfl
            have hx65 : x1.size ≤ 4398046511104 := by rw [hx1]; exact D.out.text _ (List.getElem_mem hil)
            rw [← hx1] at p1 j1
            rw [← hx2] at p2 j2
            have KXF : Hid (∀ w2, Below w.heap.size w w2 → w2.rangeAt q (i * 2) [.string x1, .int .i64 x2]) := fun w2 hb2 j v hj => by
              match j, hj with
              | 0, hj => injection hj with hj; subst hj; exact (hb2.cell (lt_of_cellD p1)).trans p1
              | 1, hj => injection hj with hj; subst hj; exact (hb2.cell (lt_of_cellD p2)).trans p2
            have HLN : Hid (((addL L s m i).length + [(x1, x2)].length) * 24 ≤ 140737488355328 ∧ (addL L s m i).length + [(x1, x2)].length ≤ 9223372036854775807) := by have := HLEN.out i; show _ ∧ _; simp only [List.length_cons, List.length_nil]; omega
            have HLS : Hid (((addL L s m i).length + [(s, m)].length) * 24 ≤ 140737488355328 ∧ (addL L s m i).length + [(s, m)].length ≤ 9223372036854775807) := by have := HLEN.out i; show _ ∧ _; simp only [List.length_cons, List.length_nil]; omega
            have HLT : Hid (((addL L s m i ++ [(s, m)]).length + [(x1, x2)].length) * 24 ≤ 140737488355328 ∧ (addL L s m i ++ [(s, m)]).length + [(x1, x2)].length ≤ 9223372036854775807) := by have := HLEN.out i; show _ ∧ _; simp only [List.length_append, List.length_cons, List.length_nil]; omega
            have hncc : n ≤ c := by have := HN.out; omega
            have hcm' : c ≤ 9223372036854775807 := by unfold maxLen at hcm; exact hcm
            cases b with
            | true =>
              have hst := addL_done (s := s) (n := m) hil DB.out
              have HST := Lib.hid hst
              clear hst p1 p2 e2 hnc hcm hqw hx1 hx2
              go_wp2_with (first
                | ((with_reducible show wpList _ _ _ (⟨some 57, _, _, _, _, _⟩ :: _) _ _); go_loud (refine wpList_load_mid rfl _ (.tmp 56) rfl q (i * 2) rfl [.string x1, .int .i64 x2] _ (KXF.out _ LR.out) Tryd.underlying64 rfl (by rw [size_item]; rfl) ?_))
                | ((with_reducible show wpList _ _ _ (⟨some 58, _, _, _, _, _⟩ :: _) _ _); go_loud (refine wpList_slice_blk rfl _ _ _ _ rfl Tryd.underlying51 [.string x1, .int .i64 x2] (by kernel_rfl) ?_); intro gq w7 hq1 hq2 V7 L7; have O7 := Lib.hid (OR.out.below L7.out); have LC7 := Lib.hid (LR.out.trans (L7.out.mono LR.out.size)))
                | (at_builtin; go_loud (refine wpList_append_holdSW rfl (.tmp 50) (.tmp 58) itemCells 2 (by decide) itemCells_len itemCells_one (.agg #[.string .empty, .int .i64 0]) rfl 51 64 24 Tryd.underlying51 info_item rfl w.heap.size _ (addL L s m i) rfl O7.out gq 0 1 1 [(x1, x2)] rfl rfl (lit_cells (x1, x2) _ gq V7.out) HLN.out.1 HLN.out.2 LC7.out.size ?_); intro v8 w8 O8 S8 W8)
                | fail)
              have L8 : Hid (Below w.heap.size w w8) := LC7.out.trans (S8.out.below (fun j hj => (O7.out.block hj).1) LC7.out.size)
              obtain ⟨d1, d2⟩ := HST.out
              rw [← HX12.out] at d2
              have D2 := Lib.hid d2
              go_roundw
              case rel => exact ⟨i + 1, _, by omega, by go_num, rfl, d1, by rw [D2.out]; exact O8.out, L8.out⟩
              case measure => simp [intOf]; omega
            | false =>
              have CA := Lib.hid (RAhead2_any s x1 wr hs hx65)
              obtain ⟨z, hz⟩ : ∃ z, z = ahd s x1 := ⟨_, rfl⟩
              rw [← hz] at CA
              have HZ : Hid (ahd s L[i].1 = z) := by rw [← hx1]; exact hz.symm
              clear p1 p2 e2 hnc hcm hqw hx1 hx2 hz
              go_wp2_with fail
              refine CA.out.mono ?_
              rintro e w5 ⟨rfl, l5⟩
              have LC := Lib.hid (LR.out.trans (l5.mono hws))
              have OC := Lib.hid (OR.out.below l5)
              have j0 : w5.cell? ⟨g, 0, none⟩ = some (.slice (some ⟨q, 0, none⟩) n c) := (l5.cell (lt_of_cellD j0)).trans j0
              clear l5 CA
              cases z with
              | true =>
                have hst := addL_here (n := m) hil DB.out HZ.out
                have HST := Lib.hid hst
                clear hst
                go_wp2_with (first
                  | ((with_reducible show wpList _ _ _ (⟨some 47, _, _, _, _, _⟩ :: _) _ _); go_loud (refine wpList_build_blk rfl _ _ rfl [.string s, .int .i64 m] (by kernel_rfl) ?_))
                  | ((with_reducible show wpList _ _ _ (⟨some 48, _, _, _, _, _⟩ :: _) _ _); go_loud (refine wpList_slice_blk rfl _ _ _ _ rfl Tryd.underlying51 [.string s, .int .i64 m] (by kernel_rfl) ?_); intro gn w3 hn1 hn2 V3 L3; have O3 := Lib.hid (OC.out.below L3.out); have LC3 := Lib.hid (LC.out.trans (L3.out.mono LC.out.size)))
                  | (at_builtin; go_loud (refine wpList_append_holdSW rfl (.tmp 44) (.tmp 48) itemCells 2 (by decide) itemCells_len itemCells_one (.agg #[.string .empty, .int .i64 0]) rfl 51 64 24 Tryd.underlying51 info_item rfl w.heap.size _ (addL L s m i) rfl O3.out gn 0 1 1 [(s, m)] rfl rfl (lit_cells (s, m) _ gn V3.out) HLS.out.1 HLS.out.2 LC3.out.size ?_); intro v4 w4 O4 S4 W4; have LC4 := Lib.hid (LC3.out.trans (S4.out.below (fun j hj => (O3.out.block hj).1) LC3.out.size)); have j0 : w4.cell? ⟨g, 0, none⟩ = some (.slice (some ⟨q, 0, none⟩) n c) := (LC4.out.cell (lt_of_cellD k0)).trans k0)
                  | ((with_reducible show wpList _ _ _ (⟨some 57, _, _, _, _, _⟩ :: _) _ _); go_loud (refine wpList_load_mid rfl _ (.tmp 56) rfl q (i * 2) rfl [.string x1, .int .i64 x2] _ (KXF.out _ LC4.out) Tryd.underlying64 rfl (by rw [size_item]; rfl) ?_))
                  | ((with_reducible show wpList _ _ _ (⟨some 58, _, _, _, _, _⟩ :: _) _ _); go_loud (refine wpList_slice_blk rfl _ _ _ _ rfl Tryd.underlying51 [.string x1, .int .i64 x2] (by kernel_rfl) ?_); intro gq w7 hq1 hq2 V7 L7; have O7 := Lib.hid (O4.out.below L7.out); have LC7 := Lib.hid (LC4.out.trans (L7.out.mono LC4.out.size)))
                  | (at_builtin; go_loud (refine wpList_append_holdSW rfl (.tmp 50) (.tmp 58) itemCells 2 (by decide) itemCells_len itemCells_one (.agg #[.string .empty, .int .i64 0]) rfl 51 64 24 Tryd.underlying51 info_item rfl w.heap.size _ (addL L s m i ++ [(s, m)]) rfl O7.out gq 0 1 1 [(x1, x2)] rfl rfl (lit_cells (x1, x2) _ gq V7.out) HLT.out.1 HLT.out.2 LC7.out.size ?_); intro v8 w8 O8 S8 W8)
                  | fail)
                have L8 : Hid (Below w.heap.size w w8) := LC7.out.trans (S8.out.below (fun j hj => (O7.out.block hj).1) LC7.out.size)
                obtain ⟨d1, d2⟩ := HST.out
                rw [← HX12.out] at d2
                have D2 := Lib.hid d2
                go_roundw
                case rel => exact ⟨i + 1, _, by omega, by go_num, rfl, d1, by rw [D2.out]; exact O8.out, L8.out⟩
                case measure => simp [intOf]; omega
              | false =>
                have hst := addL_not (n := m) hil DB.out HZ.out
                have HST := Lib.hid hst
                clear hst
                go_wp2_with (first
                  | ((with_reducible show wpList _ _ _ (⟨some 57, _, _, _, _, _⟩ :: _) _ _); go_loud (refine wpList_load_mid rfl _ (.tmp 56) rfl q (i * 2) rfl [.string x1, .int .i64 x2] _ (KXF.out _ LC.out) Tryd.underlying64 rfl (by rw [size_item]; rfl) ?_))
                  | ((with_reducible show wpList _ _ _ (⟨some 58, _, _, _, _, _⟩ :: _) _ _); go_loud (refine wpList_slice_blk rfl _ _ _ _ rfl Tryd.underlying51 [.string x1, .int .i64 x2] (by kernel_rfl) ?_); intro gq w7 hq1 hq2 V7 L7; have O7 := Lib.hid (OC.out.below L7.out); have LC7 := Lib.hid (LC.out.trans (L7.out.mono LC.out.size)))
                  | (at_builtin; go_loud (refine wpList_append_holdSW rfl (.tmp 50) (.tmp 58) itemCells 2 (by decide) itemCells_len itemCells_one (.agg #[.string .empty, .int .i64 0]) rfl 51 64 24 Tryd.underlying51 info_item rfl w.heap.size _ (addL L s m i) rfl O7.out gq 0 1 1 [(x1, x2)] rfl rfl (lit_cells (x1, x2) _ gq V7.out) HLN.out.1 HLN.out.2 LC7.out.size ?_); intro v8 w8 O8 S8 W8)
                  | fail)
                have L8 : Hid (Below w.heap.size w w8) := LC7.out.trans (S8.out.below (fun j hj => (O7.out.block hj).1) LC7.out.size)
                obtain ⟨d1, d2⟩ := HST.out
                rw [← HX12.out] at d2
                have D2 := Lib.hid d2
                go_roundw
                case rel => exact ⟨i + 1, _, by omega, by go_num, rfl, d1, by rw [D2.out]; exact O8.out, L8.out⟩
                case measure => simp [intOf]; omega
          · obtain rfl : i = n := by omega
            have hin := HN.out
            have hall : L.take i = L := List.take_of_length_le (by omega)
            have hfin := addL_end (L := L) (s := s) (n := m)
            rw [← hin] at hfin
            have hdb := DB.out
            rw [hall] at hdb
            have HLS : Hid (((addL L s m i).length + [(s, m)].length) * 24 ≤ 140737488355328 ∧ (addL L s m i).length + [(s, m)].length ≤ 9223372036854775807) := by have := HLEN.out i; show _ ∧ _; simp only [List.length_cons, List.length_nil]; omega
            have BG : Hid (Blk wr g 53 [.slice A i c]) := (D.out.blk.below LR.out D.out.blk.lt : Blk wr g 53 [.slice A L.length c]).cast (by rw [← hin])
            have BGW : Hid (Blk w g 53 [.slice A i c]) := D.out.blk.cast (by rw [← hin])
            have FIN : Hid (∀ (w8 w9 : World) (v8 : Value), Below w.heap.size w w8 → OwnS itemCells 2 64 w8 w.heap.size v8 (dPut L s m) → Only g w8 w9 → Blk w9 g 53 [v8] → ∃ v', RDr w9 base g v' (dPut L s m) ∧ Spare (rdrS g (.slice A L.length c)) w w9 ∧ Wander w (.slice A L.length c) v') := fun w8 w9 v8 h1 h2 h3 h4 => by
              refine ⟨v8, ⟨D.out.ge, h4, (h2.mono hb).keep fun j _ hj _ => h3.rest j (by have := (h2.block hj).1; have := hgw.out; omega), by rw [dPut_len]; omega, fun x hx => ?_⟩, ?_, fun j hj => .inr (h2.block hj).1⟩
              · rcases dPut_mem.1 hx with rfl | hx
                · exact hs
                · exact D.out.text x hx
              · exact (Spare.of_over (rdrS g (.slice A L.length c)) h1).trans ((Spare.of_only h3).mono (S' := rdrS g (.slice A L.length c)) fun j _ hj => .inl hj) fun j _ h => h
            clear hall hin
            cases b with
            | true =>
              rw [if_pos hdb] at hfin
              rw [hfin] at FIN
              have HFN := Lib.hid hfin
              clear hfin hdb
              obtain ⟨A8, n8, c8, e8, _⟩ := OR.out.holds (by decide) itemCells_len
              subst e8
              go_wp2_with (first
                | ((with_reducible show wpList _ _ _ (⟨none, .store _ _ _, _, _, _, _⟩ :: _) _ _); go_loud (refine wpList_store_fld rfl _ (.tmp 71) (.tmp 69) rfl g 0 rfl _ [.slice A i c] (.slice A8 n8 c8) rfl BG (show 0 < 1 by omega) (by kernel_rfl) rfl ?_); intro w9 B9 O9 hg9)
                | fail)
              go_ret
              rw [HFN.out]
              exact ⟨rfl, FIN.out wr w9 _ LR.out OR.out O9.out B9.out⟩
            | false =>
              rw [if_neg (by rw [hdb]; decide)] at hfin
              rw [hfin] at FIN
              have HFN := Lib.hid hfin
              clear hfin hdb
              go_wp2_with (first
                | ((with_reducible show wpList _ _ _ (⟨some 65, _, _, _, _, _⟩ :: _) _ _); go_loud (refine wpList_build_blk rfl _ _ rfl [.string s, .int .i64 m] (by kernel_rfl) ?_))
                | ((with_reducible show wpList _ _ _ (⟨some 66, _, _, _, _, _⟩ :: _) _ _); go_loud (refine wpList_slice_blk rfl _ _ _ _ rfl Tryd.underlying51 [.string s, .int .i64 m] (by kernel_rfl) ?_); intro gn w3 hn1 hn2 V3 L3; have O3 := Lib.hid (OR.out.below L3.out); have LC3 := Lib.hid (LR.out.trans (L3.out.mono LR.out.size)))
                | (at_builtin; go_loud (refine wpList_append_holdSW rfl (.tmp 62) (.tmp 66) itemCells 2 (by decide) itemCells_len itemCells_one (.agg #[.string .empty, .int .i64 0]) rfl 51 64 24 Tryd.underlying51 info_item rfl w.heap.size _ (addL L s m i) rfl O3.out gn 0 1 1 [(s, m)] rfl rfl (lit_cells (s, m) _ gn V3.out) HLS.out.1 HLS.out.2 LC3.out.size ?_); intro v4 w4 O4 S4 W4; have LC4 := Lib.hid (LC3.out.trans (S4.out.below (fun j hj => (O3.out.block hj).1) LC3.out.size)); have BG4 : Hid (Blk w4 g 53 [.slice A i c]) := BGW.out.below LC4.out BGW.out.lt; have hv4 := O4.out.oneCD)
                | ((with_reducible show wpList _ _ _ (⟨none, .store _ _ _, _, _, _, _⟩ :: _) _ _); go_loud (refine wpList_store_fld rfl _ (.tmp 71) (.tmp 69) rfl g 0 rfl _ [.slice A i c] v4 rfl BG4 (show 0 < 1 by omega) (by kernel_rfl) hv4 ?_); intro w9 B9 O9 hg9)
                | fail)
              go_ret
              rw [HFN.out]
              exact ⟨rfl, FIN.out w4 w9 _ LC4.out O4.out O9.out B9.out⟩
end Go.Proofs.YtangkcedgelegaaDoor

namespace Go.Proofs.YtangkcedgelegaaDoor
set_option linter.all false
set_option maxRecDepth 100000
open Go.RowKit
set_option linter.unusedVariables false
theorem cells_of_row {w : World} {base q n c : Nat} {L : List DItem} (h : OwnS itemCells 2 64 w base (.slice (some ⟨q, 0, none⟩) n c) L) (hn : L.length = n) {a k : Nat} (hk : a + k ≤ n) : ∀ j u, (((L.drop a).take k).flatMap itemCells)[j]? = some u → w.cell? ⟨q, a * 2 + j, none⟩ = some u := fun j u hj => by
  obtain ⟨_, _, _, _, cs, hB, hcl, htk⟩ := h.blk
  have hl : ((L.drop a).take k).length = k := by rw [List.length_take, List.length_drop]; omega
  have hj2 : j < k * 2 := by
    have := (List.getElem?_eq_some_iff.1 hj).1
    rwa [flatMap_len itemCells_len, hl] at this
  rw [hB.cell]
  have e1 : cs[a * 2 + j]? = (cs.take (n * 2))[a * 2 + j]? := by rw [List.getElem?_take, if_pos (by omega)]
  rw [e1, htk, flatMap_get (by decide) itemCells_len, show (a * 2 + j) / 2 = a + j / 2 by omega, show (a * 2 + j) % 2 = j % 2 by omega]
  rw [flatMap_get (by decide) itemCells_len, List.getElem?_take, if_pos (by omega), List.getElem?_drop] at hj
  exact hj
set_option maxHeartbeats 8000000 in
theorem RRem_any (w : World) (base g : Nat) (v : Value) (L : List DItem) (d : RDr w base g v L) (hb : base ≤ w.heap.size) (s : ByteArray) (hs : s.size ≤ 4398046511104) :
    Calls Tryd.prog 42 #[.pointer (some ⟨g, 0, none⟩), .string s] w (RDrPost w base g v (dFindE L s) (dRem L s)) := by
  have CF := Lib.hid (RFind_any w base g v L d s hs)
  have hF : dFindE L s ≠ 0 → dRem L s = L := fun h => if_neg h
  have SAME : Hid (∀ w', Below w.heap.size w w' → ∃ v', RDr w' base g v' L ∧ Spare (rdrS g v) w w' ∧ Wander w v v') := fun w' h => ⟨v, d.below h, Spare.of_over _ h, Wander.refl _ _⟩
  unfold RDrPost
  by_cases he : dFindE L s = 0
  · obtain ⟨hb2, hh⟩ := dFindE_zero.1 he
    have hR : dRem L s = L.take (dIx L s) ++ L.drop (dIx L s + 1) := by unfold dRem; rw [if_pos he, List.eraseIdx_eq_take_drop_succ]
    have hkl := dIx_lt hh
    have CT : Hid (∀ w', Below w.heap.size w w' → Calls Tryd.prog 61 #[.pointer (some ⟨g, 0, none⟩), .string s] w' fun e w2 => e = .returned (.int .i64 (dIx L s : Nat)) ∧ Below w'.heap.size w' w2) := fun w' hb' => by
      have := RAt_any w' base g v L (d.below hb') s hs
      unfold atI at this
      rw [if_pos hh] at this
      exact this
    rw [he] at CF ⊢
    obtain ⟨k, hk⟩ : ∃ k, k = dIx L s := ⟨_, rfl⟩
    rw [← hk] at CT hR hkl
    rw [hR]
    obtain ⟨q, c, rfl, hnc, hcm, _, _⟩ := d.at hkl
    have k0 : w.cell? ⟨g, 0, none⟩ = some (.slice (some ⟨q, 0, none⟩) L.length c) := d.blk.cell 0
    obtain ⟨f1, hf1⟩ : ∃ x, x = (dFind L s).1 := ⟨_, rfl⟩
    obtain ⟨f2, hf2⟩ : ∃ x, x = (dFind L s).2 := ⟨_, rfl⟩
    rw [← hf1, ← hf2] at CF
    have D := Lib.hid d
    have hsm := d.small
    have hgw : Hid (g < w.heap.size) := d.blk.lt
    obtain ⟨n, hn⟩ : ∃ n, n = L.length := ⟨_, rfl⟩
    have HN := Lib.hid hn
    rw [← hn] at k0 hkl hnc hsm
    have hcm' : c ≤ 9223372036854775807 := by unfold maxLen at hcm; exact hcm
    have hc0 : ¬ c = 0 := by omega
    have hkc : k ≤ c := by omega
    have hk1 : k + 1 ≤ n := by omega
    have T1 : Hid (∀ w', Below w.heap.size w w' → ∀ j u, ((L.take k).flatMap itemCells)[j]? = some u → w'.cell? ⟨q, 0 + j, none⟩ = some u) := fun w' hb' j u hj => by
      have hr := d.row.below hb'
      rw [← hn] at hr
      have := cells_of_row hr hn.symm (a := 0) (k := k) (by omega) j u (by rw [List.drop_zero]; exact hj)
      rwa [Nat.zero_mul] at this
    have T2 : Hid (∀ w', Below w.heap.size w w' → ∀ j u, ((L.drop (k + 1)).flatMap itemCells)[j]? = some u → w'.cell? ⟨q, (k + 1) * 2 + j, none⟩ = some u) := fun w' hb' j u hj => by
      have hr := d.row.below hb'
      rw [← hn] at hr
      refine cells_of_row hr hn.symm (a := k + 1) (k := n - (k + 1)) (by omega) j u ?_
      rw [List.take_of_length_le (by rw [List.length_drop]; omega)]
      exact hj
    have N1 : Hid ((L.take k).length = k) := by show _ = _; rw [List.length_take]; omega
    have N2 : Hid ((L.drop (k + 1)).length = n - (k + 1)) := by show _ = _; rw [List.length_drop]; omega
    have B1 : Hid ((([] : List DItem).length + (L.take k).length) * 24 ≤ 140737488355328 ∧ ([] : List DItem).length + (L.take k).length ≤ 9223372036854775807) := by have := N1.out; show _ ∧ _; simp only [List.length_nil]; omega
    have B2 : Hid ((([] ++ L.take k : List DItem).length + (L.drop (k + 1)).length) * 24 ≤ 140737488355328 ∧ ([] ++ L.take k : List DItem).length + (L.drop (k + 1)).length ≤ 9223372036854775807) := by have := N1.out; have := N2.out; show _ ∧ _; simp only [List.nil_append]; omega
    have FIN : Hid (∀ (w8 w9 : World) (v8 : Value), Below w.heap.size w w8 → OwnS itemCells 2 64 w8 w.heap.size v8 ([] ++ L.take k ++ L.drop (k + 1)) → Only g w8 w9 → Blk w9 g 53 [v8] → ∃ v', RDr w9 base g v' (L.take k ++ L.drop (k + 1)) ∧ Spare (rdrS g (.slice (some ⟨q, 0, none⟩) L.length c)) w w9 ∧ Wander w (.slice (some ⟨q, 0, none⟩) L.length c) v') := fun w8 w9 v8 h1 h2 h3 h4 => by
      rw [List.nil_append] at h2
      refine ⟨v8, ⟨d.ge, h4, (h2.mono hb).keep fun j _ hj _ => h3.rest j (by have := (h2.block hj).1; have := hgw.out; omega), ?_, fun x hx => ?_⟩, ?_, fun j hj => .inr (h2.block hj).1⟩
      · rw [List.length_append, N1.out, N2.out]
        omega
      · rcases List.mem_append.1 hx with hx | hx
        · exact d.text x (List.mem_of_mem_take hx)
        · exact d.text x (List.mem_of_mem_drop hx)
      · exact (Spare.of_over (rdrS g (.slice (some ⟨q, 0, none⟩) L.length c)) h1).trans ((Spare.of_only h3).mono (S' := rdrS g (.slice (some ⟨q, 0, none⟩) L.length c)) fun j _ hj => .inl hj) fun j _ h => h
    have BGW : Hid (Blk w g 53 [.slice (some ⟨q, 0, none⟩) n c]) := d.blk.cast (by rw [← hn])
    clear hF he hb2 hh hR hk hf1 hf2 d hn hcm
    have hk1c : k + 1 ≤ c := by omega
    by_cases hce : c = k + 1
    · have hnk : n = k + 1 := by omega
      go_enter Tryd.func42, Tryd.ntmps42
      go_wp2_with fail
      refine CF.out.mono ?_
      rintro e w1 ⟨rfl, l1⟩
      have L1 := Lib.hid l1
      clear l1 CF
      go_wp2_with fail
      refine (CT.out _ L1.out).mono ?_
      rintro e w2 ⟨rfl, l2⟩
      have L2 := Lib.hid (L1.out.trans (l2.mono L1.out.size))
      have j0 : w2.cell? ⟨g, 0, none⟩ = some (.slice (some ⟨q, 0, none⟩) n c) := (L2.out.cell (lt_of_cellD k0)).trans k0
      clear l2 CT L1
      go_wp2_with (first
        | ((with_reducible show wpList _ _ _ (⟨some 30, _, _, _, _, _⟩ :: _) _ _); go_loud (refine wpList_append_holdSW rfl (.tmp 23) (.tmp 29) itemCells 2 (by decide) itemCells_len itemCells_one (.agg #[.string .empty, .int .i64 0]) rfl 51 64 24 Tryd.underlying51 info_item rfl w.heap.size _ [] rfl (OwnS.nil _ _ _ _ _) q 0 k _ (L.take k) rfl N1.out (T1.out _ L2.out) B1.out.1 B1.out.2 L2.out.size ?_); intro v3 w3 O3 S3 W3; have L3 : Hid (Below w.heap.size w w3) := L2.out.trans (S3.out.below (fun j hj => by cases hj) L2.out.size); have j0 : w3.cell? ⟨g, 0, none⟩ = some (.slice (some ⟨q, 0, none⟩) n c) := (L3.out.cell (lt_of_cellD k0)).trans k0)
        | ((with_reducible show wpList _ _ _ (⟨some 40, _, _, _, _, _⟩ :: _) _ _); go_loud (refine wpList_append_holdSW rfl (.tmp 32) (.tmp 39) itemCells 2 (by decide) itemCells_len itemCells_one (.agg #[.string .empty, .int .i64 0]) rfl 51 64 24 Tryd.underlying51 info_item rfl w.heap.size _ ([] ++ L.take k) rfl O3.out q _ _ _ (L.drop (k + 1)) rfl (show (L.drop (k + 1)).length = _ from N2.out.trans (by omega)) (fun j u hj => by rw [List.eq_nil_of_length_eq_zero (show (L.drop (k + 1)).length = 0 from N2.out.trans (by omega))] at hj; cases hj) B2.out.1 B2.out.2 L3.out.size ?_); intro v4 w4 O4 S4 W4; have L4 : Hid (Below w.heap.size w w4) := L3.out.trans (S4.out.below (fun j hj => (O3.out.block hj).1) L3.out.size); have BG4 : Hid (Blk w4 g 53 [.slice (some ⟨q, 0, none⟩) n c]) := BGW.out.below L4.out BGW.out.lt; have hv4 := O4.out.oneCD)
        | ((with_reducible show wpList _ _ _ (⟨none, .store _ _ _, _, _, _, _⟩ :: _) _ _); go_loud (refine wpList_store_fld rfl _ (.tmp 42) (.tmp 40) rfl g 0 rfl _ [.slice (some ⟨q, 0, none⟩) n c] v4 rfl BG4 (show 0 < 1 by omega) (by kernel_rfl) hv4 ?_); intro w9 B9 O9 hg9)
        | fail)
      go_ret
      exact ⟨rfl, FIN.out w4 w9 _ L4.out O4.out O9.out B9.out⟩
    · go_enter Tryd.func42, Tryd.ntmps42
      go_wp2_with fail
      refine CF.out.mono ?_
      rintro e w1 ⟨rfl, l1⟩
      have L1 := Lib.hid l1
      clear l1 CF
      go_wp2_with fail
      refine (CT.out _ L1.out).mono ?_
      rintro e w2 ⟨rfl, l2⟩
      have L2 := Lib.hid (L1.out.trans (l2.mono L1.out.size))
      have j0 : w2.cell? ⟨g, 0, none⟩ = some (.slice (some ⟨q, 0, none⟩) n c) := (L2.out.cell (lt_of_cellD k0)).trans k0
      clear l2 CT L1
      go_wp2_with (first
        | ((with_reducible show wpList _ _ _ (⟨some 30, _, _, _, _, _⟩ :: _) _ _); go_loud (refine wpList_append_holdSW rfl (.tmp 23) (.tmp 29) itemCells 2 (by decide) itemCells_len itemCells_one (.agg #[.string .empty, .int .i64 0]) rfl 51 64 24 Tryd.underlying51 info_item rfl w.heap.size _ [] rfl (OwnS.nil _ _ _ _ _) q 0 k _ (L.take k) rfl N1.out (T1.out _ L2.out) B1.out.1 B1.out.2 L2.out.size ?_); intro v3 w3 O3 S3 W3; have L3 : Hid (Below w.heap.size w w3) := L2.out.trans (S3.out.below (fun j hj => by cases hj) L2.out.size); have j0 : w3.cell? ⟨g, 0, none⟩ = some (.slice (some ⟨q, 0, none⟩) n c) := (L3.out.cell (lt_of_cellD k0)).trans k0)
        | ((with_reducible show wpList _ _ _ (⟨some 40, _, _, _, _, _⟩ :: _) _ _); go_loud (refine wpList_append_holdSW rfl (.tmp 32) (.tmp 39) itemCells 2 (by decide) itemCells_len itemCells_one (.agg #[.string .empty, .int .i64 0]) rfl 51 64 24 Tryd.underlying51 info_item rfl w.heap.size _ ([] ++ L.take k) rfl O3.out q _ _ _ (L.drop (k + 1)) rfl N2.out (T2.out _ L3.out) B2.out.1 B2.out.2 L3.out.size ?_); intro v4 w4 O4 S4 W4; have L4 : Hid (Below w.heap.size w w4) := L3.out.trans (S4.out.below (fun j hj => (O3.out.block hj).1) L3.out.size); have BG4 : Hid (Blk w4 g 53 [.slice (some ⟨q, 0, none⟩) n c]) := BGW.out.below L4.out BGW.out.lt; have hv4 := O4.out.oneCD)
        | ((with_reducible show wpList _ _ _ (⟨none, .store _ _ _, _, _, _, _⟩ :: _) _ _); go_loud (refine wpList_store_fld rfl _ (.tmp 42) (.tmp 40) rfl g 0 rfl _ [.slice (some ⟨q, 0, none⟩) n c] v4 rfl BG4 (show 0 < 1 by omega) (by kernel_rfl) hv4 ?_); intro w9 B9 O9 hg9)
        | fail)
      go_ret
      exact ⟨rfl, FIN.out w4 w9 _ L4.out O4.out O9.out B9.out⟩
  · rw [hF he]
    obtain ⟨E, hE⟩ : ∃ E, E = dFindE L s := ⟨_, rfl⟩
    rw [← hE] at CF he ⊢
    have hne : (E != 0) = true := by simpa using he
    have hne2 : (E == 0) = false := by simpa using he
    obtain ⟨f1, hf1⟩ : ∃ x, x = (dFind L s).1 := ⟨_, rfl⟩
    obtain ⟨f2, hf2⟩ : ∃ x, x = (dFind L s).2 := ⟨_, rfl⟩
    rw [← hf1, ← hf2] at CF
    clear hF hE d hf1 hf2
    go_enter Tryd.func42, Tryd.ntmps42
    go_wp2_with fail
    refine CF.out.mono ?_
    rintro e w1 ⟨rfl, l1⟩
    have L1 := Lib.hid l1
    clear l1 CF
    go_wp2_with fail
    go_ret
    exact ⟨rfl, SAME.out _ L1.out⟩
end Go.Proofs.YtangkcedgelegaaDoor

namespace Go.Proofs.YtangkcedgelegaaDoor
set_option linter.all false
set_option maxRecDepth 100000
open Go.RowKit
set_option linter.unusedVariables false
theorem drew_then {w w1 w2 : World} {base g : Nat} {v v1 v2 : Value} {L2 : List DItem} (a : Spare (rdrS g v) w w1) (b : Wander w v v1) (h : RDr w2 base g v2 L2) (k : Spare (rdrS g v1) w1 w2) (m : Wander w1 v1 v2) : ∃ v', RDr w2 base g v' L2 ∧ Spare (rdrS g v) w w2 ∧ Wander w v v' :=
  ⟨v2, h, a.trans k (fun j hj hs => by
    rcases hs with rfl | hs
    · exact .inl rfl
    · rcases b j hs with h | h
      · exact .inr h
      · omega), b.trans m a.size⟩
set_option maxHeartbeats 8000000 in
theorem RRen_any (w : World) (base g : Nat) (v : Value) (L : List DItem) (d : RDr w base g v L) (hb : base ≤ w.heap.size) (s t : ByteArray) (hs : s.size ≤ 4398046511104) (ht : t.size ≤ 4398046511104) :
    Calls Tryd.prog 43 #[.pointer (some ⟨g, 0, none⟩), .string s, .string t] w (RDrPost w base g v (dRenE L s t) (dRen L s t)) := by
  have hE : dRenE L s t = if dRenC L s t = 0 then dAddE (dRem L s) t else dRenC L s t := rfl
  have hF : dRen L s t = if dRenC L s t = 0 then dAdd (dRem L s) t (dFind L s).2 else L := rfl
  have hC : dRenC L s t = if dBad s = true ∨ dBad t = true then 5 else if dHas L s = false then 7 else if dHas L t = true ∧ alk (dFind L s).1 t = false then 8 else 0 := rfl
  have hB : ∀ s, dBad s = (decide (s.size = 0) || !isText s.data.toList) := fun _ => rfl
  have SAME : Hid (∀ w', Below w.heap.size w w' → ∃ v', RDr w' base g v' L ∧ Spare (rdrS g v) w w' ∧ Wander w v v') := fun w' h => ⟨v, d.below h, Spare.of_over _ h, Wander.refl _ _⟩
  have CS : Hid (∀ w', Calls Tryd.prog 31 #[.string s] w' fun e w2 => e = .returned (.bool (isText s.data.toList)) ∧ Below w'.heap.size w' w2) := fun w' => RIs_any s w' hs
  have CT : Hid (∀ w', Calls Tryd.prog 31 #[.string t] w' fun e w2 => e = .returned (.bool (isText t.data.toList)) ∧ Below w'.heap.size w' w2) := fun w' => RIs_any t w' ht
  have CF : Hid (∀ w', Below w.heap.size w w' → Calls Tryd.prog 44 #[.pointer (some ⟨g, 0, none⟩), .string s] w' fun e w2 => e = .returned (.tuple #[.int .i64 (dFind L s).2, .string (dFind L s).1, .int .i64 (dFindE L s)]) ∧ Below w'.heap.size w' w2) := fun w' hb' => RFind_any w' base g v L (d.below hb') s hs
  have CI : Hid (∀ w', Below w.heap.size w w' → Calls Tryd.prog 61 #[.pointer (some ⟨g, 0, none⟩), .string t] w' fun e w2 => e = .returned (.int .i64 (atI L t)) ∧ Below w'.heap.size w' w2) := fun w' hb' => RAt_any w' base g v L (d.below hb') t ht
  have CR : Hid (∀ w', Below w.heap.size w w' → Calls Tryd.prog 42 #[.pointer (some ⟨g, 0, none⟩), .string s] w' (RDrPost w' base g v (dFindE L s) (dRem L s))) := fun w' hb' => RRem_any w' base g v L (d.below hb') (Nat.le_trans hb hb'.size) s hs
  unfold RDrPost at CR ⊢
  by_cases hs0 : s.size = 0
  · have e0 : dRenC L s t = 5 := by rw [hC, if_pos (.inl (by rw [hB, decide_eq_true hs0]; rfl))]
    rw [e0, if_neg (by decide)] at hE hF
    rw [hE, hF]
    have t0 : (s.toList == []) = true := by rw [empty_beq]; exact decide_eq_true hs0
    have t1 : s.toList.isEmpty = true := by rw [empty_isEmpty]; exact decide_eq_true hs0
    clear hE hF hC hB e0 d hs0
    go_enter Tryd.func43, Tryd.ntmps43
    go_wp2_with fail
    go_ret
    exact ⟨rfl, SAME.out _ (Below.refl _ _)⟩
  have s0 : (s.toList == []) = false := by rw [empty_beq]; exact decide_eq_false hs0
  have s1 : s.toList.isEmpty = false := by rw [empty_isEmpty]; exact decide_eq_false hs0
  by_cases ht0 : t.size = 0
  · have e0 : dRenC L s t = 5 := by rw [hC, if_pos (.inr (by rw [hB, decide_eq_true ht0]; rfl))]
    rw [e0, if_neg (by decide)] at hE hF
    rw [hE, hF]
    have t0 : (t.toList == []) = true := by rw [empty_beq]; exact decide_eq_true ht0
    have t1 : t.toList.isEmpty = true := by rw [empty_isEmpty]; exact decide_eq_true ht0
    clear hE hF hC hB e0 d hs0 ht0
    go_enter Tryd.func43, Tryd.ntmps43
    go_wp2_with fail
    go_ret
    exact ⟨rfl, SAME.out _ (Below.refl _ _)⟩
  have t0 : (t.toList == []) = false := by rw [empty_beq]; exact decide_eq_false ht0
  have t1 : t.toList.isEmpty = false := by rw [empty_isEmpty]; exact decide_eq_false ht0
  have hBs : dBad s = !isText s.data.toList := by rw [hB, decide_eq_false hs0, Bool.false_or]
  have hBt : dBad t = !isText t.data.toList := by rw [hB, decide_eq_false ht0, Bool.false_or]
  obtain ⟨b1, hb1⟩ : ∃ b, b = isText s.data.toList := ⟨_, rfl⟩
  obtain ⟨b2, hb2⟩ : ∃ b, b = isText t.data.toList := ⟨_, rfl⟩
  rw [← hb1] at CS hBs
  rw [← hb2] at CT hBt
  cases b1 with
  | false =>
    have e0 : dRenC L s t = 5 := by rw [hC, if_pos (.inl hBs)]
    rw [e0, if_neg (by decide)] at hE hF
    rw [hE, hF]
    clear hE hF hC hB e0 d hs0 ht0 hb1 hb2 hBs hBt
    go_enter Tryd.func43, Tryd.ntmps43
    go_wp2_with fail
    refine (CS.out _).mono ?_
    rintro e w1 ⟨rfl, l1⟩
    have L1 := Lib.hid l1
    clear l1 CS
    go_wp2_with fail
    go_ret
    exact ⟨rfl, SAME.out _ L1.out⟩
  | true =>
  cases b2 with
  | false =>
    have e0 : dRenC L s t = 5 := by rw [hC, if_pos (.inr hBt)]
    rw [e0, if_neg (by decide)] at hE hF
    rw [hE, hF]
    clear hE hF hC hB e0 d hs0 ht0 hb1 hb2 hBs hBt
    go_enter Tryd.func43, Tryd.ntmps43
    go_wp2_with fail
    refine (CS.out _).mono ?_
    rintro e w1 ⟨rfl, l1⟩
    have L1 := Lib.hid l1
    clear l1 CS
    go_wp2_with fail
    refine (CT.out _).mono ?_
    rintro e w2 ⟨rfl, l2⟩
    have L2 := Lib.hid (L1.out.trans (l2.mono L1.out.size))
    clear l2 CT L1
    go_wp2_with fail
    go_ret
    exact ⟨rfl, SAME.out _ L2.out⟩
  | true =>
  have hBs' : dBad s = false := hBs
  have hBt' : dBad t = false := hBt
  rw [hBs', hBt', if_neg (by decide)] at hC
  have hFE : dFindE L s = if dHas L s = true then 0 else 7 := by unfold dFindE; rw [hBs', if_neg (by decide)]
  by_cases hh : dHas L s = false
  · rw [if_pos hh] at hC
    rw [hC, if_neg (by decide)] at hE hF
    rw [hE, hF]
    rw [if_neg (by rw [hh]; decide)] at hFE
    rw [hFE] at CF
    obtain ⟨f1, hf1⟩ : ∃ x, x = (dFind L s).1 := ⟨_, rfl⟩
    obtain ⟨f2, hf2⟩ : ∃ x, x = (dFind L s).2 := ⟨_, rfl⟩
    rw [← hf1, ← hf2] at CF
    clear hE hF hC hB d hs0 ht0 hb1 hb2 hBs hBt hBs' hBt' hFE hh hf1 hf2 CR
    go_enter Tryd.func43, Tryd.ntmps43
    go_wp2_with fail
    refine (CS.out _).mono ?_
    rintro e w1 ⟨rfl, l1⟩
    have L1 := Lib.hid l1
    clear l1 CS
    go_wp2_with fail
    refine (CT.out _).mono ?_
    rintro e w2 ⟨rfl, l2⟩
    have L2 := Lib.hid (L1.out.trans (l2.mono L1.out.size))
    clear l2 CT L1
    go_wp2_with fail
    refine (CF.out _ L2.out).mono ?_
    rintro e w3 ⟨rfl, l3⟩
    have L3 := Lib.hid (L2.out.trans (l3.mono L2.out.size))
    clear l3 CF L2
    go_wp2_with fail
    go_ret
    exact ⟨rfl, SAME.out _ L3.out⟩
  rw [if_neg hh] at hC
  have hh' : dHas L s = true := by simpa using hh
  rw [if_pos hh'] at hFE
  rw [hFE] at CF CR
  have hown : (dFind L s).1.size ≤ 4398046511104 := d.text _ (dFind_ok hBs' hh').2.1
  have CL : Hid (∀ w', Calls Tryd.prog 62 #[.string (dFind L s).1, .string t] w' fun e w2 => e = .returned (.bool (alk (dFind L s).1 t)) ∧ Below w'.heap.size w' w2) := fun w' => RAlike2_any (dFind L s).1 t w' hown ht
  have hlen := dRem_len hFE
  have hsm := d.small
  have FIN : Hid (∀ w3 w4, Below w.heap.size w w3 → (∃ v', RDr w4 base g v' (dRem L s) ∧ Spare (rdrS g v) w3 w4 ∧ Wander w3 v v') → ∃ v4, RDr w4 base g v4 (dRem L s) ∧ Spare (rdrS g v) w w4 ∧ Wander w v v4) := fun w3 w4 h ⟨v', h1, h2, h3⟩ => ⟨v', h1, (Spare.of_over (rdrS g v) h).trans h2 fun j _ h => h, (Wander.refl w v).trans h3 h.size⟩
  have HLR : Hid ((dRem L s).length < 65536) := by show _ < _; omega
  obtain ⟨f1, hf1⟩ : ∃ x, x = (dFind L s).1 := ⟨_, rfl⟩
  obtain ⟨f2, hf2⟩ : ∃ x, x = (dFind L s).2 := ⟨_, rfl⟩
  rw [← hf1] at hC CL CF
  rw [← hf2] at hF CF
  obtain ⟨R, hR⟩ : ∃ x, x = dRem L s := ⟨_, rfl⟩
  rw [← hR] at hE hF FIN CR HLR
  by_cases hht : dHas L t = true
  · obtain ⟨k, hk⟩ : ∃ k, k = dIx L t := ⟨_, rfl⟩
    have hat : atI L t = (k : Int) := by unfold atI; rw [if_pos hht, hk]
    have hkl : k < L.length := by rw [hk]; exact dIx_lt hht
    rw [hat] at CI
    rw [hht] at hC
    obtain ⟨b, hbk⟩ : ∃ b, b = alk f1 t := ⟨_, rfl⟩
    rw [← hbk] at CL hC
    cases b with
    | false =>
      rw [if_pos ⟨rfl, rfl⟩] at hC
      rw [hC, if_neg (by decide)] at hE hF
      rw [hE, hF]
      clear hE hF hC hB d hs0 ht0 hb1 hb2 hBs hBt hBs' hBt' hFE hh hh' hf1 hf2 hR hk hat hbk hht CR hown hlen
      go_enter Tryd.func43, Tryd.ntmps43
      go_wp2_with fail
      refine (CS.out _).mono ?_
      rintro e w1 ⟨rfl, l1⟩
      have L1 := Lib.hid l1
      clear l1 CS
      go_wp2_with fail
      refine (CT.out _).mono ?_
      rintro e w2 ⟨rfl, l2⟩
      have L2 := Lib.hid (L1.out.trans (l2.mono L1.out.size))
      clear l2 CT L1
      go_wp2_with fail
      refine (CF.out _ L2.out).mono ?_
      rintro e w3 ⟨rfl, l3⟩
      have L3 := Lib.hid (L2.out.trans (l3.mono L2.out.size))
      clear l3 CF L2
      go_wp2_with fail
      refine (CI.out _ L3.out).mono ?_
      rintro e w4 ⟨rfl, l4⟩
      have L4 := Lib.hid (L3.out.trans (l4.mono L3.out.size))
      clear l4 CI L3
      go_wp2_with fail
      refine (CL.out _).mono ?_
      rintro e w5 ⟨rfl, l5⟩
      have L5 := Lib.hid (L4.out.trans (l5.mono L4.out.size))
      clear l5 CL L4
      go_wp2_with fail
      go_ret
      exact ⟨rfl, SAME.out _ L5.out⟩
    | true =>
      rw [if_neg (by decide)] at hC
      rw [hC, if_pos rfl] at hE hF
      rw [hE, hF]
      clear hE hF hC hB d hs0 ht0 hb1 hb2 hBs hBt hBs' hBt' hFE hh hh' hf1 hf2 hR hk hat hbk hht hown hlen
      go_enter Tryd.func43, Tryd.ntmps43
      go_wp2_with fail
      refine (CS.out _).mono ?_
      rintro e w1 ⟨rfl, l1⟩
      have L1 := Lib.hid l1
      clear l1 CS
      go_wp2_with fail
      refine (CT.out _).mono ?_
      rintro e w2 ⟨rfl, l2⟩
      have L2 := Lib.hid (L1.out.trans (l2.mono L1.out.size))
      clear l2 CT L1
      go_wp2_with fail
      refine (CF.out _ L2.out).mono ?_
      rintro e w3 ⟨rfl, l3⟩
      have L3 := Lib.hid (L2.out.trans (l3.mono L2.out.size))
      clear l3 CF L2
      go_wp2_with fail
      refine (CI.out _ L3.out).mono ?_
      rintro e w4 ⟨rfl, l4⟩
      have L4 := Lib.hid (L3.out.trans (l4.mono L3.out.size))
      clear l4 CI L3
      go_wp2_with fail
      refine (CL.out _).mono ?_
      rintro e w5 ⟨rfl, l5⟩
      have L5 := Lib.hid (L4.out.trans (l5.mono L4.out.size))
      clear l5 CL L4
      go_wp2_with fail
      refine (CR.out _ L5.out).mono ?_
      rintro e w6 ⟨rfl, l6⟩
      obtain ⟨v6, d6, s6, m6⟩ := FIN.out _ _ L5.out l6
      have D6 := Lib.hid d6
      have S6 := Lib.hid s6
      have M6 := Lib.hid m6
      have CA := Lib.hid (RAdd_any w6 base g v6 R d6 (Nat.le_trans hb s6.size) HLR.out t ht f2)
      unfold RDrPost at CA
      clear l6 d6 s6 m6 CR L5
      go_wp2_with fail
      refine CA.out.mono ?_
      rintro e w7 ⟨rfl, v7, d7, s7, m7⟩
      have FN : Hid (∃ v', RDr w7 base g v' (dAdd R t f2) ∧ Spare (rdrS g v) w w7 ∧ Wander w v v') := drew_then S6.out M6.out d7 s7 m7
      clear CA d7 s7 m7
      go_wp2_with fail
      go_ret
      exact ⟨rfl, FN.out⟩
  · have hat : atI L t = -1 := by unfold atI; rw [if_neg hht]
    rw [hat] at CI
    rw [if_neg (fun h => hht h.1)] at hC
    rw [hC, if_pos rfl] at hE hF
    rw [hE, hF]
    clear hE hF hC hB d hs0 ht0 hb1 hb2 hBs hBt hBs' hBt' hFE hh hh' hf1 hf2 hR hat hht hown hlen CL
    go_enter Tryd.func43, Tryd.ntmps43
    go_wp2_with fail
    refine (CS.out _).mono ?_
    rintro e w1 ⟨rfl, l1⟩
    have L1 := Lib.hid l1
    clear l1 CS
    go_wp2_with fail
    refine (CT.out _).mono ?_
    rintro e w2 ⟨rfl, l2⟩
    have L2 := Lib.hid (L1.out.trans (l2.mono L1.out.size))
    clear l2 CT L1
    go_wp2_with fail
    refine (CF.out _ L2.out).mono ?_
    rintro e w3 ⟨rfl, l3⟩
    have L3 := Lib.hid (L2.out.trans (l3.mono L2.out.size))
    clear l3 CF L2
    go_wp2_with fail
    refine (CI.out _ L3.out).mono ?_
    rintro e w4 ⟨rfl, l4⟩
    have L4 := Lib.hid (L3.out.trans (l4.mono L3.out.size))
    clear l4 CI L3
    go_wp2_with fail
    refine (CR.out _ L4.out).mono ?_
    rintro e w6 ⟨rfl, l6⟩
    obtain ⟨v6, d6, s6, m6⟩ := FIN.out _ _ L4.out l6
    have D6 := Lib.hid d6
    have S6 := Lib.hid s6
    have M6 := Lib.hid m6
    have CA := Lib.hid (RAdd_any w6 base g v6 R d6 (Nat.le_trans hb s6.size) HLR.out t ht f2)
    unfold RDrPost at CA
    clear l6 d6 s6 m6 CR L4
    go_wp2_with fail
    refine CA.out.mono ?_
    rintro e w7 ⟨rfl, v7, d7, s7, m7⟩
    have FN : Hid (∃ v', RDr w7 base g v' (dAdd R t f2) ∧ Spare (rdrS g v) w w7 ∧ Wander w v v') := drew_then S6.out M6.out d7 s7 m7
    clear CA d7 s7 m7
    go_wp2_with fail
    go_ret
    exact ⟨rfl, FN.out⟩
end Go.Proofs.YtangkcedgelegaaDoor

namespace Go.Proofs.YtangkcedgelegaaDoor
set_option linter.all false
open Go.RowKit Go.ChangeShapes Go.WideShapes
set_option linter.unusedVariables false
section
variable {H : Type} {enc : TypeId × Value → H} {P : Program} {W : World} {base : Nat} {t e : TypeId} {v : Value} {d : DataW H} {p : List MemPlace}
theorem bulk_fld {l : List (DataW H)} {x : DataW H} (h : x ∈ l) : Rows.uptoBulk x < Rows.uptoBulk (.agg l) := by
  have := bulk_memL h
  simp only [Rows.uptoBulk]
  omega
/-- a slice of structs that came in: all of its room -/
theorem open_rows {α : Type} [Inhabited α] {f : α → List Value} {s q : Nat} {ok : α → Prop} {g : α → Nat} (ht : P.underlying t = some (.slice e)) (hc : P.cellsOf e = s) (hs : 0 < s) (hb : P.bytesOf e = q) (hfl : ∀ y, (f y).length = s)
    (hel : ∀ (n : Nat) (cs : List Value) (x : DataW H × List MemPlace), DataW.trod enc P W 0 (fun _ => true) true n e cs = some x → (∀ k ∈ x.1.weights P e, k ≤ reachBytes) → ∃ y : α, cs = f y ∧ ok y ∧ g y < Rows.uptoBulk x.1)
    (hv : Value.okWide P W .any base t v) (hk : DataW.Trod enc P W 0 (fun _ => true) true t v d p) (hw : ∀ n ∈ d.weights P t, n ≤ reachBytes) :
    ∃ A n c zs, v = .slice A n c ∧ n ≤ c ∧ c * q ≤ 140737488351232 ∧ c < Rows.uptoBulk d ∧ HoldsS f s W W.heap.size A c c zs ∧ ∀ z ∈ zs, ok z ∧ g z < Rows.uptoBulk d := by
  obtain ⟨A, n, c, rfl⟩ := okWide_slice ht hv
  obtain ⟨fuel, hf⟩ := hk
  rcases Go.Deep.open_slice ht hf with ⟨hcs, hx⟩ | ⟨a, len, cap, m, n', D, Pl, hcs, _, hl, hm, hmm, hx, hcell⟩
  · simp [Value.cells] at hcs
    obtain ⟨rfl, rfl, rfl⟩ := hcs
    exact ⟨none, 0, 0, [], rfl, Nat.le_refl _, by omega, bulk_one_le _, HoldsS.nil _ _ _ _, fun z h => by cases h⟩
  · simp [Value.cells] at hcs
    obtain ⟨rfl, rfl, rfl⟩ := hcs
    simp only [Prod.mk.injEq] at hx
    obtain ⟨rfl, rfl⟩ := hx
    simp only [if_true] at hmm
    subst hmm
    simp only [DataW.weights, ht, hb] at hw
    have hcap : m * q ≤ 140737488351232 := by
      have h1 := hw _ List.mem_cons_self
      simp only [reachBytes, List.length_map, List.length_range] at h1
      rw [show n + (m - n) = m by omega] at h1
      omega
    have hwi : ∀ i, i < m → ∀ k ∈ (D i).weights P e, k ≤ reachBytes := fun i hi k hk => hw k (List.mem_cons_of_mem _ (List.mem_append.2 (by
      by_cases hin : i < n
      · left
        exact weights_all (List.mem_map.2 ⟨i, List.mem_range.2 hin, rfl⟩) hk
      · right
        refine weights_all (List.mem_map.2 ⟨i - n, List.mem_range.2 (by omega), rfl⟩) ?_
        rw [show n + (i - n) = i by omega]
        exact hk)))
    rw [hc] at hcell
    have each : ∀ i, i < m → ∃ y : α, W.cells? 0 (a.add (i * s)) s = some (f y) ∧ ok y ∧ g y < Rows.uptoBulk (D i) := fun i hi => by
      obtain ⟨cs', h1, h2⟩ := hcell i hi
      obtain ⟨y, rfl, hy⟩ := hel _ _ _ h2 (hwi i hi)
      exact ⟨y, h1, hy⟩
    obtain ⟨Y, hY⟩ := Go.Deep.choose_lt each
    have hbk : ∀ i, i < m → Rows.uptoBulk (D i) < Rows.uptoBulk (DataW.slice ((List.range n).map D) ((List.range (m - n)).map fun j => D (n + j))) := fun i hi => by
      simp only [Rows.uptoBulk]
      rcases Nat.lt_or_ge i n with h | h
      · have := bulk_memL (l := (List.range n).map D) (List.mem_map.2 ⟨i, List.mem_range.2 h, rfl⟩)
        omega
      · have := bulk_memL (l := (List.range (m - n)).map fun j => D (n + j)) (List.mem_map.2 ⟨i - n, List.mem_range.2 (by omega), rfl⟩)
        rw [show n + (i - n) = i from by omega] at this
        omega
    refine ⟨some a, n, m, (List.range m).map Y, rfl, hl, hcap, ?_, ⟨by simp, Nat.le_refl _, (fun hA => by cases hA), fun h0 => ?_⟩, fun z hz => ?_⟩
    · have h1 := bulk_length_le ((List.range n).map D)
      have h2 := bulk_length_le ((List.range (m - n)).map fun j => D (n + j))
      rw [List.length_map, List.length_range] at h1 h2
      simp only [Rows.uptoBulk]
      omega
    · obtain ⟨b, off, spot⟩ := a
      obtain ⟨_, h01, h02⟩ := World.cells?_some (hY 0 h0).1
      have hf0 : 0 < (f (Y 0)).length := by rw [hfl]; exact hs
      have h03 := h02 0 (by omega)
      rw [List.getElem?_eq_getElem hf0] at h03
      have hspot : spot = none := by simpa [Addr.add] using World.cell?_spot h03
      subst hspot
      have add_at : ∀ i, (⟨b, off, none⟩ : Addr).add i = ⟨b, off + i, none⟩ := fun i => by
        by_cases hj0 : i = 0
        · subst hj0; simp [Addr.add]
        · simp [Addr.add, hj0]
      have add_at2 : ∀ i j, (⟨b, off + i, none⟩ : Addr).add j = ⟨b, off + (i + j), none⟩ := fun i j => by
        by_cases hj0 : j = 0
        · subst hj0; simp [Addr.add]
        · simp [Addr.add, hj0, Nat.add_assoc]
      refine ⟨b, off, rfl, ?_, fun i z hi j u hj => ?_⟩
      · have := World.block_lt_of_cell? W _ h03
        simpa [Addr.add] using this
      · rw [List.getElem?_map] at hi
        have him : i < m := by
          rcases Nat.lt_or_ge i m with h | h
          · exact h
          · rw [List.getElem?_eq_none (by simpa using h)] at hi; cases hi
        rw [List.getElem?_range him] at hi
        injection hi with hi
        subst hi
        obtain ⟨_, _, h2⟩ := World.cells?_some (hY i him).1
        have hjl : j < s := by rw [← hfl (Y i)]; exact (List.getElem?_eq_some_iff.1 hj).1
        have h3 := h2 j hjl
        rw [add_at, add_at2, hj] at h3
        exact h3
    · obtain ⟨i, hi, rfl⟩ := List.mem_map.1 hz
      have hi' := List.mem_range.1 hi
      exact ⟨(hY i hi').2.1, Nat.lt_trans (hY i hi').2.2 (hbk i hi')⟩
end
end Go.Proofs.YtangkcedgelegaaDoor

namespace Go.Proofs.YtangkcedgelegaaDoor
set_option linter.all false
open Go.RowKit Go.ChangeShapes Go.WideShapes
set_option linter.unusedVariables false
set_option maxRecDepth 100000
theorem dactCells_len (a : DActV) : (dactCells a).length = 4 := rfl
section
variable {R : Nat} {w w' : World} {B B' : Nat} {A : Option Addr} {n c : Nat} {l : List DActV}
end
section
variable {H : Type} {enc : TypeId × Value → H} {W : World} {base : Nat} {v : Value} {d : DataW H} {p : List MemPlace}
def dactMax (a : DActV) : Nat := max a.name.size a.nto.size
theorem trod_dact (n : Nat) (cs : List Value) (x : DataW H × List MemPlace) (hf : DataW.trod enc Tryd.prog W 0 (fun _ => true) true n 56 cs = some x) (hw : ∀ k ∈ x.1.weights Tryd.prog 56, k ≤ reachBytes) :
    ∃ l : DActV, cs = dactCells l ∧ ((-9223372036854775808 ≤ l.act ∧ l.act ≤ 9223372036854775807) ∧ (-9223372036854775808 ≤ l.num ∧ l.num ≤ 9223372036854775807)) ∧ dactMax l < Rows.uptoBulk x.1 := by
  obtain ⟨xs, m, _, hd, hl, hx, hel⟩ := DataW.trod_struct Tryd.underlying56 hf
  have hx4 : xs.length = 4 := hx
  have h4 : cs.length = 4 := hl.trans (by kernel_rfl)
  have some_at : ∀ i, i < 4 → ∃ z, xs[i]? = some z := fun i hi => ⟨xs[i], List.getElem?_eq_getElem (by omega)⟩
  have ci : Tryd.prog.cellsOf 3 = 1 := by kernel_rfl
  have cs1 : Tryd.prog.cellsOf 9 = 1 := by kernel_rfl
  have e0 := hel 0 _ rfl
  have e1 := hel 1 _ rfl
  have e2 := hel 2 _ rfl
  have e3 := hel 3 _ rfl
  change DataW.trod enc Tryd.prog W 0 (fun _ => true) true m 3 ((cs.drop 0).take (Tryd.prog.cellsOf 3)) = xs[0]? at e0
  change DataW.trod enc Tryd.prog W 0 (fun _ => true) true m 9 ((cs.drop 1).take (Tryd.prog.cellsOf 9)) = xs[1]? at e1
  change DataW.trod enc Tryd.prog W 0 (fun _ => true) true m 9 ((cs.drop 2).take (Tryd.prog.cellsOf 9)) = xs[2]? at e2
  change DataW.trod enc Tryd.prog W 0 (fun _ => true) true m 3 ((cs.drop 3).take (Tryd.prog.cellsOf 3)) = xs[3]? at e3
  rw [ci] at e0 e3
  rw [cs1] at e1 e2
  obtain ⟨z0, q0⟩ := some_at 0 (by omega)
  obtain ⟨z1, q1⟩ := some_at 1 (by omega)
  obtain ⟨z2, q2⟩ := some_at 2 (by omega)
  obtain ⟨z3, q3⟩ := some_at 3 (by omega)
  rw [q0] at e0
  rw [q1] at e1
  rw [q2] at e2
  rw [q3] at e3
  obtain ⟨x0, d0, _, w0⟩ := DataW.trod_int Tryd.underlying3 e0
  obtain ⟨x1, d1, b1, _⟩ := DataW.trod_string Tryd.underlying9 e1
  obtain ⟨x2, d2, b2, _⟩ := DataW.trod_string Tryd.underlying9 e2
  obtain ⟨x3, d3, _, w3⟩ := DataW.trod_int Tryd.underlying3 e3
  have hxd : x.1 = .agg (xs.map (·.1)) := by rw [hd]
  have g1 : (xs.map (·.1))[1]? = some z1.1 := by rw [List.getElem?_map, q1]; rfl
  have g2 : (xs.map (·.1))[2]? = some z2.1 := by rw [List.getElem?_map, q2]; rfl
  have f1 := bulk_fld (List.mem_of_getElem? g1)
  have f2 := bulk_fld (List.mem_of_getElem? g2)
  rw [← hxd] at f1 f2
  rw [b1] at f1
  rw [b2] at f2
  simp only [Rows.uptoBulk] at f1 f2
  have s1 : x1.data.toList.length = x1.size := by rw [Array.length_toList]; rfl
  have s2 : x2.data.toList.length = x2.size := by rw [Array.length_toList]; rfl
  refine ⟨⟨x0, x1, x2, x3⟩, ?_, ⟨int_bounds_i64 w0, int_bounds_i64 w3⟩, ?_⟩
  · match cs, h4 with
    | [a, b, c, d], _ =>
      cases d0
      cases d1
      cases d2
      cases d3
      rfl
  · show max x1.size x2.size < _
    omega
/-- a list of acts that came in, by bulk -/
theorem open_dacts (hv : Value.okWide Tryd.prog W .any base 22 v) (hk : DataW.Trod enc Tryd.prog W 0 (fun _ => true) true 22 v d p) (hw : ∀ n ∈ d.weights Tryd.prog 22, n ≤ reachBytes) (hb : Rows.uptoBulk d ≤ 1048576) :
    ∃ A n c l, v = .slice A n c ∧ n ≤ c ∧ c ≤ 1048576 ∧ LDAct 1048576 W W.heap.size A n c l := by
  obtain ⟨A, n, c, zs, rfl, h1, h2, h3, h4, h5⟩ := open_rows (f := dactCells) (s := 4) (q := 48) (ok := fun l : DActV => (-9223372036854775808 ≤ l.act ∧ l.act ≤ 9223372036854775807) ∧ (-9223372036854775808 ≤ l.num ∧ l.num ≤ 9223372036854775807)) (g := dactMax) Tryd.underlying22 (by kernel_rfl) (by omega) (by kernel_rfl) dactCells_len trod_dact hv hk hw
  refine ⟨A, n, c, zs.take n, rfl, h1, by omega, ⟨h4.head h1, fun x hx => ?_⟩⟩
  obtain ⟨⟨k1, k2⟩, k3⟩ := h5 x (List.mem_of_mem_take hx)
  have k3 : max x.name.size x.nto.size < _ := k3
  exact ⟨k1, k2, by omega, by omega⟩
end
end Go.Proofs.YtangkcedgelegaaDoor

namespace Go.Proofs.YtangkcedgelegaaDoor
set_option linter.all false
set_option maxRecDepth 100000
open Go.RowKit
set_option linter.unusedVariables false
section
variable {I : DirI} {w w' : World} {b q g : Nat} {S S' : Nat → Prop} {v v' : Value} {L L' M M' : List DItem}
theorem TwoD.below1 (h : TwoD I w b q S g v L M) (a : Spare S w w') : Below b w w' := a.below (fun j hj => (I.ge h.x j hj).1) h.hb
theorem TwoD.below2 (h : TwoD I w b q S g v L M) (a : Spare (rdrS g v) w w') : Below b w w' := a.below (fun j hj => (h.r.set_lt j hj).1) h.hb
end
/-- what an act comes to -/
def dAct (a : DActV) (L : List DItem) : List DItem := if a.act = 1 then dAdd L a.name a.num else if a.act = 2 then dRem L a.name else if a.act = 3 then dRen L a.name a.nto else L
theorem dAct_le {a : DActV} {L : List DItem} : (dAct a L).length ≤ L.length + 1 := by
  unfold dAct
  split
  · exact dAdd_le
  · split
    · have := dRem_le (L := L) (s := a.name)
      omega
    · split
      · exact dRen_le
      · omega
/-- what so many acts come to -/
def dActs (l : List DActV) (k : Nat) : List DItem := (l.take k).foldl (fun L a => dAct a L) []
theorem dActs_succ {l : List DActV} {k : Nat} {a : DActV} (h : l[k]? = some a) : dActs l (k + 1) = dAct a (dActs l k) := by
  obtain ⟨h1, h2⟩ := List.getElem?_eq_some_iff.1 h
  unfold dActs
  rw [List.take_succ_eq_append_getElem h1, List.foldl_append, h2]
  rfl
theorem dActs_le {l : List DActV} (k : Nat) : (dActs l k).length ≤ k := by
  induction k with
  | zero => exact Nat.le_refl _
  | succ k ih =>
    rcases Nat.lt_or_ge k l.length with h | h
    · rw [dActs_succ (List.getElem?_eq_getElem h)]
      exact Nat.le_trans dAct_le (by omega)
    · have e : dActs l (k + 1) = dActs l k := by
        unfold dActs
        rw [List.take_of_length_le h, List.take_of_length_le (by omega)]
      rw [e]
      omega
section
variable {P : Program} {ops : Array Oper} {md : Region.Mode} {S S' : World → Prop} {Q : Exit → Act → World → Prop}
/-- a stronger condition serves -/
theorem wpAnyH_more (hS : ∀ w, S' w → S w) : ∀ (fuel : Nat) (listed : Array Bool) (a : Act) (w : World), wpAnyH P md ops Q S' fuel listed a w → wpAnyH P md ops Q S fuel listed a w
  | 0, _, _, _, h => h
  | fuel + 1, _, _, _, h => ⟨h.1, fun i hi => wpOp_mono (fun a' w' h' => ⟨hS _ h'.1, wpAnyH_more hS fuel _ a' w' h'.2⟩) (h.2 i hi)⟩
/-- a struct out of a row, taken first -/
theorem yieldsIf_load_rng {op : Oper} {a : Act} (hw : Region.wanted op (yielded ops a.tmps) = true) (T : TypeId) (x : Operand) (ho : op.op = .load T x) (g i : Nat) (hx : a.eval x = .pointer (some ⟨g, i, none⟩)) (cs : List Value)
    (hS : ∀ w, S w → w.rangeAt g i cs) (n : Nat) (d : TypeDesc) (hu : P.underlying T = some d) (hd : d.isRow = true) (hi : (P.info? T).map (·.size) = some n) (hn : Hid (cs.length = n)) : YieldsIf P ops S op (.agg cs.toArray) a :=
  .inl ⟨hw, fun w hw' => by
    unfold execOp
    simp only [ho, hx, Instr.loadAt, Instr.sureAddr, Sem.run_bind, Sem.run_pure, Result.andThen_ok, run_loadVar_mid w g i T cs d (hS w hw') hu hd (by rw [hi, hn.out])]⟩
end
theorem rng_below {w w' : World} {B b i : Nat} {cs : List Value} (h : w.rangeAt b i cs) (hb : Below B w w') (hlt : b < B) : w'.rangeAt b i cs := fun j v hj => by
  rw [hb.cell (p := ⟨b, i + j, none⟩) hlt]
  exact h j v hj
theorem size_dact : (Tryd.prog.info? 56).map (·.size) = some 4 := by kernel_rfl
end Go.Proofs.YtangkcedgelegaaDoor

namespace Go.Proofs.YtangkcedgelegaaDoor
set_option linter.all false
set_option maxRecDepth 100000
open Go.RowKit
set_option linter.unusedVariables false
def DActPost (I : DirI) (w : World) (b q g : Nat) (a : DActV) (L : List DItem) (e : Ending) (w' : World) : Prop :=
  e = .returned (.bool true) ∧ ∃ S' v', TwoD I w' b q S' g v' (dAct a L) (dAct a L) ∧ Below b w w'
set_option maxHeartbeats 8000000 in
theorem DAct_any (I : DirI) (w : World) (b q : Nat) (S : Nat → Prop) (g : Nat) (v : Value) (L : List DItem) (a : DActV) (h : TwoD I w b q S g v L L) (ha : DActOk 1048576 a) (hl : L.length < 4096) :
    Calls Tryd.prog 24 #[ptrD q, .pointer (some ⟨g, 0, none⟩), .agg (dactCells a).toArray] w (DActPost I w b q g a L) := by
  have H0 := Lib.hid h
  have HA := Lib.hid ha
  have HSZ := h.hb
  have HAB : Hid (∀ k, a.act = k → dAct a L = (if k = 1 then dAdd L a.name a.num else if k = 2 then dRem L a.name else if k = 3 then dRen L a.name a.nto else L)) := fun k hk => by
    unfold dAct
    rw [hk]
  have HCS : Hid (dactCells a = [.int .i64 a.act, .string a.name, .string a.nto, .int .i64 a.num]) := rfl
  have HN1 : Hid (a.name.size ≤ 4398046511104) := Nat.le_trans ha.name (by decide)
  have HN2 : Hid (a.nto.size ≤ 4398046511104) := Nat.le_trans ha.nto (by decide)
  have HLL : Hid (L.length < 65536) := by show _ < _; omega
  obtain ⟨cs, hcs⟩ : ∃ cs, cs = dactCells a := ⟨_, rfl⟩
  rw [← hcs] at HCS ⊢
  clear h ha hcs
  rcases (by omega : a.act = 1 ∨ a.act = 2 ∨ a.act = 3 ∨ a.act = 4 ∨ (¬ a.act = 1 ∧ ¬ a.act = 2 ∧ ¬ a.act = 3 ∧ ¬ a.act = 4)) with h1 | h1 | h1 | h1 | ⟨h1, h2, h3, h4⟩
  · go_enter Tryd.func24, Tryd.ntmps24
    go_upto_region 1 with (first
      | ((with_reducible show wpList _ _ _ (⟨some 5, _, _, _, _, _⟩ :: _) _ _); refine wpList_box_blk rfl _ (.tmp 2) rfl cs rfl ?_; intro k w1 hk1 hk2 k1 l1)
      | fail)
    have K1 : Hid (Blk w1 k 56 [.int .i64 a.act, .string a.name, .string a.nto, .int .i64 a.num]) := by have := k1.out; rw [HCS.out] at this; exact this
    have c0 := K1.out.cell 0
    have c1 := K1.out.cell 1
    have c2 := K1.out.cell 2
    have c3 := K1.out.cell 3
    have HKS : Hid (¬ S k) := fun h => by have := (I.ge H0.out.x k h).2; omega
    have HKR : Hid (¬ rdrS g v k) := fun h => by have := H0.out.r.set_lt k h; omega
    have T1 := Lib.hid (H0.out.below l1.out)
    have T1d : Hid (TwoD I w1.drew b q S g v L L) := T1.out.below (drewed w1 1)
    clear k1
    rw [h1] at c0
    go_upto_region 3 with fail
    refine wp_region_held (S := fun w' => Blk w' k 56 [.int .i64 a.act, .string a.name, .string a.nto, .int .i64 a.num]) (by kernel_rfl) ?_
    change wpAnyH _ _ _ _ _ _ _ _ w1.drew
    have Ss0 : Hid (Blk w1.drew k 56 [.int .i64 a.act, .string a.name, .string a.nto, .int .i64 a.num]) := K1.out
    have bs0 : Hid (True) := trivial
    refine wpAnyH_take (i := 0) (v := _) rfl (by kernel_rfl) (by kernel_rfl) (by kernel_rfl) (fun _ _ _ h => h) (yieldsIf_move (by kernel_rfl) (.tmp 0) rfl (ptrD q) (by kernel_rfl)) Ss0.out ?_
    refine wpAnyH_take (i := 1) (v := _) rfl (by kernel_rfl) (by kernel_rfl) (by kernel_rfl) (fun _ _ _ h => h) (yieldsIf_fld (by kernel_rfl) _ (.tmp 5) 1 rfl (.pointer (some ⟨k, 0, none⟩)) (.pointer (some ⟨k, 1, none⟩)) (by kernel_rfl) (fun w => by go_simp)) Ss0.out ?_
    refine wpAnyH_take (i := 2) (v := _) rfl (by kernel_rfl) (by kernel_rfl) (by kernel_rfl) (fun _ _ _ h => h) (yieldsIf_load_one (by kernel_rfl) _ (.tmp 18) rfl k (1) (by kernel_rfl) (.string a.name) (fun _ h => h.cell 1) _ Tryd.underlying9 rfl) Ss0.out ?_
    refine wpAnyH_take (i := 3) (v := _) rfl (by kernel_rfl) (by kernel_rfl) (by kernel_rfl) (fun _ _ _ h => h) (yieldsIf_fld (by kernel_rfl) _ (.tmp 5) 3 rfl (.pointer (some ⟨k, 0, none⟩)) (.pointer (some ⟨k, 3, none⟩)) (by kernel_rfl) (fun w => by go_simp)) Ss0.out ?_
    refine wpAnyH_take (i := 4) (v := _) rfl (by kernel_rfl) (by kernel_rfl) (by kernel_rfl) (fun _ _ _ h => h) (yieldsIf_load_one (by kernel_rfl) _ (.tmp 20) rfl k (3) (by kernel_rfl) (.int .i64 a.num) (fun _ h => h.cell 3) _ Tryd.underlying3 rfl) Ss0.out ?_
    refine wpAnyH_take (i := 6) (v := _) rfl (by kernel_rfl) (by kernel_rfl) (by kernel_rfl) (fun _ _ _ h => h) (yieldsIf_move (by kernel_rfl) (.tmp 1) rfl (.pointer (some ⟨g, 0, none⟩)) (by kernel_rfl)) Ss0.out ?_
    refine wpAnyH_take (i := 7) (v := _) rfl (by kernel_rfl) (by kernel_rfl) (by kernel_rfl) (fun _ _ _ h => h) (yieldsIf_fld (by kernel_rfl) _ (.tmp 5) 1 rfl (.pointer (some ⟨k, 0, none⟩)) (.pointer (some ⟨k, 1, none⟩)) (by kernel_rfl) (fun w => by go_simp)) Ss0.out ?_
    refine wpAnyH_take (i := 8) (v := _) rfl (by kernel_rfl) (by kernel_rfl) (by kernel_rfl) (fun _ _ _ h => h) (yieldsIf_load_one (by kernel_rfl) _ (.tmp 24) rfl k (1) (by kernel_rfl) (.string a.name) (fun _ h => h.cell 1) _ Tryd.underlying9 rfl) Ss0.out ?_
    refine wpAnyH_take (i := 9) (v := _) rfl (by kernel_rfl) (by kernel_rfl) (by kernel_rfl) (fun _ _ _ h => h) (yieldsIf_fld (by kernel_rfl) _ (.tmp 5) 3 rfl (.pointer (some ⟨k, 0, none⟩)) (.pointer (some ⟨k, 3, none⟩)) (by kernel_rfl) (fun w => by go_simp)) Ss0.out ?_
    refine wpAnyH_take (i := 10) (v := _) rfl (by kernel_rfl) (by kernel_rfl) (by kernel_rfl) (fun _ _ _ h => h) (yieldsIf_load_one (by kernel_rfl) _ (.tmp 26) rfl k (3) (by kernel_rfl) (.int .i64 a.num) (fun _ h => h.cell 3) _ Tryd.underlying3 rfl) Ss0.out ?_
    refine wpAnyH_one 5 _ (by kernel_rfl) rfl fun K hK => ?_
    go_simp
    refine (I.add T1d.out.x T1d.out.tb T1d.out.hb HA.out.name HA.out.num hl).mono ?_
    rintro e vs1 ⟨rfl, S1, x1, a1, n1⟩
    have Ss1 : Hid (Blk vs1 k 56 [.int .i64 a.act, .string a.name, .string a.nto, .int .i64 a.num]) := Ss0.out.spare a1 fun h => HKS.out h
    have bs1 : Hid (True) := trivial
    have T2 := Lib.hid (T1d.out.left x1 a1 n1)
    have L2 := Lib.hid (T1d.out.below1 a1)
    clear x1 n1
    refine hK _ _ Ss1.out ?_
    clear hK K 
    refine wpAnyH_one 11 _ (by kernel_rfl) rfl fun K hK => ?_
    go_simp
    refine (RAdd_any _ b g v L T2.out.r T2.out.hb HLL.out a.name HN1.out a.num).mono ?_
    rintro e vs2 ⟨rfl, v', r1, a2, n2⟩
    have Ss2 : Hid (Blk vs2 k 56 [.int .i64 a.act, .string a.name, .string a.nto, .int .i64 a.num]) := Ss1.out.spare a2 fun h => HKR.out h
    have bs2 : Hid (True) := trivial
    have T3 := Lib.hid (T2.out.right r1 a2 n2)
    have L3 := Lib.hid (T2.out.below2 a2)
    clear r1 n2
    refine hK _ _ Ss2.out ?_
    clear hK K 
    refine wpAnyH_one 12 _ (by kernel_rfl) rfl fun K hK => ?_
    go_simp
    refine hK _ _ Ss2.out ?_
    clear hK K
    refine wpAnyH_one 13 _ (by kernel_rfl) rfl fun K hK => ?_
    go_simp
    refine hK _ _ Ss2.out ?_
    clear hK K
    refine wpAnyH_done (by kernel_rfl) ?_ _
    go_wp2_with fail
    go_ret
    have e1 := HAB.out 1 h1
    exact ⟨rfl, _, _, by rw [e1]; exact T3.out, ((l1.out.mono HSZ).trans (((drewed w1 1).mono (Nat.le_trans HSZ l1.out.size)).trans L2.out)).trans L3.out⟩
  · go_enter Tryd.func24, Tryd.ntmps24
    go_upto_region 1 with (first
      | ((with_reducible show wpList _ _ _ (⟨some 5, _, _, _, _, _⟩ :: _) _ _); refine wpList_box_blk rfl _ (.tmp 2) rfl cs rfl ?_; intro k w1 hk1 hk2 k1 l1)
      | fail)
    have K1 : Hid (Blk w1 k 56 [.int .i64 a.act, .string a.name, .string a.nto, .int .i64 a.num]) := by have := k1.out; rw [HCS.out] at this; exact this
    have c0 := K1.out.cell 0
    have c1 := K1.out.cell 1
    have c2 := K1.out.cell 2
    have c3 := K1.out.cell 3
    have HKS : Hid (¬ S k) := fun h => by have := (I.ge H0.out.x k h).2; omega
    have HKR : Hid (¬ rdrS g v k) := fun h => by have := H0.out.r.set_lt k h; omega
    have T1 := Lib.hid (H0.out.below l1.out)
    have T1d : Hid (TwoD I w1.drew b q S g v L L) := T1.out.below (drewed w1 1)
    clear k1
    rw [h1] at c0
    go_upto_region 5 with fail
    refine wp_region_held (S := fun w' => Blk w' k 56 [.int .i64 a.act, .string a.name, .string a.nto, .int .i64 a.num]) (by kernel_rfl) ?_
    change wpAnyH _ _ _ _ _ _ _ _ w1.drew
    have Ss0 : Hid (Blk w1.drew k 56 [.int .i64 a.act, .string a.name, .string a.nto, .int .i64 a.num]) := K1.out
    have bs0 : Hid (True) := trivial
    refine wpAnyH_take (i := 0) (v := _) rfl (by kernel_rfl) (by kernel_rfl) (by kernel_rfl) (fun _ _ _ h => h) (yieldsIf_move (by kernel_rfl) (.tmp 0) rfl (ptrD q) (by kernel_rfl)) Ss0.out ?_
    refine wpAnyH_take (i := 1) (v := _) rfl (by kernel_rfl) (by kernel_rfl) (by kernel_rfl) (fun _ _ _ h => h) (yieldsIf_fld (by kernel_rfl) _ (.tmp 5) 1 rfl (.pointer (some ⟨k, 0, none⟩)) (.pointer (some ⟨k, 1, none⟩)) (by kernel_rfl) (fun w => by go_simp)) Ss0.out ?_
    refine wpAnyH_take (i := 2) (v := _) rfl (by kernel_rfl) (by kernel_rfl) (by kernel_rfl) (fun _ _ _ h => h) (yieldsIf_load_one (by kernel_rfl) _ (.tmp 33) rfl k (1) (by kernel_rfl) (.string a.name) (fun _ h => h.cell 1) _ Tryd.underlying9 rfl) Ss0.out ?_
    refine wpAnyH_take (i := 4) (v := _) rfl (by kernel_rfl) (by kernel_rfl) (by kernel_rfl) (fun _ _ _ h => h) (yieldsIf_move (by kernel_rfl) (.tmp 1) rfl (.pointer (some ⟨g, 0, none⟩)) (by kernel_rfl)) Ss0.out ?_
    refine wpAnyH_take (i := 5) (v := _) rfl (by kernel_rfl) (by kernel_rfl) (by kernel_rfl) (fun _ _ _ h => h) (yieldsIf_fld (by kernel_rfl) _ (.tmp 5) 1 rfl (.pointer (some ⟨k, 0, none⟩)) (.pointer (some ⟨k, 1, none⟩)) (by kernel_rfl) (fun w => by go_simp)) Ss0.out ?_
    refine wpAnyH_take (i := 6) (v := _) rfl (by kernel_rfl) (by kernel_rfl) (by kernel_rfl) (fun _ _ _ h => h) (yieldsIf_load_one (by kernel_rfl) _ (.tmp 37) rfl k (1) (by kernel_rfl) (.string a.name) (fun _ h => h.cell 1) _ Tryd.underlying9 rfl) Ss0.out ?_
    refine wpAnyH_one 3 _ (by kernel_rfl) rfl fun K hK => ?_
    go_simp
    refine (I.remove T1d.out.x T1d.out.tb T1d.out.hb HA.out.name).mono ?_
    rintro e vs1 ⟨rfl, S1, x1, a1, n1⟩
    have Ss1 : Hid (Blk vs1 k 56 [.int .i64 a.act, .string a.name, .string a.nto, .int .i64 a.num]) := Ss0.out.spare a1 fun h => HKS.out h
    have bs1 : Hid (True) := trivial
    have T2 := Lib.hid (T1d.out.left x1 a1 n1)
    have L2 := Lib.hid (T1d.out.below1 a1)
    clear x1 n1
    refine hK _ _ Ss1.out ?_
    clear hK K 
    refine wpAnyH_one 7 _ (by kernel_rfl) rfl fun K hK => ?_
    go_simp
    refine (RRem_any _ b g v L T2.out.r T2.out.hb a.name HN1.out).mono ?_
    rintro e vs2 ⟨rfl, v', r1, a2, n2⟩
    have Ss2 : Hid (Blk vs2 k 56 [.int .i64 a.act, .string a.name, .string a.nto, .int .i64 a.num]) := Ss1.out.spare a2 fun h => HKR.out h
    have bs2 : Hid (True) := trivial
    have T3 := Lib.hid (T2.out.right r1 a2 n2)
    have L3 := Lib.hid (T2.out.below2 a2)
    clear r1 n2
    refine hK _ _ Ss2.out ?_
    clear hK K 
    refine wpAnyH_one 8 _ (by kernel_rfl) rfl fun K hK => ?_
    go_simp
    refine hK _ _ Ss2.out ?_
    clear hK K
    refine wpAnyH_one 9 _ (by kernel_rfl) rfl fun K hK => ?_
    go_simp
    refine hK _ _ Ss2.out ?_
    clear hK K
    refine wpAnyH_done (by kernel_rfl) ?_ _
    go_wp2_with fail
    go_ret
    have e1 := HAB.out 2 h1
    exact ⟨rfl, _, _, by rw [e1]; exact T3.out, ((l1.out.mono HSZ).trans (((drewed w1 1).mono (Nat.le_trans HSZ l1.out.size)).trans L2.out)).trans L3.out⟩
  · go_enter Tryd.func24, Tryd.ntmps24
    go_upto_region 1 with (first
      | ((with_reducible show wpList _ _ _ (⟨some 5, _, _, _, _, _⟩ :: _) _ _); refine wpList_box_blk rfl _ (.tmp 2) rfl cs rfl ?_; intro k w1 hk1 hk2 k1 l1)
      | fail)
    have K1 : Hid (Blk w1 k 56 [.int .i64 a.act, .string a.name, .string a.nto, .int .i64 a.num]) := by have := k1.out; rw [HCS.out] at this; exact this
    have c0 := K1.out.cell 0
    have c1 := K1.out.cell 1
    have c2 := K1.out.cell 2
    have c3 := K1.out.cell 3
    have HKS : Hid (¬ S k) := fun h => by have := (I.ge H0.out.x k h).2; omega
    have HKR : Hid (¬ rdrS g v k) := fun h => by have := H0.out.r.set_lt k h; omega
    have T1 := Lib.hid (H0.out.below l1.out)
    have T1d : Hid (TwoD I w1.drew b q S g v L L) := T1.out.below (drewed w1 1)
    clear k1
    rw [h1] at c0
    go_upto_region 7 with fail
    refine wp_region_held (S := fun w' => Blk w' k 56 [.int .i64 a.act, .string a.name, .string a.nto, .int .i64 a.num]) (by kernel_rfl) ?_
    change wpAnyH _ _ _ _ _ _ _ _ w1.drew
    have Ss0 : Hid (Blk w1.drew k 56 [.int .i64 a.act, .string a.name, .string a.nto, .int .i64 a.num]) := K1.out
    have bs0 : Hid (True) := trivial
    refine wpAnyH_take (i := 0) (v := _) rfl (by kernel_rfl) (by kernel_rfl) (by kernel_rfl) (fun _ _ _ h => h) (yieldsIf_move (by kernel_rfl) (.tmp 0) rfl (ptrD q) (by kernel_rfl)) Ss0.out ?_
    refine wpAnyH_take (i := 1) (v := _) rfl (by kernel_rfl) (by kernel_rfl) (by kernel_rfl) (fun _ _ _ h => h) (yieldsIf_fld (by kernel_rfl) _ (.tmp 5) 1 rfl (.pointer (some ⟨k, 0, none⟩)) (.pointer (some ⟨k, 1, none⟩)) (by kernel_rfl) (fun w => by go_simp)) Ss0.out ?_
    refine wpAnyH_take (i := 2) (v := _) rfl (by kernel_rfl) (by kernel_rfl) (by kernel_rfl) (fun _ _ _ h => h) (yieldsIf_load_one (by kernel_rfl) _ (.tmp 44) rfl k (1) (by kernel_rfl) (.string a.name) (fun _ h => h.cell 1) _ Tryd.underlying9 rfl) Ss0.out ?_
    refine wpAnyH_take (i := 3) (v := _) rfl (by kernel_rfl) (by kernel_rfl) (by kernel_rfl) (fun _ _ _ h => h) (yieldsIf_fld (by kernel_rfl) _ (.tmp 5) 2 rfl (.pointer (some ⟨k, 0, none⟩)) (.pointer (some ⟨k, 2, none⟩)) (by kernel_rfl) (fun w => by go_simp)) Ss0.out ?_
    refine wpAnyH_take (i := 4) (v := _) rfl (by kernel_rfl) (by kernel_rfl) (by kernel_rfl) (fun _ _ _ h => h) (yieldsIf_load_one (by kernel_rfl) _ (.tmp 46) rfl k (2) (by kernel_rfl) (.string a.nto) (fun _ h => h.cell 2) _ Tryd.underlying9 rfl) Ss0.out ?_
    refine wpAnyH_take (i := 6) (v := _) rfl (by kernel_rfl) (by kernel_rfl) (by kernel_rfl) (fun _ _ _ h => h) (yieldsIf_move (by kernel_rfl) (.tmp 1) rfl (.pointer (some ⟨g, 0, none⟩)) (by kernel_rfl)) Ss0.out ?_
    refine wpAnyH_take (i := 7) (v := _) rfl (by kernel_rfl) (by kernel_rfl) (by kernel_rfl) (fun _ _ _ h => h) (yieldsIf_fld (by kernel_rfl) _ (.tmp 5) 1 rfl (.pointer (some ⟨k, 0, none⟩)) (.pointer (some ⟨k, 1, none⟩)) (by kernel_rfl) (fun w => by go_simp)) Ss0.out ?_
    refine wpAnyH_take (i := 8) (v := _) rfl (by kernel_rfl) (by kernel_rfl) (by kernel_rfl) (fun _ _ _ h => h) (yieldsIf_load_one (by kernel_rfl) _ (.tmp 50) rfl k (1) (by kernel_rfl) (.string a.name) (fun _ h => h.cell 1) _ Tryd.underlying9 rfl) Ss0.out ?_
    refine wpAnyH_take (i := 9) (v := _) rfl (by kernel_rfl) (by kernel_rfl) (by kernel_rfl) (fun _ _ _ h => h) (yieldsIf_fld (by kernel_rfl) _ (.tmp 5) 2 rfl (.pointer (some ⟨k, 0, none⟩)) (.pointer (some ⟨k, 2, none⟩)) (by kernel_rfl) (fun w => by go_simp)) Ss0.out ?_
    refine wpAnyH_take (i := 10) (v := _) rfl (by kernel_rfl) (by kernel_rfl) (by kernel_rfl) (fun _ _ _ h => h) (yieldsIf_load_one (by kernel_rfl) _ (.tmp 52) rfl k (2) (by kernel_rfl) (.string a.nto) (fun _ h => h.cell 2) _ Tryd.underlying9 rfl) Ss0.out ?_
    refine wpAnyH_one 5 _ (by kernel_rfl) rfl fun K hK => ?_
    go_simp
    refine (I.rename T1d.out.x T1d.out.tb T1d.out.hb HA.out.name HA.out.nto).mono ?_
    rintro e vs1 ⟨rfl, S1, x1, a1, n1⟩
    have Ss1 : Hid (Blk vs1 k 56 [.int .i64 a.act, .string a.name, .string a.nto, .int .i64 a.num]) := Ss0.out.spare a1 fun h => HKS.out h
    have bs1 : Hid (True) := trivial
    have T2 := Lib.hid (T1d.out.left x1 a1 n1)
    have L2 := Lib.hid (T1d.out.below1 a1)
    clear x1 n1
    refine hK _ _ Ss1.out ?_
    clear hK K 
    refine wpAnyH_one 11 _ (by kernel_rfl) rfl fun K hK => ?_
    go_simp
    refine (RRen_any _ b g v L T2.out.r T2.out.hb a.name a.nto HN1.out HN2.out).mono ?_
    rintro e vs2 ⟨rfl, v', r1, a2, n2⟩
    have Ss2 : Hid (Blk vs2 k 56 [.int .i64 a.act, .string a.name, .string a.nto, .int .i64 a.num]) := Ss1.out.spare a2 fun h => HKR.out h
    have bs2 : Hid (True) := trivial
    have T3 := Lib.hid (T2.out.right r1 a2 n2)
    have L3 := Lib.hid (T2.out.below2 a2)
    clear r1 n2
    refine hK _ _ Ss2.out ?_
    clear hK K 
    refine wpAnyH_one 12 _ (by kernel_rfl) rfl fun K hK => ?_
    go_simp
    refine hK _ _ Ss2.out ?_
    clear hK K
    refine wpAnyH_one 13 _ (by kernel_rfl) rfl fun K hK => ?_
    go_simp
    refine hK _ _ Ss2.out ?_
    clear hK K
    refine wpAnyH_done (by kernel_rfl) ?_ _
    go_wp2_with fail
    go_ret
    have e1 := HAB.out 3 h1
    exact ⟨rfl, _, _, by rw [e1]; exact T3.out, ((l1.out.mono HSZ).trans (((drewed w1 1).mono (Nat.le_trans HSZ l1.out.size)).trans L2.out)).trans L3.out⟩
  · go_enter Tryd.func24, Tryd.ntmps24
    go_upto_region 1 with (first
      | ((with_reducible show wpList _ _ _ (⟨some 5, _, _, _, _, _⟩ :: _) _ _); refine wpList_box_blk rfl _ (.tmp 2) rfl cs rfl ?_; intro k w1 hk1 hk2 k1 l1)
      | fail)
    have K1 : Hid (Blk w1 k 56 [.int .i64 a.act, .string a.name, .string a.nto, .int .i64 a.num]) := by have := k1.out; rw [HCS.out] at this; exact this
    have c0 := K1.out.cell 0
    have c1 := K1.out.cell 1
    have c2 := K1.out.cell 2
    have c3 := K1.out.cell 3
    have HKS : Hid (¬ S k) := fun h => by have := (I.ge H0.out.x k h).2; omega
    have HKR : Hid (¬ rdrS g v k) := fun h => by have := H0.out.r.set_lt k h; omega
    have T1 := Lib.hid (H0.out.below l1.out)
    have T1d : Hid (TwoD I w1.drew b q S g v L L) := T1.out.below (drewed w1 1)
    clear k1
    rw [h1] at c0
    have CF1 := Lib.hid (I.find T1.out.x T1.out.tb T1.out.hb HA.out.name)
    have CF2 : Hid (∀ w2, Below w1.heap.size w1 w2 → Calls Tryd.prog 44 #[.pointer (some ⟨g, 0, none⟩), .string a.name] w2 fun e w3 => e = .returned (.tuple #[.int .i64 (dFind L a.name).2, .string (dFind L a.name).1, .int .i64 (dFindE L a.name)]) ∧ Below w2.heap.size w2 w3) := fun w2 l2 => RFind_any w2 b g v L (T1.out.r.below l2) a.name HN1.out
    have e1 := HAB.out 4 h1
    have E1 : Hid (dAct a L = L) := e1
    obtain ⟨f1, hf1⟩ : ∃ x, x = (dFind L a.name).1 := ⟨_, rfl⟩
    obtain ⟨f2, hf2⟩ : ∃ x, x = (dFind L a.name).2 := ⟨_, rfl⟩
    obtain ⟨fe, hfe⟩ : ∃ x, x = dFindE L a.name := ⟨_, rfl⟩
    rw [← hf1, ← hf2, ← hfe] at CF1 CF2
    have hs1 : (f1.toList == f1.toList) = true := beq_self_eq_true _
    clear e1 hf1 hf2 hfe
    go_wp2_with fail
    refine CF1.out.mono ?_
    rintro e w2 ⟨rfl, l2⟩
    have c1' : w2.cell? ⟨k, 1, none⟩ = some (.string a.name) := (K1.out.over l2).cell 1
    have L2 := Lib.hid l2
    clear l2 CF1
    go_wp2_with fail
    refine (CF2.out _ L2.out).mono ?_
    rintro e w3 ⟨rfl, l3⟩
    have L3 := Lib.hid (L2.out.trans (l3.mono L2.out.size))
    clear l3 CF2
    go_wp2_with fail
    go_ret
    exact ⟨by simp, _, _, by rw [E1.out]; exact T1.out.below L3.out, (l1.out.mono HSZ).trans (L3.out.mono (Nat.le_trans HSZ l1.out.size))⟩
  · go_enter Tryd.func24, Tryd.ntmps24
    go_upto_region 1 with (first
      | ((with_reducible show wpList _ _ _ (⟨some 5, _, _, _, _, _⟩ :: _) _ _); refine wpList_box_blk rfl _ (.tmp 2) rfl cs rfl ?_; intro k w1 hk1 hk2 k1 l1)
      | fail)
    have K1 : Hid (Blk w1 k 56 [.int .i64 a.act, .string a.name, .string a.nto, .int .i64 a.num]) := by have := k1.out; rw [HCS.out] at this; exact this
    have c0 := K1.out.cell 0
    have c1 := K1.out.cell 1
    have c2 := K1.out.cell 2
    have c3 := K1.out.cell 3
    have HKS : Hid (¬ S k) := fun h => by have := (I.ge H0.out.x k h).2; omega
    have HKR : Hid (¬ rdrS g v k) := fun h => by have := H0.out.r.set_lt k h; omega
    have T1 := Lib.hid (H0.out.below l1.out)
    have T1d : Hid (TwoD I w1.drew b q S g v L L) := T1.out.below (drewed w1 1)
    clear k1
    go_wp2_with fail
    go_ret
    have e : dAct a L = L := by
      unfold dAct
      rw [if_neg h1, if_neg h2, if_neg h3]
    exact ⟨rfl, _, _, by rw [e]; exact T1.out, l1.out.mono HSZ⟩
end Go.Proofs.YtangkcedgelegaaDoor

namespace Go.Proofs.YtangkcedgelegaaDoor
set_option linter.all false
set_option maxRecDepth 100000
open Go.RowKit
set_option linter.unusedVariables false
def DPlayPost (I : DirI) (w : World) (l : List DActV) (m : Nat) (e : Ending) (w' : World) : Prop :=
  ∃ q g S v, e = .returned (.tuple #[ptrD q, .pointer (some ⟨g, 0, none⟩), .bool true]) ∧ TwoD I w' w.heap.size q S g v (dActs l m) (dActs l m) ∧ Below w.heap.size w w'
set_option maxHeartbeats 8000000 in
theorem DPlayed_any (I : DirI) (w : World) (A : Option Addr) (n c : Nat) (l : List DActV) (hl : LDAct 1048576 w w.heap.size A n c l) (hn : n ≤ 140737488355328) (htb : I.tb w.heap.size w) :
    Calls Tryd.prog 10 #[.slice A n c] w (DPlayPost I w l (min n 60)) := by
  obtain ⟨m, hm⟩ : ∃ m, m = min n 60 := ⟨_, rfl⟩
  have hmn : m ≤ n := by omega
  have hm6 : m ≤ 60 := by omega
  have HMN : Hid (m = n ∨ m = 60) := by show _ ∨ _; omega
  rw [← hm]
  clear hm
  have HL := Lib.hid hl
  have HTB := Lib.hid htb
  clear hl htb
  go_enter Tryd.func10, Tryd.ntmps10
  go_wp2_with fail
  refine (I.new HTB.out (Nat.le_refl _)).mono ?_
  rintro e w1 ⟨q, S, rfl, x0, l0⟩
  have X0 := Lib.hid x0
  have L0 := Lib.hid l0
  clear x0 l0
  go_wp2_with (first
    | ((with_reducible show wpList _ _ _ (⟨some 10, _, _, _, _, _⟩ :: _) _ _); refine wpList_box_blk rfl _ (.tmp 9) rfl [.slice none 0 0] rfl ?_; intro g w2 hg1 hg2 k2 l2)
    | fail)
  have T2 : Hid (TwoD I w2 w.heap.size q S g (.slice none 0 0) [] []) := by
    refine ⟨I.below X0.out l2.out, ⟨Nat.le_trans L0.out.size hg1, k2.out, OwnS.nil _ _ _ _ _, by decide, fun _ h => by cases h⟩, fun j hj hr => ?_, Nat.le_trans L0.out.size l2.out.size, I.tbNext HTB.out (L0.out.trans (l2.out.mono L0.out.size))⟩
    rcases hr with h1 | h1
    · have := (I.ge X0.out j hj).2
      omega
    · cases h1
  have L2 := Lib.hid (L0.out.trans (l2.out.mono L0.out.size))
  clear X0 L0 k2 l2 HTB
  go_loopw [7] (fun I' wr => ∃ (i : Nat) (S : Nat → Prop) (v : Value), i ≤ m ∧ I' = .int .i64 (i : Nat) ∧ Hid (TwoD I wr w.heap.size q S g v (dActs l i) (dActs l i)) ∧ Hid (Below w.heap.size w wr)) (fun I' _ => m - (intOf I').toNat)
  case atStart => exact ⟨0, S, _, Nat.zero_le _, rfl, T2, L2⟩
  case round =>
    obtain ⟨i, S, v, hi, rfl, TR, LR⟩ := hrel
    clear T2 L2
    by_cases him : i < m
    · have hin : i < n := by omega
      have hi60 : i < 60 := by omega
      obtain ⟨k, o, x, rfl, hk, hx, hax, hrx⟩ := HL.out.at hin
      have HAX := Lib.hid hax
      have hrx' := rng_below hrx LR.out hk
      obtain ⟨cs, hcs⟩ : ∃ cs, cs = dactCells x := ⟨_, rfl⟩
      have HCL : Hid (cs.length = 4) := by rw [hcs]; exact dactCells_len x
      rw [← hcs] at hrx'
      have RX := Lib.hid hrx'
      have TRd : Hid (TwoD I wr.drew w.heap.size q S g v (dActs l i) (dActs l i)) := TR.out.below (drewed wr 1)
      have CA := Lib.hid (DAct_any I wr.drew w.heap.size q S g v _ x TRd.out HAX.out (by have := dActs_le (l := l) i; omega))
      rw [← hcs] at CA
      have HBn := Lib.hid (dActs_succ hx)
      have hi' : i + 1 ≤ m := by omega
      clear hcs hx hax hrx hrx'
      go_upto_region 5 with fail
      refine wp_region_held (S := fun w' => w'.rangeAt k (o + i * 4) cs) (by kernel_rfl) ?_
      change wpAnyH _ _ _ _ _ _ _ _ wr.drew
      have Sr0 : Hid (wr.drew.rangeAt k (o + i * 4) cs) := RX.out
      have br0 : Hid (True) := trivial
      refine wpAnyH_take (i := 0) (v := _) rfl (by kernel_rfl) (by kernel_rfl) (by kernel_rfl) (fun _ _ _ h => h) (yieldsIf_move (by kernel_rfl) (.tmp 5) rfl (ptrD q) (by kernel_rfl)) Sr0.out ?_
      refine wpAnyH_take (i := 1) (v := _) rfl (by kernel_rfl) (by kernel_rfl) (by kernel_rfl) (fun _ _ _ h => h) (yieldsIf_move (by kernel_rfl) (.tmp 6) rfl (.pointer (some ⟨g, 0, none⟩)) (by kernel_rfl)) Sr0.out ?_
      refine wpAnyH_take (i := 2) (v := _) rfl (by kernel_rfl) (by kernel_rfl) (by kernel_rfl) (fun _ _ _ h => h) (yieldsIf_move (by kernel_rfl) (.tmp 0) rfl (.slice (some ⟨k, o, none⟩) n c) (by kernel_rfl)) Sr0.out ?_
      refine wpAnyH_take (i := 3) (v := _) rfl (by kernel_rfl) (by kernel_rfl) (by kernel_rfl) (fun _ _ _ h => h) (yieldsIf_move (by kernel_rfl) (.tmp 7) rfl (.int .i64 (i : Nat)) (by kernel_rfl)) Sr0.out ?_
      refine wpAnyH_take (i := 4) (v := .pointer (some ⟨k, o + i * 4, none⟩)) rfl (by kernel_rfl) (by kernel_rfl) (by kernel_rfl) (fun _ _ _ h => h) (.inl ⟨by kernel_rfl, fun w _ => by go_simp⟩) Sr0.out ?_
      refine wpAnyH_take (i := 5) (v := _) rfl (by kernel_rfl) (by kernel_rfl) (by kernel_rfl) (fun _ _ _ h => h) (yieldsIf_load_rng (by kernel_rfl) _ (.tmp 25) rfl k (o + i * 4) (by kernel_rfl) cs (fun _ h => h) 4 _ Tryd.underlying56 rfl size_dact HCL) Sr0.out ?_
      refine wpAnyH_one 6 _ (by kernel_rfl) rfl fun K hK => ?_
      go_simp
      refine (CA.out).mono ?_
      rintro e vr1 ⟨rfl, S1, v1, t1, l1⟩
      have Sr1 : Hid (vr1.rangeAt k (o + i * 4) cs) := rng_below Sr0.out l1 hk
      have br1 : Hid (True) := trivial
      have T1 := Lib.hid t1
      have L1 := Lib.hid l1
      obtain ⟨Ab, cb, hvb⟩ := t1.r.len
      obtain ⟨nb, hnb⟩ : ∃ n, n = (dAct x (dActs l i)).length := ⟨_, rfl⟩
      have G1 : Hid (vr1.cell? ⟨g, 0, none⟩ = some (.slice Ab nb cb)) := by rw [hnb, ← hvb]; exact t1.r.blk.cell 0
      have CZ : Hid (Calls Tryd.prog 15 #[ptrD q] vr1 fun e w' => e = .returned (.int .i64 (nb : Nat)) ∧ ∃ k, vr1.drewN k = w') := by have := I.len t1.x; rw [← hnb] at this; exact this
      clear t1 l1 hvb hnb
      refine hK _ _ Sr1.out ?_
      clear hK K 
      refine wpAnyH_more (S' := fun w' => w'.rangeAt k (o + i * 4) cs ∧ w'.cell? ⟨g, 0, none⟩ = some (.slice Ab nb cb)) (fun _ h => h.1) _ _ _ _ ?_
      have Sr2 : Hid (vr1.rangeAt k (o + i * 4) cs ∧ vr1.cell? ⟨g, 0, none⟩ = some (.slice Ab nb cb)) := ⟨Sr1.out, G1.out⟩
      refine wpAnyH_take (i := 7) (v := .bool false) rfl (by kernel_rfl) (by kernel_rfl) (by kernel_rfl) (fun _ _ _ h => h) (.inl ⟨by kernel_rfl, fun w _ => by go_simp⟩) Sr2.out ?_
      refine wpAnyH_take (i := 8) (v := _) rfl (by kernel_rfl) (by kernel_rfl) (by kernel_rfl) (fun _ _ _ h => h) (yieldsIf_move (by kernel_rfl) (.tmp 28) rfl (.bool false) (by kernel_rfl)) Sr2.out ?_
      refine wpAnyH_take (i := 9) (v := _) rfl (by kernel_rfl) (by kernel_rfl) (by kernel_rfl) (fun _ _ _ h => h) (yieldsIf_move (by kernel_rfl) (.tmp 5) rfl (ptrD q) (by kernel_rfl)) Sr2.out ?_
      refine wpAnyH_take (i := 11) (v := _) rfl (by kernel_rfl) (by kernel_rfl) (by kernel_rfl) (fun _ _ _ h => h) (yieldsIf_move (by kernel_rfl) (.tmp 6) rfl (.pointer (some ⟨g, 0, none⟩)) (by kernel_rfl)) Sr2.out ?_
      refine wpAnyH_take (i := 12) (v := _) rfl (by kernel_rfl) (by kernel_rfl) (by kernel_rfl) (fun _ _ _ h => h) (yieldsIf_nil (by kernel_rfl) (.tmp 32) rfl ⟨g, 0, none⟩ (by kernel_rfl)) Sr2.out ?_
      refine wpAnyH_take (i := 13) (v := _) rfl (by kernel_rfl) (by kernel_rfl) (by kernel_rfl) (fun _ _ _ h => h) (yieldsIf_fld (by kernel_rfl) _ (.tmp 33) 0 rfl (.pointer (some ⟨g, 0, none⟩)) (.pointer (some ⟨g, 0, none⟩)) (by kernel_rfl) (fun w => by go_simp)) Sr2.out ?_
      refine wpAnyH_take (i := 14) (v := _) rfl (by kernel_rfl) (by kernel_rfl) (by kernel_rfl) (fun _ _ _ h => h) (yieldsIf_load_one (by kernel_rfl) _ (.tmp 34) rfl g (0) (by kernel_rfl) (.slice Ab nb cb) (fun _ h => h.2) _ Tryd.underlying51 rfl) Sr2.out ?_
      refine wpAnyH_take (i := 15) (v := .int .i64 (nb : Nat)) rfl (by kernel_rfl) (by kernel_rfl) (by kernel_rfl) (fun _ _ _ h => h) (.inl ⟨by kernel_rfl, fun w _ => by go_simp⟩) Sr2.out ?_
      refine wpAnyH_one 10 _ (by kernel_rfl) rfl fun K hK => ?_
      go_simp
      refine (CZ.out).mono ?_
      rintro e vr2 ⟨rfl, j, rfl⟩
      have Sr2 : Hid ((vr1.drewN j).rangeAt k (o + i * 4) cs ∧ (vr1.drewN j).cell? ⟨g, 0, none⟩ = some (.slice Ab nb cb)) := Sr2.out
      have br2 : Hid (True) := trivial
      refine hK _ _ Sr2.out ?_
      clear hK K 
      refine wpAnyH_one 16 _ (by kernel_rfl) rfl fun K hK => ?_
      go_simp
      refine hK _ _ Sr2.out ?_
      clear hK K
      refine wpAnyH_one 17 _ (by kernel_rfl) rfl fun K hK => ?_
      go_simp
      refine hK _ _ Sr2.out ?_
      clear hK K
      refine wpAnyH_done (by kernel_rfl) ?_ _
      go_wp2_with fail
      go_roundw
      case rel => exact ⟨i + 1, S1, _, hi', by go_num, by rw [HBn.out]; exact T1.out.drewN j, (LR.out.trans (((drewed wr 1).mono TR.out.hb).trans L1.out)).trans ((drewed vr1 j).mono T1.out.hb)⟩
      case measure => simp [intOf]; omega
    · obtain rfl : i = m := by omega
      rcases HMN.out with h1 | h1
      · have h2 : ¬ (i : Int) < (n : Int) := by omega
        go_wp2_with fail
        go_ret3
        exact ⟨q, g, S, v, rfl, by rw [← h1]; exact TR.out, LR.out⟩
      · have h2 : ¬ (i : Int) < 60 := by omega
        by_cases h3 : i < n
        · have h3' : (i : Int) < (n : Int) := by omega
          go_wp2_with fail
          go_ret3
          exact ⟨q, g, S, v, rfl, by rw [← h1]; exact TR.out, LR.out⟩
        · have h3' : ¬ (i : Int) < (n : Int) := by omega
          go_wp2_with fail
          go_ret3
          exact ⟨q, g, S, v, rfl, by rw [← h1]; exact TR.out, LR.out⟩
end Go.Proofs.YtangkcedgelegaaDoor
