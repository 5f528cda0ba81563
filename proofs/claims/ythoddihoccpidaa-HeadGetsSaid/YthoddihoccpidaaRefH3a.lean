/-
  Layer 7 (head), words for the document's Get: what its numbers, its tests and its signature come to. No program is named here but the reading of a head's cells.
-/
import Derived.Test.YthoddihoccpidaaRefH2
import Derived.Test.YthoddihoccpidaaHeadG
namespace Go.Proofs.Ythoddihoccpidaa
open Go.RowKit

theorem getOf_numAt (xs : List Int) (p k s : Nat) (hl : p + 64 ≤ xs.length) (hk : k + s ≤ 64) (hs : sizeOk (s : Int) = true) : getOf xs ((p : Int) + (k : Int)) (s : Int) = numAt ((xs.drop p).take 64) k s := by
  have e1 : getErr xs.length ((p : Int) + (k : Int)) (s : Int) = 0 := by
    unfold getErr partErr
    rw [if_pos hs, if_neg (by omega), if_neg (by omega)]
  unfold getOf numAt
  rw [if_pos e1, show ((p : Int) + (k : Int)).toNat = p + k from by omega, Int.toNat_natCast, List.drop_take, List.take_take, List.drop_drop, Nat.min_eq_left (by omega)]

theorem num_four (xs : List Int) (hx : Bytes xs) (hl : 4 ≤ xs.length) : decide (numAt xs 0 4 = 1112364030) = (decide (xs.getD 0 0 = 254) && (decide (xs.getD 1 0 = 83) && (decide (xs.getD 2 0 = 77) && decide (xs.getD 3 0 = 66)))) := by
  match xs, hl with
  | a :: b :: c :: d :: r, _ =>
    have ha := hx.getD 0
    have hb := hx.getD 1
    have hc := hx.getD 2
    have hd := hx.getD 3
    change 0 ≤ a ∧ a ≤ 255 at ha
    change 0 ≤ b ∧ b ≤ 255 at hb
    change 0 ≤ c ∧ c ≤ 255 at hc
    change 0 ≤ d ∧ d ≤ 255 at hd
    show decide (a + 256 * (b + 256 * (c + 256 * (d + 256 * 0))) = 1112364030) = (decide (a = 254) && (decide (b = 83) && (decide (c = 77) && decide (d = 66))))
    rw [Bool.eq_iff_iff]
    simp only [Bool.and_eq_true, decide_eq_true_eq]
    omega

/-- the tests of the document's Get, in its order -/
theorem headP_parts (ys : List Int) (hx : Bytes ys) (hl : ys.length = 64) : headP ys = (decide (ys.getD 0 0 = 254) && (decide (ys.getD 1 0 = 83) && (decide (ys.getD 2 0 = 77) && (decide (ys.getD 3 0 = 66) &&
    (decide (numAt ys 4 2 = 64) && ((isAs (numAt ys 16 4) || decide (numAt ys 32 4 = 0)) && mayP (takenP ys))))))) := by
  unfold headP fixedP
  rw [num_four ys hx (by omega)]
  simp only [Bool.and_assoc]

/-- what is taken, by the document's numbers -/
theorem taken_parts (ys : List Int) (hx : Bytes ys) (hl : ys.length = 64) :
    (isAs (numAt ys 16 4) = true → hcells (takenP ys) = hcells ⟨numAt ys 6 2, numAt ys 8 4, numAt ys 12 2, numAt ys 14 2, numAt ys 16 4, numAt ys 20 4, numAt ys 24 8, numAt ys 32 8, 0, numAt ys 40 8, (ys.drop 48).take 16⟩) ∧
    (isAs (numAt ys 16 4) = false → hcells (takenP ys) = hcells ⟨numAt ys 6 2, numAt ys 8 4, numAt ys 12 2, numAt ys 14 2, numAt ys 16 4, numAt ys 20 4, numAt ys 24 8, 0, numAt ys 36 4, numAt ys 40 8, (ys.drop 48).take 16⟩) := by
  have n4 := numAt_bounds ys hx 32 4 4294967296 (by decide)
  have e8 := numAt_split ys 32 (by omega)
  constructor
  · intro h
    rw [takenP_eq, if_pos h, if_pos h]
  · intro h
    have h' : ¬ isAs (numAt ys 16 4) = true := by rw [h]; decide
    rw [takenP_eq, if_neg h', if_neg h', e8, show (numAt ys 32 4 + 4294967296 * numAt ys (32 + 4) 4) / 4294967296 = numAt ys 36 4 from by show (_ + 4294967296 * numAt ys 36 4) / _ = _; omega]

/-- a head's cells with the first k bytes of a signature laid -/
def sigc (h : Hd) (sg : List Int) (k : Nat) : List Value := hcells { h with sg := sg.take k ++ List.replicate (16 - k) 0 }
theorem sig_steps (h : Hd) (sg : List Int) (hl : sg.length = 16) (h0 : h.sg = List.replicate 16 0) :
    hcells h = sigc h sg 0 ∧ (∀ k, k < 16 → (sigc h sg k).set (10 + k) (.int .u8 (sg.getD k 0)) = sigc h sg (k + 1)) ∧ (∀ k, k ≤ 16 → (sigc h sg k).length = 26) ∧ sigc h sg 16 = hcells { h with sg := sg } := by
  refine ⟨?_, fun k hk => ?_, fun k hk => ?_, ?_⟩
  · unfold sigc
    rw [List.take_zero, List.nil_append, ← h0]
  · unfold sigc
    have e : (sg.take k ++ List.replicate (16 - k) 0).set k (sg.getD k 0) = sg.take (k + 1) ++ List.replicate (16 - (k + 1)) 0 := by
      rw [List.set_append_right _ _ (by simp; omega), show 16 - k = (16 - (k + 1)) + 1 from by omega, List.replicate_succ]
      rw [show k - (List.take k sg).length = 0 from by simp; omega, List.set_cons_zero, List.take_succ_eq_append_getElem (by omega : k < sg.length), List.append_assoc]
      simp [List.getD_eq_getElem?_getD, show k < sg.length from by omega]
    rw [← e]
    simp only [hcells, List.map_set]
    rw [show 10 + k = k + 1 + 1 + 1 + 1 + 1 + 1 + 1 + 1 + 1 + 1 from by omega]
    simp only [List.set_cons_succ]
  · unfold sigc
    simp only [hcells, List.length_cons, List.length_map, List.length_append, List.length_take, List.length_replicate]
    omega
  · unfold sigc
    rw [List.take_of_length_le (by omega)]
    simp
end Go.Proofs.Ythoddihoccpidaa
