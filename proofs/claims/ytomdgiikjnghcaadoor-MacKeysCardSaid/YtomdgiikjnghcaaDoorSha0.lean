/-
  Layer 3, words: what the document says of words, states and blocks, as plain functions on integers. No program is named here.
-/
import Derived.Test.YtomdgiikjnghcaaDoorWords
import Derived.Laws.Bits64
import Derived.Laws.BitsAllLaws
import Derived.OpenShut
namespace Go.Proofs.YtomdgiikjnghcaaDoor
open Go.RowKit

/-- each number is one of 32 bits -/
def W32 (xs : List Int) : Prop := ∀ x ∈ xs, 0 ≤ x ∧ x ≤ 4294967295
theorem W32.nil : W32 [] := fun _ h => by cases h
theorem W32.append {xs ys : List Int} (h : W32 xs) (k : W32 ys) : W32 (xs ++ ys) := fun x hx => by
  rcases List.mem_append.1 hx with h1 | h1
  · exact h x h1
  · exact k x h1
theorem W32.zeros (n : Nat) : W32 (List.replicate n 0) := fun x hx => by
  rw [List.eq_of_mem_replicate hx]
  omega
theorem W32.getD {xs : List Int} (h : W32 xs) (i : Nat) : 0 ≤ xs.getD i 0 ∧ xs.getD i 0 ≤ 4294967295 := by
  by_cases hi : i < xs.length
  · rw [List.getD_eq_getElem?_getD, List.getElem?_eq_getElem hi]
    exact h _ (List.getElem_mem hi)
  · rw [List.getD_eq_getElem?_getD, List.getElem?_eq_none (by omega)]
    simp
theorem W32.take {xs : List Int} (h : W32 xs) (k : Nat) : W32 (xs.take k) := fun x hx => h x (List.mem_of_mem_take hx)
theorem wf32 {x : Int} (h : (Lit.int .u32 x).wf = true) : 0 ≤ x ∧ x ≤ 4294967295 := by simpa [Lit.wf, IntKind.min, IntKind.max, IntKind.signed, IntKind.bits] using h
theorem bits32 (op : BinOp) (x y : Int) : 0 ≤ bits op .u32 x y ∧ bits op .u32 x y ≤ 4294967295 := wf32 (wf_bits op .u32 x y)

/-- x turned down by n -/
def rot (x : Int) (n : Nat) : Int := bits .or .u32 (x / 2 ^ n) (IntKind.u32.wrap (x * 2 ^ (32 - n)))
def rots (x : Int) (i j k : Nat) : Int := bits .xor .u32 (bits .xor .u32 (rot x i) (rot x j)) (rot x k)
def sig0 (x : Int) : Int := bits .xor .u32 (bits .xor .u32 (rot x 7) (rot x 18)) (x / 8)
def sig1 (x : Int) : Int := bits .xor .u32 (bits .xor .u32 (rot x 17) (rot x 19)) (x / 1024)

/-! ### the words of a block -/

/-- the number of bytes, the highest first -/
def beOf (xs : List Int) : Int := xs.foldl (fun z x => z * 256 + x) 0
theorem beOf_snoc (xs : List Int) (x : Int) : beOf (xs ++ [x]) = beOf xs * 256 + x := by simp [beOf]
theorem beOf_bounds (xs : List Int) (h : Bytes xs) : 0 ≤ beOf xs ∧ beOf xs < 256 ^ xs.length := by
  have key : ∀ n, ∀ xs : List Int, xs.length = n → Bytes xs → 0 ≤ beOf xs ∧ beOf xs < 256 ^ xs.length := by
    intro n
    induction n with
    | zero =>
      intro xs hl _
      obtain rfl := List.eq_nil_of_length_eq_zero hl
      simp [beOf]
    | succ n ih =>
      intro xs hl hb
      have hne : xs ≠ [] := by rintro rfl; cases hl
      rw [← List.dropLast_concat_getLast hne] at hb ⊢
      have h1 := ih xs.dropLast (by simp [hl]) (fun y hy => hb y (List.mem_append_left _ hy))
      have h2 := hb (xs.getLast hne) (List.mem_append_right _ List.mem_cons_self)
      rw [beOf_snoc, List.length_append, List.length_singleton, Int.pow_succ]
      omega
  exact key _ xs rfl h

/-- word j of a block -/
def word (xs : List Int) (j : Nat) : Int := beOf ((xs.drop (4 * j)).take 4)
def words16 (xs : List Int) : List Int := (List.range 16).map (word xs)
theorem word_bounds (xs : List Int) (h : Bytes xs) (j : Nat) : 0 ≤ word xs j ∧ word xs j ≤ 4294967295 := by
  have h1 := beOf_bounds _ ((h.drop (4 * j)).take 4)
  unfold word
  have h3 : ((xs.drop (4 * j)).take 4).length ≤ 4 := by simp; omega
  have h4 : (256 : Int) ^ ((xs.drop (4 * j)).take 4).length ≤ 4294967296 := by
    generalize ((xs.drop (4 * j)).take 4).length = n at h3 ⊢
    have : n = 0 ∨ n = 1 ∨ n = 2 ∨ n = 3 ∨ n = 4 := by omega
    rcases this with rfl | rfl | rfl | rfl | rfl <;> decide
  omega
theorem words16_len (xs : List Int) : (words16 xs).length = 16 := by simp [words16]
theorem words16_w (xs : List Int) (h : Bytes xs) : W32 (words16 xs) := fun x hx => by
  obtain ⟨j, _, rfl⟩ := List.mem_map.1 hx
  exact word_bounds xs h j

/-- the row that the program fills, behind k of the 64 bytes -/
def partRow (xs : List Int) (k : Nat) : List Int := (List.range 64).map fun j => word (xs.take k) j
theorem partRow_len (xs : List Int) (k : Nat) : (partRow xs k).length = 64 := by simp [partRow]
theorem partRow_w (xs : List Int) (h : Bytes xs) (k : Nat) : W32 (partRow xs k) := fun x hx => by
  obtain ⟨j, _, rfl⟩ := List.mem_map.1 hx
  exact word_bounds _ (h.take k) j
theorem partRow_getD (xs : List Int) (k j : Nat) (hj : j < 64) : (partRow xs k).getD j 0 = word (xs.take k) j := by
  simp [partRow, hj]
theorem partRow_zero (xs : List Int) : partRow xs 0 = List.replicate 64 0 := by
  apply List.ext_getElem
  · simp [partRow]
  · intro i h1 h2
    rw [List.getElem_replicate]
    simp [partRow, word, beOf]
theorem word_step (xs : List Int) (k : Nat) (hk : k < xs.length) : word (xs.take (k + 1)) (k / 4) = word (xs.take k) (k / 4) * 256 + xs.getD k 0 := by
  unfold word
  have e1 : xs.take (k + 1) = xs.take k ++ [xs[k]] := List.take_succ_eq_append_getElem hk
  have hl : (xs.take k).length = k := by simp; omega
  have e2 : ((xs.take k ++ [xs[k]]).drop (4 * (k / 4))).take 4 = ((xs.take k).drop (4 * (k / 4))).take 4 ++ [xs[k]] := by
    rw [List.drop_append_of_le_length (by rw [hl]; omega)]
    rw [List.take_of_length_le (l := (xs.take k).drop (4 * (k / 4)) ++ [xs[k]]) (by rw [List.length_append, List.length_drop, hl, List.length_singleton]; omega), List.take_of_length_le (l := (xs.take k).drop (4 * (k / 4))) (by rw [List.length_drop, hl]; omega)]
  have e3 : xs.getD k 0 = xs[k] := by simp [hk]
  rw [e1, e2, beOf_snoc, e3]
theorem word_other (xs : List Int) (k j : Nat) (hk : k < xs.length) (hj : j ≠ k / 4) : word (xs.take (k + 1)) j = word (xs.take k) j := by
  unfold word
  have e1 : xs.take (k + 1) = xs.take k ++ [xs[k]] := List.take_succ_eq_append_getElem hk
  have hl : (xs.take k).length = k := by simp; omega
  rw [e1]
  by_cases h : j < k / 4
  · rw [List.drop_append_of_le_length (by rw [hl]; omega), List.take_append_of_le_length (by simp; omega)]
  · rw [List.drop_of_length_le (l := xs.take k) (by rw [hl]; omega), List.drop_of_length_le (by simp; omega)]
theorem partRow_set (xs : List Int) (k : Nat) (hk : k < xs.length) : (partRow xs k).set (k / 4) (word (xs.take k) (k / 4) * 256 + xs.getD k 0) = partRow xs (k + 1) := by
  apply List.ext_getElem
  · simp [partRow]
  · intro i h1 h2
    rw [List.getElem_set]
    have hi : i < 64 := by rw [partRow_len] at h2; exact h2
    by_cases h : k / 4 = i
    · rw [if_pos h, ← word_step xs k hk]
      subst h
      simp [partRow]
    · rw [if_neg h]
      simp [partRow]
      exact (word_other xs k i hk (fun e => h e.symm)).symm
theorem partRow_full (xs : List Int) (h64 : xs.length = 64) : partRow xs 64 = words16 xs ++ List.replicate 48 0 := by
  apply List.ext_getElem
  · simp [partRow, words16]
  · intro i h1 h2
    have hi : i < 64 := by rw [partRow_len] at h1; exact h1
    have e : xs.take 64 = xs := List.take_of_length_le (by omega)
    by_cases h : i < 16
    · rw [List.getElem_append_left (by rw [words16_len]; exact h)]
      simp [partRow, words16, e]
    · rw [List.getElem_append_right (by rw [words16_len]; omega), List.getElem_replicate]
      simp [partRow, e]
      unfold word
      rw [List.drop_of_length_le (by omega)]
      rfl

/-- w(t), of those ahead of it -/
def nextW (l : List Int) (t : Nat) : Int := IntKind.u32.wrap (IntKind.u32.wrap (IntKind.u32.wrap (sig1 (l.getD (t - 2) 0) + l.getD (t - 7) 0) + sig0 (l.getD (t - 15) 0)) + l.getD (t - 16) 0)
/-- the sixteen words and n more -/
def extW (l : List Int) : Nat → List Int
  | 0 => l
  | n + 1 => extW l n ++ [nextW (extW l n) (16 + n)]
def sched (xs : List Int) : List Int := extW (words16 xs) 48
theorem extW_len (l : List Int) (n : Nat) : (extW l n).length = l.length + n := by
  induction n with
  | zero => rfl
  | succ n ih => simp [extW, ih]; omega
theorem wrap32_bounds (x : Int) : 0 ≤ IntKind.u32.wrap x ∧ IntKind.u32.wrap x ≤ 4294967295 := by rw [IntKind.wrap_u32']; omega
theorem extW_w (l : List Int) (h : W32 l) (n : Nat) : W32 (extW l n) := by
  induction n with
  | zero => exact h
  | succ n ih =>
    refine ih.append fun x hx => ?_
    rcases List.mem_singleton.1 hx with rfl
    exact wrap32_bounds _
theorem sched_len (xs : List Int) : (sched xs).length = 64 := by rw [sched, extW_len, words16_len]
theorem sched_w (xs : List Int) (h : Bytes xs) : W32 (sched xs) := extW_w _ (words16_w xs h) 48
/-- the row in which the words are laid, behind t of them -/
def schedRow (xs : List Int) (n : Nat) : List Int := extW (words16 xs) n ++ List.replicate (48 - n) 0
theorem schedRow_len (xs : List Int) (n : Nat) (hn : n ≤ 48) : (schedRow xs n).length = 64 := by simp [schedRow, extW_len, words16_len]; omega
theorem schedRow_getD (xs : List Int) (n i : Nat) (hi : i < 16 + n) : (schedRow xs n).getD i 0 = (extW (words16 xs) n).getD i 0 := by
  have hl : i < (extW (words16 xs) n).length := by rw [extW_len, words16_len]; omega
  unfold schedRow
  rw [List.getD_eq_getElem?_getD, List.getD_eq_getElem?_getD, List.getElem?_append_left hl]
theorem schedRow_w (xs : List Int) (h : Bytes xs) (n : Nat) : W32 (schedRow xs n) := (extW_w _ (words16_w xs h) n).append (W32.zeros _)
theorem fill_set (l : List Int) (m t : Nat) (x : Int) (ht : l.length = t) (hm : 0 < m) : (l ++ List.replicate m 0).set t x = (l ++ [x]) ++ List.replicate (m - 1) 0 := by
  rw [List.set_append_right _ _ (by omega), ht, Nat.sub_self, show m = (m - 1) + 1 from by omega, List.replicate_succ, List.set_cons_zero, List.append_assoc, Nat.add_sub_cancel]
  rfl
theorem schedRow_set (xs : List Int) (n : Nat) (hn : n < 48) (x : Int) (hx : x = nextW (schedRow xs n) (16 + n)) : (schedRow xs n).set (16 + n) x = schedRow xs (n + 1) := by
  have e : nextW (schedRow xs n) (16 + n) = nextW (extW (words16 xs) n) (16 + n) := by
    unfold nextW
    rw [schedRow_getD xs n _ (by omega), schedRow_getD xs n _ (by omega), schedRow_getD xs n _ (by omega), schedRow_getD xs n _ (by omega)]
  rw [hx, e]
  unfold schedRow
  rw [fill_set _ _ _ _ (by rw [extW_len, words16_len]) (by omega)]
  simp only [extW]
  rw [show 48 - n - 1 = 48 - (n + 1) from by omega]

/-! ### bits that do not meet -/
theorem or_low32 (i : Nat) (x y : Int) (hx0 : 0 ≤ x) (hx : x ≤ 4294967295) (hd : x % 2 ^ i = 0) (hy0 : 0 ≤ y) (hy : y < 2 ^ i) (hi : y ≤ 4294967295) : bits .or .u32 x y = x + y := by
  obtain ⟨a, rfl⟩ := Int.eq_ofNat_of_zero_le hx0
  obtain ⟨b, rfl⟩ := Int.eq_ofNat_of_zero_le hy0
  have e : ((2 : Int) ^ i) = ((2 ^ i : Nat) : Int) := by rw [Int.natCast_pow]; rfl
  rw [e] at hd hy
  rw [u32_or_nat a b (by omega) (by omega), nat_join i a b (by omega) (by omega)]
  omega
/-- one byte more of a word -/
theorem or_byte32 (z y : Int) (hz0 : 0 ≤ z) (hz : z < 16777216) (hy0 : 0 ≤ y) (hy : y ≤ 255) : bits .or .u32 (z * 256) y = z * 256 + y :=
  or_low32 8 (z * 256) y (by omega) (by omega) (by omega) hy0 (by omega) (by omega)
theorem word_small (xs : List Int) (h : Bytes xs) (k : Nat) (hk : k < xs.length) : 0 ≤ word (xs.take k) (k / 4) ∧ word (xs.take k) (k / 4) < 16777216 := by
  have h1 := beOf_bounds _ (((h.take k).drop (4 * (k / 4))).take 4)
  unfold word
  have h3 : (((xs.take k).drop (4 * (k / 4))).take 4).length ≤ 3 := by simp; omega
  have h4 : (256 : Int) ^ (((xs.take k).drop (4 * (k / 4))).take 4).length ≤ 16777216 := by
    generalize (((xs.take k).drop (4 * (k / 4))).take 4).length = n at h3 ⊢
    have : n = 0 ∨ n = 1 ∨ n = 2 ∨ n = 3 := by omega
    rcases this with rfl | rfl | rfl | rfl <;> decide
  omega
end Go.Proofs.YtomdgiikjnghcaaDoor
