/-
  Words for memory, used by all texts of this seat: a slice of bytes that reads as a list of numbers ('Holds'); what a made row is good for. No program is named here.
-/
import Derived.WalkKit
import Derived.Deep.Draws
import Derived.Laws.Rows
import Derived.Laws.OwnMore
namespace Go.Proofs.Ytgbhnnobbciemaa
open Go.RowKit

/-- each number is one of a byte -/
def Bytes (xs : List Int) : Prop := ∀ x ∈ xs, 0 ≤ x ∧ x ≤ 255

theorem Bytes.nil : Bytes [] := fun _ h => by cases h
theorem Bytes.take {xs : List Int} (h : Bytes xs) (k : Nat) : Bytes (xs.take k) := fun x hx => h x (List.mem_of_mem_take hx)
theorem Bytes.drop {xs : List Int} (h : Bytes xs) (k : Nat) : Bytes (xs.drop k) := fun x hx => h x (List.mem_of_mem_drop hx)
theorem Bytes.append {xs ys : List Int} (h : Bytes xs) (k : Bytes ys) : Bytes (xs ++ ys) := fun x hx => by
  rcases List.mem_append.1 hx with h1 | h1
  · exact h x h1
  · exact k x h1
theorem Bytes.getD {xs : List Int} (h : Bytes xs) (i : Nat) : 0 ≤ xs.getD i 0 ∧ xs.getD i 0 ≤ 255 := by
  by_cases hi : i < xs.length
  · rw [List.getD_eq_getElem?_getD, List.getElem?_eq_getElem hi]
    exact h _ (List.getElem_mem hi)
  · rw [List.getD_eq_getElem?_getD, List.getElem?_eq_none (by omega)]
    simp
theorem Bytes.of_all {xs : List Int} (h : xs.all (fun x => decide (0 ≤ x) && decide (x ≤ 255)) = true) : Bytes xs := fun x hx => by
  have := List.all_eq_true.1 h x hx
  simpa using this
theorem Bytes.zeros (n : Nat) : Bytes (List.replicate n 0) := fun x hx => by
  rw [List.eq_of_mem_replicate hx]
  omega

/-- the slice value '.slice A n c' holds the bytes xs, in memory below block B (nil and empty ones too) -/
structure Holds (w : World) (B : Nat) (A : Option Addr) (n c : Nat) (xs : List Int) : Prop where
  len : xs.length = n
  fit : n ≤ c
  room : n ≤ 281474976710656
  byte : Bytes xs
  bare : A = none → c = 0
  cells : 0 < n → ∃ b off, A = some ⟨b, off, none⟩ ∧ b < B ∧ ∀ i, i < n → w.cell? ⟨b, off + i, none⟩ = some (.int .u8 (xs.getD i 0))

section
variable {w w' : World} {B B' : Nat} {A : Option Addr} {n c : Nat} {xs : List Int}

theorem Holds.nil (w : World) (B : Nat) : Holds w B none 0 0 [] := ⟨rfl, Nat.le_refl _, by omega, Bytes.nil, fun _ => rfl, fun h => absurd h (by omega)⟩

theorem Holds.keep (h : Holds w B A n c xs) (hk : ∀ p : Addr, p.block < B → w'.cell? p = w.cell? p) : Holds w' B A n c xs :=
  ⟨h.len, h.fit, h.room, h.byte, h.bare, fun hn => by
    obtain ⟨b, off, e, hb, hc⟩ := h.cells hn
    exact ⟨b, off, e, hb, fun i hi => (hk _ hb).trans (hc i hi)⟩⟩
theorem Holds.mono (h : Holds w B A n c xs) (hB : B ≤ B') : Holds w B' A n c xs :=
  ⟨h.len, h.fit, h.room, h.byte, h.bare, fun hn => by
    obtain ⟨b, off, e, hb, hc⟩ := h.cells hn
    exact ⟨b, off, e, by omega, hc⟩⟩
theorem Holds.below (h : Holds w B A n c xs) (hb : Below B w w') : Holds w' B A n c xs := h.keep fun _ hp => hb.cell hp
/-- carried over a call: the block bound is the heap's size on both sides -/
theorem Holds.over (h : Holds w w.heap.size A n c xs) (hb : Below w.heap.size w w') : Holds w' w'.heap.size A n c xs := (h.below hb).mono hb.size
theorem Holds.drewN (h : Holds w B A n c xs) (k : Nat) : Holds (w.drewN k) B A n c xs := h.keep fun _ _ => rfl
theorem Holds.drew (h : Holds w B A n c xs) : Holds w.drew B A n c xs := h.keep fun _ _ => rfl

theorem Holds.empty (w : World) (B : Nat) (A : Option Addr) (c : Nat) (hc : A = none → c = 0) : Holds w B A 0 c [] := ⟨rfl, Nat.zero_le _, by omega, Bytes.nil, hc, fun h => absurd h (by omega)⟩
/-- the cut 's[k:k+m:k+m]' that is not empty, as the model spells it -/
theorem Holds.cut (h : Holds w B A n c xs) {k m : Nat} (hk : k + m ≤ n) (hm : 0 < m) : Holds w B (A.map (·.add k)) m m ((xs.drop k).take m) := by
  have hl := h.len
  refine ⟨by simp; omega, Nat.le_refl _, by have := h.room; omega, (h.byte.drop k).take m, fun hA => ?_, fun hm => ?_⟩
  · obtain ⟨b, off, rfl, _⟩ := h.cells (by omega)
    cases hA
  obtain ⟨b, off, rfl, hb, hc⟩ := h.cells (by omega)
  refine ⟨b, off + k, ?_, hb, fun i hi => ?_⟩
  · by_cases hk0 : k = 0
    · subst hk0; simp [Addr.add]
    · simp [Addr.add, hk0]
  · rw [Nat.add_assoc, hc (k + i) (by omega)]
    simp [List.getD_eq_getElem?_getD, List.getElem?_drop, hi]
/-- the cut 's[k:k+m]' that is not empty: the capacity goes on -/
theorem Holds.part (h : Holds w B A n c xs) {k m c' : Nat} (hk : k + m ≤ n) (hm : 0 < m) (hc' : m ≤ c') : Holds w B (A.map (·.add k)) m c' ((xs.drop k).take m) := by
  have h1 := h.cut hk hm
  exact ⟨h1.len, hc', h1.room, h1.byte, fun hA => by have := h1.bare hA; omega, h1.cells⟩
end

/-- one call behind another: what was there stays -/
theorem step {a b c : World} (h1 : Below a.heap.size a b) (h2 : Below b.heap.size b c) : Below a.heap.size a c := h1.trans (h2.mono h1.size)
theorem drewed (w : World) (k : Nat) : Below w.heap.size w (w.drewN k) := ⟨rfl, rfl, rfl, Nat.le_refl _, fun _ _ => rfl⟩

theorem ret_bool {a b : Bool} (h : a = b) : Ending.returned (.bool a) = .returned (.bool b) := by rw [h]
theorem ret_int {k : IntKind} {a b : Int} (h : a = b) : Ending.returned (.int k a) = .returned (.int k b) := by rw [h]

/-! ### the document's numbers: little end first -/

/-- the s bytes of n -/
def le (n : Int) : Nat → List Int
  | 0 => []
  | s + 1 => n % 256 :: le (n / 256) s
/-- the number of bytes -/
def num : List Int → Int
  | [] => 0
  | x :: r => x + 256 * num r

theorem le_length (n : Int) (s : Nat) : (le n s).length = s := by
  induction s generalizing n with
  | zero => rfl
  | succ s ih => simp [le, ih]
theorem le_bytes (n : Int) (s : Nat) : Bytes (le n s) := by
  induction s generalizing n with
  | zero => exact Bytes.nil
  | succ s ih =>
    intro x hx
    rcases List.mem_cons.1 hx with rfl | hx
    · omega
    · exact ih _ x hx
theorem num_le (n : Int) (s : Nat) (h0 : 0 ≤ n) (h : n < 256 ^ s) : num (le n s) = n := by
  induction s generalizing n with
  | zero => simp at h; simp [le, num]; omega
  | succ s ih =>
    have := ih (n / 256) (by omega) (by rw [Int.pow_succ] at h; omega)
    simp only [le, num, this]
    omega
theorem num_bounds (xs : List Int) (h : Bytes xs) : 0 ≤ num xs ∧ num xs < 256 ^ xs.length := by
  induction xs with
  | nil => simp [num]
  | cons x r ih =>
    have h1 := h x List.mem_cons_self
    have h2 := ih fun y hy => h y (List.mem_cons_of_mem _ hy)
    simp only [num, List.length_cons, Int.pow_succ]
    omega
theorem le_num (xs : List Int) (h : Bytes xs) : le (num xs) xs.length = xs := by
  induction xs with
  | nil => rfl
  | cons x r ih =>
    have h1 := h x List.mem_cons_self
    have h2 := ih fun y hy => h y (List.mem_cons_of_mem _ hy)
    simp only [num, List.length_cons, le]
    rw [show (x + 256 * num r) % 256 = x from by omega, show (x + 256 * num r) / 256 = num r from by omega, h2]
theorem num_snoc (xs : List Int) (x : Int) : num (xs ++ [x]) = num xs + 256 ^ xs.length * x := by
  induction xs with
  | nil => simp [num]
  | cons y r ih =>
    simp only [List.cons_append, num, ih, List.length_cons, Int.pow_succ, Int.mul_add]
    rw [Int.mul_comm (256 ^ r.length) 256, Int.mul_assoc, Int.add_assoc]

/-! ### what the calls of layer 1 answer -/

def sizeOk (s : Int) : Bool := s == 1 || s == 2 || s == 4 || s == 8
/-- the error of a part: 2 (a place that is none), 4 (too few), or none -/
def partErr (n : Nat) (at_ m : Int) : Int := if at_ < 0 ∨ (n : Int) < at_ ∨ m < 0 then 2 else if (n : Int) - at_ < m then 4 else 0
def partOf (xs : List Int) (at_ m : Int) : List Int := if partErr xs.length at_ m = 0 then (xs.drop at_.toNat).take m.toNat else []
def getErr (n : Nat) (at_ s : Int) : Int := if sizeOk s = true then partErr n at_ s else 2
def getOf (xs : List Int) (at_ s : Int) : Int := if getErr xs.length at_ s = 0 then num ((xs.drop at_.toNat).take s.toNat) else 0
def putOk (n s : Int) : Bool := sizeOk s && decide (n < 256 ^ s.toNat)
def putErr (n s : Int) : Int := if putOk n s = true then 0 else 2
def putOf (n s : Int) : List Int := if putOk n s = true then le n s.toNat else []
def padLen (n : Nat) : Nat := (n + 7) / 8 * 8
def padOf (xs : List Int) : List Int := xs ++ List.replicate (padLen xs.length - xs.length) 0
def zeroOf (xs : List Int) (at_ m : Int) : Bool := decide (partErr xs.length at_ m = 0) && (partOf xs at_ m).all (· == 0)

theorem sizeOk_cases {s : Int} (h : sizeOk s = true) : s = 1 ∨ s = 2 ∨ s = 4 ∨ s = 8 := by
  simp only [sizeOk, Bool.or_eq_true, beq_iff_eq] at h
  omega
end Go.Proofs.Ytgbhnnobbciemaa
