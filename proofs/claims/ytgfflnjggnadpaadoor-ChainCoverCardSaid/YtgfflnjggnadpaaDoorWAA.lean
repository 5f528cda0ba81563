import Derived.WalkKit
import Derived.Deep.Draws
import Derived.Laws.Rows
import Derived.Laws.OwnMore
import Derived.Laws.Bits64
import Derived.Laws.BitsAllLaws
import Derived.OpenShut
import Derived.Test.YtgfflnjggnadpaaDoorRows
import Derived.Lib.Hide
import Derived.BigQuiet
import Derived.Deep.QuietTactic
import Derived.Laws.CopyOwn
import Derived.Laws.AppendOwnNone
import Derived.Laws.Tables
import Derived.Laws.NewFold
import Derived.Deep.WholeRow
import Derived.StillTailTactics
import Derived.Deep.RegionLaw
import Derived.WalkSpells
import Derived.WalkLawsBesides
import Derived.Lib.AppendZeros
import Derived.Deep.RegionWith
import Derived.Deep.DeepCutAuto
import Derived.OrdersHeld
import Derived.Laws.StructEq
import Derived.ChangeKeysEq
import Derived.Laws.AppendOwn
import Derived.OwnWalk
import Derived.Lib.OthersKept
import Derived.Laws.BytesArg
import Derived.Laws.IdiomStrings
import Derived.ProofKit
import Derived.ShutString
import Derived.SizedLaws
import Derived.ChangeOld
import Derived.Great.Walk
import Derived.Deep.MidRow
namespace Go.Proofs.YtgfflnjggnadpaaDoor
set_option linter.all false
open Go.RowKit
/-- each number is one of a byte -/
def Bytes (xs : List Int) : Prop := ∀ x ∈ xs, 0 ≤ x ∧ x ≤ 255
theorem Bytes.nil : Bytes [] := fun _ h => by cases h
theorem Bytes.take {xs : List Int} (h : Bytes xs) (k : Nat) : Bytes (xs.take k) := fun x hx => h x (List.mem_of_mem_take hx)
theorem Bytes.drop {xs : List Int} (h : Bytes xs) (k : Nat) : Bytes (xs.drop k) := fun x hx => h x (List.mem_of_mem_drop hx)
theorem Bytes.append {xs ys : List Int} (h : Bytes xs) (k : Bytes ys) : Bytes (xs ++ ys) := fun x hx => by
  rcases List.mem_append.1 hx with h1 | h1
  · exact h x h1
  · exact k x h1
theorem Bytes.getD {xs : List Int} (h : Bytes xs) (i : Nat) : 0 ≤ xs.getD i 0 ∧ xs.getD i 0 ≤ 255 := by
  by_cases hi : i < xs.length
  · rw [List.getD_eq_getElem?_getD, List.getElem?_eq_getElem hi]
    exact h _ (List.getElem_mem hi)
  · rw [List.getD_eq_getElem?_getD, List.getElem?_eq_none (by omega)]
    simp
theorem Bytes.of_all {xs : List Int} (h : xs.all (fun x => decide (0 ≤ x) && decide (x ≤ 255)) = true) : Bytes xs := fun x hx => by
  have := List.all_eq_true.1 h x hx
  simpa using this
theorem Bytes.zeros (n : Nat) : Bytes (List.replicate n 0) := fun x hx => by
  rw [List.eq_of_mem_replicate hx]
  omega
/-- the slice value '.slice A n c' holds the bytes xs, in memory below block B (nil and empty ones too) -/
structure Holds (w : World) (B : Nat) (A : Option Addr) (n c : Nat) (xs : List Int) : Prop where
  len : xs.length = n
  fit : n ≤ c
  room : n ≤ 281474976710656
  byte : Bytes xs
  bare : A = none → c = 0
  cells : 0 < n → ∃ b off, A = some ⟨b, off, none⟩ ∧ b < B ∧ ∀ i, i < n → w.cell? ⟨b, off + i, none⟩ = some (.int .u8 (xs.getD i 0))
section
variable {w w' : World} {B B' : Nat} {A : Option Addr} {n c : Nat} {xs : List Int}
theorem Holds.nil (w : World) (B : Nat) : Holds w B none 0 0 [] := ⟨rfl, Nat.le_refl _, by omega, Bytes.nil, fun _ => rfl, fun h => absurd h (by omega)⟩
theorem Holds.keep (h : Holds w B A n c xs) (hk : ∀ p : Addr, p.block < B → w'.cell? p = w.cell? p) : Holds w' B A n c xs :=
  ⟨h.len, h.fit, h.room, h.byte, h.bare, fun hn => by
    obtain ⟨b, off, e, hb, hc⟩ := h.cells hn
    exact ⟨b, off, e, hb, fun i hi => (hk _ hb).trans (hc i hi)⟩⟩
theorem Holds.mono (h : Holds w B A n c xs) (hB : B ≤ B') : Holds w B' A n c xs :=
  ⟨h.len, h.fit, h.room, h.byte, h.bare, fun hn => by
    obtain ⟨b, off, e, hb, hc⟩ := h.cells hn
    exact ⟨b, off, e, by omega, hc⟩⟩
theorem Holds.below (h : Holds w B A n c xs) (hb : Below B w w') : Holds w' B A n c xs := h.keep fun _ hp => hb.cell hp
/-- carried over a call: the block bound is the heap's size on both sides -/
theorem Holds.over (h : Holds w w.heap.size A n c xs) (hb : Below w.heap.size w w') : Holds w' w'.heap.size A n c xs := (h.below hb).mono hb.size
theorem Holds.drewN (h : Holds w B A n c xs) (k : Nat) : Holds (w.drewN k) B A n c xs := h.keep fun _ _ => rfl
theorem Holds.drew (h : Holds w B A n c xs) : Holds w.drew B A n c xs := h.keep fun _ _ => rfl
theorem Holds.empty (w : World) (B : Nat) (A : Option Addr) (c : Nat) (hc : A = none → c = 0) : Holds w B A 0 c [] := ⟨rfl, Nat.zero_le _, by omega, Bytes.nil, hc, fun h => absurd h (by omega)⟩
/-- the cut 's[k:k+m:k+m]' that is not empty, as the model spells it -/
theorem Holds.cut (h : Holds w B A n c xs) {k m : Nat} (hk : k + m ≤ n) (hm : 0 < m) : Holds w B (A.map (·.add k)) m m ((xs.drop k).take m) := by
  have hl := h.len
  refine ⟨by simp; omega, Nat.le_refl _, by have := h.room; omega, (h.byte.drop k).take m, fun hA => ?_, fun hm => ?_⟩
  · obtain ⟨b, off, rfl, _⟩ := h.cells (by omega)
    cases hA
  obtain ⟨b, off, rfl, hb, hc⟩ := h.cells (by omega)
  refine ⟨b, off + k, ?_, hb, fun i hi => ?_⟩
  · by_cases hk0 : k = 0
    · subst hk0; simp [Addr.add]
    · simp [Addr.add, hk0]
  · rw [Nat.add_assoc, hc (k + i) (by omega)]
    simp [List.getD_eq_getElem?_getD, List.getElem?_drop, hi]
/-- the cut 's[k:k+m]' that is not empty: the capacity goes on -/
theorem Holds.part (h : Holds w B A n c xs) {k m c' : Nat} (hk : k + m ≤ n) (hm : 0 < m) (hc' : m ≤ c') : Holds w B (A.map (·.add k)) m c' ((xs.drop k).take m) := by
  have h1 := h.cut hk hm
  exact ⟨h1.len, hc', h1.room, h1.byte, fun hA => by have := h1.bare hA; omega, h1.cells⟩
end
/-- one call behind another: what was there stays -/
theorem step {a b c : World} (h1 : Below a.heap.size a b) (h2 : Below b.heap.size b c) : Below a.heap.size a c := h1.trans (h2.mono h1.size)
theorem drewed (w : World) (k : Nat) : Below w.heap.size w (w.drewN k) := ⟨rfl, rfl, rfl, Nat.le_refl _, fun _ _ => rfl⟩
theorem ret_bool {a b : Bool} (h : a = b) : Ending.returned (.bool a) = .returned (.bool b) := by rw [h]
/-! ### the document's numbers: little end first -/

/-- the s bytes of n -/
def le (n : Int) : Nat → List Int
  | 0 => []
  | s + 1 => n % 256 :: le (n / 256) s
/-- the number of bytes -/
def num : List Int → Int
  | [] => 0
  | x :: r => x + 256 * num r
theorem le_length (n : Int) (s : Nat) : (le n s).length = s := by
  induction s generalizing n with
  | zero => rfl
  | succ s ih => simp [le, ih]
theorem le_bytes (n : Int) (s : Nat) : Bytes (le n s) := by
  induction s generalizing n with
  | zero => exact Bytes.nil
  | succ s ih =>
    intro x hx
    rcases List.mem_cons.1 hx with rfl | hx
    · omega
    · exact ih _ x hx
theorem num_le (n : Int) (s : Nat) (h0 : 0 ≤ n) (h : n < 256 ^ s) : num (le n s) = n := by
  induction s generalizing n with
  | zero => simp at h; simp [le, num]; omega
  | succ s ih =>
    have := ih (n / 256) (by omega) (by rw [Int.pow_succ] at h; omega)
    simp only [le, num, this]
    omega
theorem num_bounds (xs : List Int) (h : Bytes xs) : 0 ≤ num xs ∧ num xs < 256 ^ xs.length := by
  induction xs with
  | nil => simp [num]
  | cons x r ih =>
    have h1 := h x List.mem_cons_self
    have h2 := ih fun y hy => h y (List.mem_cons_of_mem _ hy)
    simp only [num, List.length_cons, Int.pow_succ]
    omega
theorem le_num (xs : List Int) (h : Bytes xs) : le (num xs) xs.length = xs := by
  induction xs with
  | nil => rfl
  | cons x r ih =>
    have h1 := h x List.mem_cons_self
    have h2 := ih fun y hy => h y (List.mem_cons_of_mem _ hy)
    simp only [num, List.length_cons, le]
    rw [show (x + 256 * num r) % 256 = x from by omega, show (x + 256 * num r) / 256 = num r from by omega, h2]
theorem num_snoc (xs : List Int) (x : Int) : num (xs ++ [x]) = num xs + 256 ^ xs.length * x := by
  induction xs with
  | nil => simp [num]
  | cons y r ih =>
    simp only [List.cons_append, num, ih, List.length_cons, Int.pow_succ, Int.mul_add]
    rw [Int.mul_comm (256 ^ r.length) 256, Int.mul_assoc, Int.add_assoc]
/-! ### what the calls of layer 1 answer -/

def sizeOk (s : Int) : Bool := s == 1 || s == 2 || s == 4 || s == 8
/-- the error of a part: 2 (a place that is none), 4 (too few), or none -/
def partErr (n : Nat) (at_ m : Int) : Int := if at_ < 0 ∨ (n : Int) < at_ ∨ m < 0 then 2 else if (n : Int) - at_ < m then 4 else 0
def partOf (xs : List Int) (at_ m : Int) : List Int := if partErr xs.length at_ m = 0 then (xs.drop at_.toNat).take m.toNat else []
def getErr (n : Nat) (at_ s : Int) : Int := if sizeOk s = true then partErr n at_ s else 2
def getOf (xs : List Int) (at_ s : Int) : Int := if getErr xs.length at_ s = 0 then num ((xs.drop at_.toNat).take s.toNat) else 0
def putOk (n s : Int) : Bool := sizeOk s && decide (n < 256 ^ s.toNat)
def putErr (n s : Int) : Int := if putOk n s = true then 0 else 2
def putOf (n s : Int) : List Int := if putOk n s = true then le n s.toNat else []
def padLen (n : Nat) : Nat := (n + 7) / 8 * 8
def padOf (xs : List Int) : List Int := xs ++ List.replicate (padLen xs.length - xs.length) 0
theorem sizeOk_cases {s : Int} (h : sizeOk s = true) : s = 1 ∨ s = 2 ∨ s = 4 ∨ s = 8 := by
  simp only [sizeOk, Bool.or_eq_true, beq_iff_eq] at h
  omega
end Go.Proofs.YtgfflnjggnadpaaDoor

namespace Go.Proofs.YtgfflnjggnadpaaDoor
set_option linter.all false
set_option maxRecDepth 100000
/-- a head: its numbers in their order, and the signature -/
structure Hd where
  ch : Int
  st : Int
  cm : Int
  cr : Int
  fl : Int
  nx : Int
  id : Int
  asy : Int
  tr : Int
  se : Int
  sg : List Int
def Hd.tup (h : Hd) : List Int := h.ch :: h.st :: h.cm :: h.cr :: h.fl :: h.nx :: h.id :: h.asy :: h.tr :: h.se :: h.sg
theorem Hd.tup_inj {a b : Hd} : a.tup = b.tup ↔ a = b := by
  cases a
  cases b
  simp [Hd.tup]
instance : DecidableEq Hd := fun _ _ => decidable_of_iff _ Hd.tup_inj
/-- each number is one of its kind -/
structure Hd.ok (h : Hd) : Prop where
  ch : 0 ≤ h.ch ∧ h.ch ≤ 65535
  st : 0 ≤ h.st ∧ h.st ≤ 4294967295
  cm : 0 ≤ h.cm ∧ h.cm ≤ 65535
  cr : 0 ≤ h.cr ∧ h.cr ≤ 65535
  fl : 0 ≤ h.fl ∧ h.fl ≤ 4294967295
  nx : 0 ≤ h.nx ∧ h.nx ≤ 4294967295
  id : 0 ≤ h.id ∧ h.id ≤ 18446744073709551615
  asy : 0 ≤ h.asy ∧ h.asy ≤ 18446744073709551615
  tr : 0 ≤ h.tr ∧ h.tr ≤ 4294967295
  se : 0 ≤ h.se ∧ h.se ≤ 18446744073709551615
  len : h.sg.length = 16
  byte : Bytes h.sg
def zeroHd : Hd := ⟨0, 0, 0, 0, 0, 0, 0, 0, 0, 0, List.replicate 16 0⟩
theorem zeroHd_ok : zeroHd.ok := ⟨by decide, by decide, by decide, by decide, by decide, by decide, by decide, by decide, by decide, by decide, by decide, Bytes.zeros 16⟩
def commands : List Int := [0, 1, 2, 3, 4, 5, 6, 7, 8, 9, 10, 12, 13, 14, 16, 17, 18]
def known (c : Int) : Bool := commands.contains c
def isAs (f : Int) : Bool := decide (f / 2 % 2 = 1)
def mayP (h : Hd) : Bool := known h.cm && (decide (h.fl < 16) && (if isAs h.fl = true then decide (h.tr = 0) else decide (h.asy = 0)))
def kindP (h : Hd) : Hd := if isAs h.fl = true then { h with tr := 0 } else { h with asy := 0 }
def aot (h : Hd) : Int := if isAs h.fl = true then h.asy else h.tr * 4294967296
theorem kindP_eq (h : Hd) : decide (h = kindP h) = (if isAs h.fl = true then decide (h.tr = 0) else decide (h.asy = 0)) := by
  obtain ⟨ch, st, cm, cr, fl, nx, id, asy, tr, se, sg⟩ := h
  unfold kindP
  by_cases hi : isAs fl = true
  · rw [if_pos hi, if_pos hi]; simp
  · rw [if_neg hi, if_neg hi]; simp
theorem kindP_ok {h : Hd} (k : h.ok) : (kindP h).ok := by
  unfold kindP
  split
  · exact ⟨k.ch, k.st, k.cm, k.cr, k.fl, k.nx, k.id, k.asy, ⟨Int.le_refl 0, (by omega : (0 : Int) ≤ 4294967295)⟩, k.se, k.len, k.byte⟩
  · exact ⟨k.ch, k.st, k.cm, k.cr, k.fl, k.nx, k.id, ⟨Int.le_refl 0, (by omega : (0 : Int) ≤ 18446744073709551615)⟩, k.tr, k.se, k.len, k.byte⟩
theorem aot_bounds {h : Hd} (k : h.ok) : 0 ≤ aot h ∧ aot h ≤ 18446744073709551615 := by
  have h1 := k.asy
  have h2 := k.tr
  unfold aot
  split <;> omega
/-! ### bytes of a head -/
def szs : List Nat := [4, 2, 2, 4, 2, 2, 4, 4, 8, 8, 8]
def offs : List Nat := [0, 4, 6, 8, 12, 14, 16, 20, 24, 32, 40, 48]
def vals (h : Hd) : List Int := [1112364030, 64, h.ch, h.st, h.cm, h.cr, h.fl, h.nx, h.id, aot h, h.se]
/-- the bytes of the first k numbers -/
def pre (h : Hd) : Nat → List Int
  | 0 => []
  | k + 1 => pre h k ++ le ((vals h).getD k 0) (szs.getD k 0)
def putH (h : Hd) : List Int := pre h 11 ++ h.sg
def putErrH (h : Hd) : Int := if mayP h = true then 0 else 2
def putOfH (h : Hd) : List Int := if mayP h = true then putH h else []
/-- the row that Put fills, behind k rounds -/
def rowH (h : Hd) (k : Nat) : List Int := pre h k ++ List.replicate (64 - offs.getD k 0) 0
theorem eleven {p : Nat → Prop} (h0 : p 0) (h1 : p 1) (h2 : p 2) (h3 : p 3) (h4 : p 4) (h5 : p 5) (h6 : p 6) (h7 : p 7) (h8 : p 8) (h9 : p 9) (h10 : p 10) (k : Nat) (hk : k < 11) : p k := by
  match k, hk with
  | 0, _ => exact h0
  | 1, _ => exact h1
  | 2, _ => exact h2
  | 3, _ => exact h3
  | 4, _ => exact h4
  | 5, _ => exact h5
  | 6, _ => exact h6
  | 7, _ => exact h7
  | 8, _ => exact h8
  | 9, _ => exact h9
  | 10, _ => exact h10
theorem offs_step : ∀ k, k < 11 → offs.getD (k + 1) 0 = offs.getD k 0 + szs.getD k 0 ∧ offs.getD k 0 + szs.getD k 0 ≤ 48 ∧ 2 ≤ szs.getD k 0 ∧ szs.getD k 0 ≤ 8 := by decide
theorem size_of (k : Nat) (hk : k < 11) : sizeOk (szs.getD k 0 : Nat) = true := by
  revert hk
  exact eleven (p := fun k => sizeOk (szs.getD k 0 : Nat) = true) (by decide) (by decide) (by decide) (by decide) (by decide) (by decide) (by decide) (by decide) (by decide) (by decide) (by decide) k
theorem pre_len (h : Hd) (k : Nat) (hk : k ≤ 11) : (pre h k).length = offs.getD k 0 := by
  induction k with
  | zero => rfl
  | succ k ih =>
    have h1 := offs_step k (by omega)
    rw [pre, List.length_append, ih (by omega), le_length]
    omega
theorem pre_bytes (h : Hd) (k : Nat) : Bytes (pre h k) := by
  induction k with
  | zero => exact Bytes.nil
  | succ k ih => exact ih.append (le_bytes _ _)
theorem putH_len {h : Hd} (hs : h.sg.length = 16) : (putH h).length = 64 := by
  unfold putH
  rw [List.length_append, pre_len h 11 (by omega), hs]
  rfl
theorem putH_bytes {h : Hd} (hb : Bytes h.sg) : Bytes (putH h) := (pre_bytes h 11).append hb
theorem rowH_zero (h : Hd) : rowH h 0 = List.replicate 64 0 := rfl
theorem rowH_len (h : Hd) (k : Nat) (hk : k ≤ 11) : (rowH h k).length = 64 := by
  unfold rowH
  rw [List.length_append, pre_len h k hk, List.length_replicate]
  have : ∀ k, k ≤ 11 → offs.getD k 0 ≤ 64 := by decide
  have := this k hk
  omega
/-- one round of Put -/
theorem rowH_step (h : Hd) (k : Nat) (hk : k < 11) : (rowH h k).take (offs.getD k 0) ++ le ((vals h).getD k 0) (szs.getD k 0) ++ (rowH h k).drop (offs.getD k 0 + szs.getD k 0) = rowH h (k + 1) := by
  have h1 := offs_step k hk
  unfold rowH
  rw [List.take_left' (pre_len h k (by omega)), List.drop_append, List.drop_of_length_le (by rw [pre_len h k (by omega)]; omega), pre_len h k (by omega), List.nil_append, List.drop_replicate, pre, h1.1]
  congr 2
  omega
theorem rowH_last (h : Hd) : (rowH h 11).take 48 ++ h.sg ++ (rowH h 11).drop 64 = putH h := by
  have e : (rowH h 11).length = 64 := rowH_len h 11 (by omega)
  rw [List.drop_of_length_le (by omega)]
  unfold rowH putH
  rw [List.take_left' (by rw [pre_len h 11 (by omega)]; rfl), List.append_nil]
/-! ### what stands in bytes -/
/-- the number at place a in s bytes -/
def numAt (xs : List Int) (a s : Nat) : Int := num ((xs.drop a).take s)
/-- a head that takes its number k -/
def setK (k : Nat) (n : Int) (h : Hd) : Hd :=
  if k = 2 then { h with ch := n } else if k = 3 then { h with st := n } else if k = 4 then { h with cm := n } else if k = 5 then { h with cr := n } else if k = 6 then { h with fl := n } else if k = 7 then { h with nx := n }
  else if k = 8 then { h with id := n } else if k = 9 then (if isAs h.fl = true then { h with asy := n } else { h with tr := n / 4294967296 }) else if k = 10 then { h with se := n } else h
/-- what was taken behind k rounds -/
def tk (xs : List Int) : Nat → Hd
  | 0 => zeroHd
  | k + 1 => setK k (numAt xs (offs.getD k 0) (szs.getD k 0)) (tk xs k)
def takenP (xs : List Int) : Hd := { tk xs 11 with sg := (xs.drop 48).take 16 }
theorem takenP_eq (xs : List Int) : takenP xs = ⟨numAt xs 6 2, numAt xs 8 4, numAt xs 12 2, numAt xs 14 2, numAt xs 16 4, numAt xs 20 4, numAt xs 24 8, if isAs (numAt xs 16 4) = true then numAt xs 32 8 else 0,
    if isAs (numAt xs 16 4) = true then 0 else numAt xs 32 8 / 4294967296, numAt xs 40 8, (xs.drop 48).take 16⟩ := by
  have e9 : tk xs 9 = ⟨numAt xs 6 2, numAt xs 8 4, numAt xs 12 2, numAt xs 14 2, numAt xs 16 4, numAt xs 20 4, numAt xs 24 8, 0, 0, 0, List.replicate 16 0⟩ := rfl
  unfold takenP
  rw [show tk xs 11 = setK 10 (numAt xs 40 8) (setK 9 (numAt xs 32 8) (tk xs 9)) from rfl, e9]
  unfold setK
  by_cases hi : isAs (numAt xs 16 4) = true
  · simp [hi]
  · simp [hi]
theorem numAt_bounds (xs : List Int) (hx : Bytes xs) (a s : Nat) (M : Int) (hM : (256 : Int) ^ s = M) : 0 ≤ numAt xs a s ∧ numAt xs a s ≤ M - 1 := by
  have h1 := num_bounds ((xs.drop a).take s) ((hx.drop a).take s)
  have hl : ((xs.drop a).take s).length ≤ s := by simp; omega
  have h2 : (256 : Int) ^ ((xs.drop a).take s).length ≤ 256 ^ s := by
    have h3 : (256 : Nat) ^ ((xs.drop a).take s).length ≤ 256 ^ s := Nat.pow_le_pow_right (by omega) hl
    have h4 : (((256 : Nat) ^ ((xs.drop a).take s).length : Nat) : Int) ≤ ((256 ^ s : Nat) : Int) := Int.ofNat_le.2 h3
    simpa [Int.natCast_pow] using h4
  unfold numAt
  omega
theorem numAt_k (xs : List Int) (hx : Bytes xs) (k : Nat) : 0 ≤ numAt xs (offs.getD k 0) (szs.getD k 0) ∧ numAt xs (offs.getD k 0) (szs.getD k 0) < 256 ^ szs.getD k 0 := by
  have := numAt_bounds xs hx (offs.getD k 0) (szs.getD k 0) _ rfl
  omega
theorem takenP_ok (xs : List Int) (hx : Bytes xs) (hl : xs.length = 64) : (takenP xs).ok := by
  have n2 := fun a => numAt_bounds xs hx a 2 65536 (by decide)
  have n4 := fun a => numAt_bounds xs hx a 4 4294967296 (by decide)
  have n8 := fun a => numAt_bounds xs hx a 8 18446744073709551616 (by decide)
  rw [takenP_eq]
  refine ⟨?_, ?_, ?_, ?_, ?_, ?_, ?_, ?_, ?_, ?_, by simp; omega, (hx.drop 48).take 16⟩
  · have := n2 6; dsimp only; omega
  · have := n4 8; dsimp only; omega
  · have := n2 12; dsimp only; omega
  · have := n2 14; dsimp only; omega
  · have := n4 16; dsimp only; omega
  · have := n4 20; dsimp only; omega
  · have := n8 24; dsimp only; omega
  · have := n8 32; dsimp only; split <;> omega
  · have := n8 32; dsimp only; split <;> omega
  · have := n8 40; dsimp only; omega
theorem le_numAt (xs : List Int) (hx : Bytes xs) (a s : Nat) (h : a + s ≤ xs.length) : le (numAt xs a s) s = (xs.drop a).take s := by
  have h1 := le_num ((xs.drop a).take s) ((hx.drop a).take s)
  rwa [show ((xs.drop a).take s).length = s from by simp; omega] at h1
theorem take_add_drop (xs : List Int) (a s : Nat) : xs.take a ++ (xs.drop a).take s = xs.take (a + s) := by rw [List.take_add]
theorem le_append (n : Int) (s t : Nat) : le n (s + t) = le n s ++ le (n / 256 ^ s) t := by
  induction s generalizing n with
  | zero => simp [le]
  | succ s ih =>
    rw [show s + 1 + t = (s + t) + 1 from by omega]
    simp only [le, List.cons_append]
    rw [ih, Int.pow_succ, Int.mul_comm, Int.ediv_ediv_of_nonneg (by decide)]
theorem num_append (xs ys : List Int) : num (xs ++ ys) = num xs + 256 ^ xs.length * num ys := by
  induction xs with
  | nil => simp [num]
  | cons x r ih =>
    simp only [List.cons_append, num, ih, List.length_cons, Int.pow_succ, Int.mul_add]
    rw [Int.mul_comm (256 ^ r.length) 256, Int.mul_assoc, Int.add_assoc]
theorem numAt_split (xs : List Int) (a : Nat) (h : a + 8 ≤ xs.length) : numAt xs a 8 = numAt xs a 4 + 4294967296 * numAt xs (a + 4) 4 := by
  unfold numAt
  have e : (xs.drop a).take 8 = (xs.drop a).take 4 ++ (xs.drop (a + 4)).take 4 := by
    rw [show (8 : Nat) = 4 + 4 from rfl, List.take_add, List.drop_drop]
  rw [e, num_append, show ((xs.drop a).take 4).length = 4 from by simp; omega]
  rfl
/-- the bytes that the document wants at the fixed places -/
def fixedP (xs : List Int) : Bool := decide (numAt xs 0 4 = 1112364030) && decide (numAt xs 4 2 = 64) && (isAs (numAt xs 16 4) || decide (numAt xs 32 4 = 0))
/-- is it a head's bytes -/
def headP (xs : List Int) : Bool := fixedP xs && mayP (takenP xs)
theorem pre_taken (xs : List Int) (hx : Bytes xs) (hl : xs.length = 64) (k : Nat) (hk : k ≤ 11) (hs : ∀ j, j < k → (vals (takenP xs)).getD j 0 = numAt xs (offs.getD j 0) (szs.getD j 0)) : pre (takenP xs) k = xs.take (offs.getD k 0) := by
  induction k with
  | zero => rfl
  | succ k ih =>
    have h1 := offs_step k (by omega)
    rw [pre, ih (by omega) (fun j hj => hs j (by omega)), hs k (by omega), le_numAt xs hx _ _ (by omega), take_add_drop, ← h1.1]
/-- what was taken, put again, is the bytes that it was taken of, just if what is fixed is right -/
theorem put_taken (xs : List Int) (hx : Bytes xs) (hl : xs.length = 64) : decide (putH (takenP xs) = xs) = fixedP xs := by
  have n4 := fun a => numAt_bounds xs hx a 4 4294967296 (by decide)
  have n8 := fun a => numAt_bounds xs hx a 8 18446744073709551616 (by decide)
  have e8 : numAt xs 32 8 = numAt xs 32 4 + 4294967296 * numAt xs 36 4 := numAt_split xs 32 (by omega)
  have hfl : (takenP xs).fl = numAt xs 16 4 := by rw [takenP_eq]
  have ha : aot (takenP xs) = if isAs (numAt xs 16 4) = true then numAt xs 32 8 else 4294967296 * numAt xs 36 4 := by
    have := n4 32
    unfold aot
    rw [hfl, takenP_eq]
    by_cases hi : isAs (numAt xs 16 4) = true
    · simp only [hi, if_true]
    · simp only [hi, Bool.false_eq_true, if_false]
      omega
  have hsg : (takenP xs).sg = xs.drop 48 := by
    rw [takenP_eq]
    exact List.take_of_length_le (by simp; omega)
  have hvals : vals (takenP xs) = [1112364030, 64, numAt xs 6 2, numAt xs 8 4, numAt xs 12 2, numAt xs 14 2, numAt xs 16 4, numAt xs 20 4, numAt xs 24 8, aot (takenP xs), numAt xs 40 8] := by
    unfold vals
    rw [takenP_eq]
  rw [Bool.eq_iff_iff, decide_eq_true_iff]
  constructor
  · intro h
    have hv : ∀ j, j < 11 → le ((vals (takenP xs)).getD j 0) (szs.getD j 0) = (xs.drop (offs.getD j 0)).take (szs.getD j 0) := by
      intro j hj
      have h1 := offs_step j hj
      have hlen : ∀ k, k ≤ 11 → pre (takenP xs) k = xs.take (offs.getD k 0) := by
        intro k hk
        have h2 : (pre (takenP xs) k).length = offs.getD k 0 := pre_len _ k hk
        have h3 : ∀ m k, k + m = 11 → ∃ r, pre (takenP xs) 11 = pre (takenP xs) k ++ r := by
          intro m
          induction m with
          | zero => intro k hk; exact ⟨[], by rw [List.append_nil, show k = 11 from by omega]⟩
          | succ m ih =>
            intro k hk
            obtain ⟨r, hr⟩ := ih (k + 1) (by omega)
            exact ⟨_, by rw [hr, pre, List.append_assoc]⟩
        obtain ⟨r, hr⟩ := h3 (11 - k) k (by omega)
        have h4 : pre (takenP xs) k ++ (r ++ (takenP xs).sg) = xs := by
          rw [← List.append_assoc, ← hr]
          exact h
        have h5 := congrArg (List.take (offs.getD k 0)) h4
        rwa [List.take_left' h2] at h5
      have e1 := hlen (j + 1) (by omega)
      rw [pre, hlen j (by omega), h1.1, ← take_add_drop] at e1
      exact List.append_cancel_left e1
    have v0 := hv 0 (by omega)
    have v1 := hv 1 (by omega)
    have v9 := hv 9 (by omega)
    rw [hvals] at v0 v1 v9
    change le 1112364030 4 = (xs.drop 0).take 4 at v0
    change le 64 2 = (xs.drop 4).take 2 at v1
    change le (aot (takenP xs)) 8 = (xs.drop 32).take 8 at v9
    have w0 : numAt xs 0 4 = 1112364030 := by unfold numAt; rw [← v0]; decide
    have w1 : numAt xs 4 2 = 64 := by unfold numAt; rw [← v1]; decide
    have w9 : numAt xs 32 8 = aot (takenP xs) := by
      unfold numAt
      rw [← v9, num_le _ _ (aot_bounds (takenP_ok xs hx hl)).1 (by have := (aot_bounds (takenP_ok xs hx hl)).2; have e : (256 : Int) ^ 8 = 18446744073709551616 := by decide
                                                                   omega)]
    unfold fixedP
    rw [w0, w1]
    by_cases hi : isAs (numAt xs 16 4) = true
    · simp [hi]
    · rw [ha, if_neg hi] at w9
      have := n4 32
      have : numAt xs 32 4 = 0 := by rw [e8] at w9; omega
      simp [this]
  · intro h
    unfold fixedP at h
    simp only [Bool.and_eq_true, Bool.or_eq_true, decide_eq_true_eq] at h
    obtain ⟨⟨h0, h1⟩, h9⟩ := h
    have h9' : aot (takenP xs) = numAt xs 32 8 := by
      rw [ha]
      by_cases hi : isAs (numAt xs 16 4) = true
      · rw [if_pos hi]
      · rw [if_neg hi, e8]
        rcases h9 with h9 | h9
        · exact absurd h9 hi
        · omega
    have hp := pre_taken xs hx hl 11 (by omega) (by
      rw [hvals, h9']
      exact fun j hj => eleven (p := fun j => List.getD [1112364030, 64, numAt xs 6 2, numAt xs 8 4, numAt xs 12 2, numAt xs 14 2, numAt xs 16 4, numAt xs 20 4, numAt xs 24 8, numAt xs 32 8, numAt xs 40 8] j 0 = numAt xs (offs.getD j 0) (szs.getD j 0))
        h0.symm h1.symm rfl rfl rfl rfl rfl rfl rfl rfl rfl j hj)
    unfold putH
    rw [hp, hsg]
    exact List.take_append_drop 48 xs
/-- what is put is taken again -/
theorem numAt_pre (h : Hd) (r : List Int) (j : Nat) (hj : j < 11) (h0 : 0 ≤ (vals h).getD j 0) (h1 : (vals h).getD j 0 < 256 ^ szs.getD j 0) : numAt (pre h 11 ++ r) (offs.getD j 0) (szs.getD j 0) = (vals h).getD j 0 := by
  have h3 : ∀ m k, k + m = 11 → ∃ r, pre h 11 = pre h k ++ r := by
    intro m
    induction m with
    | zero => intro k hk; exact ⟨[], by rw [List.append_nil, show k = 11 from by omega]⟩
    | succ m ih =>
      intro k hk
      obtain ⟨r, hr⟩ := ih (k + 1) (by omega)
      exact ⟨_, by rw [hr, pre, List.append_assoc]⟩
  obtain ⟨q, hq⟩ := h3 (11 - (j + 1)) (j + 1) (by omega)
  unfold numAt
  rw [hq, pre, List.append_assoc, List.append_assoc, List.drop_left' (pre_len h j (by omega)), List.take_left' (le_length _ _), num_le _ _ h0 h1]
theorem taken_put {h : Hd} (k : h.ok) (hm : mayP h = true) : takenP (putH h) = h := by
  have ab := aot_bounds k
  have e2 : (256 : Int) ^ 2 = 65536 := by decide
  have e4 : (256 : Int) ^ 4 = 4294967296 := by decide
  have e8 : (256 : Int) ^ 8 = 18446744073709551616 := by decide
  have a6 : numAt (putH h) 6 2 = h.ch := numAt_pre h h.sg 2 (by omega) k.ch.1 (by show h.ch < 256 ^ 2; have := k.ch; omega)
  have a8 : numAt (putH h) 8 4 = h.st := numAt_pre h h.sg 3 (by omega) k.st.1 (by show h.st < 256 ^ 4; have := k.st; omega)
  have a12 : numAt (putH h) 12 2 = h.cm := numAt_pre h h.sg 4 (by omega) k.cm.1 (by show h.cm < 256 ^ 2; have := k.cm; omega)
  have a14 : numAt (putH h) 14 2 = h.cr := numAt_pre h h.sg 5 (by omega) k.cr.1 (by show h.cr < 256 ^ 2; have := k.cr; omega)
  have a16 : numAt (putH h) 16 4 = h.fl := numAt_pre h h.sg 6 (by omega) k.fl.1 (by show h.fl < 256 ^ 4; have := k.fl; omega)
  have a20 : numAt (putH h) 20 4 = h.nx := numAt_pre h h.sg 7 (by omega) k.nx.1 (by show h.nx < 256 ^ 4; have := k.nx; omega)
  have a24 : numAt (putH h) 24 8 = h.id := numAt_pre h h.sg 8 (by omega) k.id.1 (by show h.id < 256 ^ 8; have := k.id; omega)
  have a32 : numAt (putH h) 32 8 = aot h := numAt_pre h h.sg 9 (by omega) ab.1 (by show aot h < 256 ^ 8; omega)
  have a40 : numAt (putH h) 40 8 = h.se := numAt_pre h h.sg 10 (by omega) k.se.1 (by show h.se < 256 ^ 8; have := k.se; omega)
  have asg : ((putH h).drop 48).take 16 = h.sg := by
    unfold putH
    rw [List.drop_left' (by rw [pre_len h 11 (by omega)]; rfl), List.take_of_length_le (by rw [k.len]; omega)]
  rw [takenP_eq, a6, a8, a12, a14, a16, a20, a24, a32, a40, asg]
  unfold mayP at hm
  simp only [Bool.and_eq_true, decide_eq_true_eq] at hm
  obtain ⟨_, _, hm⟩ := hm
  obtain ⟨ch, st, cm, cr, fl, nx, id, asy, tr, se, sg⟩ := h
  unfold aot
  have ht := k.tr
  dsimp only at hm ht ⊢
  by_cases hi : isAs fl = true
  · simp only [hi, if_true, decide_eq_true_eq] at hm ⊢
    rw [hm]
  · simp only [hi, Bool.false_eq_true, if_false, decide_eq_true_eq] at hm ⊢
    rw [hm, show tr * 4294967296 / 4294967296 = tr from by omega]
/-! ### what Get answers -/
def getErrH (xs : List Int) (a : Int) : Int := if partErr xs.length a 64 = 0 then (if headP ((xs.drop a.toNat).take 64) = true then 0 else 5) else partErr xs.length a 64
def getOfH (xs : List Int) (a : Int) : Hd := if getErrH xs a = 0 then takenP ((xs.drop a.toNat).take 64) else zeroHd
theorem headP_put {h : Hd} (k : h.ok) (hm : mayP h = true) : headP (putH h) = true := by
  unfold headP
  rw [taken_put k hm, hm, ← put_taken _ (putH_bytes k.byte) (putH_len k.len), taken_put k hm]
  simp
/-- bytes that are a head's are put again as they were -/
theorem put_of_headP {xs : List Int} (hx : Bytes xs) (hl : xs.length = 64) (h : headP xs = true) : putH (takenP xs) = xs ∧ mayP (takenP xs) = true := by
  unfold headP at h
  rw [← put_taken xs hx hl, Bool.and_eq_true, decide_eq_true_eq] at h
  exact h
theorem part_room {n : Nat} {a : Int} (h : partErr n a 64 = 0) : 0 ≤ a ∧ a.toNat + 64 ≤ n := by
  unfold partErr at h
  by_cases g1 : a < 0 ∨ (n : Int) < a ∨ (64 : Int) < 0
  · rw [if_pos g1] at h; omega
  · by_cases g2 : (n : Int) - a < 64
    · rw [if_neg g1, if_pos g2] at h; omega
    · omega
theorem getOfH_ok (xs : List Int) (a : Int) (hx : Bytes xs) : (getOfH xs a).ok := by
  unfold getOfH
  split
  · rename_i h
    have hp : partErr xs.length a 64 = 0 := by
      unfold getErrH at h
      by_cases hp : partErr xs.length a 64 = 0
      · exact hp
      · rw [if_neg hp] at h; exact h
    have := part_room hp
    exact takenP_ok _ ((hx.drop _).take _) (by simp; omega)
  · exact zeroHd_ok
/-- what Put answered, anywhere, is got -/
theorem get_put {h : Hd} (k : h.ok) (hm : mayP h = true) (x z : List Int) : getErrH (x ++ putH h ++ z) x.length = 0 ∧ getOfH (x ++ putH h ++ z) x.length = h := by
  have hl := putH_len k.len
  have hp : partErr (x ++ putH h ++ z).length x.length 64 = 0 := by
    unfold partErr
    rw [if_neg (by simp; omega), if_neg (by simp; omega)]
  have hd : ((x ++ putH h ++ z).drop (Int.toNat x.length)).take 64 = putH h := by
    rw [Int.toNat_natCast, List.append_assoc, List.drop_left, List.take_left' hl]
  have he : getErrH (x ++ putH h ++ z) x.length = 0 := by
    unfold getErrH
    rw [if_pos hp, hd, headP_put k hm, if_pos rfl]
  refine ⟨he, ?_⟩
  unfold getOfH
  rw [if_pos he, hd, taken_put k hm]
end Go.Proofs.YtgfflnjggnadpaaDoor

namespace Go.Proofs.YtgfflnjggnadpaaDoor
set_option linter.all false
set_option maxRecDepth 100000
open Go.RowKit
/-- each number is one of 32 bits -/
def W32 (xs : List Int) : Prop := ∀ x ∈ xs, 0 ≤ x ∧ x ≤ 4294967295
theorem W32.nil : W32 [] := fun _ h => by cases h
theorem W32.append {xs ys : List Int} (h : W32 xs) (k : W32 ys) : W32 (xs ++ ys) := fun x hx => by
  rcases List.mem_append.1 hx with h1 | h1
  · exact h x h1
  · exact k x h1
theorem W32.zeros (n : Nat) : W32 (List.replicate n 0) := fun x hx => by
  rw [List.eq_of_mem_replicate hx]
  omega
theorem W32.getD {xs : List Int} (h : W32 xs) (i : Nat) : 0 ≤ xs.getD i 0 ∧ xs.getD i 0 ≤ 4294967295 := by
  by_cases hi : i < xs.length
  · rw [List.getD_eq_getElem?_getD, List.getElem?_eq_getElem hi]
    exact h _ (List.getElem_mem hi)
  · rw [List.getD_eq_getElem?_getD, List.getElem?_eq_none (by omega)]
    simp
theorem W32.take {xs : List Int} (h : W32 xs) (k : Nat) : W32 (xs.take k) := fun x hx => h x (List.mem_of_mem_take hx)
theorem wf32 {x : Int} (h : (Lit.int .u32 x).wf = true) : 0 ≤ x ∧ x ≤ 4294967295 := by simpa [Lit.wf, IntKind.min, IntKind.max, IntKind.signed, IntKind.bits] using h
theorem bits32 (op : BinOp) (x y : Int) : 0 ≤ bits op .u32 x y ∧ bits op .u32 x y ≤ 4294967295 := wf32 (wf_bits op .u32 x y)
/-- x turned down by n -/
def rot (x : Int) (n : Nat) : Int := bits .or .u32 (x / 2 ^ n) (IntKind.u32.wrap (x * 2 ^ (32 - n)))
def rots (x : Int) (i j k : Nat) : Int := bits .xor .u32 (bits .xor .u32 (rot x i) (rot x j)) (rot x k)
def sig0 (x : Int) : Int := bits .xor .u32 (bits .xor .u32 (rot x 7) (rot x 18)) (x / 8)
def sig1 (x : Int) : Int := bits .xor .u32 (bits .xor .u32 (rot x 17) (rot x 19)) (x / 1024)
/-! ### the words of a block -/

/-- the number of bytes, the highest first -/
def beOf (xs : List Int) : Int := xs.foldl (fun z x => z * 256 + x) 0
theorem beOf_snoc (xs : List Int) (x : Int) : beOf (xs ++ [x]) = beOf xs * 256 + x := by simp [beOf]
theorem beOf_bounds (xs : List Int) (h : Bytes xs) : 0 ≤ beOf xs ∧ beOf xs < 256 ^ xs.length := by
  have key : ∀ n, ∀ xs : List Int, xs.length = n → Bytes xs → 0 ≤ beOf xs ∧ beOf xs < 256 ^ xs.length := by
    intro n
    induction n with
    | zero =>
      intro xs hl _
      obtain rfl := List.eq_nil_of_length_eq_zero hl
      simp [beOf]
    | succ n ih =>
      intro xs hl hb
      have hne : xs ≠ [] := by rintro rfl; cases hl
      rw [← List.dropLast_concat_getLast hne] at hb ⊢
      have h1 := ih xs.dropLast (by simp [hl]) (fun y hy => hb y (List.mem_append_left _ hy))
      have h2 := hb (xs.getLast hne) (List.mem_append_right _ List.mem_cons_self)
      rw [beOf_snoc, List.length_append, List.length_singleton, Int.pow_succ]
      omega
  exact key _ xs rfl h
/-- word j of a block -/
def word (xs : List Int) (j : Nat) : Int := beOf ((xs.drop (4 * j)).take 4)
def words16 (xs : List Int) : List Int := (List.range 16).map (word xs)
theorem word_bounds (xs : List Int) (h : Bytes xs) (j : Nat) : 0 ≤ word xs j ∧ word xs j ≤ 4294967295 := by
  have h1 := beOf_bounds _ ((h.drop (4 * j)).take 4)
  unfold word
  have h3 : ((xs.drop (4 * j)).take 4).length ≤ 4 := by simp; omega
  have h4 : (256 : Int) ^ ((xs.drop (4 * j)).take 4).length ≤ 4294967296 := by
    generalize ((xs.drop (4 * j)).take 4).length = n at h3 ⊢
    have : n = 0 ∨ n = 1 ∨ n = 2 ∨ n = 3 ∨ n = 4 := by omega
    rcases this with rfl | rfl | rfl | rfl | rfl <;> decide
  omega
theorem words16_len (xs : List Int) : (words16 xs).length = 16 := by simp [words16]
theorem words16_w (xs : List Int) (h : Bytes xs) : W32 (words16 xs) := fun x hx => by
  obtain ⟨j, _, rfl⟩ := List.mem_map.1 hx
  exact word_bounds xs h j
/-- the row that the program fills, behind k of the 64 bytes -/
def partRow (xs : List Int) (k : Nat) : List Int := (List.range 64).map fun j => word (xs.take k) j
theorem partRow_len (xs : List Int) (k : Nat) : (partRow xs k).length = 64 := by simp [partRow]
theorem partRow_getD (xs : List Int) (k j : Nat) (hj : j < 64) : (partRow xs k).getD j 0 = word (xs.take k) j := by
  simp [partRow, hj]
theorem partRow_zero (xs : List Int) : partRow xs 0 = List.replicate 64 0 := by
  apply List.ext_getElem
  · simp [partRow]
  · intro i h1 h2
    rw [List.getElem_replicate]
    simp [partRow, word, beOf]
theorem word_step (xs : List Int) (k : Nat) (hk : k < xs.length) : word (xs.take (k + 1)) (k / 4) = word (xs.take k) (k / 4) * 256 + xs.getD k 0 := by
  unfold word
  have e1 : xs.take (k + 1) = xs.take k ++ [xs[k]] := List.take_succ_eq_append_getElem hk
  have hl : (xs.take k).length = k := by simp; omega
  have e2 : ((xs.take k ++ [xs[k]]).drop (4 * (k / 4))).take 4 = ((xs.take k).drop (4 * (k / 4))).take 4 ++ [xs[k]] := by
    rw [List.drop_append_of_le_length (by rw [hl]; omega)]
    rw [List.take_of_length_le (l := (xs.take k).drop (4 * (k / 4)) ++ [xs[k]]) (by rw [List.length_append, List.length_drop, hl, List.length_singleton]; omega), List.take_of_length_le (l := (xs.take k).drop (4 * (k / 4))) (by rw [List.length_drop, hl]; omega)]
  have e3 : xs.getD k 0 = xs[k] := by simp [hk]
  rw [e1, e2, beOf_snoc, e3]
theorem word_other (xs : List Int) (k j : Nat) (hk : k < xs.length) (hj : j ≠ k / 4) : word (xs.take (k + 1)) j = word (xs.take k) j := by
  unfold word
  have e1 : xs.take (k + 1) = xs.take k ++ [xs[k]] := List.take_succ_eq_append_getElem hk
  have hl : (xs.take k).length = k := by simp; omega
  rw [e1]
  by_cases h : j < k / 4
  · rw [List.drop_append_of_le_length (by rw [hl]; omega), List.take_append_of_le_length (by simp; omega)]
  · rw [List.drop_of_length_le (l := xs.take k) (by rw [hl]; omega), List.drop_of_length_le (by simp; omega)]
theorem partRow_set (xs : List Int) (k : Nat) (hk : k < xs.length) : (partRow xs k).set (k / 4) (word (xs.take k) (k / 4) * 256 + xs.getD k 0) = partRow xs (k + 1) := by
  apply List.ext_getElem
  · simp [partRow]
  · intro i h1 h2
    rw [List.getElem_set]
    have hi : i < 64 := by rw [partRow_len] at h2; exact h2
    by_cases h : k / 4 = i
    · rw [if_pos h, ← word_step xs k hk]
      subst h
      simp [partRow]
    · rw [if_neg h]
      simp [partRow]
      exact (word_other xs k i hk (fun e => h e.symm)).symm
theorem partRow_full (xs : List Int) (h64 : xs.length = 64) : partRow xs 64 = words16 xs ++ List.replicate 48 0 := by
  apply List.ext_getElem
  · simp [partRow, words16]
  · intro i h1 h2
    have hi : i < 64 := by rw [partRow_len] at h1; exact h1
    have e : xs.take 64 = xs := List.take_of_length_le (by omega)
    by_cases h : i < 16
    · rw [List.getElem_append_left (by rw [words16_len]; exact h)]
      simp [partRow, words16, e]
    · rw [List.getElem_append_right (by rw [words16_len]; omega), List.getElem_replicate]
      simp [partRow, e]
      unfold word
      rw [List.drop_of_length_le (by omega)]
      rfl
/-- w(t), of those ahead of it -/
def nextW (l : List Int) (t : Nat) : Int := IntKind.u32.wrap (IntKind.u32.wrap (IntKind.u32.wrap (sig1 (l.getD (t - 2) 0) + l.getD (t - 7) 0) + sig0 (l.getD (t - 15) 0)) + l.getD (t - 16) 0)
/-- the sixteen words and n more -/
def extW (l : List Int) : Nat → List Int
  | 0 => l
  | n + 1 => extW l n ++ [nextW (extW l n) (16 + n)]
def sched (xs : List Int) : List Int := extW (words16 xs) 48
theorem extW_len (l : List Int) (n : Nat) : (extW l n).length = l.length + n := by
  induction n with
  | zero => rfl
  | succ n ih => simp [extW, ih]; omega
theorem wrap32_bounds (x : Int) : 0 ≤ IntKind.u32.wrap x ∧ IntKind.u32.wrap x ≤ 4294967295 := by rw [IntKind.wrap_u32']; omega
theorem extW_w (l : List Int) (h : W32 l) (n : Nat) : W32 (extW l n) := by
  induction n with
  | zero => exact h
  | succ n ih =>
    refine ih.append fun x hx => ?_
    rcases List.mem_singleton.1 hx with rfl
    exact wrap32_bounds _
theorem sched_len (xs : List Int) : (sched xs).length = 64 := by rw [sched, extW_len, words16_len]
theorem sched_w (xs : List Int) (h : Bytes xs) : W32 (sched xs) := extW_w _ (words16_w xs h) 48
/-- the row in which the words are laid, behind t of them -/
def schedRow (xs : List Int) (n : Nat) : List Int := extW (words16 xs) n ++ List.replicate (48 - n) 0
theorem schedRow_len (xs : List Int) (n : Nat) (hn : n ≤ 48) : (schedRow xs n).length = 64 := by simp [schedRow, extW_len, words16_len]; omega
theorem schedRow_getD (xs : List Int) (n i : Nat) (hi : i < 16 + n) : (schedRow xs n).getD i 0 = (extW (words16 xs) n).getD i 0 := by
  have hl : i < (extW (words16 xs) n).length := by rw [extW_len, words16_len]; omega
  unfold schedRow
  rw [List.getD_eq_getElem?_getD, List.getD_eq_getElem?_getD, List.getElem?_append_left hl]
theorem schedRow_w (xs : List Int) (h : Bytes xs) (n : Nat) : W32 (schedRow xs n) := (extW_w _ (words16_w xs h) n).append (W32.zeros _)
theorem fill_set (l : List Int) (m t : Nat) (x : Int) (ht : l.length = t) (hm : 0 < m) : (l ++ List.replicate m 0).set t x = (l ++ [x]) ++ List.replicate (m - 1) 0 := by
  rw [List.set_append_right _ _ (by omega), ht, Nat.sub_self, show m = (m - 1) + 1 from by omega, List.replicate_succ, List.set_cons_zero, List.append_assoc, Nat.add_sub_cancel]
  rfl
theorem schedRow_set (xs : List Int) (n : Nat) (hn : n < 48) (x : Int) (hx : x = nextW (schedRow xs n) (16 + n)) : (schedRow xs n).set (16 + n) x = schedRow xs (n + 1) := by
  have e : nextW (schedRow xs n) (16 + n) = nextW (extW (words16 xs) n) (16 + n) := by
    unfold nextW
    rw [schedRow_getD xs n _ (by omega), schedRow_getD xs n _ (by omega), schedRow_getD xs n _ (by omega), schedRow_getD xs n _ (by omega)]
  rw [hx, e]
  unfold schedRow
  rw [fill_set _ _ _ _ (by rw [extW_len, words16_len]) (by omega)]
  simp only [extW]
  rw [show 48 - n - 1 = 48 - (n + 1) from by omega]
/-! ### bits that do not meet -/
theorem or_low32 (i : Nat) (x y : Int) (hx0 : 0 ≤ x) (hx : x ≤ 4294967295) (hd : x % 2 ^ i = 0) (hy0 : 0 ≤ y) (hy : y < 2 ^ i) (hi : y ≤ 4294967295) : bits .or .u32 x y = x + y := by
  obtain ⟨a, rfl⟩ := Int.eq_ofNat_of_zero_le hx0
  obtain ⟨b, rfl⟩ := Int.eq_ofNat_of_zero_le hy0
  have e : ((2 : Int) ^ i) = ((2 ^ i : Nat) : Int) := by rw [Int.natCast_pow]; rfl
  rw [e] at hd hy
  rw [u32_or_nat a b (by omega) (by omega), nat_join i a b (by omega) (by omega)]
  omega
/-- one byte more of a word -/
theorem or_byte32 (z y : Int) (hz0 : 0 ≤ z) (hz : z < 16777216) (hy0 : 0 ≤ y) (hy : y ≤ 255) : bits .or .u32 (z * 256) y = z * 256 + y :=
  or_low32 8 (z * 256) y (by omega) (by omega) (by omega) hy0 (by omega) (by omega)
theorem word_small (xs : List Int) (h : Bytes xs) (k : Nat) (hk : k < xs.length) : 0 ≤ word (xs.take k) (k / 4) ∧ word (xs.take k) (k / 4) < 16777216 := by
  have h1 := beOf_bounds _ (((h.take k).drop (4 * (k / 4))).take 4)
  unfold word
  have h3 : (((xs.take k).drop (4 * (k / 4))).take 4).length ≤ 3 := by simp; omega
  have h4 : (256 : Int) ^ (((xs.take k).drop (4 * (k / 4))).take 4).length ≤ 16777216 := by
    generalize (((xs.take k).drop (4 * (k / 4))).take 4).length = n at h3 ⊢
    have : n = 0 ∨ n = 1 ∨ n = 2 ∨ n = 3 := by omega
    rcases this with rfl | rfl | rfl | rfl <;> decide
  omega
end Go.Proofs.YtgfflnjggnadpaaDoor

namespace Go.Proofs.YtgfflnjggnadpaaDoor
set_option linter.all false
set_option maxRecDepth 100000
open Go.RowKit
theorem rots_bounds (x : Int) (i j k : Nat) : 0 ≤ rots x i j k ∧ rots x i j k ≤ 4294967295 := bits32 _ _ _
set_option maxHeartbeats 400000 in
theorem turn_any (w : World) (x : Int) (n : Nat) (h : 0 ≤ x ∧ x ≤ 4294967295) (hn : n ≤ 32) :
    Calls Tryd.prog 102 #[.int .u32 x, .int .u64 n] w fun e w' => e = .returned (.int .u32 (rot x n)) ∧ w = w' := by
  obtain ⟨h0, h1⟩ := h
  go_enter Tryd.func102, Tryd.ntmps102
  go_wp2
  go_ret
  exact ⟨rfl, rfl⟩
set_option maxHeartbeats 400000 in
theorem turns_any (w : World) (x : Int) (i j k : Nat) (h : 0 ≤ x ∧ x ≤ 4294967295) (hi : i ≤ 32) (hj : j ≤ 32) (hk : k ≤ 32) :
    Calls Tryd.prog 101 #[.int .u32 x, .int .u64 i, .int .u64 j, .int .u64 k] w fun e w' => e = .returned (.int .u32 (rots x i j k)) ∧ w = w' := by
  have c1 := fun w => Lib.hid (turn_any w x i h hi)
  have c2 := fun w => Lib.hid (turn_any w x j h hj)
  have c3 := fun w => Lib.hid (turn_any w x k h hk)
  obtain ⟨h0, h1⟩ := h
  go_enter Tryd.func101, Tryd.ntmps101
  go_wp2_with fail
  refine (c1 _).out.mono ?_
  rintro e w' ⟨rfl, rfl⟩
  go_wp2_with fail
  refine (c2 _).out.mono ?_
  rintro e w' ⟨rfl, rfl⟩
  go_wp2_with fail
  refine (c3 _).out.mono ?_
  rintro e w' ⟨rfl, rfl⟩
  go_wp2
  go_ret
  exact ⟨rfl, rfl⟩
end Go.Proofs.YtgfflnjggnadpaaDoor

namespace Go.Proofs.YtgfflnjggnadpaaDoor
set_option linter.all false
open Go.RowKit
/-- block g is a whole row of bytes, none frozen -/
def Row (w : World) (g : Nat) (xs : List Int) : Prop := w.heap[g]? = some (.cells (xs.map (Value.int .u8)).toArray 5 (0, 0))
/-- the slice '.slice A n n' is nil, or the whole of a row in a block from 'base' on -/
def Fresh (w : World) (base : Nat) (A : Option Addr) (xs : List Int) : Prop := (A = none ∧ xs = []) ∨ ∃ g, A = some ⟨g, 0, none⟩ ∧ base ≤ g ∧ Row w g xs
section
variable {w w' : World} {g B base : Nat} {xs : List Int}
theorem Row.lt (h : Row w g xs) : g < w.heap.size := (Array.getElem?_eq_some_iff.1 h).1
theorem Row.cell (h : Row w g xs) {i : Nat} (hi : i < xs.length) : w.cell? ⟨g, i, none⟩ = some (.int .u8 (xs.getD i 0)) := by
  rw [cell_of_row w g i _ 5 (0, 0) h]
  simp [hi]
theorem Row.frozen (h : Row w g xs) (i : Nat) : w.frozen? ⟨g, i, none⟩ = false := frozen_of_row w g i _ 5 h
theorem Row.below (h : Row w g xs) (hb : Below B w w') (hg : g < B) : Row w' g xs := (hb.block g hg).trans h
theorem Row.set (h : Row w g xs) (i : Nat) (u : Int) : Row (w.setCell ⟨g, i, none⟩ (.int .u8 u)) g (xs.set i u) := by
  have h1 := heap_setCell_same w g i _ 5 (.int .u8 u) h
  unfold Row
  rw [h1]
  simp [List.map_set]
theorem Row.drewN (h : Row w g xs) (k : Nat) : Row (w.drewN k) g xs := h
theorem Fresh.holds {A : Option Addr} {n : Nat} (h : Fresh w base A xs) (hn : xs.length = n) (hx : Bytes xs) (hc : n ≤ 281474976710656) : Holds w w.heap.size A n n xs := by
  refine ⟨hn, Nat.le_refl _, hc, hx, fun hA => ?_, fun h0 => ?_⟩
  · rcases h with ⟨_, rfl⟩ | ⟨g, rfl, _, hr⟩
    · exact hn.symm
    · cases hA
  rcases h with ⟨_, rfl⟩ | ⟨g, rfl, _, hr⟩
  · simp at hn; omega
  · exact ⟨g, 0, rfl, hr.lt, fun i hi => by rw [Nat.zero_add]; exact hr.cell (by omega)⟩
theorem Fresh.keep {A : Option Addr} {row : Option Nat} (h : Fresh w base A xs) (hg : w.grownBy w' row) (hr : ∀ k, row = some k → k < base) : Fresh w' base A xs := by
  rcases h with h | ⟨g, rfl, hb, hrow⟩
  · exact .inl h
  · exact .inr ⟨g, rfl, hb, (hg.block g hrow.lt (fun e => by have := hr g e.symm; omega)).trans hrow⟩
theorem Fresh.len0 {A : Option Addr} (h : Fresh w base A xs) (hA : A = none) : xs = [] := by
  rcases h with ⟨_, h⟩ | ⟨g, rfl, _⟩
  · exact h
  · cases hA
theorem Fresh.below {A : Option Addr} (h : Fresh w base A xs) (hb : Below w.heap.size w w') : Fresh w' base A xs := by
  rcases h with h | ⟨g, rfl, hg, hr⟩
  · exact .inl h
  · exact .inr ⟨g, rfl, hg, hr.below hb hr.lt⟩
end
theorem info_u8 : (Tryd.prog.info? 5).map (fun i => (i.zero, i.size, i.bytes)) = some (some (.int .u8 0), 1, 1) := by kernel_rfl
/-- make([]byte, n) -/
theorem wpList_make_bytes (w : World) {ops : Array Oper} {rest : List Oper} {o : Oper} {a : Act} {Q : Exit → Act → World → Prop}
    (hg : o.guard = none) (l c : Operand) (hop : o.op = Op.makeSlice 24 l c) (L C : Int) (n : Nat) (hl : a.eval l = .int .i64 L) (hc : a.eval c = .int .i64 C) (hL : L = (n : Int)) (hC : C = (n : Int)) (hn : n ≤ 281474976710656)
    (hK : ∀ w', Hid (Row w' w.heap.size (List.replicate n 0)) → Below w.heap.size w w' → wpList Tryd.prog ops Q rest (a.put o.dst (.slice (some ⟨w.heap.size, 0, none⟩) n n)) w') :
    wpList Tryd.prog ops Q (o :: rest) a w := by
  obtain ⟨i0, hi, hz0, hz1, hz2⟩ := info_parts info_u8
  refine wpList_make_full w hg l c 24 hop w.heap.size 5 i0 (.int .u8 0) 1 Tryd.underlying24 hi hz0 hz1 .i64 .i64 L C n hl hc hL hC (by rw [hz2]; omega) (by unfold maxLen; omega) (Nat.le_refl _) ?_
  intro w' hown hgr
  refine hK w' ?_ ((Below.refl _ _).grown hgr (Nat.le_refl _) (fun k hk => by cases hk))
  rcases hown.2 with ⟨h0, _⟩ | ⟨g, cap, cur, hv, _, hh, _, _, hcs, htk⟩
  · cases h0
  · simp only [Value.slice.injEq, Option.some.injEq, Addr.mk.injEq, and_true, true_and] at hv
    obtain ⟨rfl, rfl⟩ := hv
    show w'.heap[_]? = _
    rw [hh]
    have e : cur.toList = List.replicate n (.int .u8 0) := by
      have h1 : cur.toList.take (n * 1) = cur.toList := List.take_of_length_le (by simp [hcs])
      rw [← h1, htk]
      rw [Nat.mul_one]
      exact toList_madeCells_one (.int .u8 0) n
    rw [List.map_replicate, ← e]
/-- copy(dst, src), dst the head of a made row, all of src fitting in -/
theorem wpList_copy_bytes {w : World} {ops : Array Oper} {rest : List Oper} {o : Oper} {a : Act} {Q : Exit → Act → World → Prop} (hgd : o.guard = none) (d s : Operand)
    (ho : o.op = .call { callee := .builtin .copy, args := #[d, s], argTypes := #[24, 24] })
    (g dLen dCap n c : Nat) (A : Option Addr) (hd : a.eval d = .slice (some ⟨g, 0, none⟩) dLen dCap) (hs : a.eval s = .slice A n c)
    (cur xs : List Int) (B : Nat) (hrow : Hid (Row w g cur)) (hx : Holds w B A n c xs) (hn : n ≤ dLen) (hfit : n ≤ cur.length)
    (h : ∀ w', Hid (Row w' g (xs ++ cur.drop n)) → Below g w w' → wpList Tryd.prog ops Q rest (a.put o.dst (goInt n)) w') :
    wpList Tryd.prog ops Q (o :: rest) a w := by
  have hl := hx.len
  obtain ⟨i0, hi, hz0, hz1, hz2⟩ := info_parts info_u8
  refine wpList_copy_splice hgd d s 24 24 ho 5 Tryd.underlying24 (by rw [hi]; simp [hz1]) (some ⟨g, 0, none⟩) A dLen dCap n c hd hs g 0 (cur.map (Value.int .u8)) 5 hrow.out (xs.map (Value.int .u8)) (by rw [List.length_map, hl]; exact (Nat.min_eq_left hn).symm) ?_ (by simp; omega)
    (by intro v hv; obtain ⟨x, _, rfl⟩ := List.mem_map.1 hv; rfl) g w (Below.refl _ _) (Nat.le_refl _) ?_
  · intro h0
    refine ⟨rfl, ?_⟩
    obtain ⟨b, off, rfl, _, hc⟩ := hx.cells (by simp at h0; omega)
    refine ⟨⟨b, off, none⟩, rfl, fun j v hj => ?_⟩
    have hjl : j < xs.length := by
      by_cases hj' : j < xs.length
      · exact hj'
      · rw [List.getElem?_eq_none (by simp; omega)] at hj
        cases hj
    have e : (⟨b, off, none⟩ : Addr).add j = ⟨b, off + j, none⟩ := by
      by_cases hj0 : j = 0
      · subst hj0; simp [Addr.add]
      · simp [Addr.add, hj0]
    rw [e, hc j (by omega), ← hj]
    simp [hjl]
  · intro w' hr hb
    have e : (splice (cur.map (Value.int .u8)) 0 (xs.map (Value.int .u8))) = (xs ++ cur.drop n).map (Value.int .u8) := by
      simp [splice, hl]
    have hr' := hr.out
    rw [e] at hr'
    rw [List.length_map, hl] at *
    exact h w' hr' hb
/-! ### append onto a row of the call's own -/

/-- the slice value v is nil, or heads a row in a block from 'base' on that begins with the bytes xs (and may have room behind them) -/
def Own (w : World) (base : Nat) (v : Value) (xs : List Int) : Prop := w.ownsRow base 5 1 v xs.length (xs.map (Value.int .u8))
theorem Own.nil (w : World) (base : Nat) : Own w base (.slice none 0 0) [] := World.ownsRow_nil w base 5 1
theorem Own.holds {w : World} {base : Nat} {v : Value} {xs : List Int} (h : Own w base v xs) (hx : Bytes xs) (hn : xs.length ≤ 281474976710656) :
    ∃ A c, v = .slice A xs.length c ∧ Holds w w.heap.size A xs.length c xs := by
  rcases h.2 with ⟨rfl, h0⟩ | ⟨g, cap, cur, rfl, hb, hg, hnc, hcm, hcs, htk⟩
  · have : xs = [] := List.eq_nil_of_length_eq_zero h0
    subst this
    exact ⟨none, 0, rfl, Holds.nil _ _⟩
  · refine ⟨_, _, rfl, rfl, hnc, hn, hx, fun hA => (by cases hA), fun h0 => ⟨g, 0, rfl, (Array.getElem?_eq_some_iff.1 hg).1, fun i hi => ?_⟩⟩
    rw [Nat.zero_add, cell_of_row w g i cur 5 (0, 0) hg]
    have e : cur[i]? = (cur.toList.take (xs.length * 1))[i]? := by
      rw [List.getElem?_take, if_pos (by omega), Array.getElem?_toList]
    rw [e, htk]
    simp [hi]
theorem Own.below {w w' : World} {base : Nat} {v : Value} {xs : List Int} (h : Own w base v xs) (hb : Below w.heap.size w w') : Own w' base v xs := by
  refine ⟨h.1, ?_⟩
  rcases h.2 with h0 | ⟨g, cap, cur, rfl, h1, hg, rest⟩
  · exact .inl h0
  · exact .inr ⟨g, cap, cur, rfl, h1, (hb.block g (Array.getElem?_eq_some_iff.1 hg).1).trans hg, rest⟩
theorem Own.mono {w : World} {base base' : Nat} {v : Value} {xs : List Int} (h : Own w base v xs) (hb : base' ≤ base) : Own w base' v xs := by
  refine ⟨h.1, ?_⟩
  rcases h.2 with h0 | ⟨g, cap, cur, rfl, h1, rest⟩
  · exact .inl h0
  · exact .inr ⟨g, cap, cur, rfl, by omega, rest⟩
theorem Own.alloc {w : World} {base : Nat} {v : Value} {xs : List Int} (h : Own w base v xs) (o : Obj) : Own (w.alloc o) base v xs := World.ownsRow.alloc h o
/-- a byte that is laid in a block of its own, to be appended -/
theorem Holds.single (w : World) (x : Int) (h : 0 ≤ x ∧ x ≤ 255) : Holds (w.alloc (.cells #[.int .u8 x] 5)) (w.heap.size + 1) (some ⟨w.heap.size, 0, none⟩) 1 1 [x] := by
  refine ⟨rfl, Nat.le_refl _, by omega, fun y hy => ?_, fun hA => (by cases hA), fun _ => ⟨w.heap.size, 0, rfl, by omega, fun i hi => ?_⟩⟩
  · rcases List.mem_singleton.1 hy with rfl
    exact h
  · obtain rfl : i = 0 := by omega
    simp
/-- a block of bytes that has just been laid (a literal; a boxed array), as the walk spells it -/
theorem Holds.lit (w : World) (xs : List Int) (cs : Array Value) (S n : Nat) (hcs : cs = (xs.map (Value.int .u8)).toArray) (hS : w.heap.size = S) (hl : xs.length = n) (hx : Bytes xs) (hn : n ≤ 281474976710656) (T : TypeId := 5) :
    Holds (w.alloc (.cells cs T)) (S + 1) (some ⟨S, 0, none⟩) n n xs := by
  subst hcs
  subst hS
  subst hl
  exact ⟨rfl, Nat.le_refl _, hn, hx, fun hA => (by cases hA), fun _ => ⟨w.heap.size, 0, rfl, by omega, fun i hi => by
    have hr : (w.alloc (.cells (xs.map (Value.int .u8)).toArray T)).heap[w.heap.size]? = some (.cells (xs.map (Value.int .u8)).toArray T (0, 0)) := heap_alloc_new w _
    rw [Nat.zero_add, cell_of_row _ w.heap.size i _ T (0, 0) hr]
    simp [hi]⟩⟩
theorem Own.len {w : World} {base : Nat} {v : Value} {xs : List Int} (h : Own w base v xs) : ∃ A c, v = .slice A xs.length c := by
  rcases h.2 with ⟨rfl, h0⟩ | ⟨g, cap, cur, rfl, _⟩
  · exact ⟨none, 0, by rw [h0]⟩
  · exact ⟨_, _, rfl⟩
theorem Fresh.own {w : World} {base n : Nat} {A : Option Addr} {xs : List Int} (h : Fresh w base A xs) (hn : xs.length = n) (hc : n ≤ 281474976710656) : Own w base (.slice A n n) xs := by
  refine ⟨by simp, ?_⟩
  rcases h with ⟨rfl, rfl⟩ | ⟨g, rfl, hg, hr⟩
  · obtain rfl : n = 0 := by simpa using hn.symm
    exact .inl ⟨rfl, rfl⟩
  · subst hn
    exact .inr ⟨g, xs.length, _, rfl, hg, hr, Nat.le_refl _, by unfold maxLen; omega, by simp, by rw [List.take_of_length_le (by simp)]⟩
/-- append(out, src...), out the call's own, src whatever reads as bytes -/
theorem wpList_append_bytes {w : World} {ops : Array Oper} {rest : List Oper} {o : Oper} {a : Act} {Q : Exit → Act → World → Prop} (hgd : o.guard = none) (s x : Operand)
    (ho : o.op = .call { callee := .builtin .append, args := #[s, x], argTypes := #[24, 24] })
    (base : Nat) (v : Value) (xs : List Int) (hs : a.eval s = v) (hown : Own w base v xs) (B : Nat) (A : Option Addr) (m c : Nat) (ys : List Int) (hx : a.eval x = .slice A m c)
    (hr : Holds w B A m c ys) (hlen : xs.length + ys.length ≤ 140737488355328) (hbase : base ≤ w.heap.size)
    (h : ∀ v' w', Hid (Own w' base v' (xs ++ ys)) → Below base w w' → w.grownBy w' v.ownBlock → wpList Tryd.prog ops Q rest (a.put o.dst v') w') :
    wpList Tryd.prog ops Q (o :: rest) a w := by
  obtain ⟨i0, hi, hz0, hz1, hz2⟩ := info_parts info_u8
  have hl := hr.len
  rcases A with _ | ad
  · have hc := hr.bare rfl
    have hf := hr.fit
    have hm : m = 0 := by omega
    subst hm
    subst hc
    have : ys = [] := List.eq_nil_of_length_eq_zero hl
    subst this
    refine wpList_append_own_none hgd s x 24 ho base 5 i0 1 Tryd.underlying24 hi v xs.length _ hs hown hx ?_
    exact h v w (by rw [List.append_nil]; exact hown) (Below.refl _ _) (World.grownBy.refl w _)
  · refine wpList_append_own w hgd s x 24 ho base 5 i0 (.int .u8 0) 1 1 Tryd.underlying24 hi hz0 hz1 hz2 rfl (by omega) v xs.length _ hs hown ad m c (ys.map (Value.int .u8)) hx (by simp [hl]) ?_
      (by intro v hv; obtain ⟨x, _, rfl⟩ := List.mem_map.1 hv; rfl) (by unfold maxLen; omega) (by omega) hbase ?_
    · intro j u hj
      have hjl : j < ys.length := by
        by_cases hj' : j < ys.length
        · exact hj'
        · rw [List.getElem?_eq_none (by simp; omega)] at hj
          cases hj
      obtain ⟨b, off, he, _, hcl⟩ := hr.cells (by omega)
      obtain rfl := Option.some.inj he
      have e : (⟨b, off, none⟩ : Addr).add j = ⟨b, off + j, none⟩ := by
        by_cases hj0 : j = 0
        · subst hj0; simp [Addr.add]
        · simp [Addr.add, hj0]
      rw [e, hcl j (by omega), ← hj]
      simp [hjl]
    · intro v' w' hown' hgr _
      refine h v' w' ?_ ((Below.refl _ _).grown hgr hbase (fun k hk => (hown.lt k hk).1)) hgr
      show World.ownsRow _ _ _ _ _ _ _
      rw [List.length_append, List.map_append, hl]
      exact hown'
end Go.Proofs.YtgfflnjggnadpaaDoor

namespace Go.Proofs.YtgfflnjggnadpaaDoor
set_option linter.all false
open Go.RowKit
/-- block g is an array of numbers of kind k (or a row), none frozen -/
def Arr (w : World) (g : Nat) (k : IntKind) (T : TypeId) (xs : List Int) : Prop := w.heap[g]? = some (.cells (xs.map (Value.int k)).toArray T (0, 0))
/-- nothing but block g may have turned -/
structure Only (g : Nat) (w w' : World) : Prop where
  os : w'.os = w.os
  tape : w'.tape = w.tape
  output : w'.output = w.output
  size : w'.heap.size = w.heap.size
  rest : ∀ j, j ≠ g → w'.heap[j]? = w.heap[j]?
section
variable {w w' w2 : World} {g h B : Nat} {k k' : IntKind} {T T' : TypeId} {xs ys : List Int}
theorem Only.refl (g : Nat) (w : World) : Only g w w := ⟨rfl, rfl, rfl, rfl, fun _ _ => rfl⟩
theorem Only.trans (a : Only g w w') (b : Only g w' w2) : Only g w w2 := ⟨b.os.trans a.os, b.tape.trans a.tape, b.output.trans a.output, b.size.trans a.size, fun j hj => (b.rest j hj).trans (a.rest j hj)⟩
theorem Only.setCell (a : Only g w w') (i : Nat) (v : Value) : Only g w (w'.setCell ⟨g, i, none⟩ v) :=
  a.trans ⟨rfl, rfl, rfl, by simp, fun j hj => Below.heap_setCell _ _ _ _ hj⟩
theorem Only.setRow (a : Only g w w') (cs : Array Value) : Only g w (w'.setRow g cs) :=
  a.trans ⟨rfl, rfl, rfl, by simp, fun j hj => setRow_other _ _ _ _ hj⟩
theorem Only.drewN (a : Only g w w') (n : Nat) : Only g w (w'.drewN n) := a.trans ⟨rfl, rfl, rfl, rfl, fun _ _ => rfl⟩
theorem Only.below (a : Only g w w') (hB : B ≤ g) : Below B w w' := ⟨a.os, a.tape, a.output, by rw [a.size]; exact Nat.le_refl _, fun j hj => a.rest j (by omega)⟩
theorem Arr.lt (h : Arr w g k T xs) : g < w.heap.size := (Array.getElem?_eq_some_iff.1 h).1
theorem Arr.cell (h : Arr w g k T xs) {i : Nat} (hi : i < xs.length) : w.cell? ⟨g, i, none⟩ = some (.int k (xs.getD i 0)) := by
  rw [cell_of_row w g i _ T (0, 0) h]
  simp [hi]
theorem Arr.frozen (h : Arr w g k T xs) (i : Nat) : w.frozen? ⟨g, i, none⟩ = false := frozen_of_row w g i _ T h
theorem Arr.below (h : Arr w g k T xs) (hb : Below B w w') (hg : g < B) : Arr w' g k T xs := (hb.block g hg).trans h
theorem Arr.over (h : Arr w g k T xs) (hb : Below w.heap.size w w') : Arr w' g k T xs := h.below hb h.lt
theorem Arr.only (a : Arr w g k T xs) (hb : Only h w w') (hg : g ≠ h) : Arr w' g k T xs := (hb.rest g hg).trans a
theorem Arr.set (h : Arr w g k T xs) (i : Nat) (u : Int) : Arr (w.setCell ⟨g, i, none⟩ (.int k u)) g k T (xs.set i u) := by
  have h1 := heap_setCell_same w g i _ T (.int k u) h
  unfold Arr
  rw [h1]
  simp [List.map_set]
theorem Arr.setOther (a : Arr w g k T xs) (hg : g ≠ h) (i : Nat) (v : Value) : Arr (w.setCell ⟨h, i, none⟩ v) g k T xs := (Below.heap_setCell _ _ _ _ hg).trans a
theorem Arr.drewN (h : Arr w g k T xs) (n : Nat) : Arr (w.drewN n) g k T xs := h
theorem Arr.drew (h : Arr w g k T xs) : Arr w.drew g k T xs := h
/-- a new block of numbers -/
theorem Arr.new (w : World) (k : IntKind) (T : TypeId) (xs : List Int) : Arr (w.alloc (.cells (xs.map (Value.int k)).toArray T)) w.heap.size k T xs := heap_alloc_new w _
end
section
variable {P : Program} {ops : Array Oper} {rest : List Oper} {o : Oper} {a : Act} {w : World} {Q : Exit → Act → World → Prop}
/-- an array parameter that gets a block of its own -/
theorem wpList_box_arr (hg : o.guard = none) (T : TypeId) (x : Operand) (ho : o.op = .box T x) (k : IntKind) (xs : List Int) (hx : a.eval x = .agg (xs.map (Value.int k)).toArray)
    (h : ∀ g w', w.heap.size ≤ g → g < w'.heap.size → Hid (Arr w' g k T xs) → Hid (Below w.heap.size w w') → wpList P ops Q rest (a.put o.dst (.pointer (some ⟨g, 0, none⟩))) w') : wpList P ops Q (o :: rest) a w := by
  refine wpList_plain hg fun K hK => ?_
  unfold Oper.wp execOp
  simp only [ho, hx, Sem.run_bind, Instr.box, newVar, newRow, run_newObj_alloc, Sem.run_pure, Result.andThen_ok]
  refine hK _ _ (h _ _ (Nat.le_refl _) (by simp) ?_ ((Below.refl _ _).alloc (Nat.le_refl _) _))
  exact Arr.new w k T xs
/-- a variable that is an array, at first noughts -/
theorem wpList_alloc_arr (hg : o.guard = none) (T : TypeId) (ho : o.op = .alloc T) (k : IntKind) (zs : List Int) (n : Nat) (hi : Hid ((P.info? T).map (fun i => (i.zero, i.size)) = some (some (.agg (zs.map (Value.int k)).toArray), n)))
    (h : ∀ g w', w.heap.size ≤ g → g < w'.heap.size → Hid (Arr w' g k T zs) → Hid (Below w.heap.size w w') → wpList P ops Q rest (a.put o.dst (.pointer (some ⟨g, 0, none⟩))) w') : wpList P ops Q (o :: rest) a w := by
  refine wpList_plain hg fun K hK => ?_
  unfold Oper.wp execOp
  have hz := (zero_of_info hi.out).1
  simp only [ho, Sem.run_bind, Instr.alloc, hz, newVar, newRow, run_newObj_alloc, Sem.run_pure, Result.andThen_ok]
  refine hK _ _ (h _ _ (Nat.le_refl _) (by simp) ?_ ((Below.refl _ _).alloc (Nat.le_refl _) _))
  exact Arr.new w k T _
/-- an array literal without parts -/
theorem wpList_build_zero (hg : o.guard = none) (T : TypeId) (ho : o.op = .build T #[]) (k : IntKind) (zs : List Int) (hf : Hid (P.built T [] = some (zs.map (Value.int k)).toArray))
    (h : wpList P ops Q rest (a.put o.dst (.agg (zs.map (Value.int k)).toArray)) w) : wpList P ops Q (o :: rest) a w := by
  have hf' : P.built T ((#[] : Array (Nat × Operand)).map fun (i, x) => (i, a.eval x)).toList = some (zs.map (Value.int k)).toArray := by
    rw [← hf.out]
    simp
  refine wpList_build hg T #[] ho (by rw [hf']; rfl) ?_
  rw [hf']
  exact h
/-- a whole array out of its block -/
theorem wpList_load_arr (hg : o.guard = none) (T : TypeId) (x : Operand) (ho : o.op = .load T x) (g : Nat) (hx : a.eval x = .pointer (some ⟨g, 0, none⟩)) (k : IntKind) (T' : TypeId) (xs : List Int) (hA : Hid (Arr w g k T' xs)) (n : Nat) (e : TypeId)
    (hu : P.underlying T = some (.array n e)) (hi : (P.info? T).map (·.size) = some n) (hn : Hid (xs.length = n))
    (h : wpList P ops Q rest (a.put o.dst (.agg (xs.map (Value.int k)).toArray)) w) : wpList P ops Q (o :: rest) a w :=
  wpList_load_row hg T x ho g hx T' _ (0, 0) _ hA.out hu rfl (by rw [hi]; have := hn.out; simp [this]) h
/-- a whole array into a block -/
theorem wpList_store_arr (hg : o.guard = none) (T : TypeId) (x y : Operand) (ho : o.op = .store T x y) (g : Nat) (hx : a.eval x = .pointer (some ⟨g, 0, none⟩)) (k : IntKind) (T' : TypeId) (xs ys : List Int) (hy : a.eval y = .agg (ys.map (Value.int k)).toArray)
    (hA : Hid (Arr w g k T' xs)) (n : Nat) (hi : (P.info? T).map (·.size) = some n) (hn : Hid (xs.length = n)) (hm : Hid (ys.length = n))
    (h : ∀ w', Hid (Arr w' g k T' ys) → Hid (Only g w w') → g < w'.heap.size → wpList P ops Q rest (a.put o.dst undef) w') : wpList P ops Q (o :: rest) a w := by
  refine wpList_store_row hg T x y ho g _ hx hy T' _ hA.out (by rw [hi]; have := hm.out; simp [this]) (by have := hm.out; have := hn.out; simp_all) ?_ (h _ ?_ ((Only.refl g w).setRow _) (by rw [size_setRow]; exact hA.out.lt))
  · apply Array.all_eq_true_iff_forall_mem.2
    intro v hv
    have hv' : v ∈ ys.map (Value.int k) := by simpa using hv
    obtain ⟨z, _, rfl⟩ := List.mem_map.1 hv'
    rfl
  · exact setRow_heap w g _ _ T' (0, 0) hA.out
/-- one of the numbers of an array value -/
theorem wpList_index_arr (hg : o.guard = none) (T : TypeId) (x y : Operand) (ho : o.op = .index T x y) (k : IntKind) (xs : List Int) (hx : a.eval x = .agg (xs.map (Value.int k)).toArray) (n : Nat) (e : TypeId) (hu : P.underlying T = some (.array n e))
    (he : P.underlying e = some (.int k)) (hs : (P.info? e).map (·.size) = some 1) (i : Nat) (hy : a.eval y = .int .i64 i) (hi : i < n) (hn : Hid (xs.length = n))
    (h : wpList P ops Q rest (a.put o.dst (.int k (xs.getD i 0))) w) : wpList P ops Q (o :: rest) a w := by
  refine wpList_plain hg fun K hK => ?_
  unfold Oper.wp execOp
  have hl := hn.out
  have hb : (0 : Int) ≤ (i : Int) ∧ (i : Int) < (n : Int) := ⟨by omega, by omega⟩
  obtain ⟨j, hj, hj1⟩ : ∃ j, P.info? e = some j ∧ j.size = 1 := by
    cases hq : P.info? e with
    | none => simp [hq] at hs
    | some j => exact ⟨j, rfl, by simpa [hq] using hs⟩
  have hrun : (Instr.index T (.agg (xs.map (Value.int k)).toArray) (.int .i64 i)).run P w = .ok (.int k (xs.getD i 0)) w := by
    simp only [Instr.index, asIntOf, Sem.run_bind, Sem.run_pure, Result.andThen_ok, run_underlying hu, hb, and_self, if_true]
    have hx : xs[i]? = some (xs.getD i 0) := by
      have : i < xs.length := by omega
      simp [this]
    simp [sizeOf, typeInfo, part, isAgg, run_underlying he, hj, hj1]
    rw [hx]
    simp
  simp only [ho, hx, hy, hrun, Sem.run_bind, Sem.run_pure, Result.andThen_ok]
  exact hK _ _ h
end
end Go.Proofs.YtgfflnjggnadpaaDoor

namespace Go.Proofs.YtgfflnjggnadpaaDoor
set_option linter.all false
set_option maxRecDepth 100000
open Go.RowKit
theorem zero_w : (Tryd.prog.info? 105).map (fun i => (i.zero, i.size)) = some (some (.agg ((List.replicate 64 (0 : Int)).map (Value.int .u32)).toArray), 64) := by kernel_rfl
theorem size_w : (Tryd.prog.info? 105).map (·.size) = some 64 := by kernel_rfl
theorem built_w : Tryd.prog.built 105 [] = some ((List.replicate 64 (0 : Int)).map (Value.int .u32)).toArray := by kernel_rfl
theorem size_b : (Tryd.prog.info? 91).map (·.size) = some 64 := by kernel_rfl
theorem one_u8 : (Tryd.prog.info? 5).map (·.size) = some 1 := by kernel_rfl
theorem one_u32 : (Tryd.prog.info? 44).map (·.size) = some 1 := by kernel_rfl
theorem len0 (n : Nat) : Hid ((List.replicate n (0 : Int)).length = n) := by show _ = _; rw [List.length_replicate]
set_option maxHeartbeats 1000000 in
theorem words_any (w : World) (xs : List Int) (hl : xs.length = 64) (hx : Bytes xs) :
    Calls Tryd.prog 100 #[.agg (xs.map (Value.int .u8)).toArray] w fun e w' => e = .returned (.agg ((sched xs).map (Value.int .u32)).toArray) ∧ Below w.heap.size w w' := by
  have HL := Lib.hid hl
  obtain ⟨Z, hZ⟩ : ∃ Z : List Int, Z = List.replicate 64 0 := ⟨_, rfl⟩
  have HZ := len0 64
  have hz1 := zero_w
  have hz2 := built_w
  rw [← hZ] at HZ hz1 hz2
  have HZ1 := Lib.hid hz1
  have HZ2 := Lib.hid hz2
  have HZe := Lib.hid hZ
  clear hl hZ hz1 hz2
  go_enter Tryd.func100, Tryd.ntmps100
  go_wp2_with (first
    | (refine wpList_box_arr rfl _ (.tmp 0) rfl .u8 xs rfl ?_; intro g1 w1 e1 s1 A1 b1)
    | ((with_reducible show wpList _ _ _ (⟨some 2, _, _, _, _, _⟩ :: _) _ _); refine wpList_alloc_arr rfl _ rfl .u32 Z 64 HZ1 ?_; intro g2 w2 e2 s2 A2 b2)
    | ((with_reducible show wpList _ _ _ (⟨some 3, _, _, _, _, _⟩ :: _) _ _); refine wpList_alloc_arr rfl _ rfl .u32 Z 64 HZ1 ?_; intro g3 w3 e3 s3 A3 b3)
    | (refine wpList_build_zero rfl _ rfl .u32 Z HZ2 ?_)
    | ((with_reducible show wpList _ _ _ (⟨none, _, _, _, _, _⟩ :: _) _ _); refine wpList_store_arr rfl _ (.tmp 3) (.tmp 11) rfl g3 rfl .u32 _ _ _ rfl A3 64 size_w HZ HZ ?_; intro w4 A4 o4 s4; have A14 := Lib.hid (((A1.out.over b2.out).over b3.out).only o4.out (by omega)))
    | (refine wpList_load_arr rfl _ (.tmp 1) rfl g1 rfl .u8 _ xs A14 64 _ Tryd.underlying91 size_b HL ?_)
    | fail)
  have A24 := Lib.hid (((A2.out.over b3.out)).only o4.out (by omega))
  have B4 : Hid (Below w.heap.size w w4) := (step b1.out (step b2.out b3.out)).trans (o4.out.below (by omega))
  have l23 : g2 < g3 := by omega
  have lw3 : w.heap.size ≤ g3 := by omega
  have lw2 : w.heap.size ≤ g2 := by omega
  clear A1 A14 A2 A3 b1 b2 b3 o4 s1 s2 s3 e2 e3
  go_loopw [13] (fun i wr => ∃ k : Nat, k ≤ 64 ∧ i = .int .i64 k ∧ Hid (Arr wr g3 .u32 105 (partRow xs k)) ∧ Hid (Only g3 w4 wr)) (fun i _ => 64 - (intOf i).toNat)
  case atStart => exact ⟨0, by omega, rfl, by rw [partRow_zero, ← HZe.out]; exact A4, Only.refl _ _⟩
  case round =>
    obtain ⟨k, hk, rfl, hR, hO⟩ := hrel
    by_cases hlt : k < 64
    · have hq : k / 4 < 64 := by omega
      have gc := hR.out.cell (i := k / 4) (by rw [partRow_len]; exact hq)
      have gf := hR.out.frozen (k / 4)
      rw [partRow_getD _ _ _ hq] at gc
      have hws := word_small xs hx k (by rw [HL.out]; exact hlt)
      obtain ⟨z, hz⟩ : ∃ z, z = word (xs.take k) (k / 4) := ⟨_, rfl⟩
      have hb := hx.getD k
      obtain ⟨y, hy⟩ : ∃ y, y = xs.getD k 0 := ⟨_, rfl⟩
      have hS := hR.out.set (k / 4) (z * 256 + y)
      rw [hz, hy, partRow_set xs k (by rw [HL.out]; exact hlt), ← hz, ← hy] at hS
      have HS := Lib.hid hS
      rw [← hz] at gc hws
      rw [← hy] at hb
      have e1 := or_byte32 z y hws.1 hws.2 hb.1 hb.2
      have HY := Lib.hid hy
      clear hz hS hy hR
      obtain ⟨hw0, hw1⟩ := hws
      obtain ⟨hb0, hb1⟩ := hb
      go_wp2_with (first
        | (refine wpList_index_arr rfl _ (.tmp 12) (.tmp 13) rfl .u8 xs rfl 64 _ Tryd.underlying91 Tryd.underlying5 one_u8 k rfl hlt HL ?_; rw [← HY.out])
        | fail)
      go_roundw
      case rel => exact ⟨k + 1, by omega, by go_num, HS, hO.out.setCell _ _⟩
      case measure => simp [intOf]; omega
    · have hS := hR.out
      rw [show k = 64 by omega, partRow_full xs HL.out] at hS
      have hge : (64 : Int) ≤ (k : Int) := by omega
      have HS : Hid (Arr wr g3 .u32 105 (schedRow xs 0)) := hS
      have A2r := Lib.hid (A24.out.only hO.out (by omega))
      have Br : Hid (Below w.heap.size w wr) := B4.out.trans (hO.out.below (by omega))
      have s3 := hS.lt
      clear hR hS hO A4 A24 B4 hlt s4
      go_wp2_with fail
      obtain ⟨w5, hw5⟩ : ∃ w5, w5 = wr := ⟨_, rfl⟩
      rw [← hw5] at A2r Br s3 HS ⊢
      clear hw5
      go_loopw [6] (fun i wr => ∃ t : Nat, 16 ≤ t ∧ t ≤ 64 ∧ i = .int .i64 t ∧ Hid (Arr wr g3 .u32 105 (schedRow xs (t - 16))) ∧ Hid (Only g3 w5 wr)) (fun i _ => 64 - (intOf i).toNat)
      case atStart => exact ⟨16, by omega, by omega, rfl, HS, Only.refl _ _⟩
      case round =>
        obtain ⟨t, ht, hk, rfl, hR, hO⟩ := hrel
        have hlen := Lib.hid (schedRow_len xs (t - 16) (by omega))
        by_cases hlt : t < 64
        · have g15 := hR.out.cell (i := t - 15) (by rw [hlen.out]; omega)
          have g2' := hR.out.cell (i := t - 2) (by rw [hlen.out]; omega)
          have g7 := hR.out.cell (i := t - 7) (by rw [hlen.out]; omega)
          have g16 := hR.out.cell (i := t - 16) (by rw [hlen.out]; omega)
          have hw := schedRow_w xs hx (t - 16)
          have b15 := hw.getD (t - 15)
          have b2 := hw.getD (t - 2)
          obtain ⟨x15, hx15⟩ : ∃ x, x = (schedRow xs (t - 16)).getD (t - 15) 0 := ⟨_, rfl⟩
          obtain ⟨x2, hx2⟩ : ∃ x, x = (schedRow xs (t - 16)).getD (t - 2) 0 := ⟨_, rfl⟩
          obtain ⟨x7, hx7⟩ : ∃ x, x = (schedRow xs (t - 16)).getD (t - 7) 0 := ⟨_, rfl⟩
          obtain ⟨x16, hx16⟩ : ∃ x, x = (schedRow xs (t - 16)).getD (t - 16) 0 := ⟨_, rfl⟩
          rw [← hx15] at g15 b15
          rw [← hx2] at g2' b2
          rw [← hx7] at g7
          rw [← hx16] at g16
          have H15 := Lib.hid hx15
          have H2 := Lib.hid hx2
          have H7 := Lib.hid hx7
          have H16 := Lib.hid hx16
          clear hx15 hx2 hx7 hx16 hw
          have gf := hR.out.frozen t
          have c7 := fun w => Lib.hid (turn_any w x15 7 b15 (by omega))
          have c18 := fun w => Lib.hid (turn_any w x15 18 b15 (by omega))
          have c17 := fun w => Lib.hid (turn_any w x2 17 b2 (by omega))
          have c19 := fun w => Lib.hid (turn_any w x2 19 b2 (by omega))
          obtain ⟨b150, b151⟩ := b15
          obtain ⟨b20, b21⟩ := b2
          have i15 : IntKind.i64.wrap ((t : Int) - 15) = (t : Int) - 15 := IntWalk.i64_in _ (by omega)
          have i2 : IntKind.i64.wrap ((t : Int) - 2) = (t : Int) - 2 := IntWalk.i64_in _ (by omega)
          have j15 : 0 ≤ (t : Int) - 15 := by omega
          have j2 : 0 ≤ (t : Int) - 2 := by omega
          have k15 : (t : Int) - 15 < 64 := by omega
          have k2 : (t : Int) - 2 < 64 := by omega
          have n15 : ((t : Int) - 15).toNat = t - 15 := by omega
          have n2 : ((t : Int) - 2).toNat = t - 2 := by omega
          go_wp2_with fail
          go_quiet (fail)
          clear i15 i2 j15 j2 k15 k2 n15 n2 b150 b151 b20 b21
          go_wp2_with fail
          refine (c7 _).out.mono ?_
          rintro e w' ⟨rfl, rfl⟩
          go_wp2_with fail
          refine (c18 _).out.mono ?_
          rintro e w' ⟨rfl, rfl⟩
          go_wp2_with fail
          refine (c17 _).out.mono ?_
          rintro e w' ⟨rfl, rfl⟩
          go_wp2_with fail
          refine (c19 _).out.mono ?_
          rintro e w' ⟨rfl, rfl⟩
          obtain ⟨wx, hwx⟩ : ∃ wx, wx = wr.drewN nq := ⟨_, rfl⟩
          have hRx : Hid (Arr wx g3 .u32 105 (schedRow xs (t - 16))) := by rw [hwx]; exact hR.out.drewN nq
          have hOx : Hid (Only g3 w5 wx) := by rw [hwx]; exact hO.out.drewN nq
          rw [← hwx]
          clear g7 g16 gf hR hO hwx
          have g7 := hRx.out.cell (i := t - 7) (by rw [hlen.out]; omega)
          have g16 := hRx.out.cell (i := t - 16) (by rw [hlen.out]; omega)
          have g0 := hRx.out.cell (i := t) (by rw [hlen.out]; omega)
          have gf := hRx.out.frozen t
          rw [← H7.out] at g7
          rw [← H16.out] at g16
          obtain ⟨x0, hx0⟩ : ∃ x, x = (schedRow xs (t - 16)).getD t 0 := ⟨_, rfl⟩
          rw [← hx0] at g0
          clear hx0
          have i7 : IntKind.i64.wrap ((t : Int) - 7) = (t : Int) - 7 := IntWalk.i64_in _ (by omega)
          have i16 : IntKind.i64.wrap ((t : Int) - 16) = (t : Int) - 16 := IntWalk.i64_in _ (by omega)
          have j7 : 0 ≤ (t : Int) - 7 := by omega
          have j16 : 0 ≤ (t : Int) - 16 := by omega
          have k7 : (t : Int) - 7 < 64 := by omega
          have k16 : (t : Int) - 16 < 64 := by omega
          have n7 : ((t : Int) - 7).toNat = t - 7 := by omega
          have n16 : ((t : Int) - 16).toNat = t - 16 := by omega
          go_wp2_with fail
          have m7 : 7 ≤ (t : Int) := by omega
          have m16 : 16 ≤ (t : Int) := by omega
          go_still_tail 15, (by kernel_rfl)

          change wpList _ _ _ _ _ wx.drew
          go_wp2_with fail

          go_roundw
          case rel =>
            refine ⟨t + 1, by omega, by omega, by go_num, ?_, (hOx.out.setCell _ _).drewN 1⟩
            have hS := hRx.out.set t (nextW (schedRow xs (t - 16)) t)
            have hq := schedRow_set xs (t - 16) (by omega) (nextW (schedRow xs (t - 16)) t) (by rw [show 16 + (t - 16) = t by omega])
            rw [show 16 + (t - 16) = t by omega] at hq
            rw [hq] at hS
            rw [show t + 1 - 16 = t - 16 + 1 by omega]
            have e : ∀ a b c d : Int, (a + b + c + d) % 4294967296 = IntKind.u32.wrap (IntKind.u32.wrap (IntKind.u32.wrap (a + b) + c) + d) := by
              intro a b c d
              simp only [IntKind.wrap_u32']
              omega
            have hn : nextW (schedRow xs (t - 16)) t = (sig1 x2 + x7 + sig0 x15 + x16) % 4294967296 := by
              rw [e]
              unfold nextW
              rw [← H15.out, ← H2.out, ← H7.out, ← H16.out]
            rw [hn] at hS
            exact hS.drew
          case measure => simp [intOf]; omega
        · have hge2 : (64 : Int) ≤ (t : Int) := by omega
          have hS := hR.out
          rw [show t = 64 by omega] at hS
          have hF : Hid (Arr wr g3 .u32 105 (sched xs)) := by
            have e : schedRow xs 48 = sched xs := by unfold schedRow sched; simp
            rw [← e]
            exact hS
          have A2f := Lib.hid (A2r.out.only hO.out (by omega))
          have Bf : Hid (Below w.heap.size w wr) := Br.out.trans (hO.out.below lw3)
          have HLs := Lib.hid (sched_len xs)
          obtain ⟨Sc, hSc⟩ : ∃ Sc, Sc = sched xs := ⟨_, rfl⟩
          rw [← hSc] at hF HLs
          have HSc := Lib.hid hSc
          clear hS hR hO hSc
          go_wp2_with (first
            | ((with_reducible show wpList _ _ _ (⟨some 72, _, _, _, _, _⟩ :: _) _ _); refine wpList_load_arr rfl _ (.tmp 3) rfl g3 rfl .u32 _ Sc hF 64 _ Tryd.underlying105 size_w HLs ?_)
            | ((with_reducible show wpList _ _ _ (⟨none, _, _, _, _, _⟩ :: _) _ _); refine wpList_store_arr rfl _ (.tmp 2) (.tmp 72) rfl g2 rfl .u32 _ _ _ rfl A2f 64 size_w HZ HLs ?_; intro w6 A6 o6 s6)
            | fail)
          rw [← HSc.out]
          refine bodyPost_ret (v := .agg (Sc.map (Value.int .u32)).toArray) ?_ rfl ⟨rfl, Bf.out.trans (o6.out.below (by omega))⟩
          exact results_cell_row rfl _ _ g2 _ _ (0, 0) _ rfl A6.out Tryd.underlying105 rfl (by rw [size_w]; have := HLs.out; simp [this])
end Go.Proofs.YtgfflnjggnadpaaDoor

namespace Go.Proofs.YtgfflnjggnadpaaDoor
set_option linter.all false
open Go.RowKit
theorem below_drewN {B : Nat} {a w : World} (h : Below B a w) (n : Nat) : Below B a (w.drewN n) := h.trans ⟨rfl, rfl, rfl, Nat.le_refl _, fun _ _ => rfl⟩
end Go.Proofs.YtgfflnjggnadpaaDoor

namespace Go.Proofs.YtgfflnjggnadpaaDoor
set_option linter.all false
set_option maxRecDepth 100000
open Go.RowKit
/-- the constants, as the document's roots are shown to tell them -/
def KK : List Int := [
  0x428a2f98, 0x71374491, 0xb5c0fbcf, 0xe9b5dba5, 0x3956c25b, 0x59f111f1, 0x923f82a4, 0xab1c5ed5,
  0xd807aa98, 0x12835b01, 0x243185be, 0x550c7dc3, 0x72be5d74, 0x80deb1fe, 0x9bdc06a7, 0xc19bf174,
  0xe49b69c1, 0xefbe4786, 0x0fc19dc6, 0x240ca1cc, 0x2de92c6f, 0x4a7484aa, 0x5cb0a9dc, 0x76f988da,
  0x983e5152, 0xa831c66d, 0xb00327c8, 0xbf597fc7, 0xc6e00bf3, 0xd5a79147, 0x06ca6351, 0x14292967,
  0x27b70a85, 0x2e1b2138, 0x4d2c6dfc, 0x53380d13, 0x650a7354, 0x766a0abb, 0x81c2c92e, 0x92722c85,
  0xa2bfe8a1, 0xa81a664b, 0xc24b8b70, 0xc76c51a3, 0xd192e819, 0xd6990624, 0xf40e3585, 0x106aa070,
  0x19a4c116, 0x1e376c08, 0x2748774c, 0x34b0bcb5, 0x391c0cb3, 0x4ed8aa4a, 0x5b9cca4f, 0x682e6ff3,
  0x748f82ee, 0x78a5636f, 0x84c87814, 0x8cc70208, 0x90befffa, 0xa4506ceb, 0xbef9a3f7, 0xc67178f2]
theorem W32.of_all {xs : List Int} (h : xs.all (fun x => decide (0 ≤ x) && decide (x ≤ 4294967295)) = true) : W32 xs := fun x hx => by
  have := List.all_eq_true.1 h x hx
  simpa using this
theorem KK_w : W32 KK := W32.of_all (by decide +kernel)
/-- the program's table holds the constants -/
def KTab (w : World) : Prop := ∀ i, i < 64 → w.cell? ⟨0, i, none⟩ = some (.int .u32 (KK.getD i 0))
theorem KTab.lt {w : World} (h : KTab w) : 0 < w.heap.size := by
  have := World.block_lt_of_cell? w _ (h 0 (by omega))
  exact this
theorem KTab.below {w w' : World} (h : KTab w) (hb : Below w.heap.size w w') : KTab w' := fun i hi => by
  have hl := h.lt
  rw [← h i hi]
  exact hb.cell (p := ⟨0, i, none⟩) hl
theorem KTab.only {w w' : World} {g : Nat} (h : KTab w) (hb : Only g w w') (hg : 0 < g) : KTab w' := fun i hi => by
  rw [← h i hi]
  simp only [World.cell?]
  rw [hb.rest _ (by omega)]
theorem KTab.drewN {w : World} (h : KTab w) (n : Nat) : KTab (w.drewN n) := h
/-- eight words of state -/
structure St where
  a : Int
  b : Int
  c : Int
  d : Int
  e : Int
  f : Int
  g : Int
  h : Int
def St.list (s : St) : List Int := [s.a, s.b, s.c, s.d, s.e, s.f, s.g, s.h]
def St.of (l : List Int) : St := ⟨l.getD 0 0, l.getD 1 0, l.getD 2 0, l.getD 3 0, l.getD 4 0, l.getD 5 0, l.getD 6 0, l.getD 7 0⟩
def ch (e f g : Int) : Int := bits .xor .u32 (bits .and .u32 e f) (bits .and .u32 (bits .xor .u32 IntKind.u32.max e) g)
def maj (a b c : Int) : Int := bits .xor .u32 (bits .xor .u32 (bits .and .u32 a b) (bits .and .u32 a c)) (bits .and .u32 b c)
def t1Of (s : St) (k x : Int) : Int := (s.h + rots s.e 6 11 25 + ch s.e s.f s.g + k + x) % 4294967296
def t2Of (s : St) : Int := (rots s.a 2 13 22 + maj s.a s.b s.c) % 4294967296
def roundS (k x : Int) (s : St) : St := ⟨(t1Of s k x + t2Of s) % 4294967296, s.a, s.b, s.c, (s.d + t1Of s k x) % 4294967296, s.e, s.f, s.g⟩
def runS (K W : List Int) (s : St) : Nat → St
  | 0 => s
  | t + 1 => roundS (K.getD t 0) (W.getD t 0) (runS K W s t)
/-- what the words of old and new come to -/
def addS (old new : List Int) : List Int := List.zipWith (fun x y => (x + y) % 4294967296) old new
def pressOf (state block : List Int) : List Int := addS state (runS KK (sched block) (St.of state) 64).list
def St.W (s : St) : Prop := (0 ≤ s.a ∧ s.a ≤ 4294967295) ∧ (0 ≤ s.b ∧ s.b ≤ 4294967295) ∧ (0 ≤ s.c ∧ s.c ≤ 4294967295) ∧ (0 ≤ s.d ∧ s.d ≤ 4294967295) ∧ (0 ≤ s.e ∧ s.e ≤ 4294967295) ∧ (0 ≤ s.f ∧ s.f ≤ 4294967295) ∧ (0 ≤ s.g ∧ s.g ≤ 4294967295) ∧ (0 ≤ s.h ∧ s.h ≤ 4294967295)
theorem St.of_w {l : List Int} (h : W32 l) : (St.of l).W := ⟨h.getD 0, h.getD 1, h.getD 2, h.getD 3, h.getD 4, h.getD 5, h.getD 6, h.getD 7⟩
theorem roundS_w {s : St} (h : s.W) (k x : Int) : (roundS k x s).W := by
  obtain ⟨ha, hb, hc, hd, he, hf, hg, hh⟩ := h
  refine ⟨?_, ha, hb, hc, ?_, he, hf, hg⟩ <;> (simp only [roundS]; omega)
theorem runS_w {s : St} (h : s.W) (K W : List Int) (t : Nat) : (runS K W s t).W := by
  induction t with
  | zero => exact h
  | succ t ih => exact roundS_w ih _ _
theorem list_w {s : St} (h : s.W) : W32 s.list := by
  obtain ⟨ha, hb, hc, hd, he, hf, hg, hh⟩ := h
  intro x hx
  simp only [St.list, List.mem_cons, List.not_mem_nil, or_false] at hx
  rcases hx with rfl | rfl | rfl | rfl | rfl | rfl | rfl | rfl <;> assumption
theorem addS_len (l m : List Int) (h : l.length = 8) (h' : m.length = 8) : (addS l m).length = 8 := by simp [addS, h, h']
theorem addS_w (l m : List Int) : W32 (addS l m) := by
  intro x hx
  obtain ⟨i, hi, rfl⟩ := List.getElem_of_mem hx
  simp only [addS, List.getElem_zipWith]
  omega
theorem pressOf_len (s b : List Int) (h : s.length = 8) : (pressOf s b).length = 8 := addS_len _ _ h rfl
theorem pressOf_w (s b : List Int) : W32 (pressOf s b) := addS_w _ _
/-- the row of state, behind i of the eight sums -/
def sumRow (old new : List Int) (i : Nat) : List Int := (addS old new).take i ++ old.drop i
theorem sumRow_len (l m : List Int) (h : l.length = 8) (h' : m.length = 8) (i : Nat) (hi : i ≤ 8) : (sumRow l m i).length = 8 := by simp [sumRow, addS_len l m h h', h]; omega
theorem sumRow_getD (l m : List Int) (h : l.length = 8) (h' : m.length = 8) (i : Nat) (hi : i < 8) : (sumRow l m i).getD i 0 = l.getD i 0 := by
  have hl : ((addS l m).take i).length = i := by simp [addS_len l m h h']; omega
  unfold sumRow
  rw [List.getD_eq_getElem?_getD, List.getElem?_append_right (by omega), hl, Nat.sub_self, List.getElem?_drop, Nat.add_zero, ← List.getD_eq_getElem?_getD]
theorem sumRow_set (l m : List Int) (h : l.length = 8) (h' : m.length = 8) (i : Nat) (hi : i < 8) : (sumRow l m i).set i ((l.getD i 0 + m.getD i 0) % 4294967296) = sumRow l m (i + 1) := by
  have hl : ((addS l m).take i).length = i := by simp [addS_len l m h h']; omega
  have hil : i < (addS l m).length := by rw [addS_len l m h h']; exact hi
  unfold sumRow
  rw [List.set_append_right _ _ (by omega), hl, Nat.sub_self, List.drop_eq_getElem_cons (by omega), List.set_cons_zero, List.take_succ_eq_append_getElem hil, List.append_assoc]
  have e : (addS l m)[i] = (l.getD i 0 + m.getD i 0) % 4294967296 := by
    have h1 : i < l.length := by omega
    have h2 : i < m.length := by omega
    simp [addS, h1, h2]
  rw [e]
  rfl
theorem sumRow_zero (l m : List Int) : sumRow l m 0 = l := by simp [sumRow]
theorem sumRow_full (l m : List Int) (h : l.length = 8) (h' : m.length = 8) : sumRow l m 8 = addS l m := by
  unfold sumRow
  rw [List.take_of_length_le (by rw [addS_len l m h h']; omega), List.drop_of_length_le (by omega), List.append_nil]
theorem quiet_same {P : Program} {f : FuncId} {args : Array Value} {w : World} {n : Nat} {v : Value}
    (h : Calls P f args (w.drewN n) fun e w' => e = .returned v ∧ w.drewN n = w') : Calls P f args (w.drewN n) fun e w'' => e = .returned v ∧ ∃ m, w'' = w.drewN m :=
  h.mono fun _ _ ⟨he, hm⟩ => ⟨he, n, hm.symm⟩
theorem zero_s : (Tryd.prog.info? 101).map (fun i => (i.zero, i.size)) = some (some (.agg ((List.replicate 8 (0 : Int)).map (Value.int .u32)).toArray), 8) := by kernel_rfl
theorem size_s : (Tryd.prog.info? 101).map (·.size) = some 8 := by kernel_rfl
set_option maxRecDepth 100000 in
set_option maxHeartbeats 2000000 in
theorem Press_any (w : World) (st xs : List Int) (hs : st.length = 8) (hsw : W32 st) (hl : xs.length = 64) (hx : Bytes xs) (hK : KTab w) :
    Calls Tryd.prog 98 #[.agg (st.map (Value.int .u32)).toArray, .agg (xs.map (Value.int .u8)).toArray] w
      fun e w' => e = .returned (.agg ((pressOf st xs).map (Value.int .u32)).toArray) ∧ Below w.heap.size w w' := by
  have HL := Lib.hid hl
  have HS := Lib.hid hs
  obtain ⟨Z, hZ⟩ : ∃ Z : List Int, Z = List.replicate 64 0 := ⟨_, rfl⟩
  have HZ := len0 64
  have hz1 := zero_w
  rw [← hZ] at HZ hz1
  obtain ⟨Y, hY⟩ : ∃ Z : List Int, Z = List.replicate 8 0 := ⟨_, rfl⟩
  have HY := len0 8
  have hy1 := zero_s
  rw [← hY] at HY hy1
  have HZ1 := Lib.hid hz1
  have HY1 := Lib.hid hy1
  have cw := fun w => Lib.hid (words_any w xs hl hx)
  have hsl := sched_len xs
  have hscw := sched_w xs hx
  obtain ⟨sc, hsc⟩ : ∃ sc, sc = sched xs := ⟨_, rfl⟩
  rw [← hsc] at cw hsl hscw
  have HSC := Lib.hid hsc
  have HSL := Lib.hid hsl
  have HK := Lib.hid hK
  clear hl hs hZ hz1 hY hy1 hsc hsl hK
  go_enter Tryd.func98, Tryd.ntmps98
  go_wp2_with (first
    | ((with_reducible show wpList _ _ _ (⟨some 2, _, _, _, _, _⟩ :: _) _ _); refine wpList_box_arr rfl _ (.tmp 0) rfl .u32 st rfl ?_; intro g2 w2 e2 s2 A2 b2)
    | ((with_reducible show wpList _ _ _ (⟨some 3, _, _, _, _, _⟩ :: _) _ _); refine wpList_box_arr rfl _ (.tmp 1) rfl .u8 xs rfl ?_; intro g3 w3 e3 s3 A3 b3)
    | ((with_reducible show wpList _ _ _ (⟨some 4, _, _, _, _, _⟩ :: _) _ _); refine wpList_alloc_arr rfl _ rfl .u32 Y 8 HY1 ?_; intro g4 w4 e4 s4 A4 b4; have A34 := Lib.hid (A3.out.over b4.out))
    | ((with_reducible show wpList _ _ _ (⟨some 20, _, _, _, _, _⟩ :: _) _ _); refine wpList_load_arr rfl _ (.tmp 3) rfl g3 rfl .u8 _ xs A34 64 _ Tryd.underlying91 size_b HL ?_)
    | fail)
  refine (cw _).out.mono ?_
  rintro e w5 ⟨rfl, b5⟩
  have B5 := Lib.hid b5
  clear b5
  go_wp2_with (first
    | ((with_reducible show wpList _ _ _ (⟨some 5, _, _, _, _, _⟩ :: _) _ _); refine wpList_alloc_arr rfl _ rfl .u32 Z 64 HZ1 ?_; intro g5 w6 e6 s6 A6 b6)
    | ((with_reducible show wpList _ _ _ (⟨none, _, _, _, _, _⟩ :: _) _ _); refine wpList_store_arr rfl _ (.tmp 5) (.tmp 21) rfl g5 rfl .u32 _ _ sc rfl A6 64 size_w HZ HSL ?_; intro w7 A7 o7 s7)
    | fail)
  have hsz2 := b3.out.size
  have hsz3 := b4.out.size
  have hsz4 := B5.out.size
  have hsz5 := b6.out.size
  have B07 : Hid (Below w.heap.size w w7) := (step b2.out (step b3.out (step b4.out (step B5.out b6.out)))).trans (o7.out.below (by omega))
  have A27 := Lib.hid (((((A2.out.over b3.out).over b4.out).over B5.out).over b6.out).only o7.out (by omega))
  have A47 := Lib.hid (((A4.out.over B5.out).over b6.out).only o7.out (by omega))
  have HK7 := Lib.hid ((((((HK.out.below b2.out).below b3.out).below b4.out).below B5.out).below b6.out).only o7.out (by have := HK.out.lt; omega))
  have l24 : g2 < g4 := by omega
  have lw2 : w.heap.size ≤ g2 := by omega
  clear A2 b2 A3 b3 A4 b4 A34 B5 A6 b6 o7 hsz2 hsz3 hsz4 hsz5 s2 s3 s4 s6 e3 e4 e6
  have k0 := A27.out.cell (i := 0) (by rw [HS.out]; omega)
  have k1 := A27.out.cell (i := 1) (by rw [HS.out]; omega)
  have k2 := A27.out.cell (i := 2) (by rw [HS.out]; omega)
  have k3 := A27.out.cell (i := 3) (by rw [HS.out]; omega)
  have k4 := A27.out.cell (i := 4) (by rw [HS.out]; omega)
  have k5 := A27.out.cell (i := 5) (by rw [HS.out]; omega)
  have k6 := A27.out.cell (i := 6) (by rw [HS.out]; omega)
  have k7 := A27.out.cell (i := 7) (by rw [HS.out]; omega)
  obtain ⟨s0, hs0⟩ : ∃ s0, s0 = St.of st := ⟨_, rfl⟩
  have hsw0 := St.of_w hsw
  rw [← hs0] at hsw0
  have e0 : st.getD 0 0 = s0.a := by rw [hs0]; rfl
  have e1 : st.getD 1 0 = s0.b := by rw [hs0]; rfl
  have e2' : st.getD 2 0 = s0.c := by rw [hs0]; rfl
  have e3 : st.getD 3 0 = s0.d := by rw [hs0]; rfl
  have e4 : st.getD 4 0 = s0.e := by rw [hs0]; rfl
  have e5 : st.getD 5 0 = s0.f := by rw [hs0]; rfl
  have e6 : st.getD 6 0 = s0.g := by rw [hs0]; rfl
  have e7 : st.getD 7 0 = s0.h := by rw [hs0]; rfl
  rw [e0] at k0
  rw [e1] at k1
  rw [e2'] at k2
  rw [e3] at k3
  rw [e4] at k4
  rw [e5] at k5
  rw [e6] at k6
  rw [e7] at k7
  have HS0 := Lib.hid hs0
  clear e0 e1 e2' e3 e4 e5 e6 e7 hs0
  go_quiet (fail)
  go_wp2_with (first
    | ((with_reducible show wpList _ _ _ (⟨some 38, _, _, _, _, _⟩ :: _) _ _); refine wpList_load_arr rfl _ (.tmp 5) rfl g5 rfl .u32 _ sc (A7.out.drewN nq) 64 _ Tryd.underlying105 size_w HSL ?_)
    | fail)
  clear k0 k1 k2 k3 k4 k5 k6 k7
  go_loopw [6, 7, 8, 9, 10, 11, 12, 13, 39] (fun sa sb sc' sd se sf sg sh i wr => ∃ t : Nat, t ≤ 64 ∧ i = .int .i64 t ∧ (∃ s : St, Hid (s = runS KK sc s0 t) ∧ sa = .int .u32 s.a ∧ sb = .int .u32 s.b ∧ sc' = .int .u32 s.c ∧ sd = .int .u32 s.d ∧ se = .int .u32 s.e ∧ sf = .int .u32 s.f ∧ sg = .int .u32 s.g ∧ sh = .int .u32 s.h) ∧ ∃ n, wr = w7.drewN n)
    (fun _ _ _ _ _ _ _ _ i _ => 64 - (intOf i).toNat)
  case atStart => exact ⟨0, by omega, rfl, ⟨s0, rfl, rfl, rfl, rfl, rfl, rfl, rfl, rfl, rfl⟩, _, rfl⟩
  case round =>
    obtain ⟨t, ht, rfl, ⟨s, hSt, rfl, rfl, rfl, rfl, rfl, rfl, rfl, rfl⟩, n, rfl⟩ := hrel
    by_cases hlt : t < 64
    · have hw := runS_w hsw0 KK sc t
      rw [← hSt.out] at hw
      obtain ⟨a, b, c, d, e, f, g, h8⟩ := s
      obtain ⟨⟨a0, a1⟩, ⟨b0, b1⟩, ⟨c0, c1⟩, ⟨d0, d1⟩, ⟨e0, e1⟩, ⟨f0, f1⟩, ⟨g0, g1⟩, ⟨h0, h1⟩⟩ := hw
      have hsig : IntKind.u32.signed = false := rfl
      simp only at a0 a1 b0 b1 c0 c1 d0 d1 e0 e1 f0 f1 g0 g1 h0 h1
      obtain ⟨wq, hwq⟩ : ∃ wq, wq = w7.drewN n := ⟨_, rfl⟩
      have gk : wq.cell? ⟨0, t, none⟩ = some (.int .u32 (KK.getD t 0)) := by rw [hwq]; exact HK7.out t hlt
      rw [← hwq]
      have HWQ := Lib.hid hwq
      clear hwq
      have hk := KK_w.getD t
      obtain ⟨kt, hkt⟩ : ∃ kt, kt = KK.getD t 0 := ⟨_, rfl⟩
      rw [← hkt] at gk hk
      have HKT := Lib.hid hkt
      have hx' := hscw.getD t
      obtain ⟨x, hxe⟩ : ∃ x, x = sc.getD t 0 := ⟨_, rfl⟩
      rw [← hxe] at hx'
      have HXE := Lib.hid hxe
      obtain ⟨hk0, hk1⟩ := hk
      obtain ⟨hx0, hx1⟩ := hx'
      clear hkt hxe
      have re := rots_bounds e 6 11 25
      have ra := rots_bounds a 2 13 22
      obtain ⟨re0, re1⟩ := re
      obtain ⟨ra0, ra1⟩ := ra
      have ct := fun w => Lib.hid (turns_any w e 6 11 25 ⟨e0, e1⟩ (by omega) (by omega) (by omega))
      have ct2 := fun w => Lib.hid (turns_any w a 2 13 22 ⟨a0, a1⟩ (by omega) (by omega) (by omega))
      go_wp2_with (first
        | (refine wpList_index_arr rfl _ (.tmp 38) (.tmp 39) rfl .u32 sc rfl 64 _ Tryd.underlying105 Tryd.underlying44 one_u32 t rfl hlt HSL ?_; rw [← HXE.out])
        | fail)
      go_quiet ((go_at_call 101; exact quiet_same (ct _).out))
      go_wp2_with fail
      refine (ct2 _).out.mono ?_
      rintro ee w' ⟨rfl, rfl⟩
      go_wp2_with fail
      go_roundw
      case rel =>
        refine ⟨t + 1, by omega, by go_num, ⟨roundS kt x ⟨a, b, c, d, e, f, g, h8⟩, ?_, ?_, rfl, rfl, rfl, ?_, rfl, rfl, rfl⟩, n + nq, by rw [HWQ.out, World.drewN_drewN]⟩
        · show _ = _
          rw [hSt.out, HKT.out, HXE.out]
          rfl
        all_goals simp only [roundS, t1Of, t2Of, ch, maj]
      case measure => simp [intOf]; omega
    · have hge : (64 : Int) ≤ (t : Int) := by omega
      have hw := runS_w hsw0 KK sc t
      rw [← hSt.out] at hw
      have hlw := list_w hw
      have hSt' : Hid (s = runS KK sc s0 64) := by show _ = _; rw [hSt.out, show t = 64 by omega]
      clear hSt hw
      obtain ⟨a, b, c, d, e, f, g, h⟩ := s
      obtain ⟨w8, hw8⟩ : ∃ w8, w8 = w7.drewN n := ⟨_, rfl⟩
      have A28 : Hid (Arr w8 g2 .u32 101 (sumRow st [a, b, c, d, e, f, g, h] 0)) := by rw [hw8, sumRow_zero]; exact A27.out.drewN n
      have A48 : Hid (Arr w8 g4 .u32 101 Y) := by rw [hw8]; exact A47.out.drewN n
      have B08 : Hid (Below w.heap.size w w8) := by rw [hw8]; exact below_drewN B07.out n
      rw [← hw8]
      clear hw8 A27 A47 HK7
      go_wp2_with fail
      obtain ⟨new, hnew⟩ : ∃ new : List Int, new = [a, b, c, d, e, f, g, h] := ⟨_, rfl⟩
      have HN := Lib.hid (show new.length = 8 by rw [hnew]; rfl)
      have HNe := Lib.hid hnew
      rw [← hnew] at A28
      clear hnew
      go_loopw [98] (fun i wr => ∃ k : Nat, k ≤ 8 ∧ i = .int .i64 k ∧ Hid (Arr wr g2 .u32 101 (sumRow st new k)) ∧ Hid (Only g2 w8 wr)) (fun i _ => 8 - (intOf i).toNat)
      case atStart => exact ⟨0, by omega, rfl, A28, Only.refl _ _⟩
      case round =>
        obtain ⟨k, hk, rfl, hR, hO⟩ := hrel
        by_cases hlt : k < 8
        · have hs8 := HS.out
          have hn8 := HN.out
          have gc := hR.out.cell (i := k) (by rw [sumRow_len _ _ hs8 hn8 _ hk]; omega)
          rw [sumRow_getD _ _ hs8 hn8 _ hlt] at gc
          have gf := hR.out.frozen k
          have hS := hR.out.set k ((st.getD k 0 + new.getD k 0) % 4294967296)
          rw [sumRow_set _ _ hs8 hn8 _ hlt] at hS
          have hb := hsw.getD k
          obtain ⟨y, hy⟩ : ∃ y, y = st.getD k 0 := ⟨_, rfl⟩
          rw [← hy] at gc hS hb
          obtain ⟨x, hx⟩ : ∃ x, x = new.getD k 0 := ⟨_, rfl⟩
          rw [← hx] at hS
          have hb' : 0 ≤ x ∧ x ≤ 4294967295 := by rw [hx, HNe.out]; exact hlw.getD k
          have HX := Lib.hid hx
          have hSh := Lib.hid hS
          obtain ⟨hb0, hb1⟩ := hb
          obtain ⟨hb2, hb3⟩ := hb'
          clear hs8 hn8 hS hx hy hR
          go_wp2_with (first
            | (refine wpList_index_arr rfl _ (.tmp 97) (.tmp 98) rfl .u32 new (by rw [HNe.out]; rfl) 8 _ Tryd.underlying101 Tryd.underlying44 one_u32 k rfl hlt HN ?_; rw [← HX.out])
            | fail)
          go_roundw
          case rel => exact ⟨k + 1, by omega, by go_num, hSh, hO.out.setCell _ _⟩
          case measure => simp [intOf]; omega
        · have hge2 : (8 : Int) ≤ (k : Int) := by omega
          have hF : Hid (Arr wr g2 .u32 101 (pressOf st xs)) := by
            have h0 := hR.out
            rw [show k = 8 by omega, sumRow_full _ _ HS.out HN.out, HNe.out] at h0
            have e : pressOf st xs = addS st [a, b, c, d, e, f, g, h] := by
              unfold pressOf
              rw [← HSC.out, ← HS0.out, ← hSt'.out]
              rfl
            rw [e]
            exact h0
          have A4f := Lib.hid (A48.out.only hO.out (by omega))
          have Bf : Hid (Below w.heap.size w wr) := B08.out.trans (hO.out.below lw2)
          have HP := Lib.hid (pressOf_len st xs HS.out)
          obtain ⟨p, hp⟩ : ∃ p, p = pressOf st xs := ⟨_, rfl⟩
          rw [← hp] at hF HP
          have HPe := Lib.hid hp
          clear hR hO hp
          go_wp2_with (first
            | ((with_reducible show wpList _ _ _ (⟨some 109, _, _, _, _, _⟩ :: _) _ _); refine wpList_load_arr rfl _ (.tmp 2) rfl g2 rfl .u32 _ p hF 8 _ Tryd.underlying101 size_s HP ?_)
            | ((with_reducible show wpList _ _ _ (⟨none, _, _, _, _, _⟩ :: _) _ _); refine wpList_store_arr rfl _ (.tmp 4) (.tmp 109) rfl g4 rfl .u32 _ _ p rfl A4f 8 size_s HY HP ?_; intro w9 A9 o9 s9)
            | fail)
          rw [← HPe.out]
          refine bodyPost_ret (v := .agg (p.map (Value.int .u32)).toArray) ?_ rfl ⟨rfl, Bf.out.trans (o9.out.below (by omega))⟩
          exact results_cell_row rfl _ _ g4 _ _ (0, 0) _ rfl A9.out Tryd.underlying101 rfl (by rw [size_s]; have := HP.out; simp [this])
end Go.Proofs.YtgfflnjggnadpaaDoor

namespace Go.Proofs.YtgfflnjggnadpaaDoor
set_option linter.all false
set_option maxRecDepth 100000
open Go.RowKit
/-- make([]byte, n), the length of whatever kind -/
theorem wpList_make_bytesK (w : World) {ops : Array Oper} {rest : List Oper} {o : Oper} {a : Act} {Q : Exit → Act → World → Prop}
    (hg : o.guard = none) (k : IntKind) (l c : Operand) (hop : o.op = Op.makeSlice 24 l c) (L C : Int) (n : Nat) (hl : a.eval l = .int k L) (hc : a.eval c = .int k C) (hL : L = (n : Int)) (hC : C = (n : Int)) (hn : n ≤ 281474976710656)
    (hK : ∀ w', Hid (Row w' w.heap.size (List.replicate n 0)) → Below w.heap.size w w' → wpList Tryd.prog ops Q rest (a.put o.dst (.slice (some ⟨w.heap.size, 0, none⟩) n n)) w') :
    wpList Tryd.prog ops Q (o :: rest) a w := by
  obtain ⟨i0, hi, hz0, hz1, hz2⟩ := info_parts info_u8
  refine wpList_make_full w hg l c 24 hop w.heap.size 5 i0 (.int .u8 0) 1 Tryd.underlying24 hi hz0 hz1 k k L C n hl hc hL hC (by rw [hz2]; omega) (by unfold maxLen; omega) (Nat.le_refl _) ?_
  intro w' hown hgr
  refine hK w' ?_ ((Below.refl _ _).grown hgr (Nat.le_refl _) (fun k hk => by cases hk))
  rcases hown.2 with ⟨h0, _⟩ | ⟨g, cap, cur, hv, _, hh, _, _, hcs, htk⟩
  · cases h0
  · simp only [Value.slice.injEq, Option.some.injEq, Addr.mk.injEq, and_true, true_and] at hv
    obtain ⟨rfl, rfl⟩ := hv
    show w'.heap[_]? = _
    rw [hh]
    have e : cur.toList = List.replicate n (.int .u8 0) := by
      have h1 : cur.toList.take (n * 1) = cur.toList := List.take_of_length_le (by simp [hcs])
      rw [← h1, htk]
      rw [Nat.mul_one]
      exact toList_madeCells_one (.int .u8 0) n
    rw [List.map_replicate, ← e]
/-- so many noughts -/
def noughts (n : Int) : Nat := ((55 - n) % 64).toNat
/-- eight bytes of a number, the highest first -/
def be8 (m : Int) : List Int := (List.range 8).map fun i => m / 2 ^ (8 * (7 - i)) % 256
/-- what stands behind n bytes -/
def behindOf (n : Int) : List Int := if n < 1152921504606846976 then 128 :: (List.replicate (noughts n) 0 ++ be8 (8 * n)) else []
theorem noughts_lt (n : Int) : noughts n < 64 := by unfold noughts; omega
theorem be8_len (m : Int) : (be8 m).length = 8 := by simp [be8]
theorem be8_bytes (m : Int) : Bytes (be8 m) := fun x hx => by
  obtain ⟨j, _, rfl⟩ := List.mem_map.1 hx
  omega
theorem behindOf_bytes (n : Int) : Bytes (behindOf n) := by
  unfold behindOf
  split
  · intro x hx
    rcases List.mem_cons.1 hx with rfl | hx
    · omega
    · exact (Bytes.zeros _).append (be8_bytes _) x hx
  · exact Bytes.nil
theorem behindOf_len (n : Int) (h : n < 1152921504606846976) : (behindOf n).length = 9 + noughts n := by
  unfold behindOf
  rw [if_pos h]
  simp [be8_len]; omega
theorem behindOf_none (n : Int) (h : ¬ n < 1152921504606846976) : behindOf n = [] := by
  unfold behindOf
  rw [if_neg h]
/-- the row that Behind fills, behind i of the last eight bytes -/
def behRow (n : Int) (i : Nat) : List Int := 128 :: (List.replicate (noughts n) 0 ++ ((be8 (8 * n)).take i ++ List.replicate (8 - i) 0))
theorem behRow_len (n : Int) (i : Nat) (hi : i ≤ 8) : (behRow n i).length = 9 + noughts n := by simp [behRow, be8_len]; omega
theorem behRow_zero (n : Int) : (List.replicate (9 + noughts n) (0 : Int)).set 0 128 = behRow n 0 := by
  unfold behRow
  rw [show 9 + noughts n = (noughts n + 8) + 1 by omega, List.replicate_succ, List.set_cons_zero, ← List.replicate_append_replicate]
  rfl
theorem behRow_full (n : Int) (h : n < 1152921504606846976) : behRow n 8 = behindOf n := by
  unfold behRow behindOf
  rw [if_pos h, List.take_of_length_le (by rw [be8_len]; exact Nat.le_refl _)]
  simp
theorem behRow_set (n : Int) (i : Nat) (hi : i < 8) (x : Int) (hx : x = 8 * n / 2 ^ (8 * (7 - i)) % 256) : (behRow n i).set (1 + noughts n + i) x = behRow n (i + 1) := by
  have hl : ((be8 (8 * n)).take i).length = i := by simp [be8_len]; omega
  have hil : i < (be8 (8 * n)).length := by rw [be8_len]; exact hi
  unfold behRow
  rw [show 1 + noughts n + i = (noughts n + i) + 1 by omega, List.set_cons_succ, List.set_append_right _ _ (by simp), List.length_replicate, Nat.add_sub_cancel_left, fill_set _ _ _ _ hl (by omega), List.take_succ_eq_append_getElem hil,
    show 8 - i - 1 = 8 - (i + 1) by omega]
  have e : (be8 (8 * n))[i] = x := by rw [hx]; simp [be8]
  rw [e]
/-- what Behind answers -/
def BehPost (w : World) (n : Int) (e : Ending) (w' : World) : Prop :=
  ∃ A', e = .returned (.slice A' (behindOf n).length (behindOf n).length) ∧ Fresh w' w.heap.size A' (behindOf n) ∧ Below w.heap.size w w'
set_option maxHeartbeats 1000000 in
theorem Behind_any (w : World) (n : Int) (hn : 0 ≤ n ∧ n ≤ 18446744073709551615) :
    Calls Tryd.prog 93 #[.int .u64 n] w (BehPost w n) := by
  obtain ⟨hn0, hn1⟩ := hn
  by_cases hlt : n < 1152921504606846976
  · have hq : ∀ e w', (∃ A', e = .returned (.slice A' (9 + noughts n) (9 + noughts n)) ∧ Fresh w' w.heap.size A' (behindOf n) ∧ Below w.heap.size w w') → BehPost w n e w' := by
      intro e w' hh
      unfold BehPost
      rw [behindOf_len n hlt]
      exact hh
    have HQ := Lib.hid hq
    have hz := noughts_lt n
    have hnz : (IntKind.u64.wrap (55 - n)).tmod 64 = ((noughts n : Nat) : Int) := by
      rw [IntKind.wrap_u64, Int.tmod_eq_emod_of_nonneg (by omega)]
      unfold noughts
      omega
    obtain ⟨z, hze⟩ : ∃ z, z = noughts n := ⟨_, rfl⟩
    rw [← hze] at hz hnz
    have HZ := Lib.hid hze
    clear hq hze
    go_enter Tryd.func93, Tryd.ntmps93
    have hx0 : (List.replicate (9 + z) (0 : Int)).getD 0 0 = 0 := by rw [show 9 + z = (8 + z) + 1 by omega, List.replicate_succ]; rfl
    have HX0 := Lib.hid hx0
    clear hx0
    go_wp2_with (at_make; refine wpList_make_bytesK _ rfl .u64 (.tmp 15) (.tmp 15) rfl _ _ (9 + z) rfl rfl (by omega) (by omega) (by omega) ?_; intro w1 hrow hb1; have hc0 := hrow.out.cell (i := 0) (by rw [List.length_replicate]; omega); rw [HX0.out] at hc0; have hf0 := hrow.out.frozen 0)
    have hS0 : Hid (Row (w1.setCell ⟨w.heap.size, 0, none⟩ (.int .u8 128)) w.heap.size (behRow n 0)) := by
      have h0 := hrow.out.set 0 128
      rw [HZ.out, behRow_zero] at h0
      exact h0
    rw [show 9 + z - (1 + z) = 8 by omega]
    have hlen8 : Hid (∀ i, i ≤ 8 → (behRow n i).length = 9 + z) := fun i hi => by rw [behRow_len n i hi, HZ.out]
    go_loopw [27, 7] (fun i _ wr => ∃ k : Nat, k ≤ 8 ∧ i = .int .i64 k ∧ Hid (Row wr w.heap.size (behRow n k)) ∧ Below w.heap.size w wr) (fun i _ _ => 8 - (intOf i).toNat)
    case atStart => exact ⟨0, by omega, rfl, hS0, hb1.setCell (Nat.le_refl _) _⟩
    case round =>
      obtain ⟨k, hk, rfl, hR, hb⟩ := hrel
      by_cases hlt2 : k < 8
      · have hc := hR.out.cell (i := 1 + z + k) (by rw [hlen8.out k hk]; omega)
        have hf := hR.out.frozen (1 + z + k)
        obtain ⟨old, hold⟩ : ∃ old, old = (behRow n k).getD (1 + z + k) 0 := ⟨_, rfl⟩
        rw [← hold] at hc
        have e := behRow_set n k hlt2 (8 * n / 2 ^ (8 * (7 - k)) % 256) rfl
        have hS : Hid (Row (wr.setCell ⟨w.heap.size, 1 + z + k, none⟩ (.int .u8 (8 * n / 2 ^ (8 * (7 - k)) % 256))) w.heap.size (behRow n (k + 1))) := by
          rw [← e, HZ.out]
          exact hR.out.set _ _
        have en : (8 * (7 - (k : Int))).toNat = 8 * (7 - k) := by omega
        clear e hold hR hc0 hf0
        go_wp2_with fail
        go_roundw
        case rel => exact ⟨k + 1, by omega, by go_num, hS, hb.setCell (Nat.le_refl _) _⟩
        case measure => simp [intOf]; omega
      · have hS : Hid (Row wr w.heap.size (behindOf n)) := by
          have h0 := hR.out
          rw [show k = 8 by omega, behRow_full n hlt] at h0
          exact h0
        have hge : (8 : Int) ≤ (k : Int) := by omega
        clear hR hc0 hf0
        go_wp2_with fail
        go_ret
        exact HQ.out _ _ ⟨_, by rw [HZ.out]; rfl, .inr ⟨_, rfl, Nat.le_refl _, hS⟩, hb⟩
  · have hq : ∀ e w', (∃ A', e = .returned (.slice A' 0 0) ∧ Fresh w' w.heap.size A' [] ∧ Below w.heap.size w w') → BehPost w n e w' := by
      intro e w' hh
      unfold BehPost
      rw [behindOf_none n hlt]
      exact hh
    have HQ := Lib.hid hq
    have hge : 1152921504606846976 ≤ n := by omega
    clear hq hlt
    go_enter Tryd.func93, Tryd.ntmps93
    go_wp2_with fail
    go_ret
    exact HQ.out _ _ ⟨_, rfl, .inl ⟨rfl, rfl⟩, Below.refl _ _⟩
end Go.Proofs.YtgfflnjggnadpaaDoor

namespace Go.Proofs.YtgfflnjggnadpaaDoor
set_option linter.all false
set_option maxRecDepth 100000
open Go.RowKit
theorem zeroCells_size (k : IntKind) (n : Nat) : (Builtin.zeroCells (Value.int k 0).cells n).size = n := by simp [Builtin.zeroCells, Value.cells]
set_option maxHeartbeats 1000000 in
theorem Grow_any (w : World) (n : Nat) (h0 : 0 < n) (h1 : n ≤ 281474976710656) :
    Calls Tryd.prog 53 #[.slice none 0 0, .int .i64 n] w fun e w' => ∃ v, e = .returned v ∧ Own w' w.heap.size v [] ∧ Below w.heap.size w w' := by
  obtain ⟨i0, hi, hz0, hz1, hz2⟩ := info_parts info_u8
  have hrun := fun ty => Lib.run_append_nil_zeros (P := Tryd.prog) w 24 3 ty 5 i0 (.int .u8 0) .i64 .i64 Tryd.underlying24 Tryd.underlying3 hi hz0 n h0 (by omega) (by omega) (by rw [hz2]; omega)
  have hge := grownCap_ge w n 0 5
  have hle := grownCap_le_maxLen w n 0 5 (by rw [show maxLen = 9223372036854775807 from rfl]; omega)
  obtain ⟨c, hc⟩ : ∃ c, c = grownCap w n 0 5 := ⟨_, rfl⟩
  rw [← hc] at hrun hge hle
  have hown : Own (w.drew.alloc (.cells (Builtin.zeroCells (Value.int .u8 0).cells n ++ Builtin.zeroCells (Value.int .u8 0).cells (c - n)) 5)) w.heap.size (.slice (some ⟨w.heap.size, 0, none⟩) 0 c) [] :=
    ⟨by simp, .inr ⟨w.heap.size, c, _, rfl, Nat.le_refl _, heap_alloc_new w.drew _, Nat.zero_le _, hle, by rw [Array.size_append, zeroCells_size, zeroCells_size]; omega, by simp⟩⟩
  have hbel : Below w.heap.size w (w.drew.alloc (.cells (Builtin.zeroCells (Value.int .u8 0).cells n ++ Builtin.zeroCells (Value.int .u8 0).cells (c - n)) 5)) := ((Below.refl _ w).drew).alloc (Nat.le_refl _) _
  obtain ⟨w1, hw1⟩ : ∃ w1, w1 = (w.drew.alloc (.cells (Builtin.zeroCells (Value.int .u8 0).cells n ++ Builtin.zeroCells (Value.int .u8 0).cells (c - n)) 5)) := ⟨_, rfl⟩
  rw [← hw1] at hown hbel hrun
  have HR := Lib.hid hrun
  have HO := Lib.hid hown
  have hcn : (n : Int) ≤ (c : Int) := by omega
  have hc63 : c ≤ 9223372036854775807 := hle
  clear hrun hown hc hw1 hi hz0 hz1 hz2 hge hle
  go_enter Tryd.func53, Tryd.ntmps53
  go_wp2_with (first
    | (at_builtin; refine Lib.wpList_append_run _ rfl (.tmp 20) (.tmp 21) 24 3 rfl (.slice none 0 0) (.int .i64 n) rfl rfl _ w1 (HR.out _) ?_)
    | fail)
  go_ret
  exact ⟨_, rfl, HO.out, hbel⟩
set_option maxHeartbeats 2000000 in
theorem Concat_any (w : World) (gs : Nat) (A1 A2 : Option Addr) (n1 c1 n2 c2 : Nat) (xs ys : List Int) (hg : gs < w.heap.size) (k0 : w.cell? ⟨gs, 0, none⟩ = some (.slice A1 n1 c1)) (k1 : w.cell? ⟨gs, 1, none⟩ = some (.slice A2 n2 c2))
    (h1 : Holds w w.heap.size A1 n1 c1 xs) (h2 : Holds w w.heap.size A2 n2 c2 ys) (hn : 0 < n1 + n2) (hb : n1 + n2 ≤ 140737488355328) :
    Calls Tryd.prog 39 #[.slice (some ⟨gs, 0, none⟩) 2 2] w fun e w' => ∃ v, e = .returned v ∧ Own w' w.heap.size v (xs ++ ys) ∧ Below w.heap.size w w' := by
  have hl1 := Lib.hid h1.len
  have hl2 := Lib.hid h2.len
  have cg := fun w => Lib.hid (Grow_any w (n1 + n2) hn (by omega))
  have hb1 : n1 ≤ 140737488355328 := by omega
  have hb2 : n2 ≤ 140737488355328 := by omega
  obtain ⟨S, hS⟩ : ∃ S : Nat → Nat, S = fun k => if k = 0 then 0 else if k = 1 then n1 else n1 + n2 := ⟨_, rfl⟩
  have S0 : S 0 = 0 := by rw [hS]; rfl
  have S1 : S 1 = n1 := by rw [hS]; rfl
  have S2 : S 2 = n1 + n2 := by rw [hS]; rfl
  obtain ⟨C, hC⟩ : ∃ C : Nat → List Int, C = fun k => if k = 0 then [] else if k = 1 then xs else xs ++ ys := ⟨_, rfl⟩
  have C0 : C 0 = [] := by rw [hC]; rfl
  have C1 : C 1 = xs := by rw [hC]; rfl
  have C2 : C 2 = xs ++ ys := by rw [hC]; rfl
  have HC0 := Lib.hid C0
  have HC1 := Lib.hid C1
  have HC2 := Lib.hid C2
  clear hC C0 C1 C2
  have HS0 := Lib.hid S0
  have HS1 := Lib.hid S1
  have HS2 := Lib.hid S2
  clear hS S0 S1 S2
  go_enter Tryd.func39, Tryd.ntmps39
  go_wp2_with fail
  go_loop [3, 11] (fun sz i => ∃ k : Nat, k ≤ 2 ∧ i = .int .i64 k ∧ sz = .int .i64 (S k : Nat)) (fun _ i => 2 - (intOf i).toNat)
  case atStart => exact ⟨0, by omega, rfl, by rw [HS0.out]; rfl⟩
  case round =>
    obtain ⟨k, hk, rfl, rfl⟩ := hrel
    have hk3 : k = 0 ∨ k = 1 ∨ k = 2 := by omega
    rcases hk3 with rfl | rfl | rfl
    · rw [HS0.out]
      go_wp2_with fail
      go_round
      case rel => exact ⟨1, by omega, rfl, by rw [HS1.out]⟩
      case measure => simp [intOf]
    · rw [HS1.out]
      go_wp2_with fail
      go_round
      case rel => exact ⟨2, by omega, rfl, by rw [HS2.out]; rfl⟩
      case measure => simp [intOf]
    · rw [HS2.out]
      go_wp2_with fail
      refine (cg _).out.mono ?_
      rintro e w1 ⟨v1, rfl, ho1, hbel1⟩
      have HO1 := Lib.hid ho1
      have k0' : w1.cell? ⟨gs, 0, none⟩ = some (.slice A1 n1 c1) := by rw [← k0]; exact hbel1.cell (p := ⟨gs, 0, none⟩) hg
      have k1' : w1.cell? ⟨gs, 1, none⟩ = some (.slice A2 n2 c2) := by rw [← k1]; exact hbel1.cell (p := ⟨gs, 1, none⟩) hg
      clear ho1
      go_wp2_with fail
      have hbs1 := hbel1.size
      go_loopw [6, 27] (fun v i wr => ∃ k : Nat, k ≤ 2 ∧ i = .int .i64 k ∧ Hid (Own wr w.heap.size v (C k)) ∧ Below w.heap.size w wr) (fun _ i _ => 2 - (intOf i).toNat)
      case atStart => exact ⟨0, by omega, rfl, by rw [HC0.out]; exact HO1, hbel1⟩
      case round =>
        obtain ⟨k, hk, rfl, hO, hbl⟩ := hrel
        have q0 : wr.cell? ⟨gs, 0, none⟩ = some (.slice A1 n1 c1) := by rw [← k0]; exact hbl.cell (p := ⟨gs, 0, none⟩) hg
        have q1 : wr.cell? ⟨gs, 1, none⟩ = some (.slice A2 n2 c2) := by rw [← k1]; exact hbl.cell (p := ⟨gs, 1, none⟩) hg
        have hsz := Lib.hid hbl.size
        have hk3 : k = 0 ∨ k = 1 ∨ k = 2 := by omega
        rcases hk3 with rfl | rfl | rfl
        · rw [HC0.out] at hO
          go_wp2_with (first
            | (at_builtin; refine wpList_append_bytes rfl (.tmp 31) (.tmp 32) rfl w.heap.size _ _ rfl hO.out w.heap.size A1 n1 c1 xs rfl (h1.below hbl) (by rw [hl1.out]; simp; omega) hsz.out ?_; intro v2 w2 ho2 hb2 _)
            | fail)
          go_roundw
          case rel => exact ⟨1, by omega, rfl, by rw [HC1.out]; exact ho2, hbl.trans hb2⟩
          case measure => simp [intOf]
        · rw [HC1.out] at hO
          go_wp2_with (first
            | (at_builtin; refine wpList_append_bytes rfl (.tmp 31) (.tmp 32) rfl w.heap.size _ _ rfl hO.out w.heap.size A2 n2 c2 ys rfl (h2.below hbl) (by rw [hl1.out, hl2.out]; omega) hsz.out ?_; intro v2 w2 ho2 hb2 _)
            | fail)
          go_roundw
          case rel => exact ⟨2, by omega, rfl, by rw [HC2.out]; exact ho2, hbl.trans hb2⟩
          case measure => simp [intOf]
        · rw [HC2.out] at hO
          go_wp2_with fail
          go_ret
          exact ⟨_, rfl, hO.out, hbl⟩
end Go.Proofs.YtgfflnjggnadpaaDoor

namespace Go.Proofs.YtgfflnjggnadpaaDoor
set_option linter.all false
set_option maxRecDepth 100000
open Go.RowKit
/-- the state behind m blocks -/
def blocksS (st xs : List Int) : Nat → List Int
  | 0 => st
  | m + 1 => pressOf (blocksS st xs m) ((xs.drop (64 * m)).take 64)
theorem blocksS_len {st : List Int} (h : st.length = 8) (xs : List Int) (m : Nat) : (blocksS st xs m).length = 8 := by
  induction m with
  | zero => exact h
  | succ m ih => exact pressOf_len _ _ ih
theorem blocksS_w {st : List Int} (h : W32 st) (xs : List Int) (m : Nat) : W32 (blocksS st xs m) := by
  cases m with
  | zero => exact h
  | succ m => exact pressOf_w _ _
/-- what stands behind is not seen -/
theorem blocksS_append (st xs ys : List Int) (m : Nat) (h : 64 * m ≤ xs.length) : blocksS st (xs ++ ys) m = blocksS st xs m := by
  induction m with
  | zero => rfl
  | succ m ih =>
    simp only [blocksS]
    rw [ih (by omega), List.drop_append_of_le_length (by omega), List.take_append_of_le_length (by rw [List.length_drop]; omega)]
/-- the blocks behind others -/
theorem blocksS_behind (st xs ys : List Int) (m k : Nat) (h : xs.length = 64 * m) : blocksS (blocksS st xs m) ys k = blocksS st (xs ++ ys) (m + k) := by
  induction k with
  | zero => rw [Nat.add_zero, blocksS_append _ _ _ _ (by omega)]; rfl
  | succ k ih =>
    simp only [blocksS, Nat.add_eq]
    rw [ih, show 64 * (m + k) = xs.length + 64 * k by omega, List.drop_append, List.drop_of_length_le (l := xs) (by omega), List.nil_append, show xs.length + 64 * k - xs.length = 64 * k by omega]
/-- copy(array[:], b[at:]) that fills the array -/
theorem wpList_copy_arr {w : World} {ops : Array Oper} {rest : List Oper} {o : Oper} {a : Act} {Q : Exit → Act → World → Prop} (hgd : o.guard = none) (d s : Operand)
    (ho : o.op = .call { callee := .builtin .copy, args := #[d, s], argTypes := #[24, 24] })
    (g m : Nat) (T : TypeId) (b off n c : Nat) (hd : a.eval d = .slice (some ⟨g, 0, none⟩) m m) (hs : a.eval s = .slice (some ⟨b, off, none⟩) n c)
    (cur ys : List Int) (hrow : Hid (Arr w g .u8 T cur)) (hl : Hid (cur.length = m)) (hy : Hid (ys.length = m)) (hn : m ≤ n) (hc : Hid (∀ i, i < m → w.cell? ⟨b, off + i, none⟩ = some (.int .u8 (ys.getD i 0))))
    (h : ∀ w', Hid (Arr w' g .u8 T ys) → Hid (Below g w w') → wpList Tryd.prog ops Q rest (a.put o.dst (goInt m)) w') :
    wpList Tryd.prog ops Q (o :: rest) a w := by
  have hl' := hl.out
  have hy' := hy.out
  obtain ⟨i0, hi, hz0, hz1, hz2⟩ := info_parts info_u8
  refine wpList_copy_splice hgd d s 24 24 ho 5 Tryd.underlying24 (by rw [hi]; simp [hz1]) (some ⟨g, 0, none⟩) (some ⟨b, off, none⟩) m m n c hd hs g 0 (cur.map (Value.int .u8)) T hrow.out (ys.map (Value.int .u8)) (by rw [List.length_map, hy']; exact (Nat.min_eq_right hn).symm) ?_ (by simp; omega)
    (by intro v hv; obtain ⟨x, _, rfl⟩ := List.mem_map.1 hv; rfl) g w (Below.refl _ _) (Nat.le_refl _) ?_
  · intro h0
    refine ⟨rfl, ⟨b, off, none⟩, rfl, fun j v hj => ?_⟩
    have hjl : j < ys.length := by
      by_cases hj' : j < ys.length
      · exact hj'
      · rw [List.getElem?_eq_none (by simp; omega)] at hj
        cases hj
    have e : (⟨b, off, none⟩ : Addr).add j = ⟨b, off + j, none⟩ := by
      by_cases hj0 : j = 0
      · subst hj0; simp [Addr.add]
      · simp [Addr.add, hj0]
    rw [e, hc.out j (by omega), ← hj]
    simp [hjl]
  · intro w' hr hb
    have e : (splice (cur.map (Value.int .u8)) 0 (ys.map (Value.int .u8))) = ys.map (Value.int .u8) := by
      simp [splice, hl', hy']
    have hr' := hr.out
    rw [e] at hr'
    rw [List.length_map, hy'] at *
    exact h w' hr' hb
set_option maxRecDepth 100000 in
set_option maxHeartbeats 2000000 in
theorem pressAll_any (w : World) (st xs : List Int) (hs : st.length = 8) (hsw : W32 st) (A : Option Addr) (n c q : Nat) (hq : n = 64 * q) (hn : n ≤ 140737488355328) (h : Holds w w.heap.size A n c xs) (hK : KTab w) :
    Calls Tryd.prog 91 #[.agg (st.map (Value.int .u32)).toArray, .slice A n c] w
      fun e w' => e = .returned (.agg ((blocksS st xs q).map (Value.int .u32)).toArray) ∧ Below w.heap.size w w' := by
  have HL := Lib.hid h.len
  have hfit := h.fit
  have hby := h.byte
  have HS := Lib.hid hs
  have HQ := Lib.hid hq
  obtain ⟨Z, hZ⟩ : ∃ Z : List Int, Z = List.replicate 64 0 := ⟨_, rfl⟩
  have HZ := len0 64
  have hz2 : Tryd.prog.built 91 [] = some ((List.replicate 64 (0 : Int)).map (Value.int .u8)).toArray := by kernel_rfl
  have hz1 : (Tryd.prog.info? 91).map (fun i => (i.zero, i.size)) = some (some (.agg ((List.replicate 64 (0 : Int)).map (Value.int .u8)).toArray), 64) := by kernel_rfl
  rw [← hZ] at HZ hz1 hz2
  obtain ⟨Y, hY⟩ : ∃ Z : List Int, Z = List.replicate 8 0 := ⟨_, rfl⟩
  have HY := len0 8
  have hy1 := zero_s
  rw [← hY] at HY hy1
  have HZ1 := Lib.hid hz1
  have HZ2 := Lib.hid hz2
  have HY1 := Lib.hid hy1
  have HK := Lib.hid hK
  have cp := fun w s b h1 h2 h3 h4 h5 => Lib.hid (Press_any w s b h1 h2 h3 h4 h5)
  clear hs hZ hz1 hz2 hY hy1 hK hq
  go_enter Tryd.func91, Tryd.ntmps91
  go_wp2_with (first
    | ((with_reducible show wpList _ _ _ (⟨some 2, _, _, _, _, _⟩ :: _) _ _); refine wpList_box_arr rfl _ (.tmp 0) rfl .u32 st rfl ?_; intro g2 w2 e2 s2 A2 b2)
    | ((with_reducible show wpList _ _ _ (⟨some 4, _, _, _, _, _⟩ :: _) _ _); refine wpList_alloc_arr rfl _ rfl .u32 Y 8 HY1 ?_; intro g4 w4 e4 s4 A4 b4)
    | fail)
  have B4 : Hid (Below w.heap.size w w4) := step b2.out b4.out
  have A24 := Lib.hid (A2.out.over b4.out)
  have HK4 := Lib.hid ((HK.out.below b2.out).below b4.out)
  have lw2 : w.heap.size ≤ g2 := e2
  have l24 : g2 < g4 := by omega
  clear b2 b4 A2
  go_loopw [5] (fun i wr => ∃ m : Nat, m ≤ q ∧ i = .int .i64 ((64 * m : Nat) : Int) ∧ Hid (Arr wr g2 .u32 101 (blocksS st xs m)) ∧ Hid (Arr wr g4 .u32 101 Y) ∧ Hid (Below w.heap.size w wr)) (fun i _ => n - (intOf i).toNat)
  case atStart => exact ⟨0, by omega, rfl, A24, A4, B4⟩
  case round =>
    obtain ⟨m, hm, rfl, hR, hR4, hB⟩ := hrel
    by_cases hlt : m < q
    · have hlt' : 64 * m + 64 ≤ n := by have := HQ.out; omega
      obtain ⟨b, off, rfl, hb, hc⟩ := h.cells (by omega)
      have hbl : Hid (b < w.heap.size) := hb
      have hwr := hB.out.size
      have hc1 : Hid (∀ i, i < 64 → wr.cell? ⟨b, off + 64 * m + i, none⟩ = some (.int .u8 (((xs.drop (64 * m)).take 64).getD i 0))) := fun i hi => by
        have e : ((xs.drop (64 * m)).take 64).getD i 0 = xs.getD (64 * m + i) 0 := by
          simp [List.getD_eq_getElem?_getD, List.getElem?_drop, hi]
        rw [e, Nat.add_assoc, ← hc (64 * m + i) (by omega)]
        exact hB.out.cell (p := ⟨b, off + (64 * m + i), none⟩) hb
      have hlb : Hid (((xs.drop (64 * m)).take 64).length = 64) := by
        show _ = _
        have := HL.out
        rw [List.length_take, List.length_drop]
        omega
      have hbb := (hby.drop (64 * m)).take 64
      obtain ⟨bl, hble⟩ : ∃ bl, bl = (xs.drop (64 * m)).take 64 := ⟨_, rfl⟩
      rw [← hble] at hc1 hlb hbb
      have HBL := Lib.hid hble
      clear hc hb hble
      go_wp2_with (first
        | (refine wpList_build_zero rfl _ rfl .u8 Z HZ2 ?_)
        | ((with_reducible show wpList _ _ _ (⟨some 6, _, _, _, _, _⟩ :: _) _ _); refine wpList_alloc_arr rfl _ rfl .u8 Z 64 HZ1 ?_; intro g6 w6 e6 s6 A6 b6)
        | ((with_reducible show wpList _ _ _ (⟨none, _, _, _, _, _⟩ :: _) _ _); refine wpList_store_arr rfl _ (.tmp 6) (.tmp 13) rfl g6 rfl .u8 _ _ Z rfl A6 64 size_b HZ HZ ?_; intro w7 A7 o7 s7)
        | fail)
      obtain ⟨k, hk⟩ : ∃ k, k = 64 * m := ⟨_, rfl⟩
      rw [← hk] at hlt' hc1 ⊢
      have HKm := Lib.hid hk
      clear hk
      have hk1 : (k : Int) ≤ (n : Int) := by omega
      have hk2 : (0 : Int) ≤ (k : Int) := by omega
      have hk3 : k < c := by omega
      have hk4 : (k : Int) ≤ (c : Int) := by omega
      go_still_tail 4, (by kernel_rfl)
      change wpList _ _ _ _ _ w7.drew
      rw [if_neg (show ¬ c = k by omega)]
      have l26 : g2 < g6 := by have := hR.out.lt; omega
      have l46 : g4 < g6 := by have := hR4.out.lt; omega
      have hwg : w.heap.size ≤ g6 := by omega
      have hc7 : Hid (∀ i, i < 64 → w7.drew.cell? ⟨b, off + k + i, none⟩ = some (.int .u8 (bl.getD i 0))) := fun i hi => by
        have hb := hbl.out
        rw [← hc1.out i hi]
        have h1 : w7.cell? ⟨b, off + k + i, none⟩ = w6.cell? ⟨b, off + k + i, none⟩ := (o7.out.below (B := g6) (Nat.le_refl _)).cell (p := ⟨b, off + k + i, none⟩) (show b < g6 by omega)
        exact h1.trans (b6.out.cell (p := ⟨b, off + k + i, none⟩) (show b < wr.heap.size by omega))
      refine wpList_copy_arr rfl (.tmp 14) (.tmp 17) rfl g6 64 91 b (off + k) (n - k) (c - k) rfl rfl Z bl A7.out.drew HZ hlb (by omega) hc7 ?_
      intro w8 A8 b8
      have R8 : Hid (Arr w8 g2 .u32 101 (blocksS st xs m)) := (((hR.out.over b6.out).only o7.out (by omega)).drew).below b8.out l26
      have R84 : Hid (Arr w8 g4 .u32 101 Y) := (((hR4.out.over b6.out).only o7.out (by omega)).drew).below b8.out l46
      have B8 : Hid (Below w.heap.size w w8) := ((hB.out.trans (b6.out.mono (by omega))).trans (o7.out.below hwg)).drew.trans (b8.out.mono hwg)
      have HK8 : Hid (KTab w8) := HK.out.below B8.out
      have hsl := Lib.hid (blocksS_len HS.out xs m)
      have hsw' := blocksS_w hsw xs m
      have hstep : pressOf (blocksS st xs m) bl = blocksS st xs (m + 1) := by rw [HBL.out]; rfl
      have hslN := Lib.hid (blocksS_len HS.out xs (m + 1))
      obtain ⟨s1, hs1⟩ : ∃ s1, s1 = blocksS st xs m := ⟨_, rfl⟩
      obtain ⟨s2', hs2⟩ : ∃ s2, s2 = blocksS st xs (m + 1) := ⟨_, rfl⟩
      rw [← hs1] at R8 hsl hsw' hstep
      rw [← hs2] at hstep hslN
      have cp1 := cp w8 s1 bl hsl.out hsw' hlb.out hbb HK8.out
      rw [hstep] at cp1
      have HS2 := Lib.hid hs2
      clear hs1 hs2 hstep hR hR4 hB b6 o7 b8 A6 A7 hc1 hc7 s7 s6 e6 hk1 hk2 hk4
      go_wp2_with (first
        | ((with_reducible show wpList _ _ _ (⟨some 19, _, _, _, _, _⟩ :: _) _ _); refine wpList_load_arr rfl _ (.tmp 2) rfl g2 rfl .u32 _ s1 R8 8 _ Tryd.underlying101 size_s hsl ?_)
        | ((with_reducible show wpList _ _ _ (⟨some 20, _, _, _, _, _⟩ :: _) _ _); refine wpList_load_arr rfl _ (.tmp 6) rfl g6 rfl .u8 _ bl A8 64 _ Tryd.underlying91 size_b hlb ?_)
        | fail)
      refine cp1.out.mono ?_
      rintro e w9 ⟨rfl, b9⟩
      have R9 : Hid (Arr w9 g2 .u32 101 s1) := R8.out.over b9
      have R94 : Hid (Arr w9 g4 .u32 101 Y) := R84.out.over b9
      have B9 : Hid (Below w.heap.size w w9) := step B8.out b9
      clear b9 R8 R84 B8 HK8 cp1
      go_wp2_with (first
        | ((with_reducible show wpList _ _ _ (⟨none, _, _, _, _, _⟩ :: _) _ _); refine wpList_store_arr rfl _ (.tmp 2) (.tmp 21) rfl g2 rfl .u32 _ _ s2' rfl R9 8 size_s hsl hslN ?_; intro w10 A10 o10 s10)
        | fail)
      go_roundw
      case rel => exact ⟨m + 1, by omega, by rw [show 64 * (m + 1) = k + 64 by have := HKm.out; omega]; go_num, by rw [← HS2.out]; exact A10, R94.out.only o10.out (by omega), B9.out.trans (o10.out.below lw2)⟩
      case measure => have := HKm.out; simp [intOf]; omega
    · have hge : (n : Int) ≤ ((64 * m : Nat) : Int) := by have := HQ.out; omega
      have hF : Hid (Arr wr g2 .u32 101 (blocksS st xs q)) := by
        have h0 := hR.out
        rwa [show m = q by omega] at h0
      have hsl := Lib.hid (blocksS_len HS.out xs q)
      obtain ⟨s1, hs1⟩ : ∃ s1, s1 = blocksS st xs q := ⟨_, rfl⟩
      rw [← hs1] at hF hsl
      have HS1 := Lib.hid hs1
      obtain ⟨k, hk⟩ : ∃ k, k = 64 * m := ⟨_, rfl⟩
      rw [← hk] at hge ⊢
      clear hR hs1 hk
      go_wp2_with (first
        | ((with_reducible show wpList _ _ _ (⟨some 22, _, _, _, _, _⟩ :: _) _ _); refine wpList_load_arr rfl _ (.tmp 2) rfl g2 rfl .u32 _ s1 hF 8 _ Tryd.underlying101 size_s hsl ?_)
        | ((with_reducible show wpList _ _ _ (⟨none, _, _, _, _, _⟩ :: _) _ _); refine wpList_store_arr rfl _ (.tmp 4) (.tmp 22) rfl g4 rfl .u32 _ _ s1 rfl hR4 8 size_s HY hsl ?_; intro w9 A9 o9 s9)
        | fail)
      rw [← HS1.out]
      refine bodyPost_ret (v := .agg (s1.map (Value.int .u32)).toArray) ?_ rfl ⟨rfl, hB.out.trans (o9.out.below (by omega))⟩
      exact results_cell_row rfl _ _ g4 _ _ (0, 0) _ rfl A9.out Tryd.underlying101 rfl (by rw [size_s]; have := hsl.out; simp [this])
end Go.Proofs.YtgfflnjggnadpaaDoor

namespace Go.Proofs.YtgfflnjggnadpaaDoor
set_option linter.all false
set_option maxRecDepth 100000
open Go.RowKit
theorem size_o : (Tryd.prog.info? 79).map (·.size) = some 32 := by kernel_rfl
/-- the first state -/
def H0 : List Int := [1779033703, 3144134277, 1013904242, 2773480762, 1359893119, 2600822924, 528734635, 1541459225]
theorem H0_len : H0.length = 8 := rfl
theorem H0_w : W32 H0 := W32.of_all (by decide)
set_option maxHeartbeats 1000000 in
theorem Begin_any (w : World) : Calls Tryd.prog 92 #[] w fun e w' => e = .returned (.agg (H0.map (Value.int .u32)).toArray) ∧ Below w.heap.size w w' := by
  obtain ⟨Y, hY⟩ : ∃ Z : List Int, Z = List.replicate 8 0 := ⟨_, rfl⟩
  have HY := len0 8
  have hy1 := zero_s
  rw [← hY] at HY hy1
  have HY1 := Lib.hid hy1
  clear hy1 hY
  go_enter Tryd.func92, Tryd.ntmps92
  go_wp2_with (first
    | ((with_reducible show wpList _ _ _ (⟨some 0, _, _, _, _, _⟩ :: _) _ _); refine wpList_alloc_arr rfl _ rfl .u32 Y 8 HY1 ?_; intro g4 w4 e4 s4 A4 b4)
    | ((with_reducible show wpList _ _ _ (⟨none, _, _, _, _, _⟩ :: _) _ _); refine wpList_store_arr rfl _ (.tmp 0) (.tmp 1) rfl g4 rfl .u32 _ _ H0 rfl A4 8 size_s HY rfl ?_; intro w9 A9 o9 s9)
    | fail)
  refine bodyPost_ret (v := .agg (H0.map (Value.int .u32)).toArray) ?_ rfl ⟨rfl, b4.out.trans (o9.out.below e4)⟩
  exact results_cell_row rfl _ _ g4 _ _ (0, 0) _ rfl A9.out Tryd.underlying101 rfl (by rw [size_s]; rfl)
theorem bcell {W w1 : World} (hb : Below W.heap.size W w1) : (∀ b o, b < W.heap.size → w1.cell? ⟨b, o, none⟩ = W.cell? ⟨b, o, none⟩) ∧ (∀ b o, b < W.heap.size → w1.frozen? ⟨b, o, none⟩ = W.frozen? ⟨b, o, none⟩) :=
  ⟨fun b o h => hb.cell (p := ⟨b, o, none⟩) h, fun b o h => hb.frozen (p := ⟨b, o, none⟩) h⟩
/-- eight stores fill the array -/
theorem only8 (w : World) (g : Nat) (y0 y1 y2 y3 y4 y5 y6 y7 : Int) :
    Only g w ((((((((w.setCell ⟨g, 0, none⟩ (.int .u32 y0)).setCell ⟨g, 1, none⟩ (.int .u32 y1)).setCell ⟨g, 2, none⟩ (.int .u32 y2)).setCell ⟨g, 3, none⟩ (.int .u32 y3)).setCell ⟨g, 4, none⟩ (.int .u32 y4)).setCell ⟨g, 5, none⟩ (.int .u32 y5)).setCell ⟨g, 6, none⟩ (.int .u32 y6)).setCell ⟨g, 7, none⟩ (.int .u32 y7)) :=
  ((((((((Only.refl g w).setCell 0 _).setCell 1 _).setCell 2 _).setCell 3 _).setCell 4 _).setCell 5 _).setCell 6 _).setCell 7 _
theorem fill8 {w : World} {g : Nat} {T : TypeId} {zs : List Int} (h : Arr w g .u32 T zs) (hz : zs.length = 8) (y0 y1 y2 y3 y4 y5 y6 y7 : Int) :
    Arr ((((((((w.setCell ⟨g, 0, none⟩ (.int .u32 y0)).setCell ⟨g, 1, none⟩ (.int .u32 y1)).setCell ⟨g, 2, none⟩ (.int .u32 y2)).setCell ⟨g, 3, none⟩ (.int .u32 y3)).setCell ⟨g, 4, none⟩ (.int .u32 y4)).setCell ⟨g, 5, none⟩ (.int .u32 y5)).setCell ⟨g, 6, none⟩ (.int .u32 y6)).setCell ⟨g, 7, none⟩ (.int .u32 y7)) g .u32 T [y0, y1, y2, y3, y4, y5, y6, y7] := by
  match zs, hz with
  | [a, b, c, d, e, f, i, j], _ => exact (((((((h.set 0 y0).set 1 y1).set 2 y2).set 3 y3).set 4 y4).set 5 y5).set 6 y6).set 7 y7
theorem eight {l : List Int} (h : l.length = 8) : ∃ a b c d e f g i, l = [a, b, c, d, e, f, g, i] := by
  match l, h with
  | [a, b, c, d, e, f, g, i], _ => exact ⟨a, b, c, d, e, f, g, i, rfl⟩
/-- the sum's bytes -/
def outOf (st : List Int) : List Int := (List.range 32).map fun i => st.getD (i / 4) 0 / 2 ^ (24 - 8 * (i % 4)) % 256
theorem outOf_len (st : List Int) : (outOf st).length = 32 := by simp [outOf]
theorem outOf_bytes (st : List Int) : Bytes (outOf st) := fun x hx => by
  obtain ⟨j, _, rfl⟩ := List.mem_map.1 hx
  omega
/-- the row of the sum, behind k of its bytes -/
def outRow (st : List Int) (k : Nat) : List Int := (outOf st).take k ++ List.replicate (32 - k) 0
theorem outRow_len (st : List Int) (k : Nat) (h : k ≤ 32) : (outRow st k).length = 32 := by simp [outRow, outOf_len]; omega
theorem outRow_zero (st : List Int) : outRow st 0 = List.replicate 32 0 := by simp [outRow]
theorem outRow_full (st : List Int) : outRow st 32 = outOf st := by
  unfold outRow
  rw [List.take_of_length_le (by rw [outOf_len]; exact Nat.le_refl _)]
  simp
theorem outRow_set (st : List Int) (k : Nat) (h : k < 32) : (outRow st k).set k (st.getD (k / 4) 0 / 2 ^ (24 - 8 * (k % 4)) % 256) = outRow st (k + 1) := by
  have hl : k < (outOf st).length := by rw [outOf_len]; exact h
  unfold outRow
  rw [fill_set _ _ _ _ (by simp [outOf_len]; omega) (by omega), List.take_succ_eq_append_getElem hl, show 32 - k - 1 = 32 - (k + 1) by omega]
  congr 2
  simp [outOf]
/-- what is pressed: the bytes and what stands behind them -/
def allOf (xs : List Int) : List Int := xs ++ behindOf xs.length
def stateOf (xs : List Int) : List Int := blocksS H0 (allOf xs) ((allOf xs).length / 64)
def sumOf (xs : List Int) : List Int := outOf (stateOf xs)
theorem allOf_len (xs : List Int) (h : xs.length ≤ 140737488355200) : (allOf xs).length % 64 = 0 := by
  have h1 := behindOf_len xs.length (by omega)
  unfold allOf
  rw [List.length_append, h1]
  unfold noughts
  omega
theorem stateOf_len (xs : List Int) : (stateOf xs).length = 8 := blocksS_len H0_len _ _
theorem stateOf_w (xs : List Int) : W32 (stateOf xs) := blocksS_w H0_w _ _
/-- the whole blocks first, then the rest with what stands behind -/
theorem stateOf_parts (xs : List Int) (h : xs.length ≤ 140737488355200) (q : Nat) (hq : q = xs.length / 64) :
    stateOf xs = blocksS (blocksS H0 (xs.take (64 * q)) q) (xs.drop (64 * q) ++ behindOf xs.length) ((xs.drop (64 * q) ++ behindOf xs.length).length / 64) := by
  have h0 := allOf_len xs h
  have hl : (xs.take (64 * q)).length = 64 * q := by rw [List.length_take]; omega
  have e : xs.take (64 * q) ++ (xs.drop (64 * q) ++ behindOf xs.length) = allOf xs := by
    rw [← List.append_assoc, List.take_append_drop]
    rfl
  rw [blocksS_behind _ _ _ _ _ hl, e]
  have e2 : (allOf xs).length = 64 * q + (xs.drop (64 * q) ++ behindOf xs.length).length := by rw [← e, List.length_append, hl]
  unfold stateOf
  rw [e2]
  congr 1
  omega
theorem Holds.behind {w : World} {B : Nat} {A : Option Addr} {n c m : Nat} {xs : List Int} (h : Holds w B A n c xs) (hm : m ≤ n) : Holds w B (if c = m then A else Option.map (fun x => x.add m) A) (n - m) (c - m) (xs.drop m) := by
  have hf := h.fit
  have hl := h.len
  by_cases hn : n - m = 0
  · rw [hn, show xs.drop m = [] from List.drop_of_length_le (by omega)]
    refine Holds.empty _ _ _ _ fun hA => ?_
    by_cases hc : c = m
    · omega
    · rw [if_neg hc] at hA
      have : A = none := by cases A <;> simp_all
      have := h.bare this
      omega
  · rw [if_neg (by omega)]
    have h1 := h.part (k := m) (m := n - m) (c' := c - m) (by omega) (by omega) (by omega)
    rwa [List.take_of_length_le (by rw [List.length_drop]; omega)] at h1
set_option maxRecDepth 100000 in
set_option maxHeartbeats 4000000 in
theorem Sum_any (w : World) (A : Option Addr) (n c : Nat) (xs : List Int) (hn : n ≤ 140737488355200) (h : Holds w w.heap.size A n c xs) (hK : KTab w) :
    Calls Tryd.prog 86 #[.slice A n c] w
      fun e w' => e = .returned (.agg ((sumOf xs).map (Value.int .u8)).toArray) ∧ Below w.heap.size w w' := by
  have HL := Lib.hid h.len
  have hfit := h.fit
  have hby := h.byte
  have HK := Lib.hid hK
  have hz4 : Tryd.prog.built 79 [] = some ((List.replicate 32 (0 : Int)).map (Value.int .u8)).toArray := by kernel_rfl
  have hz3 : (Tryd.prog.info? 79).map (fun i => (i.zero, i.size)) = some (some (.agg ((List.replicate 32 (0 : Int)).map (Value.int .u8)).toArray), 32) := by kernel_rfl
  obtain ⟨X, hX⟩ : ∃ Z : List Int, Z = List.replicate 32 0 := ⟨_, rfl⟩
  have HX := len0 32
  rw [← hX] at HX hz3 hz4
  have HX2 := Lib.hid hz4
  have HXe := Lib.hid hX
  have HX1 := Lib.hid hz3
  clear hK hz3 hz4 hX
  obtain ⟨q, hq⟩ : ∃ q, q = n / 64 := ⟨_, rfl⟩
  obtain ⟨m, hm⟩ : ∃ m, m = 64 * q := ⟨_, rfl⟩
  have hm0 : m ≤ n := by omega
  have hm1 : (n : Int) - (n : Int) % 64 = (m : Int) := by omega
  have hm2 : n - m < 64 := by omega
  have HMm := Lib.hid hm
  have HQq := Lib.hid hq
  clear hm hq
  have hm3 : (0 : Int) ≤ (m : Int) := by omega
  have hm4 : (m : Int) ≤ (c : Int) := by omega
  have cb := fun w => Lib.hid (Begin_any w)
  have hun : IntKind.u64.wrap (n : Int) = (n : Int) := by rw [IntKind.wrap_u64]; omega
  have hr := h.behind hm0
  obtain ⟨A3, hA3⟩ : ∃ A3, (if c = m then A else Option.map (fun x => x.add m) A) = A3 := ⟨_, rfl⟩
  rw [hA3] at hr
  have hsp := stateOf_parts xs (by rw [HL.out]; omega) q (by rw [HL.out]; exact HQq.out)
  have hal := allOf_len xs (by rw [HL.out]; omega)
  have hal2 : (allOf xs).length = n + (behindOf xs.length).length := by unfold allOf; rw [List.length_append, HL.out]
  have hbl := behindOf_len xs.length (by rw [HL.out]; omega)
  have hnl := noughts_lt xs.length
  have heb := behindOf_bytes xs.length
  rw [← HMm.out] at hsp
  have cbh := fun w => Behind_any w (xs.length : Int) (by have := HL.out; omega)
  unfold BehPost at cbh
  obtain ⟨E, hE⟩ : ∃ E, E = behindOf (xs.length : Int) := ⟨_, rfl⟩
  rw [← hE] at cbh hsp hal2 hbl heb
  obtain ⟨L, hL⟩ : ∃ L, L = E.length := ⟨_, rfl⟩
  rw [← hL] at cbh hal2 hbl
  rw [HL.out] at cbh
  have HEL := Lib.hid hL
  have HEB := Lib.hid heb
  have CBH := fun w => Lib.hid (cbh w)
  have hL9 : 9 ≤ L := by omega
  have hL72 : L ≤ 72 := by omega
  have hrl : (xs.drop m ++ E).length = n - m + L := by rw [List.length_append, List.length_drop, HL.out, hL]
  have hrb : Bytes (xs.drop m ++ E) := (hby.drop m).append heb
  obtain ⟨R, hR⟩ : ∃ R, R = xs.drop m ++ E := ⟨_, rfl⟩
  rw [← hR] at hsp hrl hrb
  have HRe := Lib.hid hR
  obtain ⟨r, hr0⟩ : ∃ r, r = n - m + L := ⟨_, rfl⟩
  rw [← hr0] at hrl
  have hr64 : r = 64 * (R.length / 64) := by have := HMm.out; omega
  have hrle : r ≤ 136 := by omega
  have HRL := Lib.hid hrl
  have HR64 := Lib.hid hr64
  have HR0 := Lib.hid hr0
  have HSP := Lib.hid hsp
  clear hsp hal hal2 hbl hnl heb cbh hE hL hrl hR hr0 hr64
  have hh1 : Holds w w.heap.size A m c (xs.take m) := ⟨by have := HL.out; rw [List.length_take]; omega, by omega, by omega, hby.take m, h.bare, fun h0 => by
    obtain ⟨b, off, rfl, hb, hc⟩ := h.cells (by omega)
    exact ⟨b, off, rfl, hb, fun i hi => by rw [hc i (by omega)]; simp [List.getD_eq_getElem?_getD, hi]⟩⟩
  have cp : ∀ W, Below w.heap.size w W → Hid (Calls Tryd.prog 91 #[.agg (H0.map (Value.int .u32)).toArray, .slice A m c] W
      fun e w' => e = .returned (.agg ((blocksS H0 (xs.take m) q).map (Value.int .u32)).toArray) ∧ Below W.heap.size W w') := fun W hb =>
    pressAll_any W H0 (xs.take m) H0_len H0_w A m c q HMm.out (by omega) ((hh1.below hb).mono hb.size) (HK.out.below hb)
  obtain ⟨s1, hs1⟩ : ∃ s1, s1 = blocksS H0 (xs.take m) q := ⟨_, rfl⟩
  have hl1 := blocksS_len H0_len (xs.take m) q
  rw [← hs1] at cp hl1
  have HS1 := Lib.hid hs1
  clear hs1
  go_enter Tryd.func86, Tryd.ntmps86
  go_wp2_with (first
    | ((with_reducible show wpList _ _ _ (⟨some 2, _, _, _, _, _⟩ :: _) _ _); refine wpList_alloc_arr rfl _ rfl .u8 X 32 HX1 ?_; intro g2 w2 e2 s2 A2 b2)
    | fail)
  have B2 : Hid (Below w.heap.size w w2) := b2
  have hw2 := b2.out.size
  clear b2
  go_upto_region 2 with (fail)
  go_cut [4] (fun s4 wx => ∃ g4, s4 = .pointer (some ⟨g4, 0, none⟩) ∧ g2 < g4 ∧ Hid (Arr wx g4 .u32 101 s1) ∧ Hid (Arr wx g2 .u8 79 X) ∧ Hid (Below w.heap.size w wx))
  case first =>
    have HH0 : Hid (H0 = [1779033703, 3144134277, 1013904242, 2773480762, 1359893119, 2600822924, 528734635, 1541459225]) := rfl
    obtain ⟨y0, y1, y2, y3, y4, y5, y6, y7, rfl⟩ := eight hl1
    go_region_with (first
      | (go_at_call 92; go_loud (refine (cb _).out.mono ?_; rintro e w3 ⟨rfl, b3⟩; obtain ⟨hc3, hf3⟩ := bcell b3; have hz3 := b3.size; simp at hz3; (try have hz3' : w2.heap.size < w3.heap.size := by omega)))
      | (go_at_call 91; (refine (cp _ (by first | exact B2.out.drew.trans (b3.mono hw2) | exact (B2.out.drew.trans (b3.mono hw2)).alloc (Nat.le_trans hw2 b3.size) _ | exact (B2.out.alloc hw2 _).drew.trans (b3.mono (Nat.le_trans hw2 (by simp))))).out.mono ?_; rintro e w4 ⟨rfl, b4⟩; obtain ⟨hc4, hf4⟩ := bcell b4; have hz4 := b4.size)))
    all_goals go_wp2_with fail
    all_goals go_meet
    all_goals clear hc3 hf3 hc4 hf4
    · have B4 : Below w.heap.size w w4 := (B2.out.drew.trans (b3.mono hw2)).trans (b4.mono (by omega))
      have X4 : Arr w4 g2 .u8 79 X := (A2.out.drew.over b3).over b4
      refine ⟨_, rfl, by omega, Arr.new w4 .u32 101 [y0, y1, y2, y3, y4, y5, y6, y7], X4.over ((Below.refl _ _).alloc (Nat.le_refl _) _), B4.alloc B4.size _⟩
    · simp at hz4
      have B4 : Below w.heap.size w w4 := ((B2.out.drew.trans (b3.mono hw2)).alloc (Nat.le_trans hw2 b3.size) _).trans (b4.mono (by simp; omega))
      have X4 : Arr w4 g2 .u8 79 X := ((A2.out.drew.over b3).over ((Below.refl _ _).alloc (Nat.le_refl _) _)).over b4
      have Z4 : Arr w4 w3.heap.size .u32 101 [0, 0, 0, 0, 0, 0, 0, 0] := (Arr.new w3 .u32 101 [0, 0, 0, 0, 0, 0, 0, 0]).over b4
      have o8 := only8 w4 w3.heap.size y0 y1 y2 y3 y4 y5 y6 y7
      refine ⟨_, rfl, by omega, fill8 Z4 rfl _ _ _ _ _ _ _ _, X4.only o8 (by omega), B4.trans (o8.below (by omega))⟩
    · have B4 : Below w.heap.size w w4 := ((B2.out.alloc hw2 _).drew.trans (b3.mono (Nat.le_trans hw2 (by simp)))).trans (b4.mono (by omega))
      have X4 : Arr w4 g2 .u8 79 X := (((A2.out.over ((Below.refl _ _).alloc (Nat.le_refl _) _)).drew).over b3).over b4
      have Z4 : Arr w4 w2.heap.size .u32 101 [0, 0, 0, 0, 0, 0, 0, 0] := ((Arr.new w2 .u32 101 [0, 0, 0, 0, 0, 0, 0, 0]).drew.over b3).over b4
      have o8 := only8 w4 w2.heap.size y0 y1 y2 y3 y4 y5 y6 y7
      refine ⟨_, rfl, by omega, fill8 Z4 rfl _ _ _ _ _ _ _ _, X4.only o8 (by omega), B4.trans (o8.below (by omega))⟩
  case rest =>
    obtain ⟨g4, rfl, l24, A4, A2r, B4⟩ := hcut
    go_upto_region 3 with (fail)
    go_cut [] (fun wx => Hid (Arr wx g4 .u32 101 (stateOf xs)) ∧ Hid (Arr wx g2 .u8 79 X) ∧ Hid (Below w.heap.size w wx))
    case first =>
      have hsw1 : W32 s1 := by rw [HS1.out]; exact blocksS_w H0_w _ _
      have cp2 : ∀ W A6 c6, Below w.heap.size w W → Holds W W.heap.size A6 r c6 R → Hid (Calls Tryd.prog 91 #[.agg (s1.map (Value.int .u32)).toArray, .slice A6 r c6] W
          fun e w' => e = .returned (.agg ((stateOf xs).map (Value.int .u32)).toArray) ∧ Below W.heap.size W w') := fun W A6 c6 hb hh => by
        rw [HSP.out, ← HS1.out]
        exact pressAll_any W s1 R hl1 hsw1 A6 r c6 (R.length / 64) HR64.out (by omega) hh (HK.out.below hb)
      have hls := stateOf_len xs
      obtain ⟨so, hso⟩ : ∃ so, so = stateOf xs := ⟨_, rfl⟩
      rw [← hso] at cp2 hls
      have HSO := Lib.hid hso
      clear hso cp
      obtain ⟨z0, z1, z2, z3, z4, z5, z6, z7, rfl⟩ := eight hls
      obtain ⟨y0, y1, y2, y3, y4, y5, y6, y7, rfl⟩ := eight hl1
      have hg4 := A4.out.lt
      have hwc := B4.out.size
      have k0 : wc.cell? ⟨g4, 0, none⟩ = some (.int .u32 y0) := A4.out.cell (i := 0) (by show _ < 8; omega)
      have k1 : wc.cell? ⟨g4, 1, none⟩ = some (.int .u32 y1) := A4.out.cell (i := 1) (by show _ < 8; omega)
      have k2 : wc.cell? ⟨g4, 2, none⟩ = some (.int .u32 y2) := A4.out.cell (i := 2) (by show _ < 8; omega)
      have k3 : wc.cell? ⟨g4, 3, none⟩ = some (.int .u32 y3) := A4.out.cell (i := 3) (by show _ < 8; omega)
      have k4 : wc.cell? ⟨g4, 4, none⟩ = some (.int .u32 y4) := A4.out.cell (i := 4) (by show _ < 8; omega)
      have k5 : wc.cell? ⟨g4, 5, none⟩ = some (.int .u32 y5) := A4.out.cell (i := 5) (by show _ < 8; omega)
      have k6 : wc.cell? ⟨g4, 6, none⟩ = some (.int .u32 y6) := A4.out.cell (i := 6) (by show _ < 8; omega)
      have k7 : wc.cell? ⟨g4, 7, none⟩ = some (.int .u32 y7) := A4.out.cell (i := 7) (by show _ < 8; omega)
      go_region_with (first
        | (go_at_call 93; go_loud (refine (CBH _).out.mono ?_; rintro e w5 ⟨A5, rfl, f5, b5⟩; have R5 : Hid (Arr w5 g4 .u32 101 [y0, y1, y2, y3, y4, y5, y6, y7]) := A4.out.drew.over b5; have hfzw5 : ∀ o, w5.frozen? ⟨g4, o, none⟩ = false := (fun o => R5.out.frozen o); have hclw50 : w5.cell? ⟨g4, 0, none⟩ = some (.int .u32 y0) := R5.out.cell (i := 0) (show 0 < 8 by omega); have hclw51 : w5.cell? ⟨g4, 1, none⟩ = some (.int .u32 y1) := R5.out.cell (i := 1) (show 1 < 8 by omega); have hclw52 : w5.cell? ⟨g4, 2, none⟩ = some (.int .u32 y2) := R5.out.cell (i := 2) (show 2 < 8 by omega); have hclw53 : w5.cell? ⟨g4, 3, none⟩ = some (.int .u32 y3) := R5.out.cell (i := 3) (show 3 < 8 by omega); have hclw54 : w5.cell? ⟨g4, 4, none⟩ = some (.int .u32 y4) := R5.out.cell (i := 4) (show 4 < 8 by omega); have hclw55 : w5.cell? ⟨g4, 5, none⟩ = some (.int .u32 y5) := R5.out.cell (i := 5) (show 5 < 8 by omega); have hclw56 : w5.cell? ⟨g4, 6, none⟩ = some (.int .u32 y6) := R5.out.cell (i := 6) (show 6 < 8 by omega); have hclw57 : w5.cell? ⟨g4, 7, none⟩ = some (.int .u32 y7) := R5.out.cell (i := 7) (show 7 < 8 by omega); have hq5 : g4 < w5.heap.size := (by have := b5.size; simp at this; omega); have hv5 : wc.heap.size ≤ w5.heap.size := b5.size; have B5 := Lib.hid (B4.out.drew.trans (b5.mono hwc)); have F5 := Lib.hid (f5.holds HEL.out.symm HEB.out (by omega)); clear f5))
        | (go_at_call 39; go_loud (refine (Concat_any _ w5.heap.size A3 A5 (n - m) (c - m) L L (xs.drop m) E (by simp) (by simp) (by simp) ((hr.below (B5.out.alloc B5.out.size _)).mono (by simp; omega)) ((F5.out.below ((Below.refl _ w5).alloc (Nat.le_refl _) _)).mono (by simp)) (by omega) (by omega)).mono ?_; rintro e w6 ⟨v6, rfl, o6, b6⟩; have R6 : Hid (Arr w6 g4 .u32 101 [y0, y1, y2, y3, y4, y5, y6, y7]) := (R5.out.over ((Below.refl _ w5).alloc (Nat.le_refl _) _)).over b6; have hfzw6 : ∀ o, w6.frozen? ⟨g4, o, none⟩ = false := (fun o => R6.out.frozen o); have hclw60 : w6.cell? ⟨g4, 0, none⟩ = some (.int .u32 y0) := R6.out.cell (i := 0) (show 0 < 8 by omega); have hclw61 : w6.cell? ⟨g4, 1, none⟩ = some (.int .u32 y1) := R6.out.cell (i := 1) (show 1 < 8 by omega); have hclw62 : w6.cell? ⟨g4, 2, none⟩ = some (.int .u32 y2) := R6.out.cell (i := 2) (show 2 < 8 by omega); have hclw63 : w6.cell? ⟨g4, 3, none⟩ = some (.int .u32 y3) := R6.out.cell (i := 3) (show 3 < 8 by omega); have hclw64 : w6.cell? ⟨g4, 4, none⟩ = some (.int .u32 y4) := R6.out.cell (i := 4) (show 4 < 8 by omega); have hclw65 : w6.cell? ⟨g4, 5, none⟩ = some (.int .u32 y5) := R6.out.cell (i := 5) (show 5 < 8 by omega); have hclw66 : w6.cell? ⟨g4, 6, none⟩ = some (.int .u32 y6) := R6.out.cell (i := 6) (show 6 < 8 by omega); have hclw67 : w6.cell? ⟨g4, 7, none⟩ = some (.int .u32 y7) := R6.out.cell (i := 7) (show 7 < 8 by omega); have B6 := Lib.hid ((B5.out.alloc B5.out.size _).trans (b6.mono (by simp; omega))); have hq6 : g4 < w6.heap.size := (by have := b6.size; simp at this; omega); obtain ⟨A6, c6, rfl, hh6⟩ := o6.holds (by rw [← HRe.out]; exact hrb) (by rw [← HRe.out, HRL.out]; omega); rw [← HRe.out, HRL.out] at hh6 ⊢; have HH6 := Lib.hid hh6; clear hh6 o6))
        | (go_at_call 91; go_loud (refine (cp2 _ A6 c6 B6.out HH6.out).out.mono ?_; rintro e w7 ⟨rfl, b7⟩; have R7 : Hid (Arr w7 g4 .u32 101 [y0, y1, y2, y3, y4, y5, y6, y7]) := R6.out.over b7; have hfzw7 : ∀ o, w7.frozen? ⟨g4, o, none⟩ = false := (fun o => R7.out.frozen o); have hclw70 : w7.cell? ⟨g4, 0, none⟩ = some (.int .u32 y0) := R7.out.cell (i := 0) (show 0 < 8 by omega); have hclw71 : w7.cell? ⟨g4, 1, none⟩ = some (.int .u32 y1) := R7.out.cell (i := 1) (show 1 < 8 by omega); have hclw72 : w7.cell? ⟨g4, 2, none⟩ = some (.int .u32 y2) := R7.out.cell (i := 2) (show 2 < 8 by omega); have hclw73 : w7.cell? ⟨g4, 3, none⟩ = some (.int .u32 y3) := R7.out.cell (i := 3) (show 3 < 8 by omega); have hclw74 : w7.cell? ⟨g4, 4, none⟩ = some (.int .u32 y4) := R7.out.cell (i := 4) (show 4 < 8 by omega); have hclw75 : w7.cell? ⟨g4, 5, none⟩ = some (.int .u32 y5) := R7.out.cell (i := 5) (show 5 < 8 by omega); have hclw76 : w7.cell? ⟨g4, 6, none⟩ = some (.int .u32 y6) := R7.out.cell (i := 6) (show 6 < 8 by omega); have hclw77 : w7.cell? ⟨g4, 7, none⟩ = some (.int .u32 y7) := R7.out.cell (i := 7) (show 7 < 8 by omega)))
        | fail)
      all_goals go_wp2_with fail
      all_goals go_meet
      all_goals
        have X7 : Arr w7 g2 .u8 79 X := (((A2r.out.drew.over b5).over ((Below.refl _ w5).alloc (Nat.le_refl _) _)).over b6).over b7
        have o8 := only8 w7 g4 z0 z1 z2 z3 z4 z5 z6 z7
        have hs6 := B6.out.size
        exact ⟨by rw [← HSO.out]; exact fill8 R7.out rfl _ _ _ _ _ _ _ _, X7.only o8 (by omega), (B6.out.trans (b7.mono hs6)).trans (o8.below (by omega))⟩
    case rest =>
      obtain ⟨A4', A2', B4'⟩ := hcut
      have hls := Lib.hid (stateOf_len xs)
      obtain ⟨so, hso⟩ : ∃ so, so = stateOf xs := ⟨_, rfl⟩
      have hsow := stateOf_w xs
      rw [← hso] at A4' hls hsow
      have HSO := Lib.hid hso
      clear hso A4 A2r B4 A2 B2
      have hg4' := A4'.lt
      go_wp2_with (first
        | (refine wpList_build_zero rfl _ rfl .u8 X HX2 ?_)
        | ((with_reducible show wpList _ _ _ (⟨some 5, _, _, _, _, _⟩ :: _) _ _); refine wpList_alloc_arr rfl _ rfl .u8 X 32 HX1 ?_; intro g5 w6 e6 s6 A6 b6)
        | ((with_reducible show wpList _ _ _ (⟨none, _, _, _, _, _⟩ :: _) _ _); refine wpList_store_arr rfl _ (.tmp 5) (.tmp 29) rfl g5 rfl .u8 _ _ X rfl A6 32 size_o HX HX ?_; intro w7 A7 o7 s7)
        | fail)
      have hs6 := B4'.size
      have A47 : Hid (Arr w7 g4 .u32 101 so) := (A4'.over b6.out).only o7.out (by omega)
      have A27 : Hid (Arr w7 g2 .u8 79 X) := (A2'.over b6.out).only o7.out (by omega)
      have B7 : Hid (Below w.heap.size w w7) := (B4'.trans (b6.out.mono hs6)).trans (o7.out.below (by omega))
      have l45 : g4 < g5 := by omega
      have l25 : g2 < g5 := by omega
      have lw5 : w.heap.size ≤ g5 := by omega
      clear A4' A2' B4' A6 b6 o7 s6 s7 hs6 hg4'
      go_loopw [30, 6] (fun i _ wr => ∃ k : Nat, k ≤ 32 ∧ i = .int .i64 k ∧ Hid (Arr wr g5 .u8 79 (outRow so k)) ∧ Hid (Only g5 w7 wr)) (fun i _ _ => 32 - (intOf i).toNat)
      case atStart => exact ⟨0, by omega, rfl, by rw [outRow_zero, ← HXe.out]; exact A7, Only.refl _ _⟩
      case round =>
        obtain ⟨k, hk, rfl, hR, hO⟩ := hrel
        by_cases hlt : k < 32
        · have gc := (A47.out.only hO.out (by omega)).cell (i := k / 4) (by rw [hls.out]; omega)
          have hb := hsow.getD (k / 4)
          have hS := hR.out.set k (so.getD (k / 4) 0 / 2 ^ (24 - 8 * (k % 4)) % 256)
          rw [outRow_set so k hlt] at hS
          obtain ⟨y, hy⟩ : ∃ y, y = so.getD (k / 4) 0 := ⟨_, rfl⟩
          rw [← hy] at gc hb hS
          have gd := hR.out.cell (i := k) (by rw [outRow_len so k hk]; exact hlt)
          obtain ⟨old, hold⟩ : ∃ old, old = (outRow so k).getD k 0 := ⟨_, rfl⟩
          rw [← hold] at gd
          have gf := hR.out.frozen k
          have en : (24 - 8 * ((k : Int) % 4)).toNat = 24 - 8 * (k % 4) := by omega
          have hSh := Lib.hid hS
          obtain ⟨hb0, hb1⟩ := hb
          clear hy hold hS hR
          go_wp2_with fail
          go_roundw
          case rel => exact ⟨k + 1, by omega, by go_num, hSh, hO.out.setCell _ _⟩
          case measure => simp [intOf]; omega
        · have hge : (32 : Int) ≤ (k : Int) := by omega
          have hF : Hid (Arr wr g5 .u8 79 (sumOf xs)) := by
            have h0 := hR.out
            rw [show k = 32 by omega, outRow_full, HSO.out] at h0
            exact h0
          have A2f := Lib.hid (A27.out.only hO.out (by omega))
          have Bf : Hid (Below w.heap.size w wr) := B7.out.trans (hO.out.below lw5)
          have HP : Hid ((sumOf xs).length = 32) := outOf_len _
          obtain ⟨p, hp⟩ : ∃ p, p = sumOf xs := ⟨_, rfl⟩
          rw [← hp] at hF HP
          have HPe := Lib.hid hp
          clear hR hO hp
          go_wp2_with (first
            | ((with_reducible show wpList _ _ _ (⟨some 46, _, _, _, _, _⟩ :: _) _ _); refine wpList_load_arr rfl _ (.tmp 5) rfl g5 rfl .u8 _ p hF 32 _ Tryd.underlying79 size_o HP ?_)
            | ((with_reducible show wpList _ _ _ (⟨none, _, _, _, _, _⟩ :: _) _ _); refine wpList_store_arr rfl _ (.tmp 2) (.tmp 46) rfl g2 rfl .u8 _ _ p rfl A2f 32 size_o HX HP ?_; intro w14 A14 o14 s14)
            | fail)
          rw [← HPe.out]
          refine bodyPost_ret (v := .agg (p.map (Value.int .u8)).toArray) ?_ rfl ⟨rfl, Bf.out.trans (o14.out.below (by omega))⟩
          exact results_cell_row rfl _ _ g2 _ _ (0, 0) _ rfl A14.out Tryd.underlying79 rfl (by rw [size_o]; have := HP.out; simp [this])
end Go.Proofs.YtgfflnjggnadpaaDoor

namespace Go.Proofs.YtgfflnjggnadpaaDoor
set_option linter.all false
open Go.RowKit
section
variable {P : Program} {ops : Array Oper} {md : Region.Mode} {S : World → Prop} {Q : Exit → Act → World → Prop}
theorem wpAnyH_one (i : Nat) (oi : Oper) {fuel : Nat} {listed : Array Bool} {a : Act} {w : World} (hr : Region.ready md ops listed = [i]) (hi : ops[i]? = some oi)
    (h : ∀ K : Act → World → Prop, (∀ a' w', S w' → wpAnyH P md ops Q S fuel (listed.setIfInBounds i true) a' w' → K a' w') → if Region.wanted oi (yielded ops a.tmps) = true then oi.wp P a w K Q else K (a.put oi.dst undef) w) : wpAnyH P md ops Q S (fuel + 1) listed a w := by
  refine wpAnyH_all hr (by simp) fun j hj => ?_
  obtain rfl : j = i := by simpa using hj
  have h1 := h (fun a' w' => S w' ∧ wpAnyH P md ops Q S fuel (listed.setIfInBounds j true) a' w') fun _ _ h2 h3 => ⟨h2, h3⟩
  unfold wpOp
  simp only [hi]
  by_cases hw : Region.wanted oi (yielded ops a.tmps) = true
  · rw [if_pos hw] at h1 ⊢
    exact .inl h1
  · rw [if_neg hw] at h1 ⊢
    exact h1
end
end Go.Proofs.YtgfflnjggnadpaaDoor

namespace Go.Proofs.YtgfflnjggnadpaaDoor
set_option linter.all false
open Go.RowKit
/-- the slice value v is nil, or heads a row of numbers of kind k (cells of type e) in a block from 'base' on that begins with xs -/
def OwnK (k : IntKind) (e : TypeId) (w : World) (base : Nat) (v : Value) (xs : List Int) : Prop := w.ownsRow base e 1 v xs.length (xs.map (Value.int k))
/-- the same, with noughts behind xs as far as the row goes -/
def OwnZ (k : IntKind) (e : TypeId) (w : World) (base : Nat) (v : Value) (xs : List Int) : Prop :=
  (v = .slice none 0 0 ∧ xs = []) ∨ ∃ g m, v = .slice (some ⟨g, 0, none⟩) xs.length (xs.length + m) ∧ base ≤ g ∧ xs.length + m ≤ maxLen ∧ w.heap[g]? = some (.cells ((xs ++ List.replicate m 0).map (Value.int k)).toArray e (0, 0))
/-- the world has grown, and of what was there nothing but v's own row may have turned -/
def Grew (w w' : World) (v : Value) : Prop := ∃ o, (w.alloc o).grownBy w' v.ownBlock
section
variable {k k' : IntKind} {e e' : TypeId} {w w' : World} {base base' : Nat} {v u : Value} {xs ys : List Int}
theorem OwnK.nil (k : IntKind) (e : TypeId) (w : World) (base : Nat) : OwnK k e w base (.slice none 0 0) [] := World.ownsRow_nil w base e 1
theorem OwnZ.nil (k : IntKind) (e : TypeId) (w : World) (base : Nat) : OwnZ k e w base (.slice none 0 0) [] := .inl ⟨rfl, rfl⟩
theorem OwnZ.own (h : OwnZ k e w base v xs) : OwnK k e w base v xs := by
  rcases h with ⟨rfl, rfl⟩ | ⟨g, m, rfl, hb, hm, hg⟩
  · exact OwnK.nil k e w base
  · exact ⟨by simp, .inr ⟨g, _, _, rfl, hb, hg, by omega, hm, by simp, by simp⟩⟩
theorem OwnK.mono (h : OwnK k e w base v xs) (hb : base' ≤ base) : OwnK k e w base' v xs := by
  refine ⟨h.1, ?_⟩
  rcases h.2 with h0 | ⟨g, cap, cur, rfl, h1, rest⟩
  · exact .inl h0
  · exact .inr ⟨g, cap, cur, rfl, by omega, rest⟩
theorem OwnZ.mono (h : OwnZ k e w base v xs) (hb : base' ≤ base) : OwnZ k e w base' v xs := by
  rcases h with h0 | ⟨g, m, rfl, h1, rest⟩
  · exact .inl h0
  · exact .inr ⟨g, m, rfl, by omega, rest⟩
theorem OwnK.keep (h : OwnK k e w base v xs) (hk : ∀ i cs, v.ownBlock = some i → w.heap[i]? = some (.cells cs e (0, 0)) → w'.heap[i]? = w.heap[i]?) : OwnK k e w' base v xs := by
  refine ⟨h.1, ?_⟩
  rcases h.2 with h0 | ⟨g, cap, cur, rfl, h1, hg, rest⟩
  · exact .inl h0
  · exact .inr ⟨g, cap, cur, rfl, h1, (hk g cur rfl hg).trans hg, rest⟩
theorem OwnZ.keep (h : OwnZ k e w base v xs) (hk : ∀ i cs, v.ownBlock = some i → w.heap[i]? = some (.cells cs e (0, 0)) → w'.heap[i]? = w.heap[i]?) : OwnZ k e w' base v xs := by
  rcases h with h0 | ⟨g, m, rfl, h1, hm, hg⟩
  · exact .inl h0
  · exact .inr ⟨g, m, rfl, h1, hm, (hk g _ rfl hg).trans hg⟩
theorem OwnK.below (h : OwnK k e w base v xs) (hb : Below w.heap.size w w') : OwnK k e w' base v xs := h.keep fun i _ _ hi => hb.block i (Array.getElem?_eq_some_iff.1 hi).1
theorem OwnZ.below (h : OwnZ k e w base v xs) (hb : Below w.heap.size w w') : OwnZ k e w' base v xs := h.keep fun i _ _ hi => hb.block i (Array.getElem?_eq_some_iff.1 hi).1
theorem OwnK.alloc (h : OwnK k e w base v xs) (o : Obj) : OwnK k e (w.alloc o) base v xs := h.keep fun _ _ _ hi => Below.heap_alloc _ _ _ (Array.getElem?_eq_some_iff.1 hi).1
theorem OwnZ.alloc (h : OwnZ k e w base v xs) (o : Obj) : OwnZ k e (w.alloc o) base v xs := h.keep fun _ _ _ hi => Below.heap_alloc _ _ _ (Array.getElem?_eq_some_iff.1 hi).1
theorem OwnK.block (h : OwnK k e w base v xs) {i : Nat} (hi : v.ownBlock = some i) : base ≤ i ∧ ∃ cs, w.heap[i]? = some (.cells cs e (0, 0)) := by
  rcases h.2 with ⟨rfl, _⟩ | ⟨g, cap, cur, rfl, h1, hg, rest⟩
  · cases hi
  · simp only [Value.ownBlock, Option.some.injEq] at hi
    subst hi
    exact ⟨h1, cur, hg⟩
/-- what a row of the call's own reads as -/
theorem OwnK.open (h : OwnK k e w base v xs) : ∃ A n c, v = .slice A n c ∧ xs.length = n ∧ n ≤ c ∧ n ≤ 9223372036854775807 ∧ (A = none → c = 0) ∧
    (0 < n → ∃ g, A = some ⟨g, 0, none⟩ ∧ base ≤ g ∧ g < w.heap.size ∧ ∀ i, i < n → w.cell? ⟨g, i, none⟩ = some (.int k (xs.getD i 0))) := by
  rcases h.2 with ⟨rfl, h0⟩ | ⟨g, cap, cur, rfl, hb, hg, hnc, hcm, hcs, htk⟩
  · exact ⟨none, 0, 0, rfl, h0, Nat.le_refl _, by omega, fun _ => rfl, fun h => absurd h (by omega)⟩
  · refine ⟨_, _, _, rfl, rfl, hnc, by unfold maxLen at hcm; omega, fun hA => (by cases hA), fun h0 => ⟨g, rfl, hb, (Array.getElem?_eq_some_iff.1 hg).1, fun i hi => ?_⟩⟩
    rw [cell_of_row w g i cur e (0, 0) hg]
    have e1 : cur[i]? = (cur.toList.take (xs.length * 1))[i]? := by
      rw [List.getElem?_take, if_pos (by omega), Array.getElem?_toList]
    rw [e1, htk]
    simp [hi]
theorem Grew.below (hg : Grew w w' v) (h : OwnK k e w base v xs) (hb : base ≤ w.heap.size) : Below base w w' := by
  obtain ⟨o, hg⟩ := hg
  exact ((Below.refl base w).alloc hb o).grown hg (by simp; omega) fun i hi => (h.block hi).1
theorem Grew.block (hg : Grew w w' v) {i : Nat} {x : Obj} (hi : w.heap[i]? = some x) (hn : v.ownBlock ≠ some i) : w'.heap[i]? = some x := by
  obtain ⟨o, hg⟩ := hg
  have hlt := (Array.getElem?_eq_some_iff.1 hi).1
  rw [hg.block i (by simp; omega) (fun e => hn e.symm), Below.heap_alloc _ _ _ hlt, hi]
/-! ### make and append -/

theorem zeroCells_int (k : IntKind) (n : Nat) : (Builtin.zeroCells (Value.int k 0).cells n) = (List.replicate n (Value.int k 0)).toArray := by
  apply Array.ext
  · simp [Builtin.zeroCells, Value.cells]
  · intro i h1 h2
    simp [Builtin.zeroCells, Value.cells, Nat.mod_one]
end
section
variable {k : IntKind} {e : TypeId} {w : World} {base : Nat} {v : Value} {xs ys : List Int}
theorem grew_new (k : IntKind) (e : TypeId) (w : World) (base : Nat) (zs : List Int) (old m : Nat) (hz : zs.length = m) (hb : base ≤ w.heap.size) (hm : m ≤ maxLen) :
    OwnZ k e (w.drew.alloc (.cells ((zs.map (Value.int k)).toArray ++ Builtin.zeroCells (Value.int k 0).cells (grownCap w m old e - m)) e)) base (.slice (some ⟨w.heap.size, 0, none⟩) m (grownCap w m old e)) zs := by
  have hge := grownCap_ge w m old e
  have hle := grownCap_le_maxLen w m old e hm
  refine .inr ⟨w.heap.size, grownCap w m old e - m, by rw [hz, show m + (grownCap w m old e - m) = grownCap w m old e by omega], hb, by omega, ?_⟩
  rw [zeroCells_int, List.map_append, List.map_replicate, ← List.append_toArray]
  exact heap_alloc_new w.drew _
/-- a literal: a block that has just been laid -/
theorem OwnK.lit (k : IntKind) (e : TypeId) (w : World) (xs : List Int) (cs : Array Value) (n : Nat) (hcs : cs = (xs.map (Value.int k)).toArray) (hn : xs.length = n) (hm : n ≤ maxLen) :
    OwnK k e (w.alloc (.cells cs e)) w.heap.size (.slice (some ⟨w.heap.size, 0, none⟩) n n) xs := by
  subst hcs
  subst hn
  exact ⟨by simp, .inr ⟨w.heap.size, _, _, rfl, Nat.le_refl _, heap_alloc_new w _, Nat.le_refl _, hm, by simp, List.take_of_length_le (by simp)⟩⟩
end
end Go.Proofs.YtgfflnjggnadpaaDoor

namespace Go.Proofs.YtgfflnjggnadpaaDoor
set_option linter.all false
open Go.RowKit
section
variable {P : Program} {ops : Array Oper} {Q : Exit → Act → World → Prop}
theorem wpAnyH_two {md : Region.Mode} {S : World → Prop} (i j : Nat) (oi oj : Oper) {fuel : Nat} {listed : Array Bool} {a : Act} {w : World} (hr : Region.ready md ops listed = [i, j]) (hi : ops[i]? = some oi) (hj : ops[j]? = some oj)
    (h1 : ∀ K : Act → World → Prop, (∀ a' w', S w' → wpAnyH P md ops Q S fuel (listed.setIfInBounds i true) a' w' → K a' w') → if Region.wanted oi (yielded ops a.tmps) = true then oi.wp P a w K Q else K (a.put oi.dst undef) w)
    (h2 : ∀ K : Act → World → Prop, (∀ a' w', S w' → wpAnyH P md ops Q S fuel (listed.setIfInBounds j true) a' w' → K a' w') → if Region.wanted oj (yielded ops a.tmps) = true then oj.wp P a w K Q else K (a.put oj.dst undef) w) :
    wpAnyH P md ops Q S (fuel + 1) listed a w := by
  refine wpAnyH_all hr (by simp) fun q hq => ?_
  rcases List.mem_cons.1 hq with rfl | hq
  · have h3 := h1 (fun a' w' => S w' ∧ wpAnyH P md ops Q S fuel (listed.setIfInBounds q true) a' w') fun _ _ h2 h3 => ⟨h2, h3⟩
    unfold wpOp
    simp only [hi]
    by_cases hw : Region.wanted oi (yielded ops a.tmps) = true
    · rw [if_pos hw] at h3 ⊢
      exact .inl h3
    · rw [if_neg hw] at h3 ⊢
      exact h3
  · obtain rfl := List.mem_singleton.1 hq
    have h3 := h2 (fun a' w' => S w' ∧ wpAnyH P md ops Q S fuel (listed.setIfInBounds q true) a' w') fun _ _ h2 h3 => ⟨h2, h3⟩
    unfold wpOp
    simp only [hj]
    by_cases hw : Region.wanted oj (yielded ops a.tmps) = true
    · rw [if_pos hw] at h3 ⊢
      exact .inl h3
    · rw [if_neg hw] at h3 ⊢
      exact h3
end
end Go.Proofs.YtgfflnjggnadpaaDoor

namespace Go.Proofs.YtgfflnjggnadpaaDoor
set_option linter.all false
set_option maxRecDepth 100000
open Go.RowKit
/-! ### what the document says -/

theorem wf8 {x : Int} (h : (Lit.int .u8 x).wf = true) : 0 ≤ x ∧ x ≤ 255 := by simpa [Lit.wf, IntKind.min, IntKind.max, IntKind.signed, IntKind.bits] using h
theorem bits8 (op : BinOp) (x y : Int) : 0 ≤ bits op .u8 x y ∧ bits op .u8 x y ≤ 255 := wf8 (wf_bits op .u8 x y)
/-- each byte against c -/
def xorL (c : Int) (xs : List Int) : List Int := xs.map fun y => bits .xor .u8 y c
theorem xorL_len (c : Int) (xs : List Int) : (xorL c xs).length = xs.length := by simp [xorL]
theorem xorL_bytes (c : Int) (xs : List Int) : Bytes (xorL c xs) := fun x hx => by
  obtain ⟨j, _, rfl⟩ := List.mem_map.1 hx
  exact bits8 _ _ _
/-- bytes with noughts behind them to 64 -/
def padK (l : List Int) : List Int := l ++ List.replicate (64 - l.length) 0
/-- a key, laid into a block -/
def keyL (k : List Int) : List Int := padK (if 64 < k.length then sumOf k else k)
def macL (k b : List Int) : List Int := sumOf (xorL 92 (keyL k) ++ sumOf (xorL 54 (keyL k) ++ b))
/-- a message whose signature is noughts -/
def blankL (m : List Int) : List Int := m.take 48 ++ List.replicate 16 0 ++ m.drop 64
def sigL (k m : List Int) : List Int := (macL k (blankL m)).take 16
def signL (k m : List Int) : List Int := m.take 48 ++ sigL k m ++ m.drop 64
theorem padK_len (l : List Int) (h : l.length ≤ 64) : (padK l).length = 64 := by simp [padK]; omega
theorem padK_bytes (l : List Int) (h : Bytes l) : Bytes (padK l) := h.append (Bytes.zeros _)
theorem sumOf_len (xs : List Int) : (sumOf xs).length = 32 := outOf_len _
theorem sumOf_bytes (xs : List Int) : Bytes (sumOf xs) := outOf_bytes _
theorem keyL_len (k : List Int) : (keyL k).length = 64 := by
  unfold keyL
  split
  · exact padK_len _ (by rw [sumOf_len]; omega)
  · exact padK_len _ (by omega)
theorem keyL_bytes (k : List Int) (h : Bytes k) : Bytes (keyL k) := by
  unfold keyL
  split
  · exact padK_bytes _ (sumOf_bytes _)
  · exact padK_bytes _ h
theorem macL_len (k b : List Int) : (macL k b).length = 32 := sumOf_len _
theorem macL_bytes (k b : List Int) : Bytes (macL k b) := sumOf_bytes _
theorem sigL_len (k m : List Int) : (sigL k m).length = 16 := by simp [sigL, macL_len]
theorem sigL_bytes (k m : List Int) : Bytes (sigL k m) := (macL_bytes _ _).take _
section
variable {k m : List Int}
end
section
variable {w w' : World} {g B : Nat} {k : IntKind} {T : TypeId} {xs : List Int}
/-- what an array in a block reads as, sliced whole -/
theorem Arr.holds (h : Arr w g .u8 T xs) {n : Nat} (hn : xs.length = n) (hx : Bytes xs) (hb : n ≤ 281474976710656) : Holds w w.heap.size (some ⟨g, 0, none⟩) n n xs :=
  ⟨hn, Nat.le_refl _, hb, hx, fun hA => (by cases hA), fun _ => ⟨g, 0, rfl, h.lt, fun i hi => by rw [Nat.zero_add]; exact h.cell (by omega)⟩⟩
end
section
variable {P : Program} {ops : Array Oper} {rest : List Oper} {o : Oper} {a : Act} {w : World} {Q : Exit → Act → World → Prop}
theorem run_loadVar_part {w : World} {T e : TypeId} {n : Nat} (k : IntKind) (b off : Nat) (xs : List Int) (hu : P.underlying T = some (.array n e)) (hi : (P.info? T).map (·.size) = some n) (hn : xs.length = n)
    (hc : ∀ i, i < n → w.cell? ⟨b, off + i, none⟩ = some (.int k (xs.getD i 0))) : (loadVar T ⟨b, off, none⟩).run P w = .ok (.agg (xs.map (Value.int k)).toArray) w := by
  have hl := run_loadCells_list (P := P) (w := w) ⟨b, off, none⟩ (xs.map (Value.int k)) (fun j v hj => by
    have hjl : j < xs.length := by
      by_cases hj' : j < xs.length
      · exact hj'
      · rw [List.getElem?_eq_none (by simp; omega)] at hj
        cases hj
    have e1 : (⟨b, off, none⟩ : Addr).add j = ⟨b, off + j, none⟩ := by
      by_cases hj0 : j = 0
      · subst hj0; simp [Addr.add]
      · simp [Addr.add, hj0]
    rw [e1, hc j (by omega), ← hj]
    simp [hjl])
  rw [List.length_map, hn] at hl
  obtain ⟨j, hj, hj1⟩ : ∃ j, P.info? T = some j ∧ j.size = n := by
    cases hq : P.info? T with
    | none => simp [hq] at hi
    | some j => exact ⟨j, rfl, by simpa [hq] using hi⟩
  have hagg : (isAgg T).run P w = .ok true w := by
    unfold isAgg
    rw [Sem.run_bind, run_underlying hu w]
    rfl
  unfold loadVar
  simp [Sem.run_bind, hagg, sizeOf, typeInfo, hj, hj1, hl]
/-- an array out of a run of cells (behind '[16]byte(slice)') -/
theorem wpList_load_part (hg : o.guard = none) (T : TypeId) (x : Operand) (ho : o.op = .load T x) (b off : Nat) (hx : a.eval x = .pointer (some ⟨b, off, none⟩)) (k : IntKind) (xs : List Int) (n : Nat) (e : TypeId)
    (hu : P.underlying T = some (.array n e)) (hi : (P.info? T).map (·.size) = some n) (hn : Hid (xs.length = n)) (hc : Hid (∀ i, i < n → w.cell? ⟨b, off + i, none⟩ = some (.int k (xs.getD i 0))))
    (h : wpList P ops Q rest (a.put o.dst (.agg (xs.map (Value.int k)).toArray)) w) : wpList P ops Q (o :: rest) a w := by
  refine wpList_plain hg fun K hK => ?_
  unfold Oper.wp execOp
  have hr := run_loadVar_part (P := P) (w := w) k b off xs hu hi hn.out hc.out
  simp only [ho, hx, Instr.loadAt, Instr.sureAddr, Sem.run_bind, Sem.run_pure, Result.andThen_ok, hr]
  exact hK _ _ h
theorem wpList_s2ap (hg : o.guard = none) (T : TypeId) (x : Operand) (ho : o.op = .sliceToArrayPointer T x) (n m c : Nat) (e : TypeId) (ad : Addr) (hx : a.eval x = .slice (some ad) m c) (hu : P.underlying T = some (.array n e)) (hm : n ≤ m)
    (h : wpList P ops Q rest (a.put o.dst (.pointer (some ad))) w) : wpList P ops Q (o :: rest) a w := by
  refine wpList_plain hg fun K hK => ?_
  unfold Oper.wp execOp
  have hlt : ¬ m < n := by omega
  simp only [ho, hx, Instr.arrayAt, Sem.run_bind, run_underlying hu, Sem.run_pure, Result.andThen_ok, hlt, if_false]
  exact hK _ _ h
section
variable {K : Act → World → Prop} {E : Prop}
theorem step_alloc_arr (hg : o.guard = none) (T : TypeId) (ho : o.op = .alloc T) (k : IntKind) (zs : List Int) (n : Nat) (hi : Hid ((P.info? T).map (fun i => (i.zero, i.size)) = some (some (.agg (zs.map (Value.int k)).toArray), n)))
    (h : ∀ g w', w.heap.size ≤ g → g < w'.heap.size → Hid (Arr w' g k T zs) → Hid (Below w.heap.size w w') → K (a.put o.dst (.pointer (some ⟨g, 0, none⟩))) w') :
    if Region.wanted o (yielded ops a.tmps) = true then Oper.wp P o a w K Q else E := by
  have hw : Region.wanted o (yielded ops a.tmps) = true := by simp [Region.wanted, hg]
  rw [if_pos hw]
  unfold Oper.wp execOp
  have hz := (zero_of_info hi.out).1
  simp only [ho, Sem.run_bind, Instr.alloc, hz, newVar, newRow, run_newObj_alloc, Sem.run_pure, Result.andThen_ok]
  exact h _ _ (Nat.le_refl _) (by simp) (Arr.new w k T _) ((Below.refl _ _).alloc (Nat.le_refl _) _)
theorem step_store_arr (hg : o.guard = none) (T : TypeId) (x y : Operand) (ho : o.op = .store T x y) (g : Nat) (hx : a.eval x = .pointer (some ⟨g, 0, none⟩)) (k : IntKind) (T' : TypeId) (xs ys : List Int) (hy : a.eval y = .agg (ys.map (Value.int k)).toArray)
    (hA : Hid (Arr w g k T' xs)) (n : Nat) (hi : (P.info? T).map (·.size) = some n) (hn : Hid (xs.length = n)) (hm : Hid (ys.length = n))
    (h : ∀ w', Hid (Arr w' g k T' ys) → Hid (Only g w w') → g < w'.heap.size → K (a.put o.dst undef) w') :
    if Region.wanted o (yielded ops a.tmps) = true then Oper.wp P o a w K Q else E := by
  have hw : Region.wanted o (yielded ops a.tmps) = true := by simp [Region.wanted, hg]
  rw [if_pos hw]
  refine wp_store_row T x y ho g _ hx hy T' _ hA.out (by rw [hi]; have := hm.out; simp [this]) (by have := hm.out; have := hn.out; simp_all) ?_ (h _ ?_ ((Only.refl g w).setRow _) (by rw [size_setRow]; exact hA.out.lt))
  · apply Array.all_eq_true_iff_forall_mem.2
    intro v hv
    have hv' : v ∈ ys.map (Value.int k) := by simpa using hv
    obtain ⟨z, _, rfl⟩ := List.mem_map.1 hv'
    rfl
  · exact setRow_heap w g _ _ T' (0, 0) hA.out
end
end
/-- copy(array[:], src), all of src fitting in -/
theorem wpList_copy_into {w : World} {ops : Array Oper} {rest : List Oper} {o : Oper} {a : Act} {Q : Exit → Act → World → Prop} (hgd : o.guard = none) (d s : Operand)
    (ho : o.op = .call { callee := .builtin .copy, args := #[d, s], argTypes := #[24, 24] })
    (g : Nat) (T : TypeId) (dLen dCap n c : Nat) (A : Option Addr) (hd : a.eval d = .slice (some ⟨g, 0, none⟩) dLen dCap) (hs : a.eval s = .slice A n c)
    (cur xs : List Int) (B : Nat) (hrow : Hid (Arr w g .u8 T cur)) (hx : Holds w B A n c xs) (hn : n ≤ dLen) (hfit : n ≤ cur.length)
    (h : ∀ w', Hid (Arr w' g .u8 T (xs ++ cur.drop n)) → Hid (Below g w w') → wpList Tryd.prog ops Q rest (a.put o.dst (goInt n)) w') :
    wpList Tryd.prog ops Q (o :: rest) a w := by
  have hl := hx.len
  obtain ⟨i0, hi, hz0, hz1, hz2⟩ := info_parts info_u8
  refine wpList_copy_splice hgd d s 24 24 ho 5 Tryd.underlying24 (by rw [hi]; simp [hz1]) (some ⟨g, 0, none⟩) A dLen dCap n c hd hs g 0 (cur.map (Value.int .u8)) T hrow.out (xs.map (Value.int .u8)) (by rw [List.length_map, hl]; exact (Nat.min_eq_left hn).symm) ?_ (by simp; omega)
    (by intro v hv; obtain ⟨x, _, rfl⟩ := List.mem_map.1 hv; rfl) g w (Below.refl _ _) (Nat.le_refl _) ?_
  · intro h0
    refine ⟨rfl, ?_⟩
    obtain ⟨b, off, rfl, _, hc⟩ := hx.cells (by simp at h0; omega)
    refine ⟨⟨b, off, none⟩, rfl, fun j v hj => ?_⟩
    have hjl : j < xs.length := by
      by_cases hj' : j < xs.length
      · exact hj'
      · rw [List.getElem?_eq_none (by simp; omega)] at hj
        cases hj
    have e : (⟨b, off, none⟩ : Addr).add j = ⟨b, off + j, none⟩ := by
      by_cases hj0 : j = 0
      · subst hj0; simp [Addr.add]
      · simp [Addr.add, hj0]
    rw [e, hc j (by omega), ← hj]
    simp [hjl]
  · intro w' hr hb
    have e : (splice (cur.map (Value.int .u8)) 0 (xs.map (Value.int .u8))) = (xs ++ cur.drop n).map (Value.int .u8) := by
      simp [splice, hl]
    have hr' := hr.out
    rw [e] at hr'
    rw [List.length_map, hl] at *
    exact h w' hr' hb
end Go.Proofs.YtgfflnjggnadpaaDoor

namespace Go.Proofs.YtgfflnjggnadpaaDoor
set_option linter.all false
open Go.RowKit Go.ChangeShapes Go.WideShapes
section
variable {H : Type} {enc : TypeId × Value → H} {P : Program} {W : World} {base : Nat} {t e : TypeId} {v : Value} {d : DataW H} {p : List MemPlace}
theorem bulk_one_le (d : DataW H) : 1 ≤ Rows.uptoBulk d := by
  cases d with
  | lit l => cases l <;> simp [Rows.uptoBulk]
  | nil => simp [Rows.uptoBulk]
  | ptr d => simp [Rows.uptoBulk]
  | slice elems spare => simp [Rows.uptoBulk]
  | agg parts => simp [Rows.uptoBulk]
  | iface t d => simp [Rows.uptoBulk]
  | map entries => simp [Rows.uptoBulk]
  | held h => simp [Rows.uptoBulk]
theorem bulk_length_le (l : List (DataW H)) : l.length ≤ Rows.uptoBulkAll l := by
  induction l with
  | nil => simp [Rows.uptoBulkAll]
  | cons x r ih => have := bulk_one_le x; simp only [Rows.uptoBulkAll, List.length_cons]; omega
theorem Holds.head {w : World} {B c n : Nat} {A : Option Addr} {xs : List Int} (h : Holds w B A c c xs) (hn : n ≤ c) : Holds w B A n c (xs.take n) :=
  ⟨by have := h.len; simp; omega, hn, by have := h.room; omega, h.byte.take n, h.bare, fun h0 => by
    obtain ⟨b, off, rfl, hb, hc⟩ := h.cells (by omega)
    refine ⟨b, off, rfl, hb, fun i hi => ?_⟩
    rw [hc i (by omega)]
    simp [List.getD_eq_getElem?_getD, hi]⟩
end
end Go.Proofs.YtgfflnjggnadpaaDoor

namespace Go.Proofs.YtgfflnjggnadpaaDoor
set_option linter.all false
open Go.RowKit
set_option maxRecDepth 100000
/-- what is put together of the first k parts -/
def catL (X : Nat → List Int) : Nat → List Int
  | 0 => []
  | k + 1 => catL X k ++ X k
def sumN (n : Nat → Nat) : Nat → Nat
  | 0 => 0
  | k + 1 => sumN n k + n k
theorem sumN_le (n : Nat → Nat) {k m : Nat} (h : k ≤ m) : sumN n k ≤ sumN n m := by
  induction m with
  | zero => obtain rfl : k = 0 := by omega
            exact Nat.le_refl _
  | succ m ih =>
    by_cases he : k = m + 1
    · subst he; exact Nat.le_refl _
    · have := ih (by omega)
      simp only [sumN]
      omega
theorem catL_len {X : Nat → List Int} {n : Nat → Nat} {m : Nat} (h : ∀ i, i < m → (X i).length = n i) {k : Nat} (hk : k ≤ m) : (catL X k).length = sumN n k := by
  induction k with
  | zero => rfl
  | succ k ih => simp only [catL, sumN, List.length_append, ih (by omega), h k (by omega)]
theorem catL_bytes {X : Nat → List Int} {m : Nat} (h : ∀ i, i < m → Bytes (X i)) {k : Nat} (hk : k ≤ m) : Bytes (catL X k) := by
  induction k with
  | zero => exact Bytes.nil
  | succ k ih => exact (ih (by omega)).append (h k (by omega))
/-- block gs is a row of m slices, each of which reads as bytes -/
structure Parts (w : World) (gs m : Nat) (A : Nat → Option Addr) (n c : Nat → Nat) (X : Nat → List Int) : Prop where
  lt : gs < w.heap.size
  cell : ∀ i, i < m → w.cell? ⟨gs, i, none⟩ = some (.slice (A i) (n i) (c i))
  holds : ∀ i, i < m → Holds w w.heap.size (A i) (n i) (c i) (X i)
theorem Parts.over {w w' : World} {gs m : Nat} {A : Nat → Option Addr} {n c : Nat → Nat} {X : Nat → List Int} (h : Parts w gs m A n c X) (hb : Below w.heap.size w w') : Parts w' gs m A n c X :=
  ⟨Nat.lt_of_lt_of_le h.lt hb.size, fun i hi => by rw [← h.cell i hi]; exact hb.cell (p := ⟨gs, i, none⟩) h.lt, fun i hi => (h.holds i hi).over hb⟩
theorem Parts.drewN {w : World} {gs m : Nat} {A : Nat → Option Addr} {n c : Nat → Nat} {X : Nat → List Int} (h : Parts w gs m A n c X) (d : Nat) : Parts (w.drewN d) gs m A n c X := h.over (drewed w d)
set_option maxHeartbeats 1000000 in
theorem Grow0_any (w : World) : Calls Tryd.prog 53 #[.slice none 0 0, .int .i64 0] w fun e w' => e = .returned (.slice none 0 0) ∧ w = w' := by
  go_enter Tryd.func53, Tryd.ntmps53
  go_wp2_with fail
  go_ret
  exact ⟨rfl, rfl⟩
/-- append(out, src...), out the call's own with noughts behind it, src whatever reads as bytes -/
theorem wpList_append_bytesZ {w : World} {ops : Array Oper} {rest : List Oper} {o : Oper} {a : Act} {Q : Exit → Act → World → Prop} (hgd : o.guard = none) (s x : Operand)
    (ho : o.op = .call { callee := .builtin .append, args := #[s, x], argTypes := #[24, 24] })
    (base : Nat) (v : Value) (xs : List Int) (hs : a.eval s = v) (hown : OwnZ .u8 5 w base v xs) (B : Nat) (A : Option Addr) (m c : Nat) (ys : List Int) (hx : a.eval x = .slice A m c)
    (hr : Holds w B A m c ys) (hlen : xs.length + ys.length ≤ 140737488355328) (hbase : base ≤ w.heap.size)
    (h : ∀ v' w', Hid (OwnZ .u8 5 w' base v' (xs ++ ys)) → Below base w w' → wpList Tryd.prog ops Q rest (a.put o.dst v') w') :
    wpList Tryd.prog ops Q (o :: rest) a w := by
  obtain ⟨i0, hi0, hz0, hz1, hz2⟩ := info_parts info_u8
  have hl := hr.len
  have hOK := hown.own
  rcases A with _ | ad
  · have hc := hr.bare rfl
    have hf := hr.fit
    have hm : m = 0 := by omega
    subst hm
    subst hc
    have : ys = [] := List.eq_nil_of_length_eq_zero hl
    subst this
    refine wpList_append_own_none hgd s x 24 ho base 5 i0 1 Tryd.underlying24 hi0 v xs.length _ hs hOK hx ?_
    exact h v w (by rw [List.append_nil]; exact hown) (Below.refl _ _)
  · have hnews : ∀ j y, (ys.map (Value.int .u8))[j]? = some y → w.cell? (ad.add j) = some y := by
      intro j u hj
      have hjl : j < ys.length := by
        by_cases hj' : j < ys.length
        · exact hj'
        · rw [List.getElem?_eq_none (by simp; omega)] at hj
          cases hj
      obtain ⟨b, off, he, _, hcl⟩ := hr.cells (by omega)
      obtain rfl := Option.some.inj he
      have e : (⟨b, off, none⟩ : Addr).add j = ⟨b, off + j, none⟩ := by
        by_cases hj0 : j = 0
        · subst hj0; simp [Addr.add]
        · simp [Addr.add, hj0]
      rw [e, hcl j (by omega), ← hj]
      simp [hjl]
    have h1 : ∀ y ∈ ys.map (Value.int .u8), y.oneCell' = true := by intro v hv; obtain ⟨x, _, rfl⟩ := List.mem_map.1 hv; rfl
    have hmax : maxLen = 9223372036854775807 := rfl
    have key : ∀ ty, ∃ v' w', (Builtin.append_ #[24, 24] ty #[v, .slice (some ad) m c]).run Tryd.prog w = .ok v' w' ∧ OwnZ .u8 5 w' base v' (xs ++ ys) ∧ w.grownBy w' v.ownBlock := by
      intro ty
      rcases hown with ⟨rfl, rfl⟩ | ⟨g, z, rfl, hb, hz, hg⟩
      · by_cases hm0 : m = 0
        · subst hm0
          have : ys = [] := List.eq_nil_of_length_eq_zero hl
          subst this
          obtain ⟨v', w', hrun, _, hgr, hnil⟩ := run_append_own (P := Tryd.prog) w base 24 ty 5 i0 (.int .u8 0) 1 1 Tryd.underlying24 hi0 hz0 hz1 hz2 rfl (by omega) (.slice none 0 0) 0 [] (World.ownsRow_nil w base _ 1) ad 0 c [] rfl (fun j u hj => by cases hj) (fun u hu => by cases hu) (by omega) (by omega) hbase
          obtain rfl := hnil.2 ⟨rfl, rfl⟩
          exact ⟨_, _, hrun, OwnZ.nil _ _ _ _, hgr⟩
        · have hrun := run_append_nil (P := Tryd.prog) w 24 ty 5 i0 (.int .u8 0) Tryd.underlying24 hi0 hz0 ad m c (ys.map (Value.int .u8)) (by simp [hl, hz1]) hnews (by omega) (by omega) (by rw [hz2]; simp at hlen; omega)
          exact ⟨_, _, hrun, by simpa using grew_new .u8 5 w base ys 0 m hl hbase (by omega), ⟨rfl, rfl, rfl, by simp, fun j hj _ => Below.heap_alloc w.drew _ j hj⟩⟩
      · by_cases hroom : xs.length + m ≤ xs.length + z
        · have hrun := run_append_room (P := Tryd.prog) w 24 ty 5 i0 Tryd.underlying24 hi0 g xs.length (xs.length + z) _ hg ad m c (ys.map (Value.int .u8)) (by simp [hl, hz1]) hnews h1 hroom (by simp [hz1]; omega)
          refine ⟨_, _, hrun, .inr ⟨g, z - m, by simp [hl]; omega, hb, by simp; omega, ?_⟩, ⟨rfl, rfl, rfl, by simp, fun j _ hj => setRow_other w g j _ (fun e => hj (by simp [Value.ownBlock, e]))⟩⟩
          rw [setRow_heap w g _ _ 5 _ hg]
          congr 2
          have e1 : ((xs ++ List.replicate z 0).map (Value.int .u8)).take (xs.length * i0.size) = xs.map (Value.int .u8) := by
            rw [hz1, Nat.mul_one, List.map_append, List.take_left' (by simp)]
          have e2 : ((xs ++ List.replicate z 0).map (Value.int .u8)).drop (xs.length * i0.size + (ys.map (Value.int .u8)).length) = (List.replicate (z - m) 0).map (Value.int .u8) := by
            rw [hz1, Nat.mul_one, List.length_map, hl, ← List.drop_drop, List.map_append, List.drop_left' (by simp), ← List.map_drop, List.drop_replicate]
          rw [e1, e2]
          simp
        · have hcells : ∀ j y, (xs.map (Value.int .u8))[j]? = some y → w.cell? ((⟨g, 0, none⟩ : Addr).add j) = some y := hOK.cells (g := g) rfl
          have hrun := run_append_grow (P := Tryd.prog) w 24 ty 5 i0 (.int .u8 0) Tryd.underlying24 hi0 hz0 ⟨g, 0, none⟩ xs.length (xs.length + z) (xs.map (Value.int .u8)) (by simp [hz1]) hcells ad m c (ys.map (Value.int .u8)) (by simp [hl, hz1]) hnews (by omega) (by omega) (growslice_fits (by omega) (by rw [hz2]; omega))
          refine ⟨_, _, hrun, ?_, ⟨rfl, rfl, rfl, by simp, fun j hj _ => Below.heap_alloc w.drew _ j hj⟩⟩
          have := grew_new .u8 5 w base (xs ++ ys) (xs.length + z) (xs.length + m) (by simp [hl]) hbase (by omega)
          simpa using this
    refine wpList_plain hgd fun K hK' => ?_
    obtain ⟨v', w', hrun, h2, h3⟩ := key o.type
    unfold Oper.wp execOp
    simp only [ho, resolve, invoke, builtin, Sem.run_bind, Sem.run_pure, Result.andThen_ok, List.map_toArray, List.map_cons, List.map_nil, hs, hx, hrun]
    exact hK' _ _ (h v' w' h2 ((Below.refl _ _).grown h3 hbase (fun k hk => (World.ownsRow.lt hOK k hk).1)))
set_option maxHeartbeats 1000000 in
theorem GrowZ_any (w : World) (n : Nat) (h0 : 0 < n) (h1 : n ≤ 281474976710656) :
    Calls Tryd.prog 53 #[.slice none 0 0, .int .i64 n] w fun e w' => ∃ v, e = .returned v ∧ OwnZ .u8 5 w' w.heap.size v [] ∧ Below w.heap.size w w' := by
  obtain ⟨i0, hi, hz0, hz1, hz2⟩ := info_parts info_u8
  have hrun := fun ty => Lib.run_append_nil_zeros (P := Tryd.prog) w 24 3 ty 5 i0 (.int .u8 0) .i64 .i64 Tryd.underlying24 Tryd.underlying3 hi hz0 n h0 (by omega) (by omega) (by rw [hz2]; omega)
  have hge := grownCap_ge w n 0 5
  have hle := grownCap_le_maxLen w n 0 5 (by rw [show maxLen = 9223372036854775807 from rfl]; omega)
  obtain ⟨c, hc⟩ : ∃ c, c = grownCap w n 0 5 := ⟨_, rfl⟩
  rw [← hc] at hrun hge hle
  have hown : OwnZ .u8 5 (w.drew.alloc (.cells (Builtin.zeroCells (Value.int .u8 0).cells n ++ Builtin.zeroCells (Value.int .u8 0).cells (c - n)) 5)) w.heap.size (.slice (some ⟨w.heap.size, 0, none⟩) 0 c) [] := by
    refine .inr ⟨w.heap.size, c, by simp, Nat.le_refl _, by simpa using hle, ?_⟩
    rw [zeroCells_int, zeroCells_int, List.append_toArray, List.replicate_append_replicate, show n + (c - n) = c by omega, List.nil_append, List.map_replicate]
    exact heap_alloc_new w.drew _
  have hbel : Below w.heap.size w (w.drew.alloc (.cells (Builtin.zeroCells (Value.int .u8 0).cells n ++ Builtin.zeroCells (Value.int .u8 0).cells (c - n)) 5)) := ((Below.refl _ w).drew).alloc (Nat.le_refl _) _
  obtain ⟨w1, hw1⟩ : ∃ w1, w1 = (w.drew.alloc (.cells (Builtin.zeroCells (Value.int .u8 0).cells n ++ Builtin.zeroCells (Value.int .u8 0).cells (c - n)) 5)) := ⟨_, rfl⟩
  rw [← hw1] at hown hbel hrun
  have HR := Lib.hid hrun
  have HO := Lib.hid hown
  have hcn : (n : Int) ≤ (c : Int) := by omega
  have hc63 : c ≤ 9223372036854775807 := hle
  clear hrun hown hc hw1 hi hz0 hz1 hz2 hge hle
  go_enter Tryd.func53, Tryd.ntmps53
  go_wp2_with (first
    | (at_builtin; refine Lib.wpList_append_run _ rfl (.tmp 20) (.tmp 21) 24 3 rfl (.slice none 0 0) (.int .i64 n) rfl rfl _ w1 (HR.out _) ?_)
    | fail)
  go_ret
  exact ⟨_, rfl, HO.out, hbel⟩
theorem GrowN_any (w : World) (n : Nat) (h1 : n ≤ 281474976710656) :
    Calls Tryd.prog 53 #[.slice none 0 0, .int .i64 n] w fun e w' => ∃ v, e = .returned v ∧ OwnZ .u8 5 w' w.heap.size v [] ∧ Below w.heap.size w w' := by
  by_cases h0 : n = 0
  · subst h0
    refine (Grow0_any w).mono ?_
    rintro e w' ⟨rfl, rfl⟩
    exact ⟨_, rfl, OwnZ.nil _ _ _ _, Below.refl _ _⟩
  · exact GrowZ_any w n (by omega) h1
set_option maxHeartbeats 2000000 in
theorem ConcatZ_any (w : World) (gs m : Nat) (A : Nat → Option Addr) (n c : Nat → Nat) (X : Nat → List Int) (hP : Parts w gs m A n c X) (hm : m ≤ 1000) (hb : sumN n m ≤ 140737488355328) :
    Calls Tryd.prog 39 #[.slice (some ⟨gs, 0, none⟩) m m] w fun e w' => ∃ v, e = .returned v ∧ OwnZ .u8 5 w' w.heap.size v (catL X m) ∧ Below w.heap.size w w' := by
  have cg := fun w => Lib.hid (GrowN_any w (sumN n m) (by omega))
  have HBq : Hid (∀ k, k ≤ m → sumN n k ≤ 140737488355328) := fun k hk => by have := sumN_le n hk; omega
  have HP := Lib.hid hP
  have HC : Hid (∀ k, k ≤ m → (catL X k).length = sumN n k) := fun k hk => catL_len (fun i hi => (hP.holds i hi).len) hk
  have hgs := hP.lt
  have hcell := hP.cell
  clear hP hb
  go_enter Tryd.func39, Tryd.ntmps39
  go_wp2_with fail
  go_loop [3, 11] (fun sz i => ∃ k : Nat, k ≤ m ∧ i = .int .i64 k ∧ sz = .int .i64 (sumN n k : Nat)) (fun _ i => m - (intOf i).toNat)
  case atStart => exact ⟨0, by omega, rfl, rfl⟩
  case round =>
    obtain ⟨k, hk, rfl, rfl⟩ := hrel
    by_cases hlt : k < m
    · have q0 := hcell k hlt
      have hs1 := HBq.out (k + 1) (by omega)
      have hs0 : sumN n k ≤ 140737488355328 := HBq.out k hk
      have hnk : n k ≤ 140737488355328 := by simp only [sumN] at hs1; omega
      obtain ⟨s0, es0⟩ : ∃ s0, s0 = sumN n k := ⟨_, rfl⟩
      obtain ⟨nk, enk⟩ : ∃ nk, nk = n k := ⟨_, rfl⟩
      have es1 : sumN n (k + 1) = s0 + nk := by rw [es0, enk]; rfl
      rw [← es0] at hs0 ⊢
      rw [← enk] at hnk q0
      have ES := Lib.hid es1
      clear es0 enk es1 hs1 hcell
      go_wp2_with fail
      go_round
      case rel => exact ⟨k + 1, by omega, by go_num, by rw [ES.out]; go_num⟩
      case measure => simp [intOf]; omega
    · obtain rfl : k = m := by omega
      clear hcell
      go_wp2_with fail
      refine (cg _).out.mono ?_
      rintro e w1 ⟨v1, rfl, ho1, hbel1⟩
      have HO1 := Lib.hid ho1
      clear ho1
      go_wp2_with fail
      have hbs1 := hbel1.size
      go_loopw [6, 27] (fun v i wr => ∃ j : Nat, j ≤ k ∧ i = .int .i64 j ∧ Hid (OwnZ .u8 5 wr w.heap.size v (catL X j)) ∧ Below w.heap.size w wr) (fun _ i _ => k - (intOf i).toNat)
      case atStart => exact ⟨0, by omega, rfl, HO1, hbel1⟩
      case round =>
        obtain ⟨j, hj, rfl, hO, hbl⟩ := hrel
        by_cases hlt2 : j < k
        · have q0 : wr.cell? ⟨gs, j, none⟩ = some (.slice (A j) (n j) (c j)) := by rw [← HP.out.cell j hlt2]; exact hbl.cell (p := ⟨gs, j, none⟩) hgs
          have hH := (HP.out.holds j hlt2).below hbl
          have hlen : (catL X j).length + (X j).length ≤ 140737488355328 := by
            have h1 := HBq.out (j + 1) (by omega)
            rw [HC.out j hj, hH.len]
            simp only [sumN] at h1
            exact h1
          have hsz := Lib.hid hbl.size
          have HE : Hid (catL X (j + 1) = catL X j ++ X j) := rfl
          obtain ⟨Aj, eA⟩ : ∃ Aj, Aj = A j := ⟨_, rfl⟩
          obtain ⟨nj, en⟩ : ∃ nj, nj = n j := ⟨_, rfl⟩
          obtain ⟨cj, ec⟩ : ∃ cj, cj = c j := ⟨_, rfl⟩
          rw [← eA, ← en, ← ec] at q0 hH
          have HH := Lib.hid hH
          have HLn := Lib.hid hlen
          clear hH hlen eA en ec
          go_wp2_with (first
            | (at_builtin; refine wpList_append_bytesZ rfl (.tmp 31) (.tmp 32) rfl w.heap.size _ _ rfl hO.out w.heap.size Aj nj cj (X j) rfl HH.out HLn.out hsz.out ?_; intro v2 w2 ho2 hb2)
            | fail)
          go_roundw
          case rel => exact ⟨j + 1, by omega, by go_num, by rw [HE.out]; exact ho2, hbl.trans hb2⟩
          case measure => simp [intOf]; omega
        · obtain rfl : j = k := by omega
          go_wp2_with fail
          go_ret
          exact ⟨_, rfl, hO.out, hbl⟩
theorem ConcatN_any (w : World) (gs m : Nat) (A : Nat → Option Addr) (n c : Nat → Nat) (X : Nat → List Int) (hP : Parts w gs m A n c X) (hm : m ≤ 1000) (hb : sumN n m ≤ 140737488355328) :
    Calls Tryd.prog 39 #[.slice (some ⟨gs, 0, none⟩) m m] w fun e w' => ∃ v, e = .returned v ∧ Own w' w.heap.size v (catL X m) ∧ Below w.heap.size w w' :=
  (ConcatZ_any w gs m A n c X hP hm hb).mono fun _ _ ⟨v, h1, h2, h3⟩ => ⟨v, h1, h2.own, h3⟩
/-! ### slice literals, as parts -/

abbrev PartT := Option Addr × Nat × Nat × List Int
def partV (p : PartT) : Value := .slice p.1 p.2.1 p.2.2.1
def part0 : PartT := (none, 0, 0, [])
def partA (l : List PartT) (i : Nat) : Option Addr := (l.getD i part0).1
def partN (l : List PartT) (i : Nat) : Nat := (l.getD i part0).2.1
def partC (l : List PartT) (i : Nat) : Nat := (l.getD i part0).2.2.1
def partX (l : List PartT) (i : Nat) : List Int := (l.getD i part0).2.2.2
theorem Parts.lit (w : World) (l : List PartT) (T : TypeId) (hh : ∀ p ∈ l, Holds w w.heap.size p.1 p.2.1 p.2.2.1 p.2.2.2) :
    Parts (w.alloc (.cells (l.map partV).toArray T)) w.heap.size l.length (partA l) (partN l) (partC l) (partX l) := by
  have hb : Below w.heap.size w (w.alloc (.cells (l.map partV).toArray T)) := (Below.refl _ _).alloc (Nat.le_refl _) _
  refine ⟨by simp, fun i hi => ?_, fun i hi => ?_⟩
  · have hr : (w.alloc (.cells (l.map partV).toArray T)).heap[w.heap.size]? = some (.cells (l.map partV).toArray T (0, 0)) := heap_alloc_new w _
    rw [cell_of_row _ w.heap.size i _ T (0, 0) hr]
    simp [partA, partN, partC, List.getD_eq_getElem?_getD, hi, partV]
  · have he : l.getD i part0 = l[i] := by simp [List.getD_eq_getElem?_getD, hi]
    have := hh l[i] (List.getElem_mem hi)
    unfold partA partN partC partX
    rw [he]
    exact this.over hb
section
variable {ops : Array Oper} {rest : List Oper} {o : Oper} {a : Act} {w : World} {Q : Exit → Act → World → Prop}
theorem wpList_litParts (hg : o.guard = none) (n : Nat) (parts : Array (Nat × Operand)) (ho : o.op = .buildSlice 22 n parts) (l : List PartT) (hl : l.length = n)
    (hf : Tryd.prog.builtSlice 24 n (parts.map fun (i, x) => (i, a.eval x)).toList = some (l.map partV).toArray) (hh : ∀ p ∈ l, Holds w w.heap.size p.1 p.2.1 p.2.2.1 p.2.2.2)
    (h : ∀ g w', Hid (Parts w' g n (partA l) (partN l) (partC l) (partX l)) → Hid (Below w.heap.size w w') → wpList Tryd.prog ops Q rest (a.put o.dst (.slice (some ⟨g, 0, none⟩) n n)) w') :
    wpList Tryd.prog ops Q (o :: rest) a w := by
  subst hl
  exact Great.wpList_buildSliceTo hg _ _ _ parts ho w.heap.size rfl _ rfl Tryd.underlying22 _ hf (h _ _ (Parts.lit w l _ hh) ((Below.refl _ _).alloc (Nat.le_refl _) _))
end
end Go.Proofs.YtgfflnjggnadpaaDoor

namespace Go.Proofs.YtgfflnjggnadpaaDoor
set_option linter.all false
set_option maxRecDepth 100000
open Go.RowKit
set_option linter.unusedVariables false
/-! ### heads that are turned -/
/-- bytes of a head with another Next -/
def setNx (xs : List Int) (n : Int) : List Int := xs.take 20 ++ le n 4 ++ xs.drop 24
/-- .. with other Flags -/
def setFl (xs : List Int) (f : Int) : List Int := xs.take 16 ++ le f 4 ++ xs.drop 20
/-- Flags with Signed among them -/
def flS (f : Int) : Int := if f / 8 % 2 = 1 then f else f + 8
theorem setNx_len (xs : List Int) (n : Int) (h : 24 ≤ xs.length) : (setNx xs n).length = xs.length := by simp [setNx, le_length]; omega
theorem setNx_bytes {xs : List Int} (n : Int) (h : Bytes xs) : Bytes (setNx xs n) := ((h.take _).append (le_bytes _ _)).append (h.drop _)
theorem setNx_app (xs ys : List Int) (n : Int) (h : 24 ≤ xs.length) : setNx (xs ++ ys) n = setNx xs n ++ ys := by
  unfold setNx
  rw [List.take_append_of_le_length (by omega), List.drop_append_of_le_length (by omega), List.append_assoc, List.append_assoc, List.append_assoc]
theorem setFl_app (xs ys : List Int) (n : Int) (h : 20 ≤ xs.length) : setFl (xs ++ ys) n = setFl xs n ++ ys := by
  unfold setFl
  rw [List.take_append_of_le_length (by omega), List.drop_append_of_le_length (by omega), List.append_assoc, List.append_assoc, List.append_assoc]
def nxH (h : Hd) (n : Int) : Hd := { h with nx := n }
def flH (h : Hd) (f : Int) : Hd := { h with fl := f }
def sgH (h : Hd) (s : List Int) : Hd := { h with sg := s }
def restN (h : Hd) : List Int := le h.id 8 ++ (le (aot h) 8 ++ (le h.se 8 ++ h.sg))
theorem putH_split (h : Hd) : putH h = pre h 6 ++ (le h.fl 4 ++ (le h.nx 4 ++ restN h)) := by
  show pre h 6 ++ le h.fl 4 ++ le h.nx 4 ++ le h.id 8 ++ le (aot h) 8 ++ le h.se 8 ++ h.sg = _
  unfold restN
  simp only [List.append_assoc]
theorem putH_nx (h : Hd) (n : Int) : putH (nxH h n) = setNx (putH h) n := by
  have h6 : (pre h 6).length = 16 := pre_len h 6 (by omega)
  have e : pre (nxH h n) 6 = pre h 6 := rfl
  have e2 : restN (nxH h n) = restN h := rfl
  rw [putH_split, putH_split h, e, e2]
  unfold setNx
  have a1 : (pre h 6 ++ le h.fl 4).length = 20 := by rw [List.length_append, h6, le_length]
  have a2 : (pre h 6 ++ le h.fl 4 ++ le h.nx 4).length = 24 := by rw [List.length_append, a1, le_length]
  have t1 : (pre h 6 ++ (le h.fl 4 ++ (le h.nx 4 ++ restN h))).take 20 = pre h 6 ++ le h.fl 4 := by rw [← List.append_assoc, List.take_left' a1]
  have t2 : (pre h 6 ++ (le h.fl 4 ++ (le h.nx 4 ++ restN h))).drop 24 = restN h := by rw [← List.append_assoc, ← List.append_assoc, List.drop_left' a2]
  rw [t1, t2]
  simp only [List.append_assoc]
  rfl
theorem putH_fl (h : Hd) (f : Int) (hi : isAs f = isAs h.fl) : putH (flH h f) = setFl (putH h) f := by
  have h6 : (pre h 6).length = 16 := pre_len h 6 (by omega)
  have e : pre (flH h f) 6 = pre h 6 := rfl
  have ea : aot (flH h f) = aot h := by
    unfold aot
    show (if isAs f = true then h.asy else h.tr * 4294967296) = _
    rw [hi]
  have e2 : restN (flH h f) = restN h := by
    unfold restN
    rw [ea]
    rfl
  rw [putH_split, putH_split h, e, e2]
  unfold setFl
  have a2 : (pre h 6 ++ le h.fl 4).length = 20 := by rw [List.length_append, h6, le_length]
  have t1 : (pre h 6 ++ (le h.fl 4 ++ (le h.nx 4 ++ restN h))).take 16 = pre h 6 := List.take_left' h6
  have t2 : (pre h 6 ++ (le h.fl 4 ++ (le h.nx 4 ++ restN h))).drop 20 = le h.nx 4 ++ restN h := by rw [← List.append_assoc, List.drop_left' a2]
  rw [t1, t2]
  simp only [List.append_assoc]
  rfl
theorem putH_sg (h : Hd) (sg : List Int) : putH (sgH h sg) = (putH h).take 48 ++ sg := by
  have e : pre (sgH h sg) 11 = pre h 11 := rfl
  have h48 : (pre h 11).length = 48 := pre_len h 11 (by omega)
  unfold putH
  rw [e, List.take_left' h48]
  rfl
theorem small16 {f : Int} (h0 : 0 ≤ f) (h1 : f < 16) : f = 0 ∨ f = 1 ∨ f = 2 ∨ f = 3 ∨ f = 4 ∨ f = 5 ∨ f = 6 ∨ f = 7 ∨ f = 8 ∨ f = 9 ∨ f = 10 ∨ f = 11 ∨ f = 12 ∨ f = 13 ∨ f = 14 ∨ f = 15 := by omega
theorem flS_small {f : Int} (h0 : 0 ≤ f) (h1 : f < 16) : 0 ≤ flS f ∧ flS f < 16 ∧ isAs (flS f) = isAs f ∧ flS f / 8 % 2 = 1 ∧ flS (flS f) = flS f ∧ flS f / 4 % 2 = f / 4 % 2 := by
  rcases small16 h0 h1 with rfl | rfl | rfl | rfl | rfl | rfl | rfl | rfl | rfl | rfl | rfl | rfl | rfl | rfl | rfl | rfl <;> decide
theorem or8 {f : Int} (h0 : 0 ≤ f) (h1 : f < 16) : bits .or .u32 f 8 = flS f := by
  rcases small16 h0 h1 with rfl | rfl | rfl | rfl | rfl | rfl | rfl | rfl | rfl | rfl | rfl | rfl | rfl | rfl | rfl | rfl <;> decide
/-! ### messages that may be in a chain -/
def msgOk (m : List Int) : Bool := decide (getErrH m 0 = 0) && decide ((getOfH m 0).nx = 0)
/-- bytes that begin with a head -/
theorem head_of {m : List Int} (hb : Bytes m) (h : getErrH m 0 = 0) : 64 ≤ m.length ∧ putH (getOfH m 0) = m.take 64 ∧ mayP (getOfH m 0) = true ∧ (getOfH m 0).ok := by
  have hp : partErr m.length 0 64 = 0 := by
    unfold getErrH at h
    by_cases hp : partErr m.length 0 64 = 0
    · exact hp
    · rw [if_neg hp] at h; exact h
  have hr := part_room hp
  have h64 : 64 ≤ m.length := by have := hr.2; simp at this; exact this
  have hh : headP (m.take 64) = true := by
    unfold getErrH at h
    rw [if_pos hp] at h
    by_cases q : headP ((m.drop (Int.toNat 0)).take 64) = true
    · simpa using q
    · rw [if_neg q] at h; cases h
  have hg : getOfH m 0 = takenP (m.take 64) := by
    unfold getOfH
    rw [if_pos h]
    simp
  have ht := put_of_headP (hb.take 64) (by simp; omega) hh
  rw [hg]
  exact ⟨h64, ht.1, ht.2, takenP_ok _ (hb.take 64) (by simp; omega)⟩
theorem msg_of {m : List Int} (hb : Bytes m) (h : msgOk m = true) : 64 ≤ m.length ∧ putH (getOfH m 0) = m.take 64 ∧ mayP (getOfH m 0) = true ∧ (getOfH m 0).ok ∧ (getOfH m 0).nx = 0 ∧ getErrH m 0 = 0 := by
  unfold msgOk at h
  rw [Bool.and_eq_true, decide_eq_true_eq, decide_eq_true_eq] at h
  have := head_of hb h.1
  exact ⟨this.1, this.2.1, this.2.2.1, this.2.2.2, h.2, h.1⟩
theorem may_parts {h : Hd} (hm : mayP h = true) : known h.cm = true ∧ h.fl < 16 ∧ (if isAs h.fl = true then decide (h.tr = 0) else decide (h.asy = 0)) = true := by
  unfold mayP at hm
  rw [Bool.and_eq_true, Bool.and_eq_true, decide_eq_true_eq] at hm
  exact hm
theorem may_nx {h : Hd} (hm : mayP h = true) (n : Int) : mayP (nxH h n) = true := hm
theorem may_sg {h : Hd} (hm : mayP h = true) (s : List Int) : mayP (sgH h s) = true := hm
theorem may_fl {h : Hd} (k : h.ok) (hm : mayP h = true) : mayP (flH h (flS h.fl)) = true := by
  obtain ⟨h1, h2, h3⟩ := may_parts hm
  have hf := flS_small k.fl.1 h2
  unfold mayP
  show (known h.cm && (decide (flS h.fl < 16) && (if isAs (flS h.fl) = true then decide (h.tr = 0) else decide (h.asy = 0)))) = true
  rw [h1, decide_eq_true hf.2.1, hf.2.2.1, h3]
  rfl
theorem ok_nx {h : Hd} (k : h.ok) {n : Int} (h0 : 0 ≤ n) (h1 : n ≤ 4294967295) : (nxH h n).ok := ⟨k.ch, k.st, k.cm, k.cr, k.fl, ⟨h0, h1⟩, k.id, k.asy, k.tr, k.se, k.len, k.byte⟩
theorem ok_fl {h : Hd} (k : h.ok) {f : Int} (h0 : 0 ≤ f) (h1 : f ≤ 4294967295) : (flH h f).ok := ⟨k.ch, k.st, k.cm, k.cr, ⟨h0, h1⟩, k.nx, k.id, k.asy, k.tr, k.se, k.len, k.byte⟩
theorem ok_sg {h : Hd} (k : h.ok) {s : List Int} (hl : s.length = 16) (hb : Bytes s) : (sgH h s).ok := ⟨k.ch, k.st, k.cm, k.cr, k.fl, k.nx, k.id, k.asy, k.tr, k.se, hl, hb⟩
/-! ### what Seal makes of a message -/
/-- a message, padded, with its Next (the last one as it is) -/
def rawC (last : Bool) (m : List Int) : List Int := if last = true then m else setNx (padOf m) (padLen m.length : Nat)
def sealC (ks : List Int) (last : Bool) (m : List Int) : List Int := if ks = [] then rawC last m else signL ks (setFl (rawC last m) (flS (getOfH m 0).fl))
def sealX (ks : List Int) (L : List (List Int)) (i : Nat) : List Int := sealC ks (decide (i + 1 = L.length)) (L.getD i [])
def chainErr (L : List (List Int)) : Int := if L.length = 0 ∨ L.all msgOk = false then 2 else if 8 < L.length then 3 else 0
def sealOf (ks : List Int) (L : List (List Int)) : List Int := if chainErr L = 0 then catL (sealX ks L) L.length else []
theorem pad_facts (n : Nat) : n ≤ padLen n ∧ padLen n ≤ n + 7 ∧ padLen n % 8 = 0 := by unfold padLen; omega
theorem padOf_len (m : List Int) : (padOf m).length = padLen m.length := by
  have := pad_facts m.length
  simp [padOf]; omega
theorem padOf_bytes {m : List Int} (h : Bytes m) : Bytes (padOf m) := h.append (Bytes.zeros _)
theorem rawC_len (last : Bool) (m : List Int) (h : 64 ≤ m.length) : (rawC last m).length = if last = true then m.length else padLen m.length := by
  unfold rawC
  have := pad_facts m.length
  split
  · rfl
  · rw [setNx_len _ _ (by rw [padOf_len]; omega), padOf_len]
theorem rawC_bytes (last : Bool) {m : List Int} (h : Bytes m) : Bytes (rawC last m) := by
  unfold rawC
  split
  · exact h
  · exact setNx_bytes _ (padOf_bytes h)
/-- the head that a part has -/
def headC (ks : List Int) (last : Bool) (m : List Int) : Hd :=
  if ks = [] then nxH (getOfH m 0) (if last = true then 0 else (padLen m.length : Nat)) else flH (nxH (getOfH m 0) (if last = true then 0 else (padLen m.length : Nat))) (flS (getOfH m 0).fl)
/-- what is behind it -/
def tailC (last : Bool) (m : List Int) : List Int := (if last = true then m else padOf m).drop 64
/-- a part, ahead of its being signed -/
theorem part_put (ks : List Int) (last : Bool) {m : List Int} (hb : Bytes m) (h : msgOk m = true) (hs : padLen m.length ≤ 4294967295) :
    (headC ks last m).ok ∧ mayP (headC ks last m) = true ∧ putH (headC ks last m) ++ tailC last m = (if ks = [] then rawC last m else setFl (rawC last m) (flS (getOfH m 0).fl)) := by
  obtain ⟨h64, hp, hm, hk, hn, _⟩ := msg_of hb h
  obtain ⟨g, hg⟩ : ∃ g, g = getOfH m 0 := ⟨_, rfl⟩
  rw [← hg] at hp hm hk hn
  have e1 : putH (nxH g (if last = true then 0 else ((padLen m.length : Nat) : Int))) ++ tailC last m = rawC last m := by
    unfold tailC rawC
    cases last
    · have hd : (padOf m).take 64 = m.take 64 := by unfold padOf; rw [List.take_append_of_le_length h64]
      have hpf := pad_facts m.length
      have ht : 24 ≤ ((padOf m).take 64).length := by rw [List.length_take, padOf_len]; omega
      rw [if_neg (by decide), if_neg (by decide), if_neg (by decide), putH_nx, hp, ← hd, ← setNx_app _ _ _ ht, List.take_append_drop]
    · have : nxH g 0 = g := by unfold nxH; rw [← hn]
      rw [if_pos rfl, if_pos rfl, if_pos rfl, this, hp, List.take_append_drop]
  have k1 : (nxH g (if last = true then 0 else ((padLen m.length : Nat) : Int))).ok := ok_nx hk (by split <;> omega) (by split <;> omega)
  have m1 : mayP (nxH g (if last = true then 0 else ((padLen m.length : Nat) : Int))) = true := may_nx hm _
  unfold headC
  rw [← hg]
  obtain ⟨q, hq⟩ : ∃ q, q = nxH g (if last = true then 0 else ((padLen m.length : Nat) : Int)) := ⟨_, rfl⟩
  have hfl : g.fl = q.fl := by rw [hq]; rfl
  rw [← hq] at e1 k1 m1 ⊢
  by_cases he : ks = []
  · rw [if_pos he, if_pos he]
    exact ⟨k1, m1, e1⟩
  · rw [if_neg he, if_neg he]
    obtain ⟨q1, q2, q3⟩ := may_parts m1
    have hf := flS_small k1.fl.1 q2
    rw [hfl]
    refine ⟨ok_fl k1 hf.1 (by have := hf.2.1; omega), may_fl k1 m1, ?_⟩
    rw [← e1, setFl_app _ _ _ (by rw [putH_len k1.len]; omega), putH_fl _ _ hf.2.2.1]
theorem sealC_form (ks : List Int) (last : Bool) {m : List Int} (hb : Bytes m) (h : msgOk m = true) (hs : padLen m.length ≤ 4294967295) :
    ∃ g : Hd, g.ok ∧ mayP g = true ∧ sealC ks last m = putH g ++ tailC last m ∧ g.nx = (if last = true then 0 else ((padLen m.length : Nat) : Int)) ∧ g.fl = (if ks = [] then (getOfH m 0).fl else flS (getOfH m 0).fl) := by
  obtain ⟨k, hm, e⟩ := part_put ks last hb h hs
  unfold sealC
  by_cases he : ks = []
  · rw [if_pos he] at e ⊢
    refine ⟨headC ks last m, k, hm, e.symm, ?_, ?_⟩
    · unfold headC; rw [if_pos he]; rfl
    · unfold headC; rw [if_pos he, if_pos he]; rfl
  · rw [if_neg he] at e ⊢
    rw [← e]
    have hl := putH_len k.len
    have hlb := putH_bytes k.byte
    obtain ⟨q, hq⟩ : ∃ q, q = headC ks last m := ⟨_, rfl⟩
    have h5 : q.nx = (if last = true then 0 else ((padLen m.length : Nat) : Int)) := by rw [hq]; unfold headC; rw [if_neg he]; rfl
    have h6 : q.fl = flS (getOfH m 0).fl := by rw [hq]; unfold headC; rw [if_neg he]; rfl
    rw [← hq] at k hm hl hlb ⊢
    refine ⟨sgH q (sigL ks (putH q ++ tailC last m)), ok_sg k (sigL_len _ _) (sigL_bytes _ _), may_sg hm _, ?_, h5, by rw [if_neg he]; exact h6⟩
    rw [putH_sg]
    unfold signL
    rw [List.take_append_of_le_length (by omega), List.drop_left' hl]
theorem tailC_len (last : Bool) {m : List Int} (h : 64 ≤ m.length) : (tailC last m).length = (if last = true then m.length else padLen m.length) - 64 := by
  unfold tailC
  cases last
  · simp [padOf_len]
  · simp
theorem tailC_bytes (last : Bool) {m : List Int} (h : Bytes m) : Bytes (tailC last m) := by
  unfold tailC
  split
  · exact h.drop _
  · exact (padOf_bytes h).drop _
theorem sealC_len (ks : List Int) (last : Bool) {m : List Int} (hb : Bytes m) (h : msgOk m = true) (hs : padLen m.length ≤ 4294967295) : (sealC ks last m).length = if last = true then m.length else padLen m.length := by
  obtain ⟨g, k, _, e, _, _⟩ := sealC_form ks last hb h hs
  have h64 := (msg_of hb h).1
  have := pad_facts m.length
  rw [e, List.length_append, putH_len k.len, tailC_len last h64]
  split <;> omega
theorem sealC_bytes (ks : List Int) (last : Bool) {m : List Int} (hb : Bytes m) (h : msgOk m = true) (hs : padLen m.length ≤ 4294967295) : Bytes (sealC ks last m) := by
  obtain ⟨g, k, _, e, _, _⟩ := sealC_form ks last hb h hs
  rw [e]
  exact (putH_bytes k.byte).append (tailC_bytes last hb)
/-! ### what Split finds -/
/-- the error of the part that these bytes begin with -/
def partE (r : List Int) : Int := if getErrH r 0 = 0 then (if (getOfH r 0).nx % 8 ≠ 0 ∨ (0 < (getOfH r 0).nx ∧ (getOfH r 0).nx < 64) then 5 else if (r.length : Int) < (getOfH r 0).nx then 4 else 0) else getErrH r 0
def nxt (r : List Int) : Nat := (getOfH r 0).nx.toNat
/-- parts that were found ahead of others -/
def ahead (P : List (List Int)) (q : Int × List (List Int)) : Int × List (List Int) := if q.1 = 0 then (0, P ++ q.2) else (q.1, [])
/-- the parts of bytes ahead of which there were 8 less f -/
def spl : Nat → List Int → Int × List (List Int)
  | 0, r => if partE r = 0 then (3, []) else (partE r, [])
  | f + 1, r => if partE r = 0 then (if nxt r = 0 then (0, [r]) else ahead [r.take (nxt r)] (spl f (r.drop (nxt r)))) else (partE r, [])
def isRel (f : Int) : Bool := decide (f / 4 % 2 = 1)
def relH (b : List Int) : Bool := isRel (getOfH b 0).fl
/-- what Split answers -/
def splD (b : List Int) : Int × List (List Int) := if partE b = 0 then (if relH b = true then (5, []) else spl 8 b) else (partE b, [])
theorem ahead_nil (q : Int × List (List Int)) (h : q.1 ≠ 0 → q.2 = []) : ahead [] q = q := by
  unfold ahead
  by_cases h0 : q.1 = 0
  · rw [if_pos h0, List.nil_append, ← h0]
  · rw [if_neg h0, ← h h0]
theorem ahead_ahead (P R : List (List Int)) (q : Int × List (List Int)) : ahead P (ahead R q) = ahead (P ++ R) q := by
  unfold ahead
  by_cases h0 : q.1 = 0
  · rw [if_pos h0, if_pos rfl, if_pos h0, List.append_assoc]
  · rw [if_neg h0, if_neg h0, if_neg h0]
theorem spl_err (f : Nat) (r : List Int) : (spl f r).1 ≠ 0 → (spl f r).2 = [] := by
  cases f with
  | zero =>
    intro _
    unfold spl
    split <;> rfl
  | succ f =>
    unfold spl
    split
    · split
      · intro h; exact absurd rfl h
      · unfold ahead
        split
        · intro h; exact absurd rfl h
        · intro _; rfl
    · intro _; rfl
theorem partE_ok {r : List Int} (h : partE r = 0) : getErrH r 0 = 0 ∧ (getOfH r 0).nx % 8 = 0 ∧ ((getOfH r 0).nx ≤ 0 ∨ 64 ≤ (getOfH r 0).nx) ∧ (getOfH r 0).nx ≤ r.length := by
  unfold partE at h
  by_cases h0 : getErrH r 0 = 0
  · rw [if_pos h0] at h
    by_cases h1 : (getOfH r 0).nx % 8 ≠ 0 ∨ (0 < (getOfH r 0).nx ∧ (getOfH r 0).nx < 64)
    · rw [if_pos h1] at h; cases h
    · rw [if_neg h1] at h
      by_cases h2 : (r.length : Int) < (getOfH r 0).nx
      · rw [if_pos h2] at h; cases h
      · refine ⟨h0, ?_, ?_, ?_⟩ <;> omega
  · rw [if_neg h0] at h
    exact absurd h h0
theorem nxt_le {r : List Int} (h : partE r = 0) : nxt r ≤ r.length ∧ (nxt r = 0 ∨ 64 ≤ nxt r) ∧ nxt r % 8 = 0 := by
  have := partE_ok h
  unfold nxt
  omega
theorem get_begin {g : Hd} (k : g.ok) (hm : mayP g = true) (z : List Int) : getErrH (putH g ++ z) 0 = 0 ∧ getOfH (putH g ++ z) 0 = g := by
  have := get_put k hm [] z
  simpa using this
/-- a chain's parts, one by one -/
def sealL (ks : List Int) : List (List Int) → List (List Int)
  | [] => []
  | m :: r => sealC ks r.isEmpty m :: sealL ks r
theorem sealL_len (ks : List Int) (L : List (List Int)) : (sealL ks L).length = L.length := by
  induction L with
  | nil => rfl
  | cons m r ih => simp [sealL, ih]
theorem sealL_get (ks : List Int) (L : List (List Int)) (i : Nat) (hi : i < L.length) : (sealL ks L)[i]? = some (sealX ks L i) := by
  induction L generalizing i with
  | nil => cases hi
  | cons m r ih =>
    cases i with
    | zero =>
      unfold sealX
      cases r with
      | nil => rfl
      | cons a b => simp [sealL]
    | succ i =>
      have h1 := ih i (by simpa using hi)
      show (sealL ks r)[i]? = _
      rw [h1]
      unfold sealX
      congr 2
      simp
theorem sealL_range (ks : List Int) (L : List (List Int)) : sealL ks L = (List.range L.length).map (sealX ks L) := by
  apply List.ext_getElem?
  intro i
  by_cases hi : i < L.length
  · rw [sealL_get ks L i hi, List.getElem?_map, List.getElem?_range hi]
    rfl
  · rw [List.getElem?_eq_none (by rw [sealL_len]; omega), List.getElem?_eq_none (by simp; omega)]
theorem catL_flat (X : Nat → List Int) (m : Nat) : catL X m = ((List.range m).map X).flatten := by
  induction m with
  | zero => rfl
  | succ m ih => rw [List.range_succ, List.map_append, List.flatten_append, ← ih]; simp [catL]
theorem catL_seal (ks : List Int) (L : List (List Int)) : catL (sealX ks L) L.length = (sealL ks L).flatten := by rw [catL_flat, ← sealL_range]
def Msgs (L : List (List Int)) : Prop := ∀ m ∈ L, Bytes m ∧ msgOk m = true ∧ padLen m.length ≤ 4294967295
theorem part_begin (ks : List Int) (last : Bool) {m : List Int} (hb : Bytes m) (h : msgOk m = true) (hs : padLen m.length ≤ 4294967295) (z : List Int) (hz : last = true → z = []) :
    partE (sealC ks last m ++ z) = 0 ∧ nxt (sealC ks last m ++ z) = (if last = true then 0 else (sealC ks last m).length) ∧ (getOfH (sealC ks last m ++ z) 0).fl = (if ks = [] then (getOfH m 0).fl else flS (getOfH m 0).fl) := by
  have hl := sealC_len ks last hb h hs
  obtain ⟨g, k, hm, e, hn, hf⟩ := sealC_form ks last hb h hs
  have h64 := (msg_of hb h).1
  have hpf := pad_facts m.length
  obtain ⟨y, hy⟩ : ∃ y, y = sealC ks last m := ⟨_, rfl⟩
  rw [← hy] at hl e ⊢
  have hg := get_begin k hm (tailC last m ++ z)
  rw [← List.append_assoc, ← e] at hg
  refine ⟨?_, ?_, ?_⟩
  · unfold partE
    rw [if_pos hg.1, hg.2, hn]
    have hla : (y ++ z).length = y.length + z.length := List.length_append
    cases last
    · rw [if_neg (by decide)] at hl
      simp only [Bool.false_eq_true, if_false]
      rw [if_neg (by omega), if_neg (by omega)]
    · rw [if_pos rfl] at hl
      simp only [if_true]
      rw [if_neg (by omega), if_neg (by omega)]
  · unfold nxt
    rw [hg.2, hn]
    cases last
    · rw [if_neg (by decide)] at hl
      simp only [Bool.false_eq_true, if_false]
      rw [hl]
      exact Int.toNat_natCast _
    · rfl
  · rw [hg.2, hf]
/-- Split of what Seal made -/
theorem spl_seal (ks : List Int) (L : List (List Int)) (f : Nat) (h0 : L ≠ []) (hf : L.length ≤ f) (hL : Msgs L) : spl f (sealL ks L).flatten = (0, sealL ks L) := by
  induction L generalizing f with
  | nil => exact absurd rfl h0
  | cons m r ih =>
    obtain ⟨hb, hm, hs⟩ := hL m List.mem_cons_self
    cases f with
    | zero => simp at hf
    | succ f =>
      cases r with
      | nil =>
        obtain ⟨p1, p2, _⟩ := part_begin ks true hb hm hs [] (fun _ => rfl)
        show spl (f + 1) ([sealC ks true m].flatten) = (0, [sealC ks true m])
        rw [List.append_nil, if_pos rfl] at p2
        rw [List.append_nil] at p1
        have e : [sealC ks true m].flatten = sealC ks true m := by simp
        rw [e]
        unfold spl
        rw [if_pos p1, if_pos p2]
      | cons m2 r2 =>
        have hi := ih f (by simp) (by simp at hf ⊢; omega) (fun x hx => hL x (List.mem_cons_of_mem _ hx))
        obtain ⟨p1, p2, _⟩ := part_begin ks false hb hm hs (sealL ks (m2 :: r2)).flatten (by intro h; cases h)
        have hl := sealC_len ks false hb hm hs
        have h64 := (msg_of hb hm).1
        have hpf := pad_facts m.length
        show spl (f + 1) (sealC ks false m ++ (sealL ks (m2 :: r2)).flatten) = (0, sealC ks false m :: sealL ks (m2 :: r2))
        rw [if_neg (by decide)] at p2 hl
        unfold spl
        rw [if_pos p1, if_neg (by rw [p2, hl]; omega), p2, List.take_left' rfl, List.drop_left' rfl, hi]
        rfl
theorem chainErr_ok {L : List (List Int)} (h : chainErr L = 0) : L ≠ [] ∧ L.length ≤ 8 ∧ ∀ m ∈ L, msgOk m = true := by
  unfold chainErr at h
  by_cases h0 : L.length = 0 ∨ L.all msgOk = false
  · rw [if_pos h0] at h; cases h
  · rw [if_neg h0] at h
    by_cases h1 : 8 < L.length
    · rw [if_pos h1] at h; cases h
    · have h2 : L.all msgOk = true := by
        cases hq : L.all msgOk
        · exact absurd (Or.inr hq) h0
        · rfl
      refine ⟨fun e => h0 (.inl (by rw [e]; rfl)), by omega, fun m hm => List.all_eq_true.1 h2 m hm⟩
end Go.Proofs.YtgfflnjggnadpaaDoor

namespace Go.Proofs.YtgfflnjggnadpaaDoor
set_option linter.all false
set_option maxRecDepth 100000
open Go.RowKit
/-- block g is a variable of type T whose cells are cs, none frozen -/
def Blk (w : World) (g : Nat) (T : TypeId) (cs : List Value) : Prop := w.heap[g]? = some (.cells cs.toArray T (0, 0))
/-- the cells of a head -/
def hcells (h : Hd) : List Value := .int .u16 h.ch :: .int .u32 h.st :: .int .u16 h.cm :: .int .u16 h.cr :: .int .u32 h.fl :: .int .u32 h.nx :: .int .u64 h.id :: .int .u64 h.asy :: .int .u32 h.tr :: .int .u64 h.se :: h.sg.map (Value.int .u8)
def hv (h : Hd) : Value := .agg (hcells h).toArray
/-- block g is a head -/
def HB (w : World) (g : Nat) (h : Hd) : Prop := Blk w g 49 (hcells h)
/-- nothing but block g may have turned, of what was there; there may be more -/
structure Save (g : Nat) (w w' : World) : Prop where
  os : w'.os = w.os
  tape : w'.tape = w.tape
  output : w'.output = w.output
  size : w.heap.size ≤ w'.heap.size
  rest : ∀ j, j < w.heap.size → j ≠ g → w'.heap[j]? = w.heap[j]?
section
variable {w w' w2 : World} {g g' B : Nat} {T T' : TypeId} {cs cs' : List Value} {h h' : Hd} {k : IntKind} {xs : List Int}
theorem Save.refl (g : Nat) (w : World) : Save g w w := ⟨rfl, rfl, rfl, Nat.le_refl _, fun _ _ _ => rfl⟩
theorem Save.trans (a : Save g w w') (b : Save g w' w2) : Save g w w2 :=
  ⟨b.os.trans a.os, b.tape.trans a.tape, b.output.trans a.output, Nat.le_trans a.size b.size, fun j hj hg => (b.rest j (Nat.lt_of_lt_of_le hj a.size) hg).trans (a.rest j hj hg)⟩
theorem Save.of_below (hb : Below w.heap.size w w') (g : Nat) : Save g w w' := ⟨hb.os, hb.tape, hb.output, hb.size, fun j hj _ => hb.block j hj⟩
theorem Save.of_only (hO : Only g w w') : Save g w w' := ⟨hO.os, hO.tape, hO.output, Nat.le_of_eq hO.size.symm, fun j _ hg => hO.rest j hg⟩
theorem Save.below (a : Save g w w') (hg : B ≤ g) (hB : B ≤ w.heap.size) : Below B w w' := ⟨a.os, a.tape, a.output, a.size, fun j hj => a.rest j (by omega) (by omega)⟩
theorem only_setCell (w : World) (g i : Nat) (v : Value) : Only g w (w.setCell ⟨g, i, none⟩ v) := (Only.refl g w).setCell i v
theorem below_only (hb : Below B w w') (hO : Only g w' w2) (hg : B ≤ g) : Below B w w2 := hb.trans (hO.below hg)
theorem Blk.lt (a : Blk w g T cs) : g < w.heap.size := (Array.getElem?_eq_some_iff.1 a).1
theorem Blk.cell (a : Blk w g T cs) (i : Nat) : w.cell? ⟨g, i, none⟩ = cs[i]? := by rw [cell_of_row w g i _ T (0, 0) a]; simp
theorem Blk.frozen (a : Blk w g T cs) (i : Nat) : w.frozen? ⟨g, i, none⟩ = false := frozen_of_row w g i _ T a
theorem Blk.below (a : Blk w g T cs) (hb : Below B w w') (hg : g < B) : Blk w' g T cs := (hb.block g hg).trans a
theorem Blk.over (a : Blk w g T cs) (hb : Below w.heap.size w w') : Blk w' g T cs := a.below hb a.lt
theorem Blk.only (a : Blk w g T cs) (hO : Only g' w w') (hg : g ≠ g') : Blk w' g T cs := (hO.rest g hg).trans a
theorem Blk.save (a : Blk w g T cs) (hS : Save g' w w') (hg : g ≠ g') : Blk w' g T cs := (hS.rest g a.lt hg).trans a
theorem Blk.drew (a : Blk w g T cs) : Blk w.drew g T cs := a
theorem Blk.drewN (a : Blk w g T cs) (n : Nat) : Blk (w.drewN n) g T cs := a
theorem Blk.alloc (a : Blk w g T cs) (o : Obj) : Blk (w.alloc o) g T cs := (Below.heap_alloc _ _ _ a.lt).trans a
theorem Blk.new (w : World) (T : TypeId) (cs : List Value) : Blk (w.alloc (.cells cs.toArray T)) w.heap.size T cs := heap_alloc_new w _
theorem Blk.set (a : Blk w g T cs) (i : Nat) (v : Value) : Blk (w.setCell ⟨g, i, none⟩ v) g T (cs.set i v) := by
  have h1 := heap_setCell_same w g i _ T v a
  unfold Blk
  rw [h1]
  simp
theorem Blk.range (a : Blk w g T cs) (o : Nat) : w.rangeAt g o (cs.drop o) := fun j v hj => by
  rw [a.cell, ← hj, List.getElem?_drop]
theorem Row.save (a : Row w g xs) (hS : Save g' w w') (hg : g ≠ g') : Row w' g xs := (hS.rest g a.lt hg).trans a
theorem Row.only (a : Row w g xs) (hO : Only g' w w') (hg : g ≠ g') : Row w' g xs := (hO.rest g hg).trans a
theorem Row.over (a : Row w g xs) (hb : Below w.heap.size w w') : Row w' g xs := a.below hb a.lt
theorem Holds.only {A : Option Addr} {n c : Nat} (a : Holds w B A n c xs) (hO : Only g' w w') (hg : B ≤ g') : Holds w' B A n c xs := a.below (hO.below hg)
theorem hcells_len (hk : h.ok) : (hcells h).length = 26 := by simp [hcells, hk.len]
theorem hcells_one (h : Hd) : ∀ v ∈ hcells h, v.oneCell' = true := by
  intro v hv
  simp only [hcells, List.mem_cons, List.mem_map] at hv
  rcases hv with rfl | rfl | rfl | rfl | rfl | rfl | rfl | rfl | rfl | rfl | ⟨x, _, rfl⟩ <;> rfl
theorem HB.of (e : cs = hcells h) (a : Blk w g 49 cs) : HB w g h := by subst e; exact a
theorem HB.c0 (a : HB w g h) : w.cell? ⟨g, 0, none⟩ = some (.int .u16 h.ch) := Blk.cell a 0
theorem HB.c1 (a : HB w g h) : w.cell? ⟨g, 1, none⟩ = some (.int .u32 h.st) := Blk.cell a 1
theorem HB.c2 (a : HB w g h) : w.cell? ⟨g, 2, none⟩ = some (.int .u16 h.cm) := Blk.cell a 2
theorem HB.c3 (a : HB w g h) : w.cell? ⟨g, 3, none⟩ = some (.int .u16 h.cr) := Blk.cell a 3
theorem HB.c4 (a : HB w g h) : w.cell? ⟨g, 4, none⟩ = some (.int .u32 h.fl) := Blk.cell a 4
theorem HB.c5 (a : HB w g h) : w.cell? ⟨g, 5, none⟩ = some (.int .u32 h.nx) := Blk.cell a 5
theorem HB.c6 (a : HB w g h) : w.cell? ⟨g, 6, none⟩ = some (.int .u64 h.id) := Blk.cell a 6
theorem HB.c7 (a : HB w g h) : w.cell? ⟨g, 7, none⟩ = some (.int .u64 h.asy) := Blk.cell a 7
theorem HB.c8 (a : HB w g h) : w.cell? ⟨g, 8, none⟩ = some (.int .u32 h.tr) := Blk.cell a 8
theorem HB.c9 (a : HB w g h) : w.cell? ⟨g, 9, none⟩ = some (.int .u64 h.se) := Blk.cell a 9
theorem HB.sgc (a : HB w g h) {i : Nat} (hi : i < h.sg.length) : w.cell? ⟨g, 10 + i, none⟩ = some (.int .u8 (h.sg.getD i 0)) := by
  rw [Blk.cell a (10 + i), show (hcells h)[10 + i]? = (h.sg.map (Value.int .u8))[i]? from by
    rw [Nat.add_comm]; rfl]
  simp [hi]
/-- its signature, sliced whole -/
theorem HB.sig (a : HB w g h) (hk : h.ok) : Holds w w.heap.size (some ⟨g, 10, none⟩) 16 16 h.sg :=
  ⟨hk.len, Nat.le_refl _, by omega, hk.byte, fun hA => (by cases hA), fun _ => ⟨g, 10, rfl, Blk.lt a, fun i hi => a.sgc (by rw [hk.len]; exact hi)⟩⟩
end
section
variable {P : Program} {ops : Array Oper} {rest : List Oper} {o : Oper} {a : Act} {w : World} {Q : Exit → Act → World → Prop}
/-- a parameter of several cells that gets a block of its own -/
theorem wpList_box_blk (hg : o.guard = none) (T : TypeId) (x : Operand) (ho : o.op = .box T x) (cs : List Value) (hx : a.eval x = .agg cs.toArray)
    (h : ∀ g w', w.heap.size ≤ g → g < w'.heap.size → Hid (Blk w' g T cs) → Hid (Below w.heap.size w w') → wpList P ops Q rest (a.put o.dst (.pointer (some ⟨g, 0, none⟩))) w') : wpList P ops Q (o :: rest) a w := by
  refine wpList_plain hg fun K hK => ?_
  unfold Oper.wp execOp
  simp only [ho, hx, Sem.run_bind, Instr.box, newVar, newRow, run_newObj_alloc, Sem.run_pure, Result.andThen_ok]
  refine hK _ _ (h _ _ (Nat.le_refl _) (by simp) ?_ ((Below.refl _ _).alloc (Nat.le_refl _) _))
  exact Blk.new w T cs
/-- a parameter of one cell that gets a block of its own -/
theorem wpList_box_one (hg : o.guard = none) (T : TypeId) (x : Operand) (ho : o.op = .box T x) (v : Value) (hx : a.eval x = v) (hv : v.cells = #[v])
    (h : ∀ g w', w.heap.size ≤ g → g < w'.heap.size → Hid (Blk w' g T [v]) → Hid (Below w.heap.size w w') → wpList P ops Q rest (a.put o.dst (.pointer (some ⟨g, 0, none⟩))) w') : wpList P ops Q (o :: rest) a w := by
  refine wpList_plain hg fun K hK => ?_
  unfold Oper.wp execOp
  simp only [ho, hx, hv, Sem.run_bind, Instr.box, newVar, newRow, run_newObj_alloc, Sem.run_pure, Result.andThen_ok]
  refine hK _ _ (h _ _ (Nat.le_refl _) (by simp) ?_ ((Below.refl _ _).alloc (Nat.le_refl _) _))
  exact Blk.new w T [v]
/-- a variable of several cells, at first zero -/
theorem wpList_alloc_blk (hg : o.guard = none) (T : TypeId) (ho : o.op = .alloc T) (zs : List Value) (n : Nat) (hi : Hid ((P.info? T).map (fun i => (i.zero, i.size)) = some (some (.agg zs.toArray), n)))
    (h : ∀ g w', w.heap.size ≤ g → g < w'.heap.size → Hid (Blk w' g T zs) → Hid (Below w.heap.size w w') → wpList P ops Q rest (a.put o.dst (.pointer (some ⟨g, 0, none⟩))) w') : wpList P ops Q (o :: rest) a w := by
  refine wpList_plain hg fun K hK => ?_
  unfold Oper.wp execOp
  have hz := (zero_of_info hi.out).1
  simp only [ho, Sem.run_bind, Instr.alloc, hz, newVar, newRow, run_newObj_alloc, Sem.run_pure, Result.andThen_ok]
  refine hK _ _ (h _ _ (Nat.le_refl _) (by simp) ?_ ((Below.refl _ _).alloc (Nat.le_refl _) _))
  exact Blk.new w T zs
/-- the whole of it out of its block -/
theorem wpList_load_blk (hg : o.guard = none) (T : TypeId) (x : Operand) (ho : o.op = .load T x) (g : Nat) (hx : a.eval x = .pointer (some ⟨g, 0, none⟩)) (T' : TypeId) (cs : List Value) (hA : Hid (Blk w g T' cs)) (n : Nat) (d : TypeDesc)
    (hu : P.underlying T = some d) (hd : (match d with | .struct _ | .array _ _ => true | _ => false) = true) (hi : (P.info? T).map (·.size) = some n) (hn : Hid (cs.length = n))
    (h : wpList P ops Q rest (a.put o.dst (.agg cs.toArray)) w) : wpList P ops Q (o :: rest) a w :=
  wpList_load_row hg T x ho g hx T' _ (0, 0) d hA.out hu hd (by rw [hi]; have := hn.out; simp [this]) h
/-- the whole of it into its block -/
theorem wpList_store_blk (hg : o.guard = none) (T : TypeId) (x y : Operand) (ho : o.op = .store T x y) (g : Nat) (hx : a.eval x = .pointer (some ⟨g, 0, none⟩)) (T' : TypeId) (cs ds : List Value) (hy : a.eval y = .agg ds.toArray)
    (hA : Hid (Blk w g T' cs)) (n : Nat) (hi : (P.info? T).map (·.size) = some n) (hn : Hid (cs.length = n)) (hm : Hid (ds.length = n)) (h1 : Hid (∀ v ∈ ds, v.oneCell' = true))
    (h : ∀ w', Hid (Blk w' g T' ds) → Hid (Only g w w') → g < w'.heap.size → wpList P ops Q rest a w') (hd : o.dst = none := by rfl) : wpList P ops Q (o :: rest) a w := by
  refine wpList_store_row hg T x y ho g _ hx hy T' _ hA.out (by rw [hi]; have := hm.out; simp [this]) (by have := hm.out; have := hn.out; simp_all) (all_oneCell_toArray h1.out) ?_
  have hp : a.put o.dst undef = a := by rw [hd]; rfl
  rw [hp]
  refine h _ ?_ ((Only.refl g w).setRow _) (by rw [size_setRow]; exact hA.out.lt)
  exact setRow_heap w g _ _ T' (0, 0) hA.out
/-- one cell of it -/
theorem run_storeVar_fld (w : World) (g i : Nat) (T' ty : TypeId) (cs : List Value) (u : Value) (hB : Blk w g T' cs) (hi : i < cs.length) (hs : (P.info? ty).map (·.size) = some 1) (h1 : u.oneCell' = true) :
    (storeVar ty ⟨g, i, none⟩ u).run P w = .ok () (w.setCell ⟨g, i, none⟩ u) := by
  have hc : u.cells = #[u] := by cases u <;> first | rfl | (simp [Value.oneCell'] at h1)
  have := run_storeCells_cells (P := P) g i [u] 0 w (fun j hj => by
      obtain rfl : j = 0 := by simpa using hj
      show (w.cell? ⟨g, i, none⟩).isSome = true
      rw [hB.cell]
      simp [hi]) (fun j _ => hB.frozen _) (fun x hx => by obtain rfl := List.mem_singleton.1 hx; exact h1)
  cases hq : P.info? ty with
  | none => simp [hq] at hs
  | some q =>
    have hz : q.size = 1 := by simpa [hq] using hs
    simp [storeVar, sizeOf, typeInfo, hq, hc, hz]
    simpa [World.setCells] using this
theorem wpList_store_fld (hg : o.guard = none) (T : TypeId) (x y : Operand) (ho : o.op = .store T x y) (g i : Nat) (hx : a.eval x = .pointer (some ⟨g, i, none⟩)) (T' : TypeId) (cs : List Value) (u : Value) (hy : a.eval y = u)
    (hA : Hid (Blk w g T' cs)) (hi : Hid (i < cs.length)) (hs : (P.info? T).map (·.size) = some 1) (h1 : u.oneCell' = true)
    (h : ∀ w', Hid (Blk w' g T' (cs.set i u)) → Hid (Only g w w') → g < w'.heap.size → wpList P ops Q rest a w') (hd : o.dst = none := by rfl) : wpList P ops Q (o :: rest) a w := by
  have hp : a.put o.dst undef = a := by rw [hd]; rfl
  refine wpList_plain hg fun K hK => ?_
  unfold Oper.wp execOp
  simp only [ho, hx, hy, Instr.storeAt, Instr.sureAddr, Sem.run_bind, Sem.run_pure, Result.andThen_ok, run_storeVar_fld w g i T' T cs u hA.out hi.out hs h1]
  show K (a.put o.dst undef) _
  rw [hp]
  refine hK _ _ (h _ ?_ (only_setCell w g i u) ?_)
  · exact hA.out.set i u
  · have := (only_setCell w g i u).size
    rw [this]
    exact hA.out.lt
/-- a slice literal -/
theorem wpList_slice_blk (hg : o.guard = none) (t e : TypeId) (len : Nat) (parts : Array (Nat × Operand)) (ho : o.op = .buildSlice t len parts) (hu : P.underlying t = some (.slice e)) (cs : List Value)
    (hf : P.builtSlice e len (parts.map fun (i, x) => (i, a.eval x)).toList = some cs.toArray)
    (h : ∀ g w', w.heap.size ≤ g → g < w'.heap.size → Hid (Blk w' g e cs) → Hid (Below w.heap.size w w') → wpList P ops Q rest (a.put o.dst (.slice (some ⟨g, 0, none⟩) len len)) w') : wpList P ops Q (o :: rest) a w :=
  _root_.Go.Great.wpList_buildSliceTo hg t e len parts ho w.heap.size rfl _ rfl hu cs.toArray hf (h _ _ (Nat.le_refl _) (by simp) (Blk.new w e cs) ((Below.refl _ _).alloc (Nat.le_refl _) _))
/-- the same as a step of a region that draws its order -/
theorem step_slice_blk {K : Act → World → Prop} {E : Prop} (hg : o.guard = none) (t e : TypeId) (len : Nat) (parts : Array (Nat × Operand)) (ho : o.op = .buildSlice t len parts) (hu : P.underlying t = some (.slice e)) (cs : List Value)
    (hf : P.builtSlice e len (parts.map fun (i, x) => (i, a.eval x)).toList = some cs.toArray)
    (h : ∀ g w', w.heap.size ≤ g → g < w'.heap.size → Hid (Blk w' g e cs) → Hid (Below w.heap.size w w') → K (a.put o.dst (.slice (some ⟨g, 0, none⟩) len len)) w') :
    if Region.wanted o (yielded ops a.tmps) = true then Oper.wp P o a w K Q else E := by
  have hw : Region.wanted o (yielded ops a.tmps) = true := by simp [Region.wanted, hg]
  rw [if_pos hw]
  unfold Program.builtSlice at hf
  cases hie : P.info? e with
  | none => simp [hie] at hf
  | some ie =>
    simp only [hie] at hf
    cases hz : ie.zero with
    | none => simp [hz] at hf
    | some z =>
      simp only [hz] at hf
      by_cases hc : len * ie.size > 2 ^ 24 ∨ len * ie.size = 0
      · simp [hc] at hf
      · rw [if_neg hc] at hf
        exact wp_buildSlice t e len parts ho _ ie z hu hie hz (fun h' => hc (Or.inl h')) (fun h' => hc (Or.inr h')) hf (h _ _ (Nat.le_refl _) (by simp) (Blk.new w e cs) ((Below.refl _ _).alloc (Nat.le_refl _) _))
/-- a literal of several cells -/
theorem wpList_build_blk (hg : o.guard = none) (T : TypeId) (parts : Array (Nat × Operand)) (ho : o.op = .build T parts) (cs : List Value) (hf : P.built T (parts.map fun (i, x) => (i, a.eval x)).toList = some cs.toArray)
    (h : wpList P ops Q rest (a.put o.dst (.agg cs.toArray)) w) : wpList P ops Q (o :: rest) a w := wpList_buildTo hg T parts ho _ rfl _ hf h
/-- the zero literal -/
theorem wpList_build_none (hg : o.guard = none) (T : TypeId) (ho : o.op = .build T #[]) (cs : List Value) (hf : P.built T [] = some cs.toArray)
    (h : wpList P ops Q rest (a.put o.dst (.agg cs.toArray)) w) : wpList P ops Q (o :: rest) a w := by
  refine wpList_buildTo hg T #[] ho _ rfl cs.toArray ?_ h
  rw [← hf]
  simp
end
/-- what copy leaves of a row of cells -/
def spliced (cur : List Value) (off : Nat) (xs : List Int) : List Value := cur.take off ++ (xs.map (Value.int .u8) ++ cur.drop (off + xs.length))
/-- copy(dst[off:], src), dst a block of its own, all of src fitting in; src not empty -/
theorem wpList_copy_mid {w : World} {ops : Array Oper} {rest : List Oper} {o : Oper} {a : Act} {Q : Exit → Act → World → Prop} (hgd : o.guard = none) (d s : Operand)
    (ho : o.op = .call { callee := .builtin .copy, args := #[d, s], argTypes := #[24, 24] })
    (g off : Nat) (T : TypeId) (dLen dCap n c : Nat) (A : Option Addr) (hd : a.eval d = .slice (some ⟨g, off, none⟩) dLen dCap) (hs : a.eval s = .slice A n c)
    (cur : List Value) (xs : List Int) (B : Nat) (hrow : Hid (Blk w g T cur)) (hx : Holds w B A n c xs) (h0 : 0 < n) (hn : n ≤ dLen) (hfit : Hid (off + n ≤ cur.length))
    (h : ∀ w', Hid (Blk w' g T (spliced cur off xs)) → Hid (Only g w w') → wpList Tryd.prog ops Q rest (a.put o.dst (goInt n)) w') :
    wpList Tryd.prog ops Q (o :: rest) a w := by
  have hl := hx.len
  obtain ⟨i0, hi, hz0, hz1, hz2⟩ := info_parts info_u8
  obtain ⟨b, so, rfl, _, hc⟩ := hx.cells h0
  refine wpList_copy_own hgd d s 24 24 ho 5 Tryd.underlying24 (by rw [hi]; simp [hz1]) g off dLen dCap _ n c hd hs cur.toArray T hrow.out (xs.map (Value.int .u8)) (by rw [List.length_map, hl]; exact (Nat.min_eq_left hn).symm) ?_ (by have := hfit.out; simp; omega)
    (by intro v hv; obtain ⟨x, _, rfl⟩ := List.mem_map.1 hv; rfl) ?_
  · intro j v hj
    have hjl : j < xs.length := by
      by_cases hj' : j < xs.length
      · exact hj'
      · rw [List.getElem?_eq_none (by simp; omega)] at hj
        cases hj
    rw [Addr.add_mid, hc j (by omega), ← hj]
    simp [hjl]
  · have e := h (w.setRow g (spliced cur off xs).toArray) (setRow_heap w g _ _ T (0, 0) hrow.out) ((Only.refl g w).setRow _)
    have e2 : goInt (xs.map (Value.int .u8)).length = goInt n := by rw [List.length_map, hl]
    rw [e2]
    simpa [spliced] using e
/-- the same as a step of a region that draws its order -/
theorem step_copy_mid {w : World} {ops : Array Oper} {o : Oper} {a : Act} {K : Act → World → Prop} {Q : Exit → Act → World → Prop} {E : Prop} (hgd : o.guard = none) (d s : Operand)
    (ho : o.op = .call { callee := .builtin .copy, args := #[d, s], argTypes := #[24, 24] })
    (g off : Nat) (T : TypeId) (dLen dCap n c : Nat) (A : Option Addr) (hd : a.eval d = .slice (some ⟨g, off, none⟩) dLen dCap) (hs : a.eval s = .slice A n c)
    (cur : List Value) (xs : List Int) (B : Nat) (hrow : Hid (Blk w g T cur)) (hx : Holds w B A n c xs) (h0 : 0 < n) (hn : n ≤ dLen) (hfit : Hid (off + n ≤ cur.length))
    (h : ∀ w', Hid (Blk w' g T (spliced cur off xs)) → Hid (Only g w w') → K (a.put o.dst (goInt n)) w') :
    if Region.wanted o (yielded ops a.tmps) = true then Oper.wp Tryd.prog o a w K Q else E := by
  have hw : Region.wanted o (yielded ops a.tmps) = true := by simp [Region.wanted, hgd]
  rw [if_pos hw]
  have hl := hx.len
  obtain ⟨i0, hi, hz0, hz1, hz2⟩ := info_parts info_u8
  obtain ⟨b, so, rfl, _, hc⟩ := hx.cells h0
  have hrun := run_copy_row (P := Tryd.prog) w 24 24 o.type 5 g off dLen dCap ⟨b, so, none⟩ n c cur.toArray T (xs.map (Value.int .u8)) Tryd.underlying24 (by rw [hi]; simp [hz1]) hrow.out (by rw [List.length_map, hl]; exact (Nat.min_eq_left hn).symm)
    (by
      intro j v hj
      have hjl : j < xs.length := by
        by_cases hj' : j < xs.length
        · exact hj'
        · rw [List.getElem?_eq_none (by simp; omega)] at hj
          cases hj
      rw [Addr.add_mid, hc j (by omega), ← hj]
      simp [hjl]) (by have := hfit.out; simp; omega) (by intro v hv; obtain ⟨x, _, rfl⟩ := List.mem_map.1 hv; rfl)
  unfold Oper.wp
  simp [execOp, ho, resolve, invoke, builtin, hd, hs, hrun, Result.andThen]
  have e := h (w.setRow g (spliced cur off xs).toArray) (setRow_heap w g _ _ T (0, 0) hrow.out) ((Only.refl g w).setRow _)
  rw [Oper.upon_value]
  simpa [spliced, hl] using e
theorem spliced_row (cur xs : List Int) (off : Nat) : spliced (cur.map (Value.int .u8)) off xs = (cur.take off ++ xs ++ cur.drop (off + xs.length)).map (Value.int .u8) := by
  simp [spliced]
theorem spliced_sig (h : Hd) (xs : List Int) (hl : h.sg.length = 16) (hx : xs.length = 16) : spliced (hcells h) 10 xs = hcells { h with sg := xs } := by
  have e : (hcells h).drop (10 + xs.length) = [] := List.drop_of_length_le (by simp [hcells, hl, hx])
  unfold spliced
  rw [e, List.append_nil]
  rfl
/-! ### heads -/
theorem size_hd : (Tryd.prog.info? 49).map (·.size) = some 26 := by kernel_rfl
theorem zero_hd : (Tryd.prog.info? 49).map (fun i => (i.zero, i.size)) = some (some (.agg (hcells zeroHd).toArray), 26) := by kernel_rfl
theorem built_hd : Tryd.prog.built 49 [] = some (hcells zeroHd).toArray := by kernel_rfl
end Go.Proofs.YtgfflnjggnadpaaDoor

namespace Go.Proofs.YtgfflnjggnadpaaDoor
set_option linter.all false
open Go.RowKit
theorem pow_256 (k : Nat) : (2 : Nat) ^ (8 * k) = 256 ^ k := by rw [Nat.pow_mul]
theorem pow_256_int (k : Nat) : (2 : Int) ^ (8 * k) = ((256 ^ k : Nat) : Int) := by
  rw [← pow_256, Int.natCast_pow]; rfl
theorem or_step_nat (k z y : Nat) (hk : k < 8) (hz : z < 256 ^ k) (hy : y ≤ 255) : bits .or .u64 (z : Int) (IntKind.u64.wrap ((y : Int) * 2 ^ (8 * k))) = ((z + 256 ^ k * y : Nat) : Int) := by
  have hp : 256 ^ k * y + 256 ^ k ≤ 256 ^ (k + 1) := by
    rw [Nat.pow_succ, ← Nat.mul_succ]; exact Nat.mul_le_mul_left _ (by omega)
  have h8 : (256 : Nat) ^ (k + 1) ≤ 256 ^ 8 := Nat.pow_le_pow_right (by omega) (by omega)
  have e8 : (256 : Nat) ^ 8 = 18446744073709551616 := by decide
  have hw : IntKind.u64.wrap ((y : Int) * 2 ^ (8 * k)) = ((256 ^ k * y : Nat) : Int) := by
    rw [pow_256_int, IntKind.wrap_u64, ← Int.natCast_mul, Nat.mul_comm]
    omega
  rw [hw, u64_or_nat z (256 ^ k * y) (by omega) (by omega), Nat.or_comm, nat_join (8 * k) (256 ^ k * y) z (by rw [pow_256]; exact Nat.mul_mod_right _ _) (by rw [pow_256]; exact hz), Nat.add_comm]
theorem or_step (k : Nat) (z y : Int) (hk : k < 8) (hz0 : 0 ≤ z) (hz : z < 256 ^ k) (hy0 : 0 ≤ y) (hy : y ≤ 255) : bits .or .u64 z (IntKind.u64.wrap (y * 2 ^ (8 * k))) = z + 256 ^ k * y := by
  obtain ⟨a, rfl⟩ := Int.eq_ofNat_of_zero_le hz0
  obtain ⟨b, rfl⟩ := Int.eq_ofNat_of_zero_le hy0
  rw [or_step_nat k a b hk (by have : ((a : Int)) < ((256 ^ k : Nat) : Int) := by rw [Int.natCast_pow]; exact hz
                               omega) (by omega)]
  simp
/-- one byte more of a number -/
theorem num_step {ys : List Int} {k : Nat} {z y : Int} (hb : Bytes ys) (hk : k < ys.length) (h8 : k < 8) (hz : z = num (ys.take k)) (hy : y = ys.getD k 0) :
    bits .or .u64 z (IntKind.u64.wrap (y * 2 ^ (8 * k))) = num (ys.take (k + 1)) := by
  have h1 := num_bounds (ys.take k) (hb.take k)
  have h2 := hb.getD k
  have hl : (ys.take k).length = k := by simp; omega
  rw [hl, ← hz] at h1
  rw [← hy] at h2
  rw [or_step k z y h8 h1.1 h1.2 h2.1 h2.2, List.take_succ_eq_append_getElem hk, num_snoc, hl, ← hz]
  have e : y = ys[k] := by rw [hy]; simp [List.getD_eq_getElem?_getD, hk]
  rw [e]
/-- what lacks to the next multiple of 8, as the program reckons it -/
theorem pad_bits (n : Nat) (hn : n ≤ 281474976710656) : bits .and .i64 (-(n : Int)) 7 = ((padLen n - n : Nat) : Int) := by
  have e1 : (BitVec.ofInt 64 (7 : Int)).toNat = 7 := by decide
  have e2 : (BitVec.ofInt 64 (-(n : Int))).toNat = (18446744073709551616 - n) % 18446744073709551616 := by
    rw [BitVec.toNat_ofInt]
    omega
  show IntKind.i64.wrap ((BitVec.ofInt 64 (-(n : Int)) &&& BitVec.ofInt 64 7).toNat : Int) = _
  rw [BitVec.toNat_and, e1, e2, nat_mask3, IntKind.wrap_i64]
  unfold padLen
  omega
end Go.Proofs.YtgfflnjggnadpaaDoor
