import Derived.WalkKit
import Derived.Deep.Draws
import Derived.Laws.Rows
import Derived.Laws.OwnMore
import Derived.Lib.RuneBytes
import Derived.Lib.ValidLaws
import Derived.Test.YtdgpbhdihhchgaaGreatDoorRows
import Derived.Laws.CopyOwn
import Derived.Laws.AppendOwnNone
import Derived.Lib.Hide
import Derived.Laws.AppendOwn
import Derived.OwnWalk
import Derived.Lib.OthersKept
import Derived.Laws.BytesArg
import Derived.Shelf.Strings.Builder1
import Derived.Shelf.Strings.Builder2
import Derived.Shelf.Strings.OnBuilder
import Derived.Shelf.Strings.BuilderF
import Derived.Shelf.Strings.BuilderK
import Derived.Shelf.Utf8.AppendRunePlain
import Derived.Shelf.Utf8.RuneCount
import Derived.Shelf.LaysM
import Derived.Shelf.Strconv.Clone
import Derived.Shelf.Strings.Search1
import Derived.Shelf.Strings.Search2
import Derived.Shelf.Strings.Cut
import Derived.Shelf.Strings.Shaped
import Derived.Shelf.Unicode.DecodeSlow
import Derived.Shelf.Unicode.DecodeAny
import Derived.Shelf.Slices.Turned
import Derived.Ground.SlgmProg
import Derived.Shelf.SortM.Plain
import Derived.Shelf.SortM.SortNone
import Derived.Shelf.Unicode.ValidAny
import Derived.Test.YtdgpbhdihhchgaaGreatDoorProg
import Derived.WalkSpells
import Derived.WalkLawsBesides
import Derived.Deep.QuietTactic
import Derived.BigQuiet
import Derived.Laws.Bits64
import Derived.Laws.BitsAllLaws
import Derived.Laws.Tables
import Derived.Laws.NewFold
import Derived.Deep.WholeRow
import Derived.Deep.DeepCutAuto
import Derived.Laws.IdiomStrings
import Derived.Laws.Cover4
import Derived.Lib.RuneCount
import Derived.Lib.IndexLaws
import Derived.OneCell
import Derived.StillTailTactics
import Derived.WalkMore
namespace Go.Proofs.YtdgpbhdihhchgaaGreatDoor
set_option linter.all false
open Go.RowKit
/-- each number is one of a byte -/
def Bytes (xs : List Int) : Prop := ∀ x ∈ xs, 0 ≤ x ∧ x ≤ 255
theorem Bytes.nil : Bytes [] := fun _ h => by cases h
theorem Bytes.take {xs : List Int} (h : Bytes xs) (k : Nat) : Bytes (xs.take k) := fun x hx => h x (List.mem_of_mem_take hx)
theorem Bytes.drop {xs : List Int} (h : Bytes xs) (k : Nat) : Bytes (xs.drop k) := fun x hx => h x (List.mem_of_mem_drop hx)
theorem Bytes.append {xs ys : List Int} (h : Bytes xs) (k : Bytes ys) : Bytes (xs ++ ys) := fun x hx => by
  rcases List.mem_append.1 hx with h1 | h1
  · exact h x h1
  · exact k x h1
theorem Bytes.getD {xs : List Int} (h : Bytes xs) (i : Nat) : 0 ≤ xs.getD i 0 ∧ xs.getD i 0 ≤ 255 := by
  by_cases hi : i < xs.length
  · rw [List.getD_eq_getElem?_getD, List.getElem?_eq_getElem hi]
    exact h _ (List.getElem_mem hi)
  · rw [List.getD_eq_getElem?_getD, List.getElem?_eq_none (by omega)]
    simp
theorem Bytes.of_all {xs : List Int} (h : xs.all (fun x => decide (0 ≤ x) && decide (x ≤ 255)) = true) : Bytes xs := fun x hx => by
  have := List.all_eq_true.1 h x hx
  simpa using this
theorem Bytes.zeros (n : Nat) : Bytes (List.replicate n 0) := fun x hx => by
  rw [List.eq_of_mem_replicate hx]
  omega
/-- the slice value '.slice A n c' holds the bytes xs, in memory below block B (nil and empty ones too) -/
structure Holds (w : World) (B : Nat) (A : Option Addr) (n c : Nat) (xs : List Int) : Prop where
  len : xs.length = n
  fit : n ≤ c
  room : n ≤ 281474976710656
  byte : Bytes xs
  bare : A = none → c = 0
  cells : 0 < n → ∃ b off, A = some ⟨b, off, none⟩ ∧ b < B ∧ ∀ i, i < n → w.cell? ⟨b, off + i, none⟩ = some (.int .u8 (xs.getD i 0))
section
variable {w w' : World} {B B' : Nat} {A : Option Addr} {n c : Nat} {xs : List Int}
theorem Holds.nil (w : World) (B : Nat) : Holds w B none 0 0 [] := ⟨rfl, Nat.le_refl _, by omega, Bytes.nil, fun _ => rfl, fun h => absurd h (by omega)⟩
theorem Holds.keep (h : Holds w B A n c xs) (hk : ∀ p : Addr, p.block < B → w'.cell? p = w.cell? p) : Holds w' B A n c xs :=
  ⟨h.len, h.fit, h.room, h.byte, h.bare, fun hn => by
    obtain ⟨b, off, e, hb, hc⟩ := h.cells hn
    exact ⟨b, off, e, hb, fun i hi => (hk _ hb).trans (hc i hi)⟩⟩
theorem Holds.mono (h : Holds w B A n c xs) (hB : B ≤ B') : Holds w B' A n c xs :=
  ⟨h.len, h.fit, h.room, h.byte, h.bare, fun hn => by
    obtain ⟨b, off, e, hb, hc⟩ := h.cells hn
    exact ⟨b, off, e, by omega, hc⟩⟩
theorem Holds.below (h : Holds w B A n c xs) (hb : Below B w w') : Holds w' B A n c xs := h.keep fun _ hp => hb.cell hp
/-- carried over a call: the block bound is the heap's size on both sides -/
theorem Holds.over (h : Holds w w.heap.size A n c xs) (hb : Below w.heap.size w w') : Holds w' w'.heap.size A n c xs := (h.below hb).mono hb.size
theorem Holds.drewN (h : Holds w B A n c xs) (k : Nat) : Holds (w.drewN k) B A n c xs := h.keep fun _ _ => rfl
theorem Holds.drew (h : Holds w B A n c xs) : Holds w.drew B A n c xs := h.keep fun _ _ => rfl
theorem Holds.empty (w : World) (B : Nat) (A : Option Addr) (c : Nat) (hc : A = none → c = 0) : Holds w B A 0 c [] := ⟨rfl, Nat.zero_le _, by omega, Bytes.nil, hc, fun h => absurd h (by omega)⟩
/-- the cut 's[k:k+m:k+m]' that is not empty, as the model spells it -/
theorem Holds.cut (h : Holds w B A n c xs) {k m : Nat} (hk : k + m ≤ n) (hm : 0 < m) : Holds w B (A.map (·.add k)) m m ((xs.drop k).take m) := by
  have hl := h.len
  refine ⟨by simp; omega, Nat.le_refl _, by have := h.room; omega, (h.byte.drop k).take m, fun hA => ?_, fun hm => ?_⟩
  · obtain ⟨b, off, rfl, _⟩ := h.cells (by omega)
    cases hA
  obtain ⟨b, off, rfl, hb, hc⟩ := h.cells (by omega)
  refine ⟨b, off + k, ?_, hb, fun i hi => ?_⟩
  · by_cases hk0 : k = 0
    · subst hk0; simp [Addr.add]
    · simp [Addr.add, hk0]
  · rw [Nat.add_assoc, hc (k + i) (by omega)]
    simp [List.getD_eq_getElem?_getD, List.getElem?_drop, hi]
end
/-- one call behind another: what was there stays -/
theorem step {a b c : World} (h1 : Below a.heap.size a b) (h2 : Below b.heap.size b c) : Below a.heap.size a c := h1.trans (h2.mono h1.size)
theorem drewed (w : World) (k : Nat) : Below w.heap.size w (w.drewN k) := ⟨rfl, rfl, rfl, Nat.le_refl _, fun _ _ => rfl⟩
theorem ret_bool {a b : Bool} (h : a = b) : Ending.returned (.bool a) = .returned (.bool b) := by rw [h]
theorem ret_int {k : IntKind} {a b : Int} (h : a = b) : Ending.returned (.int k a) = .returned (.int k b) := by rw [h]
/-! ### the document's numbers: little end first -/

/-- the s bytes of n -/
def le (n : Int) : Nat → List Int
  | 0 => []
  | s + 1 => n % 256 :: le (n / 256) s
/-- the number of bytes -/
def num : List Int → Int
  | [] => 0
  | x :: r => x + 256 * num r
end Go.Proofs.YtdgpbhdihhchgaaGreatDoor

namespace Go.Proofs.YtdgpbhdihhchgaaGreatDoor
set_option linter.all false
/-- the pattern fits the text -/
inductive Fit : List Int → List Int → Prop
  | nil : Fit [] []
  | one {c x : Int} {p t : List Int} (h : c = 63 ∨ c = x) (hc : c ≠ 42) (r : Fit p t) : Fit (c :: p) (x :: t)
  | skip {p t : List Int} (r : Fit p t) : Fit (42 :: p) t
  | take {x : Int} {p t : List Int} (r : Fit (42 :: p) t) : Fit (42 :: p) (x :: t)
theorem fit_nil_left {t : List Int} : Fit [] t ↔ t = [] := by
  constructor
  · intro h; cases h; rfl
  · rintro rfl; exact .nil
theorem fit_cons {c : Int} {p t : List Int} (hc : c ≠ 42) : Fit (c :: p) t ↔ ∃ x r, t = x :: r ∧ (c = 63 ∨ c = x) ∧ Fit p r := by
  constructor
  · intro h
    cases h with
    | one h _ r => exact ⟨_, _, rfl, h, r⟩
    | skip r => exact absurd rfl hc
    | take r => exact absurd rfl hc
  · rintro ⟨x, r, rfl, h1, h2⟩
    exact .one h1 hc h2
/-- behind a star -/
theorem fit_star {p t : List Int} : Fit (42 :: p) t ↔ ∃ a b, t = a ++ b ∧ Fit p b := by
  constructor
  · intro h
    generalize hq : 42 :: p = q at h
    induction h with
    | nil => cases hq
    | one h hc r _ => injection hq with e; exact absurd e.symm hc
    | skip r _ => injection hq with _ e; subst e; exact ⟨[], _, rfl, r⟩
    | take r ih => obtain ⟨a, b, rfl, hb⟩ := ih hq; exact ⟨_ :: a, b, rfl, hb⟩
  · rintro ⟨a, b, rfl, hb⟩
    induction a with
    | nil => exact .skip hb
    | cons x a ih => exact .take ih
theorem fit_any (t : List Int) : Fit [42] t := fit_star.2 ⟨t, [], by simp, .nil⟩
/-- two patterns, one behind the other -/
theorem fit_append {p q t : List Int} : Fit (p ++ q) t ↔ ∃ a b, t = a ++ b ∧ Fit p a ∧ Fit q b := by
  induction p generalizing t with
  | nil =>
    constructor
    · intro h; exact ⟨[], t, rfl, .nil, h⟩
    · rintro ⟨a, b, rfl, ha, hb⟩
      obtain rfl := fit_nil_left.1 ha
      exact hb
  | cons c p ih =>
    rw [List.cons_append]
    by_cases hc : c = 42
    · subst hc
      rw [fit_star]
      constructor
      · rintro ⟨a, b, rfl, hb⟩
        obtain ⟨d, e, rfl, hd, he⟩ := ih.1 hb
        exact ⟨a ++ d, e, by simp, fit_star.2 ⟨a, d, rfl, hd⟩, he⟩
      · rintro ⟨a, b, rfl, ha, hb⟩
        obtain ⟨d, e, rfl, he⟩ := fit_star.1 ha
        exact ⟨d, e ++ b, by simp, ih.2 ⟨e, b, rfl, he, hb⟩⟩
    · rw [fit_cons hc]
      constructor
      · rintro ⟨x, r, rfl, h1, h2⟩
        obtain ⟨d, e, rfl, hd, he⟩ := ih.1 h2
        exact ⟨x :: d, e, rfl, .one h1 hc hd, he⟩
      · rintro ⟨a, b, rfl, ha, hb⟩
        obtain ⟨x, r, rfl, h1, h2⟩ := (fit_cons hc).1 ha
        exact ⟨x, r ++ b, rfl, h1, ih.2 ⟨r, b, rfl, h2, hb⟩⟩
/-! ### the last letter (the rows of the document's own reckoning) -/

theorem fit_snoc {p t : List Int} {c x : Int} (hc : c ≠ 42) : Fit (p ++ [c]) (t ++ [x]) ↔ (c = 63 ∨ c = x) ∧ Fit p t := by
  rw [fit_append]
  constructor
  · rintro ⟨a, b, he, ha, hb⟩
    obtain ⟨y, r, rfl, h1, h2⟩ := (fit_cons hc).1 hb
    obtain rfl := fit_nil_left.1 h2
    obtain ⟨rfl, h3⟩ := List.append_inj' he (by simp)
    injection h3 with h3
    subst h3
    exact ⟨h1, ha⟩
  · rintro ⟨h1, h2⟩
    exact ⟨t, [x], rfl, h2, .one h1 hc .nil⟩
theorem fit_snoc_nil {p : List Int} {c : Int} (hc : c ≠ 42) : ¬ Fit (p ++ [c]) [] := by
  rw [fit_append]
  rintro ⟨a, b, he, ha, hb⟩
  obtain ⟨y, r, rfl, _⟩ := (fit_cons hc).1 hb
  simp at he
theorem fit_snoc_star {p t : List Int} {x : Int} : Fit (p ++ [42]) (t ++ [x]) ↔ Fit (p ++ [42]) t ∨ Fit p (t ++ [x]) := by
  constructor
  · intro h
    obtain ⟨a, b, he, ha, _⟩ := fit_append.1 h
    rcases List.eq_nil_or_concat b with rfl | ⟨b', y, hb⟩
    · rw [List.append_nil] at he
      subst he
      exact .inr ha
    · rw [List.concat_eq_append] at hb
      subst hb
      rw [← List.append_assoc] at he
      obtain ⟨rfl, _⟩ := List.append_inj' he (by simp)
      exact .inl (fit_append.2 ⟨a, b', rfl, ha, fit_any _⟩)
  · rintro (h | h)
    · obtain ⟨a, b, rfl, ha, _⟩ := fit_append.1 h
      exact fit_append.2 ⟨a, b ++ [x], by simp, ha, fit_any _⟩
    · exact fit_append.2 ⟨t ++ [x], [], by simp, h, fit_any _⟩
theorem fit_snoc_star_nil {p : List Int} : Fit (p ++ [42]) [] ↔ Fit p [] := by
  rw [fit_append]
  constructor
  · rintro ⟨a, b, he, ha, _⟩
    obtain ⟨rfl, rfl⟩ : a = [] ∧ b = [] := by simpa using he.symm
    exact ha
  · intro h; exact ⟨[], [], rfl, h, fit_any _⟩
/-! ### the document's own rows: may the first k letters of the pattern be the letters t -/

noncomputable def fitAt (p : List Int) (k : Nat) (t : List Int) : Bool := @decide (Fit (p.take k) t) (Classical.propDecidable _)
theorem fitAt_iff (p : List Int) (k : Nat) (t : List Int) : fitAt p k t = true ↔ Fit (p.take k) t := @decide_eq_true_iff _ (Classical.propDecidable _)
theorem fitAt_not (p : List Int) (k : Nat) (t : List Int) (h : ¬ Fit (p.take k) t) : fitAt p k t = false := by
  cases he : fitAt p k t
  · rfl
  · exact absurd ((fitAt_iff _ _ _).1 he) h
theorem fitAt_all (p t : List Int) (k : Nat) (h : p.length ≤ k) : fitAt p k t = true ↔ Fit p t := by
  rw [fitAt_iff, List.take_of_length_le h]
theorem fitAt_zero (p : List Int) : fitAt p 0 [] = true := (fitAt_iff _ _ _).2 .nil
theorem fitAt_none (p t : List Int) (x : Int) : fitAt p 0 (t ++ [x]) = false := fitAt_not _ _ _ (by
  rw [List.take_zero, fit_nil_left]
  simp)
theorem take_getD (p : List Int) (k : Nat) (h : k < p.length) : p.take (k + 1) = p.take k ++ [p.getD k 0] := by
  rw [List.take_succ_eq_append_getElem h]
  simp [h]
theorem fitAt_nil_star (p : List Int) (k : Nat) (h : k < p.length) (hc : p.getD k 0 = 42) : fitAt p (k + 1) [] = fitAt p k [] := by
  rw [Bool.eq_iff_iff, fitAt_iff, fitAt_iff, take_getD p k h, hc, fit_snoc_star_nil]
theorem fitAt_nil_other (p : List Int) (k : Nat) (h : k < p.length) (hc : p.getD k 0 ≠ 42) : fitAt p (k + 1) [] = false := fitAt_not _ _ _ (by
  rw [take_getD p k h]
  exact fit_snoc_nil hc)
theorem fitAt_star (p t : List Int) (x : Int) (k : Nat) (h : k < p.length) (hc : p.getD k 0 = 42) : fitAt p (k + 1) (t ++ [x]) = (fitAt p (k + 1) t || fitAt p k t || fitAt p k (t ++ [x])) := by
  rw [Bool.eq_iff_iff, Bool.or_eq_true, Bool.or_eq_true, fitAt_iff, fitAt_iff, fitAt_iff, fitAt_iff, take_getD p k h, hc, fit_snoc_star]
  constructor
  · rintro (h1 | h1)
    · exact .inl (.inl h1)
    · exact .inr h1
  · rintro ((h1 | h1) | h1)
    · exact .inl h1
    · exact .inl (fit_append.2 ⟨t, [], by simp, h1, fit_any _⟩)
    · exact .inr h1
theorem fitAt_one (p t : List Int) (x : Int) (k : Nat) (h : k < p.length) (hc : p.getD k 0 ≠ 42) (hx : p.getD k 0 = 63 ∨ p.getD k 0 = x) : fitAt p (k + 1) (t ++ [x]) = fitAt p k t := by
  rw [Bool.eq_iff_iff, fitAt_iff, fitAt_iff, take_getD p k h, fit_snoc hc]
  exact ⟨fun h => h.2, fun h => ⟨hx, h⟩⟩
theorem fitAt_other (p t : List Int) (x : Int) (k : Nat) (h : k < p.length) (hc : p.getD k 0 ≠ 42) (hx : ¬ (p.getD k 0 = 63 ∨ p.getD k 0 = x)) : fitAt p (k + 1) (t ++ [x]) = false := fitAt_not _ _ _ (by
  rw [take_getD p k h, fit_snoc hc]
  exact fun h => hx h.1)
end Go.Proofs.YtdgpbhdihhchgaaGreatDoor

namespace Go.Proofs.YtdgpbhdihhchgaaGreatDoor
set_option linter.all false
open Go.Lib
/-- is a number a letter? -/
def IsLetter (r : Int) : Prop := 0 ≤ r ∧ r ≤ 1114111 ∧ (r < 55296 ∨ 57343 < r)
/-- the bytes of a letter; of a byte that belongs to none, which is 1114112 and its number: it -/
def enc (r : Int) : List UInt8 := if 1114112 ≤ r then [(r - 1114112).toNat.toUInt8] else encodeRune r
/-- the first letter, or byte that belongs to none -/
def headOf (l : List UInt8) : Int := if (decodeL l).1 = 65533 ∧ (decodeL l).2 = 1 then 1114112 + ((l.getD 0 0).toNat : Int) else ((decodeL l).1 : Int)
def lettersF : Nat → List UInt8 → List Int
  | 0, _ => []
  | n + 1, l => if l = [] then [] else headOf l :: lettersF n (l.drop (decodeL l).2)
def letters (l : List UInt8) : List Int := lettersF l.length l
theorem lettersF_nil (n : Nat) : lettersF n [] = [] := by cases n <;> simp [lettersF]
theorem lettersF_fuel : ∀ (n m : Nat) (l : List UInt8), l.length ≤ n → l.length ≤ m → lettersF n l = lettersF m l
  | 0, m, l, hn, _ => by
    obtain rfl : l = [] := List.eq_nil_of_length_eq_zero (by omega)
    rw [lettersF_nil, lettersF_nil]
  | n + 1, 0, l, _, hm => by
    obtain rfl : l = [] := List.eq_nil_of_length_eq_zero (by omega)
    rw [lettersF_nil, lettersF_nil]
  | n + 1, m + 1, l, hn, hm => by
    unfold lettersF
    by_cases hne : l = []
    · simp [hne]
    · have hw := decodeL_width l
      have hl : 0 < l.length := List.length_pos_iff.2 hne
      rw [if_neg hne, if_neg hne, lettersF_fuel n m (l.drop (decodeL l).2) (by rw [List.length_drop]; omega) (by rw [List.length_drop]; omega)]
theorem letters_nil : letters [] = [] := rfl
theorem letters_step (l : List UInt8) (hne : l ≠ []) : letters l = headOf l :: letters (l.drop (decodeL l).2) := by
  have hl : 0 < l.length := List.length_pos_iff.2 hne
  have hw := decodeL_width l
  obtain ⟨n, hn⟩ : ∃ n, l.length = n + 1 := ⟨l.length - 1, by omega⟩
  unfold letters
  rw [hn]
  show (if l = [] then [] else _) = _
  rw [if_neg hne, lettersF_fuel n (l.drop (decodeL l).2).length _ (by rw [List.length_drop]; omega) (Nat.le_refl _)]
/-- what is at the head: a letter as decoded, or a byte from 128 on -/
theorem head_shape (l : List UInt8) (_hne : l ≠ []) :
    (¬ ((decodeL l).1 = 65533 ∧ (decodeL l).2 = 1) ∧ headOf l = ((decodeL l).1 : Int) ∧ IsLetter ((decodeL l).1 : Int)) ∨
    ((decodeL l).1 = 65533 ∧ (decodeL l).2 = 1 ∧ headOf l = 1114112 + ((l.getD 0 0).toNat : Int) ∧ 128 ≤ (l.getD 0 0).toNat) := by
  have k0 := (l.getD 0 0).toNat_lt
  have k1 := (l.getD 1 0).toNat_lt
  have k2 := (l.getD 2 0).toNat_lt
  have k3 := (l.getD 3 0).toNat_lt
  unfold headOf IsLetter
  by_cases h : (decodeL l).1 = 65533 ∧ (decodeL l).2 = 1
  · right
    refine ⟨h.1, h.2, if_pos h, ?_⟩
    rw [decodeL_N] at h
    by_cases hb : (l.getD 0 0).toNat < 128
    · rw [decodeN_ascii _ _ _ _ _ hb] at h
      dsimp only at h
      omega
    · omega
  · left
    refine ⟨h, if_neg h, ?_⟩
    rw [decodeL_N] at h ⊢
    rcases decodeN_shape l.length (l.getD 0 0).toNat (l.getD 1 0).toNat (l.getD 2 0).toNat (l.getD 3 0).toNat with ⟨c, e⟩ | ⟨c1, c2, c3, cv, e⟩ | ⟨c1, c2, c3, c4, cv, cs, e⟩ | ⟨c1, c2, c3, c4, c5, cv, cw, e⟩ | e
    all_goals (rw [e] at h ⊢; dsimp only at h ⊢)
    all_goals (try (exact absurd ⟨rfl, rfl⟩ h))
    all_goals (refine ⟨by omega, by omega, by omega⟩)
/-- the letters of a row: each is a letter, or stands for a byte from 128 on -/
def IsOne (r : Int) : Prop := IsLetter r ∨ (1114240 ≤ r ∧ r ≤ 1114367)
theorem head_one (l : List UInt8) (hne : l ≠ []) : IsOne (headOf l) := by
  have k0 := (l.getD 0 0).toNat_lt
  rcases head_shape l hne with ⟨_, h1, h2⟩ | ⟨_, _, h1, h2⟩
  · rw [h1]; exact .inl h2
  · rw [h1]; exact .inr (by omega)
theorem IsOne.bounds {r : Int} (h : IsOne r) : 0 ≤ r ∧ r ≤ 1114367 := by
  rcases h with h | h
  · exact ⟨h.1, by have := h.2.1; omega⟩
  · omega
theorem IsOne.letter {r : Int} (h : IsOne r) (hr : r < 1114112) : IsLetter r := by
  rcases h with h | h
  · exact h
  · omega
theorem IsLetter.lt {r : Int} (h : IsLetter r) : ¬ 1114112 ≤ r := by have := h.2.1; omega
theorem take_head (l : List UInt8) (hne : l ≠ []) : l.take (decodeL l).2 = enc (headOf l) := by
  unfold enc
  rcases head_shape l hne with ⟨h0, h1, h2⟩ | ⟨_, h0, h1, h2⟩
  · rw [h1, if_neg h2.lt, encode_decode l hne h0]
  · rw [h1, if_pos (by omega), h0, takeA l (List.length_pos_iff.2 hne)]
    rw [toByte _ (l.getD 0 0) (by omega)]
theorem letters_ind {P : List UInt8 → Prop} (h0 : P []) (h1 : ∀ l : List UInt8, l ≠ [] → P (l.drop (decodeL l).2) → P l) : ∀ l, P l := by
  have key : ∀ n (l : List UInt8), l.length ≤ n → P l := by
    intro n
    induction n with
    | zero => intro l hl; obtain rfl : l = [] := List.eq_nil_of_length_eq_zero (by omega); exact h0
    | succ n ih =>
      intro l hl
      by_cases hne : l = []
      · rw [hne]; exact h0
      · have hw := decodeL_width l
        exact h1 l hne (ih _ (by rw [List.length_drop]; omega))
  exact fun l => key l.length l (Nat.le_refl _)
theorem letters_one (l : List UInt8) : ∀ r ∈ letters l, IsOne r := by
  induction l using letters_ind with
  | h0 => intro r hr; cases hr
  | h1 l hne ih =>
    rw [letters_step l hne]
    intro r hr
    rcases List.mem_cons.1 hr with rfl | hr
    · exact head_one l hne
    · exact ih r hr
/-- the letters' bytes are the row -/
theorem letters_enc (l : List UInt8) : (letters l).flatMap enc = l := by
  induction l using letters_ind with
  | h0 => rfl
  | h1 l hne ih => rw [letters_step l hne, List.flatMap_cons, ih, ← take_head l hne, List.take_append_drop]
theorem letters_le (l : List UInt8) : (letters l).length ≤ l.length := by
  induction l using letters_ind with
  | h0 => simp [letters_nil]
  | h1 l hne ih =>
    have hw := decodeL_width l
    have hl : 0 < l.length := List.length_pos_iff.2 hne
    rw [letters_step l hne, List.length_cons]
    rw [List.length_drop] at ih
    omega
theorem u8_toNat (x : Int) : (x.toNat.toUInt8).toNat = x.toNat % 256 := by simp
theorem enc_letter {r : Int} (h : IsLetter r) : enc r = encodeRune r := if_neg h.lt
theorem enc_le {r : Int} : (enc r).length ≤ 4 := by
  unfold enc
  split
  · simp
  · have := encodeRuneZ_length r
    simpa [encodeRune] using this.2
/-! ### is it a text? -/
def isText (l : List UInt8) : Bool := (letters l).all fun r => decide (r < 1114112)
theorem isText_nil : isText [] = true := rfl
theorem isText_step (l : List UInt8) (hne : l ≠ []) : isText l = (decide (headOf l < 1114112) && isText (l.drop (decodeL l).2)) := by
  unfold isText
  rw [letters_step l hne, List.all_cons]
theorem validD_isText (l : List UInt8) : validD l = isText l := by
  induction l using letters_ind with
  | h0 => rfl
  | h1 l hne ih =>
    rw [validD_step l hne, isText_step l hne, ih]
    rcases head_shape l hne with ⟨h0, h1, h2⟩ | ⟨h0, h0', h1, h2⟩
    · have := h2.lt
      rw [if_neg h0, h1, decide_eq_true (by omega), Bool.true_and]
    · rw [if_pos ⟨h0, h0'⟩, h1, decide_eq_false (by omega), Bool.false_and]
/-! ### folded -/
def lowN (n : Nat) : Nat := if 65 ≤ n ∧ n ≤ 90 then n + 32 else n
def lowB (b : UInt8) : UInt8 := (lowN b.toNat).toUInt8
def foldR (r : Int) : Int := if 65 ≤ r ∧ r ≤ 90 then r + 32 else r
def foldB (l : List UInt8) : List UInt8 := l.map lowB
theorem lowB_toNat (b : UInt8) : (lowB b).toNat = lowN b.toNat := by
  have := b.toNat_lt
  unfold lowB lowN
  split <;> simp <;> omega
theorem foldR_cast (n : Nat) : foldR (n : Int) = (lowN n : Int) := by
  unfold foldR lowN
  split <;> split <;> omega
theorem lowN_cases (b : Nat) : lowN b = b ∨ (b / 64 ≠ 2 ∧ lowN b / 64 ≠ 2) := by
  unfold lowN
  split
  · right; omega
  · left; rfl
theorem lowN_high {b : Nat} (h : 128 ≤ b) : lowN b = b := if_neg (by omega)
theorem getD_foldB (l : List UInt8) (k : Nat) : ((foldB l).getD k 0).toNat = lowN (l.getD k 0).toNat := by
  unfold foldB
  simp only [List.getD_eq_getElem?_getD, List.getElem?_map]
  cases h : l[k]? with
  | none => rfl
  | some b => simpa using lowB_toNat b
set_option maxRecDepth 100000 in
theorem decodeN_low (n b0 b1 b2 b3 : Nat) : decodeN n (lowN b0) (lowN b1) (lowN b2) (lowN b3) = (lowN (decodeN n b0 b1 b2 b3).1, (decodeN n b0 b1 b2 b3).2) := by
  by_cases c : b0 < 128
  · have c' : lowN b0 < 128 := by unfold lowN; split <;> omega
    rw [decodeN_ascii _ _ _ _ _ c, decodeN_ascii _ _ _ _ _ c']
  · rw [lowN_high (b := b0) (by omega)]
    have key : decodeN n b0 (lowN b1) (lowN b2) (lowN b3) = decodeN n b0 b1 b2 b3 := by
      unfold decodeN
      rcases lowN_cases b1 with e1 | ⟨e1, e1'⟩ <;> rcases lowN_cases b2 with e2 | ⟨e2, e2'⟩ <;> rcases lowN_cases b3 with e3 | ⟨e3, e3'⟩ <;> simp_all
    rw [key]
    have h : lowN (decodeN n b0 b1 b2 b3).1 = (decodeN n b0 b1 b2 b3).1 := by
      apply lowN_high
      rcases decodeN_shape n b0 b1 b2 b3 with ⟨c, e⟩ | ⟨c1, c2, c3, cv, e⟩ | ⟨c1, c2, c3, c4, cv, cs, e⟩ | ⟨c1, c2, c3, c4, c5, cv, cw, e⟩ | e
      all_goals (rw [e]; dsimp only; omega)
    rw [h]
theorem decodeL_low (l : List UInt8) : decodeL (foldB l) = (lowN (decodeL l).1, (decodeL l).2) := by
  rw [decodeL_N, decodeL_N, getD_foldB, getD_foldB, getD_foldB, getD_foldB, show (foldB l).length = l.length by simp [foldB], decodeN_low]
theorem head_low (l : List UInt8) (hne : l ≠ []) : headOf (foldB l) = foldR (headOf l) := by
  rcases head_shape l hne with ⟨h0, h1, h2⟩ | ⟨h0, h0', h1, h2⟩
  · rw [h1, foldR_cast]
    unfold headOf
    rw [decodeL_low]
    dsimp only
    rw [if_neg ?_]
    rintro ⟨e1, e2⟩
    refine h0 ⟨?_, e2⟩
    unfold lowN at e1
    split at e1 <;> omega
  · rw [h1]
    unfold headOf
    rw [decodeL_low, h0, h0']
    dsimp only
    rw [if_pos ⟨by decide, rfl⟩, getD_foldB, lowN_high h2]
    unfold foldR
    rw [if_neg (by omega)]
theorem letters_low (l : List UInt8) : letters (foldB l) = (letters l).map foldR := by
  induction l using letters_ind with
  | h0 => rfl
  | h1 l hne ih =>
    have hne' : foldB l ≠ [] := by simpa [foldB] using hne
    rw [letters_step _ hne', head_low l hne, letters_step l hne, List.map_cons, ← ih, decodeL_low]
    simp [foldB, List.map_drop]
/-- the letters, folded -/
def foldedOf (l : List UInt8) : List Int := (letters l).map foldR
theorem folded_enc (l : List UInt8) : (foldedOf l).flatMap enc = foldB l := by
  unfold foldedOf
  rw [← letters_low, letters_enc]
theorem foldedOf_eq (l : List UInt8) : foldedOf l = letters (foldB l) := (letters_low l).symm
theorem foldedOf_one (l : List UInt8) : ∀ r ∈ foldedOf l, IsOne r := by rw [foldedOf_eq]; exact letters_one _
theorem foldB_length (a : List UInt8) : (foldB a).length = a.length := by simp [foldB]
/-! ### the order -/
def cmpI (x y : Int) : Int := if x < y then -1 else if y < x then 1 else 0
def lexc : List Int → List Int → Int
  | [], [] => 0
  | [], _ :: _ => -1
  | _ :: _, [] => 1
  | x :: xs, y :: ys => if x < y then -1 else if y < x then 1 else lexc xs ys
theorem lexc_self : ∀ xs, lexc xs xs = 0
  | [] => rfl
  | x :: xs => by simp [lexc, lexc_self xs]
theorem lexc_zero : ∀ xs ys, lexc xs ys = 0 → xs = ys
  | [], [], _ => rfl
  | [], _ :: _, h => by simp [lexc] at h
  | _ :: _, [], h => by simp [lexc] at h
  | x :: xs, y :: ys, h => by
    unfold lexc at h
    split at h
    · omega
    · split at h
      · omega
      · rw [lexc_zero xs ys h, show x = y by omega]
theorem lexc_flip : ∀ xs ys, lexc ys xs = - lexc xs ys
  | [], [] => rfl
  | [], _ :: _ => rfl
  | _ :: _, [] => rfl
  | x :: xs, y :: ys => by
    unfold lexc
    have := lexc_flip xs ys
    repeat' split
    all_goals omega
theorem lexc_trans : ∀ xs ys zs, lexc xs ys < 0 → lexc ys zs < 0 → lexc xs zs < 0
  | _, [], [], _, h => by simp [lexc] at h
  | [], _, _ :: _, _, _ => by simp [lexc]
  | _ :: _, [], _, h, _ => by simp [lexc] at h
  | _, _ :: _, [], _, h => by simp [lexc] at h
  | x :: xs, y :: ys, z :: zs, h1, h2 => by
    unfold lexc at h1 h2 ⊢
    have := lexc_trans xs ys zs
    repeat' split at h1
    all_goals repeat' split at h2
    all_goals repeat' split
    all_goals first | omega | exact this h1 h2
def aheadOf (a b : List UInt8) : Bool := decide (lexc (foldedOf a) (foldedOf b) < 0)
def alikeOf (a b : List UInt8) : Bool := decide (foldB a = foldB b)
theorem alike_iff (a b : List UInt8) : foldB a = foldB b ↔ foldedOf a = foldedOf b := by
  constructor
  · intro h; rw [foldedOf_eq, foldedOf_eq, h]
  · intro h; rw [← folded_enc, ← folded_enc, h]
/-! ### a text, letter by letter -/
theorem next_any (s : ByteArray) (pos : Nat) (h : pos < s.size) :
    letters (s.data.toList.drop pos) = headOf (s.data.toList.drop pos) :: letters (s.data.toList.drop (pos + (Utf8.decode s pos).2)) ∧ 1 ≤ (Utf8.decode s pos).2 ∧ pos + (Utf8.decode s pos).2 ≤ s.size := by
  have hl : s.data.toList.drop pos ≠ [] := by
    intro e
    have := congrArg List.length e
    rw [List.length_drop, ← size_eq] at this
    simp at this
    omega
  have h1 := letters_step _ hl
  have h2 := decodeL_width (s.data.toList.drop pos)
  have h3 := decodeL_le _ hl
  rw [decodeL_drop] at h1 h2 h3
  rw [List.drop_drop] at h1
  rw [List.length_drop, ← size_eq] at h3
  exact ⟨h1, h2, by omega⟩
theorem next_text (s : ByteArray) (pos : Nat) (h : pos < s.size) (ht : isText (s.data.toList.drop pos) = true) :
    letters (s.data.toList.drop pos) = ((Utf8.decode s pos).1 : Int) :: letters (s.data.toList.drop (pos + (Utf8.decode s pos).2)) ∧ isText (s.data.toList.drop (pos + (Utf8.decode s pos).2)) = true ∧ IsLetter ((Utf8.decode s pos).1 : Int) := by
  have hl : s.data.toList.drop pos ≠ [] := by
    intro e
    have := congrArg List.length e
    rw [List.length_drop, ← size_eq] at this
    simp at this
    omega
  have h1 := letters_step _ hl
  rw [isText_step _ hl, Bool.and_eq_true] at ht
  obtain ⟨ht, ht'⟩ := ht
  rw [decodeL_drop] at h1 ht'
  rw [List.drop_drop] at h1 ht'
  have ht := of_decide_eq_true ht
  rcases head_shape _ hl with ⟨_, e, hL⟩ | ⟨_, _, e, _⟩
  · rw [decodeL_drop] at e hL
    rw [e] at h1
    exact ⟨h1, ht', hL⟩
  · omega
theorem next_end (s : ByteArray) (pos : Nat) (h : ¬ pos < s.size) : letters (s.data.toList.drop pos) = [] := by
  rw [List.drop_of_length_le (by rw [← size_eq]; omega)]
  rfl
def unitCount : List Int → Nat
  | [] => 0
  | r :: rs => (if r < 65536 then 1 else 2) + unitCount rs
def textErr (l : List UInt8) : Int := if isText l = true then 0 else 5
def unitsOfL (l : List UInt8) : Nat := if isText l = true then unitCount (letters l) else 0
end Go.Proofs.YtdgpbhdihhchgaaGreatDoor

namespace Go.Proofs.YtdgpbhdihhchgaaGreatDoor
set_option linter.all false
open Go.Lib
theorem foldR_lt {r : Int} : foldR r < 1114112 ↔ r < 1114112 := by unfold foldR; split <;> omega
theorem isText_fold (l : List UInt8) : isText (foldB l) = isText l := by
  unfold isText
  rw [letters_low, List.all_map]
  congr 1
  funext r
  simp only [Function.comp, foldR_lt]
theorem foldedOf_length (l : List UInt8) : (foldedOf l).length = (letters l).length := by simp [foldedOf]
/-- the error of a pattern and a text -/
def patErr (p t : List UInt8) : Int := if isText p = false ∨ isText t = false then 5 else if 64 < (letters p).length ∨ 256 < (letters t).length then 3 else 0
theorem patErr_ok {p t : List UInt8} : patErr p t = 0 ↔ isText p = true ∧ isText t = true ∧ (letters p).length ≤ 64 ∧ (letters t).length ≤ 256 := by
  unfold patErr
  cases isText p <;> cases isText t <;> simp
theorem patErr_empty {p : List UInt8} : patErr p [] = 0 ↔ isText p = true ∧ (letters p).length ≤ 64 := by
  rw [patErr_ok]
  constructor
  · rintro ⟨h1, _, h3, _⟩; exact ⟨h1, h3⟩
  · rintro ⟨h1, h3⟩; exact ⟨h1, rfl, h3, by simp [letters_nil]⟩
end Go.Proofs.YtdgpbhdihhchgaaGreatDoor

namespace Go.Proofs.YtdgpbhdihhchgaaGreatDoor
set_option linter.all false
open Go.Lib
/-- may a letter not be in a name -/
def barB (n : Int) : Bool := decide (n < 32) || n == 92 || n == 47 || n == 58 || n == 42 || n == 63 || n == 34 || n == 60 || n == 62 || n == 124
/-- may these letters be a name -/
def nameL (rs : List Int) : Bool := decide (1 ≤ rs.length) && decide (rs.length ≤ 32) && rs.all (fun r => !barB r) && !(rs.getD (rs.length - 1) 0 == 32) && !(rs.getD (rs.length - 1) 0 == 46)
def nameOf (l : List UInt8) : Bool := isText l && nameL (letters l)
/-! ### a letter below 128 is its byte -/

theorem mem_enc_low {r : Int} (h : IsOne r) : ∀ b ∈ enc r, b.toNat < 128 → r = (b.toNat : Int) := by
  rcases h with h | h
  · rw [enc_letter h]
    obtain ⟨h0, h3, h4⟩ := h
    intro b hb hlt
    unfold encodeRune at hb
    obtain ⟨z, hz, rfl⟩ := List.mem_map.1 hb
    have key : (z = r ∧ r ≤ 127) ∨ (128 ≤ z ∧ z ≤ 255) := by
      by_cases c1 : r ≤ 127
      · rw [encodeRuneZ_one h0 c1] at hz
        exact .inl ⟨by simpa using hz, c1⟩
      · right
        revert hz
        unfold encodeRuneZ
        repeat' split
        all_goals (intro hz; simp only [List.mem_cons, List.not_mem_nil, or_false] at hz; omega)
    rw [u8_toNat] at hlt ⊢
    rcases key with ⟨rfl, _⟩ | _ <;> omega
  · intro b hb hlt
    unfold enc at hb
    rw [if_pos (by omega)] at hb
    obtain rfl := List.mem_singleton.1 hb
    rw [u8_toNat] at hlt
    omega
theorem mem_letters_low {l : List UInt8} {b : UInt8} (hb : b ∈ l) (hlt : b.toNat < 128) : (b.toNat : Int) ∈ letters l := by
  rw [← letters_enc l] at hb
  obtain ⟨r, hr, hbr⟩ := List.mem_flatMap.1 hb
  rw [← mem_enc_low (letters_one l r hr) b hbr hlt]
  exact hr
theorem nameL_ne {rs : List Int} (h : nameL rs = true) : rs ≠ [] := by
  rintro rfl
  simp [nameL] at h
theorem name_bar {l : List UInt8} (h : nameOf l = true) : ∀ b ∈ l, b ≠ 92 := by
  rintro b hb rfl
  unfold nameOf nameL at h
  simp only [Bool.and_eq_true] at h
  have := List.all_eq_true.1 h.2.1.1.2 92 (mem_letters_low hb (by decide))
  revert this
  decide
theorem name_ne {l : List UInt8} (h : nameOf l = true) : l ≠ [] := by
  rintro rfl
  unfold nameOf at h
  rw [letters_nil, Bool.and_eq_true] at h
  exact nameL_ne h.2 rfl
theorem name_len {l : List UInt8} (h : nameOf l = true) : (letters l).length ≤ 32 := by
  unfold nameOf nameL at h
  simp only [Bool.and_eq_true, decide_eq_true_eq] at h
  exact h.2.1.1.1.2
theorem enc_flat_le (rs : List Int) : (rs.flatMap enc).length ≤ 4 * rs.length := by
  induction rs with
  | nil => simp
  | cons r rs ih =>
    have := enc_le (r := r)
    rw [List.flatMap_cons, List.length_append, List.length_cons]
    omega
theorem name_bytes {l : List UInt8} (h : nameOf l = true) : l.length ≤ 128 := by
  have h1 := name_len h
  have h2 := enc_flat_le (letters l)
  rw [letters_enc] at h2
  omega
/-! ### cut at 92, and put together -/

def splitB : List UInt8 → List (List UInt8)
  | [] => [[]]
  | b :: r => if b = 92 then [] :: splitB r else match splitB r with
    | [] => [[b]]
    | p :: ps => (b :: p) :: ps
def joinB : List (List UInt8) → List UInt8
  | [] => []
  | [p] => p
  | p :: q :: ps => p ++ 92 :: joinB (q :: ps)
theorem split_ne (l : List UInt8) : splitB l ≠ [] := by
  cases l with
  | nil => simp [splitB]
  | cons b r =>
    unfold splitB
    split
    · simp
    · split <;> simp
theorem split_sep (r : List UInt8) : splitB (92 :: r) = [] :: splitB r := by simp [splitB]
theorem split_cons {b : UInt8} (h : b ≠ 92) (r : List UInt8) : ∃ p ps, splitB r = p :: ps ∧ splitB (b :: r) = (b :: p) :: ps := by
  cases hs : splitB r with
  | nil => exact absurd hs (split_ne r)
  | cons p ps => exact ⟨p, ps, rfl, by rw [splitB, if_neg h, hs]⟩
theorem split_plain {p : List UInt8} (h : ∀ b ∈ p, b ≠ 92) : splitB p = [p] := by
  induction p with
  | nil => rfl
  | cons b p ih =>
    obtain ⟨q, qs, h1, h2⟩ := split_cons (h b List.mem_cons_self) p
    rw [ih fun c hc => h c (List.mem_cons_of_mem _ hc)] at h1
    cases h1
    exact h2
theorem split_front {p : List UInt8} (h : ∀ b ∈ p, b ≠ 92) (r : List UInt8) : splitB (p ++ 92 :: r) = p :: splitB r := by
  induction p with
  | nil => exact split_sep r
  | cons b p ih =>
    obtain ⟨q, qs, h1, h2⟩ := split_cons (h b List.mem_cons_self) (p ++ 92 :: r)
    rw [ih fun c hc => h c (List.mem_cons_of_mem _ hc)] at h1
    cases h1
    exact h2
theorem join_cons (p : List UInt8) {ps : List (List UInt8)} (h : ps ≠ []) : joinB (p :: ps) = p ++ 92 :: joinB ps := by
  cases ps with
  | nil => exact absurd rfl h
  | cons q qs => rfl
/-- what was put together comes apart as it was -/
theorem split_join {ps : List (List UInt8)} (hne : ps ≠ []) (h : ∀ p ∈ ps, ∀ b ∈ p, b ≠ 92) : splitB (joinB ps) = ps := by
  induction ps with
  | nil => exact absurd rfl hne
  | cons p ps ih =>
    by_cases hp : ps = []
    · subst hp
      exact split_plain (h p List.mem_cons_self)
    · rw [join_cons p hp, split_front (h p List.mem_cons_self), ih hp fun q hq => h q (List.mem_cons_of_mem _ hq)]
/-- what was cut is put together again -/
theorem join_split (l : List UInt8) : joinB (splitB l) = l := by
  induction l with
  | nil => rfl
  | cons b r ih =>
    by_cases h : b = 92
    · subst h
      rw [split_sep, join_cons _ (split_ne r), ih]
      rfl
    · obtain ⟨p, ps, h1, h2⟩ := split_cons h r
      rw [h2]
      rw [h1] at ih
      by_cases hp : ps = []
      · subst hp
        exact congrArg (b :: ·) ih
      · rw [join_cons _ hp] at ih ⊢
        rw [List.cons_append, ih]
theorem join_eq_nil {ps : List (List UInt8)} (h : ∀ p ∈ ps, p ≠ []) (he : joinB ps = []) : ps = [] := by
  cases ps with
  | nil => rfl
  | cons p ps =>
    exfalso
    have hp := h p List.mem_cons_self
    by_cases hn : ps = []
    · subst hn; exact hp he
    · rw [join_cons p hn] at he
      exact hp (List.append_eq_nil_iff.1 he).1
/-! ### paths -/

def partsOf (l : List UInt8) : List (List UInt8) := if l = [] then [] else splitB l
def namesErr (ps : List (List UInt8)) : Int := if ps.all nameOf = false then 2 else if 8 < ps.length then 3 else 0
def parseErr (l : List UInt8) : Int := namesErr (partsOf l)
def parseOf (l : List UInt8) : List (List UInt8) := if parseErr l = 0 then partsOf l else []
def joinOf (ps : List (List UInt8)) : List UInt8 := if namesErr ps = 0 then joinB ps else []
theorem namesErr_ok {ps : List (List UInt8)} : namesErr ps = 0 ↔ (∀ p ∈ ps, nameOf p = true) ∧ ps.length ≤ 8 := by
  unfold namesErr
  split
  · rename_i h
    constructor
    · intro h0; exact absurd h0 (by decide)
    · rintro ⟨h1, _⟩
      rw [List.all_eq_true.2 h1] at h
      cases h
  · rename_i h
    have h' : ps.all nameOf = true := by simpa using h
    rw [List.all_eq_true] at h'
    split
    · constructor
      · intro h0; exact absurd h0 (by decide)
      · rintro ⟨_, h1⟩; omega
    · exact ⟨fun _ => ⟨h', by omega⟩, fun _ => rfl⟩
theorem parts_join {ps : List (List UInt8)} (h : ∀ p ∈ ps, nameOf p = true) : partsOf (joinB ps) = ps := by
  unfold partsOf
  by_cases hn : ps = []
  · subst hn; rfl
  · rw [if_neg fun he => hn (join_eq_nil (fun p hp => name_ne (h p hp)) he)]
    exact split_join hn fun p hp => name_bar (h p hp)
theorem join_parts (l : List UInt8) : joinB (partsOf l) = l := by
  unfold partsOf
  split
  · rename_i h; rw [h]; rfl
  · exact join_split l
/-- P6.4: names come back of their path -/
theorem parse_join {ps : List (List UInt8)} (h : namesErr ps = 0) : parseErr (joinB ps) = 0 ∧ parseOf (joinB ps) = ps := by
  have hp := parts_join (namesErr_ok.1 h).1
  have he : parseErr (joinB ps) = 0 := by unfold parseErr; rw [hp]; exact h
  exact ⟨he, by unfold parseOf; rw [if_pos he, hp]⟩
/-- P6.4: a path of its names -/
theorem join_parse {l : List UInt8} (h : parseErr l = 0) : namesErr (parseOf l) = 0 ∧ joinB (parseOf l) = l := by
  unfold parseOf
  rw [if_pos h]
  exact ⟨h, join_parts l⟩
theorem parse_len {l : List UInt8} (h : parseErr l = 0) : (parseOf l).length ≤ 8 := by
  unfold parseOf
  rw [if_pos h]
  exact (namesErr_ok.1 h).2
def underP (a b : List UInt8) : Bool := decide (parseErr a = 0 ∧ parseErr b = 0 ∧ (parseOf b).length < (parseOf a).length ∧ ((parseOf a).take (parseOf b).length).map foldB = (parseOf b).map foldB)
theorem underP_iff {a b : List UInt8} : underP a b = true ↔ parseErr a = 0 ∧ parseErr b = 0 ∧ (parseOf b).length < (parseOf a).length ∧ ((parseOf a).take (parseOf b).length).map foldB = (parseOf b).map foldB := decide_eq_true_iff
theorem under_trans {a b c : List UInt8} (h : underP a b = true) (h2 : underP b c = true) : underP a c = true := by
  obtain ⟨h1, _, h3, h4⟩ := underP_iff.1 h
  obtain ⟨_, h6, h7, h8⟩ := underP_iff.1 h2
  refine underP_iff.2 ⟨h1, h6, by omega, ?_⟩
  rw [← h8, List.map_take, List.map_take, ← h4, List.map_take, List.take_take, Nat.min_eq_left (by omega)]
/-! ### the parent's -/

def parentErr (l : List UInt8) : Int := if parseErr l ≠ 0 then parseErr l else if l = [] then 2 else 0
def dirOf (l : List UInt8) : List UInt8 := if parentErr l = 0 then joinB (parseOf l).dropLast else []
def lastOf (l : List UInt8) : List UInt8 := if parentErr l = 0 then (parseOf l).getLast?.getD [] else []
theorem parentErr_ok {l : List UInt8} : parentErr l = 0 ↔ parseErr l = 0 ∧ l ≠ [] := by
  unfold parentErr
  split
  · rename_i h
    exact ⟨fun h0 => absurd h0 h, fun h0 => absurd h0.1 h⟩
  · rename_i h
    have h' : parseErr l = 0 := by simpa using h
    split
    · rename_i h2
      exact ⟨fun h0 => absurd h0 (by decide), fun h0 => absurd h2 h0.2⟩
    · rename_i h2
      exact ⟨fun _ => ⟨h', h2⟩, fun _ => rfl⟩
theorem parse_root {l : List UInt8} (h : parseErr l = 0) : parseOf l = [] ↔ l = [] := by
  constructor
  · intro h2
    have := (join_parse h).2
    rw [h2] at this
    exact this.symm
  · rintro rfl
    rfl
/-- P6.4: of a path that has a parent's -/
theorem parent_facts {l : List UInt8} (h : parentErr l = 0) :
    parseOf l = parseOf (dirOf l) ++ [lastOf l] ∧ parseErr (dirOf l) = 0 ∧ nameOf (lastOf l) = true ∧ underP l (dirOf l) = true ∧ (∀ t, underP t l = true → underP t (dirOf l) = true) ∧ namesErr (parseOf (dirOf l) ++ [lastOf l]) = 0 ∧ joinB (parseOf (dirOf l) ++ [lastOf l]) = l := by
  obtain ⟨h1, h2⟩ := parentErr_ok.1 h
  have hne : parseOf l ≠ [] := fun he => h2 ((parse_root h1).1 he)
  obtain ⟨h3, h4⟩ := join_parse h1
  obtain ⟨h5, h6⟩ := namesErr_ok.1 h3
  have e0 : (parseOf l).dropLast ++ [lastOf l] = parseOf l := by
    unfold lastOf
    rw [if_pos h, List.getLast?_eq_some_getLast hne]
    exact List.dropLast_concat_getLast hne
  have hd : namesErr (parseOf l).dropLast = 0 := namesErr_ok.2 ⟨fun p hp => h5 p (List.dropLast_subset _ hp), by rw [List.length_dropLast]; omega⟩
  obtain ⟨h7, h8⟩ := parse_join hd
  have ed : dirOf l = joinB (parseOf l).dropLast := if_pos h
  rw [ed, h8, e0]
  have hu : underP l (joinB (parseOf l).dropLast) = true := by
    refine underP_iff.2 ⟨h1, h7, ?_, ?_⟩
    · rw [h8, List.length_dropLast]
      have := List.length_pos_iff.2 hne
      omega
    · rw [h8, List.length_dropLast, ← List.dropLast_eq_take]
  exact ⟨rfl, h7, h5 _ (by rw [← e0]; simp), hu, fun t ht => under_trans ht hu, h3, h4⟩
end Go.Proofs.YtdgpbhdihhchgaaGreatDoor

namespace Go.Proofs.YtdgpbhdihhchgaaGreatDoor
set_option linter.all false
open Go.Lib
/-- the first part, what is behind it, is there more -/
def headN (l : List UInt8) : List UInt8 := (splitB l).headD []
def restP (l : List UInt8) : List UInt8 := joinB (splitB l).tail
def moreP (l : List UInt8) : Bool := !(splitB l).tail.isEmpty
/-- the parts that are still to come -/
def restQ (more : Bool) (l : List UInt8) : List (List UInt8) := if more then splitB l else []
theorem cut_plain {l : List UInt8} (h : ∀ b ∈ l, b ≠ 92) : headN l = l ∧ restP l = [] ∧ moreP l = false := by
  unfold headN restP moreP
  rw [split_plain h]
  exact ⟨rfl, rfl, rfl⟩
theorem cut_more {p r : List UInt8} (h : ∀ b ∈ p, b ≠ 92) : headN (p ++ 92 :: r) = p ∧ restP (p ++ 92 :: r) = r ∧ moreP (p ++ 92 :: r) = true := by
  unfold headN restP moreP
  rw [split_front h]
  refine ⟨rfl, join_split r, ?_⟩
  cases hs : splitB r with
  | nil => exact absurd hs (split_ne r)
  | cons q qs => rfl
theorem cut_split (l : List UInt8) : splitB l = headN l :: restQ (moreP l) (restP l) := by
  by_cases h : ∀ b ∈ l, b ≠ 92
  · obtain ⟨h1, h2, h3⟩ := cut_plain h
    rw [h1, h3, split_plain h]
    rfl
  · have key : ∀ l : List UInt8, (¬ ∀ b ∈ l, b ≠ 92) → ∃ p r, l = p ++ 92 :: r ∧ ∀ b ∈ p, b ≠ 92 := by
      intro l
      induction l with
      | nil => intro h; exact absurd (fun b hb => by cases hb) h
      | cons b l ih =>
        intro h
        by_cases hb : b = 92
        · exact ⟨[], l, by rw [hb]; rfl, fun c hc => by cases hc⟩
        · obtain ⟨p, r, rfl, hp⟩ := ih fun h2 => h fun c hc => by
            rcases List.mem_cons.1 hc with rfl | hc
            · exact hb
            · exact h2 c hc
          refine ⟨b :: p, r, rfl, fun c hc => ?_⟩
          rcases List.mem_cons.1 hc with rfl | hc
          · exact hb
          · exact hp c hc
    obtain ⟨p, r, rfl, hp⟩ := key l h
    obtain ⟨h1, h2, h3⟩ := cut_more (r := r) hp
    rw [h1, h2, h3, split_front hp]
    rfl
theorem parts_rest (l : List UInt8) : partsOf l = restQ (decide (l ≠ [])) l := by
  unfold partsOf restQ
  by_cases h : l = [] <;> simp [h]
theorem rest_le {l : List UInt8} (h : l ≠ []) : (restP l).length < l.length := by
  have h1 := join_split l
  unfold restP
  obtain ⟨p, ps, hs⟩ : ∃ p ps, splitB l = p :: ps := by
    cases hs : splitB l with
    | nil => exact absurd hs (split_ne l)
    | cons p ps => exact ⟨p, ps, rfl⟩
  rw [hs] at h1 ⊢
  show (joinB ps).length < _
  by_cases hp : ps = []
  · subst hp
    exact List.length_pos_iff.2 h
  · rw [← h1, join_cons p hp]
    simp
    omega
theorem head_le (l : List UInt8) : (headN l).length ≤ l.length := by
  have h1 := join_split l
  rw [cut_split l] at h1
  by_cases hp : restQ (moreP l) (restP l) = []
  · rw [hp] at h1
    have h1 : headN l = l := h1
    rw [h1]; exact Nat.le_refl _
  · rw [join_cons _ hp] at h1
    have := congrArg List.length h1
    simp at this
    omega
/-! ### what a loop over the parts knows -/

theorem namesErr_bad {ps : List (List UInt8)} {p : List UInt8} (hp : p ∈ ps) (h : nameOf p = false) : namesErr ps = 2 := by
  unfold namesErr
  rw [if_pos]
  rw [List.all_eq_false]
  exact ⟨p, hp, by simp [h]⟩
theorem namesErr_all {ps : List (List UInt8)} (h : ∀ p ∈ ps, nameOf p = true) : namesErr ps = if 8 < ps.length then 3 else 0 := by
  unfold namesErr
  rw [if_neg (by simp [List.all_eq_true.2 h])]
theorem parseOf_bad {l : List UInt8} (h : parseErr l ≠ 0) : parseOf l = [] := if_neg h
/-! ### a name's last letter -/

theorem nameL_cons (rs : List Int) : nameL rs = (decide (1 ≤ rs.length) && decide (rs.length ≤ 32) && rs.all (fun r => !barB r) && (!(rs.getD (rs.length - 1) 0 == 32) && !(rs.getD (rs.length - 1) 0 == 46))) := by
  unfold nameL
  simp only [Bool.and_assoc]
end Go.Proofs.YtdgpbhdihhchgaaGreatDoor

namespace Go.Proofs.YtdgpbhdihhchgaaGreatDoor
set_option linter.all false
open Go.RowKit
set_option linter.unusedVariables false
def exRdE (n : Nat) (a k : Int) : Int := if a < 0 ∨ k < 0 then 2 else if k = 0 then 0 else if (n : Int) ≤ a then 22 else 0
def exRd (B : List Int) (a k : Int) : List Int := if exRdE B.length a k = 0 then (B.drop a.toNat).take k.toNat else []
def exCutE (s : Int) : Int := if s < 0 then 2 else if 65536 < s then 3 else 0
/-- so many, those that are new are z -/
def padTo {α : Type} (z : α) (l : List α) (n : Nat) : List α := l.take n ++ List.replicate (n - l.length) z
def exCut {α : Type} (z : α) (l : List α) (s : Int) : List α := if exCutE s = 0 then padTo z l s.toNat else l
def exWrE (a : Int) (m : Nat) : Int := if a < 0 then 2 else if m = 0 then 0 else if 65536 < a + m then 3 else 0
/-- ys stands at a -/
def layAt {α : Type} (z : α) (l : List α) (a : Nat) (ys : List α) : List α := (padTo z l (max l.length (a + ys.length))).take a ++ ys ++ l.drop (a + ys.length)
def exWr {α : Type} (z : α) (l : List α) (a : Int) (ys : List α) : List α := if exWrE a ys.length = 0 ∧ ys ≠ [] then layAt z l a.toNat ys else l
section
variable {α : Type} {z : α} {l ys : List α} {n a : Nat}
theorem padTo_len : (padTo z l n).length = n := by
  unfold padTo
  rw [List.length_append, List.length_take, List.length_replicate]
  omega
theorem padTo_self : padTo z l l.length = l := by simp [padTo]
theorem padTo_get {i : Nat} (h : i < n) : (padTo z l n).getD i z = l.getD i z := by
  unfold padTo
  rw [List.getD_eq_getElem?_getD, List.getD_eq_getElem?_getD, List.getElem?_append, List.length_take]
  by_cases h1 : i < min n l.length
  · rw [if_pos h1, List.getElem?_take, if_pos h]
  · rw [if_neg h1, List.getElem?_replicate, List.getElem?_eq_none (show l.length ≤ i by omega)]
    split <;> rfl
theorem layAt_len : (layAt z l a ys).length = max l.length (a + ys.length) := by
  unfold layAt
  rw [List.length_append, List.length_append, List.length_take, padTo_len, List.length_drop]
  omega
theorem layAt_get (i : Nat) : (layAt z l a ys).getD i z = if a ≤ i ∧ i < a + ys.length then ys.getD (i - a) z else l.getD i z := by
  unfold layAt
  have h0 : ((padTo z l (max l.length (a + ys.length))).take a).length = a := by rw [List.length_take, padTo_len]; omega
  rw [List.getD_eq_getElem?_getD, List.append_assoc, List.getElem?_append, h0]
  by_cases h1 : i < a
  · rw [if_pos h1, if_neg (by omega), List.getElem?_take, if_pos h1, ← List.getD_eq_getElem?_getD, padTo_get (by omega)]
  · rw [if_neg h1, List.getElem?_append]
    by_cases h2 : i < a + ys.length
    · rw [if_pos (by omega), if_pos ⟨by omega, h2⟩, ← List.getD_eq_getElem?_getD]
    · rw [if_neg (by omega), if_neg (by omega), List.getElem?_drop, show a + ys.length + (i - a - ys.length) = i by omega, List.getD_eq_getElem?_getD]
end
theorem padTo_bytes {B : List Int} (h : Bytes B) (n : Nat) : Bytes (padTo 0 B n) := (h.take n).append (Bytes.zeros _)
theorem layAt_bytes {B ys : List Int} (h : Bytes B) (hy : Bytes ys) (a : Nat) : Bytes (layAt 0 B a ys) := (((padTo_bytes h _).take a).append hy).append (h.drop _)
theorem exCut_len {α β : Type} (z : α) (y : β) {l : List α} {m : List β} (h : l.length = m.length) (s : Int) : (exCut z l s).length = (exCut y m s).length := by
  unfold exCut
  split
  · rw [padTo_len, padTo_len]
  · exact h
theorem exWr_len {α β : Type} (z : α) (y : β) {l : List α} {m : List β} {ys : List α} {zs : List β} (h : l.length = m.length) (hy : ys.length = zs.length) (a : Int) : (exWr z l a ys).length = (exWr y m a zs).length := by
  have e1 : (ys = []) ↔ (zs = []) := by rw [← List.length_eq_zero_iff, hy, List.length_eq_zero_iff]
  unfold exWr
  by_cases h1 : exWrE a ys.length = 0 ∧ ys ≠ []
  · rw [if_pos h1, if_pos ⟨by rw [← hy]; exact h1.1, fun h => h1.2 (e1.2 h)⟩, layAt_len, layAt_len, h, hy]
  · rw [if_neg h1, if_neg (fun h2 => h1 ⟨by rw [hy]; exact h2.1, fun h => h2.2 (e1.1 h)⟩), h]
theorem exCutE_ok {s : Int} (h : exCutE s = 0) : 0 ≤ s ∧ s ≤ 65536 := by
  unfold exCutE at h
  by_cases h2 : s < 0
  · rw [if_pos h2] at h; cases h
  · rw [if_neg h2] at h
    by_cases h3 : 65536 < s
    · rw [if_pos h3] at h; cases h
    · omega
theorem exCut_small {α : Type} (z : α) {l : List α} (h : l.length ≤ 65536) (s : Int) : (exCut z l s).length ≤ 65536 := by
  unfold exCut
  by_cases h1 : exCutE s = 0
  · have := exCutE_ok h1
    rw [if_pos h1, padTo_len]
    omega
  · rw [if_neg h1]
    exact h
theorem exWrE_ok {a : Int} {m : Nat} (h : exWrE a m = 0) (hm : 0 < m) : 0 ≤ a ∧ a + m ≤ 65536 := by
  unfold exWrE at h
  by_cases h1 : a < 0
  · rw [if_pos h1] at h; cases h
  · rw [if_neg h1, if_neg (by omega)] at h
    by_cases h2 : 65536 < a + m
    · rw [if_pos h2] at h; cases h
    · omega
theorem exWr_small {α : Type} (z : α) {l ys : List α} (h : l.length ≤ 65536) (a : Int) : (exWr z l a ys).length ≤ 65536 := by
  unfold exWr
  by_cases h1 : exWrE a ys.length = 0 ∧ ys ≠ []
  · have := exWrE_ok h1.1 (List.length_pos_iff.2 h1.2)
    rw [if_pos h1, layAt_len]
    omega
  · rw [if_neg h1]; exact h
theorem exCut_bytes {B : List Int} (h : Bytes B) (s : Int) : Bytes (exCut 0 B s) := by
  unfold exCut
  split
  · exact padTo_bytes h _
  · exact h
theorem exWr_bytes {B ys : List Int} (h : Bytes B) (hy : Bytes ys) (a : Int) : Bytes (exWr 0 B a ys) := by
  unfold exWr
  split
  · exact layAt_bytes h hy _
  · exact h
/-- pieces that rise, don't touch, have a byte each, end at i or ahead of it, and have the bytes of B -/
structure ExtOk (B : List Int) (i : Nat) (l : List (Nat × List Int)) : Prop where
  some : ∀ e ∈ l, e.2 ≠ []
  ends : ∀ e ∈ l, e.1 + e.2.length ≤ i
  have_ : ∀ e ∈ l, e.2 = (B.drop e.1).take e.2.length
  rise : l.Pairwise fun e f => e.1 + e.2.length < f.1
theorem ExtOk.mono {B : List Int} {i j : Nat} {l : List (Nat × List Int)} (h : ExtOk B i l) (hij : i ≤ j) : ExtOk B j l := ⟨h.some, fun e he => Nat.le_trans (h.ends e he) hij, h.have_, h.rise⟩
end Go.Proofs.YtdgpbhdihhchgaaGreatDoor

namespace Go.Proofs.YtdgpbhdihhchgaaGreatDoor
set_option linter.all false
open Go.RowKit
/-- block g is a whole row of bytes, none frozen -/
def Row (w : World) (g : Nat) (xs : List Int) : Prop := w.heap[g]? = some (.cells (xs.map (Value.int .u8)).toArray 5 (0, 0))
/-- the slice '.slice A n n' is nil, or the whole of a row in a block from 'base' on -/
def Fresh (w : World) (base : Nat) (A : Option Addr) (xs : List Int) : Prop := (A = none ∧ xs = []) ∨ ∃ g, A = some ⟨g, 0, none⟩ ∧ base ≤ g ∧ Row w g xs
section
variable {w w' : World} {g B base : Nat} {xs : List Int}
theorem Row.lt (h : Row w g xs) : g < w.heap.size := (Array.getElem?_eq_some_iff.1 h).1
theorem Row.cell (h : Row w g xs) {i : Nat} (hi : i < xs.length) : w.cell? ⟨g, i, none⟩ = some (.int .u8 (xs.getD i 0)) := by
  rw [cell_of_row w g i _ 5 (0, 0) h]
  simp [hi]
theorem Row.frozen (h : Row w g xs) (i : Nat) : w.frozen? ⟨g, i, none⟩ = false := frozen_of_row w g i _ 5 h
theorem Row.below (h : Row w g xs) (hb : Below B w w') (hg : g < B) : Row w' g xs := (hb.block g hg).trans h
theorem Row.set (h : Row w g xs) (i : Nat) (u : Int) : Row (w.setCell ⟨g, i, none⟩ (.int .u8 u)) g (xs.set i u) := by
  have h1 := heap_setCell_same w g i _ 5 (.int .u8 u) h
  unfold Row
  rw [h1]
  simp [List.map_set]
theorem Row.drewN (h : Row w g xs) (k : Nat) : Row (w.drewN k) g xs := h
theorem Fresh.holds {A : Option Addr} {n : Nat} (h : Fresh w base A xs) (hn : xs.length = n) (hx : Bytes xs) (hc : n ≤ 281474976710656) : Holds w w.heap.size A n n xs := by
  refine ⟨hn, Nat.le_refl _, hc, hx, fun hA => ?_, fun h0 => ?_⟩
  · rcases h with ⟨_, rfl⟩ | ⟨g, rfl, _, hr⟩
    · exact hn.symm
    · cases hA
  rcases h with ⟨_, rfl⟩ | ⟨g, rfl, _, hr⟩
  · simp at hn; omega
  · exact ⟨g, 0, rfl, hr.lt, fun i hi => by rw [Nat.zero_add]; exact hr.cell (by omega)⟩
theorem Fresh.keep {A : Option Addr} {row : Option Nat} (h : Fresh w base A xs) (hg : w.grownBy w' row) (hr : ∀ k, row = some k → k < base) : Fresh w' base A xs := by
  rcases h with h | ⟨g, rfl, hb, hrow⟩
  · exact .inl h
  · exact .inr ⟨g, rfl, hb, (hg.block g hrow.lt (fun e => by have := hr g e.symm; omega)).trans hrow⟩
theorem Fresh.below {A : Option Addr} (h : Fresh w base A xs) (hb : Below w.heap.size w w') : Fresh w' base A xs := by
  rcases h with h | ⟨g, rfl, hg, hr⟩
  · exact .inl h
  · exact .inr ⟨g, rfl, hg, hr.below hb hr.lt⟩
end
theorem info_u8 : (Tryz.prog.info? 5).map (fun i => (i.zero, i.size, i.bytes)) = some (some (.int .u8 0), 1, 1) := by kernel_rfl
/-- make([]byte, n) -/
theorem wpList_make_bytes (w : World) {ops : Array Oper} {rest : List Oper} {o : Oper} {a : Act} {Q : Exit → Act → World → Prop}
    (hg : o.guard = none) (l c : Operand) (hop : o.op = Op.makeSlice 51 l c) (L C : Int) (n : Nat) (hl : a.eval l = .int .i64 L) (hc : a.eval c = .int .i64 C) (hL : L = (n : Int)) (hC : C = (n : Int)) (hn : n ≤ 281474976710656)
    (hK : ∀ w', Hid (Row w' w.heap.size (List.replicate n 0)) → Below w.heap.size w w' → wpList Tryz.prog ops Q rest (a.put o.dst (.slice (some ⟨w.heap.size, 0, none⟩) n n)) w') :
    wpList Tryz.prog ops Q (o :: rest) a w := by
  obtain ⟨i0, hi, hz0, hz1, hz2⟩ := info_parts info_u8
  refine wpList_make_full w hg l c 51 hop w.heap.size 5 i0 (.int .u8 0) 1 Tryz.underlying51 hi hz0 hz1 .i64 .i64 L C n hl hc hL hC (by rw [hz2]; omega) (by unfold maxLen; omega) (Nat.le_refl _) ?_
  intro w' hown hgr
  refine hK w' ?_ ((Below.refl _ _).grown hgr (Nat.le_refl _) (fun k hk => by cases hk))
  rcases hown.2 with ⟨h0, _⟩ | ⟨g, cap, cur, hv, _, hh, _, _, hcs, htk⟩
  · cases h0
  · simp only [Value.slice.injEq, Option.some.injEq, Addr.mk.injEq, and_true, true_and] at hv
    obtain ⟨rfl, rfl⟩ := hv
    show w'.heap[_]? = _
    rw [hh]
    have e : cur.toList = List.replicate n (.int .u8 0) := by
      have h1 : cur.toList.take (n * 1) = cur.toList := List.take_of_length_le (by simp [hcs])
      rw [← h1, htk]
      rw [Nat.mul_one]
      exact toList_madeCells_one (.int .u8 0) n
    rw [List.map_replicate, ← e]
/-! ### append onto a row of the call's own -/

/-- the slice value v is nil, or heads a row in a block from 'base' on that begins with the bytes xs (and may have room behind them) -/
def Own (w : World) (base : Nat) (v : Value) (xs : List Int) : Prop := w.ownsRow base 5 1 v xs.length (xs.map (Value.int .u8))
theorem Own.nil (w : World) (base : Nat) : Own w base (.slice none 0 0) [] := World.ownsRow_nil w base 5 1
theorem Own.holds {w : World} {base : Nat} {v : Value} {xs : List Int} (h : Own w base v xs) (hx : Bytes xs) (hn : xs.length ≤ 281474976710656) :
    ∃ A c, v = .slice A xs.length c ∧ Holds w w.heap.size A xs.length c xs := by
  rcases h.2 with ⟨rfl, h0⟩ | ⟨g, cap, cur, rfl, hb, hg, hnc, hcm, hcs, htk⟩
  · have : xs = [] := List.eq_nil_of_length_eq_zero h0
    subst this
    exact ⟨none, 0, rfl, Holds.nil _ _⟩
  · refine ⟨_, _, rfl, rfl, hnc, hn, hx, fun hA => (by cases hA), fun h0 => ⟨g, 0, rfl, (Array.getElem?_eq_some_iff.1 hg).1, fun i hi => ?_⟩⟩
    rw [Nat.zero_add, cell_of_row w g i cur 5 (0, 0) hg]
    have e : cur[i]? = (cur.toList.take (xs.length * 1))[i]? := by
      rw [List.getElem?_take, if_pos (by omega), Array.getElem?_toList]
    rw [e, htk]
    simp [hi]
theorem Own.below {w w' : World} {base : Nat} {v : Value} {xs : List Int} (h : Own w base v xs) (hb : Below w.heap.size w w') : Own w' base v xs := by
  refine ⟨h.1, ?_⟩
  rcases h.2 with h0 | ⟨g, cap, cur, rfl, h1, hg, rest⟩
  · exact .inl h0
  · exact .inr ⟨g, cap, cur, rfl, h1, (hb.block g (Array.getElem?_eq_some_iff.1 hg).1).trans hg, rest⟩
theorem Own.mono {w : World} {base base' : Nat} {v : Value} {xs : List Int} (h : Own w base v xs) (hb : base' ≤ base) : Own w base' v xs := by
  refine ⟨h.1, ?_⟩
  rcases h.2 with h0 | ⟨g, cap, cur, rfl, h1, rest⟩
  · exact .inl h0
  · exact .inr ⟨g, cap, cur, rfl, by omega, rest⟩
theorem Own.alloc {w : World} {base : Nat} {v : Value} {xs : List Int} (h : Own w base v xs) (o : Obj) : Own (w.alloc o) base v xs := World.ownsRow.alloc h o
/-- a block of bytes that has just been laid (a literal; a boxed array), as the walk spells it -/
theorem Holds.lit (w : World) (xs : List Int) (cs : Array Value) (S n : Nat) (hcs : cs = (xs.map (Value.int .u8)).toArray) (hS : w.heap.size = S) (hl : xs.length = n) (hx : Bytes xs) (hn : n ≤ 281474976710656) (T : TypeId := 5) :
    Holds (w.alloc (.cells cs T)) (S + 1) (some ⟨S, 0, none⟩) n n xs := by
  subst hcs
  subst hS
  subst hl
  exact ⟨rfl, Nat.le_refl _, hn, hx, fun hA => (by cases hA), fun _ => ⟨w.heap.size, 0, rfl, by omega, fun i hi => by
    have hr : (w.alloc (.cells (xs.map (Value.int .u8)).toArray T)).heap[w.heap.size]? = some (.cells (xs.map (Value.int .u8)).toArray T (0, 0)) := heap_alloc_new w _
    rw [Nat.zero_add, cell_of_row _ w.heap.size i _ T (0, 0) hr]
    simp [hi]⟩⟩
theorem Own.len {w : World} {base : Nat} {v : Value} {xs : List Int} (h : Own w base v xs) : ∃ A c, v = .slice A xs.length c := by
  rcases h.2 with ⟨rfl, h0⟩ | ⟨g, cap, cur, rfl, _⟩
  · exact ⟨none, 0, by rw [h0]⟩
  · exact ⟨_, _, rfl⟩
theorem Fresh.own {w : World} {base n : Nat} {A : Option Addr} {xs : List Int} (h : Fresh w base A xs) (hn : xs.length = n) (hc : n ≤ 281474976710656) : Own w base (.slice A n n) xs := by
  refine ⟨by simp, ?_⟩
  rcases h with ⟨rfl, rfl⟩ | ⟨g, rfl, hg, hr⟩
  · obtain rfl : n = 0 := by simpa using hn.symm
    exact .inl ⟨rfl, rfl⟩
  · subst hn
    exact .inr ⟨g, xs.length, _, rfl, hg, hr, Nat.le_refl _, by unfold maxLen; omega, by simp, by rw [List.take_of_length_le (by simp)]⟩
end Go.Proofs.YtdgpbhdihhchgaaGreatDoor

namespace Go.Proofs.YtdgpbhdihhchgaaGreatDoor
set_option linter.all false
open Go.RowKit
/-- the slice value v is nil, or heads a row of numbers of kind k (cells of type e) in a block from 'base' on that begins with xs -/
def OwnK (k : IntKind) (e : TypeId) (w : World) (base : Nat) (v : Value) (xs : List Int) : Prop := w.ownsRow base e 1 v xs.length (xs.map (Value.int k))
/-- the same, with noughts behind xs as far as the row goes -/
def OwnZ (k : IntKind) (e : TypeId) (w : World) (base : Nat) (v : Value) (xs : List Int) : Prop :=
  (v = .slice none 0 0 ∧ xs = []) ∨ ∃ g m, v = .slice (some ⟨g, 0, none⟩) xs.length (xs.length + m) ∧ base ≤ g ∧ xs.length + m ≤ maxLen ∧ w.heap[g]? = some (.cells ((xs ++ List.replicate m 0).map (Value.int k)).toArray e (0, 0))
/-- the world has grown, and of what was there nothing but v's own row may have turned -/
def Grew (w w' : World) (v : Value) : Prop := ∃ o, (w.alloc o).grownBy w' v.ownBlock
section
variable {k k' : IntKind} {e e' : TypeId} {w w' : World} {base base' : Nat} {v u : Value} {xs ys : List Int}
theorem OwnK.nil (k : IntKind) (e : TypeId) (w : World) (base : Nat) : OwnK k e w base (.slice none 0 0) [] := World.ownsRow_nil w base e 1
theorem OwnZ.nil (k : IntKind) (e : TypeId) (w : World) (base : Nat) : OwnZ k e w base (.slice none 0 0) [] := .inl ⟨rfl, rfl⟩
theorem OwnZ.own (h : OwnZ k e w base v xs) : OwnK k e w base v xs := by
  rcases h with ⟨rfl, rfl⟩ | ⟨g, m, rfl, hb, hm, hg⟩
  · exact OwnK.nil k e w base
  · exact ⟨by simp, .inr ⟨g, _, _, rfl, hb, hg, by omega, hm, by simp, by simp⟩⟩
theorem OwnK.mono (h : OwnK k e w base v xs) (hb : base' ≤ base) : OwnK k e w base' v xs := by
  refine ⟨h.1, ?_⟩
  rcases h.2 with h0 | ⟨g, cap, cur, rfl, h1, rest⟩
  · exact .inl h0
  · exact .inr ⟨g, cap, cur, rfl, by omega, rest⟩
theorem OwnZ.mono (h : OwnZ k e w base v xs) (hb : base' ≤ base) : OwnZ k e w base' v xs := by
  rcases h with h0 | ⟨g, m, rfl, h1, rest⟩
  · exact .inl h0
  · exact .inr ⟨g, m, rfl, by omega, rest⟩
theorem OwnK.keep (h : OwnK k e w base v xs) (hk : ∀ i cs, v.ownBlock = some i → w.heap[i]? = some (.cells cs e (0, 0)) → w'.heap[i]? = w.heap[i]?) : OwnK k e w' base v xs := by
  refine ⟨h.1, ?_⟩
  rcases h.2 with h0 | ⟨g, cap, cur, rfl, h1, hg, rest⟩
  · exact .inl h0
  · exact .inr ⟨g, cap, cur, rfl, h1, (hk g cur rfl hg).trans hg, rest⟩
theorem OwnZ.keep (h : OwnZ k e w base v xs) (hk : ∀ i cs, v.ownBlock = some i → w.heap[i]? = some (.cells cs e (0, 0)) → w'.heap[i]? = w.heap[i]?) : OwnZ k e w' base v xs := by
  rcases h with h0 | ⟨g, m, rfl, h1, hm, hg⟩
  · exact .inl h0
  · exact .inr ⟨g, m, rfl, h1, hm, (hk g _ rfl hg).trans hg⟩
theorem OwnK.below (h : OwnK k e w base v xs) (hb : Below w.heap.size w w') : OwnK k e w' base v xs := h.keep fun i _ _ hi => hb.block i (Array.getElem?_eq_some_iff.1 hi).1
theorem OwnZ.below (h : OwnZ k e w base v xs) (hb : Below w.heap.size w w') : OwnZ k e w' base v xs := h.keep fun i _ _ hi => hb.block i (Array.getElem?_eq_some_iff.1 hi).1
theorem OwnK.alloc (h : OwnK k e w base v xs) (o : Obj) : OwnK k e (w.alloc o) base v xs := h.keep fun _ _ _ hi => Below.heap_alloc _ _ _ (Array.getElem?_eq_some_iff.1 hi).1
theorem OwnZ.alloc (h : OwnZ k e w base v xs) (o : Obj) : OwnZ k e (w.alloc o) base v xs := h.keep fun _ _ _ hi => Below.heap_alloc _ _ _ (Array.getElem?_eq_some_iff.1 hi).1
theorem OwnK.iterAt (h : OwnK k e w base v xs) {K : Nat} {s : ByteArray} {p : Nat} (hK : w.heap[K]? = some (.stringIter s p)) (p' : Nat) : OwnK k e (w.iterAt K s p') base v xs :=
  h.keep fun _ _ _ hi => Lib.iterAt_other w K _ s p' (fun e => by subst e; rw [hi] at hK; cases hK)
theorem OwnZ.iterAt (h : OwnZ k e w base v xs) {K : Nat} {s : ByteArray} {p : Nat} (hK : w.heap[K]? = some (.stringIter s p)) (p' : Nat) : OwnZ k e (w.iterAt K s p') base v xs :=
  h.keep fun _ _ _ hi => Lib.iterAt_other w K _ s p' (fun e => by subst e; rw [hi] at hK; cases hK)
theorem OwnK.block (h : OwnK k e w base v xs) {i : Nat} (hi : v.ownBlock = some i) : base ≤ i ∧ ∃ cs, w.heap[i]? = some (.cells cs e (0, 0)) := by
  rcases h.2 with ⟨rfl, _⟩ | ⟨g, cap, cur, rfl, h1, hg, rest⟩
  · cases hi
  · simp only [Value.ownBlock, Option.some.injEq] at hi
    subst hi
    exact ⟨h1, cur, hg⟩
/-- what a row of the call's own reads as -/
theorem OwnK.open (h : OwnK k e w base v xs) : ∃ A n c, v = .slice A n c ∧ xs.length = n ∧ n ≤ c ∧ n ≤ 9223372036854775807 ∧ (A = none → c = 0) ∧
    (0 < n → ∃ g, A = some ⟨g, 0, none⟩ ∧ base ≤ g ∧ g < w.heap.size ∧ ∀ i, i < n → w.cell? ⟨g, i, none⟩ = some (.int k (xs.getD i 0))) := by
  rcases h.2 with ⟨rfl, h0⟩ | ⟨g, cap, cur, rfl, hb, hg, hnc, hcm, hcs, htk⟩
  · exact ⟨none, 0, 0, rfl, h0, Nat.le_refl _, by omega, fun _ => rfl, fun h => absurd h (by omega)⟩
  · refine ⟨_, _, _, rfl, rfl, hnc, by unfold maxLen at hcm; omega, fun hA => (by cases hA), fun h0 => ⟨g, rfl, hb, (Array.getElem?_eq_some_iff.1 hg).1, fun i hi => ?_⟩⟩
    rw [cell_of_row w g i cur e (0, 0) hg]
    have e1 : cur[i]? = (cur.toList.take (xs.length * 1))[i]? := by
      rw [List.getElem?_take, if_pos (by omega), Array.getElem?_toList]
    rw [e1, htk]
    simp [hi]
theorem Grew.below (hg : Grew w w' v) (h : OwnK k e w base v xs) (hb : base ≤ w.heap.size) : Below base w w' := by
  obtain ⟨o, hg⟩ := hg
  exact ((Below.refl base w).alloc hb o).grown hg (by simp; omega) fun i hi => (h.block hi).1
theorem Grew.block (hg : Grew w w' v) {i : Nat} {x : Obj} (hi : w.heap[i]? = some x) (hn : v.ownBlock ≠ some i) : w'.heap[i]? = some x := by
  obtain ⟨o, hg⟩ := hg
  have hlt := (Array.getElem?_eq_some_iff.1 hi).1
  rw [hg.block i (by simp; omega) (fun e => hn e.symm), Below.heap_alloc _ _ _ hlt, hi]
theorem Grew.iter (hg : Grew w w' v) (h : OwnK k e w base v xs) {K : Nat} {s : ByteArray} {p : Nat} (hK : w.heap[K]? = some (.stringIter s p)) : w'.heap[K]? = some (.stringIter s p) :=
  hg.block hK fun hi => by
    obtain ⟨_, cs, hcs⟩ := h.block hi
    rw [hcs] at hK
    cases hK
/-- a row of another kind stays -/
theorem Grew.other (hg : Grew w w' v) (h : OwnK k e w base v xs) (h' : OwnK k' e' w base' u ys) (hne : e ≠ e') : OwnK k' e' w' base' u ys :=
  h'.keep fun _ _ _ hi => by
    rw [hg.block hi fun hv => ?_, hi]
    obtain ⟨_, cs', hcs⟩ := h.block hv
    rw [hcs] at hi
    cases hi
    exact hne rfl
/-! ### make and append -/

theorem zeroCells_int (k : IntKind) (n : Nat) : (Builtin.zeroCells (Value.int k 0).cells n) = (List.replicate n (Value.int k 0)).toArray := by
  apply Array.ext
  · simp [Builtin.zeroCells, Value.cells]
  · intro i h1 h2
    simp [Builtin.zeroCells, Value.cells, Nat.mod_one]
/-- make([]T, 0, n) -/
theorem wpList_make_own0 {P : Program} {ops : Array Oper} {rest : List Oper} {o : Oper} {a : Act} {Q : Exit → Act → World → Prop} (hg : o.guard = none) (k : IntKind) (T e : TypeId) (bytes : Nat)
    (ht : P.underlying T = some (.slice e)) (hi : (P.info? e).map (fun i => (i.zero, i.size, i.bytes)) = some (some (.int k 0), 1, bytes))
    (l c : Operand) (hop : o.op = Op.makeSlice T l c) (C : Int) (n : Nat) (hl : a.eval l = .int .i64 0) (hc : a.eval c = .int .i64 C) (hC : C = (n : Int)) (hb : n * bytes ≤ 281474976710656) (hn : n ≤ maxLen)
    (hK : ∀ w', Hid (OwnZ k e w' w.heap.size (.slice (some ⟨w.heap.size, 0, none⟩) 0 n) []) → Below w.heap.size w w' → wpList P ops Q rest (a.put o.dst (.slice (some ⟨w.heap.size, 0, none⟩) 0 n)) w') :
    wpList P ops Q (o :: rest) a w := by
  obtain ⟨i0, hi0, hz0, hz1, hz2⟩ := info_parts hi
  refine wpList_plain hg fun K hK' => ?_
  have h63 : (n : Int) ≤ 9223372036854775807 := by have := hn; rw [show maxLen = 9223372036854775807 from rfl] at this; omega
  have hbb : (i0.bytes : Int) * (n : Int) ≤ 281474976710656 := by
    have h : ((i0.bytes * n : Nat) : Int) ≤ 281474976710656 := by rw [hz2, Nat.mul_comm]; omega
    rwa [Int.natCast_mul] at h
  have hrun := run_make (P := P) w T e i0 (.int k 0) ht hi0 hz0 .i64 .i64 0 n (Int.le_refl _) (by omega) hbb h63
  have hcells : madeCells (Value.int k 0).cells (n * i0.size) = (List.replicate n (Value.int k 0)).toArray := by
    rw [hz1, Nat.mul_one]
    apply Array.toList_inj.1
    rw [show (Value.int k 0).cells = #[Value.int k 0] from rfl, toList_madeCells_one]
  simp only [Int.toNat_zero, Int.toNat_natCast, hcells] at hrun
  subst hC
  unfold Oper.wp
  simp [execOp, hop, hl, hc, hrun, Result.andThen]
  refine hK' _ _ (hK _ ?_ ((Below.refl _ _).alloc (Nat.le_refl _) _))
  exact .inr ⟨w.heap.size, n, by simp, Nat.le_refl _, by simpa using hn, by
    rw [List.nil_append, List.map_replicate]
    exact heap_alloc_new w _⟩
/-- append(l, xs..), the new ones lying in a block of their own that has just been laid, onto a row of the call's own -/
theorem wpList_append_lit {P : Program} {ops : Array Oper} {rest : List Oper} {o : Oper} {a : Act} {Q : Exit → Act → World → Prop} (hgd : o.guard = none) (s x : Operand) (k : IntKind) (T e : TypeId) (bytes : Nat)
    (ht : P.underlying T = some (.slice e)) (hi : (P.info? e).map (fun i => (i.zero, i.size, i.bytes)) = some (some (.int k 0), 1, bytes))
    (ho : o.op = .call { callee := .builtin .append, args := #[s, x], argTypes := #[T, T] })
    (base : Nat) (v : Value) (xs ys : List Int) (cs : Array Value) (hcs : cs = (ys.map (Value.int k)).toArray) (m c : Nat) (hm : ys.length = m) (hs : a.eval s = v) (hx : a.eval x = .slice (some ⟨w.heap.size, 0, none⟩) m c)
    (hown : OwnK k e w base v xs) (hlen : (xs.length + m) * bytes ≤ 140737488355328) (h63 : xs.length + m ≤ 9223372036854775807) (hbase : base ≤ w.heap.size)
    (h : ∀ v' w', Hid (OwnK k e w' base v' (xs ++ ys)) → Hid (Grew w w' v) → wpList P ops Q rest (a.put o.dst v') w') :
    wpList P ops Q (o :: rest) a (w.alloc (.cells cs e)) := by
  obtain ⟨i0, hi0, hz0, hz1, hz2⟩ := info_parts hi
  subst hcs
  have hr : (w.alloc (.cells (ys.map (Value.int k)).toArray e)).heap[w.heap.size]? = some (.cells (ys.map (Value.int k)).toArray e (0, 0)) := heap_alloc_new w _
  refine wpList_append_own _ hgd s x T ho base e i0 (.int k 0) 1 bytes ht hi0 hz0 hz1 hz2 rfl (by omega) v xs.length (xs.map (Value.int k)) hs (OwnK.alloc hown _) ⟨w.heap.size, 0, none⟩ m c (ys.map (Value.int k)) hx (by simp [hm]) ?_
    (by intro v hv; obtain ⟨x, _, rfl⟩ := List.mem_map.1 hv; rfl) (by unfold maxLen; omega) hlen (by simp; omega) ?_
  · intro j y hj
    have e1 : (⟨w.heap.size, 0, none⟩ : Addr).add j = ⟨w.heap.size, j, none⟩ := by
      by_cases hj0 : j = 0
      · subst hj0; simp [Addr.add]
      · simp [Addr.add, hj0]
    rw [e1, cell_of_row _ w.heap.size j _ e (0, 0) hr, ← hj]
    simp
  · intro v' w' hown' hgr _
    refine h v' w' ?_ ⟨_, hgr⟩
    show World.ownsRow _ _ _ _ _ _ _
    rw [List.length_append, List.map_append, hm]
    exact hown'
theorem maxLen_eq : maxLen = 9223372036854775807 := rfl
end
section
variable {k : IntKind} {e : TypeId} {w : World} {base : Nat} {v : Value} {xs ys : List Int}
theorem grew_new (k : IntKind) (e : TypeId) (w : World) (base : Nat) (zs : List Int) (old m : Nat) (hz : zs.length = m) (hb : base ≤ w.heap.size) (hm : m ≤ maxLen) :
    OwnZ k e (w.drew.alloc (.cells ((zs.map (Value.int k)).toArray ++ Builtin.zeroCells (Value.int k 0).cells (grownCap w m old e - m)) e)) base (.slice (some ⟨w.heap.size, 0, none⟩) m (grownCap w m old e)) zs := by
  have hge := grownCap_ge w m old e
  have hle := grownCap_le_maxLen w m old e hm
  refine .inr ⟨w.heap.size, grownCap w m old e - m, by rw [hz, show m + (grownCap w m old e - m) = grownCap w m old e by omega], hb, by omega, ?_⟩
  rw [zeroCells_int, List.map_append, List.map_replicate, ← List.append_toArray]
  exact heap_alloc_new w.drew _
/-- a literal: a block that has just been laid -/
theorem OwnK.lit (k : IntKind) (e : TypeId) (w : World) (xs : List Int) (cs : Array Value) (n : Nat) (hcs : cs = (xs.map (Value.int k)).toArray) (hn : xs.length = n) (hm : n ≤ maxLen) :
    OwnK k e (w.alloc (.cells cs e)) w.heap.size (.slice (some ⟨w.heap.size, 0, none⟩) n n) xs := by
  subst hcs
  subst hn
  exact ⟨by simp, .inr ⟨w.heap.size, _, _, rfl, Nat.le_refl _, heap_alloc_new w _, Nat.le_refl _, hm, by simp, List.take_of_length_le (by simp)⟩⟩
/-- string(b), b a row of bytes of the call's own -/
theorem run_string_own {P : Program} {src e : TypeId} (hs : P.underlying src = some (.slice e)) (he : P.underlying e = some (.int .u8)) (h : OwnK .u8 e w base v xs) :
    ∀ dst, P.underlying dst = some .string → (convert src dst v).run P w = .ok (.string (strOfNums xs)) w := by
  intro dst hd
  obtain ⟨A, n, c, rfl, hl, _, _, hA, hc⟩ := h.open
  by_cases h0 : 0 < n
  · obtain ⟨g, rfl, _, _, hc⟩ := hc h0
    exact run_convert_bytes_arg w src e hs he g 0 n c xs hl (fun i hi => by rw [Nat.zero_add]; exact hc i hi) dst hd
  · obtain rfl : n = 0 := by omega
    obtain rfl : xs = [] := List.eq_nil_of_length_eq_zero hl
    rcases h.2 with ⟨h1, _⟩ | ⟨g, cap, cur, h1, _⟩
    · cases h1
      exact run_convert_bytes_nil w src e hs he 0 0 dst hd
    · cases h1
      exact run_convert_bytes_arg w src e hs he g 0 0 c [] rfl (fun i hi => absurd hi (by omega)) dst hd
end
end Go.Proofs.YtdgpbhdihhchgaaGreatDoor

namespace Go.Proofs
set_option linter.all false
open Go.Shelf
open Go.RowKit in
open Go.RowKit in
open Go.RowKit in
open Go.RowKit in
open Go.RowKit in
def Tryz.lays156_ren : Go.Shelf.Ren := ⟨fun | 156 => 99 | 165 => 148 | 166 => 149 | 169 => 150 | 240 => 177 | 241 => 178 | 276 => 208 | 277 => 209 | n => n, fun | 31 => 78 | 9 => 9 | 3 => 3 | 4 => 4 | 0 => 0 | 20 => 20 | 72 => 185 | 76 => 188 | 70 => 183 | 37 => 51 | 75 => 187 | 127 => 203 | 164 => 228 | 5 => 5 | 80 => 190 | n => n, fun | n => n⟩
theorem Tryz.lays156 : Go.Proofs.Lays.n156 Tryz.prog Tryz.lays156_ren := {
  mixed := by kernel_rfl
  f156 := Tryz.func99.trans (congrArg some (by kernel_rfl))
  f165 := Tryz.func148.trans (congrArg some (by kernel_rfl))
  f166 := Tryz.func149.trans (congrArg some (by kernel_rfl))
  f169 := Tryz.func150.trans (congrArg some (by kernel_rfl))
  f240 := Tryz.func177.trans (congrArg some (by kernel_rfl))
  f241 := Tryz.func178.trans (congrArg some (by kernel_rfl))
  f276 := Tryz.func208.trans (congrArg some (by kernel_rfl))
  f277 := Tryz.func209.trans (congrArg some (by kernel_rfl))
  t0 := Tryz.underlying0
  a0 := Tryz.isAgg0
  z0 := Tryz.sizeOf0
  v0 := Tryz.zeroValue0
  t3 := Tryz.underlying3
  a3 := Tryz.isAgg3
  z3 := Tryz.sizeOf3
  v3 := Tryz.zeroValue3
  t4 := Tryz.underlying4
  a4 := Tryz.isAgg4
  z4 := Tryz.sizeOf4
  v4 := Tryz.zeroValue4
  t9 := Tryz.underlying9
  a9 := Tryz.isAgg9
  z9 := Tryz.sizeOf9
  v9 := Tryz.zeroValue9
  t20 := Tryz.underlying20
  a20 := Tryz.isAgg20
  z20 := Tryz.sizeOf20
  v20 := Tryz.zeroValue20
  t31 := Tryz.underlying78
  a31 := Tryz.isAgg78
  z31 := Tryz.sizeOf78
  v31 := Tryz.zeroValue78
  t37 := Tryz.underlying51
  a37 := Tryz.isAgg51
  z37 := Tryz.sizeOf51
  v37 := Tryz.zeroValue51
  t70 := Tryz.underlying183
  a70 := Tryz.isAgg183
  z70 := Tryz.sizeOf183
  v70 := Tryz.zeroValue183
  t72 := Tryz.underlying185
  a72 := Tryz.isAgg185
  z72 := Tryz.sizeOf185
  v72 := Tryz.zeroValue185
  t75 := Tryz.underlying187
  a75 := Tryz.isAgg187
  z75 := Tryz.sizeOf187
  v75 := Tryz.zeroValue187
  t76 := Tryz.underlying188
  a76 := Tryz.isAgg188
  z76 := Tryz.sizeOf188
  v76 := Tryz.zeroValue188
  t127 := Tryz.underlying203
  a127 := Tryz.isAgg203
  z127 := Tryz.sizeOf203
  v127 := Tryz.zeroValue203
  t164 := Tryz.underlying228
  a164 := Tryz.isAgg228
  z164 := Tryz.sizeOf228
  v164 := Tryz.zeroValue228 }
theorem Tryz.Builder_Extra_156 : Builder.Extra Tryz.prog Tryz.lays156_ren := {
  sizeBuilder := by kernel_rfl
  liesBuilder := by kernel_rfl
  t5 := Tryz.underlying5
  a5 := Tryz.isAgg5
  z5 := Tryz.sizeOf5
  v5 := Tryz.zeroValue5
  infoByte := by kernel_rfl
  cellsByte := by kernel_rfl
  sizeByte := by kernel_rfl
  neB5 := by decide }
open Go.RowKit in
/-- No element: the empty string; the world is as it was. (Whatever the slice's address and capacity: a nil slice too.) (LAID: no walk: one application.) -/
theorem Tryz.strings_Join_none (a : Option Addr) (c : Nat) (sep : ByteArray) (w : World) :
    Calls Tryz.prog 99 #[.slice a 0 c, .string sep] w fun e w' => e = .returned (.string ⟨#[]⟩) ∧ w' = w := Any.strings_Join_none Tryz.lays156 Tryz.Builder_Extra_156 a c sep w
open Go.RowKit in
/-- strings.Join: "Join concatenates the elements of its first argument to create a single string. The separator string sep is placed between elements in the resulting string.": HOWEVER MANY ELEMENTS. Below the heap's end the world is as it was. (LAID: no walk: one application.) -/
theorem Tryz.strings_Join (bk o c : Nat) (xs : List ByteArray) (sep : ByteArray) (w : World) (hcells : ∀ (j : Nat) x, xs[j]? = some x → w.cell? ⟨bk, o + j, none⟩ = some (.string x)) (hbk : bk < w.heap.size) (hN : xs.length ≤ 140737488355328) (hcap : xs.length ≤ c) (hlen : (Lib.join (xs.map (·.data.toList)) sep.data.toList).length ≤ 140737488355328) :
    Calls Tryz.prog 99 #[.slice (some ⟨bk, o, none⟩) xs.length c, .string sep] w fun e w' => e = .returned (.string ⟨(Lib.join (xs.map (·.data.toList)) sep.data.toList).toArray⟩) ∧ Below w.heap.size w w' := Any.strings_Join Tryz.lays156 Tryz.Builder_Extra_156 bk o c xs sep w hcells hbk hN hcap hlen
open Go.RowKit in
open Go.RowKit in
open Go.RowKit in
open Go.RowKit in
open Go.RowKit in
open Go.RowKit in
open Go.RowKit in
def Tryz.lays242_ren : Go.Shelf.Ren := ⟨fun | 242 => 143 | 278 => 175 | n => n, fun | 37 => 51 | 21 => 21 | 51 => 204 | 4 => 4 | 5 => 5 | 46 => 196 | n => n, fun | n => n⟩
theorem Tryz.lays242 : Go.Proofs.Lays.n242 Tryz.prog Tryz.lays242_ren := {
  mixed := by kernel_rfl
  f242 := Tryz.func143.trans (congrArg some (by kernel_rfl))
  f278 := Tryz.func175.trans (congrArg some (by kernel_rfl))
  t4 := Tryz.underlying4
  a4 := Tryz.isAgg4
  z4 := Tryz.sizeOf4
  v4 := Tryz.zeroValue4
  t5 := Tryz.underlying5
  a5 := Tryz.isAgg5
  z5 := Tryz.sizeOf5
  v5 := Tryz.zeroValue5
  t21 := Tryz.underlying21
  a21 := Tryz.isAgg21
  z21 := Tryz.sizeOf21
  v21 := Tryz.zeroValue21
  t37 := Tryz.underlying51
  a37 := Tryz.isAgg51
  z37 := Tryz.sizeOf51
  v37 := Tryz.zeroValue51
  t46 := Tryz.underlying196
  a46 := Tryz.isAgg196
  z46 := Tryz.sizeOf196
  v46 := Tryz.zeroValue196
  t51 := Tryz.underlying204
  a51 := Tryz.isAgg204
  z51 := Tryz.sizeOf204
  v51 := Tryz.zeroValue204 }
open Go.RowKit in
/-- unicode/utf8.AppendRune: "AppendRune appends the UTF-8 encoding of r to the end of p and returns the extended buffer. If the rune is out of range, it appends the encoding of RuneError.": ONTO A ROW OF BYTES THAT THE CALL OWNS (its head frozen or not): EVERY int32: 'Lib.runeCells r' goes in behind what the row holds; the world: one new block (the bytes as the call's variadic argument), then what 'append' does to the row. (LAID: no walk: one application.) -/
theorem Tryz.utf8_AppendRune_plain (B : Nat) (v : Value) (n : Nat) (xs : List Value) (r : Int) (hr0 : -2147483648 ≤ r) (hr1 : r ≤ 2147483647) (w : World) (hown : w.ownsRow B 5 1 v n xs) (hlen : n + 4 ≤ 140737488355328) (hBw : B ≤ w.heap.size) :
    Calls Tryz.prog 143 #[v, .int .i32 r] w fun e w' => ∃ v', e = .returned v' ∧ w'.ownsRow B 5 1 v' (n + (Lib.runeCells r).length) (xs ++ Lib.runeCells r) ∧ ∃ o, (w.alloc o).grownBy w' v.ownBlock := Any.utf8_AppendRune_plain Tryz.lays242 (by kernel_rfl) B v n xs r hr0 hr1 w hown hlen hBw
def Tryz.lays195_ren : Go.Shelf.Ren := ⟨fun | 195 => 138 | n => n, fun | 9 => 9 | 3 => 3 | 0 => 0 | 4 => 4 | n => n, fun | n => n⟩
theorem Tryz.lays195 : Go.Proofs.Lays.n195 Tryz.prog Tryz.lays195_ren := {
  mixed := by kernel_rfl
  f195 := Tryz.func138.trans (congrArg some (by kernel_rfl))
  t0 := Tryz.underlying0
  a0 := Tryz.isAgg0
  z0 := Tryz.sizeOf0
  v0 := Tryz.zeroValue0
  t3 := Tryz.underlying3
  a3 := Tryz.isAgg3
  z3 := Tryz.sizeOf3
  v3 := Tryz.zeroValue3
  t4 := Tryz.underlying4
  a4 := Tryz.isAgg4
  z4 := Tryz.sizeOf4
  v4 := Tryz.zeroValue4
  t9 := Tryz.underlying9
  a9 := Tryz.isAgg9
  z9 := Tryz.sizeOf9
  v9 := Tryz.zeroValue9 }
open Go.RowKit in
/-- unicode/utf8.RuneCountInString: "RuneCountInString is like RuneCount but its input is a string." ("RuneCount returns the number of runes in p. Erroneous and short encodings are treated as single runes of width 1 byte."): EVERY STRING, valid UTF-8 or not: 'Lib.runeCount s' (plain Lean over the model's own 'Utf8.decode'; 'Lib.runeCount_le': at most len(s); 'Lib.runeCount_ascii': on ASCII: len(s)). THE ONE CONDITION: len(s) below 2^63 - 1 (the counter does not wrap): the form's reach pays it. THE WORLD BEHIND THE CALL: ONE BLOCK MORE: the model's iterator over s, at its end: all else as it was. (LAID: no walk: one application.) -/
theorem Tryz.utf8_RuneCountInString (s : ByteArray) (w : World) (hs : s.size < 9223372036854775807) :
    Calls Tryz.prog 138 #[.string s] w fun e w' => e = .returned (.int .i64 (Lib.runeCount s)) ∧ ∃ pos, w' = w.iter s pos := Any.utf8_RuneCountInString Tryz.lays195 s w hs
def Tryz.laysM316_ren : Go.Shelf.Ren := ⟨fun | 316 => 141 | n => n, fun | 9 => 9 | 3 => 3 | 4 => 4 | 37 => 51 | 0 => 0 | 127 => 203 | 5 => 5 | n => n, fun | n => n⟩
theorem Tryz.laysM316 : Go.Proofs.LaysM.n316 Tryz.prog Tryz.laysM316_ren := {
  mixed := by kernel_rfl
  f316 := Tryz.func141.trans (congrArg some (by kernel_rfl))
  t0 := Tryz.underlying0
  a0 := Tryz.isAgg0
  z0 := Tryz.sizeOf0
  v0 := Tryz.zeroValue0
  t3 := Tryz.underlying3
  a3 := Tryz.isAgg3
  z3 := Tryz.sizeOf3
  v3 := Tryz.zeroValue3
  t4 := Tryz.underlying4
  a4 := Tryz.isAgg4
  z4 := Tryz.sizeOf4
  v4 := Tryz.zeroValue4
  t9 := Tryz.underlying9
  a9 := Tryz.isAgg9
  z9 := Tryz.sizeOf9
  v9 := Tryz.zeroValue9
  t37 := Tryz.underlying51
  a37 := Tryz.isAgg51
  z37 := Tryz.sizeOf51
  v37 := Tryz.zeroValue51
  t127 := Tryz.underlying203
  a127 := Tryz.isAgg203
  z127 := Tryz.sizeOf203
  v127 := Tryz.zeroValue203
  t5 := Tryz.underlying5
  a5 := Tryz.isAgg5
  z5 := Tryz.sizeOf5
  v5 := Tryz.zeroValue5
  i0 := by kernel_rfl
  i3 := by kernel_rfl
  i4 := by kernel_rfl
  i5 := by kernel_rfl
  i9 := by kernel_rfl
  i37 := by kernel_rfl
  i127 := by kernel_rfl }
open Go.RowKit in
/-- internal/stringslite.Clone (what strings.Clone calls): "Clone returns a fresh copy of s.": THE SAME BYTES. Of what was there nothing has turned (a new row is laid, and frozen, where s is not empty). (LAID: no walk: one application.) -/
theorem Tryz.stringslite_Clone (s : ByteArray) (w : World) (hlim : s.size ≤ 281474976710656) :
    Calls Tryz.prog 141 #[.string s] w fun e w' => e = .returned (.string s) ∧ Below w.heap.size w w' := Any.stringslite_Clone Tryz.laysM316 s w hlim
open Go.RowKit Go.Lib in
open Go.RowKit Go.Lib in
open Go.RowKit Go.Lib in
open Go.RowKit Go.Lib in
def Tryz.lays219_ren : Go.Shelf.Ren := ⟨fun | 219 => 173 | 217 => 202 | 225 => 203 | 224 => 204 | 267 => 205 | 266 => 222 | 314 => 223 | n => n, fun | 9 => 9 | 3 => 3 | 4 => 4 | 5 => 5 | 46 => 196 | 146 => 245 | 51 => 204 | n => n, fun | 1 => 0 | n => n⟩
theorem Tryz.lays219 : Go.Proofs.Lays.n219 Tryz.prog Tryz.lays219_ren := {
  mixed := by kernel_rfl
  f217 := Tryz.func202.trans (congrArg some (by kernel_rfl))
  f219 := Tryz.func173.trans (congrArg some (by kernel_rfl))
  f224 := Tryz.func204.trans (congrArg some (by kernel_rfl))
  f225 := Tryz.func203.trans (congrArg some (by kernel_rfl))
  f266 := Tryz.func222.trans (congrArg some (by kernel_rfl))
  f267 := Tryz.func205.trans (congrArg some (by kernel_rfl))
  f314 := Tryz.func223.trans (congrArg some (by kernel_rfl))
  t3 := Tryz.underlying3
  a3 := Tryz.isAgg3
  z3 := Tryz.sizeOf3
  v3 := Tryz.zeroValue3
  t4 := Tryz.underlying4
  a4 := Tryz.isAgg4
  z4 := Tryz.sizeOf4
  v4 := Tryz.zeroValue4
  t5 := Tryz.underlying5
  a5 := Tryz.isAgg5
  z5 := Tryz.sizeOf5
  v5 := Tryz.zeroValue5
  t9 := Tryz.underlying9
  a9 := Tryz.isAgg9
  z9 := Tryz.sizeOf9
  v9 := Tryz.zeroValue9
  t46 := Tryz.underlying196
  a46 := Tryz.isAgg196
  z46 := Tryz.sizeOf196
  v46 := Tryz.zeroValue196
  t51 := Tryz.underlying204
  a51 := Tryz.isAgg204
  z51 := Tryz.sizeOf204
  v51 := Tryz.zeroValue204
  t146 := Tryz.underlying245
  a146 := Tryz.isAgg245
  z146 := Tryz.sizeOf245
  v146 := Tryz.zeroValue245
  g1 := by kernel_rfl }
open Go.RowKit Go.Lib in
/-- internal/stringslite.Index (what strings.Index calls) AT A substr OF ONE BYTE c: IT RETURNS 'Lib.indexByte s c'; the world is as it was. (LAID: no walk: one application.) -/
theorem Tryz.stringslite_Index_one (s : ByteArray) (c : UInt8) (w : World) :
    Calls Tryz.prog 173 #[.string s, .string ⟨#[c]⟩] w fun e w' => e = .returned (.int .i64 (Lib.indexByte s.data.toList c)) ∧ w' = w := Any.stringslite_Index_one Tryz.lays219 s c w
open Go.RowKit Go.Lib in
open Go.RowKit Go.Lib in
open Go.RowKit Go.Lib in
open Go.RowKit Go.Lib in
open Go.RowKit Go.Lib in
open Go.RowKit Go.Lib in
open Go.RowKit Go.Lib in
def Tryz.lays197_ren : Go.Shelf.Ren := ⟨fun | 197 => 206 | 260 => 224 | n => n, fun | 9 => 9 | 21 => 21 | 3 => 3 | 4 => 4 | 5 => 5 | 105 => 225 | 119 => 233 | 0 => 0 | 46 => 196 | 139 => 236 | 138 => 235 | n => n, fun | 3 => 1 | 4 => 2 | n => n⟩
theorem Tryz.lays197 : Go.Proofs.Lays.n197 Tryz.prog Tryz.lays197_ren := {
  mixed := by kernel_rfl
  f197 := Tryz.func206.trans (congrArg some (by kernel_rfl))
  f260 := Tryz.func224.trans (congrArg some (by kernel_rfl))
  t0 := Tryz.underlying0
  a0 := Tryz.isAgg0
  z0 := Tryz.sizeOf0
  v0 := Tryz.zeroValue0
  t3 := Tryz.underlying3
  a3 := Tryz.isAgg3
  z3 := Tryz.sizeOf3
  v3 := Tryz.zeroValue3
  t4 := Tryz.underlying4
  a4 := Tryz.isAgg4
  z4 := Tryz.sizeOf4
  v4 := Tryz.zeroValue4
  t5 := Tryz.underlying5
  a5 := Tryz.isAgg5
  z5 := Tryz.sizeOf5
  v5 := Tryz.zeroValue5
  t9 := Tryz.underlying9
  a9 := Tryz.isAgg9
  z9 := Tryz.sizeOf9
  v9 := Tryz.zeroValue9
  t21 := Tryz.underlying21
  a21 := Tryz.isAgg21
  z21 := Tryz.sizeOf21
  v21 := Tryz.zeroValue21
  t46 := Tryz.underlying196
  a46 := Tryz.isAgg196
  z46 := Tryz.sizeOf196
  v46 := Tryz.zeroValue196
  t105 := Tryz.underlying225
  a105 := Tryz.isAgg225
  z105 := Tryz.sizeOf225
  v105 := Tryz.zeroValue225
  t119 := Tryz.underlying233
  a119 := Tryz.isAgg233
  z119 := Tryz.sizeOf233
  t138 := Tryz.underlying235
  a138 := Tryz.isAgg235
  z138 := Tryz.sizeOf235
  v138 := Tryz.zeroValue235
  t139 := Tryz.underlying236
  a139 := Tryz.isAgg236
  z139 := Tryz.sizeOf236
  v139 := Tryz.zeroValue236
  g3 := by kernel_rfl
  g4 := by kernel_rfl }
open Go.RowKit Go.Lib in
/-- **unicode/utf8.DecodeRuneInString AT EVERY STRING.** (LAID: no walk: one application.) -/
theorem Tryz.utf8_DecodeRuneInString (s : ByteArray) (w : World) (hT : Lib.Utf8Tabs 1 2 w) :
    Calls Tryz.prog 206 #[.string s] w fun e w' => e = .returned (.tuple #[.int .i32 (Lib.decodeGo s).1, .int .i64 (Lib.decodeGo s).2]) ∧ Below w.heap.size w w' := Any.utf8_DecodeRuneInString Tryz.lays197 s w hT
def Tryz.lays108_ren : Go.Shelf.Ren := ⟨fun | 108 => 117 | n => n, fun | 28 => 44 | 3 => 3 | 0 => 0 | 4 => 4 | n => n, fun | n => n⟩
theorem Tryz.lays108 : Go.Proofs.Lays.n108 Tryz.prog Tryz.lays108_ren := {
  mixed := by kernel_rfl
  f108 := Tryz.func117.trans (congrArg some (by kernel_rfl))
  t0 := Tryz.underlying0
  a0 := Tryz.isAgg0
  z0 := Tryz.sizeOf0
  v0 := Tryz.zeroValue0
  t3 := Tryz.underlying3
  a3 := Tryz.isAgg3
  z3 := Tryz.sizeOf3
  v3 := Tryz.zeroValue3
  t4 := Tryz.underlying4
  a4 := Tryz.isAgg4
  z4 := Tryz.sizeOf4
  v4 := Tryz.zeroValue4
  t28 := Tryz.underlying44
  a28 := Tryz.isAgg44
  z28 := Tryz.sizeOf44
  v28 := Tryz.zeroValue44 }
open Go.Lib in
/-- slices.Index at []int: "Index returns the index of the first occurrence of v in s, or -1 if not present.": IT RETURNS 'Lib.idxOf (the elements) v'; the world is as it was. 'zs': what the cells behind the slice's address hold (its spare capacity too, if you have it); 'zs.take n': its elements. (LAID: no walk: one application.) -/
theorem Tryz.slices_Index_int (b off n c : Nat) (zs : List Int) (x : Int) (w : World) (hz : n ≤ zs.length) (hbig : n ≤ 9223372036854775807) (hc : ∀ j, j < zs.length → w.cell? ⟨b, off + j, none⟩ = some (.int .i64 (zs.getD j 0))) :
    Calls Tryz.prog 117 #[.slice (some ⟨b, off, none⟩) n c, .int .i64 x] w fun e w' => e = .returned (.int .i64 (Lib.idxOf (zs.take n) x)) ∧ w' = w := Any.slices_Index_int Tryz.lays108 b off n c zs x w hz hbig hc
open Go.Lib in
/-- The same at a slice of length 0, a nil one too: no cell is known, none is asked for. (LAID: no walk: one application.) -/
theorem Tryz.slices_Index_int_empty (a : Option Addr) (c : Nat) (x : Int) (w : World) :
    Calls Tryz.prog 117 #[.slice a 0 c, .int .i64 x] w fun e w' => e = .returned (.int .i64 (Lib.idxOf [] x)) ∧ w' = w := Any.slices_Index_int_empty Tryz.lays108 a c x w
def Tryz.lays107_ren : Go.Shelf.Ren := ⟨fun | 107 => 211 | 108 => 117 | n => n, fun | 28 => 44 | 3 => 3 | 4 => 4 | 0 => 0 | n => n, fun | n => n⟩
theorem Tryz.lays107 : Go.Proofs.Lays.n107 Tryz.prog Tryz.lays107_ren := {
  mixed := by kernel_rfl
  f107 := Tryz.func211.trans (congrArg some (by kernel_rfl))
  f108 := Tryz.func117.trans (congrArg some (by kernel_rfl))
  t0 := Tryz.underlying0
  a0 := Tryz.isAgg0
  z0 := Tryz.sizeOf0
  v0 := Tryz.zeroValue0
  t3 := Tryz.underlying3
  a3 := Tryz.isAgg3
  z3 := Tryz.sizeOf3
  v3 := Tryz.zeroValue3
  t4 := Tryz.underlying4
  a4 := Tryz.isAgg4
  z4 := Tryz.sizeOf4
  v4 := Tryz.zeroValue4
  t28 := Tryz.underlying44
  a28 := Tryz.isAgg44
  z28 := Tryz.sizeOf44
  v28 := Tryz.zeroValue44 }
open Go.Lib in
/-- slices.Contains at []int: "Contains reports whether v is present in s.": IT RETURNS 'elements.contains v'; the world is as it was. ITS CALLEE slices.Index IS MET BY ITS OWN CONTRACT OFF THE SHELF (lay that first): no loop is walked here. (LAID: no walk: one application.) -/
theorem Tryz.slices_Contains_int (b off n c : Nat) (zs : List Int) (x : Int) (w : World) (hz : n ≤ zs.length) (hbig : n ≤ 9223372036854775807) (hc : ∀ j, j < zs.length → w.cell? ⟨b, off + j, none⟩ = some (.int .i64 (zs.getD j 0))) :
    Calls Tryz.prog 211 #[.slice (some ⟨b, off, none⟩) n c, .int .i64 x] w fun e w' => e = .returned (.bool ((zs.take n).contains x)) ∧ w' = w := Any.slices_Contains_int Tryz.lays107 b off n c zs x w hz hbig hc
open Go.Lib in
/-- The same at a slice of length 0, a nil one too. (LAID: no walk: one application.) -/
theorem Tryz.slices_Contains_int_empty (a : Option Addr) (c : Nat) (x : Int) (w : World) :
    Calls Tryz.prog 211 #[.slice a 0 c, .int .i64 x] w fun e w' => e = .returned (.bool false) ∧ w' = w := Any.slices_Contains_int_empty Tryz.lays107 a c x w
def Tryz.laysSlM5_f108_ren : Go.Shelf.Ren := ⟨fun | 5 => 108 | 8 => 160 | 7 => 159 | 19 => 195 | 20 => 196 | 10 => 186 | 11 => 187 | 12 => 188 | 13 => 189 | 14 => 190 | 15 => 191 | 16 => 192 | 17 => 193 | 18 => 194 | 30 => 213 | 31 => 214 | 32 => 215 | 33 => 216 | 34 => 217 | 35 => 218 | 40 => 226 | n => n, fun | 23 => 44 | 25 => 3 | 3 => 3 | 32 => 196 | 22 => 44 | 0 => 0 | 44 => 204 | 46 => 219 | 4 => 4 | 36 => 212 | 35 => 211 | 41 => 178 | 5 => 5 | 9 => 9 | 53 => 237 | 57 => 241 | 63 => 247 | 64 => 191 | n => n, fun | n => n⟩
theorem Tryz.laysSlM5_f108 : Go.Proofs.SlLaysM.n5 Tryz.prog Tryz.laysSlM5_f108_ren := {
  mixed := by kernel_rfl
  f5 := ⟨Tryz.f108.name, by decide, Tryz.func108.trans (congrArg some (by kernel_rfl))⟩
  f7 := ⟨Tryz.f159.name, by decide, Tryz.func159.trans (congrArg some (by kernel_rfl))⟩
  f8 := Tryz.func160.trans (congrArg some (by kernel_rfl))
  f10 := ⟨Tryz.f186.name, by decide, Tryz.func186.trans (congrArg some (by kernel_rfl))⟩
  f11 := ⟨Tryz.f187.name, by decide, Tryz.func187.trans (congrArg some (by kernel_rfl))⟩
  f12 := ⟨Tryz.f188.name, by decide, Tryz.func188.trans (congrArg some (by kernel_rfl))⟩
  f13 := ⟨Tryz.f189.name, by decide, Tryz.func189.trans (congrArg some (by kernel_rfl))⟩
  f14 := ⟨Tryz.f190.name, by decide, Tryz.func190.trans (congrArg some (by kernel_rfl))⟩
  f15 := ⟨Tryz.f191.name, by decide, Tryz.func191.trans (congrArg some (by kernel_rfl))⟩
  f16 := ⟨Tryz.f192.name, by decide, Tryz.func192.trans (congrArg some (by kernel_rfl))⟩
  f17 := ⟨Tryz.f193.name, by decide, Tryz.func193.trans (congrArg some (by kernel_rfl))⟩
  f18 := ⟨Tryz.f194.name, by decide, Tryz.func194.trans (congrArg some (by kernel_rfl))⟩
  f19 := Tryz.func195.trans (congrArg some (by kernel_rfl))
  f20 := Tryz.func196.trans (congrArg some (by kernel_rfl))
  f30 := ⟨Tryz.f213.name, by decide, Tryz.func213.trans (congrArg some (by kernel_rfl))⟩
  f31 := Tryz.func214.trans (congrArg some (by kernel_rfl))
  f32 := Tryz.func215.trans (congrArg some (by kernel_rfl))
  f33 := ⟨Tryz.f216.name, by decide, Tryz.func216.trans (congrArg some (by kernel_rfl))⟩
  f34 := ⟨Tryz.f217.name, by decide, Tryz.func217.trans (congrArg some (by kernel_rfl))⟩
  f35 := ⟨Tryz.f218.name, by decide, Tryz.func218.trans (congrArg some (by kernel_rfl))⟩
  f40 := ⟨Tryz.f226.name, by decide, Tryz.func226.trans (congrArg some (by kernel_rfl))⟩
  t0 := Tryz.underlying0
  a0 := Tryz.isAgg0
  z0 := Tryz.sizeOf0
  v0 := Tryz.zeroValue0
  t3 := Tryz.underlying3
  a3 := Tryz.isAgg3
  z3 := Tryz.sizeOf3
  v3 := Tryz.zeroValue3
  t4 := Tryz.underlying4
  a4 := Tryz.isAgg4
  z4 := Tryz.sizeOf4
  v4 := Tryz.zeroValue4
  t5 := Tryz.underlying5
  a5 := Tryz.isAgg5
  z5 := Tryz.sizeOf5
  v5 := Tryz.zeroValue5
  t9 := Tryz.underlying9
  a9 := Tryz.isAgg9
  z9 := Tryz.sizeOf9
  v9 := Tryz.zeroValue9
  t22 := Tryz.underlying44
  a22 := Tryz.isAgg44
  z22 := Tryz.sizeOf44
  v22 := Tryz.zeroValue44
  t23 := Tryz.underlying44
  a23 := Tryz.isAgg44
  z23 := Tryz.sizeOf44
  v23 := Tryz.zeroValue44
  t25 := Tryz.underlying3
  a25 := Tryz.isAgg3
  z25 := Tryz.sizeOf3
  v25 := Tryz.zeroValue3
  t32 := Tryz.underlying196
  a32 := Tryz.isAgg196
  z32 := Tryz.sizeOf196
  v32 := Tryz.zeroValue196
  t35 := Tryz.underlying211
  a35 := Tryz.isAgg211
  z35 := Tryz.sizeOf211
  v35 := Tryz.zeroValue211
  t36 := Tryz.underlying212
  a36 := Tryz.isAgg212
  z36 := Tryz.sizeOf212
  v36 := Tryz.zeroValue212
  t41 := Tryz.underlying178
  a41 := Tryz.isAgg178
  z41 := Tryz.sizeOf178
  v41 := Tryz.zeroValue178
  t44 := Tryz.underlying204
  a44 := Tryz.isAgg204
  z44 := Tryz.sizeOf204
  v44 := Tryz.zeroValue204
  t46 := Tryz.underlying219
  a46 := Tryz.isAgg219
  z46 := Tryz.sizeOf219
  v46 := Tryz.zeroValue219
  t53 := Tryz.underlying237
  a53 := Tryz.isAgg237
  z53 := Tryz.sizeOf237
  v53 := Tryz.zeroValue237
  t57 := Tryz.underlying241
  a57 := Tryz.isAgg241
  z57 := Tryz.sizeOf241
  v57 := Tryz.zeroValue241
  t63 := Tryz.underlying247
  a63 := Tryz.isAgg247
  z63 := Tryz.sizeOf247
  v63 := Tryz.zeroValue247
  t64 := Tryz.underlying191
  a64 := Tryz.isAgg191
  z64 := Tryz.sizeOf191
  v64 := Tryz.zeroValue191 }
open Go.Sort Go.RowKit in
theorem Tryz.slices_Sort_int (blk off cap : Nat) (zs : List Int) (w : World) (hH : Holds (Value.int .i64) w blk off zs.toArray) (hblk : blk < w.heap.size) (hsz : zs.length < 4611686018427387904) :
    Calls Tryz.prog 108 #[.slice (some ⟨blk, off, none⟩) zs.length cap] w fun e w' =>
      e = .returned (.tuple #[]) ∧ ∃ n os, w' = grow (putRow (Value.int .i64) (Sort.ahead w n) blk off (zs.mergeSort fun x y => decide (x ≤ y)).toArray) os := AnyM.slices_Sort_int Tryz.laysSlM5_f108 blk off cap zs w hH hblk hsz
open Go.RowKit Go.Sort in
/-- .. and plain. (LAID AT THE INSTANCE 'slices.Sort[[]int,int]': no walk: one application.) -/
theorem Tryz.slices_Sort_int_none (p : Option Addr) (cap : Nat) (w : World) :
    Calls Tryz.prog 108 #[.slice p 0 cap] w fun e w' => e = .returned (.tuple #[]) ∧ w' = w := AnyM.slices_Sort_int_none Tryz.laysSlM5_f108 p cap w
def Tryz.lays196_ren : Go.Shelf.Ren := ⟨fun | 196 => 182 | 259 => 212 | n => n, fun | 9 => 9 | 4 => 4 | 3 => 3 | 5 => 5 | 12 => 12 | 119 => 233 | 0 => 0 | 46 => 196 | 139 => 236 | 138 => 235 | 53 => 219 | n => n, fun | 3 => 1 | 4 => 2 | n => n⟩
theorem Tryz.lays196 : Go.Proofs.Lays.n196 Tryz.prog Tryz.lays196_ren := {
  mixed := by kernel_rfl
  f196 := Tryz.func182.trans (congrArg some (by kernel_rfl))
  f259 := Tryz.func212.trans (congrArg some (by kernel_rfl))
  t0 := Tryz.underlying0
  a0 := Tryz.isAgg0
  z0 := Tryz.sizeOf0
  v0 := Tryz.zeroValue0
  t3 := Tryz.underlying3
  a3 := Tryz.isAgg3
  z3 := Tryz.sizeOf3
  v3 := Tryz.zeroValue3
  t4 := Tryz.underlying4
  a4 := Tryz.isAgg4
  z4 := Tryz.sizeOf4
  v4 := Tryz.zeroValue4
  t5 := Tryz.underlying5
  a5 := Tryz.isAgg5
  z5 := Tryz.sizeOf5
  v5 := Tryz.zeroValue5
  t9 := Tryz.underlying9
  a9 := Tryz.isAgg9
  z9 := Tryz.sizeOf9
  v9 := Tryz.zeroValue9
  t12 := Tryz.underlying12
  a12 := Tryz.isAgg12
  z12 := Tryz.sizeOf12
  v12 := Tryz.zeroValue12
  t46 := Tryz.underlying196
  a46 := Tryz.isAgg196
  z46 := Tryz.sizeOf196
  v46 := Tryz.zeroValue196
  t53 := Tryz.underlying219
  a53 := Tryz.isAgg219
  z53 := Tryz.sizeOf219
  v53 := Tryz.zeroValue219
  t119 := Tryz.underlying233
  a119 := Tryz.isAgg233
  z119 := Tryz.sizeOf233
  t138 := Tryz.underlying235
  a138 := Tryz.isAgg235
  z138 := Tryz.sizeOf235
  v138 := Tryz.zeroValue235
  t139 := Tryz.underlying236
  a139 := Tryz.isAgg236
  z139 := Tryz.sizeOf236
  v139 := Tryz.zeroValue236
  g3 := by kernel_rfl
  g4 := by kernel_rfl }
open Go.RowKit Go.Lib in
theorem Tryz.utf8_ValidString (s : ByteArray) (w : World) (hs : s.size ≤ 9223372036854775807) (hT : Lib.Utf8Tabs (Tryz.lays196_ren.g 3) (Tryz.lays196_ren.g 4) w) :
    Calls Tryz.prog 182 #[.string s] w fun e w' => e = .returned (.bool (Lib.validD s.data.toList)) ∧ Below w.heap.size w w' := Any.utf8_ValidString Tryz.lays196 s w hs hT
end Go.Proofs

namespace Go.Proofs.YtdgpbhdihhchgaaGreatDoor
set_option linter.all false
open Go.RowKit
theorem info_i32 : (Tryz.prog.info? 21).map (fun i => (i.zero, i.size, i.bytes)) = some (some (.int .i32 0), 1, 4) := by kernel_rfl
theorem info_i64 : (Tryz.prog.info? 3).map (fun i => (i.zero, i.size, i.bytes)) = some (some (.int .i64 0), 1, 8) := by kernel_rfl
end Go.Proofs.YtdgpbhdihhchgaaGreatDoor

namespace Go.Proofs.YtdgpbhdihhchgaaGreatDoor
set_option linter.all false
open Go.RowKit
/-- the two tables of unicode/utf8 lie as they are laid -/
def Tabs (w : World) : Prop := Lib.Utf8Tabs 1 2 w
theorem Tabs.below {w w' : World} (h : Tabs w) (hb : Below w.heap.size w w') : Tabs w' := Utf8Tabs_below h hb
theorem Valid_any (s : ByteArray) (w : World) (hs : s.size ≤ 9223372036854775807) (hT : Tabs w) :
    Calls Tryz.prog 182 #[.string s] w fun e w' => e = .returned (.bool (isText s.data.toList)) ∧ Below w.heap.size w w' := by
  have := Tryz.utf8_ValidString s w hs hT
  rwa [validD_isText] at this
set_option maxHeartbeats 1000000 in
theorem Units_any (s : ByteArray) (w : World) (hs : s.size ≤ 140737488355328) (hT : Tabs w) :
    Calls Tryz.prog 152 #[.string s] w fun e w' => e = .returned (.tuple #[.int .i64 (unitsOfL s.data.toList), .int .i64 (textErr s.data.toList)]) ∧ Below w.heap.size w w' := by
  have cV := Valid_any s w (by omega) hT
  by_cases ht : isText s.data.toList = true
  · have e1 : unitsOfL s.data.toList = unitCount (letters s.data.toList) := if_pos ht
    have e2 : textErr s.data.toList = 0 := if_pos ht
    obtain ⟨U, hU⟩ : ∃ U, U = unitCount (letters s.data.toList) := ⟨_, rfl⟩
    rw [ht] at cV
    rw [e1, e2, ← hU]
    have HU := Lib.hid hU
    have CV := Lib.hid cV
    have HT := Lib.hid ht
    clear e1 e2 hU cV ht
    go_enter Tryz.func152, Tryz.ntmps152
    go_wp2_with fail
    refine CV.out.mono ?_
    rintro e w1 ⟨rfl, hb1⟩
    clear CV
    go_wp2
    go_loopw [4, 6] (fun n _ wr => ∃ (pos k : Nat), n = .int .i64 k ∧ wr.heap[w1.heap.size]? = some (.stringIter s pos) ∧ Below w.heap.size w wr ∧ Hid (k + unitCount (letters (s.data.toList.drop pos)) = U) ∧ Hid (isText (s.data.toList.drop pos) = true) ∧ k ≤ 2 * pos ∧ pos ≤ s.size) (fun _ _ wr => s.size - wr.iterPos w1.heap.size)
    case atStart =>
      refine ⟨0, 0, rfl, World.iter_heap w1 s 0, hb1.alloc hb1.size _, ?_, HT, by omega, by omega⟩
      show _ = _
      rw [HU.out, List.drop_zero, Nat.zero_add]
    case round =>
      obtain ⟨pos, k, rfl, hit, hb, HE, HX, hk, hps⟩ := hrel
      have hK : w1.heap.size < wr.heap.size := (Array.getElem?_eq_some_iff.1 hit).1
      have hb1s := hb1.size
      by_cases hp : pos < s.size
      · have hnx : ∀ ty, (Instr.next (.pointer (some ⟨w1.heap.size, 0, none⟩)) true ty).run Tryz.prog wr = _ := fun ty => Lib.run_next_any_at wr w1.heap.size s pos ty hit hp
        obtain ⟨n1, n2, n3⟩ := next_any s pos hp
        obtain ⟨m1, m2, m3⟩ := next_text s pos hp HX.out
        obtain ⟨R, hR⟩ : ∃ R : Int, R = ((Utf8.decode s pos).1 : Int) := ⟨_, rfl⟩
        obtain ⟨p', hp'⟩ : ∃ p', p' = pos + (Utf8.decode s pos).2 := ⟨_, rfl⟩
        rw [← hp'] at hnx n1 n3 m1 m2
        rw [← hR] at hnx m1 m3
        have hit2 := Lib.iterAt_heap wr w1.heap.size s pos p' hit
        have hb2 := Lib.below_iterAt hb (k := w1.heap.size) hb1s s p'
        have hpp : pos < p' := by omega
        have HN := Lib.hid m1
        have HX' := Lib.hid m2
        have HI := Lib.hid hit2
        obtain ⟨r0, r1, r2⟩ := m3
        have hit0 := hit
        clear n1 n2 m1 m2 hR hp' hit hit2
        by_cases hlt : R < 65536
        · go_wp2
          go_roundw
          case rel =>
            refine ⟨p', k + 1, by go_num, HI.out, hb2, ?_, HX', by omega, n3⟩
            show _ = _
            have := HE.out
            rw [HN.out, unitCount, if_pos hlt] at this
            omega
          case measure =>
            have := HI.out
            simp only [World.iterPos, hit0, this]
            omega
        · go_wp2
          go_roundw
          case rel =>
            refine ⟨p', k + 2, by go_num, HI.out, hb2, ?_, HX', by omega, n3⟩
            show _ = _
            have := HE.out
            rw [HN.out, unitCount, if_neg hlt] at this
            omega
          case measure =>
            have := HI.out
            simp only [World.iterPos, hit0, this]
            omega
      · have hnx : ∀ ty, (Instr.next (.pointer (some ⟨w1.heap.size, 0, none⟩)) true ty).run Tryz.prog wr = _ := fun ty => Lib.run_next_end_at wr w1.heap.size s pos ty hit hp
        have e : k = U := by
          have := HE.out
          rw [next_end s pos hp] at this
          exact this
        subst e
        go_wp2
        go_ret2
        exact ⟨rfl, hb⟩
  · have ht' : isText s.data.toList = false := by simpa using ht
    have e1 : unitsOfL s.data.toList = 0 := if_neg ht
    have e2 : textErr s.data.toList = 5 := if_neg ht
    rw [ht'] at cV
    rw [e1, e2]
    have CV := Lib.hid cV
    clear e1 e2 cV ht ht'
    go_enter Tryz.func152, Tryz.ntmps152
    go_wp2_with fail
    refine CV.out.mono ?_
    rintro e w1 ⟨rfl, hb1⟩
    go_wp2
    go_ret2
    exact ⟨rfl, hb1⟩
end Go.Proofs.YtdgpbhdihhchgaaGreatDoor

namespace Go.Proofs.YtdgpbhdihhchgaaGreatDoor
set_option linter.all false
open Go.RowKit
/-- a rune put behind a row of bytes of the call's own -/
theorem AppendRune_any (w : World) (base : Nat) (v : Value) (xs : List Int) (r : Int) (hr : IsLetter r) (h : OwnK .u8 5 w base v xs) (hl : xs.length + 4 ≤ 140737488355328) (hb : base ≤ w.heap.size) :
    Calls Tryz.prog 143 #[v, .int .i32 r] w fun e w' => ∃ v', e = .returned v' ∧ OwnK .u8 5 w' base v' (xs ++ Lib.encodeRuneZ r) ∧ Grew w w' v := by
  obtain ⟨r0, r1, _⟩ := hr
  refine (Tryz.utf8_AppendRune_plain base v xs.length (xs.map (Value.int .u8)) r (by omega) (by omega) w h hl hb).mono ?_
  rintro e w' ⟨v', rfl, ho, hg⟩
  refine ⟨v', rfl, ?_, hg⟩
  unfold OwnK
  rw [List.length_append, List.map_append]
  unfold Lib.runeCells at ho
  rwa [List.length_map] at ho
end Go.Proofs.YtdgpbhdihhchgaaGreatDoor

namespace Go.Proofs.YtdgpbhdihhchgaaGreatDoor
set_option linter.all false
open Go.RowKit
theorem decodeGo_eq (s : ByteArray) : Lib.decodeGo s = if s.size = 0 then (65533, 0) else Lib.decodeL s.data.toList := by
  unfold Lib.decodeGo
  split
  · rfl
  · have := Lib.decodeL_drop s 0
    rw [List.drop_zero] at this
    rw [this]
set_option maxHeartbeats 400000 in
theorem loose_any (s : ByteArray) (w : World) (hT : Tabs w) :
    Calls Tryz.prog 174 #[.string s] w fun e w' => e = .returned (.bool (((Lib.decodeGo s).2 : Int) == 1)) ∧ Below w.heap.size w w' := by
  have c1 := Tryz.utf8_DecodeRuneInString s w hT
  obtain ⟨r, hr⟩ : ∃ r, r = (Lib.decodeGo s).1 := ⟨_, rfl⟩
  obtain ⟨z, hz⟩ : ∃ z, z = (Lib.decodeGo s).2 := ⟨_, rfl⟩
  rw [← hr, ← hz] at c1
  rw [← hz]
  have C1 := Lib.hid c1
  clear hr hz c1
  go_enter Tryz.func174, Tryz.ntmps174
  go_wp2_with fail
  refine C1.out.mono ?_
  rintro e w' ⟨rfl, hb⟩
  go_wp2
  go_ret
  exact ⟨rfl, hb⟩
/-- what folded answers -/
def FoldedPost (w : World) (l : List UInt8) (e : Ending) (w' : World) : Prop :=
  ∃ v, e = .returned v ∧ OwnK .i32 21 w' w.heap.size v (foldedOf l) ∧ Below w.heap.size w w'
theorem get_drop (s : ByteArray) (pos : Nat) (h : pos < s.size) : (s.data.toList.drop pos).getD 0 0 = s[pos]'h := by
  have e : s.data[pos]? = some (s[pos]'h) := Array.getElem?_eq_getElem h
  rw [List.getD_eq_getElem?_getD, List.getElem?_drop, Nat.add_zero, Array.getElem?_toList, e]
  rfl
theorem extract_drop (s : ByteArray) (pos : Nat) : (s.extract pos s.size).data.toList = s.data.toList.drop pos := by
  rw [Lib.extract_eq]
  exact List.take_of_length_le (by rw [List.length_drop, ← Lib.size_eq]; exact Nat.le_refl _)
/-- the head of what is left, as the walk decides it -/
theorem head_at (s : ByteArray) (pos : Nat) (h : pos < s.size) :
    ((Utf8.decode s pos).1 = 65533 ∧ (Utf8.decode s pos).2 = 1 ∧ headOf (s.data.toList.drop pos) = 1114112 + ((s[pos]'h).toNat : Int)) ∨
    (¬ ((Utf8.decode s pos).1 = 65533 ∧ (Utf8.decode s pos).2 = 1) ∧ headOf (s.data.toList.drop pos) = ((Utf8.decode s pos).1 : Int) ∧ IsLetter ((Utf8.decode s pos).1 : Int)) := by
  have hl : s.data.toList.drop pos ≠ [] := by
    intro e
    have := congrArg List.length e
    rw [List.length_drop, ← Lib.size_eq] at this
    simp at this
    omega
  rcases head_shape _ hl with ⟨h0, h1, h2⟩ | ⟨h0, h1, h2, _⟩
  · rw [Lib.decodeL_drop] at h0 h1 h2
    exact .inr ⟨h0, h1, h2⟩
  · rw [Lib.decodeL_drop] at h0 h1
    rw [get_drop s pos h] at h2
    exact .inl ⟨h0, h1, h2⟩
set_option maxHeartbeats 2000000 in
theorem folded_any (s : ByteArray) (w : World) (hs : s.size ≤ 4398046511104) (hT : Tabs w) :
    Calls Tryz.prog 142 #[.string s] w (FoldedPost w s.data.toList) := by
  have hq : ∀ e w', (∃ v, e = .returned v ∧ OwnK .i32 21 w' w.heap.size v (foldedOf s.data.toList) ∧ Below w.heap.size w w') → FoldedPost w s.data.toList e w' := fun _ _ h => h
  have HQ := Lib.hid hq
  have hb4 : ∀ z : Nat, z ≤ 4 * s.size → z * 4 ≤ 281474976710656 := fun z hz => by omega
  clear hq hb4
  go_enter Tryz.func142, Tryz.ntmps142
  go_wp2_with (at_make; refine wpList_make_own0 rfl .i32 179 21 4 Tryz.underlying179 info_i32 _ _ rfl _ s.size rfl rfl rfl (by omega) (by rw [maxLen_eq]; omega) ?_; intro w1 ho1 hb1)
  have hs1 := hb1.size
  go_loopw [3, 4, 5] (fun v _ _ wr => ∃ (pos : Nat) (zs : List Int), Hid (OwnK .i32 21 wr w.heap.size v zs) ∧ wr.heap[w1.heap.size]? = some (.stringIter s pos) ∧ Below w.heap.size w wr ∧ Hid (zs ++ (letters (s.data.toList.drop pos)).map foldR = foldedOf s.data.toList) ∧ zs.length ≤ pos ∧ pos ≤ s.size) (fun _ _ _ wr => s.size - wr.iterPos w1.heap.size)
  case atStart =>
    refine ⟨0, [], ho1.out.own.alloc _, World.iter_heap w1 s 0, hb1.alloc (by omega) _, ?_, by simp, by omega⟩
    show _ = _
    rw [List.drop_zero, List.nil_append]
    rfl
  case round =>
    obtain ⟨pos, zs, HO, hit, hb, HE, hzl, hps⟩ := hrel
    have hK : w1.heap.size < wr.heap.size := (Array.getElem?_eq_some_iff.1 hit).1
    by_cases hp : pos < s.size
    · have hnx : ∀ ty, (Instr.next (.pointer (some ⟨w1.heap.size, 0, none⟩)) true ty).run Tryz.prog wr = _ := fun ty => Lib.run_next_any_at wr w1.heap.size s pos ty hit hp
      obtain ⟨n1, n2, n3⟩ := next_any s pos hp
      have hh := head_at s pos hp
      obtain ⟨R, hR⟩ : ∃ R : Int, R = ((Utf8.decode s pos).1 : Int) := ⟨_, rfl⟩
      obtain ⟨p', hp'⟩ : ∃ p', p' = pos + (Utf8.decode s pos).2 := ⟨_, rfl⟩
      rw [← hp'] at hnx n1 n3
      rw [← hR] at hnx hh
      have hit2 := Lib.iterAt_heap wr w1.heap.size s pos p' hit
      have hb3 := Lib.below_iterAt hb (k := w1.heap.size) (by omega) s p'
      have HO3 : Hid (OwnK .i32 21 (wr.iterAt w1.heap.size s p') w.heap.size _ zs) := HO.out.iterAt hit p'
      have hs3 := Lib.iterAt_size wr w1.heap.size s p'
      obtain ⟨w3, hw3⟩ : ∃ w3, w3 = wr.iterAt w1.heap.size s p' := ⟨_, rfl⟩
      rw [← hw3] at hnx hit2 hb3 HO3 hs3
      have hpp : pos < p' := by omega
      obtain ⟨h, hh0⟩ : ∃ h, h = headOf (s.data.toList.drop pos) := ⟨_, rfl⟩
      rw [← hh0] at hh n1
      have HN : Hid (zs ++ [foldR h] ++ (letters (s.data.toList.drop p')).map foldR = foldedOf s.data.toList) := by
        show _ = _
        rw [← HE.out, n1]
        simp
      have HI0 := Lib.hid hit
      have HI := Lib.hid hit2
      have HS3 := Lib.hid hs3
      have hTr : Tabs w3 := (hT.below hb3)
      have hce := loose_any (s.extract pos s.size) w3 hTr
      rw [decodeGo_eq, if_neg (by rw [ByteArray.size_extract]; omega), extract_drop, Lib.decodeL_drop] at hce
      obtain ⟨Z, hZ⟩ : ∃ Z, Z = (Utf8.decode s pos).2 := ⟨_, rfl⟩
      rw [← hZ] at hce hh
      have hR' : R = 65533 ↔ (Utf8.decode s pos).1 = 65533 := by rw [hR]; omega
      rw [← hR'] at hh
      have hbyte : 0 ≤ ((s[pos]'hp).toNat : Int) ∧ ((s[pos]'hp).toNat : Int) ≤ 255 := by have := (s[pos]'hp).toNat_lt; omega
      by_cases hA : 65 ≤ R ∧ R ≤ 90
      · obtain ⟨hA1, hA2⟩ := hA
        have HF : Hid (foldR h = R + 32) := by
          rcases hh with ⟨e, _, _⟩ | ⟨_, e, _⟩
          · omega
          · show _ = _; rw [e]; exact if_pos ⟨hA1, hA2⟩
        clear hh hce hbyte
        clear hit hit2 hw3 hs3 hR hp' hh0 n1 n2 hR' hZ HE hTr
        go_wp2_with (at_builtin; refine wpList_append_lit rfl (.tmp 38) (.tmp 40) .i32 179 21 4 Tryz.underlying179 info_i32 rfl w.heap.size _ zs [R + 32] _ rfl 1 1 rfl rfl rfl HO3.out (by omega) (by omega) (by have := HS3.out; have := hpp; omega) ?_; intro v5 w5 ho5 hg5)
        have hb5 := hg5.out.below HO3.out (by have := HS3.out; have := hpp; omega)
        have HI5 := Lib.hid (hg5.out.iter HO3.out HI.out)
        clear hg5
        go_roundw
        case rel =>
          refine ⟨p', _, ho5, HI5.out, hb3.trans hb5, ?_, by simp; omega, n3⟩
          show _ = _
          rw [← HN.out]
          have ef := HF.out
          rw [ef]
        case measure =>
          have h1 := HI5.out
          have h0 := HI0.out
          simp only [World.iterPos, h0, h1]
          omega
      by_cases hB : R = 65533
      · have hBb : (R == 65533) = true := by rw [beq_iff_eq]; exact hB
        by_cases hC : Z = 1
        · have HF : Hid (foldR h = 1114112 + ((s[pos]'hp).toNat : Int)) := by
            rcases hh with ⟨_, _, e⟩ | ⟨e, _, _⟩
            · show _ = _; rw [e]; exact if_neg (by omega)
            · exact absurd ⟨hB, hC⟩ e
          subst hC
          have CE := Lib.hid hce
          subst hB
          clear hh hce hBb hA
          clear hit hit2 hw3 hs3 hR hp' hh0 n1 n2 hR' hZ HE hTr
          go_wp2_with fail
          refine CE.out.mono ?_
          rintro e w4 ⟨rfl, hb4⟩
          have HO4 := Lib.hid (HO3.out.below hb4)
          have HI4 : Hid (w4.heap[w1.heap.size]? = some (.stringIter s p')) := (hb4.block _ (by have := HS3.out; omega)).trans HI.out
          go_wp2_with (at_builtin; refine wpList_append_lit rfl (.tmp 38) (.tmp 40) .i32 179 21 4 Tryz.underlying179 info_i32 rfl w.heap.size _ zs [1114112 + ((s[pos]'hp).toNat : Int)] _ rfl 1 1 rfl rfl rfl HO4.out (by omega) (by omega) (by have := HS3.out; have := hb4.size; omega) ?_; intro v5 w5 ho5 hg5)
          have hb5 := hg5.out.below HO4.out (by have := HS3.out; have := hb4.size; omega)
          have HI5 := Lib.hid (hg5.out.iter HO4.out HI4.out)
          clear hg5
          go_roundw
          case rel =>
            refine ⟨p', _, ho5, HI5.out, (hb3.trans (hb4.mono hb3.size)).trans hb5, ?_, by simp; omega, n3⟩
            show _ = _
            rw [← HN.out]
            have ef := HF.out
            rw [ef]
          case measure =>
            have h1 := HI5.out
            have h0 := HI0.out
            simp only [World.iterPos, h0, h1]
            omega
        · have HF : Hid (foldR h = R) := by
            rcases hh with ⟨_, e, _⟩ | ⟨_, e, _⟩
            · exact absurd e hC
            · show _ = _; rw [e]; exact if_neg hA
          rw [show ((Z : Int) == 1) = false by rw [beq_eq_false_iff_ne]; omega] at hce
          have CE := Lib.hid hce
          subst hB
          clear hh hce hBb hA hC hbyte
          clear hit hit2 hw3 hs3 hR hp' hh0 n1 n2 hR' hZ HE hTr
          go_wp2_with fail
          refine CE.out.mono ?_
          rintro e w4 ⟨rfl, hb4⟩
          have HO4 := Lib.hid (HO3.out.below hb4)
          have HI4 : Hid (w4.heap[w1.heap.size]? = some (.stringIter s p')) := (hb4.block _ (by have := HS3.out; omega)).trans HI.out
          go_wp2_with (at_builtin; refine wpList_append_lit rfl (.tmp 38) (.tmp 40) .i32 179 21 4 Tryz.underlying179 info_i32 rfl w.heap.size _ zs [65533] _ rfl 1 1 rfl rfl rfl HO4.out (by omega) (by omega) (by have := HS3.out; have := hb4.size; omega) ?_; intro v5 w5 ho5 hg5)
          have hb5 := hg5.out.below HO4.out (by have := HS3.out; have := hb4.size; omega)
          have HI5 := Lib.hid (hg5.out.iter HO4.out HI4.out)
          clear hg5
          go_roundw
          case rel =>
            refine ⟨p', _, ho5, HI5.out, (hb3.trans (hb4.mono hb3.size)).trans hb5, ?_, by simp; omega, n3⟩
            show _ = _
            rw [← HN.out]
            have ef := HF.out
            rw [ef]
          case measure =>
            have h1 := HI5.out
            have h0 := HI0.out
            simp only [World.iterPos, h0, h1]
            omega
      have HF : Hid (foldR h = R) := by
        rcases hh with ⟨e, _, _⟩ | ⟨_, e, _⟩
        · exact absurd e hB
        · show _ = _; rw [e]; exact if_neg hA
      have hBb : (R == 65533) = false := by rw [beq_eq_false_iff_ne]; exact hB
      have hRr : 0 ≤ R ∧ R ≤ 1114111 := by
        rcases hh with ⟨e, _, _⟩ | ⟨_, _, e⟩
        · exact absurd e hB
        · exact ⟨e.1, e.2.1⟩
      obtain ⟨hR0, hR1⟩ := hRr
      clear hh hce hbyte
      clear hit hit2 hw3 hs3 hR hp' hh0 n1 n2 hR' hZ HE hTr
      by_cases hA1 : 65 ≤ R
      · have hA2 : 90 < R := by omega
        clear hA
        go_wp2_with (at_builtin; refine wpList_append_lit rfl (.tmp 38) (.tmp 40) .i32 179 21 4 Tryz.underlying179 info_i32 rfl w.heap.size _ zs [R] _ rfl 1 1 rfl rfl rfl HO3.out (by omega) (by omega) (by have := HS3.out; have := hpp; omega) ?_; intro v5 w5 ho5 hg5)
        have hb5 := hg5.out.below HO3.out (by have := HS3.out; have := hpp; omega)
        have HI5 := Lib.hid (hg5.out.iter HO3.out HI.out)
        clear hg5
        go_roundw
        case rel =>
          refine ⟨p', _, ho5, HI5.out, hb3.trans hb5, ?_, by simp; omega, n3⟩
          show _ = _
          rw [← HN.out]
          have ef := HF.out
          rw [ef]
        case measure =>
          have h1 := HI5.out
          have h0 := HI0.out
          simp only [World.iterPos, h0, h1]
          omega
      · clear hA
        go_wp2_with (at_builtin; refine wpList_append_lit rfl (.tmp 38) (.tmp 40) .i32 179 21 4 Tryz.underlying179 info_i32 rfl w.heap.size _ zs [R] _ rfl 1 1 rfl rfl rfl HO3.out (by omega) (by omega) (by have := HS3.out; have := hpp; omega) ?_; intro v5 w5 ho5 hg5)
        have hb5 := hg5.out.below HO3.out (by have := HS3.out; have := hpp; omega)
        have HI5 := Lib.hid (hg5.out.iter HO3.out HI.out)
        clear hg5
        go_roundw
        case rel =>
          refine ⟨p', _, ho5, HI5.out, hb3.trans hb5, ?_, by simp; omega, n3⟩
          show _ = _
          rw [← HN.out]
          have ef := HF.out
          rw [ef]
        case measure =>
          have h1 := HI5.out
          have h0 := HI0.out
          simp only [World.iterPos, h0, h1]
          omega
    · have hnx : ∀ ty, (Instr.next (.pointer (some ⟨w1.heap.size, 0, none⟩)) true ty).run Tryz.prog wr = _ := fun ty => Lib.run_next_end_at wr w1.heap.size s pos ty hit hp
      have HEE : Hid (zs = foldedOf s.data.toList) := by
        have := HE.out
        rw [next_end s pos hp, List.map_nil, List.append_nil] at this
        exact this
      clear HE
      go_wp2
      go_ret
      refine HQ.out _ _ ⟨_, rfl, ?_, hb⟩
      rw [← HEE.out]
      exact HO.out
/-! ### Fold -/

def encZ (r : Int) : List Int := if 1114112 ≤ r then [r - 1114112] else Lib.encodeRuneZ r
theorem encZ_le (r : Int) : (encZ r).length ≤ 4 := by
  unfold encZ
  split
  · simp
  · exact (Lib.encodeRuneZ_length r).2
theorem strOf_encZ (rs : List Int) : strOfNums (rs.flatMap encZ) = ⟨(rs.flatMap enc).toArray⟩ := by
  unfold strOfNums
  have e : (rs.flatMap encZ).map (fun n => UInt8.ofNat n.toNat) = rs.flatMap enc := by
    induction rs with
    | nil => rfl
    | cons r rs ih =>
      rw [List.flatMap_cons, List.map_append, ih, List.flatMap_cons]
      congr 1
      unfold encZ enc
      split <;> rfl
  rw [e]
/-- what Fold answers -/
def FoldPost (w : World) (l : List UInt8) (e : Ending) (w' : World) : Prop := e = .returned (.string ⟨(foldB l).toArray⟩) ∧ Below w.heap.size w w'
set_option maxHeartbeats 2000000 in
theorem Fold_any (s : ByteArray) (w : World) (hs : s.size ≤ 4398046511104) (hT : Tabs w) :
    Calls Tryz.prog 94 #[.string s] w (FoldPost w s.data.toList) := by
  have hq : ∀ e w', (e = .returned (.string ⟨((foldedOf s.data.toList).flatMap enc).toArray⟩) ∧ Below w.heap.size w w') → FoldPost w s.data.toList e w' := fun e w' h => by
    rw [folded_enc] at h
    exact h
  have HQ := Lib.hid hq
  have c1 := fun w hT => Lib.hid (folded_any s w hs hT)
  have hone := foldedOf_one s.data.toList
  have hlen : (foldedOf s.data.toList).length ≤ s.size := by
    unfold foldedOf
    rw [List.length_map, Lib.size_eq]
    exact letters_le _
  obtain ⟨L, hL⟩ : ∃ L, L = foldedOf s.data.toList := ⟨_, rfl⟩
  rw [← hL] at HQ hone hlen
  have HL := Lib.hid hL
  clear hq hL
  go_enter Tryz.func94, Tryz.ntmps94
  go_wp2_with (first
    | (at_make; refine wpList_make_own0 rfl .u8 51 5 1 Tryz.underlying51 info_u8 _ _ rfl _ s.size rfl rfl rfl (by omega) (by rw [maxLen_eq]; omega) ?_; intro w1 ho1 hb1)
    | fail)
  have hT1 := hT.below hb1
  refine (c1 _ hT1).out.mono ?_
  rintro e w2 ⟨v2, rfl, ho2, hb2⟩
  rw [← HL.out] at ho2
  have HV2 := Lib.hid ho2
  obtain ⟨A2, n2, m2, rfl, hn2, hnm, hn63, hA2, _⟩ := ho2.open
  have HN2 := Lib.hid hn2
  have hnS : n2 ≤ s.size := by omega
  clear ho2 hn2 hlen c1
  have HV1 := Lib.hid (ho1.out.own.below hb2)
  have hs1 := hb1.size
  have hs2 := hb2.size
  go_wp2
  go_loopw [3, 5, 12] (fun v _ i wr => ∃ k : Nat, i = .int .i64 k ∧ k ≤ n2 ∧ Hid (OwnK .u8 5 wr w.heap.size v ((L.take k).flatMap encZ)) ∧ Hid (OwnK .i32 21 wr w1.heap.size (.slice A2 n2 m2) L) ∧ Hid (((L.take k).flatMap encZ).length ≤ 4 * k) ∧ Below w.heap.size w wr) (fun _ _ i _ => n2 - (intOf i).toNat)
  case atStart => exact ⟨0, rfl, Nat.zero_le _, HV1, HV2, (by show _ ≤ _; simp), hb1.trans (hb2.mono hs1)⟩
  case round =>
    obtain ⟨k, rfl, hk, HO, HR, HL4, hb⟩ := hrel
    have hbs := hb.size
    by_cases hlt : k < n2
    · obtain ⟨A3, n3, m3, he3, _, _, _, _, hc3⟩ := HR.out.open
      cases he3
      obtain ⟨g, rfl, _, _, hc⟩ := hc3 (by omega)
      have gc := hc k hlt
      have hr := hone (L.getD k 0) (by
        have := HN2.out
        rw [List.getD_eq_getElem?_getD, List.getElem?_eq_getElem (by omega)]
        exact List.getElem_mem _)
      have htk : L.take (k + 1) = L.take k ++ [L.getD k 0] := by
        have := HN2.out
        rw [List.take_succ_eq_append_getElem (by omega)]
        simp [List.getD_eq_getElem?_getD, show k < L.length by omega]
      obtain ⟨r, hrr⟩ : ∃ r, r = L.getD k 0 := ⟨_, rfl⟩
      rw [← hrr] at gc hr htk
      have hfl : (L.take (k + 1)).flatMap encZ = (L.take k).flatMap encZ ++ encZ r := by rw [htk]; simp
      have hbd := hr.bounds
      obtain ⟨hr0, hr1⟩ := hbd
      have hlen4 : ((L.take (k + 1)).flatMap encZ).length ≤ 4 * (k + 1) := by
        have h1 := HL4.out
        have h2 := encZ_le r
        rw [hfl, List.length_append]
        omega
      have HLEN := Lib.hid hlen4
      clear hc hc3 htk hrr hlen4
      by_cases hlo : r < 1114112
      · have hL := hr.letter hlo
        have HF : Hid ((L.take (k + 1)).flatMap encZ = (L.take k).flatMap encZ ++ Lib.encodeRuneZ r) := by
          show _ = _
          rw [hfl]
          unfold encZ
          rw [if_neg (by omega)]
        have c2 := Lib.hid (AppendRune_any wr _ _ _ r hL HO.out (by have := HL4.out; omega) hbs)
        clear hr hfl hL
        go_wp2_with fail
        refine c2.out.mono ?_
        rintro e w5 ⟨v5, rfl, ho5, hg5⟩
        have hb5 := hg5.below HO.out hbs
        have HR5 := Lib.hid (hg5.other HO.out HR.out (by decide))
        have HO5 : Hid (OwnK .u8 5 w5 w.heap.size v5 ((L.take (k + 1)).flatMap encZ)) := by rw [HF.out]; exact ho5
        clear ho5 hg5 c2
        go_wp2
        go_roundw
        case rel => exact ⟨k + 1, by go_num, hlt, HO5, HR5, HLEN, hb.trans hb5⟩
        case measure => simp [intOf]; omega
      · have HF : Hid ((L.take (k + 1)).flatMap encZ = (L.take k).flatMap encZ ++ [r - 1114112]) := by
          show _ = _
          rw [hfl]
          unfold encZ
          rw [if_pos (by omega)]
        clear hr hfl
        go_wp2_with (at_builtin; go_loud (refine wpList_append_lit rfl (.tmp 16) (.tmp 20) .u8 51 5 1 Tryz.underlying51 info_u8 rfl w.heap.size _ _ [r - 1114112] _ rfl 1 1 rfl rfl rfl HO.out (by have := HL4.out; omega) (by have := HL4.out; omega) hbs ?_; intro v5 w5 ho5 hg5))
        have hb5 := hg5.out.below HO.out hbs
        have HR5 := Lib.hid (hg5.out.other HO.out HR.out (by decide))
        have HO5 : Hid (OwnK .u8 5 w5 w.heap.size v5 ((L.take (k + 1)).flatMap encZ)) := by rw [HF.out]; exact ho5
        clear ho5 hg5
        go_roundw
        case rel => exact ⟨k + 1, by go_num, hlt, HO5, HR5, HLEN, hb.trans hb5⟩
        case measure => simp [intOf]; omega
    · obtain rfl : k = n2 := by omega
      have HTK : Hid (L.take k = L) := by
        show _ = _
        exact List.take_of_length_le (by have := HN2.out; omega)
      have hcv := run_string_own (P := Tryz.prog) (src := 51) Tryz.underlying51 Tryz.underlying5 HO.out
      rw [HTK.out, strOf_encZ] at hcv
      obtain ⟨T, hTT⟩ : ∃ T : ByteArray, T = ⟨(L.flatMap enc).toArray⟩ := ⟨_, rfl⟩
      rw [← hTT] at hcv
      have HTT := Lib.hid hTT
      clear hTT
      go_wp2
      go_ret
      refine HQ.out _ _ ⟨?_, hb⟩
      rw [HTT.out]
      rfl
/-! ### Alike, Ahead -/

theorem mk_inj (a b : List UInt8) : ((⟨a.toArray⟩ : ByteArray) = ⟨b.toArray⟩) ↔ a = b := by
  constructor
  · intro h
    have := congrArg ByteArray.data h
    exact List.toArray_inj this
  · intro h; rw [h]
set_option maxHeartbeats 400000 in
theorem Alike_any (s t : ByteArray) (w : World) (hs : s.size ≤ 4398046511104) (ht : t.size ≤ 4398046511104) (hT : Tabs w) :
    Calls Tryz.prog 116 #[.string s, .string t] w fun e w' => e = .returned (.bool (alikeOf s.data.toList t.data.toList)) ∧ Below w.heap.size w w' := by
  have c1 := Lib.hid (Fold_any s w hs hT)
  have c2 := fun w hT => Lib.hid (Fold_any t w ht hT)
  unfold alikeOf
  have hdec : decide (foldB s.data.toList = foldB t.data.toList) = decide ((⟨(foldB s.data.toList).toArray⟩ : ByteArray) = ⟨(foldB t.data.toList).toArray⟩) := decide_eq_decide.2 (mk_inj _ _).symm
  rw [hdec]
  unfold FoldPost at c1 c2
  obtain ⟨X, hX⟩ : ∃ X : ByteArray, X = ⟨(foldB s.data.toList).toArray⟩ := ⟨_, rfl⟩
  obtain ⟨Y, hY⟩ : ∃ Y : ByteArray, Y = ⟨(foldB t.data.toList).toArray⟩ := ⟨_, rfl⟩
  rw [← hX] at c1 ⊢
  rw [← hY] at c2 ⊢
  clear hdec hX hY
  go_enter Tryz.func116, Tryz.ntmps116
  go_wp2_with fail
  refine c1.out.mono ?_
  rintro e w1 ⟨rfl, hb1⟩
  go_wp2_with fail
  refine (c2 _ (hT.below hb1)).out.mono ?_
  rintro e w2 ⟨rfl, hb2⟩
  go_wp2
  go_ret
  refine ⟨ret_bool ?_, step hb1 hb2⟩
  show (X.toList == Y.toList) = decide (X = Y)
  rw [Lib.toList_data, Lib.toList_data, Bool.eq_iff_iff, beq_iff_eq, decide_eq_true_eq]
  exact ⟨fun h => ByteArray.ext (Array.toList_inj.1 h), fun h => by rw [h]⟩
set_option maxHeartbeats 400000 in
theorem isNaN_any (x : Int) (w : World) : Calls Tryz.prog 225 #[.int .i32 x] w fun e w' => e = .returned (.bool false) ∧ w = w' := by
  go_enter Tryz.func225, Tryz.ntmps225
  go_wp2
  go_ret
  exact ⟨rfl, rfl⟩
set_option maxHeartbeats 400000 in
theorem cmp_any (x y : Int) (w : World) : Calls Tryz.prog 207 #[.int .i32 x, .int .i32 y] w fun e w' => e = .returned (.int .i64 (cmpI x y)) ∧ w = w' := by
  have c1 := fun x w => Lib.hid (isNaN_any x w)
  unfold cmpI
  by_cases h1 : x < y
  · rw [if_pos h1]
    go_enter Tryz.func207, Tryz.ntmps207
    go_wp2_with fail
    refine (c1 _ _).out.mono ?_
    rintro e w' ⟨rfl, rfl⟩
    go_wp2_with fail
    refine (c1 _ _).out.mono ?_
    rintro e w' ⟨rfl, rfl⟩
    go_wp2
    go_ret
    exact ⟨rfl, rfl⟩
  rw [if_neg h1]
  by_cases h2 : y < x
  · rw [if_pos h2]
    go_enter Tryz.func207, Tryz.ntmps207
    go_wp2_with fail
    refine (c1 _ _).out.mono ?_
    rintro e w' ⟨rfl, rfl⟩
    go_wp2_with fail
    refine (c1 _ _).out.mono ?_
    rintro e w' ⟨rfl, rfl⟩
    go_wp2
    go_ret
    exact ⟨rfl, rfl⟩
  · rw [if_neg h2]
    obtain rfl : x = y := by omega
    go_enter Tryz.func207, Tryz.ntmps207
    go_wp2_with fail
    refine (c1 _ _).out.mono ?_
    rintro e w' ⟨rfl, rfl⟩
    go_wp2_with fail
    refine (c1 _ _).out.mono ?_
    rintro e w' ⟨rfl, rfl⟩
    go_wp2
    go_ret
    exact ⟨rfl, rfl⟩
theorem lexc_step {xs ys : List Int} {k : Nat} (h1 : k < xs.length) (h2 : k < ys.length) :
    lexc (xs.drop k) (ys.drop k) = if cmpI (xs.getD k 0) (ys.getD k 0) = 0 then lexc (xs.drop (k + 1)) (ys.drop (k + 1)) else cmpI (xs.getD k 0) (ys.getD k 0) := by
  rw [List.drop_eq_getElem_cons h1, List.drop_eq_getElem_cons h2]
  simp only [List.getD_eq_getElem?_getD, List.getElem?_eq_getElem h1, List.getElem?_eq_getElem h2, Option.getD_some, lexc]
  unfold cmpI
  repeat' split
  all_goals first | rfl | omega
theorem lexc_long {xs ys : List Int} {k : Nat} (h1 : k < xs.length) (h2 : ¬ k < ys.length) : lexc (xs.drop k) (ys.drop k) = 1 := by
  rw [List.drop_eq_getElem_cons h1, List.drop_of_length_le (l := ys) (by omega)]
  rfl
theorem lexc_short {xs ys : List Int} {k : Nat} (h1 : ¬ k < xs.length) : lexc (xs.drop k) (ys.drop k) = if k < ys.length then -1 else 0 := by
  rw [List.drop_of_length_le (l := xs) (by omega)]
  split
  · rw [List.drop_eq_getElem_cons (l := ys) (by omega)]
    rfl
  · rw [List.drop_of_length_le (l := ys) (by omega)]
    rfl
set_option maxHeartbeats 1000000 in
theorem Compare_any (w : World) (base base' : Nat) (v u : Value) (xs ys : List Int) (h : OwnK .i32 21 w base v xs) (h' : OwnK .i32 21 w base' u ys) :
    Calls Tryz.prog 176 #[v, u] w fun e w' => e = .returned (.int .i64 (lexc xs ys)) ∧ w = w' := by
  obtain ⟨A, n, c, rfl, hl, hf, hm, _, hc⟩ := h.open
  obtain ⟨A', n', c', rfl, hl', hf', hm', _, hc'⟩ := h'.open
  have c1 := fun x y w => Lib.hid (cmp_any x y w)
  obtain ⟨R, hR⟩ : ∃ R, R = lexc xs ys := ⟨_, rfl⟩
  rw [← hR]
  have HR := Lib.hid hR
  have HL := Lib.hid hl
  have HL' := Lib.hid hl'
  clear h h' hR hl hl'
  go_enter Tryz.func176, Tryz.ntmps176
  go_wp2
  go_loop [5, 6, 7, 8, 11] (fun _ _ _ _ i => ∃ k : Nat, i = .int .i64 k ∧ k ≤ n ∧ Hid (lexc (xs.drop k) (ys.drop k) = R)) (fun _ _ _ _ i => n - (intOf i).toNat)
  case atStart => exact ⟨0, rfl, Nat.zero_le _, HR.out.symm⟩
  case round =>
    obtain ⟨k, rfl, hk, HE⟩ := hrel
    by_cases hlt : k < n
    · obtain ⟨g, rfl, _, _, hcc⟩ := hc (by omega)
      have gc := hcc k hlt
      by_cases hlt' : k < n'
      · obtain ⟨g', rfl, _, _, hcc'⟩ := hc' (by omega)
        have gc' := hcc' k hlt'
        have hst := lexc_step (xs := xs) (ys := ys) (k := k) (by have := HL.out; omega) (by have := HL'.out; omega)
        obtain ⟨x, hx⟩ : ∃ x, x = xs.getD k 0 := ⟨_, rfl⟩
        obtain ⟨y, hy⟩ : ∃ y, y = ys.getD k 0 := ⟨_, rfl⟩
        rw [← hx] at gc
        rw [← hy] at gc'
        rw [← hx, ← hy] at hst
        have c2 := (c1 x y w).out
        obtain ⟨z, hz⟩ : ∃ z, z = cmpI x y := ⟨_, rfl⟩
        rw [← hz] at hst c2
        have C2 := Lib.hid c2
        clear hx hy hz hcc hcc' c2 c1 hc hc'
        by_cases hz0 : z = 0
        · subst hz0
          have HE' : Hid (lexc (xs.drop (k + 1)) (ys.drop (k + 1)) = R) := by
            have := HE.out
            rw [hst, if_pos rfl] at this
            exact this
          clear hst HE
          go_wp2_with fail
          refine C2.out.mono ?_
          rintro e w' ⟨rfl, rfl⟩
          go_wp2
          go_round
          case rel => exact ⟨k + 1, by go_num, hlt, HE'⟩
          case measure => simp [intOf]; omega
        · have HE' : Hid (z = R) := by
            have := HE.out
            rw [hst, if_neg hz0] at this
            exact this
          have hzb : (z != 0) = true := by simpa using hz0
          clear hst HE
          go_wp2_with fail
          refine C2.out.mono ?_
          rintro e w' ⟨rfl, rfl⟩
          go_wp2
          go_ret
          exact ⟨ret_int HE'.out, rfl⟩
      · have HE' : Hid (R = 1) := by
          have := HE.out
          rw [lexc_long (by have := HL.out; omega) (by have := HL'.out; omega)] at this
          exact this.symm
        clear hcc c1 hc hc' HE
        go_wp2
        go_ret
        exact ⟨ret_int HE'.out.symm, rfl⟩
    · obtain rfl : k = n := by omega
      have hE := HE.out
      rw [lexc_short (by have := HL.out; omega), HL'.out] at hE
      clear c1 hc hc' HE
      by_cases h2 : k < n'
      · rw [if_pos h2] at hE
        have HE' := Lib.hid hE
        clear hE
        go_wp2
        go_ret
        exact ⟨ret_int HE'.out, rfl⟩
      · rw [if_neg h2] at hE
        have HE' := Lib.hid hE
        clear hE
        go_wp2
        go_ret
        exact ⟨ret_int HE'.out, rfl⟩
set_option maxHeartbeats 400000 in
theorem Ahead_any (s t : ByteArray) (w : World) (hs : s.size ≤ 4398046511104) (ht : t.size ≤ 4398046511104) (hT : Tabs w) :
    Calls Tryz.prog 146 #[.string s, .string t] w fun e w' => e = .returned (.bool (aheadOf s.data.toList t.data.toList)) ∧ Below w.heap.size w w' := by
  have c1 := Lib.hid (folded_any s w hs hT)
  have c2 := fun w hT => Lib.hid (folded_any t w ht hT)
  unfold FoldedPost at c1 c2
  unfold aheadOf
  obtain ⟨X, hX⟩ : ∃ X, X = foldedOf s.data.toList := ⟨_, rfl⟩
  obtain ⟨Y, hY⟩ : ∃ Y, Y = foldedOf t.data.toList := ⟨_, rfl⟩
  rw [← hX] at c1 ⊢
  rw [← hY] at c2 ⊢
  obtain ⟨z, hz⟩ : ∃ z, z = lexc X Y := ⟨_, rfl⟩
  have c3 := fun w b b' v u h h' => Compare_any w b b' v u X Y h h'
  rw [← hz] at c3 ⊢
  have C3 := Lib.hid c3
  clear hX hY hz c3
  go_enter Tryz.func146, Tryz.ntmps146
  go_wp2_with fail
  refine c1.out.mono ?_
  rintro e w1 ⟨v1, rfl, ho1, hb1⟩
  have HO1 := Lib.hid ho1
  clear ho1
  go_wp2_with fail
  refine (c2 _ (hT.below hb1)).out.mono ?_
  rintro e w2 ⟨v2, rfl, ho2, hb2⟩
  have HO2 := Lib.hid ho2
  clear ho2
  go_wp2_with fail
  refine (C3.out _ _ _ _ _ (HO1.out.below hb2) HO2.out).mono ?_
  rintro e w3 ⟨rfl, rfl⟩
  go_wp2
  go_ret
  exact ⟨rfl, step hb1 hb2⟩
end Go.Proofs.YtdgpbhdihhchgaaGreatDoor

namespace Go.Proofs.YtdgpbhdihhchgaaGreatDoor
set_option linter.all false
open Go.RowKit
/-- block g is an array of numbers of kind k (or a row), none frozen -/
def Arr (w : World) (g : Nat) (k : IntKind) (T : TypeId) (xs : List Int) : Prop := w.heap[g]? = some (.cells (xs.map (Value.int k)).toArray T (0, 0))
/-- nothing but block g may have turned -/
structure Only (g : Nat) (w w' : World) : Prop where
  os : w'.os = w.os
  tape : w'.tape = w.tape
  output : w'.output = w.output
  size : w'.heap.size = w.heap.size
  rest : ∀ j, j ≠ g → w'.heap[j]? = w.heap[j]?
section
variable {w w' w2 : World} {g h B : Nat} {k k' : IntKind} {T T' : TypeId} {xs ys : List Int}
theorem Only.refl (g : Nat) (w : World) : Only g w w := ⟨rfl, rfl, rfl, rfl, fun _ _ => rfl⟩
theorem Only.trans (a : Only g w w') (b : Only g w' w2) : Only g w w2 := ⟨b.os.trans a.os, b.tape.trans a.tape, b.output.trans a.output, b.size.trans a.size, fun j hj => (b.rest j hj).trans (a.rest j hj)⟩
theorem Only.setCell (a : Only g w w') (i : Nat) (v : Value) : Only g w (w'.setCell ⟨g, i, none⟩ v) :=
  a.trans ⟨rfl, rfl, rfl, by simp, fun j hj => Below.heap_setCell _ _ _ _ hj⟩
theorem Only.setRow (a : Only g w w') (cs : Array Value) : Only g w (w'.setRow g cs) :=
  a.trans ⟨rfl, rfl, rfl, by simp, fun j hj => setRow_other _ _ _ _ hj⟩
theorem Only.drewN (a : Only g w w') (n : Nat) : Only g w (w'.drewN n) := a.trans ⟨rfl, rfl, rfl, rfl, fun _ _ => rfl⟩
theorem Only.below (a : Only g w w') (hB : B ≤ g) : Below B w w' := ⟨a.os, a.tape, a.output, by rw [a.size]; exact Nat.le_refl _, fun j hj => a.rest j (by omega)⟩
theorem Arr.lt (h : Arr w g k T xs) : g < w.heap.size := (Array.getElem?_eq_some_iff.1 h).1
theorem Arr.cell (h : Arr w g k T xs) {i : Nat} (hi : i < xs.length) : w.cell? ⟨g, i, none⟩ = some (.int k (xs.getD i 0)) := by
  rw [cell_of_row w g i _ T (0, 0) h]
  simp [hi]
theorem Arr.frozen (h : Arr w g k T xs) (i : Nat) : w.frozen? ⟨g, i, none⟩ = false := frozen_of_row w g i _ T h
theorem Arr.below (h : Arr w g k T xs) (hb : Below B w w') (hg : g < B) : Arr w' g k T xs := (hb.block g hg).trans h
theorem Arr.over (h : Arr w g k T xs) (hb : Below w.heap.size w w') : Arr w' g k T xs := h.below hb h.lt
theorem Arr.only (a : Arr w g k T xs) (hb : Only h w w') (hg : g ≠ h) : Arr w' g k T xs := (hb.rest g hg).trans a
theorem Arr.set (h : Arr w g k T xs) (i : Nat) (u : Int) : Arr (w.setCell ⟨g, i, none⟩ (.int k u)) g k T (xs.set i u) := by
  have h1 := heap_setCell_same w g i _ T (.int k u) h
  unfold Arr
  rw [h1]
  simp [List.map_set]
theorem Arr.drewN (h : Arr w g k T xs) (n : Nat) : Arr (w.drewN n) g k T xs := h
theorem Arr.drew (h : Arr w g k T xs) : Arr w.drew g k T xs := h
theorem Arr.ne (a : Arr w g k T xs) (b : Arr w h k' T' ys) (hT : T ≠ T') : g ≠ h := by
  rintro rfl
  unfold Arr at a b
  rw [a] at b
  simp only [Option.some.injEq, Obj.cells.injEq] at b
  exact hT b.2.1
/-- a new block of numbers -/
theorem Arr.new (w : World) (k : IntKind) (T : TypeId) (xs : List Int) : Arr (w.alloc (.cells (xs.map (Value.int k)).toArray T)) w.heap.size k T xs := heap_alloc_new w _
end
section
variable {P : Program} {ops : Array Oper} {rest : List Oper} {o : Oper} {a : Act} {w : World} {Q : Exit → Act → World → Prop}
end
end Go.Proofs.YtdgpbhdihhchgaaGreatDoor

namespace Go.Proofs.YtdgpbhdihhchgaaGreatDoor
set_option linter.all false
open Go.RowKit
/-! ### two rows of one kind, in blocks of their own -/

/-- the two slices head different blocks -/
def Apart (v u : Value) : Prop := ∀ i, v.ownBlock = some i → u.ownBlock ≠ some i
theorem Apart.nil (u : Value) : Apart (.slice none 0 0) u := fun i h => by cases h
theorem Apart.nil' (v : Value) : Apart v (.slice none 0 0) := fun i _ h => by cases h
theorem Apart.symm {v u : Value} (h : Apart v u) : Apart u v := fun i hu hv => h i hv hu
section
variable {k k' : IntKind} {e e' : TypeId} {w w' : World} {base base' : Nat} {v v' u : Value} {xs ys : List Int}
theorem OwnK.lt (h : OwnK k e w base v xs) {i : Nat} (hi : v.ownBlock = some i) : i < w.heap.size := (World.ownsRow.lt h i hi).2
theorem Grew.apart (hg : Grew w w' v) (h' : OwnK k' e' w base' u ys) (ha : Apart v u) : OwnK k' e' w' base' u ys :=
  h'.keep fun i cs hi hcs => by rw [hg.block hcs fun hv => ha i hv hi, hcs]
theorem OwnK.grown (h' : OwnK k' e' w base' u ys) (hg : w.grownBy w' v.ownBlock) (ha : Apart v u) : OwnK k' e' w' base' u ys :=
  h'.keep fun i _ hi hcs => hg.block i (Array.getElem?_eq_some_iff.1 hcs).1 fun he => ha i he.symm hi
theorem Arr.grew {g : Nat} {T : TypeId} {zs : List Int} (a : Arr w g k' T zs) (hg : Grew w w' v) (h : OwnK k e w base v xs) (hT : T ≠ e) : Arr w' g k' T zs :=
  hg.block a fun hv => by
    obtain ⟨_, cs, hcs⟩ := h.block hv
    unfold Arr at a
    rw [hcs] at a
    simp only [Option.some.injEq, Obj.cells.injEq] at a
    exact hT a.2.1.symm
/-- where the new slice heads: the old block, or a new one -/
def Whither (w : World) (v v' : Value) : Prop := v'.ownBlock = v.ownBlock ∨ ∃ g, v'.ownBlock = some g ∧ w.heap.size ≤ g
theorem Apart.whither (ha : Apart v u) (hw : Whither w v v') (hu : OwnK k e w base u ys) : Apart v' u := fun i hi hui => by
  rcases hw with h | ⟨g, hg, hge⟩
  · exact ha i (h ▸ hi) hui
  · rw [hg] at hi
    injection hi with hi
    subst hi
    have := hu.lt hui
    omega
end
theorem run_append_whither {P : Program} (w : World) (t ty e : TypeId) (i : TypeInfo) (z : Value) (bytes : Nat) (ht : P.underlying t = some (.slice e)) (hi : P.info? e = some i) (hz : i.zero = some z) (hsize : i.size = 1) (hby : i.bytes = bytes) (hzs : z.cells.size = 1)
    (base : Nat) (v : Value) (n : Nat) (xs : List Value) (hown : w.ownsRow base e 1 v n xs) (a : Addr) (m c : Nat) (news : List Value) (hl : news.length = m * 1) (hnews : ∀ j u, news[j]? = some u → w.cell? (a.add j) = some u) (h1 : ∀ u ∈ news, u.oneCell' = true)
    (h63 : n + m ≤ maxLen) (hbytes : (n + m) * bytes ≤ 140737488355328) (hbase : base ≤ w.heap.size) :
    ∃ v' w', (Builtin.append_ #[t, t] ty #[v, .slice (some a) m c]).run P w = .ok v' w' ∧ w'.ownsRow base e 1 v' (n + m) (xs ++ news) ∧ w.grownBy w' v.ownBlock ∧ Whither w v v' := by
  obtain ⟨v', w', hr, ho, hg, hnil⟩ := run_append_own (P := P) w base t ty e i z 1 bytes ht hi hz hsize hby hzs (by omega) v n xs hown a m c news hl hnews h1 h63 hbytes hbase
  refine ⟨v', w', hr, ho, hg, ?_⟩
  have hsmall : n + m ≤ 9223372036854775807 := by simp only [maxLen] at h63; omega
  rcases hown.2 with ⟨rfl, rfl⟩ | ⟨g, cap, cur, rfl, hbg, hgg, hnc, hcm, hcs, htake⟩
  · have hx : xs = [] := List.eq_nil_of_length_eq_zero (by simpa using hown.1)
    subst hx
    obtain ⟨v2, w2, hr2, ho2, _, _⟩ := run_append_own (P := P) w w.heap.size t ty e i z 1 bytes ht hi hz hsize hby hzs (by omega) (.slice none 0 0) 0 [] (World.ownsRow_nil w _ e 1) a m c news hl hnews h1 h63 hbytes (Nat.le_refl _)
    rw [hr] at hr2
    injection hr2 with e1 e2
    subst e1 e2
    rcases ho2.2 with ⟨rfl, _⟩ | ⟨g, cap, cur, rfl, hb, _⟩
    · exact .inl rfl
    · exact .inr ⟨g, rfl, hb⟩
  · by_cases hroom : n + m ≤ cap
    · have hfit : n * i.size + news.length ≤ cur.size := by rw [hl, hcs, hsize]; omega
      have hr2 := run_append_room (P := P) w t ty e i ht hi g n cap cur hgg a m c news (by rw [hl, hsize]) hnews h1 hroom hfit
      rw [hr] at hr2
      injection hr2 with e1 e2
      subst e1
      exact .inl rfl
    · have holds : ∀ j u, xs[j]? = some u → w.cell? ((⟨g, 0, none⟩ : Addr).add j) = some u := hown.cells (g := g) rfl
      have hr2 := run_append_grow (P := P) w t ty e i z ht hi hz ⟨g, 0, none⟩ n cap xs (by rw [hsize]; exact hown.1) holds a m c news (by rw [hl, hsize]) hnews (by omega) (by omega) (growslice_fits (by omega) (by rw [hby]; exact hbytes))
      rw [hr] at hr2
      injection hr2 with e1 e2
      subst e1
      exact .inr ⟨_, rfl, Nat.le_refl _⟩
/-- append(l, xs..), the new ones lying in a block of their own that has just been laid, onto a row of the call's own; where the new slice heads is told -/
theorem wpList_append_litW {P : Program} {w : World} {ops : Array Oper} {rest : List Oper} {o : Oper} {a : Act} {Q : Exit → Act → World → Prop} (hgd : o.guard = none) (s x : Operand) (k : IntKind) (T e : TypeId) (bytes : Nat)
    (ht : P.underlying T = some (.slice e)) (hi : (P.info? e).map (fun i => (i.zero, i.size, i.bytes)) = some (some (.int k 0), 1, bytes))
    (ho : o.op = .call { callee := .builtin .append, args := #[s, x], argTypes := #[T, T] })
    (base : Nat) (v : Value) (xs ys : List Int) (cs : Array Value) (hcs : cs = (ys.map (Value.int k)).toArray) (m c : Nat) (hm : ys.length = m) (hs : a.eval s = v) (hx : a.eval x = .slice (some ⟨w.heap.size, 0, none⟩) m c)
    (hown : OwnK k e w base v xs) (hlen : (xs.length + m) * bytes ≤ 140737488355328) (h63 : xs.length + m ≤ 9223372036854775807) (hbase : base ≤ w.heap.size)
    (h : ∀ v' w', Hid (OwnK k e w' base v' (xs ++ ys)) → Hid (Grew w w' v) → Hid (Whither w v v') → wpList P ops Q rest (a.put o.dst v') w') :
    wpList P ops Q (o :: rest) a (w.alloc (.cells cs e)) := by
  obtain ⟨i0, hi0, hz0, hz1, hz2⟩ := info_parts hi
  subst hcs
  have hr : (w.alloc (.cells (ys.map (Value.int k)).toArray e)).heap[w.heap.size]? = some (.cells (ys.map (Value.int k)).toArray e (0, 0)) := heap_alloc_new w _
  obtain ⟨v', w', hrun, ho', hg', hwh⟩ := run_append_whither (P := P) (w.alloc (.cells (ys.map (Value.int k)).toArray e)) T o.type e i0 (.int k 0) bytes ht hi0 hz0 hz1 hz2 rfl base v xs.length (xs.map (Value.int k)) (OwnK.alloc hown _) ⟨w.heap.size, 0, none⟩ m c (ys.map (Value.int k)) (by simp [hm])
    (fun j y hj => by
      have e1 : (⟨w.heap.size, 0, none⟩ : Addr).add j = ⟨w.heap.size, j, none⟩ := by
        by_cases hj0 : j = 0
        · subst hj0; simp [Addr.add]
        · simp [Addr.add, hj0]
      rw [e1, cell_of_row _ w.heap.size j _ e (0, 0) hr, ← hj]
      simp)
    (by intro v hv; obtain ⟨x, _, rfl⟩ := List.mem_map.1 hv; rfl) (by unfold maxLen; omega) hlen (by simp; omega)
  refine wpList_plain hgd fun K hK => ?_
  unfold Oper.wp execOp
  simp only [ho, resolve, invoke, builtin, Sem.run_bind, Sem.run_pure, Result.andThen_ok, List.map_toArray, List.map_cons, List.map_nil, hs, hx, hrun]
  refine hK _ _ (h v' w' ?_ ⟨_, hg'⟩ ?_)
  · show World.ownsRow _ _ _ _ _ _ _
    rw [List.length_append, List.map_append, hm]
    exact ho'
  · rcases hwh with h1 | ⟨g, h1, h2⟩
    · exact .inl h1
    · exact .inr ⟨g, h1, by simp at h2; omega⟩
end Go.Proofs.YtdgpbhdihhchgaaGreatDoor

namespace Go.Proofs.YtdgpbhdihhchgaaGreatDoor
set_option linter.all false
open Go.RowKit
/-! ### a text as a row of runes -/

theorem runesFrom_text (s : ByteArray) (bound pos : Nat) (acc : Array Value) (hb : s.size ≤ pos + bound) (ht : isText (s.data.toList.drop pos) = true) :
    (Conv.runesFrom s bound pos acc).toList = acc.toList ++ (letters (s.data.toList.drop pos)).map (Value.int .i32) := by
  induction bound generalizing pos acc with
  | zero => rw [next_end s pos (by omega)]; simp [Conv.runesFrom]
  | succ b ih =>
    unfold Conv.runesFrom
    by_cases hp : pos < s.size
    · obtain ⟨m1, m2, _⟩ := next_text s pos hp ht
      obtain ⟨_, n2, _⟩ := next_any s pos hp
      rw [if_pos hp]
      show (Conv.runesFrom s b (pos + (Utf8.decode s pos).2) (acc.push (.int .i32 (Int.ofNat (Utf8.decode s pos).1)))).toList = _
      rw [ih (pos + (Utf8.decode s pos).2) _ (by omega) m2, m1]
      simp
    · rw [if_neg hp, next_end s pos hp]; simp
theorem runesFrom_all (s : ByteArray) (ht : isText s.data.toList = true) : Conv.runesFrom s s.size 0 #[] = ((letters s.data.toList).map (Value.int .i32)).toArray := by
  have h := runesFrom_text s s.size 0 #[] (by omega) (by rwa [List.drop_zero])
  rw [List.drop_zero] at h
  apply Array.toList_inj.1
  rw [h]
  rfl
theorem runeCount_from (s : ByteArray) (bound pos : Nat) (hb : s.size ≤ pos + bound) : Lib.runeCountFrom s bound pos = (letters (s.data.toList.drop pos)).length := by
  induction bound generalizing pos with
  | zero => rw [next_end s pos (by omega)]; rfl
  | succ b ih =>
    unfold Lib.runeCountFrom
    by_cases hp : pos < s.size
    · obtain ⟨n1, n2, _⟩ := next_any s pos hp
      rw [if_pos hp, ih (pos + (Utf8.decode s pos).2) (by omega), n1, List.length_cons, Nat.add_comm]
    · rw [if_neg hp, next_end s pos hp]; rfl
theorem runeCount_letters (s : ByteArray) : Lib.runeCount s = (letters s.data.toList).length := by
  have h := runeCount_from s s.size 0 (by omega)
  rwa [List.drop_zero] at h
/-- '[]rune(s)' of a text -/
theorem wpList_runes {w : World} {ops : Array Oper} {rest : List Oper} {o : Oper} {a : Act} {Q : Exit → Act → World → Prop} (hg : o.guard = none) (x : Operand) (ho : o.op = .convert 9 179 x) (s : ByteArray) (hx : a.eval x = .string s) (ht : isText s.data.toList = true) (hn : s.size ≤ 70368744177664)
    (h : ∀ v w', Hid (OwnK .i32 21 w' w.heap.size v (letters s.data.toList)) → Hid (Below w.heap.size w w') → wpList Tryz.prog ops Q rest (a.put o.dst v) w') :
    wpList Tryz.prog ops Q (o :: rest) a w := by
  have hl := letters_le s.data.toList
  rw [← Lib.size_eq] at hl
  have hrun := run_runes_of_string (P := Tryz.prog) w 9 179 21 s Tryz.underlying9 Tryz.underlying179 Tryz.underlying21 (by rw [runesFrom_all s ht]; simp; omega)
  rw [runesFrom_all s ht] at hrun
  simp only [List.size_toArray, List.length_map] at hrun
  refine wpList_plain hg fun K hK => ?_
  unfold Oper.wp execOp
  simp only [ho, hx, hrun, Sem.run_bind, Result.andThen_ok, Sem.run_pure]
  refine hK _ _ (h _ _ ?_ (((Below.refl _ _).drew).alloc (Nat.le_refl _) _))
  have hge := grownCap_ge w (letters s.data.toList).length 0 21
  have hle := grownCap_le_maxLen w (letters s.data.toList).length 0 21 (by unfold maxLen; omega)
  refine ⟨by simp, .inr ⟨w.heap.size, _, _, rfl, Nat.le_refl _, heap_alloc_new w.drew _, hge, hle, by simp; omega, ?_⟩⟩
  rw [Array.toList_append]
  simp
/-! ### isText, longer, Plain -/

theorem textErr_zero (l : List UInt8) : (textErr l == 0) = isText l := by
  unfold textErr
  cases isText l <;> rfl
set_option maxHeartbeats 400000 in
theorem IsText_any (s : ByteArray) (w : World) (hs : s.size ≤ 35184372088832) (hT : Tabs w) :
    Calls Tryz.prog 179 #[.string s] w fun e w' => e = .returned (.bool (isText s.data.toList)) ∧ Below w.heap.size w w' := by
  have c1 := Units_any s w (by omega) hT
  rw [← textErr_zero]
  obtain ⟨U, hU⟩ : ∃ U, U = unitsOfL s.data.toList := ⟨_, rfl⟩
  obtain ⟨E, hE⟩ : ∃ E, E = textErr s.data.toList := ⟨_, rfl⟩
  rw [← hU, ← hE] at c1
  rw [← hE]
  have C1 := Lib.hid c1
  clear c1 hU hE
  go_enter Tryz.func179, Tryz.ntmps179
  go_wp2_with fail
  refine C1.out.mono ?_
  rintro e w1 ⟨rfl, hb1⟩
  go_wp2
  go_ret
  exact ⟨rfl, hb1⟩
set_option maxHeartbeats 400000 in
theorem longer_any (s : ByteArray) (m : Int) (w : World) (hs : s.size ≤ 35184372088832) :
    Calls Tryz.prog 180 #[.string s, .int .i64 m] w fun e w' => e = .returned (.bool (decide (m < ((letters s.data.toList).length : Int)))) ∧ Below w.heap.size w w' := by
  have c1 := Tryz.utf8_RuneCountInString s w (by omega)
  rw [runeCount_letters] at c1
  obtain ⟨L, hL⟩ : ∃ L, L = (letters s.data.toList).length := ⟨_, rfl⟩
  rw [← hL] at c1 ⊢
  have C1 := Lib.hid c1
  clear c1 hL
  go_enter Tryz.func180, Tryz.ntmps180
  go_wp2_with fail
  refine C1.out.mono ?_
  rintro e w1 ⟨rfl, pos, hw⟩
  have hb1 : Below w.heap.size w w1 := by
    rw [hw]
    exact (Below.refl _ _).alloc (Nat.le_refl _) _
  clear hw
  go_wp2
  go_ret
  exact ⟨rfl, hb1⟩
end Go.Proofs.YtdgpbhdihhchgaaGreatDoor

namespace Go.Proofs.YtdgpbhdihhchgaaGreatDoor
set_option linter.all false
theorem getD_lt {p : List Int} {k : Nat} {c : Int} (hc : c ≠ 0) (h : p.getD k 0 = c) : k < p.length := by
  rcases Nat.lt_or_ge k p.length with h1 | h1
  · exact h1
  · rw [List.getD_eq_getElem?_getD, List.getElem?_eq_none h1] at h
    exact absurd h.symm hc
/-- is place k waited at, behind the letters t -/
noncomputable def live (p : List Int) (k : Nat) (t : List Int) : Bool := fitAt p (if p.getD k 0 = 42 then k + 1 else k) t
theorem fitAt_grow_star {p t : List Int} {k : Nat} (hc : p.getD k 0 = 42) (h : fitAt p k t = true) : fitAt p (k + 1) t = true := by
  have hk := getD_lt (by omega) hc
  rw [fitAt_iff] at h ⊢
  rw [take_getD p k hk, hc]
  exact fit_append.2 ⟨t, [], by simp, h, fit_any _⟩
theorem live_of_fitAt {p t : List Int} {k : Nat} (h : fitAt p k t = true) : live p k t = true := by
  unfold live
  split
  · exact fitAt_grow_star (by assumption) h
  · exact h
theorem live_star {p t : List Int} {k : Nat} (x : Int) (hc : p.getD k 0 = 42) (h : live p k t = true) : live p k (t ++ [x]) = true := by
  unfold live at h ⊢
  rw [if_pos hc] at h ⊢
  rw [fitAt_star p t x k (getD_lt (by omega) hc) hc, h]
  rfl
theorem live_one {p t : List Int} {k : Nat} {x : Int} (hk : k < p.length) (hc : p.getD k 0 ≠ 42) (hx : p.getD k 0 = 63 ∨ p.getD k 0 = x) (h : live p k t = true) : live p (k + 1) (t ++ [x]) = true := by
  refine live_of_fitAt ?_
  unfold live at h
  rw [if_neg hc] at h
  rw [fitAt_one p t x k hk hc hx, h]
theorem live_next {p t : List Int} {k : Nat} (hc : p.getD k 0 = 42) (h : live p k t = true) : live p (k + 1) t = true := by
  unfold live at h
  rw [if_pos hc] at h
  exact live_of_fitAt h
theorem live_back {p t : List Int} {k : Nat} {x : Int} (hk : k ≤ p.length) (h : live p k (t ++ [x]) = true) :
    (p.getD k 0 = 42 ∧ live p k t = true) ∨ (∃ j, k = j + 1 ∧ p.getD j 0 ≠ 42 ∧ (p.getD j 0 = 63 ∨ p.getD j 0 = x) ∧ live p j t = true) ∨ (∃ j, k = j + 1 ∧ p.getD j 0 = 42 ∧ live p j (t ++ [x]) = true) := by
  have key : fitAt p k (t ++ [x]) = true → (∃ j, k = j + 1 ∧ p.getD j 0 ≠ 42 ∧ (p.getD j 0 = 63 ∨ p.getD j 0 = x) ∧ live p j t = true) ∨ (∃ j, k = j + 1 ∧ p.getD j 0 = 42 ∧ live p j (t ++ [x]) = true) := by
    intro h
    match k, hk, h with
    | 0, _, h => rw [fitAt_none] at h; cases h
    | j + 1, hk, h =>
      by_cases hc : p.getD j 0 = 42
      · refine .inr ⟨j, rfl, hc, ?_⟩
        unfold live
        rw [if_pos hc]
        exact h
      · by_cases hx : p.getD j 0 = 63 ∨ p.getD j 0 = x
        · refine .inl ⟨j, rfl, hc, hx, ?_⟩
          unfold live
          rw [if_neg hc]
          rwa [fitAt_one p t x j hk hc hx] at h
        · rw [fitAt_other p t x j hk hc hx] at h
          cases h
  unfold live at h
  by_cases hc : p.getD k 0 = 42
  · rw [if_pos hc, fitAt_star p t x k (getD_lt (by omega) hc) hc, Bool.or_eq_true, Bool.or_eq_true] at h
    rcases h with (h | h) | h
    · refine .inl ⟨hc, ?_⟩
      unfold live
      rw [if_pos hc]
      exact h
    · exact .inl ⟨hc, live_of_fitAt h⟩
    · exact .inr (key h)
  · rw [if_neg hc] at h
    exact .inr (key h)
theorem live_nil (p : List Int) : live p 0 [] = true := live_of_fitAt (fitAt_zero p)
theorem live_nil_back {p : List Int} {k : Nat} (hk : k + 1 ≤ p.length) (h : live p (k + 1) [] = true) : p.getD k 0 = 42 ∧ live p k [] = true := by
  have key : fitAt p (k + 1) [] = true → p.getD k 0 = 42 ∧ live p k [] = true := by
    intro h
    by_cases hc : p.getD k 0 = 42
    · refine ⟨hc, ?_⟩
      unfold live
      rw [if_pos hc]
      exact h
    · rw [fitAt_nil_other p k hk hc] at h
      cases h
  unfold live at h
  by_cases hc : p.getD (k + 1) 0 = 42
  · rw [if_pos hc, fitAt_nil_star p (k + 1) (getD_lt (by omega) hc) hc] at h
    exact key h
  · rw [if_neg hc] at h
    exact key h
theorem live_end (p t : List Int) : live p p.length t = true ↔ Fit p t := by
  unfold live
  rw [if_neg ?_, fitAt_all p t _ (Nat.le_refl _)]
  intro h
  exact absurd (getD_lt (by omega) h) (by omega)
/-! ### rows of places -/

/-- all places below m that are waited at -/
noncomputable def gpre (p t : List Int) (m : Nat) : List Nat := (List.range m).filter fun k => live p k t
/-- all of them -/
noncomputable def places (p t : List Int) : List Nat := gpre p t (p.length + 1)
/-- how many stars stand in a row from k on -/
def stars (p : List Int) (k : Nat) : Nat := ((p.drop k).takeWhile fun c => decide (c = 42)).length
/-- what 'wait' makes of a row whose last place is m - 1 -/
def waitL (p : List Int) (m : Nat) (L : List Nat) (k : Nat) : List Nat := if m ≤ k then L ++ List.range' k (stars p k + 1) else L
theorem stars_step (p : List Int) (k : Nat) : stars p k = if p.getD k 0 = 42 then stars p (k + 1) + 1 else 0 := by
  unfold stars
  by_cases hk : k < p.length
  · rw [List.drop_eq_getElem_cons hk]
    have e : p.getD k 0 = p[k] := by simp [hk]
    rw [e]
    by_cases h : p[k] = 42
    · rw [List.takeWhile_cons_of_pos (by simpa using h), if_pos h, List.length_cons]
    · rw [List.takeWhile_cons_of_neg (by simpa using h), if_neg h, List.length_nil]
  · rw [List.drop_of_length_le (by omega), if_neg (by rw [List.getD_eq_getElem?_getD, List.getElem?_eq_none (by omega)]; decide)]
    rfl
theorem stars_spec (p : List Int) (n k : Nat) (hn : stars p k = n) : (∀ i, i < n → p.getD (k + i) 0 = 42) ∧ p.getD (k + n) 0 ≠ 42 := by
  induction n generalizing k with
  | zero =>
    refine ⟨fun i hi => by omega, fun h => ?_⟩
    rw [Nat.add_zero] at h
    rw [stars_step, if_pos h] at hn
    omega
  | succ n ih =>
    have hc : p.getD k 0 = 42 := by
      by_cases h : p.getD k 0 = 42
      · exact h
      · rw [stars_step, if_neg h] at hn; omega
    rw [stars_step, if_pos hc] at hn
    obtain ⟨h1, h2⟩ := ih (k + 1) (by omega)
    refine ⟨fun i hi => ?_, by rw [show k + (n + 1) = k + 1 + n by omega]; exact h2⟩
    match i, hi with
    | 0, _ => exact hc
    | i + 1, hi => rw [show k + (i + 1) = k + 1 + i by omega]; exact h1 i (by omega)
theorem stars_le (p : List Int) (k : Nat) (hk : k ≤ p.length) : k + stars p k ≤ p.length := by
  obtain ⟨h1, _⟩ := stars_spec p _ k rfl
  by_cases h : stars p k = 0
  · omega
  · have := getD_lt (by omega) (h1 (stars p k - 1) (by omega))
    omega
theorem pre_step (p t : List Int) (m : Nat) : gpre p t (m + 1) = gpre p t m ++ if live p m t = true then [m] else [] := by
  unfold gpre
  rw [List.range_succ, List.filter_append]
  by_cases h : live p m t = true
  · rw [if_pos h]
    simp [List.filter, h]
  · rw [if_neg h]
    simp [List.filter, h]
theorem pre_gap (p t : List Int) (m d : Nat) (h : ∀ j, m ≤ j → j < m + d → ¬ live p j t = true) : gpre p t (m + d) = gpre p t m := by
  induction d with
  | zero => rfl
  | succ d ih => rw [← Nat.add_assoc, pre_step, if_neg (h (m + d) (by omega) (by omega)), List.append_nil, ih fun j h1 h2 => h j h1 (by omega)]
theorem pre_run (p t : List Int) (k s : Nat) (h : ∀ i, i < s → live p (k + i) t = true) : gpre p t (k + s) = gpre p t k ++ List.range' k s := by
  induction s with
  | zero => simp
  | succ s ih => rw [← Nat.add_assoc, pre_step, if_pos (h s (by omega)), ih fun i hi => h i (by omega), List.append_assoc, List.range'_concat, Nat.one_mul]
theorem live_run {p t : List Int} {k : Nat} (h : live p k t = true) (i : Nat) (hi : i ≤ stars p k) : live p (k + i) t = true := by
  induction i with
  | zero => exact h
  | succ i ih => exact live_next ((stars_spec p _ k rfl).1 i (by omega)) (ih (by omega))
/-- behind those of the places before that D tells: all below m are told -/
structure Told (p t : List Int) (x : Int) (D : Nat → Prop) (m : Nat) : Prop where
  le : m ≤ p.length + 1
  top : m = 0 ∨ (live p (m - 1) (t ++ [x]) = true ∧ p.getD (m - 1) 0 ≠ 42)
  star : ∀ a, D a → p.getD a 0 = 42 → a < m
  one : ∀ a, D a → a < p.length → p.getD a 0 ≠ 42 → (p.getD a 0 = 63 ∨ p.getD a 0 = x) → a + 1 < m
theorem Told.gap {p t : List Int} {x : Int} {D : Nat → Prop} {m k : Nat} (T : Told p t x D m) (hk : k ≤ p.length + 1) (h1 : ∀ a, a < k → live p a t = true → p.getD a 0 = 42 → D a) (h2 : ∀ a, a + 1 < k → live p a t = true → p.getD a 0 ≠ 42 → D a) :
    ∀ j, m ≤ j → j < k → ¬ live p j (t ++ [x]) = true := by
  intro j
  induction j using Nat.strongRecOn with
  | ind j ih =>
    intro hm hj h
    rcases live_back (by omega) h with ⟨hc, hl⟩ | ⟨i, rfl, hc, hx, hl⟩ | ⟨i, rfl, hc, hl⟩
    · have := T.star j (h1 j hj hl hc) hc
      omega
    · have := T.one i (h2 i hj hl hc) (by omega) hc hx
      omega
    · by_cases hi : m ≤ i
      · exact ih i (by omega) hi (by omega) hl
      · rcases T.top with h0 | ⟨_, h0⟩
        · omega
        · rw [show m - 1 = i by omega] at h0
          exact h0 hc
/-- where the last place is behind 'wait' -/
def waitM (p : List Int) (m k : Nat) : Nat := if m ≤ k then k + stars p k + 1 else m
theorem waitM_ge (p : List Int) (m k : Nat) : m ≤ waitM p m k ∧ k < waitM p m k := by
  unfold waitM
  split <;> omega
theorem Told.wait {p t : List Int} {x : Int} {D : Nat → Prop} {m k : Nat} (T : Told p t x D m) (hk : k ≤ p.length) (hl : live p k (t ++ [x]) = true) (h1 : ∀ a, a < k → live p a t = true → p.getD a 0 = 42 → D a) (h2 : ∀ a, a + 1 < k → live p a t = true → p.getD a 0 ≠ 42 → D a) :
    waitL p m (gpre p (t ++ [x]) m) k = gpre p (t ++ [x]) (waitM p m k) ∧ waitM p m k ≤ p.length + 1 ∧ (live p (waitM p m k - 1) (t ++ [x]) = true ∧ p.getD (waitM p m k - 1) 0 ≠ 42) := by
  unfold waitL waitM
  by_cases hm : m ≤ k
  · rw [if_pos hm, if_pos hm]
    have hs := stars_le p k hk
    have hg := pre_gap p (t ++ [x]) m (k - m) fun j a b => T.gap (by omega) h1 h2 j a (by omega)
    rw [show m + (k - m) = k by omega] at hg
    refine ⟨?_, by omega, ?_⟩
    · rw [← hg, Nat.add_assoc, pre_run p (t ++ [x]) k (stars p k + 1) fun i hi => live_run hl i (by omega)]
    · rw [Nat.add_sub_cancel]
      exact ⟨live_run hl _ (Nat.le_refl _), (stars_spec p _ k rfl).2⟩
  · rw [if_neg hm, if_neg hm]
    refine ⟨rfl, T.le, ?_⟩
    rcases T.top with h0 | h0
    · omega
    · exact h0
theorem Told.start (p t : List Int) (x : Int) : Told p t x (fun _ => False) 0 := ⟨by omega, .inl rfl, fun _ h => h.elim, fun _ h => h.elim⟩
theorem Told.all {p t : List Int} {x : Int} {D : Nat → Prop} {m : Nat} (T : Told p t x D m) (h : ∀ a, a ≤ p.length → live p a t = true → (a < p.length → D a)) : gpre p (t ++ [x]) m = places p (t ++ [x]) := by
  have hle := T.le
  have hg := pre_gap p (t ++ [x]) m (p.length + 1 - m) fun j a b => T.gap (k := p.length + 1) (Nat.le_refl _)
    (fun a ha hl hc => h a (by omega) hl (getD_lt (by omega) hc)) (fun a ha hl hc => h a (by omega) hl (by omega)) j a (by omega)
  rw [show m + (p.length + 1 - m) = p.length + 1 by omega] at hg
  exact hg.symm
theorem Told.mono {p t : List Int} {x : Int} {D D' : Nat → Prop} {m : Nat} (T : Told p t x D m) (h : ∀ a, D' a → D a) : Told p t x D' m := ⟨T.le, T.top, fun a ha => T.star a (h a ha), fun a ha => T.one a (h a ha)⟩
/-- at first -/
theorem wait_first (p : List Int) : waitL p 0 [] 0 = places p [] := by
  unfold waitL places
  rw [if_pos (Nat.le_refl _), List.nil_append]
  have hs := stars_le p 0 (Nat.zero_le _)
  have hr := pre_run p [] 0 (stars p 0 + 1) fun i hi => live_run (live_nil p) i (by omega)
  rw [Nat.zero_add] at hr
  have h0 : gpre p [] 0 = [] := rfl
  rw [h0, List.nil_append] at hr
  rw [← hr]
  have hne := (stars_spec p _ 0 rfl).2
  have hg := pre_gap p [] (stars p 0 + 1) (p.length - stars p 0) (by
    intro j
    induction j with
    | zero => intro h; omega
    | succ j ih =>
      intro h1 h2 hl
      obtain ⟨hc, hl'⟩ := live_nil_back (by omega) hl
      by_cases hj : stars p 0 + 1 ≤ j
      · exact ih hj (by omega) hl'
      · rw [show 0 + stars p 0 = j by omega] at hne
        exact hne hc)
  rw [show stars p 0 + 1 + (p.length - stars p 0) = p.length + 1 by omega] at hg
  exact hg.symm
theorem places_mem (p t : List Int) (k : Nat) : k ∈ places p t ↔ k ≤ p.length ∧ live p k t = true := by
  unfold places gpre
  rw [List.mem_filter, List.mem_range]
  exact and_congr Nat.lt_succ_iff Iff.rfl
theorem places_end (p t : List Int) : p.length ∈ places p t ↔ Fit p t := by
  rw [places_mem, live_end]
  exact ⟨fun h => h.2, fun h => ⟨Nat.le_refl _, h⟩⟩
theorem pre_sorted (p t : List Int) (m : Nat) : (gpre p t m).Pairwise (· < ·) := List.pairwise_lt_range.filter _
theorem gpre_len (p t : List Int) (m : Nat) : (gpre p t m).length ≤ m := by
  have := List.length_filter_le (fun k => live p k t) (List.range m)
  rwa [List.length_range] at this
/-- what is below the place at c stands ahead of it -/
theorem sorted_take {L : List Nat} (h : L.Pairwise (· < ·)) {c : Nat} (hc : c < L.length) {a : Nat} (ha : a ∈ L) (hlt : a < L.getD c 0) : a ∈ L.take c := by
  have e : L = L.take c ++ L.getD c 0 :: L.drop (c + 1) := by
    rw [List.getD_eq_getElem?_getD, List.getElem?_eq_getElem hc, Option.getD_some, ← List.drop_eq_getElem_cons hc, List.take_append_drop]
  rw [e] at ha h
  rcases List.mem_append.1 ha with h1 | h1
  · exact h1
  · have h2 := (List.pairwise_append.1 h).2.1
    rcases List.mem_cons.1 h1 with h3 | h3
    · omega
    · have := List.rel_of_pairwise_cons h2 h3
      omega
/-- the last place of a row that is told -/
def LastIs (L : List Nat) (m : Nat) : Prop := (L = [] ∧ m = 0) ∨ (L ≠ [] ∧ L.getD (L.length - 1) 0 + 1 = m)
theorem pre_last {p t : List Int} {m : Nat} (h : m = 0 ∨ live p (m - 1) t = true) : LastIs (gpre p t m) m := by
  by_cases h0 : m = 0
  · subst h0
    exact .inl ⟨rfl, rfl⟩
  · obtain ⟨j, rfl⟩ : ∃ j, m = j + 1 := ⟨m - 1, by omega⟩
    have hl := h.resolve_left h0
    rw [Nat.add_sub_cancel] at hl
    rw [pre_step, if_pos hl]
    exact .inr ⟨by simp, by simp⟩
/-! ### one letter of the text: place by place of those before -/

/-- behind the first c of the places before -/
def Done (p t : List Int) (x : Int) (c m : Nat) : Prop := Told p t x (fun a => a ∈ (places p t).take c) m
theorem take_next {L : List Nat} {c : Nat} (hc : c < L.length) {a : Nat} (h : a ∈ L.take (c + 1)) : a ∈ L.take c ∨ a = L.getD c 0 := by
  rw [List.take_succ_eq_append_getElem hc, List.mem_append, List.mem_singleton] at h
  rcases h with h | h
  · exact .inl h
  · exact .inr (by rw [h]; simp [hc])
theorem places_at (p t : List Int) {c : Nat} (hc : c < (places p t).length) : (places p t).getD c 0 ≤ p.length ∧ live p ((places p t).getD c 0) t = true := by
  rw [← places_mem, List.getD_eq_getElem?_getD, List.getElem?_eq_getElem hc]
  exact List.getElem_mem hc
theorem Done.start (p t : List Int) (x : Int) : Done p t x 0 0 := (Told.start p t x).mono fun a h => by simp at h
/-- a star: it waits on, and what stands behind it -/
theorem Done.star {p t : List Int} {x : Int} {c m : Nat} (T : Done p t x c m) (hc : c < (places p t).length) (h : p.getD ((places p t).getD c 0) 0 = 42) :
    waitL p m (gpre p (t ++ [x]) m) ((places p t).getD c 0) = gpre p (t ++ [x]) (waitM p m ((places p t).getD c 0)) ∧ Done p t x (c + 1) (waitM p m ((places p t).getD c 0)) := by
  obtain ⟨hle, hl⟩ := places_at p t hc
  have hD : ∀ a, a < (places p t).getD c 0 → live p a t = true → a ∈ (places p t).take c := fun a ha hla => sorted_take (pre_sorted p t _) hc ((places_mem p t a).2 ⟨by omega, hla⟩) ha
  obtain ⟨h1, h2, h3⟩ := Told.wait T hle (live_star x h hl) (fun a ha hla _ => hD a ha hla) (fun a ha hla _ => hD a (by omega) hla)
  have hge := waitM_ge p m ((places p t).getD c 0)
  refine ⟨h1, h2, .inr h3, fun a ha hs => ?_, fun a ha hlt hs hx => ?_⟩
  · rcases take_next hc ha with ha | rfl
    · have := Told.star T a ha hs
      omega
    · exact hge.2
  · rcases take_next hc ha with ha | rfl
    · have := Told.one T a ha hlt hs hx
      omega
    · exact absurd h hs
/-- a letter that fits -/
theorem Done.one {p t : List Int} {x : Int} {c m : Nat} (T : Done p t x c m) (hc : c < (places p t).length) (hlt : (places p t).getD c 0 < p.length) (h : p.getD ((places p t).getD c 0) 0 ≠ 42) (hx : p.getD ((places p t).getD c 0) 0 = 63 ∨ p.getD ((places p t).getD c 0) 0 = x) :
    waitL p m (gpre p (t ++ [x]) m) ((places p t).getD c 0 + 1) = gpre p (t ++ [x]) (waitM p m ((places p t).getD c 0 + 1)) ∧ Done p t x (c + 1) (waitM p m ((places p t).getD c 0 + 1)) := by
  obtain ⟨hle, hl⟩ := places_at p t hc
  have hD : ∀ a, a < (places p t).getD c 0 → live p a t = true → a ∈ (places p t).take c := fun a ha hla => sorted_take (pre_sorted p t _) hc ((places_mem p t a).2 ⟨by omega, hla⟩) ha
  obtain ⟨h1, h2, h3⟩ := Told.wait T hlt (live_one hlt h hx hl) (fun a ha hla hs => hD a (by
    by_cases e : a = (places p t).getD c 0
    · rw [e] at hs; exact absurd hs h
    · omega) hla) (fun a ha hla _ => hD a (by omega) hla)
  have hge := waitM_ge p m ((places p t).getD c 0 + 1)
  refine ⟨h1, h2, .inr h3, fun a ha hs => ?_, fun a ha hlt hs hx => ?_⟩
  · rcases take_next hc ha with ha | rfl
    · have := Told.star T a ha hs
      omega
    · exact absurd hs h
  · rcases take_next hc ha with ha | rfl
    · have := Told.one T a ha hlt hs hx
      omega
    · exact hge.2
/-- a letter that does not -/
theorem Done.none {p t : List Int} {x : Int} {c m : Nat} (T : Done p t x c m) (hc : c < (places p t).length) (h : p.getD ((places p t).getD c 0) 0 ≠ 42) (hx : ¬ (p.getD ((places p t).getD c 0) 0 = 63 ∨ p.getD ((places p t).getD c 0) 0 = x)) : Done p t x (c + 1) m := by
  refine ⟨Told.le T, Told.top T, fun a ha hs => ?_, fun a ha hlt hs hx' => ?_⟩
  · rcases take_next hc ha with ha | rfl
    · exact Told.star T a ha hs
    · exact absurd hs h
  · rcases take_next hc ha with ha | rfl
    · exact Told.one T a ha hlt hs hx'
    · exact absurd hx' hx
theorem Done.last {p t : List Int} {x : Int} {c m : Nat} (T : Done p t x c m) : LastIs (gpre p (t ++ [x]) m) m := pre_last ((Told.top T).imp_right fun h => h.1)
/-- all are gone over, or the end was met -/
theorem Done.all {p t : List Int} {x : Int} {c m : Nat} (T : Done p t x c m) (h : c = (places p t).length ∨ (c < (places p t).length ∧ (places p t).getD c 0 = p.length)) : gpre p (t ++ [x]) m = places p (t ++ [x]) := by
  refine Told.all T fun a hle hl hlt => ?_
  have ha := (places_mem p t a).2 ⟨hle, hl⟩
  rcases h with rfl | ⟨hc, he⟩
  · rw [List.take_of_length_le (Nat.le_refl _)]
    exact ha
  · exact sorted_take (L := places p t) (pre_sorted p t _) hc ha (by omega)
end Go.Proofs.YtdgpbhdihhchgaaGreatDoor

namespace Go.Proofs.YtdgpbhdihhchgaaGreatDoor
set_option linter.all false
open Go.RowKit
/-- block b is a variable of type T that holds v -/
def Box (w : World) (b : Nat) (T : TypeId) (v : Value) : Prop := w.heap[b]? = some (.cells #[v] T (0, 0))
/-- nothing but block b and v's own row may have turned, of what was there -/
structure Turned (w w' : World) (b : Nat) (v : Value) : Prop where
  os : w'.os = w.os
  tape : w'.tape = w.tape
  output : w'.output = w.output
  size : w.heap.size ≤ w'.heap.size
  rest : ∀ i, i < w.heap.size → i ≠ b → v.ownBlock ≠ some i → w'.heap[i]? = w.heap[i]?
section
variable {w w' w2 : World} {b b' base base' : Nat} {T T' e : TypeId} {v v' u : Value} {k : IntKind} {xs : List Int}
theorem Box.lt (h : Box w b T v) : b < w.heap.size := lt_of_block h
theorem Box.cell (h : Box w b T v) : w.cell? ⟨b, 0, none⟩ = some v := cell_of_one h
theorem Box.frozen (h : Box w b T v) : w.frozen? ⟨b, 0, none⟩ = false := free_of_one h
theorem Box.below (h : Box w b T v) (hb : Below w.heap.size w w') : Box w' b T v := (hb.block b h.lt).trans h
theorem Box.alloc (h : Box w b T v) (o : Obj) : Box (w.alloc o) b T v := (Below.heap_alloc _ _ _ h.lt).trans h
theorem Box.grew (h : Box w b T v) (hg : Grew w w' u) (hu : OwnK k e w base u xs) (hT : T ≠ e) : Box w' b T v :=
  hg.block h fun hv => by
    obtain ⟨_, cs, hcs⟩ := hu.block hv
    unfold Box at h
    rw [hcs] at h
    simp only [Option.some.injEq, Obj.cells.injEq] at h
    exact hT h.2.1.symm
theorem Box.only (h : Box w b T v) (hO : Only b' w w') (hb : b ≠ b') : Box w' b T v := (hO.rest b hb).trans h
theorem Box.ne (h : Box w b T v) (h' : Box w b' T' v') (hT : T ≠ T') : b ≠ b' := by
  rintro rfl
  unfold Box at h h'
  rw [h] at h'
  simp only [Option.some.injEq, Obj.cells.injEq] at h'
  exact hT h'.2.1
theorem Box.own (h : Box w b T v) (hu : OwnK k e w base u xs) (hT : T ≠ e) : u.ownBlock ≠ some b := fun hv => by
  obtain ⟨_, cs, hcs⟩ := hu.block hv
  unfold Box at h
  rw [hcs] at h
  simp only [Option.some.injEq, Obj.cells.injEq] at h
  exact hT h.2.1.symm
theorem Box.turned (h : Box w b T v) (ht : Turned w w' b' u) (hb : b ≠ b') (hu : u.ownBlock ≠ some b) : Box w' b T v := (ht.rest b h.lt hb hu).trans h
theorem OwnK.only (h : OwnK k e w base v xs) (hO : Only b w w') (hB : Box w b T u) (hT : T ≠ e) : OwnK k e w' base v xs :=
  h.keep fun i _ hi _ => hO.rest i fun he => hB.own h hT (he ▸ hi)
theorem OwnK.turned (h : OwnK k e w base v xs) (ht : Turned w w' b u) (hb : v.ownBlock ≠ some b) (ha : Apart u v) : OwnK k e w' base v xs :=
  h.keep fun i _ hi hcs => ht.rest i (Array.getElem?_eq_some_iff.1 hcs).1 (fun he => hb (he ▸ hi)) fun hu => ha i hu hi
theorem Turned.refl (w : World) (b : Nat) (v : Value) : Turned w w b v := ⟨rfl, rfl, rfl, Nat.le_refl _, fun _ _ _ _ => rfl⟩
theorem Whither.refl (w : World) (v : Value) : Whither w v v := .inl rfl
theorem Whither.trans (h : Whither w v v') (h2 : Whither w' v' u) (hs : w.heap.size ≤ w'.heap.size) : Whither w v u := by
  rcases h2 with h2 | ⟨g, h2, h3⟩
  · rcases h with h | ⟨g, h, h4⟩
    · exact .inl (h2.trans h)
    · exact .inr ⟨g, h2.trans h, h4⟩
  · exact .inr ⟨g, h2, by omega⟩
/-- an append onto the row that the variable heads, and a store of what it answers -/
theorem Turned.append (ht : Turned w w' b v) (hw : Whither w v v') (hg : Grew w' w2 v') {w3 : World} (hO : Only b w2 w3) : Turned w w3 b v := by
  obtain ⟨o, hg⟩ := hg
  have hs := hg.size
  have ha : (w'.alloc o).heap.size = w'.heap.size + 1 := by simp
  refine ⟨hO.os.trans (hg.os.trans ht.os), hO.tape.trans (hg.tape.trans ht.tape), hO.output.trans (hg.output.trans ht.output), by rw [hO.size]; have := ht.size; omega, fun i hi hb hv => ?_⟩
  have hsz := ht.size
  rw [hO.rest i hb, hg.block i (by omega) ?_, Below.heap_alloc _ _ _ (by omega), ht.rest i hi hb hv]
  rintro he
  rcases hw with h | ⟨g, h, h4⟩
  · exact hv (h ▸ he.symm)
  · rw [h] at he
    injection he with he
    omega
theorem Turned.trans (ht : Turned w w' b v) (hw : Whither w v v') (ht2 : Turned w' w2 b v') : Turned w w2 b v := by
  have hsz := ht.size
  refine ⟨ht2.os.trans ht.os, ht2.tape.trans ht.tape, ht2.output.trans ht.output, by have := ht2.size; omega, fun i hi hb hv => ?_⟩
  rw [ht2.rest i (by omega) hb ?_, ht.rest i hi hb hv]
  intro he
  rcases hw with h | ⟨g, h, h4⟩
  · exact hv (h ▸ he)
  · rw [h] at he
    injection he with he
    omega
theorem Turned.below (ht : Turned w w' b v) (hbb : base ≤ b) (ho : OwnK k e w base v xs) (hs : base ≤ w.heap.size) : Below base w w' :=
  ⟨ht.os, ht.tape, ht.output, ht.size, fun i hi => ht.rest i (by omega) (by omega) fun hv => by
    have := (ho.block hv).1
    omega⟩
theorem run_storeVar_one {P : Program} (w : World) (g : Nat) (t ty : TypeId) (v u : Value) (hg : w.heap[g]? = some (.cells #[v] t (0, 0))) (hi : (P.info? ty).map (·.size) = some 1) (h1 : u.oneCell' = true) :
    (storeVar ty ⟨g, 0, none⟩ u).run P w = .ok () (w.setRow g #[u]) := by
  have hc : u.cells = #[u] := by cases u <;> first | rfl | (simp [Value.oneCell'] at h1)
  have := run_storeCells_from (P := P) g t [u] 0 #[v] w hg (by simp) (fun x hx => by obtain rfl := List.mem_singleton.1 hx; exact h1)
  cases hq : P.info? ty with
  | none => simp [hq] at hi
  | some i =>
    have hs : i.size = 1 := by simpa [hq] using hi
    simp [storeVar, sizeOf, typeInfo, hq, hc, hs]
    simpa using this
/-- a store into such a variable -/
theorem wpList_store_box {P : Program} {ops : Array Oper} {rest : List Oper} {o : Oper} {a : Act} {Q : Exit → Act → World → Prop} (hgd : o.guard = none) (T : TypeId) (x y : Operand) (ho : o.op = .store T x y) (b : Nat) (hx : a.eval x = .pointer (some ⟨b, 0, none⟩))
    (u : Value) (hy : a.eval y = u) (T' : TypeId) (v : Value) (hB : Box w b T' v) (hi : (P.info? T).map (·.size) = some 1) (h1 : u.oneCell' = true)
    (h : ∀ w', Hid (Box w' b T' u) → Hid (Only b w w') → wpList P ops Q rest a w') (hd : o.dst = none := by rfl) : wpList P ops Q (o :: rest) a w := by
  have hp : a.put o.dst undef = a := by rw [hd]; rfl
  refine wpList_plain hgd fun K hK => ?_
  unfold Oper.wp execOp
  simp only [ho, hx, hy, Instr.storeAt, Instr.sureAddr, Sem.run_bind, Sem.run_pure, Result.andThen_ok, run_storeVar_one w b T' T v u hB hi h1]
  show K (a.put o.dst undef) _
  rw [hp]
  refine hK _ _ (h _ ?_ ((Only.refl b w).setRow _))
  exact setRow_heap w b _ _ T' (0, 0) hB
/-- a store into such a variable that lies above B -/
theorem Only.iter (hO : Only b w w') (hB : Box w b T v) {K : Nat} {s : ByteArray} {p : Nat} (hK : w.heap[K]? = some (.stringIter s p)) : w'.heap[K]? = some (.stringIter s p) := by
  rw [hO.rest K ?_, hK]
  rintro rfl
  unfold Box at hB
  rw [hB] at hK
  cases hK
theorem Box.iterAt (h : Box w b T v) {K : Nat} {s : ByteArray} {p : Nat} (hK : w.heap[K]? = some (.stringIter s p)) (p' : Nat) : Box (w.iterAt K s p') b T v :=
  (Lib.iterAt_other w K b s p' (fun e => by subst e; unfold Box at h; rw [h] at hK; cases hK)).trans h
end
end Go.Proofs.YtdgpbhdihhchgaaGreatDoor

namespace Go.Proofs.YtdgpbhdihhchgaaGreatDoor
set_option linter.all false
open Go.RowKit
def ints (L : List Nat) : List Int := L.map (fun n : Nat => (n : Int))
theorem ints_len (L : List Nat) : (ints L).length = L.length := by simp [ints]
theorem ints_getD (L : List Nat) (i : Nat) : (ints L).getD i 0 = ((L.getD i 0 : Nat) : Int) := by
  unfold ints
  simp only [List.getD_eq_getElem?_getD, List.getElem?_map]
  cases L[i]? <;> rfl
theorem ints_append (L M : List Nat) : ints (L ++ M) = ints L ++ ints M := by simp [ints]
/-- how long the slice in a variable is -/
def boxLen (w : World) (b : Nat) : Nat := match w.cell? ⟨b, 0, none⟩ with | some (.slice _ n _) => n | _ => 0
theorem boxLen_of {w : World} {b : Nat} {T : TypeId} {A : Option Addr} {n c : Nat} (h : Box w b T (.slice A n c)) : boxLen w b = n := by
  unfold boxLen
  rw [h.cell]
theorem OwnK.oneCell {k : IntKind} {e : TypeId} {w : World} {base : Nat} {v : Value} {xs : List Int} (h : OwnK k e w base v xs) : v.oneCell' = true := by
  obtain ⟨A, n, c, rfl, _⟩ := h.open
  rfl
theorem OwnK.at {k : IntKind} {e : TypeId} {w : World} {base : Nat} {g n c : Nat} {xs : List Int} (h : OwnK k e w base (.slice (some ⟨g, 0, none⟩) n c) xs) {i : Nat} (hi : i < n) : w.cell? ⟨g, i, none⟩ = some (.int k (xs.getD i 0)) := by
  obtain ⟨A', n', c', he, _, _, _, _, hc⟩ := h.open
  cases he
  obtain ⟨g', e1, _, _, hcc⟩ := hc (by omega)
  cases e1
  exact hcc i hi
theorem OwnK.length {k : IntKind} {e : TypeId} {w : World} {base : Nat} {A : Option Addr} {n c : Nat} {xs : List Int} (h : OwnK k e w base (.slice A n c) xs) : xs.length = n := by
  obtain ⟨A', n', c', he, hl, _⟩ := h.open
  cases he
  exact hl
theorem boxLen_own {w w' : World} {b : Nat} {T : TypeId} {v : Value} {k : IntKind} {e : TypeId} {base : Nat} {xs : List Int} (h : Box w b T v) (ho : OwnK k e w' base v xs) : boxLen w b = xs.length := by
  obtain ⟨A, n, c, rfl, hl, _⟩ := ho.open
  rw [boxLen_of h, hl]
def WaitPost (w : World) (base b1 : Nat) (v : Value) (M : List Nat) (e : Ending) (w' : World) : Prop :=
  e = .returned (.tuple #[]) ∧ ∃ v', Box w' b1 44 v' ∧ OwnK .i64 3 w' base v' (ints M) ∧ Turned w w' b1 v ∧ Whither w v v'
theorem last_run {L : List Nat} {m k d : Nat} (h : LastIs L m) (_hm : m ≤ k) : LastIs (L ++ List.range' k d) (if d = 0 then m else k + d) := by
  cases d with
  | zero => simpa using h
  | succ d =>
    refine .inr ⟨by simp [List.range'_succ], ?_⟩
    rw [if_neg (by omega), List.range'_concat]
    simp
    omega
set_option maxRecDepth 100000 in
set_option maxHeartbeats 4000000 in
theorem wait_any (w : World) (base base2 b1 b2 : Nat) (v q : Value) (L : List Nat) (p : List Int) (k m : Nat) (hk : k ≤ p.length) (hp : p.length ≤ 1000000) (hL : L.length ≤ 1000000) (hlast : LastIs L m) (hB1 : Box w b1 44 v) (hB2 : Box w b2 179 q)
    (ho : OwnK .i64 3 w base v (ints L)) (hq : OwnK .i32 21 w base2 q p) (hb : base ≤ w.heap.size) :
    Calls Tryz.prog 210 #[.int .i64 k, .pointer (some ⟨b1, 0, none⟩), .pointer (some ⟨b2, 0, none⟩)] w (WaitPost w base b1 v (waitL p m L k)) := by
  by_cases hm : m ≤ k
  · have hs := stars_le p k hk
    obtain ⟨st1, st2⟩ := stars_spec p _ k rfl
    have hne12 : b1 ≠ b2 := hB1.ne hB2 (by decide)
    have hap : Apart v q := fun i hv hqi => by
      obtain ⟨_, cs, h1⟩ := ho.block hv
      obtain ⟨_, cs', h2⟩ := hq.block hqi
      rw [h1] at h2
      simp at h2
    have hvb2 := hB2.own ho (by decide)
    have hqb1 := hB1.own hq (by decide)
    obtain ⟨S, hS⟩ : ∃ S, S = stars p k := ⟨_, rfl⟩
    have hW : waitL p m L k = L ++ List.range' k (S + 1) := by unfold waitL; rw [if_pos hm, hS]
    rw [hW]
    rw [← hS] at hs st1 st2
    obtain ⟨l0, hl0⟩ : ∃ l, l = L.length := ⟨_, rfl⟩
    have HLAST := Lib.hid hlast
    have HL0 := Lib.hid hl0
    have HQ := Lib.hid hq
    have HB2 := Lib.hid hB2
    have HB1 := Lib.hid hB1
    have HO := Lib.hid ho
    have HAP := Lib.hid hap
    have ST1 := Lib.hid st1
    have ST2 := Lib.hid st2
    clear hW hS hlast hl0 hq hB2 hB1 ho hap st1 st2
    go_enter Tryz.func210, Tryz.ntmps210
    go_wp2
    go_loopw [0] (fun i wr => ∃ (d z : Nat) (v' : Value), ((d ≤ S ∧ z = k + d) ∨ (d = S + 1 ∧ z = k + S)) ∧ i = .int .i64 z ∧ Hid (Box wr b1 44 v') ∧ Hid (OwnK .i64 3 wr base v' (ints (L ++ List.range' k d))) ∧ Hid (Turned w wr b1 v) ∧ Hid (Whither w v v')) (fun _ wr => l0 + S + 1 - boxLen wr b1)
    case atStart => exact ⟨0, k, v, .inl ⟨Nat.zero_le _, rfl⟩, rfl, HB1, by simpa using HO, Turned.refl _ _ _, Whither.refl _ _⟩
    case round =>
      obtain ⟨d, z, v', hd, rfl, BX, OX, TX, WX⟩ := hrel
      obtain ⟨A, n, c, rfl, hn, hnc, _, _, hcell⟩ := OX.out.open
      rw [ints_len] at hn
      have hnl : n = l0 + d := by have := HL0.out; rw [List.length_append, List.length_range'] at hn; omega
      have hlr := last_run (d := d) HLAST.out hm
      have hbx := BX.out.cell
      have hbase : base ≤ wr.heap.size := by have := TX.out.size; omega
      have hboxlen := boxLen_of BX.out
      obtain ⟨M, hM⟩ : ∃ M, M = L ++ List.range' k d := ⟨_, rfl⟩
      have hMz : L ++ List.range' k (d + 1) = M ++ [k + d] := by rw [hM, List.range'_concat]; simp
      rw [← hM] at OX hn hlr hcell
      have HMZ := Lib.hid hMz
      have HN := Lib.hid hn
      have HBL := Lib.hid hboxlen
      have hMM := hM
      clear hM hMz hboxlen
      rcases hd with ⟨hdS, hz⟩ | ⟨hdS, hz⟩
      · obtain ⟨Aq, nq, cq, rfl, hnq, _, _, _, hcq⟩ := HQ.out.open
        have HNQ := Lib.hid hnq
        have hlow : (M = [] ∧ n = 0) ∨ ∃ N1 y, n = N1 + 1 ∧ y < z ∧ M.getD N1 0 = y := by
          rcases hlr with ⟨h1, _⟩ | ⟨h1, h2⟩
          · exact .inl ⟨h1, by rw [h1] at hn; exact hn.symm⟩
          · have hpos : 0 < M.length := List.length_pos_iff.2 h1
            refine .inr ⟨n - 1, M.getD (n - 1) 0, by omega, ?_, rfl⟩
            rw [hn] at h2
            split at h2 <;> omega
        have hzq : z ≤ nq := by omega
        have hmz : Hid (ints (L ++ List.range' k (d + 1)) = ints M ++ [(z : Int)]) := by
          show _ = _
          rw [HMZ.out, ints_append, hz]
          rfl
        rw [← hz] at hlr
        have hnz : n < 2000002 := by have := HL0.out; omega
        rcases hlow with ⟨_, rfl⟩ | ⟨N1, y, rfl, hyz, hy⟩
        · have hz0 := hz
          have HZ := Lib.hid hz
          have HNL := Lib.hid hnl
          by_cases hd1 : d < S
          · have hstar : p.getD z 0 = 42 := by rw [hz]; exact ST1.out d hd1
            have hzl : z < nq := by have := getD_lt (by omega) hstar; omega
            obtain ⟨gq, rfl, _, _, _⟩ := hcq (by omega)
            have HST := Lib.hid hstar
            clear hcell hlr hn hnq hz0 hcq hz hnl hstar
            go_wp2_with (first
              | (at_builtin; go_loud (refine wpList_append_litW rfl (.tmp 17) (.tmp 19) .i64 44 3 8 Tryz.underlying44 info_i64 rfl base _ (ints M) [(z : Int)] _ rfl 1 1 rfl rfl rfl OX.out (by rw [ints_len]; have := HN.out; omega) (by rw [ints_len]; have := HN.out; omega) hbase ?_; intro v1 w1 ho1 hg1 hw1))
              | ((with_reducible show wpList _ _ _ (⟨none, _, _, _, _, _⟩ :: _) _ _); go_loud (refine wpList_store_box rfl _ (.tmp 1) (.tmp 20) rfl b1 rfl v1 rfl 44 _ (BX.out.grew hg1.out OX.out (by decide)) (by kernel_rfl) ho1.out.oneCell ?_; intro w2 hB3 hO2); have T2 := Lib.hid (TX.out.append WX.out hg1.out hO2.out); have gb2 := (HB2.out.turned T2.out hne12.symm hvb2).cell; have gq2 := (HQ.out.turned T2.out hqb1 HAP.out).at hzl; rw [HST.out] at gq2)
              | fail)
            go_roundw
            case rel =>
              refine ⟨d + 1, z + 1, v1, .inl ⟨hd1, by have := HZ.out; omega⟩, by go_num, hB3, ?_, T2, WX.out.trans hw1.out TX.out.size⟩
              have h := ho1.out.only hO2.out (BX.out.grew hg1.out OX.out (by decide)) (by decide)
              rw [← hmz.out] at h
              exact h
            case measure =>
              have e1 := boxLen_own hB3.out ho1.out
              have e2 := HBL.out
              have e3 := HN.out
              have e4 := HNL.out
              rw [List.length_append, ints_len, e3] at e1
              simp only [List.length_cons, List.length_nil] at e1
              rw [e1, e2]
              omega
          have hns : p.getD z 0 ≠ 42 := by rw [hz, show d = S by omega]; exact ST2.out
          by_cases hzl : z < nq
          · obtain ⟨gq, rfl, _, _, _⟩ := hcq (by omega)
            obtain ⟨pc, hpc⟩ : ∃ pc, p.getD z 0 = pc := ⟨_, rfl⟩
            rw [hpc] at hns
            have HPC := Lib.hid hpc
            have htn : (pc == 42) = false := by simpa using hns
            clear hcell hlr hn hnq hz0 hcq hz hnl hpc
            go_wp2_with (first
              | (at_builtin; go_loud (refine wpList_append_litW rfl (.tmp 17) (.tmp 19) .i64 44 3 8 Tryz.underlying44 info_i64 rfl base _ (ints M) [(z : Int)] _ rfl 1 1 rfl rfl rfl OX.out (by rw [ints_len]; have := HN.out; omega) (by rw [ints_len]; have := HN.out; omega) hbase ?_; intro v1 w1 ho1 hg1 hw1))
              | ((with_reducible show wpList _ _ _ (⟨none, _, _, _, _, _⟩ :: _) _ _); go_loud (refine wpList_store_box rfl _ (.tmp 1) (.tmp 20) rfl b1 rfl v1 rfl 44 _ (BX.out.grew hg1.out OX.out (by decide)) (by kernel_rfl) ho1.out.oneCell ?_; intro w2 hB3 hO2); have T2 := Lib.hid (TX.out.append WX.out hg1.out hO2.out); have gb2 := (HB2.out.turned T2.out hne12.symm hvb2).cell; have gq2 := (HQ.out.turned T2.out hqb1 HAP.out).at hzl; rw [HPC.out] at gq2)
              | fail)
            go_roundw
            case rel =>
              refine ⟨d + 1, z, v1, .inr ⟨by omega, by have := HZ.out; omega⟩, rfl, hB3, ?_, T2, WX.out.trans hw1.out TX.out.size⟩
              have h := ho1.out.only hO2.out (BX.out.grew hg1.out OX.out (by decide)) (by decide)
              rw [← hmz.out] at h
              exact h
            case measure =>
              have e1 := boxLen_own hB3.out ho1.out
              have e2 := HBL.out
              have e3 := HN.out
              have e4 := HNL.out
              rw [List.length_append, ints_len, e3] at e1
              simp only [List.length_cons, List.length_nil] at e1
              rw [e1, e2]
              omega
          · clear hcell hlr hn hnq hz0 hcq hz hnl hns
            have hze : ¬ z < nq := hzl
            go_wp2_with (first
              | (at_builtin; go_loud (refine wpList_append_litW rfl (.tmp 17) (.tmp 19) .i64 44 3 8 Tryz.underlying44 info_i64 rfl base _ (ints M) [(z : Int)] _ rfl 1 1 rfl rfl rfl OX.out (by rw [ints_len]; have := HN.out; omega) (by rw [ints_len]; have := HN.out; omega) hbase ?_; intro v1 w1 ho1 hg1 hw1))
              | ((with_reducible show wpList _ _ _ (⟨none, _, _, _, _, _⟩ :: _) _ _); go_loud (refine wpList_store_box rfl _ (.tmp 1) (.tmp 20) rfl b1 rfl v1 rfl 44 _ (BX.out.grew hg1.out OX.out (by decide)) (by kernel_rfl) ho1.out.oneCell ?_; intro w2 hB3 hO2); have T2 := Lib.hid (TX.out.append WX.out hg1.out hO2.out); have gb2 := (HB2.out.turned T2.out hne12.symm hvb2).cell)
              | fail)
            go_roundw
            case rel =>
              refine ⟨d + 1, z, v1, .inr ⟨by omega, by have := HZ.out; omega⟩, rfl, hB3, ?_, T2, WX.out.trans hw1.out TX.out.size⟩
              have h := ho1.out.only hO2.out (BX.out.grew hg1.out OX.out (by decide)) (by decide)
              rw [← hmz.out] at h
              exact h
            case measure =>
              have e1 := boxLen_own hB3.out ho1.out
              have e2 := HBL.out
              have e3 := HN.out
              have e4 := HNL.out
              rw [List.length_append, ints_len, e3] at e1
              simp only [List.length_cons, List.length_nil] at e1
              rw [e1, e2]
              omega
        · obtain ⟨g, rfl, _, _, hcc⟩ := hcell (by omega)
          have gl := hcc N1 (by omega)
          rw [ints_getD, hy] at gl
          have htest : ((N1 : Int) + 1 == 0 || decide (y < z)) = true := by
            have h2 : decide (y < z) = true := decide_eq_true hyz
            rw [h2, Bool.or_true]
          have HZ := Lib.hid hz
          have HNL := Lib.hid hnl
          by_cases hd1 : d < S
          · have hstar : p.getD z 0 = 42 := by rw [hz]; exact ST1.out d hd1
            have hzl : z < nq := by have := getD_lt (by omega) hstar; omega
            obtain ⟨gq, rfl, _, _, _⟩ := hcq (by omega)
            have HST := Lib.hid hstar
            clear hcell hcc hlr hy hn hnq hcq hz hnl hstar
            go_wp2_with (first
              | (at_builtin; go_loud (refine wpList_append_litW rfl (.tmp 17) (.tmp 19) .i64 44 3 8 Tryz.underlying44 info_i64 rfl base _ (ints M) [(z : Int)] _ rfl 1 1 rfl rfl rfl OX.out (by rw [ints_len]; have := HN.out; omega) (by rw [ints_len]; have := HN.out; omega) hbase ?_; intro v1 w1 ho1 hg1 hw1))
              | ((with_reducible show wpList _ _ _ (⟨none, _, _, _, _, _⟩ :: _) _ _); go_loud (refine wpList_store_box rfl _ (.tmp 1) (.tmp 20) rfl b1 rfl v1 rfl 44 _ (BX.out.grew hg1.out OX.out (by decide)) (by kernel_rfl) ho1.out.oneCell ?_; intro w2 hB3 hO2); have T2 := Lib.hid (TX.out.append WX.out hg1.out hO2.out); have gb2 := (HB2.out.turned T2.out hne12.symm hvb2).cell; have gq2 := (HQ.out.turned T2.out hqb1 HAP.out).at hzl; rw [HST.out] at gq2)
              | fail)
            go_roundw
            case rel =>
              refine ⟨d + 1, z + 1, v1, .inl ⟨hd1, by have := HZ.out; omega⟩, by go_num, hB3, ?_, T2, WX.out.trans hw1.out TX.out.size⟩
              have h := ho1.out.only hO2.out (BX.out.grew hg1.out OX.out (by decide)) (by decide)
              rw [← hmz.out] at h
              exact h
            case measure =>
              have e1 := boxLen_own hB3.out ho1.out
              have e2 := HBL.out
              have e3 := HN.out
              have e4 := HNL.out
              rw [List.length_append, ints_len, e3] at e1
              simp only [List.length_cons, List.length_nil] at e1
              rw [e1, e2]
              omega
          have hns : p.getD z 0 ≠ 42 := by rw [hz, show d = S by omega]; exact ST2.out
          by_cases hzl : z < nq
          · obtain ⟨gq, rfl, _, _, _⟩ := hcq (by omega)
            obtain ⟨pc, hpc⟩ : ∃ pc, p.getD z 0 = pc := ⟨_, rfl⟩
            rw [hpc] at hns
            have HPC := Lib.hid hpc
            have htn : (pc == 42) = false := by simpa using hns
            clear hcell hcc hlr hy hn hnq hcq hz hnl hpc
            go_wp2_with (first
              | (at_builtin; go_loud (refine wpList_append_litW rfl (.tmp 17) (.tmp 19) .i64 44 3 8 Tryz.underlying44 info_i64 rfl base _ (ints M) [(z : Int)] _ rfl 1 1 rfl rfl rfl OX.out (by rw [ints_len]; have := HN.out; omega) (by rw [ints_len]; have := HN.out; omega) hbase ?_; intro v1 w1 ho1 hg1 hw1))
              | ((with_reducible show wpList _ _ _ (⟨none, _, _, _, _, _⟩ :: _) _ _); go_loud (refine wpList_store_box rfl _ (.tmp 1) (.tmp 20) rfl b1 rfl v1 rfl 44 _ (BX.out.grew hg1.out OX.out (by decide)) (by kernel_rfl) ho1.out.oneCell ?_; intro w2 hB3 hO2); have T2 := Lib.hid (TX.out.append WX.out hg1.out hO2.out); have gb2 := (HB2.out.turned T2.out hne12.symm hvb2).cell; have gq2 := (HQ.out.turned T2.out hqb1 HAP.out).at hzl; rw [HPC.out] at gq2)
              | fail)
            go_roundw
            case rel =>
              refine ⟨d + 1, z, v1, .inr ⟨by omega, by have := HZ.out; omega⟩, rfl, hB3, ?_, T2, WX.out.trans hw1.out TX.out.size⟩
              have h := ho1.out.only hO2.out (BX.out.grew hg1.out OX.out (by decide)) (by decide)
              rw [← hmz.out] at h
              exact h
            case measure =>
              have e1 := boxLen_own hB3.out ho1.out
              have e2 := HBL.out
              have e3 := HN.out
              have e4 := HNL.out
              rw [List.length_append, ints_len, e3] at e1
              simp only [List.length_cons, List.length_nil] at e1
              rw [e1, e2]
              omega
          · clear hcell hcc hlr hy hn hnq hcq hz hnl hns
            have hze : ¬ z < nq := hzl
            go_wp2_with (first
              | (at_builtin; go_loud (refine wpList_append_litW rfl (.tmp 17) (.tmp 19) .i64 44 3 8 Tryz.underlying44 info_i64 rfl base _ (ints M) [(z : Int)] _ rfl 1 1 rfl rfl rfl OX.out (by rw [ints_len]; have := HN.out; omega) (by rw [ints_len]; have := HN.out; omega) hbase ?_; intro v1 w1 ho1 hg1 hw1))
              | ((with_reducible show wpList _ _ _ (⟨none, _, _, _, _, _⟩ :: _) _ _); go_loud (refine wpList_store_box rfl _ (.tmp 1) (.tmp 20) rfl b1 rfl v1 rfl 44 _ (BX.out.grew hg1.out OX.out (by decide)) (by kernel_rfl) ho1.out.oneCell ?_; intro w2 hB3 hO2); have T2 := Lib.hid (TX.out.append WX.out hg1.out hO2.out); have gb2 := (HB2.out.turned T2.out hne12.symm hvb2).cell)
              | fail)
            go_roundw
            case rel =>
              refine ⟨d + 1, z, v1, .inr ⟨by omega, by have := HZ.out; omega⟩, rfl, hB3, ?_, T2, WX.out.trans hw1.out TX.out.size⟩
              have h := ho1.out.only hO2.out (BX.out.grew hg1.out OX.out (by decide)) (by decide)
              rw [← hmz.out] at h
              exact h
            case measure =>
              have e1 := boxLen_own hB3.out ho1.out
              have e2 := HBL.out
              have e3 := HN.out
              have e4 := HNL.out
              rw [List.length_append, ints_len, e3] at e1
              simp only [List.length_cons, List.length_nil] at e1
              rw [e1, e2]
              omega
      · obtain ⟨N1, y, rfl, hyz, hy⟩ : ∃ N1 y, n = N1 + 1 ∧ y = z ∧ M.getD N1 0 = y := by
          rcases hlr with ⟨h1, h2⟩ | ⟨h1, h2⟩
          · rw [if_neg (by omega)] at h2
            omega
          · have hpos : 0 < M.length := List.length_pos_iff.2 h1
            refine ⟨n - 1, M.getD (n - 1) 0, by omega, ?_, rfl⟩
            rw [hn, if_neg (by omega)] at h2
            omega
        obtain ⟨g, rfl, _, _, hcc⟩ := hcell (by omega)
        have gl := hcc N1 (by omega)
        rw [ints_getD, hy] at gl
        have htest : ((N1 : Int) + 1 == 0 || decide (y < z)) = false := by
          have h1 : ((N1 : Int) + 1 == 0) = false := by simp; omega
          have h2 : decide (y < z) = false := decide_eq_false (by omega)
          rw [h1, h2]
          rfl
        have HMM : Hid (M = L ++ List.range' k (S + 1)) := by
          show _ = _
          rw [hMM, hdS]
        clear hcell hcc hlr hy hn hdS hz hnl hyz hMM
        go_wp2
        go_end0
        refine ⟨rfl, _, BX.out, ?_, TX.out, WX.out⟩
        rw [← HMM.out]
        exact OX.out
  · have hW : waitL p m L k = L := by unfold waitL; rw [if_neg hm]
    rw [hW]
    obtain ⟨A, n, c, rfl, hn, _, _, _, hc⟩ := ho.open
    rw [ints_len] at hn
    obtain ⟨N1, y, rfl, hy, hky⟩ : ∃ N1 y, n = N1 + 1 ∧ L.getD N1 0 = y ∧ k ≤ y := by
      rcases hlast with ⟨h1, h2⟩ | ⟨h1, h2⟩
      · omega
      · have hpos : 0 < L.length := List.length_pos_iff.2 h1
        exact ⟨n - 1, L.getD (n - 1) 0, by omega, rfl, by rw [hn] at h2; omega⟩
    obtain ⟨g, rfl, _, _, hcc⟩ := hc (by omega)
    have gl := hcc N1 (by omega)
    rw [ints_getD, hy] at gl
    have gb := hB1.cell
    have htest : ((N1 : Int) + 1 == 0 || decide (y < k)) = false := by
      have h1 : ((N1 : Int) + 1 == 0) = false := by simp; omega
      have h2 : decide (y < k) = false := decide_eq_false (by omega)
      rw [h1, h2]
      rfl
    have HO := Lib.hid ho
    have HBl := Lib.hid hB1
    clear hcc hc ho hB1 hlast hy hq hB2 hW
    go_enter Tryz.func210, Tryz.ntmps210
    go_wp2
    refine wp_loop_rounds 1 ?_
    rw [rounds_succ]
    go_wp2
    go_end0
    exact ⟨rfl, _, HBl.out, HO.out, Turned.refl _ _ _, Whither.refl _ _⟩
end Go.Proofs.YtdgpbhdihhchgaaGreatDoor

namespace Go.Proofs.YtdgpbhdihhchgaaGreatDoor
set_option linter.all false
open Go.RowKit
theorem Contains_any (w : World) (base : Nat) (v : Value) (xs : List Int) (x : Int) (h : OwnK .i64 3 w base v xs) :
    Calls Tryz.prog 211 #[v, .int .i64 x] w fun e w' => e = .returned (.bool (xs.contains x)) ∧ w' = w := by
  obtain ⟨A, n, c, rfl, hl, _, h63, _, hc⟩ := h.open
  by_cases h0 : 0 < n
  · obtain ⟨g, rfl, _, _, hcc⟩ := hc h0
    have := Tryz.slices_Contains_int g 0 n c xs x w (by omega) h63 (fun j hj => by rw [Nat.zero_add]; exact hcc j (by omega))
    rwa [List.take_of_length_le (by omega)] at this
  · obtain rfl : n = 0 := by omega
    obtain rfl : xs = [] := List.eq_nil_of_length_eq_zero hl
    exact Tryz.slices_Contains_int_empty A c x w
theorem contains_end (p t : List Int) : (ints (places p t)).contains (p.length : Int) = fitAt p p.length t := by
  rw [Bool.eq_iff_iff, fitAt_all p t _ (Nat.le_refl _), ← places_end, List.contains_iff_mem]
  unfold ints
  rw [List.mem_map]
  constructor
  · rintro ⟨a, ha, he⟩
    rwa [show a = p.length by omega] at ha
  · intro h
    exact ⟨_, h, rfl⟩
/-- the same slice, without its elements -/
theorem OwnK.cut0 {k : IntKind} {e : TypeId} {w : World} {base : Nat} {A : Option Addr} {n c : Nat} {xs : List Int} (h : OwnK k e w base (.slice A n c) xs) : OwnK k e w base (.slice A 0 c) [] := by
  refine ⟨rfl, ?_⟩
  rcases h.2 with ⟨h1, _⟩ | ⟨g, cap, cur, h1, hb, hg, hnc, hcm, hcs, htk⟩
  · cases h1
    exact .inl ⟨rfl, rfl⟩
  · cases h1
    exact .inr ⟨g, c, cur, rfl, hb, hg, Nat.zero_le _, hcm, hcs, by simp⟩
theorem apart_types {k k' : IntKind} {e e' : TypeId} {w : World} {base base' : Nat} {v u : Value} {xs ys : List Int} (h : OwnK k e w base v xs) (h' : OwnK k' e' w base' u ys) (hne : e ≠ e') : Apart v u := fun i hv hui => by
  obtain ⟨_, cs, h1⟩ := h.block hv
  obtain ⟨_, cs', h2⟩ := h'.block hui
  rw [h1] at h2
  simp only [Option.some.injEq, Obj.cells.injEq] at h2
  exact hne h2.2.1
/-- what stays while the places are told: the pattern's variable, the letters, the row u of places before -/
structure Kept (w wr : World) (base base' : Nat) (q t u : Value) (p xs zs : List Int) : Prop where
  box : Box wr w.heap.size 179 q
  pat : OwnK .i32 21 wr base q p
  text : OwnK .i32 21 wr base' t xs
  row : OwnK .i64 3 wr w.heap.size u zs
  below : Below w.heap.size w wr
theorem Kept.turned {w wr w' : World} {base base' : Nat} {q t u v : Value} {p xs zs ys : List Int} (K : Kept w wr base base' q t u p xs zs) (hB : Box wr (w.heap.size + 1) 44 v) (ho : OwnK .i64 3 wr w.heap.size v ys) (ha : Apart v u) (hT : Turned wr w' (w.heap.size + 1) v) :
    Kept w w' base base' q t u p xs zs :=
  ⟨K.box.turned hT (by omega) (K.box.own ho (by decide)), K.pat.turned hT (hB.own K.pat (by decide)) (apart_types ho K.pat (by decide)), K.text.turned hT (hB.own K.text (by decide)) (apart_types ho K.text (by decide)),
    K.row.turned hT (hB.own K.row (by decide)) ha, K.below.trans (hT.below (by omega) ho K.below.size)⟩
theorem Kept.only {w wr w' : World} {base base' : Nat} {q t u v : Value} {p xs zs : List Int} (K : Kept w wr base base' q t u p xs zs) (hB : Box wr (w.heap.size + 1) 44 v) (hO : Only (w.heap.size + 1) wr.drew w') : Kept w w' base base' q t u p xs zs := by
  have hO' : Only (w.heap.size + 1) wr w' := ⟨hO.os, hO.tape, hO.output, hO.size, hO.rest⟩
  exact ⟨K.box.only hO' (by omega), K.pat.only hO' hB (by decide), K.text.only hO' hB (by decide), K.row.only hO' hB (by decide), K.below.trans (hO'.below (by omega))⟩
set_option maxRecDepth 100000 in
set_option maxHeartbeats 4000000 in
theorem fits_any (w : World) (q t : Value) (p xs : List Int) (base base' : Nat) (hq : OwnK .i32 21 w base q p) (ht : OwnK .i32 21 w base' t xs) (hp : p.length ≤ 1000) (_hx : xs.length ≤ 1000) :
    Calls Tryz.prog 181 #[q, t] w fun e w' => e = .returned (.bool (fitAt p p.length xs)) ∧ Below w.heap.size w w' := by
  have hmf : ∀ (fn : Fn) (first cap : Array Value) (w : World), (Instr.makeFunc fn first cap).run Tryz.prog w = .ok (.func fn first cap) w := fun _ _ _ _ => rfl
  obtain ⟨Aq, nq, cq, hqe, hnq, _, _, _, hcq⟩ := hq.open
  obtain ⟨At, nt, ct, hte, hnt, _, _, _, hct⟩ := ht.open
  have B2 : Box ((w.alloc (.cells #[q] 179)).alloc (.cells #[.slice none 0 0] 44)) w.heap.size 179 q := Box.alloc (heap_alloc_new w _) _
  have B1 : Box ((w.alloc (.cells #[q] 179)).alloc (.cells #[.slice none 0 0] 44)) (w.heap.size + 1) 44 (.slice none 0 0) := by
    have e : (w.alloc (.cells #[q] 179)).heap.size = w.heap.size + 1 := by simp
    rw [← e]
    exact heap_alloc_new (w.alloc (.cells #[q] 179)) (.cells #[.slice none 0 0] 44)
  have hq2 := (hq.alloc (.cells #[q] 179)).alloc (.cells #[.slice none 0 0] 44)
  have ht2 := (ht.alloc (.cells #[q] 179)).alloc (.cells #[.slice none 0 0] 44)
  have hb2 : Below w.heap.size w ((w.alloc (.cells #[q] 179)).alloc (.cells #[.slice none 0 0] 44)) := ((Below.refl _ _).alloc (Nat.le_refl _) _).alloc (by simp) _
  have hsz2 : w.heap.size ≤ ((w.alloc (.cells #[q] 179)).alloc (.cells #[.slice none 0 0] 44)).heap.size := by simp; omega
  have c0 := wait_any ((w.alloc (.cells #[q] 179)).alloc (.cells #[.slice none 0 0] 44)) w.heap.size base (w.heap.size + 1) w.heap.size (.slice none 0 0) q [] p 0 0 (Nat.zero_le _) (by omega) (by simp) (.inl ⟨rfl, rfl⟩) B1 B2 (OwnK.nil _ _ _ _) hq2 hsz2
  rw [wait_first, show ((0 : Nat) : Int) = 0 from rfl] at c0
  have C0 := Lib.hid c0
  have HB2 := Lib.hid B2
  have HB1 := Lib.hid B1
  have HQ2 := Lib.hid hq2
  have HT2 := Lib.hid ht2
  have HBB := Lib.hid hb2
  have HS2 := Lib.hid hsz2
  have HNQ := Lib.hid hnq
  have HNT := Lib.hid hnt
  clear c0 B2 B1 hq2 ht2 hb2 hsz2 hnq hnt
  subst hqe
  subst hte
  go_enter Tryz.func181, Tryz.ntmps181
  go_wp2_with fail
  refine C0.out.mono ?_
  rintro e w1 ⟨rfl, u1, hB1, ho1, hT1, hW1⟩
  have X2 : Hid (Box w1 w.heap.size 179 (.slice Aq nq cq)) := HB2.out.turned hT1 (by omega) (by intro h; cases h)
  have XQ : Hid (OwnK .i32 21 w1 base (.slice Aq nq cq) p) := HQ2.out.turned hT1 (HB1.out.own HQ2.out (by decide)) (Apart.nil _)
  have XT : Hid (OwnK .i32 21 w1 base' (.slice At nt ct) xs) := HT2.out.turned hT1 (HB1.out.own HT2.out (by decide)) (Apart.nil _)
  have XB : Hid (Below w.heap.size w w1) := HBB.out.trans (hT1.below (by omega) (OwnK.nil .i64 3 _ w.heap.size) HS2.out)
  have X1 := Lib.hid hB1
  have XO := Lib.hid ho1
  clear hB1 ho1 hT1 hW1 HB2 HB1 HQ2 HT2 HBB HS2 C0
  go_wp2
  go_loopw [5, 17] (fun v i wr => ∃ (j : Nat) (u : Value) (zs : List Int), i = .int .i64 j ∧ j ≤ nt ∧ Hid (Box wr (w.heap.size + 1) 44 u) ∧ Hid (OwnK .i64 3 wr w.heap.size u (ints (places p (xs.take j)))) ∧ Hid (Apart u v) ∧ Hid (Kept w wr base base' (.slice Aq nq cq) (.slice At nt ct) v p xs zs)) (fun _ i _ => nt - (intOf i).toNat)
  case atStart => exact ⟨0, u1, [], rfl, Nat.zero_le _, X1, by simpa using XO, Apart.nil' _, ⟨X2.out, XQ.out, XT.out, OwnK.nil _ _ _ _, XB.out⟩⟩
  case round =>
    clear X1 X2 XQ XT XB XO
    obtain ⟨j, u, zs, rfl, hj, X1, XU, XA, XK⟩ := hrel
    have hbs := XK.out.below.size
    by_cases hlt : j < nt
    · obtain ⟨gt, rfl, _, _, _⟩ := hct (by omega)
      have gx := XK.out.text.at hlt
      obtain ⟨x, hxx⟩ : ∃ x, x = xs.getD j 0 := ⟨_, rfl⟩
      rw [← hxx] at gx
      obtain ⟨T, hTT⟩ : ∃ T, T = xs.take j := ⟨_, rfl⟩
      have hTn : xs.take (j + 1) = T ++ [x] := by
        have := HNT.out
        rw [List.take_succ_eq_append_getElem (by omega), hTT, hxx]
        simp [show j < xs.length by omega]
      rw [← hTT] at XU
      have HTN := Lib.hid hTn
      obtain ⟨Av, nv, cv, rfl, hnv, hnc, h63, _, _⟩ := XK.out.row.open
      obtain ⟨Au, nu, cu, rfl, hnu, hnuc, hu63, _, hcu⟩ := XU.out.open
      rw [ints_len] at hnu
      have HNU := Lib.hid hnu
      have gb1 := X1.out.cell
      have gf1 := X1.out.frozen
      clear hxx hnv hnu hcu hct hTT hTn
      go_wp2
      go_step3
      apply wp_seq_k
      intro _ _
      go_still_tail 4, (by kernel_rfl)
      change wpList _ _ _ _ _ wr.drew
      have XV0 : Hid (OwnK .i64 3 wr w.heap.size (.slice Av 0 cv) []) := XK.out.row.cut0
      have XA0 : Hid (Apart (.slice Av 0 cv) (.slice Au nu cu)) := by
        intro i hi hu
        cases Av with
        | none => cases hi
        | some ad => exact XA.out i hu hi
      refine wpList_store_box rfl _ (.tmp 6) (.tmp 23) rfl (w.heap.size + 1) rfl (.slice Av 0 cv) rfl 44 _ (show Box wr.drew _ _ _ from X1.out) (by kernel_rfl) rfl ?_
      intro w2 Y1 O2
      have YK : Hid (Kept w w2 base base' (.slice Aq nq cq) (.slice (some ⟨gt, 0, none⟩) nt ct) (.slice Au nu cu) p xs (ints (places p T))) :=
        Kept.only ⟨XK.out.box, XK.out.pat, XK.out.text, XU.out, XK.out.below⟩ X1.out O2.out
      have O2' : Only (w.heap.size + 1) wr w2 := ⟨O2.out.os, O2.out.tape, O2.out.output, O2.out.size, O2.out.rest⟩
      have YV : Hid (OwnK .i64 3 w2 w.heap.size (.slice Av 0 cv) []) := XV0.out.only O2' X1.out (by decide)
      clear X1 XU XA XK XV0 O2 O2' gb1 gf1 gx hnc h63 hbs
      go_wp2
      go_step3
      go_wp2
      go_loopw [26] (fun i wr => ∃ (c m : Nat) (v : Value), i = .int .i64 c ∧ c ≤ nu ∧ Hid (Done p T x c m) ∧ Hid (Box wr (w.heap.size + 1) 44 v) ∧ Hid (OwnK .i64 3 wr w.heap.size v (ints (gpre p (T ++ [x]) m))) ∧ Hid (Apart v (.slice Au nu cu)) ∧ Hid (Kept w wr base base' (.slice Aq nq cq) (.slice (some ⟨gt, 0, none⟩) nt ct) (.slice Au nu cu) p xs (ints (places p T)))) (fun i _ => nu - (intOf i).toNat)
      case atStart => exact ⟨0, 0, _, rfl, Nat.zero_le _, Done.start p T x, Y1, YV, XA0, YK⟩
      case round =>
        clear Y1 YV XA0 YK
        obtain ⟨c, m, v, rfl, hc, HD, X1, XV, XA, XK⟩ := hrel
        have hbs := XK.out.below.size
        have gb2 := XK.out.box.cell
        by_cases hcu : c < nu
        · have hcF : c < (places p T).length := by have := HNU.out; omega
          have hmm : m ≤ p.length + 1 := Told.le HD.out
          obtain ⟨gu, rfl, _, _, _⟩ : ∃ gu, Au = some ⟨gu, 0, none⟩ ∧ True ∧ True ∧ True := by
            obtain ⟨A', n', c', he, _, _, _, _, hcc⟩ := XK.out.row.open
            cases he
            obtain ⟨g, e1, _⟩ := hcc (by omega)
            exact ⟨g, e1, trivial, trivial, trivial⟩
          have ga := XK.out.row.at hcu
          rw [ints_getD] at ga
          obtain ⟨hale, hal⟩ := places_at p T hcF
          obtain ⟨a, ha⟩ : ∃ a, a = (places p T).getD c 0 := ⟨_, rfl⟩
          have hS := fun h => Done.star HD.out hcF h
          have hO := fun h1 h2 h3 => Done.one HD.out hcF h1 h2 h3
          have hN := fun h1 h2 => Done.none HD.out hcF h1 h2
          rw [← ha] at ga hale hS hO hN
          have hlast := Done.last HD.out
          have gaN := HNQ.out
          have hcell := fun (h : a < nq) => (hcq (by omega))
          by_cases hae : a < nq
          · obtain ⟨gq, rfl, _, _, _⟩ := hcell hae
            have gp := XK.out.pat.at hae
            have hane : ((a : Int) == nq) = false := by simp; omega
            have hap : a < p.length := by omega
            have hpl : p.length ≤ 1000000 := by omega
            have hml : (gpre p (T ++ [x]) m).length ≤ 1000000 := by have := gpre_len p (T ++ [x]) m; omega
            have c1 := fun k hk => wait_any wr w.heap.size base (w.heap.size + 1) w.heap.size v _ (gpre p (T ++ [x]) m) p k m hk hpl hml hlast X1.out XK.out.box XV.out XK.out.pat hbs
            by_cases hs : p.getD a 0 = 42
            · rw [hs] at gp
              have c1 := c1 a hale
              obtain ⟨h1, h2⟩ := hS hs
              rw [h1] at c1
              obtain ⟨M, hM⟩ : ∃ M, M = waitM p m a := ⟨_, rfl⟩
              rw [← hM] at c1 h2
              have C1 := Lib.hid c1
              have HD' := Lib.hid h2
              clear h1 h2 c1 hM hS hO hN hlast hs hcell hale hal ha hcF hmm gaN hap hpl hml
              go_wp2_with fail
              refine C1.out.mono ?_
              rintro e w3 ⟨rfl, v3, hB3, ho3, hT3, hW3⟩
              have HB3 := Lib.hid hB3
              have HO3 := Lib.hid ho3
              have HA3 := Lib.hid (XA.out.whither hW3 XK.out.row)
              have HK3 := Lib.hid (XK.out.turned X1.out XV.out XA.out hT3)
              clear hB3 ho3 hT3 hW3 C1
              go_wp2
              go_roundw
              case rel => exact ⟨c + 1, M, v3, by go_num, hcu, HD', HB3, HO3, HA3, HK3⟩
              case measure => simp [intOf]; omega
            · obtain ⟨pc, hpc⟩ : ∃ pc, pc = p.getD a 0 := ⟨_, rfl⟩
              rw [← hpc] at gp hs hO hN hS
              have ht1 : (pc == 42) = false := by simpa using hs
              have c1 := c1 (a + 1) hap
              rw [show ((a + 1 : Nat) : Int) = (a : Int) + 1 from rfl] at c1
              by_cases h63 : pc = 63
              · have ht2 : (pc == 63) = true := by simpa using h63
                obtain ⟨h1, h2⟩ := hO hap hs (.inl h63)
                rw [h1] at c1
                obtain ⟨M, hM⟩ : ∃ M, M = waitM p m (a + 1) := ⟨_, rfl⟩
                rw [← hM] at c1 h2
                have C1 := Lib.hid c1
                have HD' := Lib.hid h2
                clear h1 h2 c1 hM hS hO hN hlast hs hcell hale hal ha hcF hmm gaN hap hpl hml hpc h63
                go_wp2_with fail
                refine C1.out.mono ?_
                rintro e w3 ⟨rfl, v3, hB3, ho3, hT3, hW3⟩
                have HB3 := Lib.hid hB3
                have HO3 := Lib.hid ho3
                have HA3 := Lib.hid (XA.out.whither hW3 XK.out.row)
                have HK3 := Lib.hid (XK.out.turned X1.out XV.out XA.out hT3)
                clear hB3 ho3 hT3 hW3 C1
                go_wp2
                go_roundw
                case rel => exact ⟨c + 1, M, v3, by go_num, hcu, HD', HB3, HO3, HA3, HK3⟩
                case measure => simp [intOf]; omega
              · have ht2 : (pc == 63) = false := by simpa using h63
                by_cases hx' : pc = x
                · have ht3 : (pc == x) = true := by simpa using hx'
                  obtain ⟨h1, h2⟩ := hO hap hs (.inr hx')
                  rw [h1] at c1
                  obtain ⟨M, hM⟩ : ∃ M, M = waitM p m (a + 1) := ⟨_, rfl⟩
                  rw [← hM] at c1 h2
                  have C1 := Lib.hid c1
                  have HD' := Lib.hid h2
                  clear h1 h2 c1 hM hS hO hN hlast hs hcell hale hal ha hcF hmm gaN hap hpl hml hpc h63 hx'
                  go_wp2_with fail
                  refine C1.out.mono ?_
                  rintro e w3 ⟨rfl, v3, hB3, ho3, hT3, hW3⟩
                  have HB3 := Lib.hid hB3
                  have HO3 := Lib.hid ho3
                  have HA3 := Lib.hid (XA.out.whither hW3 XK.out.row)
                  have HK3 := Lib.hid (XK.out.turned X1.out XV.out XA.out hT3)
                  clear hB3 ho3 hT3 hW3 C1
                  go_wp2
                  go_roundw
                  case rel => exact ⟨c + 1, M, v3, by go_num, hcu, HD', HB3, HO3, HA3, HK3⟩
                  case measure => simp [intOf]; omega
                · have ht3 : (pc == x) = false := by simpa using hx'
                  have HD' := Lib.hid (hN hs (by rintro (h | h) <;> contradiction))
                  clear hS hO hN hlast c1 hs hcell hale hal ha hcF hmm gaN hap hpl hml hpc h63 hx'
                  go_wp2
                  go_roundw
                  case rel => exact ⟨c + 1, m, v, by go_num, hcu, HD', X1, XV, XA, XK⟩
                  case measure => simp [intOf]; omega
          · have hae' : a = nq := by omega
            have HF := Lib.hid (Done.all HD.out (.inr ⟨hcF, by omega⟩))
            clear hS hO hN hlast hcell hale hal hcF hmm gaN
            have hane : ((a : Int) == nq) = true := by simp; omega
            clear hae' ha hae
            go_wp2
            rw [Exit.noGoto_normal]
            go_wp2
            go_roundw
            case rel => exact ⟨j + 1, v, _, by go_num, hlt, X1, by rw [HTN.out, ← HF.out]; exact XV, XA, XK⟩
            case measure => simp [intOf]; omega
        · have hcn : c = nu := by omega
          have HF := Lib.hid (Done.all HD.out (.inl (by rw [hcn]; exact HNU.out.symm)))
          have hcN : ¬ c < nu := hcu
          clear hcn gb2 hcu
          go_wp2
          rw [Exit.noGoto_normal]
          go_wp2
          go_roundw
          case rel => exact ⟨j + 1, v, _, by go_num, hlt, X1, by rw [HTN.out, ← HF.out]; exact XV, XA, XK⟩
          case measure => simp [intOf]; omega
    · obtain rfl : j = nt := by omega
      have c9 := Contains_any wr w.heap.size u (ints (places p (xs.take j))) (p.length : Int) XU.out
      rw [List.take_of_length_le (by have := HNT.out; omega), contains_end, HNQ.out] at c9
      have C9 := Lib.hid c9
      have HBl := Lib.hid XK.out.below
      have gb1 := X1.out.cell
      have gb2 := XK.out.box.cell
      have HGoal : Hid (fitAt p p.length xs = fitAt p nq xs) := by show _ = _; rw [HNQ.out]
      obtain ⟨R, hR⟩ : ∃ R, R = fitAt p nq xs := ⟨_, rfl⟩
      rw [← hR] at C9 HGoal
      clear hcq hct c9 X1 XU XA hR
      go_wp2_with fail
      refine C9.out.mono ?_
      rintro e w9 ⟨rfl, rfl⟩
      go_wp2
      go_ret
      exact ⟨ret_bool HGoal.out.symm, HBl.out⟩
end Go.Proofs.YtdgpbhdihhchgaaGreatDoor

namespace Go.Proofs.YtdgpbhdihhchgaaGreatDoor
set_option linter.all false
open Go.RowKit
theorem txt_size (l : List UInt8) : (⟨l.toArray⟩ : ByteArray).size = l.length := by simp [ByteArray.size]
/-- does the pattern fit, as Fits answers -/
noncomputable def fitsOf (p t : List UInt8) : Bool := if patErr p t = 0 then fitAt (foldedOf p) (foldedOf p).length (foldedOf t) else false
theorem fitsOf_bad {p t : List UInt8} (h : patErr p t ≠ 0) : fitsOf p t = false := if_neg h
/-- what Fits answers -/
def FitsPost (w : World) (p t : List UInt8) (e : Ending) (w' : World) : Prop := e = .returned (.tuple #[.bool (fitsOf p t), .int .i64 (patErr p t)]) ∧ Below w.heap.size w w'
theorem patErr_form {p t : List UInt8} (h : isText p = false ∨ isText t = false) : patErr p t = 5 := if_pos h
theorem patErr_limit {p t : List UInt8} (h1 : isText p = true) (h2 : isText t = true) (h : 64 < (letters p).length ∨ 256 < (letters t).length) : patErr p t = 3 := by
  unfold patErr
  rw [if_neg (by rw [h1, h2]; simp), if_pos h]
set_option maxHeartbeats 2000000 in
theorem Fits_any (p s : ByteArray) (w : World) (hp : p.size ≤ 4398046511104) (hs : s.size ≤ 4398046511104) (hT : Tabs w) :
    Calls Tryz.prog 151 #[.string p, .string s] w (FitsPost w p.data.toList s.data.toList) := by
  have c1 := fun w hT => Lib.hid (IsText_any p w (by omega) hT)
  have c2 := fun w hT => Lib.hid (IsText_any s w (by omega) hT)
  have c3 := fun w => Lib.hid (longer_any p 64 w (by omega))
  have c4 := fun w => Lib.hid (longer_any s 256 w (by omega))
  have hq : ∀ (b : Bool) (n : Int), fitsOf p.data.toList s.data.toList = b → patErr p.data.toList s.data.toList = n → ∀ e w', e = .returned (.tuple #[.bool b, .int .i64 n]) ∧ Below w.heap.size w w' → FitsPost w p.data.toList s.data.toList e w' := fun b n hb hn e w' h => by
    unfold FitsPost
    rw [hb, hn]
    exact h
  by_cases tp' : isText p.data.toList = false
  · have he := patErr_form (t := s.data.toList) (.inl tp')
    have HQ := Lib.hid (hq _ _ (fitsOf_bad (by omega)) he)
    rw [tp'] at c1
    clear hq he tp' c2 c3 c4
    go_enter Tryz.func151, Tryz.ntmps151
    go_wp2_with fail
    refine (c1 _ hT).out.mono ?_
    rintro e w1 ⟨rfl, hb1⟩
    go_wp2
    go_ret2
    exact HQ.out _ _ ⟨rfl, hb1⟩
  have tp : isText p.data.toList = true := by simpa using tp'
  by_cases ts' : isText s.data.toList = false
  · have he := patErr_form (p := p.data.toList) (.inr ts')
    have HQ := Lib.hid (hq _ _ (fitsOf_bad (by omega)) he)
    rw [tp] at c1
    rw [ts'] at c2
    clear hq he tp tp' ts' c3 c4
    go_enter Tryz.func151, Tryz.ntmps151
    go_wp2_with fail
    refine (c1 _ hT).out.mono ?_
    rintro e w1 ⟨rfl, hb1⟩
    have hT1 := hT.below hb1
    go_wp2_with fail
    refine (c2 _ hT1).out.mono ?_
    rintro e w2 ⟨rfl, hb2⟩
    go_wp2
    go_ret2
    exact HQ.out _ _ ⟨rfl, step hb1 hb2⟩
  have ts : isText s.data.toList = true := by simpa using ts'
  rw [tp] at c1
  rw [ts] at c2
  clear tp' ts'
  by_cases lp : 64 < (letters p.data.toList).length
  · have he := patErr_limit tp ts (.inl lp)
    have HQ := Lib.hid (hq _ _ (fitsOf_bad (by omega)) he)
    rw [decide_eq_true (show (64 : Int) < ((letters p.data.toList).length : Int) by omega)] at c3
    clear hq he tp ts lp c4
    go_enter Tryz.func151, Tryz.ntmps151
    go_wp2_with fail
    refine (c1 _ hT).out.mono ?_
    rintro e w1 ⟨rfl, hb1⟩
    have hT1 := hT.below hb1
    go_wp2_with fail
    refine (c2 _ hT1).out.mono ?_
    rintro e w2 ⟨rfl, hb2⟩
    go_wp2_with fail
    refine (c3 _).out.mono ?_
    rintro e w3 ⟨rfl, hb3⟩
    go_wp2
    go_ret2
    exact HQ.out _ _ ⟨rfl, step (step hb1 hb2) hb3⟩
  rw [decide_eq_false (show ¬ (64 : Int) < ((letters p.data.toList).length : Int) by omega)] at c3
  by_cases ls : 256 < (letters s.data.toList).length
  · have he := patErr_limit tp ts (.inr ls)
    have HQ := Lib.hid (hq _ _ (fitsOf_bad (by omega)) he)
    rw [decide_eq_true (show (256 : Int) < ((letters s.data.toList).length : Int) by omega)] at c4
    clear hq he tp ts lp ls
    go_enter Tryz.func151, Tryz.ntmps151
    go_wp2_with fail
    refine (c1 _ hT).out.mono ?_
    rintro e w1 ⟨rfl, hb1⟩
    have hT1 := hT.below hb1
    go_wp2_with fail
    refine (c2 _ hT1).out.mono ?_
    rintro e w2 ⟨rfl, hb2⟩
    go_wp2_with fail
    refine (c3 _).out.mono ?_
    rintro e w3 ⟨rfl, hb3⟩
    go_wp2_with fail
    refine (c4 _).out.mono ?_
    rintro e w4 ⟨rfl, hb4⟩
    go_wp2
    go_ret2
    exact HQ.out _ _ ⟨rfl, step (step (step hb1 hb2) hb3) hb4⟩
  rw [decide_eq_false (show ¬ (256 : Int) < ((letters s.data.toList).length : Int) by omega)] at c4
  have he : patErr p.data.toList s.data.toList = 0 := patErr_ok.2 ⟨tp, ts, by omega, by omega⟩
  have c5 := fun w hT => Fold_any p w hp hT
  have c6 := fun w hT => Fold_any s w hs hT
  unfold FoldPost at c5 c6
  have xp : isText (⟨(foldB p.data.toList).toArray⟩ : ByteArray).data.toList = true := (isText_fold _).trans tp
  have xs : isText (⟨(foldB s.data.toList).toArray⟩ : ByteArray).data.toList = true := (isText_fold _).trans ts
  have np : (⟨(foldB p.data.toList).toArray⟩ : ByteArray).size ≤ 70368744177664 := by rw [txt_size, foldB_length, ← Lib.size_eq]; omega
  have ns : (⟨(foldB s.data.toList).toArray⟩ : ByteArray).size ≤ 70368744177664 := by rw [txt_size, foldB_length, ← Lib.size_eq]; omega
  have ep : letters (⟨(foldB p.data.toList).toArray⟩ : ByteArray).data.toList = foldedOf p.data.toList := (foldedOf_eq _).symm
  have es : letters (⟨(foldB s.data.toList).toArray⟩ : ByteArray).data.toList = foldedOf s.data.toList := (foldedOf_eq _).symm
  have lp' : (foldedOf p.data.toList).length ≤ 1000 := by rw [foldedOf_length]; omega
  have ls' : (foldedOf s.data.toList).length ≤ 1000 := by rw [foldedOf_length]; omega
  have hf : fitsOf p.data.toList s.data.toList = fitAt (foldedOf p.data.toList) (foldedOf p.data.toList).length (foldedOf s.data.toList) := if_pos he
  have HQ := Lib.hid (hq _ _ hf he)
  have c7 := fun w q t b b' h h' => Lib.hid (fits_any w q t (foldedOf p.data.toList) (foldedOf s.data.toList) b b' h h' lp' ls')
  obtain ⟨X, hX⟩ : ∃ X : ByteArray, X = ⟨(foldB p.data.toList).toArray⟩ := ⟨_, rfl⟩
  obtain ⟨Y, hY⟩ : ∃ Y : ByteArray, Y = ⟨(foldB s.data.toList).toArray⟩ := ⟨_, rfl⟩
  obtain ⟨lP, hlP⟩ : ∃ l, l = foldedOf p.data.toList := ⟨_, rfl⟩
  obtain ⟨lS, hlS⟩ : ∃ l, l = foldedOf s.data.toList := ⟨_, rfl⟩
  rw [← hlP, ← hlS] at HQ c7
  rw [← hX] at c5 xp np ep
  rw [← hY] at c6 xs ns es
  rw [← hlP] at ep
  rw [← hlS] at es
  have C5 := Lib.hid c5
  have C6 := Lib.hid c6
  have C7 := Lib.hid c7
  have XP := Lib.hid xp
  have XS := Lib.hid xs
  have EP := Lib.hid ep
  have ES := Lib.hid es
  clear c5 c6 c7 xp xs ep es hX hY hlP hlS hq he tp ts lp ls lp' ls' hf
  go_enter Tryz.func151, Tryz.ntmps151
  go_wp2_with fail
  refine (c1 _ hT).out.mono ?_
  rintro e w1 ⟨rfl, hb1⟩
  have hT1 := hT.below hb1
  go_wp2_with fail
  refine (c2 _ hT1).out.mono ?_
  rintro e w2 ⟨rfl, hb2⟩
  have hT2 := hT1.below hb2
  go_wp2_with fail
  refine (c3 _).out.mono ?_
  rintro e w3 ⟨rfl, hb3⟩
  have hT3 := hT2.below hb3
  go_wp2_with fail
  refine (c4 _).out.mono ?_
  rintro e w4 ⟨rfl, hb4⟩
  have hT4 := hT3.below hb4
  have hB4 := step (step (step hb1 hb2) hb3) hb4
  clear c1 c2 c3 c4 hb1 hb2 hb3 hb4 hT1 hT2 hT3
  go_wp2_with fail
  refine (C5.out _ hT4).mono ?_
  rintro e w5 ⟨rfl, hb5⟩
  have hT5 := hT4.below hb5
  go_wp2_with (first
    | ((with_reducible show wpList _ _ _ (⟨some 20, _, _, _, _, _⟩ :: _) _ _); refine wpList_runes rfl (.tmp 19) rfl X rfl XP.out np ?_; intro v6 w6 ho6 hb6; have hT6 := hT5.below hb6.out)
    | fail)
  rw [EP.out] at ho6
  refine (C6.out _ hT6).mono ?_
  rintro e w7 ⟨rfl, hb7⟩
  have ho7 := Lib.hid (ho6.below hb7)
  clear ho6
  go_wp2_with (first
    | ((with_reducible show wpList _ _ _ (⟨some 23, _, _, _, _, _⟩ :: _) _ _); refine wpList_runes rfl (.tmp 22) rfl Y rfl XS.out ns ?_; intro v8 w8 ho8 hb8)
    | fail)
  rw [ES.out] at ho8
  refine (C7.out _ _ _ _ _ (ho7.out.below hb8.out) ho8).out.mono ?_
  rintro e w9 ⟨rfl, hb9⟩
  have hBB := step (step (step (step (step hB4 hb5) hb6.out) hb7) hb8.out) hb9
  clear ho7 ho8 hb5 hb6 hb7 hb8 hb9 hB4
  go_wp2
  go_ret2
  exact HQ.out _ _ ⟨rfl, hBB⟩
end Go.Proofs.YtdgpbhdihhchgaaGreatDoor

namespace Go.Proofs.YtdgpbhdihhchgaaGreatDoor
set_option linter.all false
open Go.RowKit Go.Lib
set_option linter.unusedVariables false
/-- a name and its number -/
abbrev DItem := ByteArray × Int
def alk (s t : ByteArray) : Bool := alikeOf s.data.toList t.data.toList
def ahd (s t : ByteArray) : Bool := aheadOf s.data.toList t.data.toList
/-- no name: empty, or no text -/
def dBad (s : ByteArray) : Bool := decide (s.size = 0) || !isText s.data.toList
theorem alk_iff {s t : ByteArray} : alk s t = true ↔ foldedOf s.data.toList = foldedOf t.data.toList := by
  unfold alk alikeOf
  rw [decide_eq_true_iff]
  exact alike_iff _ _
theorem ahd_iff {s t : ByteArray} : ahd s t = true ↔ lexc (foldedOf s.data.toList) (foldedOf t.data.toList) < 0 := by
  unfold ahd aheadOf
  rw [decide_eq_true_iff]
theorem alk_refl (s : ByteArray) : alk s s = true := alk_iff.2 rfl
theorem alk_symm {s t : ByteArray} (h : alk s t = true) : alk t s = true := alk_iff.2 (alk_iff.1 h).symm
theorem alk_trans {s t u : ByteArray} (h : alk s t = true) (k : alk t u = true) : alk s u = true := alk_iff.2 ((alk_iff.1 h).trans (alk_iff.1 k))
theorem ahd_trans {s t u : ByteArray} (h : ahd s t = true) (k : ahd t u = true) : ahd s u = true := ahd_iff.2 (lexc_trans _ _ _ (ahd_iff.1 h) (ahd_iff.1 k))
theorem ahd_not_alk {s t : ByteArray} (h : ahd s t = true) : alk s t = false := by
  cases hq : alk s t with
  | false => rfl
  | true =>
    have h1 := ahd_iff.1 h
    rw [alk_iff.1 hq, lexc_self] at h1
    omega
theorem ahd_asymm {s t : ByteArray} (h : ahd s t = true) : ahd t s = false := by
  cases hq : ahd t s with
  | false => rfl
  | true =>
    have h1 := ahd_iff.1 h
    have h2 := ahd_iff.1 hq
    rw [lexc_flip] at h2
    omega
theorem ahd_three (s t : ByteArray) : alk s t = true ∨ ahd s t = true ∨ ahd t s = true := by
  rcases Int.lt_trichotomy (lexc (foldedOf s.data.toList) (foldedOf t.data.toList)) 0 with h | h | h
  · exact .inr (.inl (ahd_iff.2 h))
  · exact .inl (alk_iff.2 (lexc_zero _ _ h))
  · refine .inr (.inr (ahd_iff.2 ?_))
    rw [lexc_flip]
    omega
theorem alk_ahd' {s t u : ByteArray} (h : alk s t = true) : ahd u s = ahd u t := by
  rw [Bool.eq_iff_iff, ahd_iff, ahd_iff, alk_iff.1 h]
def dIx (L : List DItem) (s : ByteArray) : Nat := L.findIdx fun y => alk y.1 s
def dHas (L : List DItem) (s : ByteArray) : Bool := L.any fun y => alk y.1 s
def dFindE (L : List DItem) (s : ByteArray) : Int := if dBad s = true then 5 else if dHas L s = true then 0 else 7
def dFind (L : List DItem) (s : ByteArray) : DItem := if dFindE L s = 0 then L.getD (dIx L s) (.empty, 0) else (.empty, 0)
/-- a new name, ahead of the first one that it is ahead of -/
def dPut : List DItem → ByteArray → Int → List DItem
  | [], s, n => [(s, n)]
  | y :: r, s, n => if ahd s y.1 = true then (s, n) :: y :: r else y :: dPut r s n
def dAddE (L : List DItem) (s : ByteArray) : Int := if dBad s = true then 5 else if dHas L s = true then 8 else 0
def dAdd (L : List DItem) (s : ByteArray) (n : Int) : List DItem := if dAddE L s = 0 then dPut L s n else L
def dRem (L : List DItem) (s : ByteArray) : List DItem := if dFindE L s = 0 then L.eraseIdx (dIx L s) else L
/-- all names that are told behind a -/
noncomputable def dNames (L : List DItem) (p a : ByteArray) : List ByteArray := (L.filter fun y => fitsOf p.data.toList y.1.data.toList && (decide (a.size = 0) || ahd a y.1)).map (·.1)
def dPatE (L : List DItem) (p : ByteArray) : Int := match L.find? (fun y => decide (patErr p.data.toList y.1.data.toList ≠ 0)) with
  | some y => patErr p.data.toList y.1.data.toList
  | none => 0
def dListE (L : List DItem) (p a : ByteArray) (m : Int) : Int := if m < 0 then 2 else if patErr p.data.toList [] ≠ 0 then patErr p.data.toList [] else if dPatE L p ≠ 0 then dPatE L p else if isText a.data.toList = true then 0 else 5
noncomputable def dListN (L : List DItem) (p a : ByteArray) (m : Int) : List ByteArray := if dListE L p a m = 0 then (dNames L p a).take m.toNat else []
noncomputable def dListM (L : List DItem) (p a : ByteArray) (m : Int) : Bool := if dListE L p a m = 0 then decide (m < ((dNames L p a).length : Int)) else false
/-- names in order, each one a name -/
structure Dok (L : List DItem) : Prop where
  rise : L.Pairwise fun x y => ahd x.1 y.1 = true
  good : ∀ x ∈ L, dBad x.1 = false
theorem Dok.nil : Dok [] := ⟨List.Pairwise.nil, fun x h => by cases h⟩
section
variable {L : List DItem} {s t u : ByteArray} {n : Int} {x y : DItem}
theorem dHas_iff : dHas L s = true ↔ ∃ x ∈ L, alk x.1 s = true := by
  unfold dHas
  rw [List.any_eq_true]
theorem dIx_lt (h : dHas L s = true) : dIx L s < L.length := by
  obtain ⟨x, hx, hs⟩ := dHas_iff.1 h
  exact List.findIdx_lt_length_of_exists ⟨x, hx, hs⟩
theorem dIx_get (h : dIx L s < L.length) : alk (L[dIx L s]'h).1 s = true := by
  have := List.findIdx_getElem (p := fun y : DItem => alk y.1 s) (w := h)
  exact this
theorem dFind_ok (hb : dBad s = false) (h : dHas L s = true) : dFindE L s = 0 ∧ dFind L s ∈ L ∧ alk (dFind L s).1 s = true := by
  have he : dFindE L s = 0 := by
    unfold dFindE
    rw [if_neg (by rw [hb]; decide), if_pos h]
  have hl := dIx_lt h
  have hd : dFind L s = L[dIx L s] := by
    unfold dFind
    rw [if_pos he, List.getD_eq_getElem?_getD, List.getElem?_eq_getElem hl]
    rfl
  rw [hd]
  exact ⟨he, List.getElem_mem _, dIx_get hl⟩
theorem dFindE_zero : dFindE L s = 0 ↔ dBad s = false ∧ dHas L s = true := by
  unfold dFindE
  by_cases h1 : dBad s = true
  · rw [if_pos h1, h1]
    simp
  · rw [if_neg h1]
    by_cases h2 : dHas L s = true
    · rw [if_pos h2]
      simp [h1, h2]
    · rw [if_neg h2]
      simp [h2]
theorem dFind_no (h : dFindE L s ≠ 0) : dFind L s = (.empty, 0) := if_neg h
theorem Dok.same (h : Dok L) (hx : x ∈ L) (hy : y ∈ L) (ha : alk x.1 y.1 = true) : x = y := by
  obtain ⟨i, hi, rfl⟩ := List.mem_iff_getElem.1 hx
  obtain ⟨j, hj, rfl⟩ := List.mem_iff_getElem.1 hy
  rcases Nat.lt_trichotomy i j with h1 | h1 | h1
  · have := ahd_not_alk (List.pairwise_iff_getElem.1 h.rise i j hi hj h1)
    rw [ha] at this
    cases this
  · subst h1
    rfl
  · have := ahd_not_alk (List.pairwise_iff_getElem.1 h.rise j i hj hi h1)
    rw [alk_symm ha] at this
    cases this
/-- what is alike to a name is found as it was given -/
theorem Dok.found (h : Dok L) (hx : x ∈ L) (ha : alk x.1 s = true) (hb : dBad s = false) : dFindE L s = 0 ∧ dFind L s = x := by
  obtain ⟨h1, h2, h3⟩ := dFind_ok hb (dHas_iff.2 ⟨x, hx, ha⟩)
  exact ⟨h1, h.same h2 hx (alk_trans h3 (alk_symm ha))⟩
theorem dPut_mem : y ∈ dPut L s n ↔ y = (s, n) ∨ y ∈ L := by
  induction L with
  | nil => simp [dPut]
  | cons z r ih =>
    unfold dPut
    split
    · simp
    · rw [List.mem_cons, ih, List.mem_cons]
      constructor
      · rintro (h | h | h)
        · exact .inr (.inl h)
        · exact .inl h
        · exact .inr (.inr h)
      · rintro (h | h | h)
        · exact .inr (.inl h)
        · exact .inl h
        · exact .inr (.inr h)
theorem dPut_len : (dPut L s n).length = L.length + 1 := by
  induction L with
  | nil => rfl
  | cons z r ih =>
    unfold dPut
    split
    · rfl
    · rw [List.length_cons, ih, List.length_cons]
theorem Dok.put (h : Dok L) (hb : dBad s = false) (hn : dHas L s = false) : Dok (dPut L s n) := by
  refine ⟨?_, fun y hy => ?_⟩
  · have hp := h.rise
    clear h
    induction L with
    | nil => exact List.pairwise_singleton _ _
    | cons z r ih =>
      obtain ⟨p1, p2⟩ := List.pairwise_cons.1 hp
      unfold dHas at hn
      rw [List.any_cons, Bool.or_eq_false_iff] at hn
      unfold dPut
      split
      · rename_i hz
        exact List.pairwise_cons.2 ⟨fun y hy => by
          rcases List.mem_cons.1 hy with rfl | hy
          · exact hz
          · exact ahd_trans hz (p1 y hy), hp⟩
      · rename_i hz
        refine List.pairwise_cons.2 ⟨fun y hy => ?_, ih hn.2 p2⟩
        rcases dPut_mem.1 hy with rfl | hy
        · rcases ahd_three z.1 s with h3 | h3 | h3
          · rw [hn.1] at h3; cases h3
          · exact h3
          · exact absurd h3 hz
        · exact p1 y hy
  · rcases dPut_mem.1 hy with rfl | hy
    · exact hb
    · exact h.good y hy
theorem Dok.add (h : Dok L) : Dok (dAdd L s n) := by
  unfold dAdd
  split
  · rename_i he
    unfold dAddE at he
    by_cases h1 : dBad s = true
    · rw [if_pos h1] at he; cases he
    · rw [if_neg h1] at he
      by_cases h2 : dHas L s = true
      · rw [if_pos h2] at he; cases he
      · exact h.put (by simpa using h1) (by simpa using h2)
  · exact h
theorem dRem_mem (h : Dok L) : y ∈ dRem L s ↔ y ∈ L ∧ (dBad s = true ∨ alk y.1 s = false) := by
  unfold dRem
  by_cases he : dFindE L s = 0
  · rw [if_pos he]
    obtain ⟨hb, hh⟩ := dFindE_zero.1 he
    have hl := dIx_lt hh
    have hg := dIx_get hl
    constructor
    · intro hy
      obtain ⟨i, hi, rfl⟩ := List.mem_iff_getElem.1 hy
      have hm := List.mem_of_mem_eraseIdx hy
      refine ⟨hm, .inr ?_⟩
      cases hq : alk (L.eraseIdx (dIx L s))[i].1 s with
      | false => rfl
      | true =>
        exfalso
        rw [List.getElem_eraseIdx] at hq
        split at hq
        · rename_i hlt
          have := h.same (List.getElem_mem (by omega : i < L.length)) (List.getElem_mem hl) (alk_trans hq (alk_symm hg))
          have h5 := List.pairwise_iff_getElem.1 h.rise i (dIx L s) (by omega) hl hlt
          rw [this] at h5
          have h6 := ahd_not_alk h5
          rw [alk_refl] at h6
          cases h6
        · rename_i hlt
          have hi2 : i + 1 < L.length := by
            rw [List.length_eraseIdx, if_pos hl] at hi
            omega
          have := h.same (List.getElem_mem hi2) (List.getElem_mem hl) (alk_trans hq (alk_symm hg))
          have h5 := List.pairwise_iff_getElem.1 h.rise (dIx L s) (i + 1) hl hi2 (by omega)
          rw [this] at h5
          have h6 := ahd_not_alk h5
          rw [alk_refl] at h6
          cases h6
    · rintro ⟨hy, hn⟩
      have hn : alk y.1 s = false := hn.resolve_left (by rw [hb]; decide)
      obtain ⟨i, hi, rfl⟩ := List.mem_iff_getElem.1 hy
      refine List.mem_eraseIdx_iff_getElem.2 ⟨i, hi, fun e => ?_, rfl⟩
      subst e
      rw [hg] at hn
      cases hn
  · rw [if_neg he]
    refine ⟨fun hy => ⟨hy, ?_⟩, fun hy => hy.1⟩
    cases hb : dBad s with
    | true => exact .inl rfl
    | false =>
      refine .inr ?_
      cases hq : alk y.1 s with
      | false => rfl
      | true => exact absurd (dFindE_zero.2 ⟨hb, dHas_iff.2 ⟨y, hy, hq⟩⟩) he
theorem Dok.rem (h : Dok L) : Dok (dRem L s) := by
  refine ⟨?_, fun y hy => h.good y ((dRem_mem h).1 hy).1⟩
  unfold dRem
  split
  · exact h.rise.sublist (List.eraseIdx_sublist _ _)
  · exact h.rise
theorem dRem_len (he : dFindE L s = 0) : (dRem L s).length + 1 = L.length := by
  have hl := dIx_lt (dFindE_zero.1 he).2
  unfold dRem
  rw [if_pos he, List.length_eraseIdx, if_pos hl]
  omega
end
end Go.Proofs.YtdgpbhdihhchgaaGreatDoor
