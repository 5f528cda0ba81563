/-
  Layer 2 without the program: letters of a row of bytes, their bytes, their units. No program is named here.
-/
import Derived.Test.YtaggjlobmikagaaDoorWords
import Derived.Lib.RuneBytes
import Derived.Lib.ValidLaws
namespace Go.Proofs.YtaggjlobmikagaaDoor
open Go.Lib

/-- is a number a letter? -/
def IsLetter (r : Int) : Prop := 0 ≤ r ∧ r ≤ 1114111 ∧ (r < 55296 ∨ 57343 < r)

/-- the bytes of a letter; of a byte that belongs to none, which is 1114112 and its number: it -/
def enc (r : Int) : List UInt8 := if 1114112 ≤ r then [(r - 1114112).toNat.toUInt8] else encodeRune r

/-- the first letter, or byte that belongs to none -/
def headOf (l : List UInt8) : Int := if (decodeL l).1 = 65533 ∧ (decodeL l).2 = 1 then 1114112 + ((l.getD 0 0).toNat : Int) else ((decodeL l).1 : Int)

def lettersF : Nat → List UInt8 → List Int
  | 0, _ => []
  | n + 1, l => if l = [] then [] else headOf l :: lettersF n (l.drop (decodeL l).2)
def letters (l : List UInt8) : List Int := lettersF l.length l

theorem lettersF_nil (n : Nat) : lettersF n [] = [] := by cases n <;> simp [lettersF]
theorem lettersF_fuel : ∀ (n m : Nat) (l : List UInt8), l.length ≤ n → l.length ≤ m → lettersF n l = lettersF m l
  | 0, m, l, hn, _ => by
    obtain rfl : l = [] := List.eq_nil_of_length_eq_zero (by omega)
    rw [lettersF_nil, lettersF_nil]
  | n + 1, 0, l, _, hm => by
    obtain rfl : l = [] := List.eq_nil_of_length_eq_zero (by omega)
    rw [lettersF_nil, lettersF_nil]
  | n + 1, m + 1, l, hn, hm => by
    unfold lettersF
    by_cases hne : l = []
    · simp [hne]
    · have hw := decodeL_width l
      have hl : 0 < l.length := List.length_pos_iff.2 hne
      rw [if_neg hne, if_neg hne, lettersF_fuel n m (l.drop (decodeL l).2) (by rw [List.length_drop]; omega) (by rw [List.length_drop]; omega)]
theorem letters_nil : letters [] = [] := rfl
theorem letters_step (l : List UInt8) (hne : l ≠ []) : letters l = headOf l :: letters (l.drop (decodeL l).2) := by
  have hl : 0 < l.length := List.length_pos_iff.2 hne
  have hw := decodeL_width l
  obtain ⟨n, hn⟩ : ∃ n, l.length = n + 1 := ⟨l.length - 1, by omega⟩
  unfold letters
  rw [hn]
  show (if l = [] then [] else _) = _
  rw [if_neg hne, lettersF_fuel n (l.drop (decodeL l).2).length _ (by rw [List.length_drop]; omega) (Nat.le_refl _)]

/-- what is at the head: a letter as decoded, or a byte from 128 on -/
theorem head_shape (l : List UInt8) (_hne : l ≠ []) :
    (¬ ((decodeL l).1 = 65533 ∧ (decodeL l).2 = 1) ∧ headOf l = ((decodeL l).1 : Int) ∧ IsLetter ((decodeL l).1 : Int)) ∨
    ((decodeL l).1 = 65533 ∧ (decodeL l).2 = 1 ∧ headOf l = 1114112 + ((l.getD 0 0).toNat : Int) ∧ 128 ≤ (l.getD 0 0).toNat) := by
  have k0 := (l.getD 0 0).toNat_lt
  have k1 := (l.getD 1 0).toNat_lt
  have k2 := (l.getD 2 0).toNat_lt
  have k3 := (l.getD 3 0).toNat_lt
  unfold headOf IsLetter
  by_cases h : (decodeL l).1 = 65533 ∧ (decodeL l).2 = 1
  · right
    refine ⟨h.1, h.2, if_pos h, ?_⟩
    rw [decodeL_N] at h
    by_cases hb : (l.getD 0 0).toNat < 128
    · rw [decodeN_ascii _ _ _ _ _ hb] at h
      dsimp only at h
      omega
    · omega
  · left
    refine ⟨h, if_neg h, ?_⟩
    rw [decodeL_N] at h ⊢
    rcases decodeN_shape l.length (l.getD 0 0).toNat (l.getD 1 0).toNat (l.getD 2 0).toNat (l.getD 3 0).toNat with ⟨c, e⟩ | ⟨c1, c2, c3, cv, e⟩ | ⟨c1, c2, c3, c4, cv, cs, e⟩ | ⟨c1, c2, c3, c4, c5, cv, cw, e⟩ | e
    all_goals (rw [e] at h ⊢; dsimp only at h ⊢)
    all_goals (try (exact absurd ⟨rfl, rfl⟩ h))
    all_goals (refine ⟨by omega, by omega, by omega⟩)

/-- the letters of a row: each is a letter, or stands for a byte from 128 on -/
def IsOne (r : Int) : Prop := IsLetter r ∨ (1114240 ≤ r ∧ r ≤ 1114367)
theorem head_one (l : List UInt8) (hne : l ≠ []) : IsOne (headOf l) := by
  have k0 := (l.getD 0 0).toNat_lt
  rcases head_shape l hne with ⟨_, h1, h2⟩ | ⟨_, _, h1, h2⟩
  · rw [h1]; exact .inl h2
  · rw [h1]; exact .inr (by omega)
theorem IsOne.bounds {r : Int} (h : IsOne r) : 0 ≤ r ∧ r ≤ 1114367 := by
  rcases h with h | h
  · exact ⟨h.1, by have := h.2.1; omega⟩
  · omega
theorem IsOne.letter {r : Int} (h : IsOne r) (hr : r < 1114112) : IsLetter r := by
  rcases h with h | h
  · exact h
  · omega
theorem IsLetter.lt {r : Int} (h : IsLetter r) : ¬ 1114112 ≤ r := by have := h.2.1; omega

theorem take_head (l : List UInt8) (hne : l ≠ []) : l.take (decodeL l).2 = enc (headOf l) := by
  unfold enc
  rcases head_shape l hne with ⟨h0, h1, h2⟩ | ⟨_, h0, h1, h2⟩
  · rw [h1, if_neg h2.lt, encode_decode l hne h0]
  · rw [h1, if_pos (by omega), h0, takeA l (List.length_pos_iff.2 hne)]
    rw [toByte _ (l.getD 0 0) (by omega)]

theorem letters_ind {P : List UInt8 → Prop} (h0 : P []) (h1 : ∀ l : List UInt8, l ≠ [] → P (l.drop (decodeL l).2) → P l) : ∀ l, P l := by
  have key : ∀ n (l : List UInt8), l.length ≤ n → P l := by
    intro n
    induction n with
    | zero => intro l hl; obtain rfl : l = [] := List.eq_nil_of_length_eq_zero (by omega); exact h0
    | succ n ih =>
      intro l hl
      by_cases hne : l = []
      · rw [hne]; exact h0
      · have hw := decodeL_width l
        exact h1 l hne (ih _ (by rw [List.length_drop]; omega))
  exact fun l => key l.length l (Nat.le_refl _)

theorem letters_one (l : List UInt8) : ∀ r ∈ letters l, IsOne r := by
  induction l using letters_ind with
  | h0 => intro r hr; cases hr
  | h1 l hne ih =>
    rw [letters_step l hne]
    intro r hr
    rcases List.mem_cons.1 hr with rfl | hr
    · exact head_one l hne
    · exact ih r hr

/-- the letters' bytes are the row -/
theorem letters_enc (l : List UInt8) : (letters l).flatMap enc = l := by
  induction l using letters_ind with
  | h0 => rfl
  | h1 l hne ih => rw [letters_step l hne, List.flatMap_cons, ih, ← take_head l hne, List.take_append_drop]
theorem letters_le (l : List UInt8) : (letters l).length ≤ l.length := by
  induction l using letters_ind with
  | h0 => simp [letters_nil]
  | h1 l hne ih =>
    have hw := decodeL_width l
    have hl : 0 < l.length := List.length_pos_iff.2 hne
    rw [letters_step l hne, List.length_cons]
    rw [List.length_drop] at ih
    omega

theorem u8_toNat (x : Int) : (x.toNat.toUInt8).toNat = x.toNat % 256 := by simp

set_option maxRecDepth 100000 in
/-- a letter's bytes are decoded to it -/
theorem decode_enc (r : Int) (h : IsLetter r) (t : List UInt8) : decodeL (encodeRune r ++ t) = (r.toNat, (encodeRune r).length) := by
  obtain ⟨h0, h1, h2⟩ := h
  rw [decodeL_N]
  unfold encodeRune
  by_cases c1 : r ≤ 127
  · rw [encodeRuneZ_one h0 c1]
    simp only [List.map_cons, List.map_nil, List.cons_append, List.nil_append, List.length_cons, List.getD_cons_zero, List.length_nil, u8_toNat]
    rw [decodeN_ascii _ _ _ _ _ (by omega)]
    rw [show r.toNat % 256 = r.toNat by omega]
  by_cases c2 : r ≤ 2047
  · rw [encodeRuneZ_two (by omega) c2]
    simp only [List.map_cons, List.map_nil, List.cons_append, List.nil_append, List.length_cons, List.getD_cons_zero, List.getD_cons_succ, List.length_nil, u8_toNat]
    unfold decodeN
    rw [if_neg (by omega), if_pos (by omega), if_pos (by omega)]
    exact Prod.ext (by dsimp only; omega) rfl
  by_cases c3 : r ≤ 65535
  · rw [encodeRuneZ_three (by omega)]
    simp only [List.map_cons, List.map_nil, List.cons_append, List.nil_append, List.length_cons, List.getD_cons_zero, List.getD_cons_succ, List.length_nil, u8_toNat]
    unfold decodeN
    rw [if_neg (by omega), if_neg (by omega), if_pos (by omega), if_pos (by omega)]
    exact Prod.ext (by dsimp only; omega) rfl
  · rw [encodeRuneZ_four (by omega) h1]
    simp only [List.map_cons, List.map_nil, List.cons_append, List.nil_append, List.length_cons, List.getD_cons_zero, List.getD_cons_succ, List.length_nil, u8_toNat]
    unfold decodeN
    rw [if_neg (by omega), if_neg (by omega), if_neg (by omega), if_pos (by omega), if_pos (by omega)]
    exact Prod.ext (by dsimp only; omega) rfl

theorem enc_letter {r : Int} (h : IsLetter r) : enc r = encodeRune r := if_neg h.lt
theorem enc_pos {r : Int} : 1 ≤ (enc r).length := by
  unfold enc
  split
  · simp
  · have := encodeRuneZ_length r
    simpa [encodeRune] using this.1
theorem enc_le {r : Int} : (enc r).length ≤ 4 := by
  unfold enc
  split
  · simp
  · have := encodeRuneZ_length r
    simpa [encodeRune] using this.2
theorem head_enc (r : Int) (h : IsLetter r) (t : List UInt8) : headOf (enc r ++ t) = r := by
  unfold headOf
  rw [enc_letter h, decode_enc r h t]
  dsimp only
  rw [if_neg ?_]
  · have := h.1; omega
  · rintro ⟨h1, h2⟩
    obtain rfl : r = 65533 := by have := h.1; omega
    revert h2
    decide
theorem letters_cons (r : Int) (h : IsLetter r) (t : List UInt8) : letters (enc r ++ t) = r :: letters t := by
  have hp := enc_pos (r := r)
  have hne : enc r ++ t ≠ [] := by
    intro e
    have := congrArg List.length e
    rw [List.length_append, List.length_nil] at this
    omega
  rw [letters_step _ hne, head_enc r h t]
  have e : (decodeL (enc r ++ t)).2 = (enc r).length := by rw [enc_letter h, decode_enc r h t]
  rw [e, List.drop_left]
theorem letters_append (rs : List Int) (h : ∀ r ∈ rs, IsLetter r) (t : List UInt8) : letters (rs.flatMap enc ++ t) = rs ++ letters t := by
  induction rs with
  | nil => rfl
  | cons r rs ih =>
    rw [List.flatMap_cons, List.append_assoc, letters_cons r (h r List.mem_cons_self), ih fun x hx => h x (List.mem_cons_of_mem _ hx), List.cons_append]
theorem letters_of (rs : List Int) (h : ∀ r ∈ rs, IsLetter r) : letters (rs.flatMap enc) = rs := by
  have := letters_append rs h []
  simpa [letters_nil] using this

/-! ### is it a text? -/
def isText (l : List UInt8) : Bool := (letters l).all fun r => decide (r < 1114112)
theorem isText_nil : isText [] = true := rfl
theorem isText_step (l : List UInt8) (hne : l ≠ []) : isText l = (decide (headOf l < 1114112) && isText (l.drop (decodeL l).2)) := by
  unfold isText
  rw [letters_step l hne, List.all_cons]
theorem validD_isText (l : List UInt8) : validD l = isText l := by
  induction l using letters_ind with
  | h0 => rfl
  | h1 l hne ih =>
    rw [validD_step l hne, isText_step l hne, ih]
    rcases head_shape l hne with ⟨h0, h1, h2⟩ | ⟨h0, h0', h1, h2⟩
    · have := h2.lt
      rw [if_neg h0, h1, decide_eq_true (by omega), Bool.true_and]
    · rw [if_pos ⟨h0, h0'⟩, h1, decide_eq_false (by omega), Bool.false_and]
theorem isText_letters {l : List UInt8} (h : isText l = true) : ∀ r ∈ letters l, IsLetter r := fun r hr =>
  (letters_one l r hr).letter (by simpa using List.all_eq_true.1 h r hr)
theorem isText_of (rs : List Int) (h : ∀ r ∈ rs, IsLetter r) : isText (rs.flatMap enc) = true := by
  unfold isText
  rw [letters_of rs h, List.all_eq_true]
  intro r hr
  have := (h r hr).2.1
  simp only [decide_eq_true_eq]
  omega
theorem text_append {a : List UInt8} (h : isText a = true) (t : List UInt8) : letters (a ++ t) = letters a ++ letters t := by
  have := letters_append (letters a) (isText_letters h) t
  rwa [letters_enc] at this
theorem isText_append {a t : List UInt8} (h : isText a = true) (h' : isText t = true) : isText (a ++ t) = true := by
  unfold isText at *
  rw [text_append (by unfold isText; exact h), List.all_append, h, h']
  rfl

/-! ### folded -/
def lowN (n : Nat) : Nat := if 65 ≤ n ∧ n ≤ 90 then n + 32 else n
def lowB (b : UInt8) : UInt8 := (lowN b.toNat).toUInt8
def foldR (r : Int) : Int := if 65 ≤ r ∧ r ≤ 90 then r + 32 else r
def foldB (l : List UInt8) : List UInt8 := l.map lowB

theorem lowB_toNat (b : UInt8) : (lowB b).toNat = lowN b.toNat := by
  have := b.toNat_lt
  unfold lowB lowN
  split <;> simp <;> omega
theorem foldR_cast (n : Nat) : foldR (n : Int) = (lowN n : Int) := by
  unfold foldR lowN
  split <;> split <;> omega
theorem lowN_cases (b : Nat) : lowN b = b ∨ (b / 64 ≠ 2 ∧ lowN b / 64 ≠ 2) := by
  unfold lowN
  split
  · right; omega
  · left; rfl
theorem lowN_high {b : Nat} (h : 128 ≤ b) : lowN b = b := if_neg (by omega)
theorem getD_foldB (l : List UInt8) (k : Nat) : ((foldB l).getD k 0).toNat = lowN (l.getD k 0).toNat := by
  unfold foldB
  simp only [List.getD_eq_getElem?_getD, List.getElem?_map]
  cases h : l[k]? with
  | none => rfl
  | some b => simpa using lowB_toNat b

set_option maxRecDepth 100000 in
theorem decodeN_low (n b0 b1 b2 b3 : Nat) : decodeN n (lowN b0) (lowN b1) (lowN b2) (lowN b3) = (lowN (decodeN n b0 b1 b2 b3).1, (decodeN n b0 b1 b2 b3).2) := by
  by_cases c : b0 < 128
  · have c' : lowN b0 < 128 := by unfold lowN; split <;> omega
    rw [decodeN_ascii _ _ _ _ _ c, decodeN_ascii _ _ _ _ _ c']
  · rw [lowN_high (b := b0) (by omega)]
    have key : decodeN n b0 (lowN b1) (lowN b2) (lowN b3) = decodeN n b0 b1 b2 b3 := by
      unfold decodeN
      rcases lowN_cases b1 with e1 | ⟨e1, e1'⟩ <;> rcases lowN_cases b2 with e2 | ⟨e2, e2'⟩ <;> rcases lowN_cases b3 with e3 | ⟨e3, e3'⟩ <;> simp_all
    rw [key]
    have h : lowN (decodeN n b0 b1 b2 b3).1 = (decodeN n b0 b1 b2 b3).1 := by
      apply lowN_high
      rcases decodeN_shape n b0 b1 b2 b3 with ⟨c, e⟩ | ⟨c1, c2, c3, cv, e⟩ | ⟨c1, c2, c3, c4, cv, cs, e⟩ | ⟨c1, c2, c3, c4, c5, cv, cw, e⟩ | e
      all_goals (rw [e]; dsimp only; omega)
    rw [h]
theorem decodeL_low (l : List UInt8) : decodeL (foldB l) = (lowN (decodeL l).1, (decodeL l).2) := by
  rw [decodeL_N, decodeL_N, getD_foldB, getD_foldB, getD_foldB, getD_foldB, show (foldB l).length = l.length by simp [foldB], decodeN_low]
theorem head_low (l : List UInt8) (hne : l ≠ []) : headOf (foldB l) = foldR (headOf l) := by
  rcases head_shape l hne with ⟨h0, h1, h2⟩ | ⟨h0, h0', h1, h2⟩
  · rw [h1, foldR_cast]
    unfold headOf
    rw [decodeL_low]
    dsimp only
    rw [if_neg ?_]
    rintro ⟨e1, e2⟩
    refine h0 ⟨?_, e2⟩
    unfold lowN at e1
    split at e1 <;> omega
  · rw [h1]
    unfold headOf
    rw [decodeL_low, h0, h0']
    dsimp only
    rw [if_pos ⟨by decide, rfl⟩, getD_foldB, lowN_high h2]
    unfold foldR
    rw [if_neg (by omega)]
theorem letters_low (l : List UInt8) : letters (foldB l) = (letters l).map foldR := by
  induction l using letters_ind with
  | h0 => rfl
  | h1 l hne ih =>
    have hne' : foldB l ≠ [] := by simpa [foldB] using hne
    rw [letters_step _ hne', head_low l hne, letters_step l hne, List.map_cons, ← ih, decodeL_low]
    simp [foldB, List.map_drop]
/-- the letters, folded -/
def foldedOf (l : List UInt8) : List Int := (letters l).map foldR
theorem folded_enc (l : List UInt8) : (foldedOf l).flatMap enc = foldB l := by
  unfold foldedOf
  rw [← letters_low, letters_enc]
theorem foldedOf_eq (l : List UInt8) : foldedOf l = letters (foldB l) := (letters_low l).symm
theorem foldedOf_one (l : List UInt8) : ∀ r ∈ foldedOf l, IsOne r := by rw [foldedOf_eq]; exact letters_one _
theorem foldB_twice (l : List UInt8) : foldB (foldB l) = foldB l := by
  unfold foldB
  rw [List.map_map]
  apply List.map_congr_left
  intro b _
  have h1 := lowB_toNat b
  have h2 := lowB_toNat (lowB b)
  apply UInt8.toNat_inj.1
  show (lowB (lowB b)).toNat = (lowB b).toNat
  rw [h2, h1]
  unfold lowN
  repeat' split
  all_goals omega
theorem foldB_append (a b : List UInt8) : foldB (a ++ b) = foldB a ++ foldB b := by simp [foldB]
theorem foldB_length (a : List UInt8) : (foldB a).length = a.length := by simp [foldB]

/-! ### the order -/
def cmpI (x y : Int) : Int := if x < y then -1 else if y < x then 1 else 0
def lexc : List Int → List Int → Int
  | [], [] => 0
  | [], _ :: _ => -1
  | _ :: _, [] => 1
  | x :: xs, y :: ys => if x < y then -1 else if y < x then 1 else lexc xs ys
theorem lexc_self : ∀ xs, lexc xs xs = 0
  | [] => rfl
  | x :: xs => by simp [lexc, lexc_self xs]
theorem lexc_zero : ∀ xs ys, lexc xs ys = 0 → xs = ys
  | [], [], _ => rfl
  | [], _ :: _, h => by simp [lexc] at h
  | _ :: _, [], h => by simp [lexc] at h
  | x :: xs, y :: ys, h => by
    unfold lexc at h
    split at h
    · omega
    · split at h
      · omega
      · rw [lexc_zero xs ys h, show x = y by omega]
theorem lexc_flip : ∀ xs ys, lexc ys xs = - lexc xs ys
  | [], [] => rfl
  | [], _ :: _ => rfl
  | _ :: _, [] => rfl
  | x :: xs, y :: ys => by
    unfold lexc
    have := lexc_flip xs ys
    repeat' split
    all_goals omega
theorem lexc_trans : ∀ xs ys zs, lexc xs ys < 0 → lexc ys zs < 0 → lexc xs zs < 0
  | _, [], [], _, h => by simp [lexc] at h
  | [], _, _ :: _, _, _ => by simp [lexc]
  | _ :: _, [], _, h, _ => by simp [lexc] at h
  | _, _ :: _, [], _, h => by simp [lexc] at h
  | x :: xs, y :: ys, z :: zs, h1, h2 => by
    unfold lexc at h1 h2 ⊢
    have := lexc_trans xs ys zs
    repeat' split at h1
    all_goals repeat' split at h2
    all_goals repeat' split
    all_goals first | omega | exact this h1 h2
def aheadOf (a b : List UInt8) : Bool := decide (lexc (foldedOf a) (foldedOf b) < 0)
def alikeOf (a b : List UInt8) : Bool := decide (foldB a = foldB b)
theorem alike_iff (a b : List UInt8) : foldB a = foldB b ↔ foldedOf a = foldedOf b := by
  constructor
  · intro h; rw [foldedOf_eq, foldedOf_eq, h]
  · intro h; rw [← folded_enc, ← folded_enc, h]

/-! ### a text, letter by letter -/
theorem next_any (s : ByteArray) (pos : Nat) (h : pos < s.size) :
    letters (s.data.toList.drop pos) = headOf (s.data.toList.drop pos) :: letters (s.data.toList.drop (pos + (Utf8.decode s pos).2)) ∧ 1 ≤ (Utf8.decode s pos).2 ∧ pos + (Utf8.decode s pos).2 ≤ s.size := by
  have hl : s.data.toList.drop pos ≠ [] := by
    intro e
    have := congrArg List.length e
    rw [List.length_drop, ← size_eq] at this
    simp at this
    omega
  have h1 := letters_step _ hl
  have h2 := decodeL_width (s.data.toList.drop pos)
  have h3 := decodeL_le _ hl
  rw [decodeL_drop] at h1 h2 h3
  rw [List.drop_drop] at h1
  rw [List.length_drop, ← size_eq] at h3
  exact ⟨h1, h2, by omega⟩
theorem next_text (s : ByteArray) (pos : Nat) (h : pos < s.size) (ht : isText (s.data.toList.drop pos) = true) :
    letters (s.data.toList.drop pos) = ((Utf8.decode s pos).1 : Int) :: letters (s.data.toList.drop (pos + (Utf8.decode s pos).2)) ∧ isText (s.data.toList.drop (pos + (Utf8.decode s pos).2)) = true ∧ IsLetter ((Utf8.decode s pos).1 : Int) := by
  have hl : s.data.toList.drop pos ≠ [] := by
    intro e
    have := congrArg List.length e
    rw [List.length_drop, ← size_eq] at this
    simp at this
    omega
  have h1 := letters_step _ hl
  rw [isText_step _ hl, Bool.and_eq_true] at ht
  obtain ⟨ht, ht'⟩ := ht
  rw [decodeL_drop] at h1 ht'
  rw [List.drop_drop] at h1 ht'
  have ht := of_decide_eq_true ht
  rcases head_shape _ hl with ⟨_, e, hL⟩ | ⟨_, _, e, _⟩
  · rw [decodeL_drop] at e hL
    rw [e] at h1
    exact ⟨h1, ht', hL⟩
  · omega
theorem next_end (s : ByteArray) (pos : Nat) (h : ¬ pos < s.size) : letters (s.data.toList.drop pos) = [] := by
  rw [List.drop_of_length_le (by rw [← size_eq]; omega)]
  rfl

/-! ### units -/
/-- the bytes of a letter's units -/
def unitBytes (r : Int) : List Int :=
  if r < 65536 then [r % 256, r / 256] else [(55296 + (r - 65536) / 1024) % 256, (55296 + (r - 65536) / 1024) / 256, (56320 + (r - 65536) % 1024) % 256, (56320 + (r - 65536) % 1024) / 256]
def putBytes (rs : List Int) : List Int := rs.flatMap unitBytes
def unitCount : List Int → Nat
  | [] => 0
  | r :: rs => (if r < 65536 then 1 else 2) + unitCount rs
theorem putBytes_length (rs : List Int) : (putBytes rs).length = 2 * unitCount rs := by
  induction rs with
  | nil => rfl
  | cons r rs ih =>
    have : (unitBytes r).length = 2 * (if r < 65536 then 1 else 2) := by unfold unitBytes; split <;> rfl
    unfold putBytes at ih ⊢
    rw [List.flatMap_cons, List.length_append, ih, this, unitCount]
    omega
theorem unitCount_le (rs : List Int) : unitCount rs ≤ 2 * rs.length := by
  induction rs with
  | nil => exact Nat.le_refl _
  | cons r rs ih => rw [unitCount, List.length_cons]; split <;> omega
theorem putBytes_append (rs qs : List Int) : putBytes (rs ++ qs) = putBytes rs ++ putBytes qs := by simp [putBytes]
theorem unitBytes_byte {r : Int} (h : IsLetter r) : Bytes (unitBytes r) := by
  obtain ⟨h0, h1, h2⟩ := h
  unfold unitBytes
  intro x hx
  split at hx
  · simp at hx; omega
  · simp at hx; omega
theorem putBytes_byte {rs : List Int} (h : ∀ r ∈ rs, IsLetter r) : Bytes (putBytes rs) := by
  intro x hx
  obtain ⟨r, hr, hx⟩ := List.mem_flatMap.1 hx
  exact unitBytes_byte (h r hr) x hx

/-- what Put answers of a row of bytes; its error; how many units -/
def putOfL (l : List UInt8) : List Int := if isText l = true then putBytes (letters l) else []
def textErr (l : List UInt8) : Int := if isText l = true then 0 else 5
def unitsOfL (l : List UInt8) : Nat := if isText l = true then unitCount (letters l) else 0
theorem putOfL_byte (l : List UInt8) : Bytes (putOfL l) := by
  unfold putOfL
  split
  · exact putBytes_byte (isText_letters (by assumption))
  · exact Bytes.nil
theorem putOfL_length (l : List UInt8) : (putOfL l).length = 2 * unitsOfL l := by
  unfold putOfL unitsOfL
  split
  · exact putBytes_length _
  · rfl
theorem unitsOfL_le (l : List UInt8) : unitsOfL l ≤ 2 * l.length := by
  unfold unitsOfL
  have := unitCount_le (letters l)
  have := letters_le l
  split <;> omega
end Go.Proofs.YtaggjlobmikagaaDoor
