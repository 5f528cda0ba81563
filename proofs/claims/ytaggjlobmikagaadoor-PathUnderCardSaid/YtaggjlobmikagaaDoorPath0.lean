/-
  Layer 6 without the program: names, paths as names with 92 between, what is alike, what is under what. No program is named here.
-/
import Derived.Test.YtaggjlobmikagaaDoorGlob1
namespace Go.Proofs.YtaggjlobmikagaaDoor
open Go.Lib

/-- may a letter not be in a name -/
def barB (n : Int) : Bool := decide (n < 32) || n == 92 || n == 47 || n == 58 || n == 42 || n == 63 || n == 34 || n == 60 || n == 62 || n == 124
/-- may these letters be a name -/
def nameL (rs : List Int) : Bool := decide (1 ≤ rs.length) && decide (rs.length ≤ 32) && rs.all (fun r => !barB r) && !(rs.getD (rs.length - 1) 0 == 32) && !(rs.getD (rs.length - 1) 0 == 46)
def nameOf (l : List UInt8) : Bool := isText l && nameL (letters l)

/-! ### a letter below 128 is its byte -/

theorem mem_enc_low {r : Int} (h : IsOne r) : ∀ b ∈ enc r, b.toNat < 128 → r = (b.toNat : Int) := by
  rcases h with h | h
  · rw [enc_letter h]
    obtain ⟨h0, h3, h4⟩ := h
    intro b hb hlt
    unfold encodeRune at hb
    obtain ⟨z, hz, rfl⟩ := List.mem_map.1 hb
    have key : (z = r ∧ r ≤ 127) ∨ (128 ≤ z ∧ z ≤ 255) := by
      by_cases c1 : r ≤ 127
      · rw [encodeRuneZ_one h0 c1] at hz
        exact .inl ⟨by simpa using hz, c1⟩
      · right
        revert hz
        unfold encodeRuneZ
        repeat' split
        all_goals (intro hz; simp only [List.mem_cons, List.not_mem_nil, or_false] at hz; omega)
    rw [u8_toNat] at hlt ⊢
    rcases key with ⟨rfl, _⟩ | _ <;> omega
  · intro b hb hlt
    unfold enc at hb
    rw [if_pos (by omega)] at hb
    obtain rfl := List.mem_singleton.1 hb
    rw [u8_toNat] at hlt
    omega
theorem mem_letters_low {l : List UInt8} {b : UInt8} (hb : b ∈ l) (hlt : b.toNat < 128) : (b.toNat : Int) ∈ letters l := by
  rw [← letters_enc l] at hb
  obtain ⟨r, hr, hbr⟩ := List.mem_flatMap.1 hb
  rw [← mem_enc_low (letters_one l r hr) b hbr hlt]
  exact hr

theorem nameL_ne {rs : List Int} (h : nameL rs = true) : rs ≠ [] := by
  rintro rfl
  simp [nameL] at h
theorem name_bar {l : List UInt8} (h : nameOf l = true) : ∀ b ∈ l, b ≠ 92 := by
  rintro b hb rfl
  unfold nameOf nameL at h
  simp only [Bool.and_eq_true] at h
  have := List.all_eq_true.1 h.2.1.1.2 92 (mem_letters_low hb (by decide))
  revert this
  decide
theorem name_ne {l : List UInt8} (h : nameOf l = true) : l ≠ [] := by
  rintro rfl
  unfold nameOf at h
  rw [letters_nil, Bool.and_eq_true] at h
  exact nameL_ne h.2 rfl
theorem name_text {l : List UInt8} (h : nameOf l = true) : isText l = true := by
  unfold nameOf at h
  rw [Bool.and_eq_true] at h
  exact h.1
theorem name_len {l : List UInt8} (h : nameOf l = true) : (letters l).length ≤ 32 := by
  unfold nameOf nameL at h
  simp only [Bool.and_eq_true, decide_eq_true_eq] at h
  exact h.2.1.1.1.2
theorem enc_flat_le (rs : List Int) : (rs.flatMap enc).length ≤ 4 * rs.length := by
  induction rs with
  | nil => simp
  | cons r rs ih =>
    have := enc_le (r := r)
    rw [List.flatMap_cons, List.length_append, List.length_cons]
    omega
theorem name_bytes {l : List UInt8} (h : nameOf l = true) : l.length ≤ 128 := by
  have h1 := name_len h
  have h2 := enc_flat_le (letters l)
  rw [letters_enc] at h2
  omega

/-! ### folded -/

theorem barB_fold (r : Int) : barB (foldR r) = barB r := by
  unfold foldR
  split
  · have h1 : ∀ n : Int, 65 ≤ n → n ≤ 122 → n ≠ 92 → barB n = false := by
      intro n a b c
      unfold barB
      simp only [Bool.or_eq_false_iff, decide_eq_false_iff_not, beq_eq_false_iff_ne]
      omega
    rw [h1 (r + 32) (by omega) (by omega) (by omega), h1 r (by omega) (by omega) (by omega)]
  · rfl
theorem nameL_fold (rs : List Int) : nameL (rs.map foldR) = nameL rs := by
  unfold nameL
  rw [List.length_map, List.all_map]
  have e1 : ((fun r => !barB r) ∘ foldR) = fun r => !barB r := by
    funext r
    simp only [Function.comp, barB_fold]
  have e2 : ∀ k, (rs.map foldR).getD k 0 = foldR (rs.getD k 0) := by
    intro k
    simp only [List.getD_eq_getElem?_getD, List.getElem?_map]
    cases rs[k]? <;> rfl
  have e3 : ∀ r c : Int, c < 65 → (foldR r == c) = (r == c) := by
    intro r c hc
    rw [Bool.eq_iff_iff, beq_iff_eq, beq_iff_eq]
    unfold foldR
    split <;> omega
  rw [e1, e2, e3 _ 32 (by omega), e3 _ 46 (by omega)]
theorem name_fold (l : List UInt8) : nameOf (foldB l) = nameOf l := by
  unfold nameOf
  rw [isText_fold, letters_low, nameL_fold]
theorem lowB_sep (b : UInt8) : lowB b = 92 ↔ b = 92 := by
  rw [← UInt8.toNat_inj, ← UInt8.toNat_inj, lowB_toNat]
  have : (92 : UInt8).toNat = 92 := rfl
  rw [this]
  unfold lowN
  split <;> omega

/-! ### cut at 92, and put together -/

def splitB : List UInt8 → List (List UInt8)
  | [] => [[]]
  | b :: r => if b = 92 then [] :: splitB r else match splitB r with
    | [] => [[b]]
    | p :: ps => (b :: p) :: ps
def joinB : List (List UInt8) → List UInt8
  | [] => []
  | [p] => p
  | p :: q :: ps => p ++ 92 :: joinB (q :: ps)

theorem split_ne (l : List UInt8) : splitB l ≠ [] := by
  cases l with
  | nil => simp [splitB]
  | cons b r =>
    unfold splitB
    split
    · simp
    · split <;> simp
theorem split_sep (r : List UInt8) : splitB (92 :: r) = [] :: splitB r := by simp [splitB]
theorem split_cons {b : UInt8} (h : b ≠ 92) (r : List UInt8) : ∃ p ps, splitB r = p :: ps ∧ splitB (b :: r) = (b :: p) :: ps := by
  cases hs : splitB r with
  | nil => exact absurd hs (split_ne r)
  | cons p ps => exact ⟨p, ps, rfl, by rw [splitB, if_neg h, hs]⟩
theorem split_plain {p : List UInt8} (h : ∀ b ∈ p, b ≠ 92) : splitB p = [p] := by
  induction p with
  | nil => rfl
  | cons b p ih =>
    obtain ⟨q, qs, h1, h2⟩ := split_cons (h b List.mem_cons_self) p
    rw [ih fun c hc => h c (List.mem_cons_of_mem _ hc)] at h1
    cases h1
    exact h2
theorem split_front {p : List UInt8} (h : ∀ b ∈ p, b ≠ 92) (r : List UInt8) : splitB (p ++ 92 :: r) = p :: splitB r := by
  induction p with
  | nil => exact split_sep r
  | cons b p ih =>
    obtain ⟨q, qs, h1, h2⟩ := split_cons (h b List.mem_cons_self) (p ++ 92 :: r)
    rw [ih fun c hc => h c (List.mem_cons_of_mem _ hc)] at h1
    cases h1
    exact h2
theorem join_cons (p : List UInt8) {ps : List (List UInt8)} (h : ps ≠ []) : joinB (p :: ps) = p ++ 92 :: joinB ps := by
  cases ps with
  | nil => exact absurd rfl h
  | cons q qs => rfl
/-- what was put together comes apart as it was -/
theorem split_join {ps : List (List UInt8)} (hne : ps ≠ []) (h : ∀ p ∈ ps, ∀ b ∈ p, b ≠ 92) : splitB (joinB ps) = ps := by
  induction ps with
  | nil => exact absurd rfl hne
  | cons p ps ih =>
    by_cases hp : ps = []
    · subst hp
      exact split_plain (h p List.mem_cons_self)
    · rw [join_cons p hp, split_front (h p List.mem_cons_self), ih hp fun q hq => h q (List.mem_cons_of_mem _ hq)]
/-- what was cut is put together again -/
theorem join_split (l : List UInt8) : joinB (splitB l) = l := by
  induction l with
  | nil => rfl
  | cons b r ih =>
    by_cases h : b = 92
    · subst h
      rw [split_sep, join_cons _ (split_ne r), ih]
      rfl
    · obtain ⟨p, ps, h1, h2⟩ := split_cons h r
      rw [h2]
      rw [h1] at ih
      by_cases hp : ps = []
      · subst hp
        exact congrArg (b :: ·) ih
      · rw [join_cons _ hp] at ih ⊢
        rw [List.cons_append, ih]
theorem split_fold (l : List UInt8) : splitB (foldB l) = (splitB l).map foldB := by
  induction l with
  | nil => rfl
  | cons b r ih =>
    have e : foldB (b :: r) = lowB b :: foldB r := rfl
    rw [e]
    by_cases h : b = 92
    · subst h
      have : lowB 92 = 92 := (lowB_sep 92).2 rfl
      rw [this, split_sep, split_sep, ih]
      rfl
    · obtain ⟨p, ps, h1, h2⟩ := split_cons h r
      obtain ⟨q, qs, h3, h4⟩ := split_cons (fun he => h ((lowB_sep b).1 he)) (foldB r)
      rw [h4, h2]
      rw [ih, h1] at h3
      cases h3
      rfl
theorem join_fold (ps : List (List UInt8)) : foldB (joinB ps) = joinB (ps.map foldB) := by
  induction ps with
  | nil => rfl
  | cons p ps ih =>
    by_cases hp : ps = []
    · subst hp; rfl
    · rw [join_cons p hp, List.map_cons, join_cons _ (by simpa using hp), foldB_append, ← ih]
      rfl
theorem join_eq_nil {ps : List (List UInt8)} (h : ∀ p ∈ ps, p ≠ []) (he : joinB ps = []) : ps = [] := by
  cases ps with
  | nil => rfl
  | cons p ps =>
    exfalso
    have hp := h p List.mem_cons_self
    by_cases hn : ps = []
    · subst hn; exact hp he
    · rw [join_cons p hn] at he
      exact hp (List.append_eq_nil_iff.1 he).1

/-! ### paths -/

def partsOf (l : List UInt8) : List (List UInt8) := if l = [] then [] else splitB l
def namesErr (ps : List (List UInt8)) : Int := if ps.all nameOf = false then 2 else if 8 < ps.length then 3 else 0
def parseErr (l : List UInt8) : Int := namesErr (partsOf l)
def parseOf (l : List UInt8) : List (List UInt8) := if parseErr l = 0 then partsOf l else []
def joinOf (ps : List (List UInt8)) : List UInt8 := if namesErr ps = 0 then joinB ps else []

theorem namesErr_ok {ps : List (List UInt8)} : namesErr ps = 0 ↔ (∀ p ∈ ps, nameOf p = true) ∧ ps.length ≤ 8 := by
  unfold namesErr
  split
  · rename_i h
    constructor
    · intro h0; exact absurd h0 (by decide)
    · rintro ⟨h1, _⟩
      rw [List.all_eq_true.2 h1] at h
      cases h
  · rename_i h
    have h' : ps.all nameOf = true := by simpa using h
    rw [List.all_eq_true] at h'
    split
    · constructor
      · intro h0; exact absurd h0 (by decide)
      · rintro ⟨_, h1⟩; omega
    · exact ⟨fun _ => ⟨h', by omega⟩, fun _ => rfl⟩
theorem parts_join {ps : List (List UInt8)} (h : ∀ p ∈ ps, nameOf p = true) : partsOf (joinB ps) = ps := by
  unfold partsOf
  by_cases hn : ps = []
  · subst hn; rfl
  · rw [if_neg fun he => hn (join_eq_nil (fun p hp => name_ne (h p hp)) he)]
    exact split_join hn fun p hp => name_bar (h p hp)
theorem join_parts (l : List UInt8) : joinB (partsOf l) = l := by
  unfold partsOf
  split
  · rename_i h; rw [h]; rfl
  · exact join_split l
theorem parts_fold (l : List UInt8) : partsOf (foldB l) = (partsOf l).map foldB := by
  unfold partsOf
  by_cases h : l = []
  · subst h; rfl
  · rw [if_neg h, if_neg (by simpa [foldB] using h), split_fold]
theorem namesErr_fold (ps : List (List UInt8)) : namesErr (ps.map foldB) = namesErr ps := by
  unfold namesErr
  rw [List.all_map, List.length_map]
  have e : nameOf ∘ foldB = nameOf := by
    funext l
    exact name_fold l
  rw [e]
theorem parseErr_fold (l : List UInt8) : parseErr (foldB l) = parseErr l := by
  unfold parseErr
  rw [parts_fold, namesErr_fold]
theorem parseOf_fold (l : List UInt8) : parseOf (foldB l) = (parseOf l).map foldB := by
  unfold parseOf
  rw [parseErr_fold, parts_fold]
  split <;> rfl
/-- P6.4: names come back of their path -/
theorem parse_join {ps : List (List UInt8)} (h : namesErr ps = 0) : parseErr (joinB ps) = 0 ∧ parseOf (joinB ps) = ps := by
  have hp := parts_join (namesErr_ok.1 h).1
  have he : parseErr (joinB ps) = 0 := by unfold parseErr; rw [hp]; exact h
  exact ⟨he, by unfold parseOf; rw [if_pos he, hp]⟩
/-- P6.4: a path of its names -/
theorem join_parse {l : List UInt8} (h : parseErr l = 0) : namesErr (parseOf l) = 0 ∧ joinB (parseOf l) = l := by
  unfold parseOf
  rw [if_pos h]
  exact ⟨h, join_parts l⟩
theorem parse_len {l : List UInt8} (h : parseErr l = 0) : (parseOf l).length ≤ 8 := by
  unfold parseOf
  rw [if_pos h]
  exact (namesErr_ok.1 h).2

/-! ### alike, under -/

def alikeP (a b : List UInt8) : Bool := decide (parseErr a = 0 ∧ parseErr b = 0 ∧ (parseOf a).map foldB = (parseOf b).map foldB)
def underP (a b : List UInt8) : Bool := decide (parseErr a = 0 ∧ parseErr b = 0 ∧ (parseOf b).length < (parseOf a).length ∧ ((parseOf a).take (parseOf b).length).map foldB = (parseOf b).map foldB)
theorem alikeP_iff {a b : List UInt8} : alikeP a b = true ↔ parseErr a = 0 ∧ parseErr b = 0 ∧ (parseOf a).map foldB = (parseOf b).map foldB := decide_eq_true_iff
theorem underP_iff {a b : List UInt8} : underP a b = true ↔ parseErr a = 0 ∧ parseErr b = 0 ∧ (parseOf b).length < (parseOf a).length ∧ ((parseOf a).take (parseOf b).length).map foldB = (parseOf b).map foldB := decide_eq_true_iff
theorem under_self (a : List UInt8) : underP a a = false := by
  rw [Bool.eq_false_iff]
  intro h
  have := (underP_iff.1 h).2.2.1
  omega
theorem under_flip {a b : List UInt8} (h : underP a b = true) : underP b a = false := by
  rw [Bool.eq_false_iff]
  intro h2
  have h1 := (underP_iff.1 h).2.2.1
  have h3 := (underP_iff.1 h2).2.2.1
  omega
theorem under_trans {a b c : List UInt8} (h : underP a b = true) (h2 : underP b c = true) : underP a c = true := by
  obtain ⟨h1, _, h3, h4⟩ := underP_iff.1 h
  obtain ⟨_, h6, h7, h8⟩ := underP_iff.1 h2
  refine underP_iff.2 ⟨h1, h6, by omega, ?_⟩
  rw [← h8, List.map_take, List.map_take, ← h4, List.map_take, List.take_take, Nat.min_eq_left (by omega)]
theorem under_alike {a b : List UInt8} (h : underP a b = true) : alikeP a b = false := by
  rw [Bool.eq_false_iff]
  intro h2
  have h1 := (underP_iff.1 h).2.2.1
  have h3 := congrArg List.length (alikeP_iff.1 h2).2.2
  rw [List.length_map, List.length_map] at h3
  omega
theorem alike_self {a : List UInt8} (h : parseErr a = 0) : alikeP a a = true := alikeP_iff.2 ⟨h, h, rfl⟩
theorem map_fold_twice (ps : List (List UInt8)) : (ps.map foldB).map foldB = ps.map foldB := by
  rw [List.map_map]
  congr 1
  funext l
  exact foldB_twice l
theorem alike_fold {a : List UInt8} (h : parseErr a = 0) : alikeP a (foldB a) = true := alikeP_iff.2 ⟨h, (parseErr_fold a).trans h, by rw [parseOf_fold, map_fold_twice]⟩
/-- P6.3: alike just if they have the same names, folded -/
theorem alike_names {a b : List UInt8} (h : parseErr a = 0) (h2 : parseErr b = 0) : alikeP a b = decide (foldB a = foldB b) := by
  unfold alikeP
  refine decide_eq_decide.2 ⟨fun h3 => ?_, fun h3 => ⟨h, h2, ?_⟩⟩
  · rw [← (join_parse h).2, ← (join_parse h2).2, join_fold, join_fold, h3.2.2]
  · rw [← parseOf_fold, ← parseOf_fold, h3]
theorem alike_bad {a b : List UInt8} (h : parseErr a ≠ 0 ∨ parseErr b ≠ 0) : alikeP a b = false ∧ underP a b = false := by
  constructor
  · rw [Bool.eq_false_iff]
    intro h2
    obtain ⟨h3, h4, _⟩ := alikeP_iff.1 h2
    rcases h with h | h <;> contradiction
  · rw [Bool.eq_false_iff]
    intro h2
    obtain ⟨h3, h4, _⟩ := underP_iff.1 h2
    rcases h with h | h <;> contradiction

/-! ### the parent's -/

def parentErr (l : List UInt8) : Int := if parseErr l ≠ 0 then parseErr l else if l = [] then 2 else 0
def dirOf (l : List UInt8) : List UInt8 := if parentErr l = 0 then joinB (parseOf l).dropLast else []
def lastOf (l : List UInt8) : List UInt8 := if parentErr l = 0 then (parseOf l).getLast?.getD [] else []
theorem parentErr_ok {l : List UInt8} : parentErr l = 0 ↔ parseErr l = 0 ∧ l ≠ [] := by
  unfold parentErr
  split
  · rename_i h
    exact ⟨fun h0 => absurd h0 h, fun h0 => absurd h0.1 h⟩
  · rename_i h
    have h' : parseErr l = 0 := by simpa using h
    split
    · rename_i h2
      exact ⟨fun h0 => absurd h0 (by decide), fun h0 => absurd h2 h0.2⟩
    · rename_i h2
      exact ⟨fun _ => ⟨h', h2⟩, fun _ => rfl⟩
theorem parse_root {l : List UInt8} (h : parseErr l = 0) : parseOf l = [] ↔ l = [] := by
  constructor
  · intro h2
    have := (join_parse h).2
    rw [h2] at this
    exact this.symm
  · rintro rfl
    rfl
/-- P6.4: of a path that has a parent's -/
theorem parent_facts {l : List UInt8} (h : parentErr l = 0) :
    parseOf l = parseOf (dirOf l) ++ [lastOf l] ∧ parseErr (dirOf l) = 0 ∧ nameOf (lastOf l) = true ∧ underP l (dirOf l) = true ∧ (∀ t, underP t l = true → underP t (dirOf l) = true) ∧ namesErr (parseOf (dirOf l) ++ [lastOf l]) = 0 ∧ joinB (parseOf (dirOf l) ++ [lastOf l]) = l := by
  obtain ⟨h1, h2⟩ := parentErr_ok.1 h
  have hne : parseOf l ≠ [] := fun he => h2 ((parse_root h1).1 he)
  obtain ⟨h3, h4⟩ := join_parse h1
  obtain ⟨h5, h6⟩ := namesErr_ok.1 h3
  have e0 : (parseOf l).dropLast ++ [lastOf l] = parseOf l := by
    unfold lastOf
    rw [if_pos h, List.getLast?_eq_some_getLast hne]
    exact List.dropLast_concat_getLast hne
  have hd : namesErr (parseOf l).dropLast = 0 := namesErr_ok.2 ⟨fun p hp => h5 p (List.dropLast_subset _ hp), by rw [List.length_dropLast]; omega⟩
  obtain ⟨h7, h8⟩ := parse_join hd
  have ed : dirOf l = joinB (parseOf l).dropLast := if_pos h
  rw [ed, h8, e0]
  have hu : underP l (joinB (parseOf l).dropLast) = true := by
    refine underP_iff.2 ⟨h1, h7, ?_, ?_⟩
    · rw [h8, List.length_dropLast]
      have := List.length_pos_iff.2 hne
      omega
    · rw [h8, List.length_dropLast, ← List.dropLast_eq_take]
  exact ⟨rfl, h7, h5 _ (by rw [← e0]; simp), hu, fun t ht => under_trans ht hu, h3, h4⟩
end Go.Proofs.YtaggjlobmikagaaDoor
