/-
  Layer 7 (head), words: a head as numbers and a signature ('Hd'), what may be, its bytes, what stands in bytes; what the two ways to read it (the program's and the document's) come to. No program is named here.
-/
import Derived.Test.YtgbhnnobbciemaaWords
namespace Go.Proofs.Ytgbhnnobbciemaa
set_option maxRecDepth 100000

/-- a head: its numbers in their order, and the signature -/
structure Hd where
  ch : Int
  st : Int
  cm : Int
  cr : Int
  fl : Int
  nx : Int
  id : Int
  asy : Int
  tr : Int
  se : Int
  sg : List Int

def Hd.tup (h : Hd) : List Int := h.ch :: h.st :: h.cm :: h.cr :: h.fl :: h.nx :: h.id :: h.asy :: h.tr :: h.se :: h.sg
theorem Hd.tup_inj {a b : Hd} : a.tup = b.tup ↔ a = b := by
  cases a
  cases b
  simp [Hd.tup]
instance : DecidableEq Hd := fun _ _ => decidable_of_iff _ Hd.tup_inj

/-- each number is one of its kind -/
structure Hd.ok (h : Hd) : Prop where
  ch : 0 ≤ h.ch ∧ h.ch ≤ 65535
  st : 0 ≤ h.st ∧ h.st ≤ 4294967295
  cm : 0 ≤ h.cm ∧ h.cm ≤ 65535
  cr : 0 ≤ h.cr ∧ h.cr ≤ 65535
  fl : 0 ≤ h.fl ∧ h.fl ≤ 4294967295
  nx : 0 ≤ h.nx ∧ h.nx ≤ 4294967295
  id : 0 ≤ h.id ∧ h.id ≤ 18446744073709551615
  asy : 0 ≤ h.asy ∧ h.asy ≤ 18446744073709551615
  tr : 0 ≤ h.tr ∧ h.tr ≤ 4294967295
  se : 0 ≤ h.se ∧ h.se ≤ 18446744073709551615
  len : h.sg.length = 16
  byte : Bytes h.sg

def zeroHd : Hd := ⟨0, 0, 0, 0, 0, 0, 0, 0, 0, 0, List.replicate 16 0⟩
theorem zeroHd_ok : zeroHd.ok := ⟨by decide, by decide, by decide, by decide, by decide, by decide, by decide, by decide, by decide, by decide, by decide, Bytes.zeros 16⟩

def commands : List Int := [0, 1, 2, 3, 4, 5, 6, 7, 8, 9, 10, 12, 13, 14, 16, 17, 18]
def known (c : Int) : Bool := commands.contains c
def isAs (f : Int) : Bool := decide (f / 2 % 2 = 1)
def mayP (h : Hd) : Bool := known h.cm && (decide (h.fl < 16) && (if isAs h.fl = true then decide (h.tr = 0) else decide (h.asy = 0)))
def kindP (h : Hd) : Hd := if isAs h.fl = true then { h with tr := 0 } else { h with asy := 0 }
def aot (h : Hd) : Int := if isAs h.fl = true then h.asy else h.tr * 4294967296

theorem kindP_eq (h : Hd) : decide (h = kindP h) = (if isAs h.fl = true then decide (h.tr = 0) else decide (h.asy = 0)) := by
  obtain ⟨ch, st, cm, cr, fl, nx, id, asy, tr, se, sg⟩ := h
  unfold kindP
  by_cases hi : isAs fl = true
  · rw [if_pos hi, if_pos hi]; simp
  · rw [if_neg hi, if_neg hi]; simp
theorem kindP_ok {h : Hd} (k : h.ok) : (kindP h).ok := by
  unfold kindP
  split
  · exact ⟨k.ch, k.st, k.cm, k.cr, k.fl, k.nx, k.id, k.asy, ⟨Int.le_refl 0, (by omega : (0 : Int) ≤ 4294967295)⟩, k.se, k.len, k.byte⟩
  · exact ⟨k.ch, k.st, k.cm, k.cr, k.fl, k.nx, k.id, ⟨Int.le_refl 0, (by omega : (0 : Int) ≤ 18446744073709551615)⟩, k.tr, k.se, k.len, k.byte⟩
theorem aot_bounds {h : Hd} (k : h.ok) : 0 ≤ aot h ∧ aot h ≤ 18446744073709551615 := by
  have h1 := k.asy
  have h2 := k.tr
  unfold aot
  split <;> omega

/-! ### bytes of a head -/
def szs : List Nat := [4, 2, 2, 4, 2, 2, 4, 4, 8, 8, 8]
def offs : List Nat := [0, 4, 6, 8, 12, 14, 16, 20, 24, 32, 40, 48]
def vals (h : Hd) : List Int := [1112364030, 64, h.ch, h.st, h.cm, h.cr, h.fl, h.nx, h.id, aot h, h.se]
/-- the bytes of the first k numbers -/
def pre (h : Hd) : Nat → List Int
  | 0 => []
  | k + 1 => pre h k ++ le ((vals h).getD k 0) (szs.getD k 0)
def putH (h : Hd) : List Int := pre h 11 ++ h.sg
def putErrH (h : Hd) : Int := if mayP h = true then 0 else 2
def putOfH (h : Hd) : List Int := if mayP h = true then putH h else []
/-- the row that Put fills, behind k rounds -/
def rowH (h : Hd) (k : Nat) : List Int := pre h k ++ List.replicate (64 - offs.getD k 0) 0

theorem eleven {p : Nat → Prop} (h0 : p 0) (h1 : p 1) (h2 : p 2) (h3 : p 3) (h4 : p 4) (h5 : p 5) (h6 : p 6) (h7 : p 7) (h8 : p 8) (h9 : p 9) (h10 : p 10) (k : Nat) (hk : k < 11) : p k := by
  match k, hk with
  | 0, _ => exact h0
  | 1, _ => exact h1
  | 2, _ => exact h2
  | 3, _ => exact h3
  | 4, _ => exact h4
  | 5, _ => exact h5
  | 6, _ => exact h6
  | 7, _ => exact h7
  | 8, _ => exact h8
  | 9, _ => exact h9
  | 10, _ => exact h10

theorem offs_step : ∀ k, k < 11 → offs.getD (k + 1) 0 = offs.getD k 0 + szs.getD k 0 ∧ offs.getD k 0 + szs.getD k 0 ≤ 48 ∧ 2 ≤ szs.getD k 0 ∧ szs.getD k 0 ≤ 8 := by decide
theorem size_of (k : Nat) (hk : k < 11) : sizeOk (szs.getD k 0 : Nat) = true := by
  revert hk
  exact eleven (p := fun k => sizeOk (szs.getD k 0 : Nat) = true) (by decide) (by decide) (by decide) (by decide) (by decide) (by decide) (by decide) (by decide) (by decide) (by decide) (by decide) k
theorem pre_len (h : Hd) (k : Nat) (hk : k ≤ 11) : (pre h k).length = offs.getD k 0 := by
  induction k with
  | zero => rfl
  | succ k ih =>
    have h1 := offs_step k (by omega)
    rw [pre, List.length_append, ih (by omega), le_length]
    omega
theorem pre_bytes (h : Hd) (k : Nat) : Bytes (pre h k) := by
  induction k with
  | zero => exact Bytes.nil
  | succ k ih => exact ih.append (le_bytes _ _)
theorem putH_len {h : Hd} (hs : h.sg.length = 16) : (putH h).length = 64 := by
  unfold putH
  rw [List.length_append, pre_len h 11 (by omega), hs]
  rfl
theorem putH_bytes {h : Hd} (hb : Bytes h.sg) : Bytes (putH h) := (pre_bytes h 11).append hb
theorem rowH_zero (h : Hd) : rowH h 0 = List.replicate 64 0 := rfl
theorem rowH_len (h : Hd) (k : Nat) (hk : k ≤ 11) : (rowH h k).length = 64 := by
  unfold rowH
  rw [List.length_append, pre_len h k hk, List.length_replicate]
  have : ∀ k, k ≤ 11 → offs.getD k 0 ≤ 64 := by decide
  have := this k hk
  omega
/-- one round of Put -/
theorem rowH_step (h : Hd) (k : Nat) (hk : k < 11) : (rowH h k).take (offs.getD k 0) ++ le ((vals h).getD k 0) (szs.getD k 0) ++ (rowH h k).drop (offs.getD k 0 + szs.getD k 0) = rowH h (k + 1) := by
  have h1 := offs_step k hk
  unfold rowH
  rw [List.take_left' (pre_len h k (by omega)), List.drop_append, List.drop_of_length_le (by rw [pre_len h k (by omega)]; omega), pre_len h k (by omega), List.nil_append, List.drop_replicate, pre, h1.1]
  congr 2
  omega
theorem rowH_last (h : Hd) : (rowH h 11).take 48 ++ h.sg ++ (rowH h 11).drop 64 = putH h := by
  have e : (rowH h 11).length = 64 := rowH_len h 11 (by omega)
  rw [List.drop_of_length_le (by omega)]
  unfold rowH putH
  rw [List.take_left' (by rw [pre_len h 11 (by omega)]; rfl), List.append_nil]

/-! ### what stands in bytes -/
/-- the number at place a in s bytes -/
def numAt (xs : List Int) (a s : Nat) : Int := num ((xs.drop a).take s)
/-- a head that takes its number k -/
def setK (k : Nat) (n : Int) (h : Hd) : Hd :=
  if k = 2 then { h with ch := n } else if k = 3 then { h with st := n } else if k = 4 then { h with cm := n } else if k = 5 then { h with cr := n } else if k = 6 then { h with fl := n } else if k = 7 then { h with nx := n }
  else if k = 8 then { h with id := n } else if k = 9 then (if isAs h.fl = true then { h with asy := n } else { h with tr := n / 4294967296 }) else if k = 10 then { h with se := n } else h
/-- what was taken behind k rounds -/
def tk (xs : List Int) : Nat → Hd
  | 0 => zeroHd
  | k + 1 => setK k (numAt xs (offs.getD k 0) (szs.getD k 0)) (tk xs k)
def takenP (xs : List Int) : Hd := { tk xs 11 with sg := (xs.drop 48).take 16 }

theorem takenP_eq (xs : List Int) : takenP xs = ⟨numAt xs 6 2, numAt xs 8 4, numAt xs 12 2, numAt xs 14 2, numAt xs 16 4, numAt xs 20 4, numAt xs 24 8, if isAs (numAt xs 16 4) = true then numAt xs 32 8 else 0,
    if isAs (numAt xs 16 4) = true then 0 else numAt xs 32 8 / 4294967296, numAt xs 40 8, (xs.drop 48).take 16⟩ := by
  have e9 : tk xs 9 = ⟨numAt xs 6 2, numAt xs 8 4, numAt xs 12 2, numAt xs 14 2, numAt xs 16 4, numAt xs 20 4, numAt xs 24 8, 0, 0, 0, List.replicate 16 0⟩ := rfl
  unfold takenP
  rw [show tk xs 11 = setK 10 (numAt xs 40 8) (setK 9 (numAt xs 32 8) (tk xs 9)) from rfl, e9]
  unfold setK
  by_cases hi : isAs (numAt xs 16 4) = true
  · simp [hi]
  · simp [hi]

theorem numAt_bounds (xs : List Int) (hx : Bytes xs) (a s : Nat) (M : Int) (hM : (256 : Int) ^ s = M) : 0 ≤ numAt xs a s ∧ numAt xs a s ≤ M - 1 := by
  have h1 := num_bounds ((xs.drop a).take s) ((hx.drop a).take s)
  have hl : ((xs.drop a).take s).length ≤ s := by simp; omega
  have h2 : (256 : Int) ^ ((xs.drop a).take s).length ≤ 256 ^ s := by
    have h3 : (256 : Nat) ^ ((xs.drop a).take s).length ≤ 256 ^ s := Nat.pow_le_pow_right (by omega) hl
    have h4 : (((256 : Nat) ^ ((xs.drop a).take s).length : Nat) : Int) ≤ ((256 ^ s : Nat) : Int) := Int.ofNat_le.2 h3
    simpa [Int.natCast_pow] using h4
  unfold numAt
  omega
theorem numAt_k (xs : List Int) (hx : Bytes xs) (k : Nat) : 0 ≤ numAt xs (offs.getD k 0) (szs.getD k 0) ∧ numAt xs (offs.getD k 0) (szs.getD k 0) < 256 ^ szs.getD k 0 := by
  have := numAt_bounds xs hx (offs.getD k 0) (szs.getD k 0) _ rfl
  omega

theorem takenP_ok (xs : List Int) (hx : Bytes xs) (hl : xs.length = 64) : (takenP xs).ok := by
  have n2 := fun a => numAt_bounds xs hx a 2 65536 (by decide)
  have n4 := fun a => numAt_bounds xs hx a 4 4294967296 (by decide)
  have n8 := fun a => numAt_bounds xs hx a 8 18446744073709551616 (by decide)
  rw [takenP_eq]
  refine ⟨?_, ?_, ?_, ?_, ?_, ?_, ?_, ?_, ?_, ?_, by simp; omega, (hx.drop 48).take 16⟩
  · have := n2 6; dsimp only; omega
  · have := n4 8; dsimp only; omega
  · have := n2 12; dsimp only; omega
  · have := n2 14; dsimp only; omega
  · have := n4 16; dsimp only; omega
  · have := n4 20; dsimp only; omega
  · have := n8 24; dsimp only; omega
  · have := n8 32; dsimp only; split <;> omega
  · have := n8 32; dsimp only; split <;> omega
  · have := n8 40; dsimp only; omega

theorem le_numAt (xs : List Int) (hx : Bytes xs) (a s : Nat) (h : a + s ≤ xs.length) : le (numAt xs a s) s = (xs.drop a).take s := by
  have h1 := le_num ((xs.drop a).take s) ((hx.drop a).take s)
  rwa [show ((xs.drop a).take s).length = s from by simp; omega] at h1
theorem le_inj (m n : Int) (s : Nat) (h0 : 0 ≤ m) (h1 : m < 256 ^ s) (k0 : 0 ≤ n) (k1 : n < 256 ^ s) (h : le m s = le n s) : m = n := by
  rw [← num_le m s h0 h1, ← num_le n s k0 k1, h]
theorem take_add_drop (xs : List Int) (a s : Nat) : xs.take a ++ (xs.drop a).take s = xs.take (a + s) := by rw [List.take_add]
theorem le_append (n : Int) (s t : Nat) : le n (s + t) = le n s ++ le (n / 256 ^ s) t := by
  induction s generalizing n with
  | zero => simp [le]
  | succ s ih =>
    rw [show s + 1 + t = (s + t) + 1 from by omega]
    simp only [le, List.cons_append]
    rw [ih, Int.pow_succ, Int.mul_comm, Int.ediv_ediv_of_nonneg (by decide)]
theorem num_append (xs ys : List Int) : num (xs ++ ys) = num xs + 256 ^ xs.length * num ys := by
  induction xs with
  | nil => simp [num]
  | cons x r ih =>
    simp only [List.cons_append, num, ih, List.length_cons, Int.pow_succ, Int.mul_add]
    rw [Int.mul_comm (256 ^ r.length) 256, Int.mul_assoc, Int.add_assoc]
theorem numAt_split (xs : List Int) (a : Nat) (h : a + 8 ≤ xs.length) : numAt xs a 8 = numAt xs a 4 + 4294967296 * numAt xs (a + 4) 4 := by
  unfold numAt
  have e : (xs.drop a).take 8 = (xs.drop a).take 4 ++ (xs.drop (a + 4)).take 4 := by
    rw [show (8 : Nat) = 4 + 4 from rfl, List.take_add, List.drop_drop]
  rw [e, num_append, show ((xs.drop a).take 4).length = 4 from by simp; omega]
  rfl

/-- the bytes that the document wants at the fixed places -/
def fixedP (xs : List Int) : Bool := decide (numAt xs 0 4 = 1112364030) && decide (numAt xs 4 2 = 64) && (isAs (numAt xs 16 4) || decide (numAt xs 32 4 = 0))
/-- is it a head's bytes -/
def headP (xs : List Int) : Bool := fixedP xs && mayP (takenP xs)

theorem pre_taken (xs : List Int) (hx : Bytes xs) (hl : xs.length = 64) (k : Nat) (hk : k ≤ 11) (hs : ∀ j, j < k → (vals (takenP xs)).getD j 0 = numAt xs (offs.getD j 0) (szs.getD j 0)) : pre (takenP xs) k = xs.take (offs.getD k 0) := by
  induction k with
  | zero => rfl
  | succ k ih =>
    have h1 := offs_step k (by omega)
    rw [pre, ih (by omega) (fun j hj => hs j (by omega)), hs k (by omega), le_numAt xs hx _ _ (by omega), take_add_drop, ← h1.1]

/-- what was taken, put again, is the bytes that it was taken of, just if what is fixed is right -/
theorem put_taken (xs : List Int) (hx : Bytes xs) (hl : xs.length = 64) : decide (putH (takenP xs) = xs) = fixedP xs := by
  have n4 := fun a => numAt_bounds xs hx a 4 4294967296 (by decide)
  have n8 := fun a => numAt_bounds xs hx a 8 18446744073709551616 (by decide)
  have e8 : numAt xs 32 8 = numAt xs 32 4 + 4294967296 * numAt xs 36 4 := numAt_split xs 32 (by omega)
  have hfl : (takenP xs).fl = numAt xs 16 4 := by rw [takenP_eq]
  have ha : aot (takenP xs) = if isAs (numAt xs 16 4) = true then numAt xs 32 8 else 4294967296 * numAt xs 36 4 := by
    have := n4 32
    unfold aot
    rw [hfl, takenP_eq]
    by_cases hi : isAs (numAt xs 16 4) = true
    · simp only [hi, if_true]
    · simp only [hi, Bool.false_eq_true, if_false]
      omega
  have hsg : (takenP xs).sg = xs.drop 48 := by
    rw [takenP_eq]
    exact List.take_of_length_le (by simp; omega)
  have hvals : vals (takenP xs) = [1112364030, 64, numAt xs 6 2, numAt xs 8 4, numAt xs 12 2, numAt xs 14 2, numAt xs 16 4, numAt xs 20 4, numAt xs 24 8, aot (takenP xs), numAt xs 40 8] := by
    unfold vals
    rw [takenP_eq]
  rw [Bool.eq_iff_iff, decide_eq_true_iff]
  constructor
  · intro h
    have hv : ∀ j, j < 11 → le ((vals (takenP xs)).getD j 0) (szs.getD j 0) = (xs.drop (offs.getD j 0)).take (szs.getD j 0) := by
      intro j hj
      have h1 := offs_step j hj
      have hlen : ∀ k, k ≤ 11 → pre (takenP xs) k = xs.take (offs.getD k 0) := by
        intro k hk
        have h2 : (pre (takenP xs) k).length = offs.getD k 0 := pre_len _ k hk
        have h3 : ∀ m k, k + m = 11 → ∃ r, pre (takenP xs) 11 = pre (takenP xs) k ++ r := by
          intro m
          induction m with
          | zero => intro k hk; exact ⟨[], by rw [List.append_nil, show k = 11 from by omega]⟩
          | succ m ih =>
            intro k hk
            obtain ⟨r, hr⟩ := ih (k + 1) (by omega)
            exact ⟨_, by rw [hr, pre, List.append_assoc]⟩
        obtain ⟨r, hr⟩ := h3 (11 - k) k (by omega)
        have h4 : pre (takenP xs) k ++ (r ++ (takenP xs).sg) = xs := by
          rw [← List.append_assoc, ← hr]
          exact h
        have h5 := congrArg (List.take (offs.getD k 0)) h4
        rwa [List.take_left' h2] at h5
      have e1 := hlen (j + 1) (by omega)
      rw [pre, hlen j (by omega), h1.1, ← take_add_drop] at e1
      exact List.append_cancel_left e1
    have v0 := hv 0 (by omega)
    have v1 := hv 1 (by omega)
    have v9 := hv 9 (by omega)
    rw [hvals] at v0 v1 v9
    change le 1112364030 4 = (xs.drop 0).take 4 at v0
    change le 64 2 = (xs.drop 4).take 2 at v1
    change le (aot (takenP xs)) 8 = (xs.drop 32).take 8 at v9
    have w0 : numAt xs 0 4 = 1112364030 := by unfold numAt; rw [← v0]; decide
    have w1 : numAt xs 4 2 = 64 := by unfold numAt; rw [← v1]; decide
    have w9 : numAt xs 32 8 = aot (takenP xs) := by
      unfold numAt
      rw [← v9, num_le _ _ (aot_bounds (takenP_ok xs hx hl)).1 (by have := (aot_bounds (takenP_ok xs hx hl)).2; have e : (256 : Int) ^ 8 = 18446744073709551616 := by decide
                                                                   omega)]
    unfold fixedP
    rw [w0, w1]
    by_cases hi : isAs (numAt xs 16 4) = true
    · simp [hi]
    · rw [ha, if_neg hi] at w9
      have := n4 32
      have : numAt xs 32 4 = 0 := by rw [e8] at w9; omega
      simp [this]
  · intro h
    unfold fixedP at h
    simp only [Bool.and_eq_true, Bool.or_eq_true, decide_eq_true_eq] at h
    obtain ⟨⟨h0, h1⟩, h9⟩ := h
    have h9' : aot (takenP xs) = numAt xs 32 8 := by
      rw [ha]
      by_cases hi : isAs (numAt xs 16 4) = true
      · rw [if_pos hi]
      · rw [if_neg hi, e8]
        rcases h9 with h9 | h9
        · exact absurd h9 hi
        · omega
    have hp := pre_taken xs hx hl 11 (by omega) (by
      rw [hvals, h9']
      exact fun j hj => eleven (p := fun j => List.getD [1112364030, 64, numAt xs 6 2, numAt xs 8 4, numAt xs 12 2, numAt xs 14 2, numAt xs 16 4, numAt xs 20 4, numAt xs 24 8, numAt xs 32 8, numAt xs 40 8] j 0 = numAt xs (offs.getD j 0) (szs.getD j 0))
        h0.symm h1.symm rfl rfl rfl rfl rfl rfl rfl rfl rfl j hj)
    unfold putH
    rw [hp, hsg]
    exact List.take_append_drop 48 xs

/-- what is put is taken again -/
theorem numAt_pre (h : Hd) (r : List Int) (j : Nat) (hj : j < 11) (h0 : 0 ≤ (vals h).getD j 0) (h1 : (vals h).getD j 0 < 256 ^ szs.getD j 0) : numAt (pre h 11 ++ r) (offs.getD j 0) (szs.getD j 0) = (vals h).getD j 0 := by
  have h3 : ∀ m k, k + m = 11 → ∃ r, pre h 11 = pre h k ++ r := by
    intro m
    induction m with
    | zero => intro k hk; exact ⟨[], by rw [List.append_nil, show k = 11 from by omega]⟩
    | succ m ih =>
      intro k hk
      obtain ⟨r, hr⟩ := ih (k + 1) (by omega)
      exact ⟨_, by rw [hr, pre, List.append_assoc]⟩
  obtain ⟨q, hq⟩ := h3 (11 - (j + 1)) (j + 1) (by omega)
  unfold numAt
  rw [hq, pre, List.append_assoc, List.append_assoc, List.drop_left' (pre_len h j (by omega)), List.take_left' (le_length _ _), num_le _ _ h0 h1]

theorem taken_put {h : Hd} (k : h.ok) (hm : mayP h = true) : takenP (putH h) = h := by
  have ab := aot_bounds k
  have e2 : (256 : Int) ^ 2 = 65536 := by decide
  have e4 : (256 : Int) ^ 4 = 4294967296 := by decide
  have e8 : (256 : Int) ^ 8 = 18446744073709551616 := by decide
  have a6 : numAt (putH h) 6 2 = h.ch := numAt_pre h h.sg 2 (by omega) k.ch.1 (by show h.ch < 256 ^ 2; have := k.ch; omega)
  have a8 : numAt (putH h) 8 4 = h.st := numAt_pre h h.sg 3 (by omega) k.st.1 (by show h.st < 256 ^ 4; have := k.st; omega)
  have a12 : numAt (putH h) 12 2 = h.cm := numAt_pre h h.sg 4 (by omega) k.cm.1 (by show h.cm < 256 ^ 2; have := k.cm; omega)
  have a14 : numAt (putH h) 14 2 = h.cr := numAt_pre h h.sg 5 (by omega) k.cr.1 (by show h.cr < 256 ^ 2; have := k.cr; omega)
  have a16 : numAt (putH h) 16 4 = h.fl := numAt_pre h h.sg 6 (by omega) k.fl.1 (by show h.fl < 256 ^ 4; have := k.fl; omega)
  have a20 : numAt (putH h) 20 4 = h.nx := numAt_pre h h.sg 7 (by omega) k.nx.1 (by show h.nx < 256 ^ 4; have := k.nx; omega)
  have a24 : numAt (putH h) 24 8 = h.id := numAt_pre h h.sg 8 (by omega) k.id.1 (by show h.id < 256 ^ 8; have := k.id; omega)
  have a32 : numAt (putH h) 32 8 = aot h := numAt_pre h h.sg 9 (by omega) ab.1 (by show aot h < 256 ^ 8; omega)
  have a40 : numAt (putH h) 40 8 = h.se := numAt_pre h h.sg 10 (by omega) k.se.1 (by show h.se < 256 ^ 8; have := k.se; omega)
  have asg : ((putH h).drop 48).take 16 = h.sg := by
    unfold putH
    rw [List.drop_left' (by rw [pre_len h 11 (by omega)]; rfl), List.take_of_length_le (by rw [k.len]; omega)]
  rw [takenP_eq, a6, a8, a12, a14, a16, a20, a24, a32, a40, asg]
  unfold mayP at hm
  simp only [Bool.and_eq_true, decide_eq_true_eq] at hm
  obtain ⟨_, _, hm⟩ := hm
  obtain ⟨ch, st, cm, cr, fl, nx, id, asy, tr, se, sg⟩ := h
  unfold aot
  have ht := k.tr
  dsimp only at hm ht ⊢
  by_cases hi : isAs fl = true
  · simp only [hi, if_true, decide_eq_true_eq] at hm ⊢
    rw [hm]
  · simp only [hi, Bool.false_eq_true, if_false, decide_eq_true_eq] at hm ⊢
    rw [hm, show tr * 4294967296 / 4294967296 = tr from by omega]

/-! ### what Get answers -/
def getErrH (xs : List Int) (a : Int) : Int := if partErr xs.length a 64 = 0 then (if headP ((xs.drop a.toNat).take 64) = true then 0 else 5) else partErr xs.length a 64
def getOfH (xs : List Int) (a : Int) : Hd := if getErrH xs a = 0 then takenP ((xs.drop a.toNat).take 64) else zeroHd

theorem headP_put {h : Hd} (k : h.ok) (hm : mayP h = true) : headP (putH h) = true := by
  unfold headP
  rw [taken_put k hm, hm, ← put_taken _ (putH_bytes k.byte) (putH_len k.len), taken_put k hm]
  simp
/-- bytes that are a head's are put again as they were -/
theorem put_of_headP {xs : List Int} (hx : Bytes xs) (hl : xs.length = 64) (h : headP xs = true) : putH (takenP xs) = xs ∧ mayP (takenP xs) = true := by
  unfold headP at h
  rw [← put_taken xs hx hl, Bool.and_eq_true, decide_eq_true_eq] at h
  exact h
theorem part_room {n : Nat} {a : Int} (h : partErr n a 64 = 0) : 0 ≤ a ∧ a.toNat + 64 ≤ n := by
  unfold partErr at h
  by_cases g1 : a < 0 ∨ (n : Int) < a ∨ (64 : Int) < 0
  · rw [if_pos g1] at h; omega
  · by_cases g2 : (n : Int) - a < 64
    · rw [if_neg g1, if_pos g2] at h; omega
    · omega
theorem getOfH_ok (xs : List Int) (a : Int) (hx : Bytes xs) : (getOfH xs a).ok := by
  unfold getOfH
  split
  · rename_i h
    have hp : partErr xs.length a 64 = 0 := by
      unfold getErrH at h
      by_cases hp : partErr xs.length a 64 = 0
      · exact hp
      · rw [if_neg hp] at h; exact h
    have := part_room hp
    exact takenP_ok _ ((hx.drop _).take _) (by simp; omega)
  · exact zeroHd_ok
/-- what Put answered, anywhere, is got -/
theorem get_put {h : Hd} (k : h.ok) (hm : mayP h = true) (x z : List Int) : getErrH (x ++ putH h ++ z) x.length = 0 ∧ getOfH (x ++ putH h ++ z) x.length = h := by
  have hl := putH_len k.len
  have hp : partErr (x ++ putH h ++ z).length x.length 64 = 0 := by
    unfold partErr
    rw [if_neg (by simp; omega), if_neg (by simp; omega)]
  have hd : ((x ++ putH h ++ z).drop (Int.toNat x.length)).take 64 = putH h := by
    rw [Int.toNat_natCast, List.append_assoc, List.drop_left, List.take_left' hl]
  have he : getErrH (x ++ putH h ++ z) x.length = 0 := by
    unfold getErrH
    rw [if_pos hp, hd, headP_put k hm, if_pos rfl]
  refine ⟨he, ?_⟩
  unfold getOfH
  rw [if_pos he, hd, taken_put k hm]
/-- unlike heads have unlike bytes -/
theorem putH_inj {h h' : Hd} (k : h.ok) (k' : h'.ok) (hm : mayP h = true) (hm' : mayP h' = true) : decide (putH h = putH h') = decide (h = h') := by
  rw [Bool.eq_iff_iff, decide_eq_true_iff, decide_eq_true_iff]
  constructor
  · intro e
    rw [← taken_put k hm, ← taken_put k' hm', e]
  · rintro rfl; rfl
end Go.Proofs.Ytgbhnnobbciemaa
