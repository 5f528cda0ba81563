/-
  Contracts of the program's layer 2 (utf): letterAt, Get.
-/
import Derived.Test.YtaggjlobmikagaaDoorUtfB
import Derived.Test.YtaggjlobmikagaaDoorEnds2
namespace Go.Proofs.YtaggjlobmikagaaDoor
open Go.RowKit

/-! ### the letters of a row of bytes of units -/

def unitAt (xs : List Int) (k : Nat) : Int := xs.getD k 0 + 256 * xs.getD (k + 1) 0
/-- the letter at a place, and how many bytes it takes; 0: none -/
def letAt (xs : List Int) (k : Nat) : Int × Nat :=
  if xs.length < k + 2 then (0, 0)
  else if 56320 ≤ unitAt xs k ∧ unitAt xs k < 57344 then (0, 0)
  else if unitAt xs k < 55296 ∨ 56320 ≤ unitAt xs k then (unitAt xs k, 2)
  else if xs.length < k + 4 then (0, 0)
  else if 56320 ≤ unitAt xs (k + 2) ∧ unitAt xs (k + 2) < 57344 then (65536 + (unitAt xs k - 55296) * 1024 + (unitAt xs (k + 2) - 56320), 4)
  else (0, 0)
def getF (xs : List Int) : Nat → Nat → Option (List Int)
  | 0, _ => some []
  | f + 1, k => if k < xs.length then (if (letAt xs k).2 = 0 then none else (getF xs f (k + (letAt xs k).2)).map ((letAt xs k).1 :: ·)) else some []
def gets (xs : List Int) : Option (List Int) := getF xs xs.length 0
/-- what Get answers: the text's bytes, and the error -/
def getText (xs : List Int) : List UInt8 := match gets xs with | some rs => rs.flatMap enc | none => []
def getTErr (xs : List Int) : Int := match gets xs with | some _ => 0 | none => 5

theorem unitAt_bounds {xs : List Int} (h : Bytes xs) (k : Nat) : 0 ≤ unitAt xs k ∧ unitAt xs k ≤ 65535 := by
  have h1 := h.getD k
  have h2 := h.getD (k + 1)
  unfold unitAt
  omega
theorem letAt_cases {xs : List Int} (h : Bytes xs) (k : Nat) :
    letAt xs k = (0, 0) ∨ ((letAt xs k).2 = 2 ∧ k + 2 ≤ xs.length ∧ IsLetter (letAt xs k).1 ∧ (letAt xs k).1 = unitAt xs k ∧ unitAt xs k < 65536) ∨
    ((letAt xs k).2 = 4 ∧ k + 4 ≤ xs.length ∧ IsLetter (letAt xs k).1 ∧ (letAt xs k).1 = 65536 + (unitAt xs k - 55296) * 1024 + (unitAt xs (k + 2) - 56320) ∧ 55296 ≤ unitAt xs k ∧ unitAt xs k < 56320 ∧ 56320 ≤ unitAt xs (k + 2) ∧ unitAt xs (k + 2) < 57344) := by
  have h1 := unitAt_bounds h k
  have h2 := unitAt_bounds h (k + 2)
  unfold letAt
  split
  · exact .inl rfl
  split
  · exact .inl rfl
  split
  · refine .inr (.inl ⟨rfl, by omega, ⟨by dsimp only; omega, by dsimp only; omega, by dsimp only; omega⟩, rfl, by omega⟩)
  split
  · exact .inl rfl
  split
  · refine .inr (.inr ⟨rfl, by omega, ⟨by dsimp only; omega, by dsimp only; omega, by dsimp only; omega⟩, rfl, by omega, by omega, by omega, by omega⟩)
  · exact .inl rfl

theorem getF_fuel {xs : List Int} (h : Bytes xs) : ∀ (f g k : Nat), xs.length ≤ k + f → xs.length ≤ k + g → getF xs f k = getF xs g k
  | 0, 0, _, _, _ => rfl
  | 0, g + 1, k, hf, _ => by simp [getF, show ¬ k < xs.length by omega]
  | f + 1, 0, k, _, hg => by simp [getF, show ¬ k < xs.length by omega]
  | f + 1, g + 1, k, hf, hg => by
    unfold getF
    by_cases hk : k < xs.length
    · rw [if_pos hk, if_pos hk]
      rcases letAt_cases h k with e | ⟨e, _⟩ | ⟨e, _⟩
      · rw [e]; rfl
      · rw [getF_fuel h f g (k + (letAt xs k).2) (by omega) (by omega)]
      · rw [getF_fuel h f g (k + (letAt xs k).2) (by omega) (by omega)]
    · rw [if_neg hk, if_neg hk]
/-- from a place on -/
def getK (xs : List Int) (k : Nat) : Option (List Int) := getF xs (xs.length - k) k
theorem gets_zero (xs : List Int) : gets xs = getK xs 0 := rfl
theorem getK_step {xs : List Int} (h : Bytes xs) {k : Nat} (hk : k < xs.length) : getK xs k = if (letAt xs k).2 = 0 then none else (getK xs (k + (letAt xs k).2)).map ((letAt xs k).1 :: ·) := by
  unfold getK
  obtain ⟨n, hn⟩ : ∃ n, xs.length - k = n + 1 := ⟨xs.length - k - 1, by omega⟩
  rw [hn, getF, if_pos hk]
  rcases letAt_cases h k with e | ⟨e, _⟩ | ⟨e, _⟩
  · rw [e]; rfl
  · rw [getF_fuel h n (xs.length - (k + (letAt xs k).2)) (k + (letAt xs k).2) (by omega) (by omega)]
  · rw [getF_fuel h n (xs.length - (k + (letAt xs k).2)) (k + (letAt xs k).2) (by omega) (by omega)]
theorem getK_end {xs : List Int} {k : Nat} (hk : ¬ k < xs.length) : getK xs k = some [] := by
  unfold getK
  rw [show xs.length - k = 0 by omega]
  rfl

theorem getK_ind {xs : List Int} (h : Bytes xs) {P : Nat → Prop} (h0 : ∀ k, ¬ k < xs.length → P k) (h1 : ∀ k, k < xs.length → ((letAt xs k).2 ≠ 0 → P (k + (letAt xs k).2)) → P k) : ∀ k, P k := by
  have key : ∀ n k, xs.length ≤ k + n → P k := by
    intro n
    induction n with
    | zero => exact fun k hk => h0 k (by omega)
    | succ n ih =>
      intro k hk
      by_cases hlt : k < xs.length
      · refine h1 k hlt fun hne => ih _ ?_
        rcases letAt_cases h k with e | ⟨e, _⟩ | ⟨e, _⟩
        · rw [e] at hne; exact absurd rfl hne
        · omega
        · omega
      · exact h0 k hlt
  exact fun k => key xs.length k (by omega)

theorem drop_two {xs : List Int} {k : Nat} (hk : k + 2 ≤ xs.length) : xs.drop k = [xs.getD k 0, xs.getD (k + 1) 0] ++ xs.drop (k + 2) := by
  rw [List.drop_eq_getElem_cons (by omega), List.drop_eq_getElem_cons (by omega)]
  simp [List.getD_eq_getElem?_getD, show k < xs.length by omega, show k + 1 < xs.length by omega]

/-- bytes come back of their text -/
theorem getK_back {xs : List Int} (h : Bytes xs) (k : Nat) : ∀ rs, getK xs k = some rs → (∀ r ∈ rs, IsLetter r) ∧ putBytes rs = xs.drop k := by
  induction k using getK_ind h with
  | h0 k hk =>
    intro rs hr
    rw [getK_end hk] at hr
    cases hr
    refine ⟨fun _ h => (by cases h), ?_⟩
    rw [List.drop_of_length_le (by omega)]
    rfl
  | h1 k hk ih =>
    intro rs hr
    rw [getK_step h hk] at hr
    by_cases h0 : (letAt xs k).2 = 0
    · rw [if_pos h0] at hr; cases hr
    · rw [if_neg h0] at hr
      obtain ⟨qs, hq, rfl⟩ := Option.map_eq_some_iff.1 hr
      obtain ⟨i1, i2⟩ := ih h0 qs hq
      rcases letAt_cases h k with e | ⟨e, e1, e2, e3, e4⟩ | ⟨e, e1, e2, e3, e4, e5, e6, e7⟩
      · rw [e] at h0; exact absurd rfl h0
      · refine ⟨fun r hr => ?_, ?_⟩
        · rcases List.mem_cons.1 hr with rfl | hr
          · exact e2
          · exact i1 r hr
        · unfold putBytes at i2 ⊢
          rw [List.flatMap_cons, i2, e, e3, unitBytes, if_pos e4, drop_two e1]
          have b0 := h.getD k
          have b1 := h.getD (k + 1)
          unfold unitAt
          rw [show (xs.getD k 0 + 256 * xs.getD (k + 1) 0) % 256 = xs.getD k 0 by omega, show (xs.getD k 0 + 256 * xs.getD (k + 1) 0) / 256 = xs.getD (k + 1) 0 by omega]
      · refine ⟨fun r hr => ?_, ?_⟩
        · rcases List.mem_cons.1 hr with rfl | hr
          · exact e2
          · exact i1 r hr
        · unfold putBytes at i2 ⊢
          rw [List.flatMap_cons, i2, e, e3, unitBytes, if_neg (by omega), drop_two (show k + 2 ≤ xs.length by omega), drop_two (show k + 2 + 2 ≤ xs.length by omega)]
          have b0 := h.getD k
          have b1 := h.getD (k + 1)
          have b2 := h.getD (k + 2)
          have b3 := h.getD (k + 2 + 1)
          unfold unitAt at *
          generalize xs.getD k 0 = x0 at *
          generalize xs.getD (k + 1) 0 = x1 at *
          generalize xs.getD (k + 2) 0 = x2 at *
          generalize xs.getD (k + 2 + 1) 0 = x3 at *
          have q0 : (55296 + (65536 + (x0 + 256 * x1 - 55296) * 1024 + (x2 + 256 * x3 - 56320) - 65536) / 1024) % 256 = x0 := by omega
          have q1 : (55296 + (65536 + (x0 + 256 * x1 - 55296) * 1024 + (x2 + 256 * x3 - 56320) - 65536) / 1024) / 256 = x1 := by omega
          have q2 : (56320 + (65536 + (x0 + 256 * x1 - 55296) * 1024 + (x2 + 256 * x3 - 56320) - 65536) % 1024) % 256 = x2 := by omega
          have q3 : (56320 + (65536 + (x0 + 256 * x1 - 55296) * 1024 + (x2 + 256 * x3 - 56320) - 65536) % 1024) / 256 = x3 := by omega
          rw [q0, q1, q2, q3]
          rfl
theorem gets_back {xs : List Int} (h : Bytes xs) {rs : List Int} (hr : gets xs = some rs) : (∀ r ∈ rs, IsLetter r) ∧ putBytes rs = xs := by
  have := getK_back h 0 rs hr
  simpa using this
theorem gets_odd {xs : List Int} (h : Bytes xs) (ho : xs.length % 2 = 1) : gets xs = none := by
  cases e : gets xs with
  | none => rfl
  | some rs =>
    have h1 := (gets_back h e).2
    have h2 := congrArg List.length h1
    rw [putBytes_length] at h2
    omega

theorem letAt_put (pre : List Int) (r : Int) (hr : IsLetter r) (post : List Int) : letAt (pre ++ (unitBytes r ++ post)) pre.length = (r, (unitBytes r).length) := by
  obtain ⟨h0, h1, h2⟩ := hr
  have g : ∀ (ys : List Int) i, (pre ++ ys).getD (pre.length + i) 0 = ys.getD i 0 := fun ys i => by
    rw [List.getD_eq_getElem?_getD, List.getElem?_append_right (by omega), Nat.add_sub_cancel_left, List.getD_eq_getElem?_getD]
  have g0 : ∀ (ys : List Int), (pre ++ ys).getD pre.length 0 = ys.getD 0 0 := fun ys => g ys 0
  unfold letAt unitAt
  rw [g0, g, Nat.add_assoc, g, g, List.length_append]
  unfold unitBytes
  by_cases c : r < 65536
  · rw [if_pos c]
    simp only [List.cons_append, List.nil_append, List.length_cons, List.length_nil, List.getD_cons_zero, List.getD_cons_succ]
    rw [if_neg (by omega), if_neg (by omega), if_pos (by omega)]
    exact Prod.ext (by dsimp only; omega) rfl
  · rw [if_neg c]
    simp only [List.cons_append, List.nil_append, List.length_cons, List.length_nil, List.getD_cons_zero, List.getD_cons_succ]
    rw [if_neg (by omega), if_neg (by omega), if_neg (by omega), if_neg (by omega), if_pos (by omega)]
    exact Prod.ext (by dsimp only; omega) rfl
/-- a text comes back of its bytes -/
theorem getK_put : ∀ (rs : List Int) (_ : ∀ r ∈ rs, IsLetter r) (pre : List Int) (_ : Bytes pre), getK (pre ++ putBytes rs) pre.length = some rs
  | [], _, pre, _ => by rw [getK_end (by simp [putBytes])]
  | r :: rs, h, pre, hp => by
    have hr := h r List.mem_cons_self
    have hrs : ∀ x ∈ rs, IsLetter x := fun x hx => h x (List.mem_cons_of_mem _ hx)
    have e : putBytes (r :: rs) = unitBytes r ++ putBytes rs := by simp [putBytes]
    have hpos : 2 ≤ (unitBytes r).length := by unfold unitBytes; split <;> simp
    have hb : Bytes (pre ++ putBytes (r :: rs)) := hp.append (putBytes_byte h)
    rw [getK_step hb (by rw [e]; simp; omega), e, letAt_put pre r hr]
    dsimp only
    rw [if_neg (by omega), ← List.append_assoc]
    have := getK_put rs hrs (pre ++ unitBytes r) (hp.append (unitBytes_byte hr))
    rw [List.length_append] at this
    rw [this]
    rfl
theorem gets_put {rs : List Int} (h : ∀ r ∈ rs, IsLetter r) : gets (putBytes rs) = some rs := getK_put rs h [] Bytes.nil

/-! ### the walks -/

theorem getErr_two {n k : Nat} (hk : k ≤ n) : getErr n k 2 = if n < k + 2 then 4 else 0 := by
  unfold getErr partErr
  rw [if_pos (by decide), if_neg (by omega)]
  split <;> split <;> omega
theorem getOf_two {xs : List Int} {k : Nat} (hk : k + 2 ≤ xs.length) : getOf xs k 2 = unitAt xs k := by
  unfold getOf
  have he : getErr xs.length k 2 = 0 := by rw [getErr_two (by omega), if_neg (by omega)]
  rw [if_pos he]
  have := drop_two hk
  rw [Int.toNat_natCast, this]
  simp [num, unitAt]
theorem getErr_past {n k : Nat} (hk : n < k) : getErr n k 2 = 2 := by
  unfold getErr partErr
  rw [if_pos (by decide), if_pos (by omega)]

theorem strOf_enc (rs : List Int) (h : ∀ r ∈ rs, IsLetter r) : strOfNums (rs.flatMap Lib.encodeRuneZ) = ⟨(rs.flatMap enc).toArray⟩ := by
  unfold strOfNums
  have e : (rs.flatMap Lib.encodeRuneZ).map (fun n => UInt8.ofNat n.toNat) = rs.flatMap enc := by
    induction rs with
    | nil => rfl
    | cons r rs ih =>
      rw [List.flatMap_cons, List.map_append, ih fun x hx => h x (List.mem_cons_of_mem _ hx), List.flatMap_cons, enc_letter (h r List.mem_cons_self)]
      rfl
  rw [e]

/-- a rune put behind a row of bytes of the call's own -/
theorem AppendRune_any (w : World) (base : Nat) (v : Value) (xs : List Int) (r : Int) (hr : IsLetter r) (h : OwnK .u8 5 w base v xs) (hl : xs.length + 4 ≤ 140737488355328) (hb : base ≤ w.heap.size) :
    Calls Tryd.prog 40 #[v, .int .i32 r] w fun e w' => ∃ v', e = .returned v' ∧ OwnK .u8 5 w' base v' (xs ++ Lib.encodeRuneZ r) ∧ Grew w w' v := by
  obtain ⟨r0, r1, _⟩ := hr
  refine (Tryd.utf8_AppendRune_plain base v xs.length (xs.map (Value.int .u8)) r (by omega) (by omega) w h hl hb).mono ?_
  rintro e w' ⟨v', rfl, ho, hg⟩
  refine ⟨v', rfl, ?_, hg⟩
  unfold OwnK
  rw [List.length_append, List.map_append]
  unfold Lib.runeCells at ho
  rwa [List.length_map] at ho

/-- what Get answers -/
def GetPost (w : World) (xs : List Int) (e : Ending) (w' : World) : Prop :=
  e = .returned (.tuple #[.string ⟨(getText xs).toArray⟩, .int .i64 (getTErr xs)]) ∧ Below w.heap.size w w'

end Go.Proofs.YtaggjlobmikagaaDoor
