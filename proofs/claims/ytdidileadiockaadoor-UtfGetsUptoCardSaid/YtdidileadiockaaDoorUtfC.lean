/-
  Contracts of the program's layer 2 (utf): letterAt, Get.
-/
import Derived.Test.YtdidileadiockaaDoorUtfB
import Derived.Test.YtdidileadiockaaDoorEnds2
namespace Go.Proofs.YtdidileadiockaaDoor
open Go.RowKit

/-! ### the letters of a row of bytes of units -/

def unitAt (xs : List Int) (k : Nat) : Int := xs.getD k 0 + 256 * xs.getD (k + 1) 0
/-- the letter at a place, and how many bytes it takes; 0: none -/
def letAt (xs : List Int) (k : Nat) : Int × Nat :=
  if xs.length < k + 2 then (0, 0)
  else if 56320 ≤ unitAt xs k ∧ unitAt xs k < 57344 then (0, 0)
  else if unitAt xs k < 55296 ∨ 56320 ≤ unitAt xs k then (unitAt xs k, 2)
  else if xs.length < k + 4 then (0, 0)
  else if 56320 ≤ unitAt xs (k + 2) ∧ unitAt xs (k + 2) < 57344 then (65536 + (unitAt xs k - 55296) * 1024 + (unitAt xs (k + 2) - 56320), 4)
  else (0, 0)
def getF (xs : List Int) : Nat → Nat → Option (List Int)
  | 0, _ => some []
  | f + 1, k => if k < xs.length then (if (letAt xs k).2 = 0 then none else (getF xs f (k + (letAt xs k).2)).map ((letAt xs k).1 :: ·)) else some []
def gets (xs : List Int) : Option (List Int) := getF xs xs.length 0
/-- what Get answers: the text's bytes, and the error -/
def getText (xs : List Int) : List UInt8 := match gets xs with | some rs => rs.flatMap enc | none => []
def getTErr (xs : List Int) : Int := match gets xs with | some _ => 0 | none => 5

theorem unitAt_bounds {xs : List Int} (h : Bytes xs) (k : Nat) : 0 ≤ unitAt xs k ∧ unitAt xs k ≤ 65535 := by
  have h1 := h.getD k
  have h2 := h.getD (k + 1)
  unfold unitAt
  omega
theorem letAt_cases {xs : List Int} (h : Bytes xs) (k : Nat) :
    letAt xs k = (0, 0) ∨ ((letAt xs k).2 = 2 ∧ k + 2 ≤ xs.length ∧ IsLetter (letAt xs k).1 ∧ (letAt xs k).1 = unitAt xs k ∧ unitAt xs k < 65536) ∨
    ((letAt xs k).2 = 4 ∧ k + 4 ≤ xs.length ∧ IsLetter (letAt xs k).1 ∧ (letAt xs k).1 = 65536 + (unitAt xs k - 55296) * 1024 + (unitAt xs (k + 2) - 56320) ∧ 55296 ≤ unitAt xs k ∧ unitAt xs k < 56320 ∧ 56320 ≤ unitAt xs (k + 2) ∧ unitAt xs (k + 2) < 57344) := by
  have h1 := unitAt_bounds h k
  have h2 := unitAt_bounds h (k + 2)
  unfold letAt
  split
  · exact .inl rfl
  split
  · exact .inl rfl
  split
  · refine .inr (.inl ⟨rfl, by omega, ⟨by dsimp only; omega, by dsimp only; omega, by dsimp only; omega⟩, rfl, by omega⟩)
  split
  · exact .inl rfl
  split
  · refine .inr (.inr ⟨rfl, by omega, ⟨by dsimp only; omega, by dsimp only; omega, by dsimp only; omega⟩, rfl, by omega, by omega, by omega, by omega⟩)
  · exact .inl rfl

theorem getF_fuel {xs : List Int} (h : Bytes xs) : ∀ (f g k : Nat), xs.length ≤ k + f → xs.length ≤ k + g → getF xs f k = getF xs g k
  | 0, 0, _, _, _ => rfl
  | 0, g + 1, k, hf, _ => by simp [getF, show ¬ k < xs.length by omega]
  | f + 1, 0, k, _, hg => by simp [getF, show ¬ k < xs.length by omega]
  | f + 1, g + 1, k, hf, hg => by
    unfold getF
    by_cases hk : k < xs.length
    · rw [if_pos hk, if_pos hk]
      rcases letAt_cases h k with e | ⟨e, _⟩ | ⟨e, _⟩
      · rw [e]; rfl
      · rw [getF_fuel h f g (k + (letAt xs k).2) (by omega) (by omega)]
      · rw [getF_fuel h f g (k + (letAt xs k).2) (by omega) (by omega)]
    · rw [if_neg hk, if_neg hk]
/-- from a place on -/
def getK (xs : List Int) (k : Nat) : Option (List Int) := getF xs (xs.length - k) k
theorem gets_zero (xs : List Int) : gets xs = getK xs 0 := rfl
theorem getK_step {xs : List Int} (h : Bytes xs) {k : Nat} (hk : k < xs.length) : getK xs k = if (letAt xs k).2 = 0 then none else (getK xs (k + (letAt xs k).2)).map ((letAt xs k).1 :: ·) := by
  unfold getK
  obtain ⟨n, hn⟩ : ∃ n, xs.length - k = n + 1 := ⟨xs.length - k - 1, by omega⟩
  rw [hn, getF, if_pos hk]
  rcases letAt_cases h k with e | ⟨e, _⟩ | ⟨e, _⟩
  · rw [e]; rfl
  · rw [getF_fuel h n (xs.length - (k + (letAt xs k).2)) (k + (letAt xs k).2) (by omega) (by omega)]
  · rw [getF_fuel h n (xs.length - (k + (letAt xs k).2)) (k + (letAt xs k).2) (by omega) (by omega)]
theorem getK_end {xs : List Int} {k : Nat} (hk : ¬ k < xs.length) : getK xs k = some [] := by
  unfold getK
  rw [show xs.length - k = 0 by omega]
  rfl

theorem getK_ind {xs : List Int} (h : Bytes xs) {P : Nat → Prop} (h0 : ∀ k, ¬ k < xs.length → P k) (h1 : ∀ k, k < xs.length → ((letAt xs k).2 ≠ 0 → P (k + (letAt xs k).2)) → P k) : ∀ k, P k := by
  have key : ∀ n k, xs.length ≤ k + n → P k := by
    intro n
    induction n with
    | zero => exact fun k hk => h0 k (by omega)
    | succ n ih =>
      intro k hk
      by_cases hlt : k < xs.length
      · refine h1 k hlt fun hne => ih _ ?_
        rcases letAt_cases h k with e | ⟨e, _⟩ | ⟨e, _⟩
        · rw [e] at hne; exact absurd rfl hne
        · omega
        · omega
      · exact h0 k hlt
  exact fun k => key xs.length k (by omega)

theorem drop_two {xs : List Int} {k : Nat} (hk : k + 2 ≤ xs.length) : xs.drop k = [xs.getD k 0, xs.getD (k + 1) 0] ++ xs.drop (k + 2) := by
  rw [List.drop_eq_getElem_cons (by omega), List.drop_eq_getElem_cons (by omega)]
  simp [List.getD_eq_getElem?_getD, show k < xs.length by omega, show k + 1 < xs.length by omega]

/-- bytes come back of their text -/
theorem getK_back {xs : List Int} (h : Bytes xs) (k : Nat) : ∀ rs, getK xs k = some rs → (∀ r ∈ rs, IsLetter r) ∧ putBytes rs = xs.drop k := by
  induction k using getK_ind h with
  | h0 k hk =>
    intro rs hr
    rw [getK_end hk] at hr
    cases hr
    refine ⟨fun _ h => (by cases h), ?_⟩
    rw [List.drop_of_length_le (by omega)]
    rfl
  | h1 k hk ih =>
    intro rs hr
    rw [getK_step h hk] at hr
    by_cases h0 : (letAt xs k).2 = 0
    · rw [if_pos h0] at hr; cases hr
    · rw [if_neg h0] at hr
      obtain ⟨qs, hq, rfl⟩ := Option.map_eq_some_iff.1 hr
      obtain ⟨i1, i2⟩ := ih h0 qs hq
      rcases letAt_cases h k with e | ⟨e, e1, e2, e3, e4⟩ | ⟨e, e1, e2, e3, e4, e5, e6, e7⟩
      · rw [e] at h0; exact absurd rfl h0
      · refine ⟨fun r hr => ?_, ?_⟩
        · rcases List.mem_cons.1 hr with rfl | hr
          · exact e2
          · exact i1 r hr
        · unfold putBytes at i2 ⊢
          rw [List.flatMap_cons, i2, e, e3, unitBytes, if_pos e4, drop_two e1]
          have b0 := h.getD k
          have b1 := h.getD (k + 1)
          unfold unitAt
          rw [show (xs.getD k 0 + 256 * xs.getD (k + 1) 0) % 256 = xs.getD k 0 by omega, show (xs.getD k 0 + 256 * xs.getD (k + 1) 0) / 256 = xs.getD (k + 1) 0 by omega]
      · refine ⟨fun r hr => ?_, ?_⟩
        · rcases List.mem_cons.1 hr with rfl | hr
          · exact e2
          · exact i1 r hr
        · unfold putBytes at i2 ⊢
          rw [List.flatMap_cons, i2, e, e3, unitBytes, if_neg (by omega), drop_two (show k + 2 ≤ xs.length by omega), drop_two (show k + 2 + 2 ≤ xs.length by omega)]
          have b0 := h.getD k
          have b1 := h.getD (k + 1)
          have b2 := h.getD (k + 2)
          have b3 := h.getD (k + 2 + 1)
          unfold unitAt at *
          generalize xs.getD k 0 = x0 at *
          generalize xs.getD (k + 1) 0 = x1 at *
          generalize xs.getD (k + 2) 0 = x2 at *
          generalize xs.getD (k + 2 + 1) 0 = x3 at *
          have q0 : (55296 + (65536 + (x0 + 256 * x1 - 55296) * 1024 + (x2 + 256 * x3 - 56320) - 65536) / 1024) % 256 = x0 := by omega
          have q1 : (55296 + (65536 + (x0 + 256 * x1 - 55296) * 1024 + (x2 + 256 * x3 - 56320) - 65536) / 1024) / 256 = x1 := by omega
          have q2 : (56320 + (65536 + (x0 + 256 * x1 - 55296) * 1024 + (x2 + 256 * x3 - 56320) - 65536) % 1024) % 256 = x2 := by omega
          have q3 : (56320 + (65536 + (x0 + 256 * x1 - 55296) * 1024 + (x2 + 256 * x3 - 56320) - 65536) % 1024) / 256 = x3 := by omega
          rw [q0, q1, q2, q3]
          rfl
theorem gets_back {xs : List Int} (h : Bytes xs) {rs : List Int} (hr : gets xs = some rs) : (∀ r ∈ rs, IsLetter r) ∧ putBytes rs = xs := by
  have := getK_back h 0 rs hr
  simpa using this
theorem gets_odd {xs : List Int} (h : Bytes xs) (ho : xs.length % 2 = 1) : gets xs = none := by
  cases e : gets xs with
  | none => rfl
  | some rs =>
    have h1 := (gets_back h e).2
    have h2 := congrArg List.length h1
    rw [putBytes_length] at h2
    omega

theorem letAt_put (pre : List Int) (r : Int) (hr : IsLetter r) (post : List Int) : letAt (pre ++ (unitBytes r ++ post)) pre.length = (r, (unitBytes r).length) := by
  obtain ⟨h0, h1, h2⟩ := hr
  have g : ∀ (ys : List Int) i, (pre ++ ys).getD (pre.length + i) 0 = ys.getD i 0 := fun ys i => by
    rw [List.getD_eq_getElem?_getD, List.getElem?_append_right (by omega), Nat.add_sub_cancel_left, List.getD_eq_getElem?_getD]
  have g0 : ∀ (ys : List Int), (pre ++ ys).getD pre.length 0 = ys.getD 0 0 := fun ys => g ys 0
  unfold letAt unitAt
  rw [g0, g, Nat.add_assoc, g, g, List.length_append]
  unfold unitBytes
  by_cases c : r < 65536
  · rw [if_pos c]
    simp only [List.cons_append, List.nil_append, List.length_cons, List.length_nil, List.getD_cons_zero, List.getD_cons_succ]
    rw [if_neg (by omega), if_neg (by omega), if_pos (by omega)]
    exact Prod.ext (by dsimp only; omega) rfl
  · rw [if_neg c]
    simp only [List.cons_append, List.nil_append, List.length_cons, List.length_nil, List.getD_cons_zero, List.getD_cons_succ]
    rw [if_neg (by omega), if_neg (by omega), if_neg (by omega), if_neg (by omega), if_pos (by omega)]
    exact Prod.ext (by dsimp only; omega) rfl
/-- a text comes back of its bytes -/
theorem getK_put : ∀ (rs : List Int) (_ : ∀ r ∈ rs, IsLetter r) (pre : List Int) (_ : Bytes pre), getK (pre ++ putBytes rs) pre.length = some rs
  | [], _, pre, _ => by rw [getK_end (by simp [putBytes])]
  | r :: rs, h, pre, hp => by
    have hr := h r List.mem_cons_self
    have hrs : ∀ x ∈ rs, IsLetter x := fun x hx => h x (List.mem_cons_of_mem _ hx)
    have e : putBytes (r :: rs) = unitBytes r ++ putBytes rs := by simp [putBytes]
    have hpos : 2 ≤ (unitBytes r).length := by unfold unitBytes; split <;> simp
    have hb : Bytes (pre ++ putBytes (r :: rs)) := hp.append (putBytes_byte h)
    rw [getK_step hb (by rw [e]; simp; omega), e, letAt_put pre r hr]
    dsimp only
    rw [if_neg (by omega), ← List.append_assoc]
    have := getK_put rs hrs (pre ++ unitBytes r) (hp.append (unitBytes_byte hr))
    rw [List.length_append] at this
    rw [this]
    rfl
theorem gets_put {rs : List Int} (h : ∀ r ∈ rs, IsLetter r) : gets (putBytes rs) = some rs := getK_put rs h [] Bytes.nil

/-! ### the walks -/

theorem getErr_two {n k : Nat} (hk : k ≤ n) : getErr n k 2 = if n < k + 2 then 4 else 0 := by
  unfold getErr partErr
  rw [if_pos (by decide), if_neg (by omega)]
  split <;> split <;> omega
theorem getOf_two {xs : List Int} {k : Nat} (hk : k + 2 ≤ xs.length) : getOf xs k 2 = unitAt xs k := by
  unfold getOf
  have he : getErr xs.length k 2 = 0 := by rw [getErr_two (by omega), if_neg (by omega)]
  rw [if_pos he]
  have := drop_two hk
  rw [Int.toNat_natCast, this]
  simp [num, unitAt]
theorem getErr_past {n k : Nat} (hk : n < k) : getErr n k 2 = 2 := by
  unfold getErr partErr
  rw [if_pos (by decide), if_pos (by omega)]

set_option maxHeartbeats 1000000 in
theorem letterAt_any (w : World) (B : Nat) (A : Option Addr) (n c : Nat) (xs : List Int) (k : Nat) (h : Holds w B A n c xs) (hk : k < n) :
    Calls Tryd.prog 28 #[.slice A n c, .int .i64 k] w fun e w' => e = .returned (.tuple #[.int .i32 (letAt xs k).1, .int .i64 (letAt xs k).2]) ∧ w = w' := by
  have hl := h.len
  have hrm := h.room
  have b1 := unitAt_bounds h.byte k
  have b2 := unitAt_bounds h.byte (k + 2)
  have c1 := Get_any w B A n c xs k 2 h (by omega) (by omega)
  have c2 := Get_any w B A n c xs ((k : Int) + 2) 2 h (by omega) (by omega)
  rw [show ((k : Int) + 2) = ((k + 2 : Nat) : Int) by omega] at c2
  rw [getErr_two (by omega)] at c1
  by_cases h1 : n < k + 2
  · have e : letAt xs k = (0, 0) := by unfold letAt; rw [if_pos (by omega)]
    rw [if_pos h1] at c1
    rw [e]
    obtain ⟨G, hG⟩ : ∃ G, G = getOf xs k 2 := ⟨_, rfl⟩
    rw [← hG] at c1
    have C1 := Lib.hid c1
    clear c1 c2 e hG hl b1 b2
    go_enter Tryd.func28, Tryd.ntmps28
    go_wp2_with fail
    refine C1.out.mono ?_
    rintro e w' ⟨rfl, rfl⟩
    go_wp2
    go_ret2
    exact ⟨rfl, rfl⟩
  rw [if_neg h1, getOf_two (by omega)] at c1
  obtain ⟨u, hu⟩ : ∃ u, u = unitAt xs k := ⟨_, rfl⟩
  rw [← hu] at b1 c1
  have cl := fun w => halfOf_any w u 56320 (by omega) (by omega)
  have ch := fun w => halfOf_any w u 55296 (by omega) (by omega)
  by_cases h2 : 56320 ≤ u ∧ u < 57344
  · have e : letAt xs k = (0, 0) := by unfold letAt; rw [← hu, if_neg (by omega), if_pos h2]
    rw [e]
    have et : (u / 1024 == (56320 : Int) / 1024) = true := by rw [beq_iff_eq]; omega
    rw [et] at cl
    have C1 := Lib.hid c1
    have CL := fun w => Lib.hid (cl w)
    clear c1 c2 e hl b2 cl ch et hu
    go_enter Tryd.func28, Tryd.ntmps28
    go_wp2_with fail
    refine C1.out.mono ?_
    rintro e w' ⟨rfl, rfl⟩
    go_wp2_with fail
    refine (CL _).out.mono ?_
    rintro e w' ⟨rfl, rfl⟩
    go_wp2
    go_ret2
    exact ⟨rfl, rfl⟩
  have et : (u / 1024 == (56320 : Int) / 1024) = false := by rw [beq_eq_false_iff_ne]; omega
  rw [et] at cl
  by_cases h3 : u < 55296 ∨ 56320 ≤ u
  · have e : letAt xs k = (u, 2) := by unfold letAt; rw [← hu, if_neg (by omega), if_neg h2, if_pos h3]
    rw [e]
    have eh : (u / 1024 == (55296 : Int) / 1024) = false := by rw [beq_eq_false_iff_ne]; omega
    rw [eh] at ch
    have C1 := Lib.hid c1
    have CL := fun w => Lib.hid (cl w)
    have CH := fun w => Lib.hid (ch w)
    clear c1 c2 e hl b2 cl ch et eh hu h2 h3
    go_enter Tryd.func28, Tryd.ntmps28
    go_wp2_with fail
    refine C1.out.mono ?_
    rintro e w' ⟨rfl, rfl⟩
    go_wp2_with fail
    refine (CL _).out.mono ?_
    rintro e w' ⟨rfl, rfl⟩
    go_wp2_with fail
    refine (CH _).out.mono ?_
    rintro e w' ⟨rfl, rfl⟩
    go_wp2
    go_ret2
    exact ⟨rfl, rfl⟩
  have eh : (u / 1024 == (55296 : Int) / 1024) = true := by rw [beq_iff_eq]; omega
  rw [eh] at ch
  rw [getErr_two (by omega)] at c2
  by_cases h4 : n < k + 4
  · have e : letAt xs k = (0, 0) := by unfold letAt; rw [← hu, if_neg (by omega), if_neg h2, if_neg h3, if_pos (by omega)]
    rw [e]
    rw [if_pos (by omega)] at c2
    obtain ⟨G, hG⟩ : ∃ G, G = getOf xs ((k + 2 : Nat) : Int) 2 := ⟨_, rfl⟩
    rw [← hG, show (((k + 2 : Nat) : Int)) = (k : Int) + 2 by omega] at c2
    have C1 := Lib.hid c1
    have C2 := Lib.hid c2
    have CL := fun w => Lib.hid (cl w)
    have CH := fun w => Lib.hid (ch w)
    clear c1 c2 e hl b2 cl ch et eh hu h2 h3 hG
    go_enter Tryd.func28, Tryd.ntmps28
    go_wp2_with fail
    refine C1.out.mono ?_
    rintro e w' ⟨rfl, rfl⟩
    go_wp2_with fail
    refine (CL _).out.mono ?_
    rintro e w' ⟨rfl, rfl⟩
    go_wp2_with fail
    refine (CH _).out.mono ?_
    rintro e w' ⟨rfl, rfl⟩
    go_wp2_with fail
    refine C2.out.mono ?_
    rintro e w' ⟨rfl, rfl⟩
    go_wp2
    go_ret2
    exact ⟨rfl, rfl⟩
  rw [if_neg (by omega), getOf_two (by omega)] at c2
  obtain ⟨x, hx⟩ : ∃ x, x = unitAt xs (k + 2) := ⟨_, rfl⟩
  rw [← hx] at b2
  rw [← hx, show (((k + 2 : Nat) : Int)) = (k : Int) + 2 by omega] at c2
  have cx := fun w => halfOf_any w x 56320 (by omega) (by omega)
  by_cases h5 : 56320 ≤ x ∧ x < 57344
  · have e : letAt xs k = (65536 + (u - 55296) * 1024 + (x - 56320), 4) := by unfold letAt; rw [← hu, ← hx, if_neg (by omega), if_neg h2, if_neg h3, if_neg (by omega), if_pos h5]
    rw [e, show 65536 + (u - 55296) * 1024 + (x - 56320) = 65536 + (u % 1024 * 1024 + x % 1024) by omega]
    have ex : (x / 1024 == (56320 : Int) / 1024) = true := by rw [beq_iff_eq]; omega
    rw [ex] at cx
    have C1 := Lib.hid c1
    have C2 := Lib.hid c2
    have CL := fun w => Lib.hid (cl w)
    have CH := fun w => Lib.hid (ch w)
    have CX := fun w => Lib.hid (cx w)
    have a1 := and_low_u64 u (by omega) (by omega)
    have a2 := and_low_u64 x (by omega) (by omega)
    have a3 := or_halves_u64 (u % 1024) (x % 1024) (by omega) (by omega) (by omega) (by omega)
    clear c1 c2 e hl cl ch cx et eh ex hu hx h2 h3
    go_enter Tryd.func28, Tryd.ntmps28
    go_wp2_with fail
    refine C1.out.mono ?_
    rintro e w' ⟨rfl, rfl⟩
    go_wp2_with fail
    refine (CL _).out.mono ?_
    rintro e w' ⟨rfl, rfl⟩
    go_wp2_with fail
    refine (CH _).out.mono ?_
    rintro e w' ⟨rfl, rfl⟩
    go_wp2_with fail
    refine C2.out.mono ?_
    rintro e w' ⟨rfl, rfl⟩
    go_wp2_with fail
    refine (CX _).out.mono ?_
    rintro e w' ⟨rfl, rfl⟩
    go_wp2
    go_ret2
    exact ⟨rfl, rfl⟩
  · have e : letAt xs k = (0, 0) := by unfold letAt; rw [← hu, ← hx, if_neg (by omega), if_neg h2, if_neg h3, if_neg (by omega), if_neg h5]
    rw [e]
    have ex : (x / 1024 == (56320 : Int) / 1024) = false := by rw [beq_eq_false_iff_ne]; omega
    rw [ex] at cx
    have C1 := Lib.hid c1
    have C2 := Lib.hid c2
    have CL := fun w => Lib.hid (cl w)
    have CH := fun w => Lib.hid (ch w)
    have CX := fun w => Lib.hid (cx w)
    clear c1 c2 e hl cl ch cx et eh ex hu hx h2 h3 h5
    go_enter Tryd.func28, Tryd.ntmps28
    go_wp2_with fail
    refine C1.out.mono ?_
    rintro e w' ⟨rfl, rfl⟩
    go_wp2_with fail
    refine (CL _).out.mono ?_
    rintro e w' ⟨rfl, rfl⟩
    go_wp2_with fail
    refine (CH _).out.mono ?_
    rintro e w' ⟨rfl, rfl⟩
    go_wp2_with fail
    refine C2.out.mono ?_
    rintro e w' ⟨rfl, rfl⟩
    go_wp2_with fail
    refine (CX _).out.mono ?_
    rintro e w' ⟨rfl, rfl⟩
    go_wp2
    go_ret2
    exact ⟨rfl, rfl⟩

theorem strOf_enc (rs : List Int) (h : ∀ r ∈ rs, IsLetter r) : strOfNums (rs.flatMap Lib.encodeRuneZ) = ⟨(rs.flatMap enc).toArray⟩ := by
  unfold strOfNums
  have e : (rs.flatMap Lib.encodeRuneZ).map (fun n => UInt8.ofNat n.toNat) = rs.flatMap enc := by
    induction rs with
    | nil => rfl
    | cons r rs ih =>
      rw [List.flatMap_cons, List.map_append, ih fun x hx => h x (List.mem_cons_of_mem _ hx), List.flatMap_cons, enc_letter (h r List.mem_cons_self)]
      rfl
  rw [e]

/-- a rune put behind a row of bytes of the call's own -/
theorem AppendRune_any (w : World) (base : Nat) (v : Value) (xs : List Int) (r : Int) (hr : IsLetter r) (h : OwnK .u8 5 w base v xs) (hl : xs.length + 4 ≤ 140737488355328) (hb : base ≤ w.heap.size) :
    Calls Tryd.prog 29 #[v, .int .i32 r] w fun e w' => ∃ v', e = .returned v' ∧ OwnK .u8 5 w' base v' (xs ++ Lib.encodeRuneZ r) ∧ Grew w w' v := by
  obtain ⟨r0, r1, _⟩ := hr
  refine (Tryd.utf8_AppendRune_plain base v xs.length (xs.map (Value.int .u8)) r (by omega) (by omega) w h hl hb).mono ?_
  rintro e w' ⟨v', rfl, ho, hg⟩
  refine ⟨v', rfl, ?_, hg⟩
  unfold OwnK
  rw [List.length_append, List.map_append]
  unfold Lib.runeCells at ho
  rwa [List.length_map] at ho

/-- what Get answers -/
def GetPost (w : World) (xs : List Int) (e : Ending) (w' : World) : Prop :=
  e = .returned (.tuple #[.string ⟨(getText xs).toArray⟩, .int .i64 (getTErr xs)]) ∧ Below w.heap.size w w'

set_option maxHeartbeats 1000000 in
theorem TGet_any (w : World) (A : Option Addr) (n c : Nat) (xs : List Int) (h : Holds w w.heap.size A n c xs) (hn : n ≤ 17592186044416) :
    Calls Tryd.prog 16 #[.slice A n c] w (GetPost w xs) := by
  have hl := Lib.hid h.len
  have hby := h.byte
  have hq : ∀ o, gets xs = o → ∀ e w', (e = .returned (.tuple #[.string ⟨(match o with | some rs => rs.flatMap enc | none => []).toArray⟩, .int .i64 (match o with | some _ => 0 | none => 5)]) ∧ Below w.heap.size w w') → GetPost w xs e w' := by
    intro o ho e w' hh
    subst ho
    exact hh
  have HQ := Lib.hid hq
  obtain ⟨O, hO⟩ : ∃ O, gets xs = O := ⟨_, rfl⟩
  have HO := Lib.hid hO
  clear hq hO
  go_enter Tryd.func16, Tryd.ntmps16
  go_wp2_with (at_make; refine wpList_make_own0 rfl .u8 22 5 1 Tryd.underlying22 info_u8 _ _ rfl _ n rfl rfl rfl (by omega) (by rw [maxLen_eq]; omega) ?_; intro w1 ho1 hb1)
  have hs1 := hb1.size
  go_loopw [4, 5, 6, 7] (fun v i _ _ wr => ∃ (k : Nat) (rs : List Int), i = .int .i64 k ∧ Hid (OwnK .u8 5 wr w.heap.size v (rs.flatMap Lib.encodeRuneZ)) ∧ Below w.heap.size w wr ∧ Hid (∀ r ∈ rs, IsLetter r) ∧ Hid ((getK xs k).map (rs ++ ·) = O) ∧ Hid ((rs.flatMap Lib.encodeRuneZ).length ≤ 4 * k) ∧ k ≤ n) (fun _ i _ _ _ => n - (intOf i).toNat)
  case atStart =>
    refine ⟨0, [], rfl, ho1.out.own, hb1, (fun _ h => by cases h), ?_, (by show _ ≤ _; simp), by omega⟩
    show _ = _
    rw [← HO.out, gets_zero]
    cases getK xs 0 <;> rfl
  case round =>
    obtain ⟨k, rs, rfl, HV, hb, HR, HE, HL, hk⟩ := hrel
    by_cases hlt : k < n
    · have hstep := getK_step hby (k := k) (by have := hl.out; omega)
      have hc := letAt_cases hby k
      have c1 := letterAt_any wr w.heap.size A n c xs k (h.below hb) hlt
      obtain ⟨r, hr⟩ : ∃ r, r = (letAt xs k).1 := ⟨_, rfl⟩
      obtain ⟨z, hz⟩ : ∃ z, z = (letAt xs k).2 := ⟨_, rfl⟩
      rw [← hr, ← hz] at c1 hstep
      have C1 := Lib.hid c1
      have hbs := hb.size
      by_cases h0 : z = 0
      · subst h0
        have HN : Hid (O = none) := by
          have := HE.out
          rw [hstep, if_pos rfl] at this
          exact this.symm
        clear hc hstep c1 hr hz HE
        go_wp2_with fail
        refine C1.out.mono ?_
        rintro e w' ⟨rfl, rfl⟩
        go_wp2
        go_ret2
        refine HQ.out O HO.out _ _ ⟨?_, hb⟩
        rw [HN.out]
        rfl
      · have hrl : IsLetter r ∧ k + z ≤ n ∧ 2 ≤ z := by
          have := hl.out
          rcases hc with e | ⟨e, e1, e2, _⟩ | ⟨e, e1, e2, _⟩
          · rw [e] at hz; exact absurd hz h0
          · rw [hr, hz]; exact ⟨e2, by omega, by omega⟩
          · rw [hr, hz]; exact ⟨e2, by omega, by omega⟩
        obtain ⟨hrl, hkz, hz2⟩ := hrl
        have HE' : Hid ((getK xs (k + z)).map ((rs ++ [r]) ++ ·) = O) := by
          have := HE.out
          rw [hstep, if_neg h0, Option.map_map] at this
          show _ = _
          rw [← this]
          congr 1
          funext y
          simp
        have HRL := Lib.hid hrl
        have hz4 : (Lib.encodeRuneZ r).length ≤ 4 := (Lib.encodeRuneZ_length r).2
        have c2 := Lib.hid (AppendRune_any wr _ _ (rs.flatMap Lib.encodeRuneZ) r hrl HV.out (by have := HL.out; omega) hbs)
        have hz0 : ((z : Int) == 0) = false := by rw [beq_eq_false_iff_ne]; omega
        obtain ⟨r0, r1, _⟩ := hrl
        clear hc hstep c1 hr hz HE
        go_wp2_with fail
        refine C1.out.mono ?_
        rintro e w' ⟨rfl, rfl⟩
        go_wp2_with fail
        refine c2.out.mono ?_
        rintro e w3 ⟨v3, rfl, ho3, hg3⟩
        have hb3 := hg3.below HV.out hbs
        have HO3 := Lib.hid ho3
        clear ho3 hg3 c2
        go_wp2
        go_roundw
        case rel =>
          refine ⟨k + z, rs ++ [r], by go_num, ?_, hb.trans hb3, ?_, HE', ?_, hkz⟩
          · show OwnK _ _ _ _ _ _
            have := HO3.out
            simpa using this
          · intro x hx
            rcases List.mem_append.1 hx with hx | hx
            · exact HR.out x hx
            · rcases List.mem_singleton.1 hx with rfl
              exact HRL.out
          · show _ ≤ _
            have := HL.out
            rw [List.flatMap_append, List.length_append, List.flatMap_cons, List.flatMap_nil, List.append_nil]
            omega
        case measure => simp [intOf]; omega
    · obtain rfl : k = n := by omega
      have hend := getK_end (xs := xs) (k := k) (by have := hl.out; omega)
      have HS : Hid (O = some rs) := by
        have := HE.out
        rw [hend] at this
        show _ = _
        simpa using this.symm
      have hcv := run_string_own (P := Tryd.prog) (src := 22) Tryd.underlying22 Tryd.underlying5 HV.out
      rw [strOf_enc rs HR.out] at hcv
      obtain ⟨T, hT⟩ : ∃ T : ByteArray, T = ⟨(rs.flatMap enc).toArray⟩ := ⟨_, rfl⟩
      rw [← hT] at hcv
      have HT := Lib.hid hT
      clear hend hT HE
      go_wp2
      go_ret2
      refine HQ.out O HO.out _ _ ⟨?_, hb⟩
      rw [HS.out, HT.out]
      rfl
end Go.Proofs.YtdidileadiockaaDoor
