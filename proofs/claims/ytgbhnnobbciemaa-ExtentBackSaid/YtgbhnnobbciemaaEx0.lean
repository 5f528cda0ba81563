/-
  Layer 14 (extent), words: a file as its bytes and which of them were written: what is read, cut, written, told. No program is named here.
-/
import Derived.Test.YtgbhnnobbciemaaWords
namespace Go.Proofs.Ytgbhnnobbciemaa
open Go.RowKit
set_option linter.unusedVariables false

def exRdE (n : Nat) (a k : Int) : Int := if a < 0 ∨ k < 0 then 2 else if k = 0 then 0 else if (n : Int) ≤ a then 22 else 0
def exRd (B : List Int) (a k : Int) : List Int := if exRdE B.length a k = 0 then (B.drop a.toNat).take k.toNat else []
def exCutE (s : Int) : Int := if s < 0 then 2 else if 65536 < s then 3 else 0
/-- so many, those that are new are z -/
def padTo {α : Type} (z : α) (l : List α) (n : Nat) : List α := l.take n ++ List.replicate (n - l.length) z
def exCut {α : Type} (z : α) (l : List α) (s : Int) : List α := if exCutE s = 0 then padTo z l s.toNat else l
def exWrE (a : Int) (m : Nat) : Int := if a < 0 then 2 else if m = 0 then 0 else if 65536 < a + m then 3 else 0
/-- ys stands at a -/
def layAt {α : Type} (z : α) (l : List α) (a : Nat) (ys : List α) : List α := (padTo z l (max l.length (a + ys.length))).take a ++ ys ++ l.drop (a + ys.length)
def exWr {α : Type} (z : α) (l : List α) (a : Int) (ys : List α) : List α := if exWrE a ys.length = 0 ∧ ys ≠ [] then layAt z l a.toNat ys else l

section
variable {α : Type} {z : α} {l ys : List α} {n a : Nat}
theorem padTo_len : (padTo z l n).length = n := by
  unfold padTo
  rw [List.length_append, List.length_take, List.length_replicate]
  omega
theorem padTo_self : padTo z l l.length = l := by simp [padTo]
theorem padTo_get {i : Nat} (h : i < n) : (padTo z l n).getD i z = l.getD i z := by
  unfold padTo
  rw [List.getD_eq_getElem?_getD, List.getD_eq_getElem?_getD, List.getElem?_append, List.length_take]
  by_cases h1 : i < min n l.length
  · rw [if_pos h1, List.getElem?_take, if_pos h]
  · rw [if_neg h1, List.getElem?_replicate, List.getElem?_eq_none (show l.length ≤ i by omega)]
    split <;> rfl
theorem layAt_len : (layAt z l a ys).length = max l.length (a + ys.length) := by
  unfold layAt
  rw [List.length_append, List.length_append, List.length_take, padTo_len, List.length_drop]
  omega
theorem layAt_get (i : Nat) : (layAt z l a ys).getD i z = if a ≤ i ∧ i < a + ys.length then ys.getD (i - a) z else l.getD i z := by
  unfold layAt
  have h0 : ((padTo z l (max l.length (a + ys.length))).take a).length = a := by rw [List.length_take, padTo_len]; omega
  rw [List.getD_eq_getElem?_getD, List.append_assoc, List.getElem?_append, h0]
  by_cases h1 : i < a
  · rw [if_pos h1, if_neg (by omega), List.getElem?_take, if_pos h1, ← List.getD_eq_getElem?_getD, padTo_get (by omega)]
  · rw [if_neg h1, List.getElem?_append]
    by_cases h2 : i < a + ys.length
    · rw [if_pos (by omega), if_pos ⟨by omega, h2⟩, ← List.getD_eq_getElem?_getD]
    · rw [if_neg (by omega), if_neg (by omega), List.getElem?_drop, show a + ys.length + (i - a - ys.length) = i by omega, List.getD_eq_getElem?_getD]
end
theorem padTo_bytes {B : List Int} (h : Bytes B) (n : Nat) : Bytes (padTo 0 B n) := (h.take n).append (Bytes.zeros _)
theorem layAt_bytes {B ys : List Int} (h : Bytes B) (hy : Bytes ys) (a : Nat) : Bytes (layAt 0 B a ys) := (((padTo_bytes h _).take a).append hy).append (h.drop _)
theorem exCut_len {α β : Type} (z : α) (y : β) {l : List α} {m : List β} (h : l.length = m.length) (s : Int) : (exCut z l s).length = (exCut y m s).length := by
  unfold exCut
  split
  · rw [padTo_len, padTo_len]
  · exact h
theorem exWr_len {α β : Type} (z : α) (y : β) {l : List α} {m : List β} {ys : List α} {zs : List β} (h : l.length = m.length) (hy : ys.length = zs.length) (a : Int) : (exWr z l a ys).length = (exWr y m a zs).length := by
  have e1 : (ys = []) ↔ (zs = []) := by rw [← List.length_eq_zero_iff, hy, List.length_eq_zero_iff]
  unfold exWr
  by_cases h1 : exWrE a ys.length = 0 ∧ ys ≠ []
  · rw [if_pos h1, if_pos ⟨by rw [← hy]; exact h1.1, fun h => h1.2 (e1.2 h)⟩, layAt_len, layAt_len, h, hy]
  · rw [if_neg h1, if_neg (fun h2 => h1 ⟨by rw [hy]; exact h2.1, fun h => h2.2 (e1.1 h)⟩), h]
theorem exCutE_ok {s : Int} (h : exCutE s = 0) : 0 ≤ s ∧ s ≤ 65536 := by
  unfold exCutE at h
  by_cases h2 : s < 0
  · rw [if_pos h2] at h; cases h
  · rw [if_neg h2] at h
    by_cases h3 : 65536 < s
    · rw [if_pos h3] at h; cases h
    · omega
theorem exCut_small {α : Type} (z : α) {l : List α} (h : l.length ≤ 65536) (s : Int) : (exCut z l s).length ≤ 65536 := by
  unfold exCut
  by_cases h1 : exCutE s = 0
  · have := exCutE_ok h1
    rw [if_pos h1, padTo_len]
    omega
  · rw [if_neg h1]
    exact h
theorem exWrE_ok {a : Int} {m : Nat} (h : exWrE a m = 0) (hm : 0 < m) : 0 ≤ a ∧ a + m ≤ 65536 := by
  unfold exWrE at h
  by_cases h1 : a < 0
  · rw [if_pos h1] at h; cases h
  · rw [if_neg h1, if_neg (by omega)] at h
    by_cases h2 : 65536 < a + m
    · rw [if_pos h2] at h; cases h
    · omega
theorem exWr_small {α : Type} (z : α) {l ys : List α} (h : l.length ≤ 65536) (a : Int) : (exWr z l a ys).length ≤ 65536 := by
  unfold exWr
  by_cases h1 : exWrE a ys.length = 0 ∧ ys ≠ []
  · have := exWrE_ok h1.1 (List.length_pos_iff.2 h1.2)
    rw [if_pos h1, layAt_len]
    omega
  · rw [if_neg h1]; exact h
theorem exCut_bytes {B : List Int} (h : Bytes B) (s : Int) : Bytes (exCut 0 B s) := by
  unfold exCut
  split
  · exact padTo_bytes h _
  · exact h
theorem exWr_bytes {B ys : List Int} (h : Bytes B) (hy : Bytes ys) (a : Int) : Bytes (exWr 0 B a ys) := by
  unfold exWr
  split
  · exact layAt_bytes h hy _
  · exact h
theorem exRd_bytes {B : List Int} (h : Bytes B) (a k : Int) : Bytes (exRd B a k) := by
  unfold exRd
  split
  · exact (h.drop _).take _
  · exact Bytes.nil
theorem exRd_len (B : List Int) (a k : Int) : (exRd B a k).length ≤ B.length := by
  unfold exRd
  split
  · rw [List.length_take, List.length_drop]; omega
  · exact Nat.zero_le _
/-- all of a file is read -/
theorem exRd_all {B : List Int} (h : B.length ≤ 65536) : exRd B 0 65536 = B := by
  by_cases h0 : B = []
  · subst h0
    rfl
  · have hp := List.length_pos_iff.2 h0
    have e : exRdE B.length 0 65536 = 0 := by
      unfold exRdE
      rw [if_neg (by omega), if_neg (by omega), if_neg (by omega)]
    unfold exRd
    rw [if_pos e]
    show (B.drop 0).take 65536 = B
    rw [List.drop_zero, List.take_of_length_le h]

/-! ### extents -/

/-- the pieces of the first i bytes -/
def extN (B : List Int) (Z : List Bool) : Nat → List (Nat × List Int)
  | 0 => []
  | i + 1 => if Z.getD i false = true then (if i = 0 ∨ Z.getD (i - 1) false = false then extN B Z i ++ [(i, [B.getD i 0])] else (extN B Z i).dropLast ++ [(((extN B Z i).getLastD (0, [])).1, ((extN B Z i).getLastD (0, [])).2 ++ [B.getD i 0])]) else extN B Z i
def exts (B : List Int) (Z : List Bool) : List (Nat × List Int) := extN B Z B.length

/-- pieces that rise, don't touch, have a byte each, end at i or ahead of it, and have the bytes of B -/
structure ExtOk (B : List Int) (i : Nat) (l : List (Nat × List Int)) : Prop where
  some : ∀ e ∈ l, e.2 ≠ []
  ends : ∀ e ∈ l, e.1 + e.2.length ≤ i
  have_ : ∀ e ∈ l, e.2 = (B.drop e.1).take e.2.length
  rise : l.Pairwise fun e f => e.1 + e.2.length < f.1
theorem ExtOk.mono {B : List Int} {i j : Nat} {l : List (Nat × List Int)} (h : ExtOk B i l) (hij : i ≤ j) : ExtOk B j l := ⟨h.some, fun e he => Nat.le_trans (h.ends e he) hij, h.have_, h.rise⟩
theorem take_snoc {B : List Int} {a k : Nat} (h : a + k < B.length) : (B.drop a).take (k + 1) = (B.drop a).take k ++ [B.getD (a + k) 0] := by
  have h1 : k < (B.drop a).length := by rw [List.length_drop]; omega
  rw [List.take_succ_eq_append_getElem h1]
  congr 2
  rw [List.getElem_drop, List.getD_eq_getElem?_getD, List.getElem?_eq_getElem h]
  rfl
/-- behind i bytes: if the last of them was written, the last piece ends there; if not, ahead of it -/
theorem extN_ok (B : List Int) (Z : List Bool) (i : Nat) (hi : i ≤ B.length) :
    ExtOk B i (extN B Z i) ∧ (0 < i → Z.getD (i - 1) false = true → ∃ r a bs, extN B Z i = r ++ [(a, bs)] ∧ a + bs.length = i) ∧ (0 < i → Z.getD (i - 1) false = false → ExtOk B (i - 1) (extN B Z i)) := by
  induction i with
  | zero => exact ⟨⟨(fun e h => by cases h), (fun e h => by cases h), (fun e h => by cases h), List.Pairwise.nil⟩, fun h => absurd h (Nat.lt_irrefl _), fun h => absurd h (Nat.lt_irrefl _)⟩
  | succ i ih =>
    obtain ⟨h1, h2, h3⟩ := ih (by omega)
    show ExtOk B (i + 1) (extN B Z (i + 1)) ∧ (0 < i + 1 → Z.getD i false = true → _) ∧ (0 < i + 1 → Z.getD i false = false → ExtOk B i (extN B Z (i + 1)))
    by_cases hz : Z.getD i false = true
    · by_cases hp : i = 0 ∨ Z.getD (i - 1) false = false
      · have e : extN B Z (i + 1) = extN B Z i ++ [(i, [B.getD i 0])] := by
          show (if _ then (if _ then _ else _) else _) = _
          rw [if_pos hz, if_pos hp]
        rw [e]
        have hlt : ∀ x ∈ extN B Z i, x.1 + x.2.length < i := fun x hx => by
          rcases Nat.eq_zero_or_pos i with h0 | h0
          · subst h0; cases hx
          · rcases hp with hp | hp
            · omega
            · have := (h3 h0 hp).ends x hx
              omega
        refine ⟨⟨fun x hx => ?_, fun x hx => ?_, fun x hx => ?_, ?_⟩, fun _ _ => ⟨_, i, [B.getD i 0], rfl, rfl⟩, fun _ h => absurd (hz.symm.trans h) (by simp)⟩
        · rcases List.mem_append.1 hx with hx | hx
          · exact h1.some x hx
          · rw [List.mem_singleton.1 hx]; simp
        · rcases List.mem_append.1 hx with hx | hx
          · have := hlt x hx; omega
          · rw [List.mem_singleton.1 hx]; simp
        · rcases List.mem_append.1 hx with hx | hx
          · exact h1.have_ x hx
          · rw [List.mem_singleton.1 hx]
            have := take_snoc (B := B) (a := i) (k := 0) (by omega)
            simpa using this.symm
        · refine List.pairwise_append.2 ⟨h1.rise, List.pairwise_singleton _ _, fun x hx y hy => ?_⟩
          rw [List.mem_singleton.1 hy]
          exact hlt x hx
      · have hi0 : 0 < i := by omega
        have hzi : Z.getD (i - 1) false = true := by
          cases hq : Z.getD (i - 1) false
          · exact absurd (.inr hq) hp
          · rfl
        obtain ⟨r, a, bs, hr, hab⟩ := h2 hi0 hzi
        have e : extN B Z (i + 1) = r ++ [(a, bs ++ [B.getD i 0])] := by
          show (if _ then (if _ then _ else _) else _) = _
          rw [if_pos hz, if_neg hp, hr]
          simp
        rw [hr] at h1
        have hne : bs ≠ [] := h1.some (a, bs) (List.mem_append_right _ (List.mem_singleton.2 rfl))
        have hbs : bs = (B.drop a).take bs.length := h1.have_ (a, bs) (List.mem_append_right _ (List.mem_singleton.2 rfl))
        obtain ⟨p1, _, p3⟩ := List.pairwise_append.1 h1.rise
        rw [e]
        refine ⟨⟨fun x hx => ?_, fun x hx => ?_, fun x hx => ?_, ?_⟩, fun _ _ => ⟨r, a, bs ++ [B.getD i 0], rfl, by simp; omega⟩, fun _ h => absurd (hz.symm.trans h) (by simp)⟩
        · rcases List.mem_append.1 hx with hx | hx
          · exact h1.some x (List.mem_append_left _ hx)
          · rw [List.mem_singleton.1 hx]; simp
        · rcases List.mem_append.1 hx with hx | hx
          · have := h1.ends x (List.mem_append_left _ hx); omega
          · rw [List.mem_singleton.1 hx]; simp; omega
        · rcases List.mem_append.1 hx with hx | hx
          · exact h1.have_ x (List.mem_append_left _ hx)
          · rw [List.mem_singleton.1 hx]
            show bs ++ [B.getD i 0] = (B.drop a).take (bs ++ [B.getD i 0]).length
            rw [List.length_append, List.length_singleton, take_snoc (by omega), hab, ← hbs]
        · refine List.pairwise_append.2 ⟨p1, List.pairwise_singleton _ _, fun x hx y hy => ?_⟩
          rw [List.mem_singleton.1 hy]
          exact p3 x hx (a, bs) (List.mem_singleton.2 rfl)
    · have e : extN B Z (i + 1) = extN B Z i := by
        show (if _ then (if _ then _ else _) else _) = _
        rw [if_neg hz]
      rw [e]
      exact ⟨h1.mono (by omega), fun _ h => absurd h hz, fun _ _ => h1⟩
theorem exts_ok (B : List Int) (Z : List Bool) : ExtOk B B.length (exts B Z) := (extN_ok B Z B.length (Nat.le_refl _)).1
end Go.Proofs.Ytgbhnnobbciemaa
