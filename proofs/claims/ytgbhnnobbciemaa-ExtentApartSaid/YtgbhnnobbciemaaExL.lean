/-
  Layer 14 (extent): what the laws ask of a file again and again: all of it read; two of its lists of extents compared.
-/
import Derived.Test.YtgbhnnobbciemaaExP
import Derived.Test.YtgbhnnobbciemaaExW
namespace Go.Proofs.Ytgbhnnobbciemaa
set_option maxRecDepth 100000
open Go.RowKit
set_option linter.unusedVariables false

section
variable {w w' : World} {b q : Nat} {B : List Int} {Z : List Bool} {S : Nat → Prop}
theorem ExtI.below (I : ExtI) (h : I.is w b q B Z S) (hb : Below w.heap.size w w') : I.is w' b q B Z S := I.keep h (Spare.of_over (fun _ => False) hb) fun _ _ h => h
/-- all of a file, read -/
def AllPost (w : World) (B : List Int) (e : Ending) (w' : World) : Prop :=
  ∃ A c, e = .returned (.tuple #[.slice A B.length c, .int .i64 (exRdE B.length 0 65536)]) ∧ Holds w' w'.heap.size A B.length c B ∧ (∀ x, A = some x → w.heap.size ≤ x.block ∧ x.block < w'.heap.size) ∧ Loose w' w.heap.size w'.heap.size (.slice A B.length c) ∧ Below w.heap.size w w'
theorem ExtI.all (I : ExtI) (h : I.is w b q B Z S) : Calls Try.prog 13 #[ptr q, .int .i64 0, .int .i64 65536] w (AllPost w B) := by
  obtain ⟨_, hs, hb⟩ := I.okB h
  refine (I.read h (a := 0) (k := 65536) (by unfold I64; omega) (by unfold I64; omega)).mono ?_
  rintro e w' ⟨v, rfl, o, lo, l⟩
  rw [exRd_all hs] at o
  obtain ⟨A, c, rfl, y⟩ := o.holds hb (by omega)
  refine ⟨A, c, rfl, y, fun x hx => ?_, lo, l⟩
  subst hx
  obtain ⟨h1, cs, h2⟩ := OwnK.block (k := .u8) o (i := x.block) (by obtain ⟨b, o, s⟩ := x; rfl)
  exact ⟨h1, (Array.getElem?_eq_some_iff.1 h2).1⟩
/-- bytes in a block that is not turned stay -/
theorem Holds.spar {B n c : Nat} {A : Option Addr} {xs : List Int} (h : Holds w B A n c xs) (a : Spare S w w') (hB : B ≤ w.heap.size) (hs : ∀ x, A = some x → ¬ S x.block) : Holds w' B A n c xs := by
  refine ⟨h.len, h.fit, h.room, h.byte, h.bare, fun h0 => ?_⟩
  obtain ⟨g, off, e, hb, hc⟩ := h.cells h0
  refine ⟨g, off, e, hb, fun i hi => ?_⟩
  exact a.cellAt (fun hg => hs _ e hg) (hc i hi)
theorem nd_iff {α : Type} {l : List α} {n : Nat} (h : l.length = n) (h0 : ¬ n = 0) : l ≠ [] := by
  rintro rfl
  exact h0 h.symm
/-- extents in blocks that are not turned stay -/
theorem XExt.spar {base top n c : Nat} {A : Option Addr} {l : List ExtV} (h : XExt w base top A n c l) (a : Spare S w w') (hB : top ≤ w.heap.size) (hs : ∀ j, S j → j < base ∨ top ≤ j) : XExt w' base top A n c l := by
  have off : ∀ x : Addr, base ≤ x.block ∧ x.block < top → ¬ S x.block := fun x h1 h2 => by
    have := hs _ h2
    omega
  refine ⟨⟨?_, fun x hx => (h.lst.each x hx).spar a hB fun y hy => off y (h.each x hx y hy)⟩, h.row, h.each, fun x hx => ?_⟩
  rotate_left
  · rcases h.loose x hx with h0 | ⟨g, n, N, zs, h0, h1, h2, h3, h4, h5, hr⟩
    · exact .inl h0
    · exact .inr ⟨g, n, N, zs, h0, h1, h2, h3, h4, h5, hr.spare a fun hg => by have := hs _ hg; omega⟩
  obtain ⟨h1, h2, h3, h4⟩ := h.lst.row
  refine ⟨h1, h2, h3, fun h0 => ?_⟩
  obtain ⟨g, o, e, hg, hc⟩ := h4 h0
  exact ⟨g, o, e, hg, fun i x hi j u hj => a.cellAt (off _ (h.row _ e)) (hc i x hi j u hj)⟩
theorem Loose.spar {lo hi : Nat} {v : Value} (h : Loose w lo hi v) (a : Spare S w w') (hs : ∀ j, S j → j < lo ∨ hi ≤ j) : Loose w' lo hi v := by
  rcases h with h0 | ⟨g, n, N, zs, h0, h1, h2, h3, h4, h5, hr⟩
  · exact .inl h0
  · exact .inr ⟨g, n, N, zs, h0, h1, h2, h3, h4, h5, hr.spare a fun hg => by have := hs _ hg; omega⟩
/-- Spoil turns the row that it gets, and leaves each such row one -/
def SpoilPost (w : World) (v : Value) (e : Ending) (w' : World) : Prop :=
  e = .returned (.tuple #[]) ∧ Spare (fun j => v.ownBlock = some j) w w' ∧ ∀ u lo hi, Loose w lo hi u → Loose w' lo hi u
theorem SpoilX_any (w : World) (lo hi : Nat) (v : Value) (h : Loose w lo hi v) : Calls Try.prog 23 #[v, .int .u8 1] w (SpoilPost w v) := by
  rcases h with rfl | ⟨g, n, N, zs, rfl, h1, h2, h3, h4, h5, hr⟩
  · exact (Spoil_nil w 1 (by omega)).mono fun e w' ⟨q1, q2⟩ => ⟨q1, Spare.of_over _ q2, fun u lo hi hu => hu.over q2⟩
  · refine (SpoilR_any w g n N zs h1 h3 h2 1 (by omega) hr).mono fun e w' ⟨q1, q2, ys, q3, q4⟩ => ⟨q1, (Spare.of_only q2).mono fun j _ hj => by rw [hj]; rfl, fun u lo hi hu => ?_⟩
    rcases hu with rfl | ⟨g', n', N', zs', rfl, k1, k2, k3, k4, k5, kr⟩
    · exact .inl rfl
    · by_cases hg : g' = g
      · subst hg
        have hl : zs.length = zs'.length := by
          have e := hr.symm.trans kr
          injection e with e
          injection e with e
          have := congrArg Array.size e
          simpa using this
        exact .inr ⟨g', n', N', ys, rfl, k1, k2, by omega, k4, k5, q4⟩
      · exact .inr ⟨g', n', N', zs', rfl, k1, k2, k3, k4, k5, kr.only q2 hg⟩
theorem Loose.own {lo hi i : Nat} {v : Value} (h : Loose w lo hi v) (hi' : v.ownBlock = some i) : lo ≤ i ∧ i < hi ∧ ∃ zs, Row w i zs := by
  rcases h with rfl | ⟨g, n, N, zs, rfl, h1, h2, h3, h4, h5, hr⟩
  · cases hi'
  · cases hi'
    exact ⟨h4, h5, zs, hr⟩
/-- two lists of what one file holds -/
theorem same_exts {b b' n c n' c' : Nat} {A A' : Option Addr} {l m : List ExtV} (hb : B.length ≤ 65536) (h : LExt w b A n c l) (h' : LExt w b' A' n' c' m) (e1 : extsL l = exts B Z) (e2 : extsL m = exts B Z) :
    Calls Try.prog 21 #[.slice A n c, .slice A' n' c'] w fun e w' => e = .returned (.bool true) ∧ ∃ k, w.drewN k = w' := by
  obtain ⟨s1, s2⟩ := exts_small hb e1
  obtain ⟨s3, s4⟩ := exts_small hb e2
  rw [h.len] at s1
  rw [h'.len] at s3
  have := RExSame_any w _ _ _ _ _ _ _ _ l m h h' s1 s3 s2 s4
  rw [e1, e2] at this
  simpa using this
/-- what stands where something was written -/
theorem exWr_get {B xs : List Int} {a i : Nat} {n : Nat} (hl : xs.length = n) (h0 : ¬ n = 0) (he : exWrE (a : Int) n = 0) : (exWr 0 B (a : Int) xs).getD i 0 = (if a ≤ i ∧ i < a + n then xs.getD (i - a) 0 else B.getD i 0) := by
  unfold exWr
  rw [if_pos ⟨by rw [hl]; exact he, nd_iff hl h0⟩, layAt_get, hl, Int.toNat_natCast]
theorem exWr_size {B xs : List Int} {a : Nat} {n : Nat} (hl : xs.length = n) (h0 : ¬ n = 0) (he : exWrE (a : Int) n = 0) : (exWr 0 B (a : Int) xs).length = max B.length (a + n) := by
  unfold exWr
  rw [if_pos ⟨by rw [hl]; exact he, nd_iff hl h0⟩, layAt_len, hl, Int.toNat_natCast]
theorem exWr_same {α : Type} {z : α} {B xs : List α} {a : Int} {n : Nat} (hl : xs.length = n) (h : ¬ exWrE a n = 0 ∨ n = 0) : exWr z B a xs = B := by
  unfold exWr
  rw [if_neg]
  rintro ⟨h1, h2⟩
  rcases h with h | h
  · exact h (by rw [← hl]; exact h1)
  · exact h2 (List.length_eq_zero_iff.1 (by rw [hl]; exact h))
theorem Holds.fore {B n c m : Nat} {A : Option Addr} {xs : List Int} (h : Holds w B A n c xs) (hm : m ≤ n) : Holds w B A m c (xs.take m) := by
  have hl := h.len
  have hf := h.fit
  have hr := h.room
  refine ⟨by rw [List.length_take]; omega, by omega, by omega, h.byte.take _, h.bare, fun h0 => ?_⟩
  obtain ⟨g, off, e, hb, hc⟩ := h.cells (by omega)
  refine ⟨g, off, e, hb, fun i hi => ?_⟩
  rw [hc i (by omega), List.getD_eq_getElem?_getD, List.getD_eq_getElem?_getD, List.getElem?_take, if_pos hi]
/-- a call that only draws, for go_quiet -/
theorem quiet_drw {P : Program} {f : FuncId} {args : Array Value} {w : World} {n : Nat} {v : Value}
    (h : Calls P f args (w.drewN n) fun e w' => e = .returned v ∧ ∃ k, (w.drewN n).drewN k = w') : Calls P f args (w.drewN n) fun e w'' => e = .returned v ∧ ∃ m, w'' = w.drewN m :=
  h.mono fun _ _ ⟨he, m, hm⟩ => ⟨he, n + m, by rw [← hm, World.drewN_drewN]⟩
/-- what is cut off, and grown again, is nothing -/
theorem cut_cut {B : List Int} {s t : Nat} (hs : s ≤ B.length) (ht : s ≤ t) : (padTo (0 : Int) (padTo 0 B s) t).length = t ∧ (padTo (0 : Int) (padTo 0 B s) t).take s = B.take s ∧ ∀ i, s ≤ i → (padTo (0 : Int) (padTo 0 B s) t).getD i 0 = 0 := by
  have h1 : padTo (0 : Int) B s = B.take s := by unfold padTo; rw [show s - B.length = 0 by omega]; simp
  have h2 : (B.take s).length = s := by rw [List.length_take]; omega
  rw [h1]
  refine ⟨padTo_len, ?_, fun i hi => ?_⟩
  · unfold padTo
    rw [List.take_of_length_le (by omega : (B.take s).length ≤ t), List.take_append_of_le_length (by omega), List.take_of_length_le (by omega)]
  · unfold padTo
    rw [List.take_of_length_le (by omega : (B.take s).length ≤ t), List.getD_eq_getElem?_getD, List.getElem?_append_right (by omega), List.getElem?_replicate]
    split <;> rfl
end
end Go.Proofs.Ytgbhnnobbciemaa
