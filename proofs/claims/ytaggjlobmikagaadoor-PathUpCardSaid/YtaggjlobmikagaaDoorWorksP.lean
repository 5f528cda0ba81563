/-
  Layer 6: what all statements of the layer share: works; a []string argument as names.
-/
import Derived.Test.YtaggjlobmikagaaDoorRefP4
namespace Go.Proofs.YtaggjlobmikagaaDoor
open Go.RowKit

section
variable {w w' : World} {B : Nat} {A : Option Addr} {n c : Nat}
/-- the texts of a []string argument -/
def argL (z : List ByteArray) (n : Nat) : List (List UInt8) := (z.map (·.data.toList)).take n
theorem HoldsF.texts {z : List ByteArray} (h : HoldsF Value.string w B A c c z) (hn : n ≤ c) : HoldsF strV w B A n c (argL z n) :=
  ⟨by have := h.len; unfold argL; simp; omega, hn, h.bare, fun h0 => by
    obtain ⟨b, off, rfl, hb, hc⟩ := h.cells (by omega)
    refine ⟨b, off, rfl, hb, fun i x hi => ?_⟩
    unfold argL at hi
    rw [List.getElem?_take] at hi
    split at hi
    · rw [List.getElem?_map] at hi
      cases hz : z[i]? with
      | none => rw [hz] at hi; cases hi
      | some s =>
        rw [hz] at hi
        cases hi
        exact hc i s hz
    · cases hi⟩
theorem argL_le {z : List ByteArray} {R : Nat} (h : sumSize z ≤ R) : ∀ p ∈ argL z n, p.length ≤ R := by
  intro p hp
  obtain ⟨s, hs, rfl⟩ := List.mem_map.1 (List.mem_of_mem_take hp)
  have := sumSize_mem hs
  rw [← Lib.size_eq]
  omega
theorem argL_each {z : List ByteArray} {R : Nat} (h : ∀ s ∈ z, s.size ≤ R) : ∀ p ∈ argL z n, p.length ≤ R := by
  intro p hp
  obtain ⟨s, hs, rfl⟩ := List.mem_map.1 (List.mem_of_mem_take hp)
  have := h s hs
  rwa [← Lib.size_eq]
/-- a literal: a block that has just been laid -/
theorem HoldsF.lit (w : World) (e : TypeId) (xs : List (List UInt8)) (cs : Array Value) (n : Nat) (hcs : cs = (xs.map strV).toArray) (hn : xs.length = n) :
    HoldsF strV (w.alloc (.cells cs e)) (w.heap.size + 1) (some ⟨w.heap.size, 0, none⟩) n n xs := by
  subst hcs
  refine ⟨hn, Nat.le_refl _, (fun hA => by cases hA), fun _ => ⟨w.heap.size, 0, rfl, Nat.lt_succ_self _, fun i x hi => ?_⟩⟩
  rw [cell_of_row _ w.heap.size (0 + i) _ e (0, 0) (heap_alloc_new w _), Nat.zero_add]
  simp [hi]
end

theorem works_p1 : parseErr [97, 92, 66, 46, 116, 120, 116] = 0 ∧ parseOf [97, 92, 66, 46, 116, 120, 116] = [[97], [66, 46, 116, 120, 116]] := by decide +kernel
theorem works_p2 : parseErr [97, 92, 92, 98] = 2 := by decide +kernel
theorem works_p3 : underP [65, 92, 98] [97] = true := by decide +kernel
theorem works_p4 : nameOf [97, 46] = false := by decide +kernel

set_option maxHeartbeats 1000000 in
theorem works_any (w : World) (hT : Tabs w) : Calls Tryd.prog 17 #[] w fun e w' => e = .returned (.bool true) ∧ Below w.heap.size w w' := by
  have c1 := Parse_any ⟨#[97, 92, 66, 46, 116, 120, 116]⟩ w (by decide) hT
  unfold ParsePost at c1
  rw [show (⟨#[97, 92, 66, 46, 116, 120, 116]⟩ : ByteArray).data.toList = [97, 92, 66, 46, 116, 120, 116] from rfl, works_p1.1, works_p1.2] at c1
  have c2 := fun w hT => Parse_any ⟨#[97, 92, 92, 98]⟩ w (by decide) hT
  unfold ParsePost at c2
  rw [show (⟨#[97, 92, 92, 98]⟩ : ByteArray).data.toList = [97, 92, 92, 98] from rfl, works_p2] at c2
  have c3 := fun w hT => PUnder_any ⟨#[65, 92, 98]⟩ ⟨#[97]⟩ w (by decide) (by decide) hT
  rw [show (⟨#[65, 92, 98]⟩ : ByteArray).data.toList = [65, 92, 98] from rfl, show (⟨#[97]⟩ : ByteArray).data.toList = [97] from rfl, works_p3] at c3
  have c4 := fun w hT => Name_any ⟨#[97, 46]⟩ w (by decide) hT
  rw [show (⟨#[97, 46]⟩ : ByteArray).data.toList = [97, 46] from rfl, works_p4] at c4
  have C1 := Lib.hid c1
  have C2 := Lib.hid c2
  have C3 := Lib.hid c3
  have C4 := Lib.hid c4
  clear c1 c2 c3 c4
  go_enter Tryd.func17, Tryd.ntmps17
  go_wp2_with fail
  refine C1.out.mono ?_
  rintro e w1 ⟨v, rfl, ho1, hb1⟩
  have hT1 := hT.below hb1
  have HO1 := Lib.hid ho1
  clear ho1
  go_wp2_with fail
  refine (C2.out _ hT1).mono ?_
  rintro e w2 ⟨u, rfl, ho2, hb2⟩
  have hT2 := hT1.below hb2
  obtain ⟨A, n, c, rfl, hh⟩ := (HO1.out.below hb2).holds
  have hn := hh.len
  obtain rfl : n = 2 := hn.symm
  have H2 := Lib.hid hh
  have hb12 := Lib.hid (step hb1 hb2)
  clear ho2 hh hn HO1 hb2 hT1
  go_wp2_with fail
  refine (Texts_any _ (w2.heap.size + 1) (w2.heap.size + 1) _ _ _ _ _ _ [[97], [66, 46, 116, 120, 116]] [[97], [66, 46, 116, 120, 116]] ((H2.out.below ((Below.refl _ _).alloc (Nat.le_refl _) _)).mono (by omega)) (HoldsF.lit w2 _ _ _ 2 rfl rfl) (by omega) (by omega)).mono ?_
  rintro e w3 ⟨rfl, k3, rfl⟩
  have hb3 : Below w2.heap.size w2 ((w2.alloc (.cells (List.map strV [[97], [66, 46, 116, 120, 116]]).toArray 9)).drewN k3) := ((Below.refl _ _).alloc (Nat.le_refl _) _).trans ((drewed _ _).mono (by simp))
  have hT3 := hT2.below hb3
  have hdt : decide (([[97], [66, 46, 116, 120, 116]] : List (List UInt8)) = [[97], [66, 46, 116, 120, 116]]) = true := by decide
  rw [hdt]
  clear H2 hdt
  obtain ⟨w3, hw3⟩ : ∃ w3, w3 = (w2.alloc (.cells (List.map strV [[97], [66, 46, 116, 120, 116]]).toArray 9)).drewN k3 := ⟨_, rfl⟩
  rw [← hw3] at hb3 hT3 ⊢
  clear hw3
  go_wp2_with fail
  refine (C3.out _ hT3).mono ?_
  rintro e w4 ⟨rfl, hb4⟩
  have hT4 := hT3.below hb4
  go_wp2_with fail
  refine (C4.out _ hT4).mono ?_
  rintro e w5 ⟨rfl, hb5⟩
  go_wp2
  go_ret
  exact ⟨rfl, step (step (step hb12.out hb3) hb4) hb5⟩
end Go.Proofs.YtaggjlobmikagaaDoor
