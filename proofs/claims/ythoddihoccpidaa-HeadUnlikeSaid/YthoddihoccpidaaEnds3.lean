/-
  Contracts of the program's layer 1 (ends): Part, Pad, Zero.
-/
import Derived.Test.YthoddihoccpidaaEnds1
import Derived.Test.YthoddihoccpidaaRow
import Derived.Test.YthoddihoccpidaaBits
namespace Go.Proofs.Ythoddihoccpidaa
open Go.RowKit

/-- what Part answers -/
def PartPost (w : World) (xs : List Int) (a m : Int) (e : Ending) (w' : World) : Prop :=
  ∃ A', e = .returned (.tuple #[.slice A' (partOf xs a m).length (partOf xs a m).length, .int .i64 (partErr xs.length a m)]) ∧ Fresh w' w.heap.size A' (partOf xs a m) ∧ Below w.heap.size w w'

set_option maxHeartbeats 400000 in
theorem Part_any (w : World) (A : Option Addr) (n c : Nat) (xs : List Int) (a m : Int) (h : Holds w w.heap.size A n c xs)
    (ha : -9223372036854775808 ≤ a ∧ a ≤ 9223372036854775807) (hm : -9223372036854775808 ≤ m ∧ m ≤ 9223372036854775807) :
    Calls Try.prog 29 #[.slice A n c, .int .i64 a, .int .i64 m] w (PartPost w xs a m) := by
  have hl := Lib.hid h.len
  have c2 := view_any w _ A n c xs a m h ha hm
  have hq : ∀ e w', (∃ A', e = .returned (.tuple #[.slice A' (partOf xs a m).length (partOf xs a m).length, .int .i64 (partErr n a m)]) ∧ Fresh w' w.heap.size A' (partOf xs a m) ∧ Below w.heap.size w w') → PartPost w xs a m e w' := by
    intro e w' hh
    unfold PartPost
    rw [hl.out]
    exact hh
  have HQ := Lib.hid hq
  clear hq
  by_cases hp : partErr n a m = 0
  · rw [hp] at c2 HQ
    have e2 : (partOf xs a m).length = m.toNat ∧ 0 ≤ m := by
      have h1 := hl.out
      unfold partOf
      rw [h1, if_pos hp]
      unfold partErr at hp
      by_cases g1 : a < 0 ∨ (n : Int) < a ∨ m < 0
      · rw [if_pos g1] at hp; omega
      · by_cases g2 : (n : Int) - a < m
        · rw [if_neg g1, if_pos g2] at hp; omega
        · rw [List.length_take, List.length_drop, h1]; omega
    obtain ⟨j, rfl⟩ := Int.eq_ofNat_of_zero_le e2.2
    have e3 : (partOf xs a j).length = j := by rw [e2.1]; rfl
    obtain ⟨ys, hys⟩ : ∃ ys, ys = partOf xs a j := ⟨_, rfl⟩
    rw [← hys] at c2 HQ e3
    rw [e3] at c2 HQ
    have C2 := Lib.hid c2
    have HYS := Lib.hid hys
    clear c2 hp e2 e3 hys
    go_enter Try.func29, Try.ntmps29
    go_wp2_with fail
    refine C2.out.mono ?_
    rintro e w' ⟨A', rfl, hv, rfl⟩
    have hjr := hv.room
    go_wp2_with (first
      | (at_make; refine wpList_make_bytes _ rfl (.tmp 21) (.tmp 21) rfl _ _ j rfl rfl rfl rfl (by omega) ?_; intro w1 hrow hb1)
      | ((with_reducible show wpList _ _ _ (⟨some 25, _, _, _, _, _⟩ :: _) _ _); refine wpList_copy_bytes rfl (.tmp 23) (.tmp 24) rfl w.heap.size j j j j A' rfl rfl _ ys _ hrow (hv.below hb1) (Nat.le_refl _) (by simp) ?_; intro w2 hrow2 hb2))
    go_ret2
    refine HQ.out _ _ ⟨_, rfl, .inr ⟨_, rfl, Nat.le_refl _, ?_⟩, hb1.trans hb2⟩
    have := hrow2.out
    simpa using this
  · have e2 : partOf xs a m = [] := by unfold partOf; rw [hl.out, if_neg hp]
    rw [e2] at c2 HQ
    obtain ⟨er, her⟩ : ∃ er, er = partErr n a m := ⟨_, rfl⟩
    rw [← her] at c2 hp HQ
    have C2 := Lib.hid c2
    have hne : (er != 0) = true := by simpa using hp
    clear c2 hp e2 her
    go_enter Try.func29, Try.ntmps29
    go_wp2_with fail
    refine C2.out.mono ?_
    rintro e w' ⟨A', rfl, hv, rfl⟩
    go_wp2
    go_ret2
    exact HQ.out _ _ ⟨_, rfl, .inl ⟨rfl, rfl⟩, Below.refl _ _⟩

/-- what Pad answers -/
def PadPost (w : World) (xs : List Int) (e : Ending) (w' : World) : Prop :=
  ∃ A', e = .returned (.slice A' (padLen xs.length) (padLen xs.length)) ∧ Fresh w' w.heap.size A' (padOf xs) ∧ Below w.heap.size w w'

end Go.Proofs.Ythoddihoccpidaa
