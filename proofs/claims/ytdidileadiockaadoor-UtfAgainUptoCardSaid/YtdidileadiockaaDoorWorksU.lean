/-
  Contract of the statements' own 'works' of layer 2: texts that the document tells.
-/
import Derived.Test.YtdidileadiockaaDoorUtfD
import Derived.Test.YtdidileadiockaaDoorSame
namespace Go.Proofs.YtdidileadiockaaDoor
open Go.RowKit

theorem OwnK.holds {w : World} {base : Nat} {v : Value} {xs : List Int} (h : OwnK .u8 5 w base v xs) (hx : Bytes xs) (hn : xs.length ≤ 281474976710656) :
    ∃ A c, v = .slice A xs.length c ∧ Holds w w.heap.size A xs.length c xs := Own.holds (base := base) h hx hn

set_option maxHeartbeats 1000000 in
theorem works_any (w : World) (hT : Tabs w) : Calls Tryd.prog 15 #[] w fun e w' => e = .returned (.bool true) ∧ Below w.heap.size w w' := by
  have c1 := Lib.hid (Put_any ⟨#[97, 195, 169]⟩ w (by decide) hT)
  have e1 : putOfL [97, 195, 169] = [97, 0, 233, 0] := by decide +kernel
  have e1' : textErr [97, 195, 169] = 0 := by decide +kernel
  unfold PutPost at c1
  rw [show (⟨#[97, 195, 169]⟩ : ByteArray).data.toList = [97, 195, 169] from rfl, e1, e1'] at c1
  have e2 : getText [72, 216] = [] := by decide +kernel
  have e2' : getTErr [72, 216] = 5 := by decide +kernel
  have c2 := fun w A n c h hn => Lib.hid (TGet_any w A n c [72, 216] h hn)
  unfold GetPost at c2
  rw [e2, e2'] at c2
  have c3 := fun w B B' A A' n c n' c' h h' => Lib.hid (Same_any w B B' A A' n c n' c' [97, 0, 233, 0] [97, 0, 233, 0] h h')
  rw [decide_eq_true rfl] at c3
  have c4 := fun w hT => Lib.hid (Alike_any ⟨#[97, 98]⟩ ⟨#[65, 66]⟩ w (by decide) (by decide) hT)
  rw [show alikeOf (⟨#[97, 98]⟩ : ByteArray).data.toList (⟨#[65, 66]⟩ : ByteArray).data.toList = true by decide +kernel] at c4
  have c5 := fun w hT => Lib.hid (Ahead_any ⟨#[97]⟩ ⟨#[66]⟩ w (by decide) (by decide) hT)
  rw [show aheadOf (⟨#[97]⟩ : ByteArray).data.toList (⟨#[66]⟩ : ByteArray).data.toList = true by decide +kernel] at c5
  have c6 := fun w hT => Lib.hid (Fold_any ⟨#[65, 98, 195, 137]⟩ w (by decide) hT)
  unfold FoldPost at c6
  rw [show foldB (⟨#[65, 98, 195, 137]⟩ : ByteArray).data.toList = [97, 98, 195, 137] by decide +kernel] at c6
  clear e1 e1' e2 e2'
  go_enter Tryd.func15, Tryd.ntmps15
  go_wp2_with fail
  refine c1.out.mono ?_
  rintro e w1 ⟨v1, rfl, ho1, hb1⟩
  have HO1 := Lib.hid ho1
  clear ho1
  have hl1 := (Holds.lit w1 [72, 216] #[.int .u8 72, .int .u8 216] _ 2 rfl rfl rfl (Bytes.of_all rfl) (by omega)).mono (B' := (w1.alloc (.cells #[.int .u8 72, .int .u8 216] 5)).heap.size) (by simp)
  have HL1 := Lib.hid hl1
  clear hl1
  go_wp2_with fail
  refine (c2 _ _ _ _ HL1.out (by omega)).out.mono ?_
  rintro e w2 ⟨rfl, hb2⟩
  have hb12 : Below w1.heap.size w1 w2 := ((Below.refl _ w1).alloc (Nat.le_refl _) _).trans (hb2.mono (by simp))
  have HO2 := Lib.hid (HO1.out.below hb12)
  obtain ⟨A1, cc1, rfl, hh1⟩ := HO2.out.own.holds (Bytes.of_all rfl) (by simp)
  have HH1 := Lib.hid hh1
  have hT2 := (hT.below hb1).below hb12
  clear hh1 hT c1 c2
  have HL3 := Lib.hid (Holds.lit w2 [97, 0, 233, 0] #[.int .u8 97, .int .u8 0, .int .u8 233, .int .u8 0] _ 4 rfl rfl rfl (Bytes.of_all rfl) (by omega))
  have hbL := (Below.refl _ w2).alloc (Nat.le_refl _) (.cells #[.int .u8 97, .int .u8 0, .int .u8 233, .int .u8 0] 5)
  go_wp2_with fail
  refine (c3 _ _ _ _ _ _ _ _ _ (HH1.out.below hbL) HL3.out).out.mono ?_
  rintro e w3 ⟨rfl, j3, rfl⟩
  have hb3 : Below w2.heap.size w2 ((w2.alloc (.cells #[.int .u8 97, .int .u8 0, .int .u8 233, .int .u8 0] 5)).drewN j3) := hbL.trans ⟨rfl, rfl, rfl, Nat.le_refl _, fun _ _ => rfl⟩
  obtain ⟨w3, hw3⟩ : ∃ w3, w3 = (w2.alloc (.cells #[.int .u8 97, .int .u8 0, .int .u8 233, .int .u8 0] 5)).drewN j3 := ⟨_, rfl⟩
  have hT3 := hT2.below hb3
  rw [← hw3] at hb3 hT3
  go_wp2_with fail
  rw [← hw3]
  refine (c4 _ hT3).out.mono ?_
  rintro e w4 ⟨rfl, hb4⟩
  have hT4 := hT3.below hb4
  go_wp2_with fail
  refine (c5 _ hT4).out.mono ?_
  rintro e w5 ⟨rfl, hb5⟩
  have hT5 := hT4.below hb5
  go_wp2_with fail
  refine (c6 _ hT5).out.mono ?_
  rintro e w6 ⟨rfl, hb6⟩
  clear hw3
  go_wp2
  go_ret
  exact ⟨rfl, step (step (step (step (step hb1 hb12) hb3) hb4) hb5) hb6⟩
end Go.Proofs.YtdidileadiockaaDoor
