/-
  The walk of the statement ShaFresh: what is handed in stays, the room behind it, too; what is answered is new memory.
-/
import Derived.Test.YtpeanhnbkoacoaaDoorWorksS
import Derived.Test.YtpeanhnbkoacoaaDoorRefS4
import Derived.Test.YtpeanhnbkoacoaaDoorSame
import Derived.Test.YtpeanhnbkoacoaaDoorMem
import Derived.Test.YtpeanhnbkoacoaaDoorOpen
namespace Go.Proofs.YtpeanhnbkoacoaaDoor
open Go.RowKit
set_option linter.unusedVariables false

set_option maxHeartbeats 2000000 in
theorem walk_ShaFresh (W : World) (hT : KTab W) (A0 : Option Addr) (n0 c0 : Nat) (z0 : List Int) (l0 : n0 ≤ c0) (r0 : c0 ≤ 140737488351232) (h0 : Holds W W.heap.size A0 c0 c0 z0) (a1 : Int) (w1 : 0 ≤ a1 ∧ a1 ≤ 18446744073709551615) :
    Calls Tryd.prog 7 #[.slice A0 n0 c0, .int .u64 a1] W fun e W' => e = .returned (.bool true) ∧ Below W.heap.size W W' := by
  have h := h0.head l0
  obtain ⟨xs, hxs⟩ : ∃ xs, xs = z0.take n0 := ⟨_, rfl⟩
  rw [← hxs] at h
  clear hxs h0
  have hl := Lib.hid h.len
  have hby := h.byte
  have c1 := Wide_any W A0 n0 c0 xs h (by omega)
  unfold WidePost at c1
  rw [hl.out] at c1
  have C1 := Lib.hid c1
  have c2 := fun w A c h hK => Lib.hid (Sum_any w A n0 c xs (by omega) h hK)
  have c3 := fun w => Behind_any w a1 w1
  unfold BehPost at c3
  have c4 := fun w => RBehind_any w a1 w1
  have hb := behindOf_bytes a1
  have hbl : (behindOf a1).length ≤ 72 := by
    by_cases hlt : a1 < 1152921504606846976
    · have := behindOf_len a1 hlt
      have := noughts_lt a1
      omega
    · rw [behindOf_none a1 hlt]; simp
  obtain ⟨E, hE⟩ : ∃ E, E = behindOf a1 := ⟨_, rfl⟩
  rw [← hE] at c3 c4 hb hbl
  have c5 := fun w B B' A A' n c n' c' h h' => Lib.hid (Same_any w B B' A A' n c n' c' E E h h')
  rw [decide_eq_true rfl] at c5
  obtain ⟨L, hL⟩ : ∃ L, L = E.length := ⟨_, rfl⟩
  rw [← hL] at c3 hbl
  have C3 := fun w => Lib.hid (c3 w)
  have C4 := fun w => Lib.hid (c4 w)
  have HL := Lib.hid hL
  have c6 := fun w base A h => Lib.hid (Spoil_any w base A E L HL.out.symm hb (by omega) 1 (by omega) h)
  have c8 := fun w g A n c h1 h2 => Lib.hid (Left_any w g A n c xs h1 h2)
  have cw := fun w hK => Lib.hid (works_any w hK)
  have HT := Lib.hid hT
  clear c1 c3 c4 hE hL hT
  go_enter Tryd.func7, Tryd.ntmps7
  go_wp2_with fail
  refine C1.out.mono ?_
  rintro e w2 ⟨rfl, hr1, b2⟩
  have g2 := Lib.hid (h.over b2)
  have s2 := hr1.lt
  have hv2 : Hid (Holds w2 w2.heap.size (some ⟨W.heap.size, 0, none⟩) n0 (n0 + 3) xs) := by
    refine ⟨hl.out, by omega, by omega, hby, fun hA => (by cases hA), fun h0 => ⟨W.heap.size, 0, rfl, hr1.lt, fun i hi => ?_⟩⟩
    have := hl.out
    rw [Nat.zero_add, hr1.cell (by simp; omega)]
    simp [List.getD_eq_getElem?_getD, List.getElem?_append, this, hi]
  have HR1 := Lib.hid hr1
  have B2 := Lib.hid b2
  clear hr1 b2
  go_wp2_with fail
  refine (c2 _ _ _ hv2.out (HT.out.below B2.out)).out.mono ?_
  rintro e w3 ⟨rfl, b3⟩
  have B3 : Hid (Below w2.heap.size w2 w3) := b3
  clear b3 hv2
  go_wp2_with fail
  refine (C3 _).out.mono ?_
  rintro e w4 ⟨A4, rfl, f4, b4⟩
  go_wp2_with fail
  refine (c6 _ _ _ f4).out.mono ?_
  rintro e w5 ⟨rfl, b5⟩
  have B5 : Hid (Below w2.heap.size w2 w5) := step B3.out (b4.trans b5)
  have HR5 := Lib.hid (HR1.out.below B5.out s2)
  have g5 := Lib.hid (g2.out.over B5.out)
  clear f4 b4 b5 B3 HR1 g2
  go_wp2_with fail
  refine (c8 _ _ _ _ _ HR5.out g5.out).out.mono ?_
  rintro e w' ⟨rfl, j6, rfl⟩
  have B6 : Hid (Below W.heap.size W (w5.drewN j6)) := below_drewN (step B2.out B5.out) j6
  clear HR5 g5 B5 B2
  go_wp2_with fail
  refine (C3 _).out.mono ?_
  rintro e w7 ⟨A7, rfl, f7, b7⟩
  have F7 := Lib.hid (f7.holds HL.out.symm hb (by omega))
  have B7 : Hid (Below W.heap.size W w7) := step B6.out b7
  clear f7 b7 B6
  go_wp2_with fail
  refine (C4 _).out.mono ?_
  rintro e w8 ⟨v8, rfl, o8, b8⟩
  obtain ⟨A8, k8, rfl, hh8⟩ := o8.holds hb (by rw [← HL.out]; omega)
  rw [← HL.out] at hh8 ⊢
  have F78 := Lib.hid (F7.out.over b8)
  have F8 := Lib.hid hh8
  have B8 : Hid (Below W.heap.size W w8) := step B7.out b8
  clear o8 hh8 F7 b8 B7
  go_wp2_with fail
  refine (c5 _ _ _ _ _ _ _ _ _ F78.out F8.out).out.mono ?_
  rintro e w9 ⟨rfl, j9, rfl⟩
  have B9 : Hid (Below W.heap.size W (w8.drewN j9)) := below_drewN B8.out j9
  go_wp2_with fail
  refine (cw _ (HT.out.below B9.out)).out.mono ?_
  rintro e w10 ⟨rfl, b10⟩
  go_wp2_with fail
  go_ret
  exact ⟨rfl, step B9.out b10⟩
end Go.Proofs.YtpeanhnbkoacoaaDoor
