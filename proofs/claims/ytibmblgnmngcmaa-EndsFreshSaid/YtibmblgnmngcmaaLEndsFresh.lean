/-
  The walk of the statement EndsFresh: what is handed in stays, what is answered is new memory.
-/
import Derived.Test.YtibmblgnmngcmaaLEndsParts
import Derived.Test.YtibmblgnmngcmaaMem
namespace Go.Proofs.Ytibmblgnmngcmaa
open Go.RowKit
set_option linter.unusedVariables false

set_option maxHeartbeats 1000000 in
theorem walk_EndsFresh (W : World) (A0 : Option Addr) (n0 c0 : Nat) (z0 : List Int) (l0 : n0 ≤ c0) (r0 : c0 ≤ 140737488351232) (h0 : Holds W W.heap.size A0 c0 c0 z0)
    (a1 : Int) (w1 : -9223372036854775808 ≤ a1 ∧ a1 ≤ 9223372036854775807) (a2 : Int) (w2 : -9223372036854775808 ≤ a2 ∧ a2 ≤ 9223372036854775807) :
    Calls Try.prog 10 #[.slice A0 n0 c0, .int .i64 a1, .int .i64 a2] W fun e W' => e = .returned (.bool true) ∧ Below W.heap.size W W' := by
  have h := h0.head l0
  obtain ⟨xs, hxs⟩ : ∃ xs, xs = z0.take n0 := ⟨_, rfl⟩
  rw [← hxs] at h
  clear hxs h0
  have hl := Lib.hid h.len
  have hby := h.byte
  have hpb := partOf_bytes h.byte a1 a2
  have hpl : (partOf xs a1 a2).length ≤ 140737488351232 := by have := partOf_length xs a1 a2; have := hl.out; omega
  have hqb := padOf_bytes h.byte
  have hqe := Lib.hid (padOf_length xs)
  have hql : padLen xs.length ≤ 140737488355328 := by rw [hl.out]; unfold padLen; omega
  have c1 := Wide_any W A0 n0 c0 xs h (by omega)
  unfold WidePost at c1
  rw [hl.out] at c1
  have C1 := Lib.hid c1
  have c2 := fun w A n c h => Lib.hid (Part_any w A n c xs a1 a2 h w1 w2)
  have c3 := fun w base A xs n hn hx hn2 h => Lib.hid (Spoil_any w base A xs n hn hx hn2 1 (by omega) h)
  have c4 := fun w A n c h hn => Lib.hid (Pad_any w A n c xs h hn)
  have c5 := fun w B A n c h => Lib.hid (Get_any w B A n c xs a1 a2 h w1 w2)
  have c6 := fun w B A n c h => Lib.hid (Zero_any w B A n c xs a1 a2 h w1 w2)
  have c7 := fun w => Lib.hid (works_any w)
  have c8 := fun w g A n c h1 h2 => Lib.hid (Left_any w g A n c xs h1 h2)
  clear c1 w1 w2
  go_enter Try.func10, Try.ntmps10
  go_wp2_with fail
  refine C1.out.mono ?_
  rintro e w1 ⟨rfl, hr1, hb1⟩
  have g1 := h.over hb1
  have hv1 : Holds w1 w1.heap.size (some ⟨W.heap.size, 0, none⟩) n0 (n0 + 3) xs := by
    refine ⟨hl.out, by omega, by omega, hby, fun hA => (by cases hA), fun h0 => ⟨W.heap.size, 0, rfl, hr1.lt, fun i hi => ?_⟩⟩
    have := hl.out
    rw [Nat.zero_add, hr1.cell (by simp; omega)]
    simp [List.getD_eq_getElem?_getD, List.getElem?_append, this, hi]
  have s1 := hr1.lt
  go_wp2_with fail
  refine (c2 _ _ _ _ hv1).out.mono ?_
  rintro e w2 ⟨A2, rfl, f2, hb2⟩
  go_wp2_with fail
  refine (c3 _ _ _ _ _ rfl hpb (by omega) f2).out.mono ?_
  rintro e w3 ⟨rfl, hb3⟩
  have hb13 : Below w1.heap.size w1 w3 := hb2.trans hb3
  have hr3 := hr1.below hb13 s1
  have hv3 := hv1.over hb13
  have g3 := g1.over hb13
  go_wp2_with fail
  refine (c4 _ _ _ _ hv3 (by omega)).out.mono ?_
  rintro e w4 ⟨A4, rfl, f4, hb4⟩
  go_wp2_with fail
  refine (c3 _ _ _ _ _ hqe.out hqb (by omega) f4).out.mono ?_
  rintro e w5 ⟨rfl, hb5⟩
  have hb35 : Below w3.heap.size w3 w5 := hb4.trans hb5
  have hr5 := hr3.below hb35 hr3.lt
  have hv5 := hv3.over hb35
  have g5 := g3.over hb35
  go_wp2_with fail
  refine (c5 _ _ _ _ _ hv5).out.mono ?_
  rintro e w' ⟨rfl, rfl⟩
  go_wp2_with fail
  refine (c6 _ _ _ _ _ hv5).out.mono ?_
  rintro e w' ⟨rfl, rfl⟩
  go_wp2_with fail
  refine (c8 _ _ _ _ _ hr5 g5).out.mono ?_
  rintro e w6 ⟨rfl, j6, rfl⟩
  go_wp2_with fail
  refine (c7 _).out.mono ?_
  rintro e w7 ⟨rfl, hb7⟩
  go_wp2
  go_ret
  exact ⟨rfl, step (step (step (step hb1 hb13) hb35) (drewed _ j6)) hb7⟩
end Go.Proofs.Ytibmblgnmngcmaa
