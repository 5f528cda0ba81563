/-
  The walk of the statement UtfGets: the text of whatever bytes is the document's.
-/
import Derived.Test.YtdidileadiockaaDoorRefU3
import Derived.Test.YtdidileadiockaaDoorOpen
namespace Go.Proofs.YtdidileadiockaaDoor
open Go.RowKit
set_option linter.unusedVariables false

set_option maxHeartbeats 1000000 in
theorem walk_UtfGets (W : World) (hT : Tabs W) (A0 : Option Addr) (n0 c0 : Nat) (z0 : List Int) (l0 : n0 ≤ c0) (r0 : c0 ≤ 1048576) (h0 : Holds W W.heap.size A0 c0 c0 z0) :
    Calls Tryd.prog 4 #[.slice A0 n0 c0] W fun e W' => e = .returned (.bool true) ∧ Below W.heap.size W W' := by
  have h := h0.head l0
  obtain ⟨xs, hxs⟩ : ∃ xs, xs = z0.take n0 := ⟨_, rfl⟩
  rw [← hxs] at h
  clear hxs h0
  have c1 := fun w A n c h hn => TGet_any w A n c xs h hn
  have c2 := fun w A n c h hn => RGet_any w A n c xs h hn
  unfold GetPost at c1 c2
  obtain ⟨S, hS⟩ : ∃ S : ByteArray, S = ⟨(getText xs).toArray⟩ := ⟨_, rfl⟩
  obtain ⟨E, hE⟩ : ∃ E, E = getTErr xs := ⟨_, rfl⟩
  rw [← hS, ← hE] at c1 c2
  have C1 := Lib.hid c1
  have C2 := Lib.hid c2
  have c6 := fun w hT => Lib.hid (works_any w hT)
  clear c1 c2 hS hE
  go_enter Tryd.func4, Tryd.ntmps4
  go_wp2_with fail
  refine (C1.out _ _ _ _ h (by omega)).mono ?_
  rintro e w1 ⟨rfl, hb1⟩
  have hT1 := hT.below hb1
  go_wp2_with fail
  refine (C2.out _ _ _ _ (h.over hb1) (by omega)).mono ?_
  rintro e w2 ⟨rfl, hb2⟩
  have hT2 := hT1.below hb2
  go_wp2_with fail
  refine (c6 _ hT2).out.mono ?_
  rintro e w6 ⟨rfl, hb6⟩
  go_wp2
  go_ret
  exact ⟨rfl, step (step hb1 hb2) hb6⟩
end Go.Proofs.YtdidileadiockaaDoor
