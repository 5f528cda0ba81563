/-
  The walk of the statement UtfFresh: what is handed in stays, what is answered is new memory.
-/
import Derived.Test.YtdidileadiockaaDoorRefU3
import Derived.Test.YtdidileadiockaaDoorOpen
import Derived.Test.YtdidileadiockaaDoorMem
namespace Go.Proofs.YtdidileadiockaaDoor
open Go.RowKit
set_option linter.unusedVariables false

set_option maxHeartbeats 400000 in
/-- Spoil over a row of the call's own: it writes nothing below 'base' -/
theorem SpoilZ_any (w : World) (base : Nat) (v : Value) (xs : List Int) (hx : Bytes xs) (by_ : Int) (h0 : 0 ≤ by_ ∧ by_ ≤ 255) (h : OwnZ .u8 5 w base v xs) :
    Calls Tryd.prog 22 #[v, .int .u8 by_] w fun e w' => e = .returned (.tuple #[]) ∧ Below base w w' := by
  obtain ⟨h00, h01⟩ := h0
  rcases h with ⟨rfl, rfl⟩ | ⟨g, m, rfl, hg, hm, hr⟩
  · go_enter Tryd.func22, Tryd.ntmps22
    go_wp2
    go_loop [4] (fun i => i = .int .i64 0) (fun _ => 0)
    case atStart => exact rfl
    case round =>
      subst hrel
      go_wp2
      go_end0
      exact ⟨rfl, Below.refl _ _⟩
  · obtain ⟨n, hn⟩ : ∃ n, n = xs.length := ⟨_, rfl⟩
    obtain ⟨N, hN⟩ : ∃ N, N = xs.length + m := ⟨_, rfl⟩
    rw [← hN] at hm ⊢
    rw [← hn]
    have hnN : n ≤ N := by omega
    have hm63 : N ≤ 9223372036854775807 := by rw [maxLen_eq] at hm; exact hm
    have HL : Hid ((xs ++ List.replicate m 0).length = N) := by show _ = _; rw [List.length_append, List.length_replicate, hN]
    have HR : Hid (Row w g (xs ++ List.replicate m 0)) := hr
    clear hr hn hN hm
    go_enter Tryd.func22, Tryd.ntmps22
    go_wp2
    go_loopw [4] (fun i wr => ∃ k : Nat, k ≤ N ∧ i = .int .i64 k ∧ (∃ ys : List Int, Hid (ys.length = N) ∧ Hid (Row wr g ys)) ∧ Below base w wr) (fun i _ => N - (intOf i).toNat)
    case atStart => exact ⟨0, Nat.zero_le _, rfl, ⟨_, HL, HR⟩, Below.refl _ _⟩
    case round =>
      obtain ⟨k, hk, rfl, ⟨ys, HY, hR⟩, hb⟩ := hrel
      by_cases hlt : k < N
      · have hc := hR.out.cell (i := k) (by have := HY.out; omega)
        have hz := hR.out.frozen k
        obtain ⟨old, hold⟩ : ∃ old, old = ys.getD k 0 := ⟨_, rfl⟩
        rw [← hold] at hc
        clear hold
        go_wp2
        go_roundw
        case rel => exact ⟨k + 1, by omega, by go_num, ⟨_, (by show _ = _; rw [List.length_set]; exact HY.out), hR.out.set k _⟩, hb.setCell hg _⟩
        case measure => simp [intOf]; omega
      · go_wp2
        go_end0
        exact ⟨rfl, hb⟩

set_option maxHeartbeats 2000000 in
theorem walk_UtfFresh (W : World) (hT : Tabs W) (A0 : Option Addr) (n0 c0 : Nat) (z0 : List Int) (l0 : n0 ≤ c0) (r0 : c0 ≤ 1048576) (h0 : Holds W W.heap.size A0 c0 c0 z0) (a1 : ByteArray) (r1 : a1.size ≤ 1048576) :
    Calls Tryd.prog 9 #[.slice A0 n0 c0, .string a1] W fun e W' => e = .returned (.bool true) ∧ Below W.heap.size W W' := by
  have h := h0.head l0
  obtain ⟨xs, hxs⟩ : ∃ xs, xs = z0.take n0 := ⟨_, rfl⟩
  rw [← hxs] at h
  clear hxs h0
  have hl := Lib.hid h.len
  have hby := h.byte
  have hn0 : n0 ≤ 1048576 := by omega
  have c1 := Wide_any W A0 n0 c0 xs h (by omega)
  unfold WidePost at c1
  rw [hl.out] at c1
  have C1 := Lib.hid c1
  have c2 := fun w A n c h hn => TGet_any w A n c xs h hn
  unfold GetPost at c2
  obtain ⟨S, hS⟩ : ∃ S : ByteArray, S = ⟨(getText xs).toArray⟩ := ⟨_, rfl⟩
  obtain ⟨E, hE⟩ : ∃ E, E = getTErr xs := ⟨_, rfl⟩
  rw [← hS, ← hE] at c2
  have C2 := Lib.hid c2
  have c3 := fun w hT => Put_any a1 w (by omega) hT
  have c5 := fun w => RPut_any a1 w (by omega)
  unfold PutPost at c3
  unfold RPutPost at c5
  have hpb := putOfL_byte a1.data.toList
  have hpl := putOfL_length a1.data.toList
  have hul := unitsOfL_le a1.data.toList
  rw [← Lib.size_eq] at hul
  obtain ⟨Z, hZ⟩ : ∃ Z, Z = putOfL a1.data.toList := ⟨_, rfl⟩
  obtain ⟨F, hF⟩ : ∃ F, F = textErr a1.data.toList := ⟨_, rfl⟩
  rw [← hZ, ← hF] at c3 c5
  rw [← hZ] at hpb hpl
  obtain ⟨z, hz⟩ : ∃ z, z = Z.length := ⟨_, rfl⟩
  rw [← hz] at hpl
  have hzl : z ≤ 4194304 := by omega
  have HZL := Lib.hid hz
  have C3 := Lib.hid c3
  have C5 := Lib.hid c5
  have c4 := fun w base v h => Lib.hid (SpoilZ_any w base v Z hpb 1 (by omega) h)
  have c6 := fun w hT => Lib.hid (works_any w hT)
  have c7 := fun w B B' A A' n c n' c' h h' => Lib.hid (Same_any w B B' A A' n c n' c' Z Z h h')
  rw [decide_eq_true rfl] at c7
  have c8 := fun w g A n c h1 h2 => Lib.hid (Left_any w g A n c xs h1 h2)
  clear c1 c2 c3 c5 hS hE hZ hF hz hpl hul
  go_enter Tryd.func9, Tryd.ntmps9
  go_wp2_with fail
  refine C1.out.mono ?_
  rintro e w1 ⟨rfl, hr1, hb1⟩
  have g1 := h.over hb1
  have hv1 : Holds w1 w1.heap.size (some ⟨W.heap.size, 0, none⟩) n0 (n0 + 3) xs := by
    refine ⟨hl.out, by omega, by omega, hby, fun hA => (by cases hA), fun h0 => ⟨W.heap.size, 0, rfl, hr1.lt, fun i hi => ?_⟩⟩
    have := hl.out
    rw [Nat.zero_add, hr1.cell (by simp; omega)]
    simp [List.getD_eq_getElem?_getD, List.getElem?_append, this, hi]
  have s1 := hr1.lt
  have hT1 := hT.below hb1
  go_wp2_with fail
  refine (C2.out _ _ _ _ hv1 (by omega)).mono ?_
  rintro e w2 ⟨rfl, hb2⟩
  have hT2 := hT1.below hb2
  go_wp2_with fail
  refine (C3.out _ hT2).mono ?_
  rintro e w3 ⟨v3, rfl, ho3, hb3⟩
  have HO3 := Lib.hid ho3
  clear ho3
  go_wp2_with fail
  refine (c4 _ _ _ HO3.out).out.mono ?_
  rintro e w4 ⟨rfl, hb4⟩
  have hb24 : Below w2.heap.size w2 w4 := hb3.trans hb4
  have hb14 := step hb2 hb24
  have hr4 := hr1.below hb14 s1
  have g4 := g1.over hb14
  have hT4 := hT2.below hb24
  clear HO3
  go_wp2_with fail
  refine (C3.out _ hT4).mono ?_
  rintro e w5 ⟨v5, rfl, ho5, hb5⟩
  obtain ⟨A5, k5, rfl, hh5⟩ := ho5.own.holds hpb (by have := HZL.out; omega)
  rw [← HZL.out] at hh5 ⊢
  have hT5 := hT4.below hb5
  clear ho5
  go_wp2_with fail
  refine (C5.out _).mono ?_
  rintro e w6 ⟨v6, rfl, ho6, hb6⟩
  obtain ⟨A6, k6, rfl, hh6⟩ := ho6.holds hpb (by have := HZL.out; omega)
  rw [← HZL.out] at hh6 ⊢
  have hT6 := hT5.below hb6
  have hh56 := hh5.over hb6
  have hr6 := (hr4.below hb5 hr4.lt).below hb6 (hr4.below hb5 hr4.lt).lt
  have g6 := (g4.over hb5).over hb6
  clear ho6
  go_wp2_with fail
  refine (c8 _ _ _ _ _ hr6 g6).out.mono ?_
  rintro e w7 ⟨rfl, j7, rfl⟩
  go_wp2_with fail
  refine (c7 _ _ _ _ _ _ _ _ _ (hh56.drewN j7) (hh6.drewN j7)).out.mono ?_
  rintro e w8 ⟨rfl, j8, rfl⟩
  have hb78 : Below w6.heap.size w6 (w6.drewN (j7 + j8)) := ⟨rfl, rfl, rfl, Nat.le_refl _, fun _ _ => rfl⟩
  go_wp2_with fail
  refine (c6 _ (hT6.below hb78)).out.mono ?_
  rintro e w9 ⟨rfl, hb9⟩
  go_wp2
  go_ret
  exact ⟨rfl, step (step (step (step (step hb1 hb14) hb5) hb6) hb78) hb9⟩
end Go.Proofs.YtdidileadiockaaDoor
