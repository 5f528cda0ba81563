/-
  Contracts of the library's slices.Grow and slices.Concat at bytes, as the program's layer 3 (sha) uses them: Grow of nil; Concat of two.
-/
import Derived.Test.YtomdgiikjnghcaaDoorShaD
import Derived.Lib.AppendZeros
namespace Go.Proofs.YtomdgiikjnghcaaDoor
open Go.RowKit

theorem zeroCells_size (k : IntKind) (n : Nat) : (Builtin.zeroCells (Value.int k 0).cells n).size = n := by simp [Builtin.zeroCells, Value.cells]

set_option maxHeartbeats 1000000 in
theorem Grow_any (w : World) (n : Nat) (h0 : 0 < n) (h1 : n ≤ 281474976710656) :
    Calls Tryd.prog 38 #[.slice none 0 0, .int .i64 n] w fun e w' => ∃ v, e = .returned v ∧ Own w' w.heap.size v [] ∧ Below w.heap.size w w' := by
  obtain ⟨i0, hi, hz0, hz1, hz2⟩ := info_parts info_u8
  have hrun := fun ty => Lib.run_append_nil_zeros (P := Tryd.prog) w 22 3 ty 5 i0 (.int .u8 0) .i64 .i64 Tryd.underlying22 Tryd.underlying3 hi hz0 n h0 (by omega) (by omega) (by rw [hz2]; omega)
  have hge := grownCap_ge w n 0 5
  have hle := grownCap_le_maxLen w n 0 5 (by rw [show maxLen = 9223372036854775807 from rfl]; omega)
  obtain ⟨c, hc⟩ : ∃ c, c = grownCap w n 0 5 := ⟨_, rfl⟩
  rw [← hc] at hrun hge hle
  have hown : Own (w.drew.alloc (.cells (Builtin.zeroCells (Value.int .u8 0).cells n ++ Builtin.zeroCells (Value.int .u8 0).cells (c - n)) 5)) w.heap.size (.slice (some ⟨w.heap.size, 0, none⟩) 0 c) [] :=
    ⟨by simp, .inr ⟨w.heap.size, c, _, rfl, Nat.le_refl _, heap_alloc_new w.drew _, Nat.zero_le _, hle, by rw [Array.size_append, zeroCells_size, zeroCells_size]; omega, by simp⟩⟩
  have hbel : Below w.heap.size w (w.drew.alloc (.cells (Builtin.zeroCells (Value.int .u8 0).cells n ++ Builtin.zeroCells (Value.int .u8 0).cells (c - n)) 5)) := ((Below.refl _ w).drew).alloc (Nat.le_refl _) _
  obtain ⟨w1, hw1⟩ : ∃ w1, w1 = (w.drew.alloc (.cells (Builtin.zeroCells (Value.int .u8 0).cells n ++ Builtin.zeroCells (Value.int .u8 0).cells (c - n)) 5)) := ⟨_, rfl⟩
  rw [← hw1] at hown hbel hrun
  have HR := Lib.hid hrun
  have HO := Lib.hid hown
  have hcn : (n : Int) ≤ (c : Int) := by omega
  have hc63 : c ≤ 9223372036854775807 := hle
  clear hrun hown hc hw1 hi hz0 hz1 hz2 hge hle
  go_enter Tryd.func38, Tryd.ntmps38
  go_wp2_with (first
    | (at_builtin; refine Lib.wpList_append_run _ rfl (.tmp 20) (.tmp 21) 22 3 rfl (.slice none 0 0) (.int .i64 n) rfl rfl _ w1 (HR.out _) ?_)
    | fail)
  go_ret
  exact ⟨_, rfl, HO.out, hbel⟩

set_option maxHeartbeats 2000000 in
theorem Concat_any (w : World) (gs : Nat) (A1 A2 : Option Addr) (n1 c1 n2 c2 : Nat) (xs ys : List Int) (hg : gs < w.heap.size) (k0 : w.cell? ⟨gs, 0, none⟩ = some (.slice A1 n1 c1)) (k1 : w.cell? ⟨gs, 1, none⟩ = some (.slice A2 n2 c2))
    (h1 : Holds w w.heap.size A1 n1 c1 xs) (h2 : Holds w w.heap.size A2 n2 c2 ys) (hn : 0 < n1 + n2) (hb : n1 + n2 ≤ 140737488355328) :
    Calls Tryd.prog 31 #[.slice (some ⟨gs, 0, none⟩) 2 2] w fun e w' => ∃ v, e = .returned v ∧ Own w' w.heap.size v (xs ++ ys) ∧ Below w.heap.size w w' := by
  have hl1 := Lib.hid h1.len
  have hl2 := Lib.hid h2.len
  have cg := fun w => Lib.hid (Grow_any w (n1 + n2) hn (by omega))
  have hb1 : n1 ≤ 140737488355328 := by omega
  have hb2 : n2 ≤ 140737488355328 := by omega
  obtain ⟨S, hS⟩ : ∃ S : Nat → Nat, S = fun k => if k = 0 then 0 else if k = 1 then n1 else n1 + n2 := ⟨_, rfl⟩
  have S0 : S 0 = 0 := by rw [hS]; rfl
  have S1 : S 1 = n1 := by rw [hS]; rfl
  have S2 : S 2 = n1 + n2 := by rw [hS]; rfl
  obtain ⟨C, hC⟩ : ∃ C : Nat → List Int, C = fun k => if k = 0 then [] else if k = 1 then xs else xs ++ ys := ⟨_, rfl⟩
  have C0 : C 0 = [] := by rw [hC]; rfl
  have C1 : C 1 = xs := by rw [hC]; rfl
  have C2 : C 2 = xs ++ ys := by rw [hC]; rfl
  have HC0 := Lib.hid C0
  have HC1 := Lib.hid C1
  have HC2 := Lib.hid C2
  clear hC C0 C1 C2
  have HS0 := Lib.hid S0
  have HS1 := Lib.hid S1
  have HS2 := Lib.hid S2
  clear hS S0 S1 S2
  go_enter Tryd.func31, Tryd.ntmps31
  go_wp2_with fail
  go_loop [3, 11] (fun sz i => ∃ k : Nat, k ≤ 2 ∧ i = .int .i64 k ∧ sz = .int .i64 (S k : Nat)) (fun _ i => 2 - (intOf i).toNat)
  case atStart => exact ⟨0, by omega, rfl, by rw [HS0.out]; rfl⟩
  case round =>
    obtain ⟨k, hk, rfl, rfl⟩ := hrel
    have hk3 : k = 0 ∨ k = 1 ∨ k = 2 := by omega
    rcases hk3 with rfl | rfl | rfl
    · rw [HS0.out]
      go_wp2_with fail
      go_round
      case rel => exact ⟨1, by omega, rfl, by rw [HS1.out]⟩
      case measure => simp [intOf]
    · rw [HS1.out]
      go_wp2_with fail
      go_round
      case rel => exact ⟨2, by omega, rfl, by rw [HS2.out]; rfl⟩
      case measure => simp [intOf]
    · rw [HS2.out]
      go_wp2_with fail
      refine (cg _).out.mono ?_
      rintro e w1 ⟨v1, rfl, ho1, hbel1⟩
      have HO1 := Lib.hid ho1
      have k0' : w1.cell? ⟨gs, 0, none⟩ = some (.slice A1 n1 c1) := by rw [← k0]; exact hbel1.cell (p := ⟨gs, 0, none⟩) hg
      have k1' : w1.cell? ⟨gs, 1, none⟩ = some (.slice A2 n2 c2) := by rw [← k1]; exact hbel1.cell (p := ⟨gs, 1, none⟩) hg
      clear ho1
      go_wp2_with fail
      have hbs1 := hbel1.size
      go_loopw [6, 27] (fun v i wr => ∃ k : Nat, k ≤ 2 ∧ i = .int .i64 k ∧ Hid (Own wr w.heap.size v (C k)) ∧ Below w.heap.size w wr) (fun _ i _ => 2 - (intOf i).toNat)
      case atStart => exact ⟨0, by omega, rfl, by rw [HC0.out]; exact HO1, hbel1⟩
      case round =>
        obtain ⟨k, hk, rfl, hO, hbl⟩ := hrel
        have q0 : wr.cell? ⟨gs, 0, none⟩ = some (.slice A1 n1 c1) := by rw [← k0]; exact hbl.cell (p := ⟨gs, 0, none⟩) hg
        have q1 : wr.cell? ⟨gs, 1, none⟩ = some (.slice A2 n2 c2) := by rw [← k1]; exact hbl.cell (p := ⟨gs, 1, none⟩) hg
        have hsz := Lib.hid hbl.size
        have hk3 : k = 0 ∨ k = 1 ∨ k = 2 := by omega
        rcases hk3 with rfl | rfl | rfl
        · rw [HC0.out] at hO
          go_wp2_with (first
            | (at_builtin; refine wpList_append_bytes rfl (.tmp 31) (.tmp 32) rfl w.heap.size _ _ rfl hO.out w.heap.size A1 n1 c1 xs rfl (h1.below hbl) (by rw [hl1.out]; simp; omega) hsz.out ?_; intro v2 w2 ho2 hb2 _)
            | fail)
          go_roundw
          case rel => exact ⟨1, by omega, rfl, by rw [HC1.out]; exact ho2, hbl.trans hb2⟩
          case measure => simp [intOf]
        · rw [HC1.out] at hO
          go_wp2_with (first
            | (at_builtin; refine wpList_append_bytes rfl (.tmp 31) (.tmp 32) rfl w.heap.size _ _ rfl hO.out w.heap.size A2 n2 c2 ys rfl (h2.below hbl) (by rw [hl1.out, hl2.out]; omega) hsz.out ?_; intro v2 w2 ho2 hb2 _)
            | fail)
          go_roundw
          case rel => exact ⟨2, by omega, rfl, by rw [HC2.out]; exact ho2, hbl.trans hb2⟩
          case measure => simp [intOf]
        · rw [HC2.out] at hO
          go_wp2_with fail
          go_ret
          exact ⟨_, rfl, hO.out, hbl⟩
end Go.Proofs.YtomdgiikjnghcaaDoor
