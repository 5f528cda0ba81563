import Derived.WalkKit
import Derived.Deep.Draws
import Derived.Laws.Rows
import Derived.Laws.OwnMore
import Derived.Test.YtdlcjobahdmapaaDoorRows
import Derived.Laws.CopyOwn
import Derived.Laws.AppendOwnNone
import Derived.Lib.Hide
import Derived.WalkSpells
import Derived.WalkLawsBesides
import Derived.Deep.QuietTactic
import Derived.BigQuiet
import Derived.Laws.Bits64
import Derived.Laws.BitsAllLaws
import Derived.Lib.RuneBytes
import Derived.Lib.ValidLaws
import Derived.Laws.AppendOwn
import Derived.OwnWalk
import Derived.Lib.OthersKept
import Derived.Laws.BytesArg
import Derived.Shelf.Utf8.AppendRunePlain
import Derived.Shelf.Unicode.ValidAny
import Derived.Test.YtdlcjobahdmapaaDoorProg
import Derived.Deep.RegionLaw
import Derived.Laws.Tables
import Derived.Laws.NewFold
import Derived.Deep.WholeRow
import Derived.Deep.MidRow
import Derived.Great.Walk
import Derived.ProofKit
import Derived.OpenShut
import Derived.ShutString
import Derived.SizedLaws
import Derived.ChangeOld
import Derived.Lib.AppendZeros
import Derived.Deep.RegionWith
import Derived.Deep.DeepCutAuto
import Derived.OneCell
import Derived.Deep.Strs
import Derived.OrdersHeld
import Derived.Laws.StructEq
import Derived.ChangeKeysEq
import Derived.Deep.OwnRows
import Derived.Test.YtdlcjobahdmapaaDoorWAD
import Derived.Test.YtdlcjobahdmapaaDoorWAF
import Derived.Test.YtdlcjobahdmapaaDoorWAG
import Derived.Test.YtdlcjobahdmapaaDoorWAI
import Derived.Test.YtdlcjobahdmapaaDoorWAL
import Derived.Test.YtdlcjobahdmapaaDoorWAP
import Derived.Test.YtdlcjobahdmapaaDoorWAU
namespace Go.Proofs.YtdlcjobahdmapaaDoor
set_option linter.all false
open Go.RowKit
section
variable {w w' : World} {g B base : Nat} {xs : List Int}
end
/-- a byte that is laid in a block of its own, to be appended -/
theorem Holds.single (w : World) (x : Int) (h : 0 ≤ x ∧ x ≤ 255) : Holds (w.alloc (.cells #[.int .u8 x] 5)) (w.heap.size + 1) (some ⟨w.heap.size, 0, none⟩) 1 1 [x] := by
  refine ⟨rfl, Nat.le_refl _, by omega, fun y hy => ?_, fun hA => (by cases hA), fun _ => ⟨w.heap.size, 0, rfl, by omega, fun i hi => ?_⟩⟩
  · rcases List.mem_singleton.1 hy with rfl
    exact h
  · obtain rfl : i = 0 := by omega
    simp
end Go.Proofs.YtdlcjobahdmapaaDoor

namespace Go.Proofs.YtdlcjobahdmapaaDoor
set_option linter.all false
open Go.RowKit
/-- what the document's Put answers -/
def RPutPost (w : World) (n s : Int) (e : Ending) (w' : World) : Prop := ∃ v, e = .returned (.tuple #[v, .int .i64 (putErr n s)]) ∧ Own w' w.heap.size v (putOf n s) ∧ Below w.heap.size w w'
theorem le_snoc (n : Int) (k : Nat) : le n (k + 1) = le n k ++ [n / 256 ^ k % 256] := by
  have hk : k < (le n (k + 1)).length := by rw [le_length]; omega
  have h1 := List.take_succ_eq_append_getElem hk
  rw [le_getElem n (k + 1) k (by omega) hk, List.take_of_length_le (by rw [le_length]; omega)] at h1
  rw [h1]
  congr 1
  clear h1 hk
  induction k generalizing n with
  | zero => rfl
  | succ k ih => rw [show le n (k + 1 + 1) = n % 256 :: le (n / 256) (k + 1) from rfl, List.take_succ_cons, ih]; rfl
set_option maxHeartbeats 400000 in
theorem RPut_any (w : World) (n s : Int) (hn : 0 ≤ n ∧ n ≤ 18446744073709551615) :
    Calls Tryd.prog 66 #[.int .u64 n, .int .i64 s] w (RPutPost w n s) := by
  have c1 := RSize_any w s
  obtain ⟨hn0, hn1⟩ := hn
  by_cases hz : sizeOk s = true
  · have hs8 : 1 ≤ s ∧ s ≤ 8 := by rcases sizeOk_cases hz with e | e | e | e <;> omega
    obtain ⟨hs1, hs8⟩ := hs8
    obtain ⟨j, rfl⟩ := Int.eq_ofNat_of_zero_le (show 0 ≤ s by omega)
    have hq0 : n / 256 ^ j = 0 → ∀ e w', (∃ v, e = .returned (.tuple #[v, .int .i64 0]) ∧ Own w' w.heap.size v (le n j) ∧ Below w.heap.size w w') → RPutPost w n j e w' := by
      intro h0 e w' hh
      have hp : putOk n j = true := by
        have := putOk_at n j (256 ^ j) hz rfl hn0 (Int.pow_pos (by omega))
        rw [← this, h0]; rfl
      unfold RPutPost putErr putOf
      rw [if_pos hp, if_pos hp, Int.toNat_natCast]
      exact hh
    have hq1 : 0 < n / 256 ^ j → ∀ e w', (∃ v, e = .returned (.tuple #[v, .int .i64 2]) ∧ Own w' w.heap.size v [] ∧ Below w.heap.size w w') → RPutPost w n j e w' := by
      intro h0 e w' hh
      have hp : ¬ putOk n j = true := by
        have := putOk_at n j (256 ^ j) hz rfl hn0 (Int.pow_pos (by omega))
        rw [← this, beq_iff_eq]; omega
      unfold RPutPost putErr putOf
      rw [if_neg hp, if_neg hp]
      exact hh
    rw [hz] at c1
    have C1 := Lib.hid c1
    have HQ0 := Lib.hid hq0
    have HQ1 := Lib.hid hq1
    clear c1 hz hq0 hq1
    go_enter Tryd.func66, Tryd.ntmps66
    go_wp2_with fail
    refine C1.out.mono ?_
    rintro e w' ⟨rfl, rfl⟩
    go_wp2_with fail
    go_loopw [0, 6, 7] (fun nv v i wr => ∃ k : Nat, k ≤ j ∧ i = .int .i64 k ∧ ∃ z, nv = .int .u64 z ∧ Hid (z = n / 256 ^ k) ∧ 0 ≤ z ∧ z ≤ 18446744073709551615 ∧ Hid (Own wr w.heap.size v (le n k)) ∧ Below w.heap.size w wr) (fun _ _ i _ => j - (intOf i).toNat)
    case atStart => exact ⟨0, Nat.zero_le _, rfl, n, rfl, by show n = _; simp, hn0, hn1, Own.nil _ _, Below.refl _ _⟩
    case round =>
      obtain ⟨k, hk, rfl, z, rfl, HZ, hz0, hz1, HO, hb⟩ := hrel
      by_cases hlt : k < j
      · have hm := Int.emod_nonneg z (show (256 : Int) ≠ 0 by omega)
        have hm2 := Int.emod_lt_of_pos z (show (0 : Int) < 256 by omega)
        have hlen : (le n k).length + [z % 256].length ≤ 140737488355328 := by rw [le_length]; simp; omega
        have hbs := hb.size
        have hS1 : Hid (z / 256 = n / 256 ^ (k + 1)) := by
          show _ = _
          rw [HZ.out, Int.pow_succ, Int.ediv_ediv_of_nonneg (Int.le_of_lt (Int.pow_pos (by omega)))]
        have hS2 : Hid (le n k ++ [z % 256] = le n (k + 1)) := by
          show _ = _
          rw [le_snoc, HZ.out]
        go_wp2_with (at_builtin; refine wpList_append_bytes rfl (.tmp 16) (.tmp 20) rfl w.heap.size _ _ rfl (HO.out.alloc _) _ _ 1 1 [z % 256] rfl (Holds.single wr (z % 256) (by omega)) hlen (by simp; omega) ?_; intro v2 w2 ho2 hb2 hgr)
        have ho := ho2.out
        rw [hS2.out] at ho
        go_roundw
        case rel => exact ⟨k + 1, by omega, by go_num, _, rfl, hS1, by omega, by omega, ho, (hb.alloc hb.size _).trans hb2⟩
        case measure => simp [intOf]; omega
      · obtain rfl : k = j := by omega
        by_cases h0 : 0 < z
        · have hS := HQ1.out (by rw [← HZ.out]; exact h0)
          have HS := Lib.hid hS
          clear hS HZ HO
          go_wp2
          go_ret2
          exact HS.out _ _ ⟨_, rfl, Own.nil _ _, hb⟩
        · have hS := HQ0.out (by rw [← HZ.out]; omega)
          have HS := Lib.hid hS
          clear hS HZ
          go_wp2
          go_ret2
          exact HS.out _ _ ⟨_, rfl, HO.out, hb⟩
  · have hz' : sizeOk s = false := by simpa using hz
    have hp : ¬ putOk n s = true := by unfold putOk; rw [hz']; simp
    have hq : ∀ e w', (∃ v, e = .returned (.tuple #[v, .int .i64 2]) ∧ Own w' w.heap.size v [] ∧ Below w.heap.size w w') → RPutPost w n s e w' := by
      intro e w' hh
      unfold RPutPost putErr putOf
      rw [if_neg hp, if_neg hp]
      exact hh
    have HQ := Lib.hid hq
    rw [hz'] at c1
    have C1 := Lib.hid c1
    clear c1 hz hz' hp hq
    go_enter Tryd.func66, Tryd.ntmps66
    go_wp2_with fail
    refine C1.out.mono ?_
    rintro e w' ⟨rfl, rfl⟩
    go_wp2
    go_ret2
    exact HQ.out _ _ ⟨_, rfl, Own.nil _ _, Below.refl _ _⟩
end Go.Proofs.YtdlcjobahdmapaaDoor

namespace Go.Proofs.YtdlcjobahdmapaaDoor
set_option linter.all false
open Go.RowKit
set_option linter.unusedVariables false
/-- what Lay answers: a number behind others -/
def LayTPost (w : World) (base : Nat) (xs : List Int) (n s : Int) (e : Ending) (w' : World) : Prop := ∃ v, e = .returned v ∧ Own w' base v (xs ++ putOf n s) ∧ Below base w w'
set_option maxHeartbeats 400000 in
theorem LayT_any (w : World) (base : Nat) (v : Value) (xs : List Int) (n s : Int) (hn : 0 ≤ n ∧ n ≤ 18446744073709551615) (ho : Own w base v xs) (hxl : xs.length ≤ 1000000) (hps : (putOf n s).length ≤ 8) (hpb : Bytes (putOf n s)) (hb : base ≤ w.heap.size) :
    Calls Tryd.prog 39 #[v, .int .u64 n, .int .i64 s] w (LayTPost w base xs n s) := by
  have C1 := Lib.hid (RPut_any w n s hn)
  have HO := Lib.hid ho
  have HQ : Hid (∀ e w', (∃ v, e = .returned v ∧ Own w' base v (xs ++ putOf n s) ∧ Below base w w') → LayTPost w base xs n s e w') := fun _ _ hh => hh
  have HPB := Lib.hid hpb
  obtain ⟨A0, c0, hv0⟩ := ho.len
  obtain ⟨ys, hys⟩ : ∃ ys, ys = putOf n s := ⟨_, rfl⟩
  unfold RPutPost at C1
  rw [← hys] at C1 HQ hps HPB
  have hlen : xs.length + ys.length ≤ 140737488355328 := by omega
  clear hys hn hpb ho
  subst hv0
  go_enter Tryd.func39, Tryd.ntmps39
  go_wp2_with fail
  refine C1.out.mono ?_
  rintro e w1 ⟨x, rfl, hx, L1⟩
  obtain ⟨A1, c1, rfl, hh⟩ := hx.holds HPB.out (by omega)
  have HO1 := HO.out.below L1
  have hs1 := L1.size
  obtain ⟨m, hm⟩ : ∃ m, m = ys.length := ⟨_, rfl⟩
  rw [← hm] at hh ⊢
  have HH := Lib.hid hh
  obtain ⟨m0, hm0⟩ : ∃ m, m = xs.length := ⟨_, rfl⟩
  have HO1' := Lib.hid HO1
  have HLEN := Lib.hid hlen
  rw [← hm0] at HO1' ⊢
  clear hm hm0 hh hx HO HO1 hlen
  go_wp2_with (at_builtin; refine wpList_append_bytes rfl (.tmp 15) (.tmp 16) rfl base _ xs rfl HO1'.out _ A1 m c1 ys rfl HH.out HLEN.out (by omega) ?_; intro v2 w2 ho2 hb2 hgr)
  go_ret
  exact HQ.out _ _ ⟨_, rfl, ho2.out, (L1.mono hb).trans hb2⟩
end Go.Proofs.YtdlcjobahdmapaaDoor

namespace Go.Proofs.YtdlcjobahdmapaaDoor
set_option linter.all false
open Go.RowKit
set_option linter.unusedVariables false
set_option maxRecDepth 100000
theorem LayF_any (w : World) (base : Nat) (v : Value) (xs : List Int) (n : Int) (s : Nat) (M : Int) (hM : (256 : Int) ^ s = M) (hM8 : M ≤ 18446744073709551616) (hs : sizeOk (s : Int) = true) (ho : Own w base v xs) (hx : xs.length ≤ 1000000) (hb : base ≤ w.heap.size) (h0 : 0 ≤ n) (h1 : n < M) :
    Calls Tryd.prog 39 #[v, .int .u64 n, .int .i64 (s : Int)] w fun e w' => ∃ v', e = .returned v' ∧ Own w' base v' (xs ++ le n s) ∧ Below base w w' := by
  have hs8 : s ≤ 8 := by rcases sizeOk_cases hs with h | h | h | h <;> omega
  have hp : putOk n (s : Int) = true := by unfold putOk; rw [hs, Int.toNat_natCast, hM, decide_eq_true h1]; rfl
  have e1 : putOf n (s : Int) = le n s := by unfold putOf; rw [if_pos hp, Int.toNat_natCast]
  have h := LayT_any w base v xs n (s : Int) ⟨h0, by omega⟩ ho hx (by rw [e1, le_length]; exact hs8) (by rw [e1]; exact le_bytes _ _) hb
  unfold LayTPost at h
  rw [e1] at h
  exact h
end Go.Proofs.YtdlcjobahdmapaaDoor
