import Derived.WalkKit
import Derived.Deep.Draws
import Derived.Laws.Rows
import Derived.Laws.OwnMore
import Derived.Lib.RuneBytes
import Derived.Lib.ValidLaws
import Derived.Test.YtdlcjobahdmapaaDoorRows
import Derived.Laws.CopyOwn
import Derived.Laws.AppendOwnNone
import Derived.Lib.Hide
import Derived.Laws.AppendOwn
import Derived.OwnWalk
import Derived.Lib.OthersKept
import Derived.Laws.BytesArg
import Derived.Shelf.Utf8.AppendRunePlain
import Derived.Shelf.Unicode.ValidAny
import Derived.Test.YtdlcjobahdmapaaDoorProg
import Derived.WalkSpells
import Derived.WalkLawsBesides
import Derived.Deep.QuietTactic
import Derived.BigQuiet
import Derived.Laws.Bits64
import Derived.Laws.BitsAllLaws
import Derived.ProofKit
import Derived.OpenShut
import Derived.ShutString
import Derived.SizedLaws
import Derived.ChangeOld
import Derived.Lib.AppendZeros
import Derived.Deep.RegionWith
import Derived.Deep.DeepCutAuto
import Derived.Great.Walk
import Derived.Laws.Tables
import Derived.Laws.NewFold
import Derived.Deep.WholeRow
import Derived.Deep.MidRow
import Derived.OneCell
import Derived.Deep.Strs
import Derived.OrdersHeld
import Derived.Laws.StructEq
import Derived.ChangeKeysEq
import Derived.Deep.RegionLaw
import Derived.Deep.OwnRows
import Derived.Lib.LaidIn
import Derived.Lib.LaidU8T
import Derived.Deep.DeepHandedRow
import Derived.Test.YtdlcjobahdmapaaDoorWAD
import Derived.Test.YtdlcjobahdmapaaDoorWAE
import Derived.Test.YtdlcjobahdmapaaDoorWAI
import Derived.Test.YtdlcjobahdmapaaDoorWAM
namespace Go.Proofs.YtdlcjobahdmapaaDoor
set_option linter.all false
open Go.RowKit
set_option linter.unusedVariables false
set_option maxRecDepth 100000
set_option maxHeartbeats 1000000 in
theorem RCharge_any (w : World) (c : Int) (cs : List Value) (a : AskV) (ka : a.ok) (ha : AskIs w w.heap.size cs a) :
    Calls Tryd.prog 30 #[.int .u16 c, .agg cs.toArray] w (ChargePost w c a) := by
  obtain ⟨A1, A2, A3, X1, X2, X3, M1, M2, M3, hcs, hA, hX, hM⟩ := ha
  have hxl : a.data.length = X2 := hX.len
  have hxr := hX.room
  obtain ⟨n0, n1⟩ := ka.n
  have FC : Hid (∀ (w : World) (g : Nat), Blk w g 32 cs → w.cell? ⟨g, 60, none⟩ = some (.int .u32 a.n) ∧ w.cell? ⟨g, 61, none⟩ = some (.slice X1 X2 X3)) := fun w g h => by
    rw [hcs] at h
    exact ⟨h.at (acells_get ka 11), h.at (acells_get ka 12)⟩
  have z_n : IntKind.u64.wrap a.n = a.n := by rw [IntKind.wrap_u64]; omega
  have z_i : IntKind.i64.wrap a.n = a.n := by rw [IntKind.wrap_i64]; omega
  have z_x : IntKind.u64.wrap (X2 : Int) = (X2 : Int) := by rw [IntKind.wrap_u64]; omega
  have hd9 : c = 9 → chargeF c a = (max (X2 : Int) 1 + 8191) / 8192 := fun h => by unfold chargeF; rw [if_pos h, hxl]
  have hd8 : c = 8 → chargeF c a = (max a.n 1 + 8191) / 8192 := fun h => by unfold chargeF; rw [if_neg (by omega), if_pos h]
  have hd0 : c ≠ 9 → c ≠ 8 → chargeF c a = 1 := fun h1 h2 => by unfold chargeF; rw [if_neg h1, if_neg h2]
  have HQ : Hid (∀ (n : Int) (e : Ending) (w' : World), chargeF c a = n → e = .returned (.int .i64 n) → Below w.heap.size w w' → ChargePost w c a e w') := by
    intro n e w' h0 h1 h2
    unfold ChargePost
    rw [h0]
    exact ⟨h1, h2⟩
  clear hcs hA hX hM hxl
  by_cases h9 : c = 9
  · have h0 := Lib.hid (hd9 h9)
    subst h9
    clear hd9 hd8 hd0
    by_cases hb : 8192 < (X2 : Int)
    · have e1 : IntKind.i64.wrap ((X2 : Int) - 1) = (X2 : Int) - 1 := by rw [IntKind.wrap_i64]; omega
      have e2 : ((X2 : Int) - 1).tdiv 8192 = ((X2 : Int) - 1) / 8192 := Int.tdiv_eq_ediv_of_nonneg (by omega)
      have e3 : IntKind.i64.wrap (((X2 : Int) - 1) / 8192 + 1) = ((X2 : Int) - 1) / 8192 + 1 := by rw [IntKind.wrap_i64]; omega
      go_enter Tryd.func30, Tryd.ntmps30
      go_wp2_with (first
        | ((with_reducible show wpList _ _ _ (⟨some 3, _, _, _, _, _⟩ :: _) _ _); refine wpList_box_blk rfl _ (.tmp 1) rfl cs rfl ?_; intro g w1 hg1 hg2 K1 L1; obtain ⟨c60, c61⟩ := FC.out w1 g K1.out)
        | fail)
      go_ret
      exact HQ.out _ _ _ (by rw [h0.out]; omega) rfl L1.out
    · have hb' : decide (8192 < (X2 : Int)) = false := by rw [decide_eq_false_iff_not]; exact hb
      go_enter Tryd.func30, Tryd.ntmps30
      go_wp2_with (first
        | ((with_reducible show wpList _ _ _ (⟨some 3, _, _, _, _, _⟩ :: _) _ _); refine wpList_box_blk rfl _ (.tmp 1) rfl cs rfl ?_; intro g w1 hg1 hg2 K1 L1; obtain ⟨c60, c61⟩ := FC.out w1 g K1.out)
        | fail)
      go_ret
      exact HQ.out _ _ _ (by rw [h0.out]; omega) rfl L1.out
  by_cases h8 : c = 8
  · have h0 := Lib.hid (hd8 h8)
    subst h8
    clear hd9 hd8 hd0 h9
    by_cases hb : 8192 < a.n
    · have e1 : IntKind.i64.wrap (a.n - 1) = a.n - 1 := by rw [IntKind.wrap_i64]; omega
      have e2 : (a.n - 1).tdiv 8192 = (a.n - 1) / 8192 := Int.tdiv_eq_ediv_of_nonneg (by omega)
      have e3 : IntKind.i64.wrap ((a.n - 1) / 8192 + 1) = (a.n - 1) / 8192 + 1 := by rw [IntKind.wrap_i64]; omega
      go_enter Tryd.func30, Tryd.ntmps30
      go_wp2_with (first
        | ((with_reducible show wpList _ _ _ (⟨some 3, _, _, _, _, _⟩ :: _) _ _); refine wpList_box_blk rfl _ (.tmp 1) rfl cs rfl ?_; intro g w1 hg1 hg2 K1 L1; obtain ⟨c60, c61⟩ := FC.out w1 g K1.out)
        | fail)
      go_ret
      exact HQ.out _ _ _ (by rw [h0.out]; omega) rfl L1.out
    · have hb' : decide (8192 < a.n) = false := by rw [decide_eq_false_iff_not]; exact hb
      go_enter Tryd.func30, Tryd.ntmps30
      go_wp2_with (first
        | ((with_reducible show wpList _ _ _ (⟨some 3, _, _, _, _, _⟩ :: _) _ _); refine wpList_box_blk rfl _ (.tmp 1) rfl cs rfl ?_; intro g w1 hg1 hg2 K1 L1; obtain ⟨c60, c61⟩ := FC.out w1 g K1.out)
        | fail)
      go_ret
      exact HQ.out _ _ _ (by rw [h0.out]; omega) rfl L1.out
  · have h0 := Lib.hid (hd0 h9 h8)
    have b9 : (c == 9) = false := by simpa using h9
    have b8 : (c == 8) = false := by simpa using h8
    clear hd9 hd8 hd0 h9 h8
    go_enter Tryd.func30, Tryd.ntmps30
    go_wp2_with (first
      | ((with_reducible show wpList _ _ _ (⟨some 3, _, _, _, _, _⟩ :: _) _ _); refine wpList_box_blk rfl _ (.tmp 1) rfl cs rfl ?_; intro g w1 hg1 hg2 K1 L1; obtain ⟨c60, c61⟩ := FC.out w1 g K1.out)
      | fail)
    go_ret
    exact HQ.out _ _ _ h0.out rfl L1.out
/-- at least 1, at most 4 but of a great Read -/
theorem charge_least (c : Int) (a : AskV) : 1 ≤ chargeF c a := by
  unfold chargeF
  split
  · omega
  · split
    · omega
    · omega
theorem charge_most (c : Int) (a : AskV) (he : fpErr c a = 0) (h : c ≠ 8 ∨ a.n ≤ 32768) : chargeF c a ≤ 4 := by
  obtain ⟨_, _, _, hd, _⟩ := fp_parts he
  unfold chargeF
  split
  · omega
  · split
    · rename_i h8
      rcases h with h | h
      · exact absurd h8 h
      · omega
    · omega
end Go.Proofs.YtdlcjobahdmapaaDoor

namespace Go.Proofs.YtdlcjobahdmapaaDoor
set_option linter.all false
open Go.RowKit
set_option linter.unusedVariables false
set_option maxRecDepth 100000
set_option maxHeartbeats 4000000 in
theorem walk_FileCharge (W : World) (hT : Tabs W) (a0 : Int) (w0 : 0 ≤ a0 ∧ a0 ≤ 65535) (cs1 : List Value) (a1 : AskV) (k1h : a1.ok) (h1h : AskIs W W.heap.size cs1 a1) (b1 : a1.dial.length ≤ 1048576 ∧ a1.data.length ≤ 1048576 ∧ a1.locks.length ≤ 1048576 ∧ a1.user.size ≤ 1048576 ∧ a1.share.size ≤ 1048576 ∧ a1.name.size ≤ 1048576 ∧ a1.pat.size ≤ 1048576 ∧ a1.aft.size ≤ 1048576) :
    Calls Tryd.prog 10 #[.int .u16 a0, .agg cs1.toArray] W fun e W' => e = .returned (.bool true) ∧ Below W.heap.size W W' := by
  have HT := Lib.hid hT
  have HL := Lib.hid (h1h.len k1h)
  obtain ⟨b1a, b1b, b1c, b1d, b1e, b1f, _⟩ := b1
  have HYB := Lib.hid (fp_bytes (c := a0) k1h)
  have HYL := Lib.hid (fp_len (c := a0) (a := a1))
  have CA : Hid (∀ w : World, Below W.heap.size W w → Calls Tryd.prog 29 #[.int .u16 a0, .agg cs1.toArray] w fun e w' => e = .returned (.int .i64 (chargeF a0 a1)) ∧ Below w.heap.size w w') := fun w hb => Charge_any w a0 cs1 a1 k1h (h1h.over hb)
  have CB : Hid (∀ w : World, Below W.heap.size W w → Calls Tryd.prog 30 #[.int .u16 a0, .agg cs1.toArray] w fun e w' => e = .returned (.int .i64 (chargeF a0 a1)) ∧ Below w.heap.size w w') := fun w hb => RCharge_any w a0 cs1 a1 k1h (h1h.over hb)
  have CP : Hid (∀ w : World, Below W.heap.size W w → Calls Tryd.prog 12 #[.int .u16 a0, .agg cs1.toArray] w fun e w' => ∃ v, e = .returned (.tuple #[v, .int .i64 (fpErr a0 a1)]) ∧ Own w' w.heap.size v (fpOf a0 a1) ∧ Below w.heap.size w w') := fun w hb => (FPutAsk_any w a0 cs1 a1 w0 k1h (h1h.over hb) ⟨by omega, by omega⟩ (by omega) (by omega) (hT.below hb)).mono fun e w' ⟨v, q1, q2, q3⟩ => ⟨v, q1, q2.own8, q3⟩
  have CL : Hid (∀ w : World, Tabs w → Calls Tryd.prog 16 #[] w fun e w' => e = .returned (.bool true) ∧ Below w.heap.size w w') := flives_any
  have FN : Hid (∀ (w : World) (g : Nat), Blk w g 32 cs1 → w.cell? ⟨g, 60, none⟩ = some (.int .u32 a1.n)) := by
    obtain ⟨A1, A2, A3, X1, X2, X3, M1, M2, M3, hcs, hA, hX, hM⟩ := h1h
    intro w g h
    rw [hcs] at h
    exact h.at (acells_get k1h 11)
  have f1 := charge_least a0 a1
  have f4 := charge_most a0 a1
  obtain ⟨n0, n1⟩ := k1h.n
  obtain ⟨er, her⟩ : ∃ x, x = fpErr a0 a1 := ⟨_, rfl⟩
  obtain ⟨ys, hys⟩ : ∃ x, x = fpOf a0 a1 := ⟨_, rfl⟩
  obtain ⟨ch, hch⟩ : ∃ x, x = chargeF a0 a1 := ⟨_, rfl⟩
  obtain ⟨nn, hnn⟩ : ∃ x, x = a1.n := ⟨_, rfl⟩
  rw [← her] at CP f4
  rw [← hys] at CP HYB HYL
  rw [← hch] at CA CB f1 f4
  rw [← hnn] at FN f4 n0 n1
  clear her hys hch hnn hT h1h k1h
  have hways : ¬ er = 0 ∨ (er = 0 ∧ a0 = 8 ∧ 32768 < nn) ∨ (er = 0 ∧ a0 = 8 ∧ nn ≤ 32768 ∧ ch ≤ 4) ∨ (er = 0 ∧ ¬ a0 = 8 ∧ ch ≤ 4) := by
    by_cases he : er = 0
    · by_cases h8 : a0 = 8
      · by_cases hg : 32768 < nn
        · exact .inr (.inl ⟨he, h8, hg⟩)
        · exact .inr (.inr (.inl ⟨he, h8, by omega, f4 he (.inr (by omega))⟩))
      · exact .inr (.inr (.inr ⟨he, h8, f4 he (.inl h8)⟩))
    · exact .inl he
  clear f4
  rcases hways with he | ⟨rfl, rfl, hg⟩ | ⟨rfl, rfl, hg, h4⟩ | ⟨rfl, h8, h4⟩
  all_goals
    go_enter Tryd.func10, Tryd.ntmps10
    go_wp2_with (first
      | ((with_reducible show wpList _ _ _ (⟨some 3, _, _, _, _, _⟩ :: _) _ _); refine wpList_box_blk rfl _ (.tmp 1) rfl cs1 rfl ?_; intro g v1 hg1 hg2 K1 L1)
      | ((with_reducible show wpList _ _ _ (⟨some 9, _, _, _, _, _⟩ :: _) _ _); refine wpList_load_blk rfl _ (.tmp 3) rfl g rfl _ cs1 K1 69 _ Tryd.underlying32 rfl size_ask HL ?_)
      | fail)
    refine (CA.out v1 L1.out).mono ?_
    rintro e v2 ⟨rfl, L2⟩
    have K2 := Lib.hid (K1.out.over L2)
    have M2 := Lib.hid (step L1.out L2)
    clear L2 K1 L1
    go_wp2_with (first
      | ((with_reducible show wpList _ _ _ (⟨some 13, _, _, _, _, _⟩ :: _) _ _); refine wpList_load_blk rfl _ (.tmp 3) rfl g rfl _ cs1 K2 69 _ Tryd.underlying32 rfl size_ask HL ?_)
      | fail)
    refine (CB.out v2 M2.out).mono ?_
    rintro e v3 ⟨rfl, L3⟩
    have K3 := Lib.hid (K2.out.over L3)
    have M3 := Lib.hid (step M2.out L3)
    clear L3 K2 M2
    go_wp2_with (first
      | ((with_reducible show wpList _ _ _ (⟨some 22, _, _, _, _, _⟩ :: _) _ _); refine wpList_load_blk rfl _ (.tmp 3) rfl g rfl _ cs1 K3 69 _ Tryd.underlying32 rfl size_ask HL ?_)
      | fail)
    refine (CP.out v3 M3.out).mono ?_
    rintro e v4 ⟨u4, rfl, ho4, L4⟩
    obtain ⟨A4, c4, rfl, hh4⟩ := ho4.holds HYB.out (by have := HYL.out; omega)
    obtain ⟨m4, hm4⟩ : ∃ m, m = ys.length := ⟨_, rfl⟩
    rw [← hm4]
    have K4 := Lib.hid (K3.out.over L4)
    have M4 := Lib.hid (step M3.out L4)
    have gn := FN.out v4 g K4.out
    clear hh4 hm4 ho4 L4 K3 M3
    go_wp2_with fail
    refine (CL.out v4 (HT.out.below M4.out)).mono ?_
    rintro e v5 ⟨rfl, L5⟩
    go_wp2
    go_ret
    exact ⟨rfl, step M4.out L5⟩
end Go.Proofs.YtdlcjobahdmapaaDoor
