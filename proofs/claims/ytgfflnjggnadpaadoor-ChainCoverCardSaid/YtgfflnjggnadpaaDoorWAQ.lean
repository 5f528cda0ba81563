import Derived.WalkKit
import Derived.Deep.Draws
import Derived.Laws.Rows
import Derived.Laws.OwnMore
import Derived.Laws.Bits64
import Derived.Laws.BitsAllLaws
import Derived.OpenShut
import Derived.Test.YtgfflnjggnadpaaDoorRows
import Derived.Lib.Hide
import Derived.BigQuiet
import Derived.Deep.QuietTactic
import Derived.Laws.CopyOwn
import Derived.Laws.AppendOwnNone
import Derived.Laws.Tables
import Derived.Laws.NewFold
import Derived.Deep.WholeRow
import Derived.StillTailTactics
import Derived.Deep.RegionLaw
import Derived.WalkSpells
import Derived.WalkLawsBesides
import Derived.Lib.AppendZeros
import Derived.Deep.RegionWith
import Derived.Deep.DeepCutAuto
import Derived.OrdersHeld
import Derived.Laws.StructEq
import Derived.ChangeKeysEq
import Derived.Laws.AppendOwn
import Derived.OwnWalk
import Derived.Lib.OthersKept
import Derived.Laws.BytesArg
import Derived.Laws.IdiomStrings
import Derived.ProofKit
import Derived.ShutString
import Derived.SizedLaws
import Derived.ChangeOld
import Derived.Great.Walk
import Derived.Deep.MidRow
import Derived.Lib.SliceRun
import Derived.OneCell
import Derived.Deep.Strs
import Derived.Deep.Slices
import Derived.Laws.MakeOwn
import Derived.Test.YtgfflnjggnadpaaDoorWAC
import Derived.Test.YtgfflnjggnadpaaDoorWAD
import Derived.Test.YtgfflnjggnadpaaDoorWAG
import Derived.Test.YtgfflnjggnadpaaDoorWAJ
namespace Go.Proofs.YtgfflnjggnadpaaDoor
set_option linter.all false
set_option maxRecDepth 100000
open Go.RowKit
set_option linter.unusedVariables false
/-- the parts are the bytes, one behind the other -/
theorem spl_flat (f : Nat) (r : List Int) (h : (spl f r).1 = 0) : (spl f r).2.flatten = r ∧ 1 ≤ (spl f r).2.length ∧ (spl f r).2.length ≤ f := by
  induction f generalizing r with
  | zero =>
    unfold spl at h
    split at h
    · cases h
    · rename_i h1; exact absurd h h1
  | succ f ih =>
    unfold spl at h ⊢
    by_cases h0 : partE r = 0
    · rw [if_pos h0] at h ⊢
      by_cases h1 : nxt r = 0
      · rw [if_pos h1]
        simp
      · rw [if_neg h1] at h ⊢
        unfold ahead at h ⊢
        by_cases h2 : (spl f (r.drop (nxt r))).1 = 0
        · rw [if_pos h2]
          obtain ⟨i1, i2, i3⟩ := ih _ h2
          refine ⟨?_, ?_, ?_⟩
          · show ([r.take (nxt r)] ++ _).flatten = r
            rw [List.flatten_append, i1]
            simp
          · simp
          · simp; omega
        · rw [if_neg h2] at h
          exact absurd h h2
    · rw [if_neg h0] at h
      exact absurd h h0
end Go.Proofs.YtgfflnjggnadpaaDoor

namespace Go.Proofs.YtgfflnjggnadpaaDoor
set_option linter.all false
set_option maxRecDepth 100000
open Go.RowKit
set_option linter.unusedVariables false
theorem splD_err (b : List Int) (h : (splD b).1 ≠ 0) : (splD b).2 = [] := by
  unfold splD at h ⊢
  by_cases h0 : partE b = 0
  · rw [if_pos h0] at h ⊢
    by_cases h1 : relH b = true
    · rw [if_pos h1]
    · rw [if_neg h1] at h ⊢
      exact spl_err 8 b h
  · rw [if_neg h0]
theorem splD_flat (b : List Int) (h : (splD b).1 = 0) : (splD b).2.flatten = b ∧ 1 ≤ (splD b).2.length ∧ (splD b).2.length ≤ 8 := by
  unfold splD at h ⊢
  by_cases h0 : partE b = 0
  · rw [if_pos h0] at h ⊢
    by_cases h1 : relH b = true
    · rw [if_pos h1] at h
      cases h
    · rw [if_neg h1]
      rw [if_neg h1] at h
      exact spl_flat 8 b h
  · rw [if_neg h0] at h
    exact absurd h h0
set_option maxHeartbeats 4000000 in
theorem walk_ChainCover (W : World) (hT : KTab W) (A0 : Option Addr) (n0 c0 : Nat) (z0 : List Int) (l0 : n0 ≤ c0) (r0 : c0 ≤ 140737488351232) (h0 : Holds W W.heap.size A0 c0 c0 z0) :
    Calls Tryd.prog 7 #[.slice A0 n0 c0] W fun e W' => e = .returned (.bool true) ∧ Below W.heap.size W W' := by
  have hx := h0.head l0
  obtain ⟨xs, hxs⟩ : ∃ xs, xs = z0.take n0 := ⟨_, rfl⟩
  rw [← hxs] at hx
  have cs := Split_any W A0 n0 c0 xs hx (by omega)
  unfold SplitPost at cs
  have he := splD_err xs
  have hf := splD_flat xs
  obtain ⟨⟨E, L⟩, hq⟩ : ∃ q, q = splD xs := ⟨_, rfl⟩
  rw [← hq] at cs he hf
  dsimp only at cs he hf
  have CV := fun w hK => Lib.hid (livesC_any w hK)
  have HT := Lib.hid hT
  have HX := Lib.hid hx
  by_cases h0 : E = 0
  · subst h0
    obtain ⟨hfl, hl1, hl8⟩ := hf rfl
    have HFL := Lib.hid hfl
    have HLX : Hid (xs.length = n0) := hx.len
    have CSP := Lib.hid cs
    obtain ⟨m, hm⟩ : ∃ m, m = L.length := ⟨_, rfl⟩
    rw [← hm] at hl1 hl8
    have HM := Lib.hid hm
    have CSm := fun (w : World) A c (h : Holds w w.heap.size A n0 c xs) (hb : Below W.heap.size W w) => Lib.hid (Same_any w _ _ A A0 n0 c n0 c0 xs xs h (HX.out.over hb))
    simp only [decide_eq_true] at CSm
    clear he hf hfl hq hxs hm cs hx hT
    go_enter Tryd.func7, Tryd.ntmps7
    go_wp2_with fail
    refine CSP.out.mono ?_
    rintro e w1 ⟨v1, ps, rfl, o1, q1, b1⟩
    obtain ⟨A1, n1, c1, rfl, l1⟩ := o1.lst
    obtain rfl : n1 = m := by
      have h1 := l1.row.len
      have h2 := congrArg List.length q1
      rw [rowsL, List.length_map] at h2
      have := HM.out
      omega
    have HL := Lib.hid l1
    have HQ := Lib.hid q1
    have B1 := Lib.hid b1
    clear o1 l1 q1 b1 CSP
    go_wp2_with fail
    go_loopw [5, 6] (fun v i wr => ∃ k : Nat, k ≤ n1 ∧ i = .int .i64 k ∧ Hid (OwnZ .u8 5 wr w1.heap.size v (L.take k).flatten) ∧ Below w1.heap.size w1 wr) (fun _ i _ => n1 - (intOf i).toNat)
    case atStart => exact ⟨0, by omega, rfl, OwnZ.nil _ _ _ _, Below.refl _ _⟩
    case round =>
      obtain ⟨k, hk, rfl, hO, hb⟩ := hrel
      by_cases hlt : k < n1
      · obtain ⟨b, off, p, rfl, hbb, hp, hcell, hhp⟩ := (HL.out.below hb).at hlt
        have hxk : L[k]? = some p.2.2.2 := by rw [← HQ.out, rowsL, List.getElem?_map, hp]; rfl
        have hfl := flatten_take_succ hxk
        have hlen : ((L.take k).flatten ++ p.2.2.2).length ≤ 140737488355328 := by
          rw [← hfl]
          have h1 := flatten_take_le L (k + 1)
          rw [HFL.out, HLX.out] at h1
          omega
        have HFk := Lib.hid hfl
        have hsz := Lib.hid hb.size
        obtain ⟨⟨pA, pn, pc, px⟩, hpe⟩ : ∃ q, q = p := ⟨_, rfl⟩
        rw [← hpe] at hcell hhp hlen HFk
        dsimp only at hcell hhp hlen HFk
        rw [List.length_append] at hlen
        have HLE := Lib.hid hlen
        have HP := Lib.hid hhp
        obtain ⟨fs, hfs⟩ : ∃ fs, fs = (L.take k).flatten := ⟨_, rfl⟩
        rw [← hfs] at hO HLE HFk
        clear hp hpe hxk hfl hlen hhp hfs
        go_wp2_with (first
          | (at_builtin; refine wpList_append_bytesZ rfl (.tmp 26) (.tmp 30) rfl w1.heap.size _ fs rfl hO.out w1.heap.size pA pn pc px rfl HP.out HLE.out hsz.out ?_; intro v2 w2 ho2 hb2)
          | fail)
        go_roundw
        case rel => exact ⟨k + 1, by omega, by go_num, by rw [HFk.out]; exact ho2, hb.trans hb2⟩
        case measure => simp [intOf]; omega
      · obtain rfl : k = n1 := by omega
        have e1 : (L.take k).flatten = xs := by rw [List.take_of_length_le (by have := HM.out; omega), HFL.out]
        rw [e1] at hO
        obtain ⟨A2, c2, rfl, h2⟩ := Own.holds (show Own _ _ _ _ from hO.out.own) HX.out.byte (by rw [HLX.out]; omega)
        rw [HLX.out] at h2 ⊢
        have B2 := Lib.hid (step B1.out hb)
        have CSa := CSm wr A2 c2 h2 B2.out
        have hge1 : (1 : Int) ≤ (k : Int) := by omega
        have hge8 : (k : Int) ≤ 8 := by omega
        clear e1 hO h2 CSm
        go_wp2_with fail
        refine CSa.out.mono ?_
        rintro e w4 ⟨rfl, j, rfl⟩
        have B4 : Hid (Below W.heap.size W (wr.drewN j)) := below_drewN B2.out j
        obtain ⟨w4, hw4⟩ : ∃ w, w = wr.drewN j := ⟨_, rfl⟩
        rw [← hw4] at B4 ⊢
        clear B2 CSa hw4
        go_wp2_with fail
        refine (CV w4 (HT.out.below B4.out)).out.mono ?_
        rintro e w6 ⟨rfl, b6⟩
        go_wp2
        go_ret
        exact ⟨rfl, step B4.out b6⟩
  · have hL := he h0
    subst hL
    have hne : (E != 0) = true := by simpa using h0
    have CSP := Lib.hid cs
    clear he hf hq hxs cs hx h0 hT
    go_enter Tryd.func7, Tryd.ntmps7
    go_wp2_with fail
    refine CSP.out.mono ?_
    rintro e w1 ⟨v1, ps, rfl, o1, q1, b1⟩
    obtain ⟨A1, n1, c1, rfl, l1⟩ := o1.lst
    obtain rfl : n1 = 0 := by
      have h1 := l1.row.len
      have h2 := congrArg List.length q1
      rw [rowsL, List.length_map] at h2
      rw [List.length_nil] at h2
      omega
    have B1 := Lib.hid b1
    clear o1 l1 q1 b1 CSP
    go_wp2_with fail
    refine (CV w1 (HT.out.below B1.out)).out.mono ?_
    rintro e w6 ⟨rfl, b6⟩
    go_wp2
    go_ret
    exact ⟨rfl, step B1.out b6⟩
end Go.Proofs.YtgfflnjggnadpaaDoor
