import Derived.WalkKit
import Derived.Deep.Draws
import Derived.Laws.Rows
import Derived.Laws.OwnMore
import Derived.Laws.Bits64
import Derived.Laws.BitsAllLaws
import Derived.OpenShut
import Derived.Test.YtgfflnjggnadpaaDoorRows
import Derived.Lib.Hide
import Derived.BigQuiet
import Derived.Deep.QuietTactic
import Derived.Laws.CopyOwn
import Derived.Laws.AppendOwnNone
import Derived.Laws.Tables
import Derived.Laws.NewFold
import Derived.Deep.WholeRow
import Derived.StillTailTactics
import Derived.Deep.RegionLaw
import Derived.WalkSpells
import Derived.WalkLawsBesides
import Derived.Lib.AppendZeros
import Derived.Deep.RegionWith
import Derived.Deep.DeepCutAuto
import Derived.OrdersHeld
import Derived.Laws.StructEq
import Derived.ChangeKeysEq
import Derived.Laws.AppendOwn
import Derived.OwnWalk
import Derived.Lib.OthersKept
import Derived.Laws.BytesArg
import Derived.Laws.IdiomStrings
import Derived.ProofKit
import Derived.ShutString
import Derived.SizedLaws
import Derived.ChangeOld
import Derived.Great.Walk
import Derived.Deep.MidRow
import Derived.Lib.SliceRun
import Derived.OneCell
import Derived.Deep.Strs
import Derived.Deep.Slices
import Derived.Laws.MakeOwn
import Derived.Test.YtgfflnjggnadpaaDoorWAC
import Derived.Test.YtgfflnjggnadpaaDoorWAE
import Derived.Test.YtgfflnjggnadpaaDoorWAF
import Derived.Test.YtgfflnjggnadpaaDoorWAG
import Derived.Test.YtgfflnjggnadpaaDoorWAH
namespace Go.Proofs.YtgfflnjggnadpaaDoor
set_option linter.all false
set_option maxRecDepth 100000
open Go.RowKit
section
variable {w : World} {B b off n c : Nat} {xs : List Int}
theorem Holds.mid (h : Holds w B (some ⟨b, off, none⟩) n c xs) {j k : Nat} (hk : j + k ≤ n) (h0 : 0 < k) (hj : 0 < j) : Holds w B (some ⟨b, off + j, none⟩) k k ((xs.drop j).take k) := by
  have h1 := h.cut hk h0
  have e : (⟨b, off, none⟩ : Addr).add j = ⟨b, off + j, none⟩ := by
    have hj0 : ¬ j = 0 := by omega
    simp [Addr.add, hj0]
  rw [Option.map_some, e] at h1
  exact h1
end
end Go.Proofs.YtgfflnjggnadpaaDoor

namespace Go.Proofs.YtgfflnjggnadpaaDoor
set_option linter.all false
set_option maxRecDepth 100000
open Go.RowKit
set_option linter.unusedVariables false
def longB (n nk : Nat) (L : List (List Int)) : Bool := decide (20 < n) || (decide (1000 < nk) || L.any (fun x => decide (5000 < x.length)))
theorem longB_not {n nk : Nat} {L : List (List Int)} (h : longB n nk L = false) : n ≤ 20 ∧ nk ≤ 1000 ∧ ∀ x ∈ L, x.length ≤ 5000 := by
  unfold longB at h
  rw [Bool.or_eq_false_iff, Bool.or_eq_false_iff, decide_eq_false_iff_not, decide_eq_false_iff_not, List.any_eq_false] at h
  refine ⟨by omega, by omega, fun x hx => ?_⟩
  have := h.2.2 x hx
  simp at this
  omega
set_option maxHeartbeats 2000000 in
theorem long_any (w : World) (A : Option Addr) (n c : Nat) (ps : List PartT) (h : Lst w w.heap.size A n c ps) (hn : n ≤ 5864062014634) (Ak : Option Addr) (nk ck : Nat) (hnk : nk ≤ 140737488351232) (hs : ∀ p ∈ ps, p.2.1 ≤ 140737488351232) :
    Calls Tryd.prog 22 #[.slice A n c, .slice Ak nk ck] w fun e w' => e = .returned (.bool (longB n nk (rowsL ps))) ∧ w = w' := by
  have HH := Lib.hid h
  have HS := Lib.hid hs
  have hl : (rowsL ps).length = n := by rw [rowsL, List.length_map]; exact h.row.len
  have HLn := Lib.hid hl
  clear h hs hl
  by_cases h1 : 20 < n
  · have e : longB n nk (rowsL ps) = true := by unfold longB; rw [decide_eq_true h1]; rfl
    rw [e]
    have hi : (20 : Int) < (n : Int) := by omega
    go_enter Tryd.func22, Tryd.ntmps22
    go_wp2_with fail
    go_ret
    exact ⟨rfl, rfl⟩
  · have hi : ¬ (20 : Int) < (n : Int) := by omega
    by_cases h2 : 1000 < nk
    · have e : longB n nk (rowsL ps) = true := by unfold longB; rw [decide_eq_false h1, decide_eq_true h2]; rfl
      rw [e]
      have hi2 : (1000 : Int) < (nk : Int) := by omega
      go_enter Tryd.func22, Tryd.ntmps22
      go_wp2_with fail
      go_ret
      exact ⟨rfl, rfl⟩
    · have hi2 : ¬ (1000 : Int) < (nk : Int) := by omega
      have HE : Hid (longB n nk (rowsL ps) = (rowsL ps).any (fun x => decide (5000 < x.length))) := by show _ = _; unfold longB; rw [decide_eq_false h1, decide_eq_false h2]; rfl
      go_enter Tryd.func22, Tryd.ntmps22
      go_wp2_with fail
      go_loop [5] (fun i => ∃ k : Nat, k ≤ n ∧ i = .int .i64 k ∧ Hid (((rowsL ps).take k).any (fun x => decide (5000 < x.length)) = false)) (fun i => n - (intOf i).toNat)
      case atStart => exact ⟨0, Nat.zero_le _, rfl, rfl⟩
      case round =>
        obtain ⟨k, hk, rfl, HT⟩ := hrel
        by_cases hlt : k < n
        · obtain ⟨b, off, p, rfl, hbb, hp, hcell, hhp⟩ := HH.out.at hlt
          have hxk : (rowsL ps)[k]? = some p.2.2.2 := by rw [rowsL, List.getElem?_map, hp]; rfl
          have hpn := HS.out p (List.mem_of_getElem? hp)
          have hpl := hhp.len
          obtain ⟨h3, h4⟩ := List.getElem?_eq_some_iff.1 hxk
          have hst : ((rowsL ps).take (k + 1)).any (fun x => decide (5000 < x.length)) = (((rowsL ps).take k).any (fun x => decide (5000 < x.length)) || decide (5000 < p.2.1)) := by
            rw [List.take_succ_eq_append_getElem h3, List.any_append, h4]
            simp [hpl]
          have hmem : p.2.2.2 ∈ rowsL ps := List.mem_of_getElem? hxk
          obtain ⟨⟨pA, pn, pc, px⟩, hpe⟩ : ∃ r, r = p := ⟨_, rfl⟩
          rw [← hpe] at hcell hst hpn hpl hmem
          dsimp only at hcell hst hpn hpl hmem
          rw [HT.out, Bool.false_or] at hst
          have HST := Lib.hid hst
          have HME := Lib.hid hmem
          have HPL := Lib.hid hpl
          clear hp hxk hhp h3 h4 hst hpe hmem hpl HT
          by_cases h5 : 5000 < pn
          · have hi5 : (5000 : Int) < (pn : Int) := by omega
            have hT : Hid (longB n nk (rowsL ps) = true) := by
              show _ = _
              rw [HE.out, List.any_eq_true]
              exact ⟨px, HME.out, by rw [HPL.out]; exact decide_eq_true h5⟩
            clear HE HST HME
            go_wp2_with fail
            go_ret
            exact ⟨ret_bool hT.out.symm, rfl⟩
          · have hi5 : ¬ (5000 : Int) < (pn : Int) := by omega
            have hN : Hid (((rowsL ps).take (k + 1)).any (fun x => decide (5000 < x.length)) = false) := by show _ = _; rw [HST.out]; exact decide_eq_false h5
            clear HST HME
            go_wp2_with fail
            go_round
            case rel => exact ⟨k + 1, by omega, by go_num, hN⟩
            case measure => simp [intOf]; omega
        · have hT : Hid (longB n nk (rowsL ps) = false) := by
            show _ = _
            have := HT.out
            rw [List.take_of_length_le (by rw [HLn.out]; omega)] at this
            rw [HE.out, this]
          clear HE HT
          go_wp2_with fail
          go_ret
          exact ⟨ret_bool hT.out.symm, rfl⟩
end Go.Proofs.YtgfflnjggnadpaaDoor
