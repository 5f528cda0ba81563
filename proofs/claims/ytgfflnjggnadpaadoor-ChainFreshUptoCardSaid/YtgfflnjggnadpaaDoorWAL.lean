import Derived.WalkKit
import Derived.Deep.Draws
import Derived.Laws.Rows
import Derived.Laws.OwnMore
import Derived.Laws.Bits64
import Derived.Laws.BitsAllLaws
import Derived.OpenShut
import Derived.Test.YtgfflnjggnadpaaDoorRows
import Derived.Lib.Hide
import Derived.BigQuiet
import Derived.Deep.QuietTactic
import Derived.Laws.CopyOwn
import Derived.Laws.AppendOwnNone
import Derived.Laws.Tables
import Derived.Laws.NewFold
import Derived.Deep.WholeRow
import Derived.StillTailTactics
import Derived.Deep.RegionLaw
import Derived.WalkSpells
import Derived.WalkLawsBesides
import Derived.Lib.AppendZeros
import Derived.Deep.RegionWith
import Derived.Deep.DeepCutAuto
import Derived.OrdersHeld
import Derived.Laws.StructEq
import Derived.ChangeKeysEq
import Derived.Laws.AppendOwn
import Derived.OwnWalk
import Derived.Lib.OthersKept
import Derived.Laws.BytesArg
import Derived.Laws.IdiomStrings
import Derived.ProofKit
import Derived.ShutString
import Derived.SizedLaws
import Derived.ChangeOld
import Derived.Great.Walk
import Derived.Deep.MidRow
import Derived.Lib.SliceRun
import Derived.OneCell
import Derived.Deep.Strs
import Derived.Deep.Slices
import Derived.Laws.MakeOwn
import Derived.Lib.SlBytesConst
import Derived.Test.YtgfflnjggnadpaaDoorWAC
import Derived.Test.YtgfflnjggnadpaaDoorWAF
namespace Go.Proofs.YtgfflnjggnadpaaDoor
set_option linter.all false
set_option maxRecDepth 100000
open Go.RowKit
set_option linter.unusedVariables false
/-- what a chain is, of messages that may be one -/
theorem chain_facts (ks : List Int) {L : List (List Int)} (he : chainErr L = 0) (hb : ∀ m ∈ L, Bytes m ∧ m.length ≤ 4294967000) :
    sealOf ks L = (sealL ks L).flatten ∧ spl 8 (sealOf ks L) = (0, sealL ks L) ∧ partE (sealOf ks L) = 0 ∧ 1 ≤ L.length ∧ L.length ≤ 8 ∧
    splD (sealOf ks L) = (if isRel (getOfH (sealOf ks L) 0).fl = true then (5, []) else (0, sealL ks L)) := by
  obtain ⟨hnil, h8, hall⟩ := chainErr_ok he
  have hM : Msgs L := fun m hm => ⟨(hb m hm).1, hall m hm, by have := (hb m hm).2; have := pad_facts m.length; omega⟩
  have h1 : sealOf ks L = (sealL ks L).flatten := by unfold sealOf; rw [if_pos he, catL_seal]
  have h2 : spl 8 (sealOf ks L) = (0, sealL ks L) := by rw [h1]; exact spl_seal ks L 8 hnil h8 hM
  have h3 : partE (sealOf ks L) = 0 := by
    by_cases h : partE (sealOf ks L) = 0
    · exact h
    · rw [spl_bad h] at h2
      injection h2 with h4 h5
  have h0 : 1 ≤ L.length := by
    cases L with
    | nil => exact absurd rfl hnil
    | cons a r => simp
  refine ⟨h1, h2, h3, h0, h8, ?_⟩
  unfold splD relH
  rw [h2, h3]
  rfl
end Go.Proofs.YtgfflnjggnadpaaDoor
