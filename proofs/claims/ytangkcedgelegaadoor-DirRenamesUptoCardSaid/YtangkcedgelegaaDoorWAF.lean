import Derived.WalkKit
import Derived.Deep.Draws
import Derived.Laws.Rows
import Derived.Laws.OwnMore
import Derived.Lib.RuneBytes
import Derived.Lib.ValidLaws
import Derived.Test.YtangkcedgelegaaDoorRows
import Derived.Laws.CopyOwn
import Derived.Laws.AppendOwnNone
import Derived.Lib.Hide
import Derived.Laws.AppendOwn
import Derived.OwnWalk
import Derived.Lib.OthersKept
import Derived.Laws.BytesArg
import Derived.Shelf.Utf8.AppendRunePlain
import Derived.Shelf.Utf8.RuneCount
import Derived.Shelf.LaysM
import Derived.Shelf.Strconv.Clone
import Derived.Shelf.Unicode.DecodeSlow
import Derived.Shelf.Unicode.DecodeAny
import Derived.Shelf.Slices.Turned
import Derived.Shelf.Unicode.ValidAny
import Derived.Test.YtangkcedgelegaaDoorProg
import Derived.WalkSpells
import Derived.WalkLawsBesides
import Derived.Deep.QuietTactic
import Derived.BigQuiet
import Derived.Laws.Bits64
import Derived.Laws.BitsAllLaws
import Derived.Laws.Tables
import Derived.Laws.NewFold
import Derived.Deep.WholeRow
import Derived.Deep.DeepCutAuto
import Derived.Laws.IdiomStrings
import Derived.Laws.Cover4
import Derived.Lib.RuneCount
import Derived.Lib.IndexLaws
import Derived.OneCell
import Derived.StillTailTactics
import Derived.WalkMore
import Derived.ProofKit
import Derived.OpenShut
import Derived.ShutString
import Derived.SizedLaws
import Derived.ChangeOld
import Derived.Deep.Strs
import Derived.Lib.Join
import Derived.Deep.RegionLaw
import Derived.Deep.CutBlock
import Derived.Deep.MidRow
import Derived.Lib.AppendZeros
import Derived.Deep.RegionWith
import Derived.Great.Walk
import Derived.Deep.Slices
import Derived.Lib.SliceRun
import Derived.Maps.AppendAt
import Derived.Lib.Overlaps
import Derived.OrdersHeld
import Derived.Laws.StructEq
import Derived.ChangeKeysEq
import Derived.Test.YtangkcedgelegaaDoorWAC
import Derived.Test.YtangkcedgelegaaDoorWAD
import Derived.Test.YtangkcedgelegaaDoorWAE
namespace Go.Proofs.YtangkcedgelegaaDoor
set_option linter.all false
open Go.RowKit Go.Lib
set_option linter.unusedVariables false
section
variable {L : List DItem} {s t u : ByteArray} {n : Int} {x y : DItem}
/-- what is alike to a name is found as it was given -/
theorem Dok.found (h : Dok L) (hx : x ∈ L) (ha : alk x.1 s = true) (hb : dBad s = false) : dFindE L s = 0 ∧ dFind L s = x := by
  obtain ⟨h1, h2, h3⟩ := dFind_ok hb (dHas_iff.2 ⟨x, hx, ha⟩)
  exact ⟨h1, h.same h2 hx (alk_trans h3 (alk_symm ha))⟩
end
end Go.Proofs.YtangkcedgelegaaDoor

namespace Go.Proofs.YtangkcedgelegaaDoor
set_option linter.all false
open Go.RowKit
set_option linter.unusedVariables false
section
variable {L : List DItem} {s t u : ByteArray} {n : Int}
/-- what was added is found, whatever letters are great -/
theorem back_new (h : Dok L) (he : dAddE L s = 0) (ha : alk s t = true) (hb : dBad t = false) : dFindE (dAdd L s n) t = 0 ∧ dFind (dAdd L s n) t = (s, n) ∧ (dAdd L s n).length = L.length + 1 := by
  have hd : Dok (dAdd L s n) := h.add
  have hm : (s, n) ∈ dAdd L s n := by
    unfold dAdd
    rw [if_pos he]
    exact dPut_mem.2 (.inl rfl)
  obtain ⟨h1, h2⟩ := hd.found hm ha hb
  refine ⟨h1, h2, ?_⟩
  unfold dAdd
  rw [if_pos he, dPut_len]
end
section
variable {L : List DItem} {i : Nat}
end
end Go.Proofs.YtangkcedgelegaaDoor
