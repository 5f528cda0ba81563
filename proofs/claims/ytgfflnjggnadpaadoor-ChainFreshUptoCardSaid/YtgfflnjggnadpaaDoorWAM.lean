import Derived.WalkKit
import Derived.Deep.Draws
import Derived.Laws.Rows
import Derived.Laws.OwnMore
import Derived.Laws.Bits64
import Derived.Laws.BitsAllLaws
import Derived.OpenShut
import Derived.Test.YtgfflnjggnadpaaDoorRows
import Derived.Lib.Hide
import Derived.BigQuiet
import Derived.Deep.QuietTactic
import Derived.Laws.CopyOwn
import Derived.Laws.AppendOwnNone
import Derived.Laws.Tables
import Derived.Laws.NewFold
import Derived.Deep.WholeRow
import Derived.StillTailTactics
import Derived.Deep.RegionLaw
import Derived.WalkSpells
import Derived.WalkLawsBesides
import Derived.Lib.AppendZeros
import Derived.Deep.RegionWith
import Derived.Deep.DeepCutAuto
import Derived.OrdersHeld
import Derived.Laws.StructEq
import Derived.ChangeKeysEq
import Derived.Laws.AppendOwn
import Derived.OwnWalk
import Derived.Lib.OthersKept
import Derived.Laws.BytesArg
import Derived.Laws.IdiomStrings
import Derived.ProofKit
import Derived.ShutString
import Derived.SizedLaws
import Derived.ChangeOld
import Derived.Great.Walk
import Derived.Deep.MidRow
import Derived.Lib.SliceRun
import Derived.OneCell
import Derived.Deep.Strs
import Derived.Deep.Slices
import Derived.Laws.MakeOwn
import Derived.Test.YtgfflnjggnadpaaDoorWAC
import Derived.Test.YtgfflnjggnadpaaDoorWAF
namespace Go.Proofs.YtgfflnjggnadpaaDoor
set_option linter.all false
set_option maxRecDepth 100000
open Go.RowKit
set_option linter.unusedVariables false
/-- what a list of rows that came in is, in second form's bounds -/
theorem lst_facts {W : World} {A0 : Option Addr} {n0 c0 : Nat} {z0 : List PartT} (l0 : n0 ≤ c0) (r0 : c0 ≤ 1048576 ∧ ∀ y ∈ z0, y.2.2.1 ≤ 1048576) (h0 : Lst W W.heap.size A0 c0 c0 z0) :
    Lst W W.heap.size A0 n0 c0 (z0.take n0) ∧ n0 ≤ 1048576 ∧ ∀ p ∈ z0.take n0, p.2.1 ≤ 1048576 := by
  have h := h0.head l0
  exact ⟨h, by omega, fun p hp => by have h1 := (h.each p hp).fit; have h2 := r0.2 p (List.mem_of_mem_take hp); omega⟩
end Go.Proofs.YtgfflnjggnadpaaDoor
