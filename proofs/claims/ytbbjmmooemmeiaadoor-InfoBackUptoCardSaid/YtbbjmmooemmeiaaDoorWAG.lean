import Derived.WalkKit
import Derived.Deep.Draws
import Derived.Laws.Rows
import Derived.Laws.OwnMore
import Derived.Lib.RuneBytes
import Derived.Lib.ValidLaws
import Derived.Test.YtbbjmmooemmeiaaDoorRows
import Derived.Laws.CopyOwn
import Derived.Laws.AppendOwnNone
import Derived.Lib.Hide
import Derived.Laws.AppendOwn
import Derived.OwnWalk
import Derived.Lib.OthersKept
import Derived.Laws.BytesArg
import Derived.Shelf.Utf8.AppendRunePlain
import Derived.Shelf.Unicode.ValidAny
import Derived.Test.YtbbjmmooemmeiaaDoorProg
import Derived.WalkSpells
import Derived.WalkLawsBesides
import Derived.Deep.QuietTactic
import Derived.BigQuiet
import Derived.Laws.Bits64
import Derived.Laws.BitsAllLaws
import Derived.ProofKit
import Derived.OpenShut
import Derived.ShutString
import Derived.SizedLaws
import Derived.ChangeOld
import Derived.Lib.AppendZeros
import Derived.Deep.RegionWith
import Derived.Deep.DeepCutAuto
import Derived.Great.Walk
import Derived.Laws.Tables
import Derived.Laws.NewFold
import Derived.Deep.WholeRow
import Derived.Deep.MidRow
import Derived.OneCell
import Derived.Deep.Strs
import Derived.OrdersHeld
import Derived.Laws.StructEq
import Derived.ChangeKeysEq
import Derived.Deep.RegionLaw
import Derived.Deep.OwnRows
import Derived.Test.YtbbjmmooemmeiaaDoorWAD
namespace Go.Proofs.YtbbjmmooemmeiaaDoor
set_option linter.all false
set_option linter.unusedVariables false
set_option maxRecDepth 100000
/-! ### reading -/
def rdUp (xs : List Int) (most : Int) (r : Rd) : Int × Rd := if (rdN xs 2 r).2.e = 0 ∧ most < (rdN xs 2 r).1 then ((rdN xs 2 r).1, ⟨(rdN xs 2 r).2.p, 5⟩) else rdN xs 2 r
def s3 (xs : List Int) := rdUp xs 2 (s2 xs).2
end Go.Proofs.YtbbjmmooemmeiaaDoor

namespace Go.Proofs.YtbbjmmooemmeiaaDoor
set_option linter.all false
set_option linter.unusedVariables false
set_option linter.unusedSimpArgs false
set_option maxRecDepth 100000
theorem b1' {xs : List Int} (hx : Bytes xs) (r : Rd) : 0 ≤ (rdN xs 1 r).1 ∧ (rdN xs 1 r).1 ≤ 255 := by
  have := rdN_lt hx 1 r 256 (by decide) (by decide); exact ⟨this.1, by omega⟩
end Go.Proofs.YtbbjmmooemmeiaaDoor

namespace Go.Proofs.YtbbjmmooemmeiaaDoor
set_option linter.all false
set_option linter.unusedVariables false
set_option linter.unusedSimpArgs false
set_option maxRecDepth 100000
theorem b2' {xs : List Int} (hx : Bytes xs) (r : Rd) : 0 ≤ (rdN xs 2 r).1 ∧ (rdN xs 2 r).1 ≤ 65535 := by
  have := rdN_lt hx 2 r 65536 (by decide) (by decide); exact ⟨this.1, by omega⟩
end Go.Proofs.YtbbjmmooemmeiaaDoor
