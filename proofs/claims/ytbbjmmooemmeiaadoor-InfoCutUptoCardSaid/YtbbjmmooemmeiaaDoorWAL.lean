import Derived.WalkKit
import Derived.Deep.Draws
import Derived.Laws.Rows
import Derived.Laws.OwnMore
import Derived.Test.YtbbjmmooemmeiaaDoorRows
import Derived.Laws.CopyOwn
import Derived.Laws.AppendOwnNone
import Derived.Lib.Hide
import Derived.Laws.AppendOwn
import Derived.OwnWalk
import Derived.Lib.OthersKept
import Derived.Laws.BytesArg
import Derived.Test.YtbbjmmooemmeiaaDoorWAD
import Derived.Test.YtbbjmmooemmeiaaDoorWAH
namespace Go.Proofs.YtbbjmmooemmeiaaDoor
set_option linter.all false
open Go.RowKit
section
variable {k k' : IntKind} {e e' : TypeId} {w w' : World} {base base' : Nat} {v u : Value} {xs ys : List Int}
/-- a row of another kind stays -/
theorem Grew.other (hg : Grew w w' v) (h : OwnK k e w base v xs) (h' : OwnK k' e' w base' u ys) (hne : e ≠ e') : OwnK k' e' w' base' u ys :=
  h'.keep fun _ _ _ hi => by
    rw [hg.block hi fun hv => ?_, hi]
    obtain ⟨_, cs', hcs⟩ := h.block hv
    rw [hcs] at hi
    cases hi
    exact hne rfl
end
section
variable {k : IntKind} {e : TypeId} {w : World} {base : Nat} {v : Value} {xs ys : List Int}
end
end Go.Proofs.YtbbjmmooemmeiaaDoor
