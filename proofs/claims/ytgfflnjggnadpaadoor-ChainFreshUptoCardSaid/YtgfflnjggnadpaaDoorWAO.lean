import Derived.WalkKit
import Derived.Deep.Draws
import Derived.Laws.Rows
import Derived.Laws.OwnMore
import Derived.Test.YtgfflnjggnadpaaDoorRows
import Derived.Laws.CopyOwn
import Derived.Laws.AppendOwnNone
import Derived.Lib.Hide
import Derived.Laws.AppendOwn
import Derived.OwnWalk
import Derived.Lib.OthersKept
import Derived.Laws.BytesArg
import Derived.Test.YtgfflnjggnadpaaDoorWAC
import Derived.Test.YtgfflnjggnadpaaDoorWAD
import Derived.Test.YtgfflnjggnadpaaDoorWAF
import Derived.Test.YtgfflnjggnadpaaDoorWAI
import Derived.Test.YtgfflnjggnadpaaDoorWAK
namespace Go.Proofs.YtgfflnjggnadpaaDoor
set_option linter.all false
open Go.RowKit
section
variable {k k' : IntKind} {e e' : TypeId} {w w' : World} {base base' : Nat} {v u : Value} {xs ys : List Int}
theorem maxLen_eq : maxLen = 9223372036854775807 := rfl
end
section
variable {k : IntKind} {e : TypeId} {w : World} {base : Nat} {v : Value} {xs ys : List Int}
end
end Go.Proofs.YtgfflnjggnadpaaDoor
