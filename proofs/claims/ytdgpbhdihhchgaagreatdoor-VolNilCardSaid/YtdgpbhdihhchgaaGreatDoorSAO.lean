import Derived.Test.YtdgpbhdihhchgaaGreatDoorSAJ
import Derived.Test.YtdgpbhdihhchgaaGreatDoorS0
set_option linter.all false
set_option maxHeartbeats 8000000
set_option maxRecDepth 100000
namespace Go.Proofs.YtdgpbhdihhchgaaGreatDoor
set_option maxRecDepth 100000
open Go.RowKit
theorem e4b(w:World)(v:Value)(h:NoV w v)(s:ByteArray)(k:Int):Calls Tryz.prog 28 #[v,.string s,.int .u8 k] w λe w'=>e=.returned (.tuple #[.int .i64 0,.int .i64 1])/\Below w.heap.size w w':=by have H:=hI (h.non (Below.refl _ _));clear h;go_enter Tryz.func28,Tryz.ntmps28;go_wp2_with fail;refine H.out.mono ?_;rintro e w1 ⟨rfl,rfl⟩;go_wp2_with fail;go_ret2;exact⟨rfl,Below.refl _ _⟩
end Go.Proofs.YtdgpbhdihhchgaaGreatDoor
