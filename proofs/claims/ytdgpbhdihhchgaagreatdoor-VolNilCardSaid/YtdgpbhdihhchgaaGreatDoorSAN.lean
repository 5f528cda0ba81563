import Derived.Test.YtdgpbhdihhchgaaGreatDoorSAK
import Derived.Test.YtdgpbhdihhchgaaGreatDoorS0
set_option linter.all false
set_option maxHeartbeats 8000000
set_option maxRecDepth 100000
namespace Go.Proofs.YtdgpbhdihhchgaaGreatDoor
set_option maxRecDepth 100000
open Go.RowKit
theorem W3b(w:World)(v:Value)(h:NoV w v):Calls Tryz.prog 24 #[v] w λe w'=>e=.returned (.int .i64 0)/\Below w.heap.size w w':=by have H:=hI (h.non (Below.refl _ _));clear h;go_enter Tryz.func24,Tryz.ntmps24;go_wp2_with fail;refine H.out.mono ?_;rintro e w1 ⟨rfl,rfl⟩;go_wp2_with fail;go_ret;exact⟨rfl,Below.refl _ _⟩
end Go.Proofs.YtdgpbhdihhchgaaGreatDoor
