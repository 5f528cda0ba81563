import Derived.Test.YtdgpbhdihhchgaaGreatDoorSAJ
import Derived.Test.YtdgpbhdihhchgaaGreatDoorS0
set_option linter.all false
set_option maxHeartbeats 8000000
set_option maxRecDepth 100000
namespace Go.Proofs.YtdgpbhdihhchgaaGreatDoor
set_option maxRecDepth 100000
open Go.RowKit
theorem n7a(w:World)(v:Value)(h:NoV w v):Calls Tryz.prog 22 #[v] w λe w'=>e=.returned (.slice none 0 0)/\Below w.heap.size w w':=by have H:=hI (h.non (Below.refl _ _));clear h;go_enter Tryz.func22,Tryz.ntmps22;go_wp2_with fail;refine H.out.mono ?_;rintro e w1 ⟨rfl,rfl⟩;go_wp2_with fail;go_ret;exact⟨rfl,Below.refl _ _⟩
end Go.Proofs.YtdgpbhdihhchgaaGreatDoor
