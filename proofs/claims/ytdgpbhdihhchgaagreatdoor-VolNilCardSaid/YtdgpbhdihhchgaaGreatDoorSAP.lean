import Derived.Test.YtdgpbhdihhchgaaGreatDoorSAL
import Derived.Test.YtdgpbhdihhchgaaGreatDoorS0
set_option linter.all false
set_option maxHeartbeats 8000000
set_option maxRecDepth 100000
namespace Go.Proofs.YtdgpbhdihhchgaaGreatDoor
set_option maxRecDepth 100000
open Go.RowKit
theorem Y9a(w:World)(v:Value)(h:NoV w v)(n:Int):Calls Tryz.prog 29 #[v,.int .i64 n] w λe w'=>e=.returned (.int .i64 1)/\Below w.heap.size w w':=by have H:=hI (h.low (Below.refl _ _) n);clear h;go_enter Tryz.func29,Tryz.ntmps29;go_wp2_with fail;refine H.out.mono ?_;rintro e w1 ⟨rfl,rfl⟩;go_wp2_with fail;go_ret;exact⟨rfl,Below.refl _ _⟩
end Go.Proofs.YtdgpbhdihhchgaaGreatDoor
