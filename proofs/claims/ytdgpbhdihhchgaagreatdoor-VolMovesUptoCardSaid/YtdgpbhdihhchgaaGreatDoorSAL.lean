import Derived.Test.YtdgpbhdihhchgaaGreatDoorSAJ
import Derived.Test.YtdgpbhdihhchgaaGreatDoorS0
set_option linter.all false
set_option maxHeartbeats 8000000
set_option maxRecDepth 100000
namespace Go.Proofs.YtdgpbhdihhchgaaGreatDoor
set_option maxRecDepth 100000
open Go.RowKit
theorem NoV.low{w w':World}{v:Value}(h:NoV w v)(hb:Below w.heap.size w w')(n:Int):Calls Tryz.prog 64 #[v,.int .i64 n] w' λe w2=>e=.returned (.tuple #[.pointer none,.int .i64 1])/\w'=w2:=by have H:=hI (h.node hb n);clear h hb;go_enter Tryz.func64,Tryz.ntmps64;go_wp2_with fail;refine H.out.mono ?_;rintro e w1 ⟨rfl,rfl⟩;go_wp2_with fail;go_ret2;exact⟨rfl,rfl⟩
theorem o9a(w:World)(v:Value)(h:NoV w v)(n:Int):Calls Tryz.prog 17 #[v,.int .i64 n] w λe w'=>e=.returned (.tuple #[.string ⟨#[]⟩,.int .i64 1])/\Below w.heap.size w w':=by
 have ho:=h.one;have C:Hid (∀w',Below w.heap.size w w'->Calls Tryz.prog 46 #[v,.int .i64 n] w' λe w2=>e=.returned (.tuple #[.pointer none,.int .i64 1])/\w'=w2):=λw' hb=>h.node hb n
 rcases h with rfl | ⟨g,rfl,_⟩
 all_goals
  clear ho;go_enter Tryz.func17,Tryz.ntmps17;go_wp2_with(first
   | ((with_reducible refine sN 2 ?_);refine w0a rfl _ (.tmp 0) rfl (.pointer _) rfl rfl ?_;intro p2 w1 g1 g2 B1 L1;have c2:=B1.out.cell 0)
   | fail)
  refine(C.out w1 L1.out).mono ?_;rintro e w2 ⟨rfl,rfl⟩;go_wp2_with fail;go_ret2;exact⟨rfl,L1.out⟩
end Go.Proofs.YtdgpbhdihhchgaaGreatDoor
