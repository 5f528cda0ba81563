import Derived.Test.YtdgpbhdihhchgaaGreatDoorSAF
import Derived.Test.YtdgpbhdihhchgaaGreatDoorS0
set_option linter.all false
set_option maxHeartbeats 8000000
set_option maxRecDepth 100000
namespace Go.Proofs.YtdgpbhdihhchgaaGreatDoor
set_option maxRecDepth 100000
open Go.RowKit
theorem h9b(w:World)(q:Nat)(h:w.cell? ⟨q,1,none⟩=some (.map none)):Calls Tryz.prog 40 #[R0a q] w λe w'=>e=.returned (.bool true)/\w=w':=by
 have hml:∀w,(binOp .eql 69 (.map none) (.map none)).run Tryz.prog w=.ok (.bool true) w:=λw=>q8a _ _ _ _ Tryz.underlying69 w
 unfold R0a;go_enter Tryz.func40,Tryz.ntmps40;go_wp2_with fail;go_ret;exact⟨rfl,rfl⟩
theorem R1c(w:World):Calls Tryz.prog 40 #[.pointer none] w λe w'=>e=.returned (.bool true)/\w=w':=by go_enter Tryz.func40,Tryz.ntmps40;go_wp2_with fail;go_ret;exact⟨rfl,rfl⟩
section
variable {DI:DrI} {EI:FiI} {w:World} {base q m:Nat} {D:DataW Unit} {Q T n:Int} {M:List VN} {R:List (Int×I0a)} {y:VN}
end
def NoV(w:World)(v:Value):Prop:=v=.pointer none∨∃g,v=.pointer (some ⟨g,0,none⟩)/\Blk w g 71 [.int .i64 0,.map none,.int .i64 0]
theorem NoV.below{w w':World}{v:Value}(h:NoV w v)(hb:Below w.heap.size w w'):NoV w' v:=by
 rcases h with h | ⟨g,h,b⟩
 ·exact .inl h
 ·exact .inr ⟨g,h,b.over hb⟩
theorem NoV.non{w w':World}{v:Value}(h:NoV w v)(hb:Below w.heap.size w w'):Calls Tryz.prog 40 #[v] w' λe w2=>e=.returned (.bool true)/\w'=w2:=by
 rcases h.below hb with rfl | ⟨g,rfl,b⟩
 ·exact R1c w'
 ·exact h9b w' g (b.cell 1)
theorem NoV.one{w:World}{v:Value}(h:NoV w v):v.oneCell'=true:=by rcases h with rfl | ⟨g,rfl,_⟩<;>rfl
theorem NoV.node{w w':World}{v:Value}(h:NoV w v)(hb:Below w.heap.size w w')(n:Int):Calls Tryz.prog 46 #[v,.int .i64 n] w' λe w2=>e=.returned (.tuple #[.pointer none,.int .i64 1])/\w'=w2:=by have H:=hI (h.non hb);clear h hb;go_enter Tryz.func46,Tryz.ntmps46;go_wp2_with fail;refine H.out.mono ?_;rintro e w1 ⟨rfl,rfl⟩;go_wp2_with fail;go_ret2;exact⟨rfl,rfl⟩
theorem NoV.file{w w':World}{v:Value}(h:NoV w v)(hb:Below w.heap.size w w')(n:Int):Calls Tryz.prog 62 #[v,.int .i64 n] w' λe w2=>e=.returned (.tuple #[.pointer none,.int .i64 1])/\w'=w2:=by have H:=hI (h.node hb n);clear h hb;go_enter Tryz.func62,Tryz.ntmps62;go_wp2_with fail;refine H.out.mono ?_;rintro e w1 ⟨rfl,rfl⟩;go_wp2_with fail;go_ret2;exact⟨rfl,rfl⟩
theorem NoV.change{w w':World}{v:Value}(h:NoV w v)(hb:Below w.heap.size w w')(n:Int)(f:Value):Calls Tryz.prog 74 #[v,.int .i64 n,f] w' λe w2=>e=.returned (.int .i64 1)/\w'=w2:=by have H:=hI (h.file hb n);clear h hb;go_enter Tryz.func74,Tryz.ntmps74;go_wp2_with fail;refine H.out.mono ?_;rintro e w1 ⟨rfl,rfl⟩;go_wp2_with fail;go_ret;exact⟨rfl,rfl⟩
end Go.Proofs.YtdgpbhdihhchgaaGreatDoor
