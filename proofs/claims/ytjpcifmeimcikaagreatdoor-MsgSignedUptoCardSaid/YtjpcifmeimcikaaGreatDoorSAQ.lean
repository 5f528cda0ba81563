import Derived.Lib.LaidU8T
import Derived.Deep.DeepHandedRow
import Derived.Test.YtjpcifmeimcikaaGreatDoorSAD
import Derived.Test.YtjpcifmeimcikaaGreatDoorS0
set_option linter.all false
set_option maxHeartbeats 8000000
set_option maxRecDepth 100000
namespace Go.Proofs.YtjpcifmeimcikaaGreatDoor
open Go.Proofs.Tryz
set_option maxRecDepth 100000
open Go.RowKit Go.Shelf
theorem U3c:(Rows.laid_unicode_utf8_first:DataW Unit)=Lib.firstData:=by kernel_rfl
theorem L2c:(Rows.laid_unicode_utf8_acceptRanges:DataW Unit)=Lib.acceptData:=by kernel_rfl
theorem w5c:(Rows.laid_refectory_sha_cubeRoots:DataW Unit)=Lib.tabData .u32 KK:=by kernel_rfl
theorem G6b{W:World}(hL:laidMetH prog [("unicode/utf8.acceptRanges",Rows.laid_unicode_utf8_acceptRanges),("refectory/sha.cubeRoots",Rows.laid_refectory_sha_cubeRoots),("unicode/utf8.first",Rows.laid_unicode_utf8_first)] W):E8a W/\z0b W:=by
 rw[U3c,L2c,w5c] at hL;obtain⟨g',t',cs,fuel,p,hg',ht',hvar,hd⟩:=Lib.laidMet.reads hL (.tail _ (.head _));have hT:Lib.TabIs prog W "refectory/sha.cubeRoots" .u32 KK:=by obtain rfl:=Option.some.inj ((show prog.globalNamed "refectory/sha.cubeRoots" = some 0 by kernel_rfl).symm.trans hg');obtain rfl:=Option.some.inj ((show(prog.globals[0]?).map (·.type)=some 201 by kernel_rfl).symm.trans ht');unfold Lib.TabIs;rw[hvar,<-Lib.cells_of_tab (n:=64) underlying201 underlying23 (by kernel_rfl) (by kernel_rfl) hd]
 exact⟨utf8Tabs_of_readsT (U8Types.of196 Tryz.lays196) ⟨by kernel_rfl,by kernel_rfl,by kernel_rfl,by kernel_rfl,by kernel_rfl,by kernel_rfl,by kernel_rfl⟩ (Lib.laidMet.reads hL (.tail _ (.tail _ (.head _)))) (Lib.laidMet.reads hL (.head _)),λi hi=>hT.cell (g:=0) (by kernel_rfl) i hi⟩
noncomputable def e3b (os:Os):World:=
 let w0:=World.holding prog os ⟨#[],#[],[]⟩
 let put (h:Array Obj) (g:Nat) (cs:Array Value):Array Obj:=h.modify g fun
  | .cells _ t frozen=>.cells cs t frozen
  | o=>o
 let h1:=put w0.heap 1 (Lib.firstTab.map λz=>Value.int .u8 z).toArray
 let h2:=put h1 2 ((List.range 16).flatMap λi=>[Value.int .u8 (Lib.accLo i),Value.int .u8 (Lib.accHi i)]).toArray
 let h3:=put h2 0 (KK.map λz=>Value.int .u32 z).toArray
 { w0 with heap:=h3 }
theorem V3c(os:Os)(args:Array Value):laidMet prog [("unicode/utf8.acceptRanges",Rows.laid_unicode_utf8_acceptRanges),("refectory/sha.cubeRoots",Rows.laid_refectory_sha_cubeRoots),("unicode/utf8.first",Rows.laid_unicode_utf8_first)] ((e3b os).forCall (λ_ _=>0) ⟨#[],args,[]⟩).memory:=laidMet_of_run' 8 (by kernel_rfl) (by kernel_rfl)
end Go.Proofs.YtjpcifmeimcikaaGreatDoor
