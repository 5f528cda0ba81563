import Derived.ProofKit
import Derived.ShutString
import Derived.Test.YtjpcifmeimcikaaGreatDoorSAA
import Derived.Test.YtjpcifmeimcikaaGreatDoorS0
set_option linter.all false
set_option maxHeartbeats 8000000
set_option maxRecDepth 100000
namespace Go.Proofs.YtjpcifmeimcikaaGreatDoor
open Go.RowKit Go.ChangeShapes Go.WideShapes
section
variable {H:Type} {enc:TypeId×Value->H} {P:Program} {W:World} {base:Nat} {t e:TypeId} {v:Value} {d:DataW H} {p:List MemPlace}
theorem u5a(d:DataW H):1<=Rows.uptoBulk d:=by
 cases d with
 | lit l=>cases l<;>simp[Rows.uptoBulk]
 | nil=>simp[Rows.uptoBulk]
 | ptr d=>simp[Rows.uptoBulk]
 | slice elems spare=>simp[Rows.uptoBulk]
 | agg parts=>simp[Rows.uptoBulk]
 | iface t d=>simp[Rows.uptoBulk]
 | map entries=>simp[Rows.uptoBulk]
 | held h=>simp[Rows.uptoBulk]
theorem G2a(l:List (DataW H)):l.length<=Rows.uptoBulkAll l:=by
 induction l with
 | nil=>simp[Rows.uptoBulkAll]
 | cons x r ih=>have:=u5a x;simp only[Rows.uptoBulkAll,List.length_cons];omega
theorem Holds.head{w:World}{B c n:Nat}{A:Option Addr}{xs:List Int}(h:Holds w B A c c xs)(hn:n<=c):Holds w B A n c (xs.take n):=
 ⟨by have:=h.len;simp;omega,hn,by have:=h.room;omega,h.byte.take n,h.bare,λh0=>by obtain⟨b,off,rfl,hb,hc⟩:=h.cells (by omega);refine⟨b,off,rfl,hb,λi hi=>?_⟩;rw[hc i (by omega)];simp[List.getD_eq_getElem?_getD,hi]⟩
theorem N8b(ht:P.underlying t=some (.slice e))(he:P.underlying e=some (.int .u8))(hc:P.cellsOf e=1)(hb:P.bytesOf e=1)(hv:Value.okWide P W .any base t v)
(hk:DataW.Trod enc P W 0 (λ_=>true) true t v d p)(hs:∀n∈d.weights P t,n<=reachBytes)(hp:∀x∈p,x.block<W.heap.size) :
  ∃A n c zs,v=.slice A n c/\n<=c/\c<=140737488351232/\c<Rows.uptoBulk d/\Holds W W.heap.size A c c zs:=by
 obtain⟨A,n,c,rfl⟩:=okWide_slice ht hv;obtain⟨fuel,hf⟩:=hk;rcases open_ints ht he hc hf with⟨hcs,hx⟩ | ⟨x,l,cp,zs,hcs,_,hl,hm,hz,hx,hcell,hwz⟩
 ·simp[Value.cells] at hcs;obtain⟨rfl,rfl,rfl⟩:=hcs;simp only[Prod.mk.injEq] at hx;obtain⟨rfl,_⟩:=hx;exact⟨none,0,0,[],rfl,Nat.le_refl _,by omega,u5a _,Holds.nil _ _⟩
 ·simp[Value.cells] at hcs;obtain⟨rfl,rfl,rfl⟩:=hcs;simp only[Prod.mk.injEq] at hx;obtain⟨rfl,rfl⟩:=hx;simp only[if_true] at hz;have hcap:c<=140737488351232:=by
   have h1:=hs ((lits (H:=H) .u8 (zs.take n)).length*1+(lits (H:=H) .u8 (zs.drop n)).length*1) (by simp only[DataW.weights,ht,hb];rw[<-Nat.add_mul];exact List.mem_cons_self)
   simp[lits,reachBytes] at h1;omega
  refine⟨some x,n,c,zs,rfl,hl,hcap,?_,hz,Nat.le_refl _,by omega,?_,(λhA=>by cases hA),λh0=>?_⟩
  ·have h1:=G2a (lits (H:=H) .u8 (zs.take n));have h2:=G2a (lits (H:=H) .u8 (zs.drop n));rw[show(lits (H:=H) .u8 (zs.take n)).length=(zs.take n).length from by simp[lits],List.length_take] at h1;rw[show(lits (H:=H) .u8 (zs.drop n)).length=(zs.drop n).length from by simp[lits],List.length_drop] at h2;simp only[Rows.uptoBulk];omega
  ·intro y hy;have:=hwz y hy;simpa[Lit.wf,IntKind.min,IntKind.max,IntKind.signed,IntKind.bits] using this
  ·obtain⟨b,off,spot⟩:=x;have h1:=hcell 0 (by omega);have hspot:spot=none:=by simpa[Addr.add] using World.cell?_spot h1
   subst hspot;refine⟨b,off,rfl,?_,λi hi=>?_⟩
   ·have:=World.block_lt_of_cell? W _ h1;simpa[Addr.add] using this
   ·have h2:=hcell i (by omega);have e:(⟨b,off,none⟩:Addr).add i=⟨b,off+i,none⟩:=by
     by_cases hj0:i=0
     ·subst hj0;simp[Addr.add]
     ·simp[Addr.add,hj0]
    rwa [e] at h2
theorem B1a{x:Int}(h:(Lit.int .u8 x).wf=true):0<=x/\x<=255:=by simpa[Lit.wf,IntKind.min,IntKind.max,IntKind.signed,IntKind.bits] using h
theorem q2a{x:Int}(h:(Lit.int .u16 x).wf=true):0<=x/\x<=65535:=by simpa[Lit.wf,IntKind.min,IntKind.max,IntKind.signed,IntKind.bits] using h
theorem Z1a{x:Int}(h:(Lit.int .u32 x).wf=true):0<=x/\x<=4294967295:=by simpa[Lit.wf,IntKind.min,IntKind.max,IntKind.signed,IntKind.bits] using h
theorem a2a{x:Int}(h:(Lit.int .u64 x).wf=true):0<=x/\x<=18446744073709551615:=by simpa[Lit.wf,IntKind.min,IntKind.max,IntKind.signed,IntKind.bits] using h
theorem B8a{x:Int}(h:(Lit.int .i64 x).wf=true):-9223372036854775808<=x/\x<=9223372036854775807:=by simpa[Lit.wf,IntKind.min,IntKind.max,IntKind.signed,IntKind.bits] using h
end
end Go.Proofs.YtjpcifmeimcikaaGreatDoor
