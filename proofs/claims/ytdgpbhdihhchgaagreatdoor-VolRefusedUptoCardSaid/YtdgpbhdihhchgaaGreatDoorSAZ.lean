import Derived.Test.YtdgpbhdihhchgaaGreatDoorSAI
import Derived.Test.YtdgpbhdihhchgaaGreatDoorS0
set_option linter.all false
set_option maxHeartbeats 8000000
set_option maxRecDepth 100000
namespace Go.Proofs.YtdgpbhdihhchgaaGreatDoor
open Go.RowKit Go.ChangeShapes Go.WideShapes
set_option maxRecDepth 100000
section
variable {w w':World} {B B':Nat} {A:Option Addr} {n c:Nat} {l:List M2a}
end
section
variable {H:Type} {enc:TypeId×Value->H} {W:World} {base:Nat} {v:Value} {d:DataW H} {p:List MemPlace}
theorem W1c(hv:Value.okWide Tryz.prog W .any base 58 v)(hk:DataW.Trod enc Tryz.prog W 0 (λ_=>true) true 58 v d p)(hw:∀n∈d.weights Tryz.prog 58,n<=reachBytes)(hb:Rows.uptoBulk d<=1048576) :
  ∃a:M2a,v=.agg (A2a a).toArray/\I6a W W.heap.size a:=by
 obtain⟨cs,rfl,_,_⟩:∃cs,v=.agg cs/\cs.size=Tryz.prog.cellsOf 58/\Row.okWide Tryz.prog W .any base 58 cs:=by simpa[Value.okWide,Tryz.underlying58] using hv
 obtain⟨fuel,hf⟩:=hk;have hcl:(Value.agg cs).cells.toList=cs.toList:=rfl;rw[hcl] at hf;obtain⟨a,e,k1,k2⟩:=o5b fuel cs.toList (d,p) hf hw;have k3:max (max a.path.length a.row.2.2.1) (max a.pat.length a.aft.length)<Rows.uptoBulk d:=k2;refine⟨a,by rw[<-e,Array.toArray_toList],k1.act,k1.num,k1.pos,k1.many,by omega,by omega,by omega,k1.row,by omega⟩
end
section
variable {I:e0b} {w w':World} {b q g k:Nat} {S:Nat->Prop} {v:Value} {V V' V2:X0a} {M:List VP} {T:TypeId} {cs:List Value}
end
open Go.RowKit
theorem g2b(I:e0b)(W:World)(htb:I.tb W.heap.size W)(k:Int)(hk:c2a k)(A:Option Addr)(n c:Nat)(l:List M2a)(hl:e4a W W.heap.size A n c l)(hn:n<=1048576)(a:M2a)(ha:I6a W W.heap.size a) :
  Calls Tryz.prog 7 #[.int .i64 k,.slice A n c,.agg (A2a a).toArray] W λe w'=>e=.returned (.bool true)/\Below W.heap.size W w':=by
 have C1:Hid (∀w0,Below W.heap.size W w0->_):=λw0 (h:Below W.heap.size W w0)=>R3a I w0 k hk A n c l (hl.over h) hn (I.tbUp (I.tbNext htb h) h.size)
 have HTB:=hI htb;have CW:Hid (∀w1,Below W.heap.size W w1->_):=λw1 (h:Below W.heap.size W w1)=>U2a I w1 (I.tbUp (I.tbNext htb h) h.size)
 have HLV:=p4a (q:=k) (l:=l) (min n 40);have hm40:min n 40<=40:=Nat.min_le_right _ _;obtain⟨V,hV⟩:∃V,V=N4a k l (min n 40):=⟨_,rfl⟩;unfold C4a at C1;rw[<-hV] at C1 HLV;have HA:=hI ha;have HCS:Hid (A2a a=[.int .i64 a.act,.string ⟨a.path.toArray⟩,.int .u8 a.kind,.int .i64 a.num,.int .i64 a.pos,.int .i64 a.many,.slice a.row.1 a.row.2.1 a.row.2.2.1,.bool a.over,.string ⟨a.pat.toArray⟩,.string ⟨a.aft.toArray⟩]):=rfl;obtain⟨cs,hcs⟩:∃cs,cs=A2a a:=⟨_,rfl⟩;rw[<-hcs] at HCS⊢;clear hl htb hV ha hcs;go_enter Tryz.func7,Tryz.ntmps7;go_wp2_with(first
  | ((with_reducible refine sN 5 ?_);refine v0a rfl _ (.tmp 2) rfl cs rfl ?_;intro kb w0 hk1 hk2 k0 l0)
  | fail)
 have K0:Hid (Blk w0 kb 58 [.int .i64 a.act,.string ⟨a.path.toArray⟩,.int .u8 a.kind,.int .i64 a.num,.int .i64 a.pos,.int .i64 a.many,.slice a.row.1 a.row.2.1 a.row.2.2.1,.bool a.over,.string ⟨a.pat.toArray⟩,.string ⟨a.aft.toArray⟩]):=by have:=k0.out;rw[HCS.out] at this;exact this
 refine(C1.out _ l0.out).mono ?_;rintro e w1 ⟨h1,h2⟩;by_cases hE:O3a k=0
 ·obtain⟨q,g,S,v,M,rfl,t1,l1⟩:=h2 hE;have L1:=hI (l0.out.trans (l1.mono l0.out.size));have T1:=hI t1;have K1:=hI (K0.out.over l1);have hlt:V.last<1048576:=by omega
  have c0:=K1.out.cell 0;have c1:=K1.out.cell 1;have c2:=K1.out.cell 2;have c3:=K1.out.cell 3;have c4:=K1.out.cell 4;have c5:=K1.out.cell 5;have c6:=K1.out.cell 6;have c7:=K1.out.cell 7;have c8:=K1.out.cell 8;have c9:=K1.out.cell 9;have BB:Below W.heap.size W w1:=L1.out;have TT:=T1.out;have HW0:Hid (W.heap.size<=w0.heap.size):=l0.out.size;have D1:=hI (I.make TT.x TT.tb TT.hb hlt (s:=a.path) (k:=a.kind) HA.out.path);have U1:Hid (I1a V a.path a.kind≠0->F3a V a.path a.kind=V):=λh=>if_neg h
  have D2:=hI (I.remove TT.x TT.tb TT.hb HA.out.num);have U2:Hid (D3a V.l a.num≠0->U6a V a.num=V):=λh=>if_neg h
  have D3:=hI (I.move TT.x TT.tb TT.hb (o:=a.over) HA.out.num HA.out.path);have U3:Hid (x1a V.l a.num a.path a.over≠0->h2a V a.num a.path a.over=V):=λh=>if_neg h
  have D4:=hI (I.write TT.x TT.tb TT.hb HA.out.num HA.out.pos ((HA.out.row.below BB).mono L1.out.size) (λh0 x hx hS=>by obtain⟨b',o',e,hb,_⟩:=HA.out.row.cells h0;rw[hx] at e;injection e with e;subst e;exact absurd (Nat.lt_of_lt_of_le hb HW0.out) (Nat.not_lt.2 (I.ge TT.x _ hS).1)) (Nat.le_trans HA.out.cap (by decide)));have U4:Hid (A0b V a.num a.pos a.row.2.2.2≠0->vWr V a.num a.pos a.row.2.2.2=V):=λh=>if_neg h
  have D5:=hI (I.cut TT.x TT.tb TT.hb HA.out.num HA.out.pos);have U5:Hid (n6a V a.num a.pos≠0->b2b V a.num a.pos=V):=λh=>if_neg h
  unfold R0a;clear h1 h2 t1 l1 C1 k0 l0 hk1 hk2 K0 HCS TT BB hlt HLV;rcases(by omega:a.act=1∨a.act=2∨a.act=3∨a.act=4∨a.act=5∨(¬a.act=1/\¬a.act=2/\¬a.act=3/\¬a.act=4/\¬a.act=5)) with h1 | h1 | h1 | h1 | h1 | ⟨h1,h2,h3,h4,h5⟩
  ·rw[h1] at c0;obtain⟨E,hEE⟩:∃E,E=I1a V a.path a.kind:=⟨_,rfl⟩;rw[<-hEE] at D1 U1;have D:=D1;have U:=U1;clear hEE D1 D2 D3 D4 D5 U1 U2 U3 U4 U5;go_wp2_with fail;refine D.out.mono ?_;rintro e w2 ⟨rfl,t2⟩;have l2:=T1.out.below1 t2;have L2:=hI (L1.out.trans (l2.mono HW0.out));obtain⟨S2,t3⟩:=T1.out.left t2;have T2:=hI t3;clear t2 t3 l2 D c0 c1 c2 c3 c4 c5 c6 c7 c8 c9;by_cases hz:E=0
   ·subst hz;go_wp2_with fail;refine(CW.out _ L2.out).mono ?_;rintro e wz ⟨rfl,lz⟩;go_wp2_with fail;go_ret;exact⟨rfl,L2.out.trans (lz.mono L2.out.size)⟩
   ·have hz':(E==0)=false:=by simpa using hz
    have T3:=T2.out;rw[U.out hz] at T3;have CS:=hI (d6a I w2 _ q S2 g v V M T3);clear T3 T2 U;go_wp2_with fail;refine CS.out.mono ?_;rintro e w4 ⟨rfl,l4⟩;have L4:=hI (L2.out.trans (l4.mono L2.out.size));clear l4 CS;go_wp2_with fail;refine(CW.out _ L4.out).mono ?_;rintro e wz ⟨rfl,lz⟩;go_wp2_with fail;go_ret;exact⟨rfl,L4.out.trans (lz.mono L4.out.size)⟩
  ·rw[h1] at c0;obtain⟨E,hEE⟩:∃E,E=D3a V.l a.num:=⟨_,rfl⟩;rw[<-hEE] at D2 U2;have D:=D2;have U:=U2;clear hEE D1 D2 D3 D4 D5 U1 U2 U3 U4 U5;go_wp2_with fail;refine D.out.mono ?_;rintro e w2 ⟨rfl,t2⟩;have l2:=T1.out.below1 t2;have L2:=hI (L1.out.trans (l2.mono HW0.out));obtain⟨S2,t3⟩:=T1.out.left t2;have T2:=hI t3;clear t2 t3 l2 D c0 c1 c2 c3 c4 c5 c6 c7 c8 c9;by_cases hz:E=0
   ·subst hz;go_wp2_with fail;refine(CW.out _ L2.out).mono ?_;rintro e wz ⟨rfl,lz⟩;go_wp2_with fail;go_ret;exact⟨rfl,L2.out.trans (lz.mono L2.out.size)⟩
   ·have hz':(E==0)=false:=by simpa using hz
    have T3:=T2.out;rw[U.out hz] at T3;have CS:=hI (d6a I w2 _ q S2 g v V M T3);clear T3 T2 U;go_wp2_with fail;refine CS.out.mono ?_;rintro e w4 ⟨rfl,l4⟩;have L4:=hI (L2.out.trans (l4.mono L2.out.size));clear l4 CS;go_wp2_with fail;refine(CW.out _ L4.out).mono ?_;rintro e wz ⟨rfl,lz⟩;go_wp2_with fail;go_ret;exact⟨rfl,L4.out.trans (lz.mono L4.out.size)⟩
  ·rw[h1] at c0;obtain⟨E,hEE⟩:∃E,E=x1a V.l a.num a.path a.over:=⟨_,rfl⟩;rw[<-hEE] at D3 U3;have D:=D3;have U:=U3;clear hEE D1 D2 D3 D4 D5 U1 U2 U3 U4 U5;go_wp2_with fail;refine D.out.mono ?_;rintro e w2 ⟨rfl,t2⟩;have l2:=T1.out.below1 t2;have L2:=hI (L1.out.trans (l2.mono HW0.out));obtain⟨S2,t3⟩:=T1.out.left t2;have T2:=hI t3;clear t2 t3 l2 D c0 c1 c2 c3 c4 c5 c6 c7 c8 c9;by_cases hz:E=0
   ·subst hz;go_wp2_with fail;refine(CW.out _ L2.out).mono ?_;rintro e wz ⟨rfl,lz⟩;go_wp2_with fail;go_ret;exact⟨rfl,L2.out.trans (lz.mono L2.out.size)⟩
   ·have hz':(E==0)=false:=by simpa using hz
    have T3:=T2.out;rw[U.out hz] at T3;have CS:=hI (d6a I w2 _ q S2 g v V M T3);clear T3 T2 U;go_wp2_with fail;refine CS.out.mono ?_;rintro e w4 ⟨rfl,l4⟩;have L4:=hI (L2.out.trans (l4.mono L2.out.size));clear l4 CS;go_wp2_with fail;refine(CW.out _ L4.out).mono ?_;rintro e wz ⟨rfl,lz⟩;go_wp2_with fail;go_ret;exact⟨rfl,L4.out.trans (lz.mono L4.out.size)⟩
  ·rw[h1] at c0;obtain⟨E,hEE⟩:∃E,E=A0b V a.num a.pos a.row.2.2.2:=⟨_,rfl⟩;rw[<-hEE] at D4 U4;have D:=D4;have U:=U4;clear hEE D1 D2 D3 D4 D5 U1 U2 U3 U4 U5;go_wp2_with fail;refine D.out.mono ?_;rintro e w2 ⟨rfl,t2⟩;have l2:=T1.out.below1 t2;have L2:=hI (L1.out.trans (l2.mono HW0.out));obtain⟨S2,t3⟩:=T1.out.left t2;have T2:=hI t3;clear t2 t3 l2 D c0 c1 c2 c3 c4 c5 c6 c7 c8 c9;by_cases hz:E=0
   ·subst hz;go_wp2_with fail;refine(CW.out _ L2.out).mono ?_;rintro e wz ⟨rfl,lz⟩;go_wp2_with fail;go_ret;exact⟨rfl,L2.out.trans (lz.mono L2.out.size)⟩
   ·have hz':(E==0)=false:=by simpa using hz
    have T3:=T2.out;rw[U.out hz] at T3;have CS:=hI (d6a I w2 _ q S2 g v V M T3);clear T3 T2 U;go_wp2_with fail;refine CS.out.mono ?_;rintro e w4 ⟨rfl,l4⟩;have L4:=hI (L2.out.trans (l4.mono L2.out.size));clear l4 CS;go_wp2_with fail;refine(CW.out _ L4.out).mono ?_;rintro e wz ⟨rfl,lz⟩;go_wp2_with fail;go_ret;exact⟨rfl,L4.out.trans (lz.mono L4.out.size)⟩
  ·rw[h1] at c0;obtain⟨E,hEE⟩:∃E,E=n6a V a.num a.pos:=⟨_,rfl⟩;rw[<-hEE] at D5 U5;have D:=D5;have U:=U5;clear hEE D1 D2 D3 D4 D5 U1 U2 U3 U4 U5;go_wp2_with fail;refine D.out.mono ?_;rintro e w2 ⟨rfl,t2⟩;have l2:=T1.out.below1 t2;have L2:=hI (L1.out.trans (l2.mono HW0.out));obtain⟨S2,t3⟩:=T1.out.left t2;have T2:=hI t3;clear t2 t3 l2 D c0 c1 c2 c3 c4 c5 c6 c7 c8 c9;by_cases hz:E=0
   ·subst hz;go_wp2_with fail;refine(CW.out _ L2.out).mono ?_;rintro e wz ⟨rfl,lz⟩;go_wp2_with fail;go_ret;exact⟨rfl,L2.out.trans (lz.mono L2.out.size)⟩
   ·have hz':(E==0)=false:=by simpa using hz
    have T3:=T2.out;rw[U.out hz] at T3;have CS:=hI (d6a I w2 _ q S2 g v V M T3);clear T3 T2 U;go_wp2_with fail;refine CS.out.mono ?_;rintro e w4 ⟨rfl,l4⟩;have L4:=hI (L2.out.trans (l4.mono L2.out.size));clear l4 CS;go_wp2_with fail;refine(CW.out _ L4.out).mono ?_;rintro e wz ⟨rfl,lz⟩;go_wp2_with fail;go_ret;exact⟨rfl,L4.out.trans (lz.mono L4.out.size)⟩
  ·clear D1 D2 D3 D4 D5 U1 U2 U3 U4 U5;go_wp2_with fail;refine(CW.out _ L1.out).mono ?_;rintro e wz ⟨rfl,lz⟩;go_wp2_with fail;go_ret;exact⟨rfl,L1.out.trans (lz.mono L1.out.size)⟩
 ·obtain⟨rfl,l1⟩:=h1 hE;have L1:=hI (l0.out.trans (l1.mono l0.out.size));clear h1 h2 l1 C1 k0 l0 K0 HCS;go_wp2_with fail;refine(CW.out _ L1.out).mono ?_;rintro e wz ⟨rfl,lz⟩;go_wp2_with fail;go_ret;exact⟨rfl,L1.out.trans (lz.mono L1.out.size)⟩
theorem walk_VolRefused(W:World)(hT:k5a W)(a0:Int)(w0:-9223372036854775808<=a0/\a0<=9223372036854775807)(A1:Option Addr)(n1 c1:Nat)(z1:List M2a)(h1:e4a W W.heap.size A1 n1 c1 z1)(r1:n1<=1048576)(a2:M2a)(h2:I6a W W.heap.size a2) :
  Calls Tryz.prog 7 #[.int .i64 a0,.slice A1 n1 c1,.agg (A2a a2).toArray] W λe w'=>e=.returned (.bool true)/\Below W.heap.size W w':=
 g2b j7a W (F2a.of hT) a0 w0 A1 n1 c1 z1 h1 r1 a2 h2
end Go.Proofs.YtdgpbhdihhchgaaGreatDoor
