import Derived.Test.YtdgpbhdihhchgaaGreatDoorSAI
import Derived.Test.YtdgpbhdihhchgaaGreatDoorSAP
import Derived.Test.YtdgpbhdihhchgaaGreatDoorS0
set_option linter.all false
set_option maxHeartbeats 8000000
set_option maxRecDepth 100000
namespace Go.Proofs.YtdgpbhdihhchgaaGreatDoor
open Go.RowKit Go.Lib
section
variable {L:List k0a} {V:X0a} {n m d k:Int} {x y:k0a} {s p:o0a} {ps qs ws rs us:List o0a} {tp un:o0a} {over:Bool}
theorem X1c(h:Vok V)(hr:D3a V.l n=0):A1a (U6a V n).l (i1a V.l n)=(0,7):=by
 obtain⟨⟨x,hx⟩,h1,he⟩:=P8a hr;obtain⟨hx1,hx2⟩:=y0a hx;obtain⟨ps,hw,h8⟩:=h.way x hx1;rw[hx2] at hw;obtain⟨p1,p2,p3,p4⟩:=V5a h hw h8;obtain⟨qs,rfl,hq⟩:=hw.cut hx h1;have hno:=d1b he;have hV:U6a V n=⟨V.quota,V.last,z1a V.l n⟩:=if_pos hr;have h':Vok ⟨V.quota,V.last,z1a V.l n⟩:=by rw[<-hV];exact h.rem n
 rw[hV,p1];show A1a (z1a V.l n) _=_
 have hpn:x.par≠n:=hno x hx1;have hq':Way (z1a V.l n) x.par qs:=Way.away h hx (λy hy _=>hno y hy) hq hpn;unfold A1a;rw[if_neg (by rw[p3];decide),p4,A7a _ qs [x.name] 1 x.par (h'.found hq' rfl)];have hk:z0a (z1a V.l n) x.par=1:=by have hk0:=h.up x hx1 (by rw[hx2];exact h1);obtain⟨z,hz⟩:=t2a (V:=V) (n:=x.par) (by rw[hk0];decide);obtain⟨z1,z2⟩:=y0a hz;have hz4:=n8a (V:=V) hz;rw[<-z2,h'.rise.kind ((h3a h.rise hx).2 ⟨z1,by rw[z2];exact hpn⟩),<-hz4,hk0]
 have hc:x0a (z1a V.l n) x.par x.name=0:=by
  by_cases hc:x0a (z1a V.l n) x.par x.name=0
  ·exact hc
  ·obtain⟨y,hy,e1,e2,_⟩:=J1a hc;obtain⟨y1,y2⟩:=(h3a h.rise hx).1 hy;exact absurd (by rw[h.apart y y1 x hx1 e1 e2,hx2]) y2
 unfold vGo;rw[if_neg (by rw[hk];decide),if_pos hc]
theorem Y1c(h:Vok V)(hr:D3a V.l n=0):N2a (U6a V n).l n=7:=by
 obtain⟨⟨x,hx⟩,h1,he⟩:=P8a hr;have hV:U6a V n=⟨V.quota,V.last,z1a V.l n⟩:=if_pos hr;rw[hV];show N2a (z1a V.l n) n=7
 unfold N2a;cases hq:vAt (z1a V.l n) n with
 | none=>rfl
 | some y=>obtain⟨y1,y2⟩:=y0a hq;exact absurd y2 ((h3a h.rise hx).1 y1).2
theorem Z1c(h:Vok V)(hr:D3a V.l n=0)(hm:I1a (U6a V n) p k=0):n<r2a (U6a V n) p k:=by
 obtain⟨⟨x,hx⟩,h1,he⟩:=P8a hr;obtain⟨hx1,hx2⟩:=y0a hx;have:=(h.num x hx1).2;have hl:(U6a V n).last=V.last:=by unfold U6a;split<;>rfl
 unfold r2a;rw[if_pos hm,hl];omega
end
set_option maxRecDepth 100000
open Go.RowKit
theorem T6b(I:e0b)(W:World)(htb:I.tb W.heap.size W)(k:Int)(hk:c2a k)(A:Option Addr)(n c:Nat)(l:List M2a)(hl:e4a W W.heap.size A n c l)(hn:n<=1048576)(x:Int)(hx:c2a x)(p:o0a)(hp:p.length<=1048576) :
  Calls Tryz.prog 8 #[.int .i64 k,.slice A n c,.int .i64 x,V0a p] W λe w'=>e=.returned (.bool true)/\Below W.heap.size W w':=by
 have C1:=hI (R3a I W k hk A n c l hl hn htb);have HTB:=hI htb;have CW:Hid (∀w1,Below W.heap.size W w1->_):=λw1 (h:Below W.heap.size W w1)=>U2a I w1 (I.tbUp (I.tbNext htb h) h.size)
 have HLV:=p4a (q:=k) (l:=l) (min n 40);have hm40:min n 40<=40:=Nat.min_le_right _ _;obtain⟨V,hV⟩:∃V,V=N4a k l (min n 40):=⟨_,rfl⟩;unfold C4a at C1;rw[<-hV] at C1 HLV;have ZN:Hid ((Tryz.prog.info? 34).map (λi=>(i.zero,i.size))=some (some (.agg ([.int .u8 0,.int .i64 0]:List Value).toArray),2)):=w2a;have SZ:Hid ((Tryz.prog.info? 34).map (·.size)=some 2):=J0a;clear hl htb hV;go_enter Tryz.func8,Tryz.ntmps8;go_wp2_with fail;refine C1.out.mono ?_;rintro e w1 ⟨h1,h2⟩;by_cases hE:O3a k=0
 ·obtain⟨q,g,S,v,M,rfl,t1,l1⟩:=h2 hE;have L1:=hI l1;have T1:=hI t1;have hok:=(I.ok t1.x).1;have CP:=hI (I.path t1.x t1.tb t1.hb hx);have CR:Hid (∀w2,Below w1.heap.size w1 w2->_):=λw2 (h:Below w1.heap.size w1 w2)=>I.remove (t1.below h).x (t1.below h).tb (t1.below h).hb hx
  obtain⟨R,hR⟩:∃R,R=D3a V.l x:=⟨_,rfl⟩;obtain⟨P,hP⟩:∃P,P=i1a V.l x:=⟨_,rfl⟩;have HPL:Hid (P.length<=1048576):=by rw[hP];exact M7a hok x
  rw[<-hP] at CP;rw[<-hR] at CR;have HR:=hI hR;have HP:=hI hP;have HOK:=hI hok;have HX:=hI hx;have HS:=hI hp;clear h1 h2 t1 l1 C1 hok hx hp hR hP;go_wp2_with fail;refine CP.out.mono ?_;rintro e w2 ⟨rfl,l2⟩;have L2:=hI l2;clear l2 CP;go_wp2_with fail;refine(CR.out _ L2.out).mono ?_;rintro e w3 ⟨rfl,t3⟩;have T2:=hI (T1.out.below L2.out);have l3:=T2.out.below1 t3;have L3:=hI ((L1.out.trans (L2.out.mono L1.out.size)).trans l3);obtain⟨S3,t4⟩:=T2.out.left t3;have T3:=hI t4;clear t3 t4 l3 CR;by_cases hz:R=0
  ·have hr:D3a V.l x=0:=by rw[<-HR.out,hz]
   subst hz;have f1:=X1c HOK.out hr;have f2:=Y1c HOK.out hr;have f3:∀s j,I1a (U6a V x) s j=0->x<r2a (U6a V x) s j:=λs j=>Z1c HOK.out hr
   rw[<-HP.out] at f1;have hlast:(U6a V x).last=V.last:=by unfold U6a;split<;>rfl
   obtain⟨V2,hV2⟩:∃V2,V2=U6a V x:=⟨_,rfl⟩;rw[<-hV2] at T3 f1 f2 f3 hlast;have CF:=hI (I.find T3.out.x T3.out.tb T3.out.hb HPL.out);rw[f1] at CF;have CS:Hid (∀w4,Below w3.heap.size w3 w4->_):=λw4 (h:Below w3.heap.size w3 w4)=>I.stat (T3.out.below h).x HX.out
   rw[f2] at CS;have hlt:V2.last<1048576:=by rw[hlast];omega
   have CM:Hid (∀w4,Below w3.heap.size w3 w4->_):=λw4 (h:Below w3.heap.size w3 w4)=>I.make (T3.out.below h).x (T3.out.below h).tb (T3.out.below h).hb hlt (s:=p) (k:=2) HS.out
   have F3:=hI (f3 p 2);obtain⟨K,hK⟩:∃y,y=z0a V2.l x:=⟨_,rfl⟩;obtain⟨Z,hZ⟩:∃y:Int,y=(I4a V2.l x:Nat):=⟨_,rfl⟩;obtain⟨mn,hmn⟩:∃y,y=r2a V2 p 2:=⟨_,rfl⟩;obtain⟨me,hme⟩:∃y,y=I1a V2 p 2:=⟨_,rfl⟩;rw[<-hK,<-hZ] at CS;rw[<-hmn,<-hme] at CM F3;clear f1 f2 f3 hlast hlt hr hV2 hK hZ hmn hme HR HP HOK;go_wp2_with fail;refine CF.out.mono ?_;rintro e w4 ⟨rfl,l4⟩;have L4:=hI l4;clear l4 CF;go_wp2_with fail;refine(CS.out _ L4.out).mono ?_;rintro e w5 ⟨rfl,l5⟩;have L5:=hI (L4.out.trans (l5.mono L4.out.size));clear l5 CS L4;go_wp2_with(first
    | ((with_reducible refine sN 16 ?_);refine i0a rfl _ rfl [.int .u8 0,.int .i64 0] 2 ZN ?_;intro b16 v16 hb16 hbb16 X16 M16)
    | ((with_reducible refine sT 16 ?_);go_loud (refine l0a rfl _ (.tmp 16) (.tmp 48) rfl b16 rfl _ _ [.int .u8 K,.int .i64 Z] rfl X16 2 SZ.out rfl rfl (by intro u hu;simp only[List.mem_cons,List.not_mem_nil,or_false] at hu;rcases hu with rfl | rfl<;>rfl) ?_);intro y16 Y16 O16 hg16;have lb16:=r0a M16.out O16.out hb16)
    | fail)
   have L6:=hI (L5.out.trans (lb16.mono L5.out.size));have T6:=hI (T3.out.below L6.out);refine(CM.out _ L6.out).mono ?_;rintro e w7 ⟨rfl,t7⟩;have l7:=T6.out.below1 t7;have L7:=hI ((L3.out.trans (L6.out.mono L3.out.size)).trans (l7.mono (Nat.le_refl _)));clear X16 M16 O16 Y16 lb16 t7 l7 CM;by_cases hg:me=0
   ·have hgt:x<mn:=F3.out hg;subst hg;go_wp2_with fail;refine(CW.out _ L7.out).mono ?_;rintro e wz ⟨rfl,lz⟩;go_wp2_with fail;go_ret;exact⟨rfl,L7.out.trans (lz.mono L7.out.size)⟩
   ·have hg':(me != 0)=true:=by simpa using hg
    go_wp2_with fail;refine(CW.out _ L7.out).mono ?_;rintro e wz ⟨rfl,lz⟩;go_wp2_with fail;go_ret;exact⟨rfl,L7.out.trans (lz.mono L7.out.size)⟩
  ·have hz':(R != 0)=true:=by simpa using hz
   clear HR HP HOK;go_wp2_with fail;refine(CW.out _ L3.out).mono ?_;rintro e wz ⟨rfl,lz⟩;go_wp2_with fail;go_ret;exact⟨rfl,L3.out.trans (lz.mono L3.out.size)⟩
 ·obtain⟨rfl,l1⟩:=h1 hE;have L1:=hI l1;have h0:NoV w1 (.pointer none):=.inl rfl;have CP:=hI (o9a w1 _ h0 x);have CR:Hid (∀w2,Below w1.heap.size w1 w2->_):=λw2 (h:Below w1.heap.size w1 w2)=>Y9a w2 _ (h0.below h) x
  clear h1 h2 l1 C1 hx hp h0;go_wp2_with fail;refine CP.out.mono ?_;rintro e w2 ⟨rfl,l2⟩;have L2:=hI l2;clear l2 CP;go_wp2_with fail;refine(CR.out _ L2.out).mono ?_;rintro e w3 ⟨rfl,l3⟩;have L3:=hI (L1.out.trans ((L2.out.trans (l3.mono L2.out.size)).mono L1.out.size));clear l3 CR L2;go_wp2_with fail;refine(CW.out _ L3.out).mono ?_;rintro e wz ⟨rfl,lz⟩;go_wp2_with fail;go_ret;exact⟨rfl,L3.out.trans (lz.mono L3.out.size)⟩
theorem walk_VolGoes(W:World)(hT:k5a W)(a0:Int)(w0:-9223372036854775808<=a0/\a0<=9223372036854775807)(A1:Option Addr)(n1 c1:Nat)(z1:List M2a)(h1:e4a W W.heap.size A1 n1 c1 z1)(r1:n1<=1048576)(a2:Int)(w2:-9223372036854775808<=a2/\a2<=9223372036854775807)(a3:ByteArray)(r3:a3.size<=1048576) :
  Calls Tryz.prog 8 #[.int .i64 a0,.slice A1 n1 c1,.int .i64 a2,.string a3] W λe w'=>e=.returned (.bool true)/\Below W.heap.size W w':=
 T6b j7a W (F2a.of hT) a0 w0 A1 n1 c1 z1 h1 r1 a2 w2 a3.data.toList (by rw[Array.length_toList];exact r3)
end Go.Proofs.YtdgpbhdihhchgaaGreatDoor
