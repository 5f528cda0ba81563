import Derived.Test.YtdgpbhdihhchgaaGreatDoorSAG
import Derived.Test.YtdgpbhdihhchgaaGreatDoorS0
set_option linter.all false
set_option maxHeartbeats 8000000
set_option maxRecDepth 100000
namespace Go.Proofs.YtdgpbhdihhchgaaGreatDoor
set_option maxRecDepth 100000
open Go.RowKit
theorem u8a(w:World)(base g:Nat)(v:Value)(V:X0a)(M:List VP)(d:T2a w base g v V M)(s:o0a)(hs:s.length<=1048576) :
  Calls Tryz.prog 14 #[.pointer (some ⟨g,0,none⟩),V0a s] w λe w'=>e=.returned (.tuple #[.int .i64 (A1a V.l s).1,.int .i64 (A1a V.l s).2])/\Below w.heap.size w w':=by
 have c1:=T4a ⟨s.toArray⟩ w (by rw[W1a];omega);unfold e2a at c1;rw[show(⟨s.toArray⟩:ByteArray).data.toList=s from rfl] at c1;obtain⟨S,hS⟩:∃S:ByteArray,S=⟨s.toArray⟩:=⟨_,rfl⟩;have hS1:V0a s=.string S:=by rw[hS];rfl
 rw[hS1];rw[<-hS] at c1;clear hS hS1;obtain⟨r,hr⟩:∃r,r=A1a V.l s:=⟨_,rfl⟩;obtain⟨r1,r2⟩:=r;rw[<-hr];have D:=hI d;clear d;by_cases he:h0a s=0
 ·rw[D0b he] at hr;rw[he] at c1;have hn:=B2a (l:=s);have h8:=t3a s;obtain⟨L,hL⟩:∃L,L=m0a s:=⟨_,rfl⟩;rw[<-hL] at hr c1 hn h8;have HR:=hI hr;have HN:=hI hn;have C1:=hI c1;clear hr hn c1 hL he;go_enter Tryz.func14,Tryz.ntmps14;go_wp2_with fail;refine C1.out.mono ?_;rintro e w1 ⟨v1,rfl,o1,l1⟩;obtain⟨A1,k1,c1,rfl,hh⟩:=o1.holds;have hlen:=hh.len;have hfit:=hh.fit;have L1:=hI l1;have HH:=hI hh;have hk8:k1<=8:=by omega
  have HLEN:=hI hlen;clear l1 hh o1 C1 hlen h8;go_wp2_with fail;go_loopw [8,9] (λN I wr=>∃(m:Int) (i:Nat),N=.int .i64 m/\I=.int .i64 (i:Nat)/\i<=k1/\Hid (vGo V.l m (L.drop i)=(r1,r2))/\Hid (Below w1.heap.size w1 wr)) (λ_ I _=>k1-(intOf I).toNat)
  case atStart=>exact⟨1,0,rfl,rfl,Nat.zero_le _,by rw[List.drop_zero];exact HR.out.symm,Below.refl _ _⟩
  case round=>
   obtain⟨m,i,rfl,rfl,hi,HG,LR⟩:=hrel;by_cases hlt:i<k1
   ·have hil:i<L.length:=by have:=HLEN.out;omega
    obtain⟨x,hx⟩:∃x,x=L[i]:=⟨_,rfl⟩;have hxg:x.length<=1048576:=by have:=S0a (HN.out x (by rw[hx];exact List.getElem_mem hil));omega
    have e1:L.drop i=x::L.drop (i+1):=by rw[hx];exact List.drop_eq_getElem_cons hil
    have e2:L[i]? = some x:=by rw[hx];exact List.getElem?_eq_getElem hil
    rw[e1] at HG;have E2:=hI e2;clear hx e1 e2;obtain⟨K,hK⟩:∃K,K=z0a V.l m:=⟨_,rfl⟩;have CK:=hI (y6a wr base g v V M (D.out.below (step L1.out LR.out)) m);rw[<-hK] at CK;by_cases hk:K=1
    ·subst hk;obtain⟨C,hC⟩:∃C,C=x0a V.l m x:=⟨_,rfl⟩;have CC:Hid (∀w2,Below w1.heap.size w1 w2->Calls Tryz.prog 45 #[.pointer (some ⟨g,0,none⟩),.int .i64 m,V0a x] w2 λe w'=>e=.returned (.int .i64 C)/\Below w2.heap.size w2 w'):=λw2 hb=>by have:=Q9a w2 base g v V M (D.out.below (step L1.out hb)) m x hxg;rw[<-hC] at this;exact this
     have HK:=hI hK;have HC:=hI hC;clear hK hC;go_wp2_with fail;refine CK.out.mono ?_;rintro e w2 ⟨rfl,l2⟩;have L2:=hI (step LR.out l2);obtain⟨b,off,rfl,hb,hc⟩:=(HH.out.below L2.out).cells (by omega);have gc:=hc i x E2.out;have CC2:=hI (CC.out w2 L2.out);clear l2 CK hc CC;unfold V0a at gc CC2;obtain⟨X,hX⟩:∃X:ByteArray,X=⟨x.toArray⟩:=⟨_,rfl⟩;rw[<-hX] at gc CC2;clear hX;go_wp2_with fail;refine CC2.out.mono ?_;rintro e w3 ⟨rfl,l3⟩;have L3:=hI (step L2.out l3);clear l3 CC2 gc;by_cases hc0:C=0
     ·subst hc0;have e3:Hid ((0:Int)=r1/\(7:Int)=r2):=by have:=HG.out;rw[A3b HK.out.symm HC.out.symm] at this;exact Prod.mk.injEq .. ▸ this
      obtain⟨rfl,rfl⟩:=e3.out;go_wp2_with fail;go_ret2;exact⟨rfl,step L1.out L3.out⟩
     ·have t:(C==0)=false:=by simpa using hc0
      have HG2:Hid (vGo V.l C (L.drop (i+1))=(r1,r2)):=by have:=HG.out;rw[V9b HK.out.symm (by rw[<-HC.out];exact hc0),<-HC.out] at this;exact this
      clear hc0 HG;go_wp2_with fail;go_roundw
      case rel=>exact⟨C,i+1,rfl,by go_num,by omega,HG2,L3⟩
      case measure=>simp[intOf];omega
    ·have t:(K != 1)=true:=by simpa using hk
     have e3:Hid ((0:Int)=r1/\(9:Int)=r2):=by have:=HG.out;rw[z3b (by rw[<-hK];exact hk)] at this;exact Prod.mk.injEq .. ▸ this
     obtain⟨rfl,rfl⟩:=e3.out;clear hk hK;go_wp2_with fail;refine CK.out.mono ?_;rintro e w2 ⟨rfl,l2⟩;have L2:=hI (step LR.out l2);clear l2 CK;go_wp2_with fail;go_ret2;exact⟨rfl,step L1.out L2.out⟩
   ·obtain rfl:i=k1:=by omega
    have e3:Hid (m=r1/\(0:Int)=r2):=by have:=HG.out;rw[List.drop_of_length_le (by have:=HLEN.out;omega)] at this;exact Prod.mk.injEq .. ▸ this
    obtain⟨rfl,rfl⟩:=e3.out;go_wp2_with fail;go_ret2;exact⟨rfl,step L1.out LR.out⟩
 ·rw[S8a he] at hr;obtain⟨E,hE⟩:∃E,E=h0a s:=⟨_,rfl⟩;rw[<-hE] at c1 hr he;obtain⟨rfl,rfl⟩:r1=0/\r2=E:=Prod.mk.injEq .. ▸ hr;have t:(r2 != 0)=true:=by simpa using he
  have C1:=hI c1;clear hr c1 hE he;go_enter Tryz.func14,Tryz.ntmps14;go_wp2_with fail;refine C1.out.mono ?_;rintro e w1 ⟨v1,rfl,o1,l1⟩;have L1:=hI l1;clear l1 o1 C1;go_wp2_with fail;go_ret2;exact⟨rfl,L1.out⟩
theorem h5b{L:List k0a}{i:Nat}{n:Int}(hi:i<L.length)(h:L[i].par=n):s4a L n=false:=by unfold s4a;rw[List.all_eq_false];exact⟨_,List.getElem_mem hi,by simpa using h⟩
theorem D6b{L:List k0a}{n:Int}(h:∀j (hj:j<L.length),L[j].par≠n):s4a L n=true:=by unfold s4a;rw[List.all_eq_true];intro x hx;obtain⟨j,hj,rfl⟩:=List.mem_iff_getElem.1 hx;simpa using h j hj
theorem O8b(w:World)(base g:Nat)(v:Value)(V:X0a)(M:List VP)(d:T2a w base g v V M)(m:Int) :
  Calls Tryz.prog 129 #[.pointer (some ⟨g,0,none⟩),.int .i64 m] w λe w'=>e=.returned (.bool (s4a V.l m))/\Below w.heap.size w w':=by
 obtain⟨A,c,rfl⟩:=d.len;have k0:w.cell? ⟨g,2,none⟩=some (.slice A V.l.length c):=d.blk.cell 2;have hsm:=d.ok.many;have D:=hI d;obtain⟨n,hn⟩:∃n,n=V.l.length:=⟨_,rfl⟩;rw[<-hn] at k0 hsm;have HN:=hI hn;clear d hn;go_enter Tryz.func129,Tryz.ntmps129;go_wp2_with fail;go_loopw [5] (λI wr=>∃i:Nat,i<=n/\I=.int .i64 (i:Nat)/\Hid (∀j (hj:j<V.l.length),j<i->V.l[j].par≠m)/\Hid (Below w.heap.size w wr)) (λI _=>n-(intOf I).toNat)
 case atStart=>exact⟨0,Nat.zero_le _,rfl,(λj _ h=>absurd h (Nat.not_lt_zero _)),Below.refl _ _⟩
 case round=>
  obtain⟨i,hi,rfl,NO,LR⟩:=hrel;have k0':wr.cell? ⟨g,2,none⟩=some (.slice A n c):=(LR.out.cell (d0a k0)).trans k0;by_cases hlt:i<n
  ·have hil:i<V.l.length:=by have:=HN.out;omega
   obtain⟨q,c',e,hnc,hcm,_,_,k1,_⟩:=(D.out.below LR.out).at hil;injection e with e1 e2 e3
   subst e1 e3;obtain⟨x,hx⟩:∃x,x=V.l[i].par:=⟨_,rfl⟩;rw[<-hx] at k1;have HX:=hI hx;clear hx e2;by_cases he:x=m
   ·have HR:Hid (s4a V.l m=false):=h5b hil (HX.out.symm.trans he);have t:(x==m)=true:=by rw[he];exact beq_self_eq_true _
    go_wp2_with fail;go_ret;exact⟨by rw[HR.out];rfl,LR.out⟩
   ·have t:(x==m)=false:=by simpa using he
    have HE:=hI he;clear he;go_wp2_with fail;go_roundw
    case rel=>exact⟨i+1,by omega,by go_num,(λj hj hji=>by
     rcases Nat.lt_or_ge j i with h | h
     ·exact NO.out j hj h
     ·obtain rfl:j=i:=by omega
      rw[<-HX.out];exact HE.out),LR.out⟩
    case measure=>simp[intOf];omega
  ·obtain rfl:i=n:=by omega
   have HR:Hid (s4a V.l m=true):=D6b λj hj=>NO.out j hj (by have:=HN.out;omega)
   go_wp2_with fail;go_ret;exact⟨by rw[HR.out];rfl,LR.out⟩
theorem X2b(w:World)(base g:Nat)(v:Value)(V:X0a)(M:List VP)(d:T2a w base g v V M)(m:Int) :
  Calls Tryz.prog 128 #[.pointer (some ⟨g,0,none⟩),.int .i64 m] w λe w'=>e=.returned (.int .i64 (q1a V.l m))/\Below w.heap.size w w':=by
 have CP:=hI (R7a w base g _ V M d m);have hsm:=d.ok.many;clear d;obtain⟨E,hE⟩:∃E,E=q1a V.l m:=⟨_,rfl⟩;rw[<-hE];unfold q1a at hE;rcases Q7a (L:=V.l) (n:=m) with⟨p1,p2⟩ | ⟨hi,p1,p2⟩
 ·rw[p2] at hE;obtain rfl:E=7:=hE;rw[p1] at CP;go_enter Tryz.func128,Tryz.ntmps128;go_wp2_with fail;refine CP.out.mono ?_;rintro e w1 ⟨rfl,l1⟩;have L1:=hI l1;clear l1 CP;go_wp2_with fail;go_ret;exact⟨rfl,L1.out⟩
 ·rw[p2] at hE;obtain⟨i,hii⟩:∃i,i=vIx V.l m:=⟨_,rfl⟩;rw[p1,<-hii] at CP;have hE':E=if m=1 then 2 else 0:=hE
  clear hii hi p1 p2 hE;by_cases hm:m=1
  ·rw[if_pos hm] at hE';subst hE' hm;go_enter Tryz.func128,Tryz.ntmps128;go_wp2_with fail;refine CP.out.mono ?_;rintro e w1 ⟨rfl,l1⟩;have L1:=hI l1;clear l1 CP;go_wp2_with fail;go_ret;exact⟨rfl,L1.out⟩
  ·rw[if_neg hm] at hE';subst hE';have t:(m==1)=false:=by simpa using hm
   go_enter Tryz.func128,Tryz.ntmps128;go_wp2_with fail;refine CP.out.mono ?_;rintro e w1 ⟨rfl,l1⟩;have L1:=hI l1;clear l1 CP;go_wp2_with fail;go_ret;exact⟨rfl,L1.out⟩
theorem Y2b(w:World)(base g:Nat)(v:Value)(V:X0a)(M:List VP)(d:T2a w base g v V M)(s:o0a)(hs:s.length<=1048576) :
  Calls Tryz.prog 127 #[.pointer (some ⟨g,0,none⟩),V0a s] w λe w'=>e=.returned (.tuple #[.int .i64 (P0a V.l s),V0a (Q0a V.l s),.int .i64 (l3a V.l s)])/\Below w.heap.size w w':=by
 have c1:=B6b ⟨s.toArray⟩ w (by rw[W1a];omega);unfold A3a at c1;rw[show(⟨s.toArray⟩:ByteArray).data.toList=s from rfl] at c1;have hdl:=(U5b s).1;obtain⟨q,hq⟩:∃q,q=n2a s:=⟨_,rfl⟩;obtain⟨z,hz⟩:∃z,z=lastOf s:=⟨_,rfl⟩;obtain⟨pe,hpe⟩:∃pe,pe=F0a s:=⟨_,rfl⟩;have c2:∀w1,Below w.heap.size w w1->_:=λw1 hb=>u8a w1 base g v V M (d.below hb) q (by rw[hq];omega)
 have c3:∀w1,Below w.heap.size w w1->_:=λw1 hb=>y6a w1 base g v V M (d.below hb) (A1a V.l q).1
 obtain⟨fe,hfe⟩:∃fe,fe=(A1a V.l q).2:=⟨_,rfl⟩;obtain⟨fn,hfn⟩:∃fn,fn=(A1a V.l q).1:=⟨_,rfl⟩;obtain⟨K,hK⟩:∃K,K=z0a V.l fn:=⟨_,rfl⟩;have hE:l3a V.l s=if fe≠0 then fe else if K≠1 then 9 else 0:=by unfold l3a;rw[<-hq,<-hfe,<-hfn,<-hK]
 have hNn:P0a V.l s=if l3a V.l s=0 then fn else 0:=by unfold P0a;rw[<-hq,<-hfn]
 have hNs:Q0a V.l s=if l3a V.l s=0 then z else []:=by unfold Q0a;rw[<-hz]
 rw[hNn,hNs,hE];rw[<-hq,<-hz,<-hpe] at c1;rw[<-hfn] at c3;rw[<-hK] at c3;rw[<-hfe,<-hfn] at c2;obtain⟨Q,hQ⟩:∃Q:ByteArray,Q=⟨q.toArray⟩:=⟨_,rfl⟩;obtain⟨Z,hZ⟩:∃Z:ByteArray,Z=⟨z.toArray⟩:=⟨_,rfl⟩;obtain⟨S,hS⟩:∃S:ByteArray,S=⟨s.toArray⟩:=⟨_,rfl⟩;have hS1:V0a s=.string S:=by rw[hS];rfl
 have hZ1:V0a z=.string Z:=by rw[hZ];rfl
 have hQ1:V0a q=.string Q:=by rw[hQ];rfl
 rw[<-hQ,<-hZ,<-hS] at c1;rw[hQ1] at c2;rw[hS1];have C1:=hI c1;have C2:=hI c2;have C3:=hI c3;have HZ1:=hI hZ1;clear c1 c2 c3 hE hNn hNs hq hz hpe hfe hfn hK hQ hZ hS hS1 hQ1 hZ1 hdl d;by_cases h1:fe=0
 ·subst h1;by_cases h2:K=1
  ·subst h2;rw[show(if (0:Int)≠0 then (0:Int) else if (1:Int)≠1 then 9 else 0)=0 from rfl,if_pos rfl,if_pos rfl,HZ1.out];go_enter Tryz.func127,Tryz.ntmps127;go_wp2_with fail;refine C1.out.mono ?_;rintro e w1 ⟨rfl,l1⟩;have L1:=hI l1;have D2:=hI (C2.out w1 l1);clear l1 C1;go_wp2_with fail;refine D2.out.mono ?_;rintro e w2 ⟨rfl,l2⟩;have L2:=hI (step L1.out l2);have D3:=hI (C3.out w2 L2.out);clear l2 C2 D2;go_wp2_with fail;refine D3.out.mono ?_;rintro e w3 ⟨rfl,l3⟩;have L3:=hI (step L2.out l3);clear l3 C3 D3;go_wp2_with fail;go_ret3;exact⟨rfl,L3.out⟩
  ·have t:(K != 1)=true:=by simpa using h2
   rw[show(if (0:Int)≠0 then (0:Int) else if K≠1 then 9 else 0)=9 from by rw[if_neg (by decide),if_pos h2],if_neg (by decide),if_neg (by decide)];clear h2;go_enter Tryz.func127,Tryz.ntmps127;go_wp2_with fail;refine C1.out.mono ?_;rintro e w1 ⟨rfl,l1⟩;have L1:=hI l1;have D2:=hI (C2.out w1 l1);clear l1 C1;go_wp2_with fail;refine D2.out.mono ?_;rintro e w2 ⟨rfl,l2⟩;have L2:=hI (step L1.out l2);have D3:=hI (C3.out w2 L2.out);clear l2 C2 D2;go_wp2_with fail;refine D3.out.mono ?_;rintro e w3 ⟨rfl,l3⟩;have L3:=hI (step L2.out l3);clear l3 C3 D3;go_wp2_with fail;go_ret3;exact⟨rfl,L3.out⟩
 ·have t:(fe != 0)=true:=by simpa using h1
  rw[show(if fe≠0 then fe else if K≠1 then 9 else 0)=fe from if_pos h1,if_neg h1,if_neg h1];clear h1 C3;go_enter Tryz.func127,Tryz.ntmps127;go_wp2_with fail;refine C1.out.mono ?_;rintro e w1 ⟨rfl,l1⟩;have L1:=hI l1;have D2:=hI (C2.out w1 l1);clear l1 C1;go_wp2_with fail;refine D2.out.mono ?_;rintro e w2 ⟨rfl,l2⟩;have L2:=hI (step L1.out l2);clear l2 C2 D2;go_wp2_with fail;go_ret3;exact⟨rfl,L2.out⟩
section
variable {w w':World} {base base' g i:Nat} {v:Value} {V:X0a} {M:List VP} {S:Nat->Prop} {n:Int}
def f2b(L:List k0a)(M:List VP)(n:Int):Value:=if r1a L n=0 then T5b ((M[vIx L n]?).bind (·.2)) else .pointer none
theorem T2a.dat(h:T2a w base g v V M)(he:r1a V.l n=0):∃(b:Nat) (vB vZ:Value) (hm:vIx V.l n<M.length),M[vIx V.l n].2=some (b,vB,vZ)/\D6a w base b vB vZ (H0a V.l n) (b1b V.l n)/\f2b V.l M n=.pointer (some ⟨b,0,none⟩):=by
 obtain⟨x,hx,hk,e1,e2⟩:=p6a he;obtain⟨hi,hx'⟩:=List.getElem?_eq_some_iff.1 hx;obtain⟨hm,b,vB,vZ,e,d⟩:=h.file hi (by rw[hx'];exact hk);refine⟨b,vB,vZ,hm,e,by rw[e1,e2,<-hx'];exact d,?_⟩;unfold f2b;rw[if_pos he,List.getElem?_eq_getElem hm];show T5b (M[vIx V.l n].2)=_
 rw[e];rfl
end
theorem G1b(w:World)(base g:Nat)(v:Value)(V:X0a)(M:List VP)(d:T2a w base g v V M)(m:Int) :
  Calls Tryz.prog 132 #[.pointer (some ⟨g,0,none⟩),.int .i64 m] w λe w'=>e=.returned (.tuple #[f2b V.l M m,.int .i64 (r1a V.l m)])/\Below w.heap.size w w':=by
 obtain⟨A,c,rfl⟩:=d.len;have k0:w.cell? ⟨g,2,none⟩=some (.slice A V.l.length c):=d.blk.cell 2;have hsm:=d.ok.many;have CP:=hI (R7a w base g _ V M d m);have D:=hI d;obtain⟨n,hn⟩:∃n,n=V.l.length:=⟨_,rfl⟩;rw[<-hn] at k0 hsm;have HN:=hI hn;clear d hn;rcases Q7a (L:=V.l) (n:=m) with⟨p1,p2⟩ | ⟨hi,p1,p2⟩
 ·have hE:r1a V.l m=7:=by unfold r1a;rw[p2];rfl
  have hP:f2b V.l M m=.pointer none:=by unfold f2b;rw[hE];rfl
  rw[p1] at CP;rw[hE,hP];go_enter Tryz.func132,Tryz.ntmps132;go_wp2_with fail;refine CP.out.mono ?_;rintro e w1 ⟨rfl,l1⟩;have L1:=hI l1;clear l1 CP;go_wp2_with fail;go_ret2;exact⟨rfl,L1.out⟩
 ·have hk:z0a V.l m=(V.l[vIx V.l m]'hi).kind:=by unfold z0a;rw[p2]
  have hE:r1a V.l m=if (V.l[vIx V.l m]'hi).kind≠2 then 9 else 0:=by unfold r1a;rw[p2,hk];rfl
  obtain⟨q,c',e,hnc,hcm,_,k1,_,_,hm,k4⟩:=D.out.at hi;injection e with e1 e2 e3
  subst e1 e3;have hP:f2b V.l M m=if r1a V.l m=0 then T5b M[vIx V.l m].2 else .pointer none:=by unfold f2b;rw[List.getElem?_eq_getElem hm];rfl
  obtain⟨x,hx⟩:∃x,x=(V.l[vIx V.l m]'hi).kind:=⟨_,rfl⟩;obtain⟨y,hy⟩:∃y,y=T5b M[vIx V.l m].2:=⟨_,rfl⟩;rw[<-hx] at k1 hE;rw[<-hy] at k4 hP;rw[p1] at CP;obtain⟨i,hii⟩:∃i,i=vIx V.l m:=⟨_,rfl⟩;rw[<-hii] at CP hi k1 k4;have hin:i<n:=by have:=HN.out;omega
  clear hx hy hii hi p1 p2 hk e2;by_cases h2:x=2
  ·rw[if_neg (λh=>h h2)] at hE;rw[hP,hE,if_pos rfl];subst h2;clear hE hP;go_enter Tryz.func132,Tryz.ntmps132;go_wp2_with fail;refine CP.out.mono ?_;rintro e w1 ⟨rfl,l1⟩;have L1:=hI l1;have j0:w1.cell? ⟨g,2,none⟩=some (.slice (some ⟨q,0,none⟩) n c):=(l1.cell (d0a k0)).trans k0;have j1:w1.cell? ⟨q,i*5+1,none⟩=some (.int .u8 2):=(l1.cell (d0a k1)).trans k1;have j4:w1.cell? ⟨q,i*5+4,none⟩=some y:=(l1.cell (d0a k4)).trans k4;clear l1 CP;go_wp2_with fail;go_ret2;exact⟨rfl,L1.out⟩
  ·rw[if_pos h2] at hE;rw[hP,hE,if_neg (by decide)];have t:(x != 2)=true:=by simpa using h2
   clear hE hP h2;go_enter Tryz.func132,Tryz.ntmps132;go_wp2_with fail;refine CP.out.mono ?_;rintro e w1 ⟨rfl,l1⟩;have L1:=hI l1;have j0:w1.cell? ⟨g,2,none⟩=some (.slice (some ⟨q,0,none⟩) n c):=(l1.cell (d0a k0)).trans k0;have j1:w1.cell? ⟨q,i*5+1,none⟩=some (.int .u8 x):=(l1.cell (d0a k1)).trans k1;clear l1 CP;go_wp2_with fail;go_ret2;exact⟨rfl,L1.out⟩
theorem i5b{L:List k0a}{i:Nat}(hi:i<L.length):T0a (L.take (i+1))=T0a (L.take i)+L[i].B.length:=by rw[List.take_succ_eq_append_getElem hi,w4a];unfold T0a;simp
theorem w1c{L:List k0a}(i:Nat):T0a (L.take i)<=T0a L:=by have:=w4a (L.take i) (L.drop i);rw[List.take_append_drop] at this;omega
theorem x1c(w:World)(base g:Nat)(v:Value)(V:X0a)(M:List VP)(d:T2a w base g v V M) :
  Calls Tryz.prog 81 #[.pointer (some ⟨g,0,none⟩)] w λe w'=>e=.returned (.int .i64 (T0a V.l:Nat))/\Below w.heap.size w w':=by
 obtain⟨A,c,rfl⟩:=d.len;have k0:w.cell? ⟨g,2,none⟩=some (.slice A V.l.length c):=d.blk.cell 2;have hsm:=d.ok.many;have hus:T0a V.l<=1048576:=by have h1:=d.ok.used;have h2:=d.ok.q1;omega
 have hle:=λi=>Nat.le_trans (w1c (L:=V.l) i) hus
 have D:=hI d;obtain⟨n,hn⟩:∃n,n=V.l.length:=⟨_,rfl⟩;rw[<-hn] at k0 hsm;have HN:=hI hn;have HLE:=hI hle;clear d hn hle hus;go_enter Tryz.func81,Tryz.ntmps81;go_wp2_with fail;go_loopw [3,4] (λU I wr=>∃i:Nat,i<=n/\I=.int .i64 (i:Nat)/\U=.int .i64 (T0a (V.l.take i):Nat)/\Hid (Below w.heap.size w wr)) (λ_ I _=>n-(intOf I).toNat)
 case atStart=>exact⟨0,Nat.zero_le _,rfl,rfl,Below.refl _ _⟩
 case round=>
  obtain⟨i,hi,rfl,rfl,LR⟩:=hrel;have k0':wr.cell? ⟨g,2,none⟩=some (.slice A n c):=(LR.out.cell (d0a k0)).trans k0;by_cases hlt:i<n
  ·have hil:i<V.l.length:=by have:=HN.out;omega
   obtain⟨q,c',e,hnc,hcm,_,k1,_,_,hm0,k4⟩:=(D.out.below LR.out).at hil;injection e with e1 e2 e3
   subst e1 e3;have hu:=i5b hil;have h1:=HLE.out i;have h2:=HLE.out (i+1);obtain⟨x,hx⟩:∃x,x=V.l[i].kind:=⟨_,rfl⟩;obtain⟨u,hu'⟩:∃u,u=T0a (V.l.take i):=⟨_,rfl⟩;obtain⟨u2,hu2⟩:∃u,u=T0a (V.l.take (i+1)):=⟨_,rfl⟩;rw[<-hx] at k1;rw[<-hu'] at h1 hu⊢;rw[<-hu2] at h2 hu;have HU2:=hI hu2;rcases D.out.ok.kind _ (List.getElem_mem hil) with hk | hk
   ·have hz:=(D.out.ok.dirB _ (List.getElem_mem hil) hk).1;rw[hz] at hu;obtain rfl:x=1:=hx.trans hk;obtain rfl:u2=u:=hu;clear hx hu' hu2 e2 hk hz k4;go_wp2_with fail;go_roundw
    case rel=>exact⟨i+1,by omega,by go_num,by rw[<-HU2.out],LR⟩
    case measure=>simp[intOf];omega
   ·obtain⟨hm,b,vB,vZ,e,dd⟩:=(D.out.below LR.out).file hil hk;obtain⟨AB,cB,rfl,hh⟩:=dd.holds;have k5:wr.cell? ⟨b,0,none⟩=some (.slice AB V.l[i].B.length cB):=dd.blk.cell 0;have k4':wr.cell? ⟨q,i*5+4,none⟩=some (.pointer (some ⟨b,0,none⟩)):=by rw[k4,e];rfl
    obtain⟨z,hz⟩:∃z,z=V.l[i].B.length:=⟨_,rfl⟩;rw[<-hz] at k5 hu;obtain rfl:x=2:=hx.trans hk;have HU:=hI hu;have hb:u+z<=1048576:=by omega
    clear hx hu' hu2 e2 hk hz k4 dd hh e hu;go_wp2_with fail;go_roundw
    case rel=>exact⟨i+1,by omega,by go_num,by rw[<-HU2.out,HU.out];go_num,LR⟩
    case measure=>simp[intOf];omega
  ·obtain rfl:i=n:=by omega
   have hR:T0a (V.l.take i)=T0a V.l:=by rw[List.take_of_length_le (by have:=HN.out;omega)]
   rw[hR];go_wp2_with fail;go_ret;exact⟨rfl,LR.out⟩
theorem V2a(w:World)(base g:Nat)(v:Value)(V:X0a)(M:List VP)(d:T2a w base g v V M)(m:Int) :
  Calls Tryz.prog 48 #[.pointer (some ⟨g,0,none⟩),.int .i64 m] w λe w'=>e=.returned (.int .i64 (C3a V.l m))/\w'=w:=by
 obtain⟨A,c,rfl⟩:=d.len;have k0:w.cell? ⟨g,2,none⟩=some (.slice A V.l.length c):=d.blk.cell 2;have hsm:=d.ok.many;have D:=hI d;obtain⟨n,hn⟩:∃n,n=V.l.length:=⟨_,rfl⟩;rw[<-hn] at k0 hsm;have HN:=hI hn;clear d hn;go_enter Tryz.func48,Tryz.ntmps48;go_wp2_with fail;go_loopw [5] (λI wr=>∃i:Nat,i<=n/\I=.int .i64 (i:Nat)/\Hid (∀j (hj:j<V.l.length),j<i->V.l[j].n≠m)/\wr=w) (λI _=>n-(intOf I).toNat)
 case atStart=>exact⟨0,Nat.zero_le _,rfl,(λj _ h=>absurd h (Nat.not_lt_zero _)),rfl⟩
 case round=>
  obtain⟨i,hi,rfl,NO,rfl⟩:=hrel;by_cases hlt:i<n
  ·have hil:i<V.l.length:=by have:=HN.out;omega
   obtain⟨q,c',e,hnc,hcm,k1,_⟩:=D.out.at hil;injection e with e1 e2 e3
   subst e1 e3;obtain⟨x,hx⟩:∃x,x=V.l[i].n:=⟨_,rfl⟩;rw[<-hx] at k1;have HX:=hI hx;clear hx e2;by_cases he:x=m
   ·have HR:Hid (C3a V.l m=(i:Int)):=(C9a hil (HX.out.symm.trans he) λj hj=>NO.out j _ hj).1;have t:(x==m)=true:=by rw[he];exact beq_self_eq_true _
    go_wp2_with fail;go_ret;exact⟨by rw[HR.out];rfl,rfl⟩
   ·have t:(x==m)=false:=by simpa using he
    have HE:=hI he;clear he;go_wp2_with fail;go_roundw
    case rel=>exact⟨i+1,by omega,by go_num,(λj hj hji=>by
     rcases Nat.lt_or_ge j i with h | h
     ·exact NO.out j hj h
     ·obtain rfl:j=i:=by omega
      rw[<-HX.out];exact HE.out),trivial⟩
    case measure=>simp[intOf];omega
  ·obtain rfl:i=n:=by omega
   have HR:Hid (C3a V.l m=-1):=(W2b λj hj=>NO.out j hj (by have:=HN.out;omega)).1;go_wp2_with fail;go_ret;exact⟨by rw[HR.out];rfl,rfl⟩
section
variable {V:X0a} {L:List k0a} {n m t:Int} {ps:List o0a} {x:k0a}
end
theorem P8b(w:World)(base g:Nat)(v:Value)(V:X0a)(M:List VP)(d:T2a w base g v V M)(m t:Int)(ps:List o0a)(hw:Way V.l m ps)(h8:ps.length<=8) :
  Calls Tryz.prog 201 #[.pointer (some ⟨g,0,none⟩),.int .i64 m,.int .i64 t] w λe w'=>e=.returned (.bool (i4a V.l m t))/\Below w.heap.size w w':=by
 obtain⟨A,c,rfl⟩:=d.len;have k0:w.cell? ⟨g,2,none⟩=some (.slice A V.l.length c):=d.blk.cell 2;have hsm:=d.ok.many;have D:=hI d;obtain⟨R,hR⟩:∃R,R=i4a V.l m t:=⟨_,rfl⟩;rw[<-hR];have hR2:x3b V.l (ps.length+1) m t=R:=by rw[hR];exact(hw.bel d.ok 10 (by omega)).symm
 have HR:=hI hR2;have HW:=hI hw;obtain⟨n,hn⟩:∃n,n=V.l.length:=⟨_,rfl⟩;rw[<-hn] at k0 hsm;have HN:=hI hn;clear d hn hR hR2 hw;go_enter Tryz.func201,Tryz.ntmps201;go_wp2_with fail;go_loopw [1] (λN wr=>∃(m:Int) (ps:List o0a),N=.int .i64 m/\Hid (Way V.l m ps)/\ps.length<=8/\Hid (x3b V.l (ps.length+1) m t=R)/\Hid (Below w.heap.size w wr)) (λN _=>(D1a V.l (intOf N)).length)
 case atStart=>exact⟨m,ps,rfl,HW,h8,HR,Below.refl _ _⟩
 case round=>
  obtain⟨m',ps',rfl,HW',h8',HR',LR⟩:=hrel;have k0':wr.cell? ⟨g,2,none⟩=some (.slice A n c):=(LR.out.cell (d0a k0)).trans k0;by_cases h1:m'=1
  ·subst h1;have e:=HW'.out.same Way.root;subst e;obtain rfl:false=R:=HR'.out;go_wp2_with fail;go_ret;exact⟨rfl,LR.out⟩
  ·obtain⟨x,qs,a,ex,rfl,wq,hgt⟩:=HW'.out.last D.out.ok h1;have hbs:=q7b (t:=t) D.out.ok a hgt (qs:=qs);rw[HR'.out] at hbs;have hmeas:Hid ((D1a V.l x.par).length<(D1a V.l m').length):=by
    show _<_
    rw[wq.names (by simp at h8';omega),HW'.out.names h8',List.length_append];simp
   obtain⟨hi,hx⟩:=List.getElem?_eq_some_iff.1 a;obtain⟨q,c',e,hnc,hcm,_,_,k1,_⟩:=(D.out.below LR.out).at hi;injection e with e1 e2 e3
   subst e1 e3;rw[hx] at k1;have hp:C3a V.l m'=(vIx V.l m':Int):=if_pos hi;have PL:Hid (∀k:Nat,Calls Tryz.prog 48 #[.pointer (some ⟨g,0,none⟩),.int .i64 m'] (wr.drewN k) λe w'=>e=.returned (.int .i64 (vIx V.l m':Int))/\w'=wr.drewN k):=λk=>by have:=V2a (wr.drewN k) base g _ V M (D.out.below (LR.out.trans ((E0a wr k).mono LR.out.size))) m';rw[hp] at this;exact this
   obtain⟨i,hii⟩:∃i,i=vIx V.l m':=⟨_,rfl⟩;rw[<-hii] at PL hi k1;obtain⟨y,hy⟩:∃y,y=x.par:=⟨_,rfl⟩;rw[<-hy] at k1 hbs wq hmeas;have hin:(i:Int)<(n:Int):=by have:=HN.out;omega
   have hi0:(0:Int)<=(i:Int):=by omega
   have HQ:=hI wq;have h8q:qs.length<=8:=by simp at h8';omega
   clear hii hy hx e2 hi wq a ex hp HR' HW' h8';have HBq:=hI hbs;clear hbs;have L2:Hid (∀k,Below w.heap.size w (wr.drewN k)):=λk=>LR.out.trans ((E0a wr k).mono LR.out.size)
   by_cases ht:y=t
   ·have tt:(y==t)=true:=by rw[ht];exact beq_self_eq_true _
    obtain rfl:R=true:=by have:=HBq.out;rw[decide_eq_true ht] at this;exact this
    go_wp2_with fail;go_quiet ((go_at_call 48;exact Calls.quiet_of_same (PL.out _)));go_wp2_with fail;go_ret;exact⟨rfl,L2.out _⟩
   ·have tt:(y==t)=false:=by simpa using ht
    have HR2:Hid (x3b V.l (qs.length+1) y t=R):=by have:=HBq.out;rw[decide_eq_false ht] at this;exact this.symm
    go_wp2_with fail;go_quiet ((go_at_call 48;exact Calls.quiet_of_same (PL.out _)));go_wp2_with fail;go_roundw
    case rel=>exact⟨y,qs,rfl,HQ,h8q,HR2,L2.out _⟩
    case measure=>exact hmeas.out
section
def D5a(d:Nat)(xs ys:Array Value):List (Bool×TypeId×Nat)->Sem Bool
 | []=>pure true
 | (u,t,o)::r=>
  if u=true then D5a d xs ys r else do
   let a <-part t xs o
   let b <-part t ys o
   let q <-Op.equalIn d t a b
   if (!q)=true then pure false else D5a d xs ys r
theorem z6a(d:Nat)(xs ys:Array Value)(l:List Field):Op.eqFields d xs ys l=D5a d xs ys (l.map λf=>(decide (f.name = "_"),f.type,f.offset)):=by
 induction l with
 | nil=>rfl
 | cons f l ih=>
  simp only[Op.eqFields,List.map_cons,D5a,ih];by_cases h:f.name = "_"
  ·simp[h]
  ·simp[h]
section
variable {P:Program} {w:World} {d:Nat} {xs ys:Array Value} {r:List (Bool×TypeId×Nat)} {q:Bool}
theorem S7a(t:TypeId)(k:IntKind)(o:Nat)(x y:Int)(ht:P.underlying t=some (.int k))(hx:xs[o]? = some (.int k x))(hy:ys[o]? = some (.int k y))(hr:(D5a (d+1) xs ys r).run P w=.ok q w) :
  (D5a (d+1) xs ys ((false,t,o)::r)).run P w=.ok (x==y&&q) w:=by
 have p1:(part t xs o).run P w=.ok (.int k x) w:=by simp[part,isAgg,run_underlying ht,hx]
 have p2:(part t ys o).run P w=.ok (.int k y) w:=by simp[part,isAgg,run_underlying ht,hy]
 simp only[D5a,Bool.false_eq_true,if_false,Sem.run_bind,p1,p2,Result.andThen_ok,run_equalIn_int w d t k k _ _ ht];by_cases h:x=y
 ·subst h;simpa using hr
 ·have hb:(x==y)=false:=by simpa using h
  simp[hb]
end
section
variable {P:Program} {ops:Array Oper} {S:World->Prop}
theorem V3a{md:Region.Mode}{Q:Exit->Act->World->Prop}{fuel:Nat}{listed:Array Bool}{a:Act}{w:World}(h:∀a',a'=a->wpAnyH P md ops Q S fuel listed a' w):wpAnyH P md ops Q S fuel listed a w:=h a rfl
theorem b6a{op:Oper}{a:Act}(hw:Region.wanted op (yielded ops a.tmps)=true)(T:TypeId)(x:Operand)(ho:op.op=.load T x)(g:Nat)(hx:a.eval x=.pointer (some ⟨g,0,none⟩))(T':TypeId)(cs:List Value)
(hS:∀w,S w->Blk w g T' cs)(n:Nat)(d:TypeDesc)(hu:P.underlying T=some d)(hd:(match d with | .struct _ | .array _ _=>true | _=>false)=true)(hi:(P.info? T).map (·.size)=some n)(hn:Hid (cs.length=n)):YieldsIf P ops S op (.agg cs.toArray) a:=
 .inl ⟨hw,λw hw'=>by have hr:=run_loadVar_row (P:=P) w g T' T cs.toArray (0,0) _ (hS w hw') hu hd (by rw[hi];have:=hn.out;simp[this]);unfold execOp;simp only[ho,hx,Instr.loadAt,Instr.sureAddr,Sem.run_bind,Sem.run_pure,Result.andThen_ok,hr]⟩
end
end
section
variable {P:Program} {ops:Array Oper} {Q:Exit->Act->World->Prop}
theorem Q8b{md:Region.Mode}{S:World->Prop}(i j:Nat)(oi oj:Oper){fuel:Nat}{listed:Array Bool}{a:Act}{w:World}(hr:Region.ready md ops listed=[i,j])(hi:ops[i]? = some oi)(hj:ops[j]? = some oj)
(h1:∀K:Act->World->Prop,(∀a' w',S w'->wpAnyH P md ops Q S fuel (listed.setIfInBounds i true) a' w'->K a' w')->if Region.wanted oi (yielded ops a.tmps)=true then oi.wp P a w K Q else K (a.put oi.dst undef) w)
(h2:∀K:Act->World->Prop,(∀a' w',S w'->wpAnyH P md ops Q S fuel (listed.setIfInBounds j true) a' w'->K a' w')->if Region.wanted oj (yielded ops a.tmps)=true then oj.wp P a w K Q else K (a.put oj.dst undef) w) :
  wpAnyH P md ops Q S (fuel+1) listed a w:=by
 refine wpAnyH_all hr (by simp) λq hq=>?_
 rcases List.mem_cons.1 hq with rfl | hq
 ·have h3:=h1 (λa' w'=>S w'/\wpAnyH P md ops Q S fuel (listed.setIfInBounds q true) a' w') λ_ _ h2 h3=>⟨h2,h3⟩
  unfold wpOp;simp only[hi];by_cases hw:Region.wanted oi (yielded ops a.tmps)=true
  ·rw[if_pos hw] at h3⊢;exact .inl h3
  ·rw[if_neg hw] at h3⊢;exact h3
 ·obtain rfl:=List.mem_singleton.1 hq;have h3:=h2 (λa' w'=>S w'/\wpAnyH P md ops Q S fuel (listed.setIfInBounds q true) a' w') λ_ _ h2 h3=>⟨h2,h3⟩
  unfold wpOp;simp only[hj];by_cases hw:Region.wanted oj (yielded ops a.tmps)=true
  ·rw[if_pos hw] at h3⊢;exact .inl h3
  ·rw[if_neg hw] at h3⊢;exact h3
end
section
variable {P:Program} {ops:Array Oper} {o:Oper} {a:Act} {w:World} {Q:Exit->Act->World->Prop} {K:Act->World->Prop} {E:Prop}
theorem e8a(hg:o.guard=none)(T:TypeId)(ho:o.op=.alloc T)(zs:List Value)(n:Nat)(hi:Hid ((P.info? T).map (λi=>(i.zero,i.size))=some (some (.agg zs.toArray),n)))
(h:∀g w',w.heap.size<=g->g<w'.heap.size->Hid (Blk w' g T zs)->Hid (Below w.heap.size w w')->K (a.put o.dst (.pointer (some ⟨g,0,none⟩))) w') :
  if Region.wanted o (yielded ops a.tmps)=true then Oper.wp P o a w K Q else E:=by
 have hw:Region.wanted o (yielded ops a.tmps)=true:=by simp[Region.wanted,hg]
 rw[if_pos hw];unfold Oper.wp execOp;have hz:=(zero_of_info hi.out).1;simp only[ho,Sem.run_bind,Instr.alloc,hz,newVar,newRow,run_newObj_alloc,Sem.run_pure,Result.andThen_ok];exact h _ _ (Nat.le_refl _) (by simp) (Blk.new w T zs) ((Below.refl _ _).alloc (Nat.le_refl _) _)
end
theorem t1a.lit1{α:Type}(f:α->Value)(w:World)(e:TypeId)(x:α)(cs:Array Value)(hcs:cs=#[f x]):t1a f e (w.alloc (.cells cs e)) w.heap.size (.slice (some ⟨w.heap.size,0,none⟩) 1 1) [x]:=by subst hcs;refine⟨rfl,.inr ⟨w.heap.size,1,#[f x],rfl,Nat.le_refl _,?_,Nat.le_refl _,by decide,by simp,by simp⟩⟩;exact Array.getElem?_push_size
theorem R8b{w w':World}{B b i:Nat}{cs:List Value}(h:w.rangeAt b i cs)(hb:Below B w w')(hlt:b<B):w'.rangeAt b i cs:=λj v hj=>by rw[hb.cell (p:=⟨b,i+j,none⟩) hlt];exact h j v hj
theorem j3a{P:Program}{ops:Array Oper}{S:World->Prop}{op:Oper}{a:Act}(hw:Region.wanted op (yielded ops a.tmps)=true)(T:TypeId)(x:Operand)(ho:op.op=.load T x)(g i:Nat)(hx:a.eval x=.pointer (some ⟨g,i,none⟩))(cs:List Value)
(hS:∀w,S w->w.rangeAt g i cs)(n:Nat)(d:TypeDesc)(hu:P.underlying T=some d)(hd:d.isRow=true)(hi:(P.info? T).map (·.size)=some n)(hn:Hid (cs.length=n)):YieldsIf P ops S op (.agg cs.toArray) a:=
 .inl ⟨hw,λw hw'=>by unfold execOp;simp only[ho,hx,Instr.loadAt,Instr.sureAddr,Sem.run_bind,Sem.run_pure,Result.andThen_ok,run_loadVar_mid w g i T cs d (hS w hw') hu hd (by rw[hi,hn.out])]⟩
def G1a:List Value:=[.int .i64 0,.int .u8 0,.int .i64 0,.string .empty,.pointer none]
theorem j5b:(Tryz.prog.info? 98).map (λi=>(i.zero,i.size))=some (some (.agg G1a.toArray),5):=by kernel_rfl
theorem k5b:∀u∈G1a,u.oneCell'=true:=by intro u hu;simp only[G1a,List.mem_cons,List.not_mem_nil,or_false] at hu;rcases hu with rfl | rfl | rfl | rfl | rfl<;>rfl
theorem T2a.rng{w:World}{base g i:Nat}{V:X0a}{M:List VP}{q n c:Nat}(h:T2a w base g (.slice (some ⟨q,0,none⟩) n c) V M)(hi:i<V.l.length):∃hm:i<M.length,w.rangeAt q (i*5) (C0a (M[i]'hm))/\q<w.heap.size:=by
 have hl:M.length=V.l.length:=by rw[<-h.is,List.length_map]
 obtain⟨A,n',c',e,hh⟩:=h.row.holds (by decide) K0a;injection e with e1 e2 e3
 subst e1 e2 e3;have hm:i<M.length:=by omega
 have:=hh.range rfl (show i<n by have:=hh.len;omega) (List.getElem?_eq_getElem hm);rw[Nat.zero_add] at this;exact⟨hm,this,h.row.lt rfl⟩
theorem R9a(w:World)(base g:Nat)(v:Value)(V:X0a)(M:List VP)(d:T2a w base g v V M)(m:Int)(ps:List o0a)(hw:Way V.l m ps)(h8:ps.length<=8) :
  Calls Tryz.prog 53 #[.pointer (some ⟨g,0,none⟩),.int .i64 m] w λe w'=>∃u,e=.returned u/\t1a V0a 9 w' w.heap.size u ps/\Below w.heap.size w w':=by
 obtain⟨A,c,rfl⟩:=d.len;have k0:w.cell? ⟨g,2,none⟩=some (.slice A V.l.length c):=d.blk.cell 2;have hsm:=d.ok.many;have D:=hI d;have HW:=hI hw;have H8:=hI h8;obtain⟨n,hn⟩:∃n,n=V.l.length:=⟨_,rfl⟩;rw[<-hn] at k0 hsm;have HN:=hI hn;clear d hn hw h8;go_enter Tryz.func53,Tryz.ntmps53;go_wp2_with fail;go_loopw [1,5] (λN O wr=>∃(m:Int) (qs rs:List o0a),N=.int .i64 m/\Hid (Way V.l m qs)/\Hid (ps=qs++rs)/\Hid (t1a V0a 9 wr w.heap.size O rs)/\Hid (Below w.heap.size w wr)) (λN _ _=>(D1a V.l (intOf N)).length)
 case atStart=>exact⟨m,ps,[],rfl,HW,(List.append_nil _).symm,t1a.nil _ _ _ _,Below.refl _ _⟩
 case round=>
  obtain⟨m',qs,rs,rfl,HW',HP,OR,LR⟩:=hrel;have k0':wr.cell? ⟨g,2,none⟩=some (.slice A n c):=(LR.out.cell (d0a k0)).trans k0;by_cases h1:m'=1
  ·subst h1;have e:=HW'.out.same Way.root;subst e;obtain rfl:ps=rs:=HP.out;obtain⟨Ao,no,co,rfl,_⟩:=OR.out.holds;go_wp2_with fail;go_ret;exact⟨_,rfl,OR.out,LR.out⟩
  ·have t1:(m' != 1)=true:=by simpa using h1
   obtain⟨x,qs',a,ex,eq,wq,hgt⟩:=HW'.out.last D.out.ok h1;have h8':qs.length<=8:=by have h1:=H8.out;have h2:=HP.out;rw[h2,List.length_append] at h1;omega
   have hmeas:Hid ((D1a V.l x.par).length<(D1a V.l m').length):=by
    show _<_
    rw[wq.names (by rw[eq,List.length_append] at h8';omega),HW'.out.names h8',eq,List.length_append];simp
   obtain⟨hi,hx⟩:=List.getElem?_eq_some_iff.1 a;have DR:=hI (D.out.below LR.out);obtain⟨q,c',e,hnc,hcm,_⟩:=DR.out.at hi;injection e with e1 e2 e3
   subst e1 e3;obtain⟨hm,hrng,hqw⟩:=DR.out.rng hi;obtain⟨hm',hget⟩:=DR.out.get hi;have hp:C3a V.l m'=(vIx V.l m':Int):=if_pos hi;obtain⟨y,hy⟩:∃y,y=M[vIx V.l m']'hm:=⟨_,rfl⟩;have hyx:y.1=x:=by rw[hy,hget,hx]
   rw[<-hy] at hrng;have PL:Hid (∀w2,Below w.heap.size w w2->Calls Tryz.prog 48 #[.pointer (some ⟨g,0,none⟩),.int .i64 m'] w2 λe w'=>e=.returned (.int .i64 (vIx V.l m':Int))/\w'=w2):=λw2 hb=>by have:=V2a w2 base g _ V M (D.out.below hb) m';rw[hp] at this;exact this
   obtain⟨i,hii⟩:∃i,i=vIx V.l m':=⟨_,rfl⟩;rw[<-hii] at PL hi hrng;obtain⟨cs,hcs⟩:∃cs,cs=C0a y:=⟨_,rfl⟩;have c2:cs[2]? = some (.int .i64 x.par):=by rw[hcs,<-hyx];rfl
   have c3:cs[3]? = some (V0a x.name):=by rw[hcs,<-hyx];rfl
   have CL:Hid (cs.length=5):=by rw[hcs];exact K0a y
   have CO:Hid (∀u∈cs,u.oneCell'=true):=by rw[hcs];exact N1a y
   rw[<-hcs] at hrng;obtain⟨S,hS⟩:∃S:ByteArray,S=⟨x.name.toArray⟩:=⟨_,rfl⟩;have c3':cs[3]? = some (.string S):=by rw[c3,hS];rfl
   have HSN:Hid (Value.string S=V0a x.name):=by rw[hS];rfl
   obtain⟨y2,hy2⟩:∃y,y=x.par:=⟨_,rfl⟩;rw[<-hy2] at c2 wq hmeas;have hin:(i:Int)<(n:Int):=by have:=HN.out;omega
   have hi0:(0:Int)<=(i:Int):=by omega
   have HQ:=hI wq;have HP2:Hid (ps=qs'++x.name::rs):=by have:=HP.out;rw[eq,List.append_assoc] at this;exact this
   have ZN:Hid ((Tryz.prog.info? 98).map (λi=>(i.zero,i.size))=some (some (.agg G1a.toArray),5)):=j5b;have ZO:Hid (∀u∈G1a,u.oneCell'=true):=k5b;have ZL:Hid (G1a.length=5):=rfl;obtain⟨Ao,no,co,rfl,hho⟩:=OR.out.holds;have HO:=hI hho;clear hho;have HLEN:Hid (rs.length<=8):=by have h1:=H8.out;have h2:=HP.out;rw[h2,List.length_append] at h1;show _<=_;omega
   have HC2:=hI c2;have HC3:=hI c3';have hgw:g<wr.heap.size:=DR.out.blk.lt;obtain⟨zs,hzs⟩:∃zs,zs=G1a:=⟨_,rfl⟩;rw[<-hzs] at ZN ZO ZL;have S0':(λw':World=>w'.cell? ⟨g,2,none⟩=some (.slice (some ⟨q,0,none⟩) n c)/\w'.rangeAt q (i*5) cs) wr.drew:=⟨k0',λj v hj=>hrng j v hj⟩;have S0:=hI S0';have B0:Hid (Below w.heap.size w wr.drew):=LR.out.drew;have LW:=LR.out.size;have KEEP:Hid (∀w2,Below wr.heap.size wr w2->(λw':World=>w'.cell? ⟨g,2,none⟩=some (.slice (some ⟨q,0,none⟩) n c)/\w'.rangeAt q (i*5) cs) w2):=λw2 hb=>⟨(hb.cell hgw).trans k0',R8b hrng hb hqw⟩
   have RR0:Hid (Below wr.heap.size wr wr.drew):=(Below.refl _ _).drew;clear hii hy hx e2 hi a ex hp HP HW' h8' c2 c3 c3' hcs hyx hS hy2 hm hm' hget eq wq h1 hzs S0' hrng DR;go_upto_region 3 with fail
   refine wp_region_held (S:=λw':World=>w'.cell? ⟨g,2,none⟩=some (.slice (some ⟨q,0,none⟩) n c)/\w'.rangeAt q (i*5) cs) (by kernel_rfl) ?_;change wpAnyH _ _ _ _ _ _ _ _ wr.drew
   refine tK 0 (.pointer (some ⟨g,0,none⟩)) rfl (a0a (by kernel_rfl) (.tmp 0) rfl _ (by kernel_rfl)) S0.out ?_;refine tK 1 (.pointer (some ⟨g,0,none⟩)) rfl (p0a (by kernel_rfl) (.tmp 9) rfl _ (by kernel_rfl)) S0.out ?_;refine tK 2 (.pointer (some ⟨g,2,none⟩)) rfl (.inl ⟨by kernel_rfl,λw _=>by go_simp⟩) S0.out ?_;refine tK 3 _ rfl (b0a (by kernel_rfl) _ (.tmp 11) rfl g 2 (by kernel_rfl) (.slice (some ⟨q,0,none⟩) n c) (λw h=>h.1) _ Tryz.underlying99 rfl) S0.out ?_;refine tK 4 (.pointer (some ⟨g,0,none⟩)) rfl (a0a (by kernel_rfl) (.tmp 0) rfl _ (by kernel_rfl)) S0.out ?_;refine tK 5 (.int .i64 m') rfl (a0a (by kernel_rfl) (.tmp 1) rfl _ (by kernel_rfl)) S0.out ?_;refine Q8b 6 9 _ _ (by kernel_rfl) rfl rfl (λK hK=>?_) (λK hK=>?_)
   ·go_simp;refine(PL.out _ B0.out).mono ?_;rintro e v1 ⟨rfl,rfl⟩;refine hK _ _ S0.out ?_;clear hK K;refine tK 7 (.pointer (some ⟨q,i*5,none⟩)) rfl (.inl ⟨by kernel_rfl,λw _=>by go_simp⟩) S0.out ?_;refine tK 8 _ rfl (j3a (by kernel_rfl) _ (.tmp 16) rfl q (i*5) (by kernel_rfl) cs (λw h=>h.2) 5 _ Tryz.underlying98 rfl H3a CL) S0.out ?_;refine oN 9 _ rfl λK hK=>?_
    refine e8a rfl _ rfl zs 5 ZN ?_;intro b v2 hb1 hb2 X2 L2;have R2:=hI (step RR0.out L2.out);refine hK _ _ (KEEP.out _ R2.out) ?_;clear hK K;have hb1':wr.heap.size<=b:=Nat.le_trans RR0.out.size hb1;refine oN 10 _ rfl λK hK=>?_
    refine H5a rfl _ (.tmp 6) (.tmp 17) rfl b (by kernel_rfl) _ zs cs (by kernel_rfl) X2 5 H3a ZL CL CO ?_;intro v3 X3 O3 hb3;have R3:=hI (r0a R2.out O3.out hb1');refine hK _ _ (KEEP.out _ R3.out) ?_;clear hK K;refine dN ?_;have g3:=(X3.out.cell 3).trans HC3.out;have W3:=hI (step LR.out R3.out);have LL:Hid (([x.name].length+rs.length)*16<=140737488355328/\[x.name].length+rs.length<=9223372036854775807):=by have:=HLEN.out;show _/\_;simp only[List.length_cons,List.length_nil];omega
    go_wp2_with(first
     | (at_builtin;go_loud (refine n1a rfl (.tmp 20) (.tmp 21) V0a x7a (.string ⟨#[]⟩) rfl 78 9 16 Tryz.underlying78 r4a rfl v3.heap.size _ [x.name] rfl (t1a.lit1 V0a v3 9 x.name _ (by rw[HSN.out])) (v3.alloc (.cells #[.string S] 9)).heap.size Ao no co rs rfl ((HO.out.over R3.out).over ((Below.refl _ _).alloc (Nat.le_refl _) _)) LL.out.1 LL.out.2 (by simp) ?_);intro v5 w5 o5 l5;have L5:=hI (((Below.refl _ v3).alloc (Nat.le_refl _) _).trans l5.out);have X5:=hI (X3.out.over L5.out);have g5:=(X5.out.cell 2).trans HC2.out)
     | fail)
    go_roundw
    case rel=>exact⟨y2,qs',x.name::rs,rfl,HQ,HP2,o5.out.mono W3.out.size,step W3.out L5.out⟩
    case measure=>exact hmeas.out
   ·refine e8a rfl _ rfl zs 5 ZN ?_;intro b v2 hb1 hb2 X2 L2;have R2:=hI (step RR0.out L2.out);have hb1':wr.heap.size<=b:=Nat.le_trans RR0.out.size hb1;refine hK _ _ (KEEP.out _ R2.out) ?_;clear hK K;have S2:=hI (KEEP.out _ R2.out);refine oN 6 _ rfl λK hK=>?_
    go_simp;refine(PL.out _ (step LR.out R2.out)).mono ?_;rintro e v1 ⟨rfl,rfl⟩;refine hK _ _ S2.out ?_;clear hK K;refine tK 7 (.pointer (some ⟨q,i*5,none⟩)) rfl (.inl ⟨by kernel_rfl,λw _=>by go_simp⟩) S2.out ?_;refine tK 8 _ rfl (j3a (by kernel_rfl) _ (.tmp 16) rfl q (i*5) (by kernel_rfl) cs (λw h=>h.2) 5 _ Tryz.underlying98 rfl H3a CL) S2.out ?_;refine oN 10 _ rfl λK hK=>?_
    refine H5a rfl _ (.tmp 6) (.tmp 17) rfl b (by kernel_rfl) _ zs cs (by kernel_rfl) X2 5 H3a ZL CL CO ?_;intro v3 X3 O3 hb3;have R3:=hI (r0a R2.out O3.out hb1');refine hK _ _ (KEEP.out _ R3.out) ?_;clear hK K;refine dN ?_;have g3:=(X3.out.cell 3).trans HC3.out;have W3:=hI (step LR.out R3.out);have LL:Hid (([x.name].length+rs.length)*16<=140737488355328/\[x.name].length+rs.length<=9223372036854775807):=by have:=HLEN.out;show _/\_;simp only[List.length_cons,List.length_nil];omega
    go_wp2_with(first
     | (at_builtin;go_loud (refine n1a rfl (.tmp 20) (.tmp 21) V0a x7a (.string ⟨#[]⟩) rfl 78 9 16 Tryz.underlying78 r4a rfl v3.heap.size _ [x.name] rfl (t1a.lit1 V0a v3 9 x.name _ (by rw[HSN.out])) (v3.alloc (.cells #[.string S] 9)).heap.size Ao no co rs rfl ((HO.out.over R3.out).over ((Below.refl _ _).alloc (Nat.le_refl _) _)) LL.out.1 LL.out.2 (by simp) ?_);intro v5 w5 o5 l5;have L5:=hI (((Below.refl _ v3).alloc (Nat.le_refl _) _).trans l5.out);have X5:=hI (X3.out.over L5.out);have g5:=(X5.out.cell 2).trans HC2.out)
     | fail)
    go_roundw
    case rel=>exact⟨y2,qs',x.name::rs,rfl,HQ,HP2,o5.out.mono W3.out.size,step W3.out L5.out⟩
    case measure=>exact hmeas.out
theorem v8a(w:World)(base g:Nat)(v:Value)(V:X0a)(M:List VP)(d:T2a w base g v V M)(m:Int) :
  Calls Tryz.prog 18 #[.pointer (some ⟨g,0,none⟩),.int .i64 m] w λe w'=>e=.returned (.tuple #[V0a (i1a V.l m),.int .i64 (I2a V.l m)])/\Below w.heap.size w w':=by
 have CP:=hI (R7a w base g _ V M d m);have hsm:=d.ok.many;rcases Q7a (L:=V.l) (n:=m) with⟨p1,p2⟩ | ⟨hi,p1,p2⟩
 ·have e1:I2a V.l m=7:=by unfold I2a;rw[p2];rfl
  have e2:V0a (i1a V.l m)=.string ⟨#[]⟩:=by unfold i1a;rw[e1];rfl
  rw[p1] at CP;rw[e1,e2];clear d p1 p2 e1 e2;go_enter Tryz.func18,Tryz.ntmps18;go_wp2_with fail;refine CP.out.mono ?_;rintro e w1 ⟨rfl,l1⟩;have L1:=hI l1;clear l1 CP;go_wp2_with fail;go_ret2;exact⟨rfl,L1.out⟩
 ·obtain⟨ps,hw,h8⟩:=d.node hi p2;have hnm:=hw.names h8;have hgood:=Way.good d.ok hw;have e1:I2a V.l m=s1a ps:=by unfold I2a;rw[p2,hnm];rfl
  have e2:i1a V.l m=h4a ps:=by unfold i1a h4a;rw[e1,hnm]
  have CN:Hid (∀w1,Below w.heap.size w w1->_):=λw1 hb=>R9a w1 base g v V M (d.below hb) m ps hw h8
  have CJ:Hid (∀(w:World) (A:Option Addr) (n c:Nat),U0a V0a w w.heap.size A n c ps->n<=9223372036854775807->Calls Tryz.prog 52 #[.slice A n c] w (K3a w ps)):=λw A n c hx hn=>g5b w A n c ps hx (λp hp=>by have:=S0a (hgood p hp);omega) hn
  rw[p1] at CP;rw[e1,e2];obtain⟨J,hJ⟩:∃J:ByteArray,J=⟨(h4a ps).toArray⟩:=⟨_,rfl⟩;have hJ1:V0a (h4a ps)=.string J:=by rw[hJ];rfl
  obtain⟨E,hE⟩:∃E,E=s1a ps:=⟨_,rfl⟩;unfold K3a at CJ;rw[<-hJ,<-hE] at CJ;rw[hJ1,<-hE];obtain⟨i,hii⟩:∃i,i=vIx V.l m:=⟨_,rfl⟩;rw[<-hii] at CP;have H8:=hI h8;clear d p1 p2 e1 e2 hi hw hnm hgood hJ hJ1 hE hii h8 hsm;go_enter Tryz.func18,Tryz.ntmps18;go_wp2_with fail;refine CP.out.mono ?_;rintro e w1 ⟨rfl,l1⟩;have L1:=hI l1;have CN1:=hI (CN.out w1 l1);clear l1 CP CN;go_wp2_with fail;refine CN1.out.mono ?_;rintro e w2 ⟨u,rfl,o2,l2⟩;obtain⟨A2,n2,c2,rfl,hh⟩:=o2.holds;have L2:=hI (step L1.out l2);have CJ2:=hI (CJ.out w2 A2 n2 c2 hh (by have h1:=hh.len;have h2:=H8.out;omega));clear o2 hh l2 CN1 CJ;go_wp2_with fail;refine CJ2.out.mono ?_;rintro e w3 ⟨rfl,l3⟩;have L3:=hI (step L2.out l3);clear l3 CJ2;go_wp2_with fail;go_ret2;exact⟨rfl,L3.out⟩
theorem y1c{L:List k0a}{n:Int}{k:Nat}(h:k<L.length):b5a L n (k+1)=if i4a L L[k].n n=true then max (b5a L n k) ((D1a L L[k].n).length-(D1a L n).length) else b5a L n k:=by unfold b5a;rw[List.take_succ_eq_append_getElem h,List.foldl_append];rfl
theorem z1c(w:World)(base g:Nat)(v:Value)(V:X0a)(M:List VP)(d:T2a w base g v V M)(m:Int)(ps:List o0a)(hw:Way V.l m ps)(h8:ps.length<=8) :
  Calls Tryz.prog 172 #[.pointer (some ⟨g,0,none⟩),.int .i64 m] w λe w'=>e=.returned (.int .i64 (t4a V.l m:Nat))/\Below w.heap.size w w'/\t4a V.l m<=8:=by
 have CN:=hI (R9a w base g v V M d m ps hw h8);obtain⟨A,c,rfl⟩:=d.len;have k0:w.cell? ⟨g,2,none⟩=some (.slice A V.l.length c):=d.blk.cell 2;have hsm:=d.ok.many;have D:=hI d;have HPS:Hid (D1a V.l m=ps):=hw.names h8;obtain⟨n,hn⟩:∃n,n=V.l.length:=⟨_,rfl⟩;rw[<-hn] at k0 hsm;have HN:=hI hn;have hend:Hid (t4a V.l m=b5a V.l m n):=by rw[hn];rfl
 obtain⟨pl,hpl⟩:∃pl,pl=ps.length:=⟨_,rfl⟩;rw[<-hpl] at h8;have HPL:=hI hpl;clear d hn hw hpl;go_enter Tryz.func172,Tryz.ntmps172;go_wp2_with fail;refine CN.out.mono ?_;rintro e w1 ⟨u,rfl,o1,l1⟩;obtain⟨A1,n1,c1,rfl,hh1⟩:=o1.holds;obtain rfl:pl=n1:=HPL.out.trans hh1.len;have L1:=hI l1;clear o1 hh1 l1 CN;go_wp2_with fail;go_loopw [5,7] (λU I wr=>∃(i dd:Nat),i<=n/\I=.int .i64 (i:Nat)/\U=.int .i64 (dd:Nat)/\dd<=8/\Hid (dd=b5a V.l m i)/\Hid (Below w.heap.size w wr)) (λ_ I _=>n-(intOf I).toNat)
 case atStart=>exact⟨0,0,Nat.zero_le _,rfl,rfl,by omega,rfl,L1⟩
 case round=>
  obtain⟨i,dd,hi,rfl,rfl,hdd,HD,LR⟩:=hrel;have k0':wr.cell? ⟨g,2,none⟩=some (.slice A n c):=(LR.out.cell (d0a k0)).trans k0;by_cases hlt:i<n
  ·have hil:i<V.l.length:=by have:=HN.out;omega
   obtain⟨q,c',e,hnc,hcm,k1,_⟩:=(D.out.below LR.out).at hil;injection e with e1 e2 e3
   subst e1 e3;obtain⟨qs,wq,hq8⟩:=D.out.ok.way _ (List.getElem_mem hil);have hst:=y1c (n:=m) hil;rw[<-HD.out,HPS.out,wq.names hq8,<-HPL.out] at hst;have CB:=hI (P8b wr base g _ V M (D.out.below LR.out) V.l[i].n m qs wq hq8);have CQ:Hid (∀w2,Below w.heap.size w w2->_):=λw2 hb=>R9a w2 base g _ V M (D.out.below hb) V.l[i].n qs wq hq8
   obtain⟨x,hx⟩:∃x,x=V.l[i].n:=⟨_,rfl⟩;rw[<-hx] at k1 CB CQ hst;obtain⟨B,hB⟩:∃B,B=i4a V.l x m:=⟨_,rfl⟩;rw[<-hB] at CB hst;obtain⟨ql,hql⟩:∃ql,ql=qs.length:=⟨_,rfl⟩;rw[<-hql] at hst hq8;have HQL:=hI hql;have HST:=hI hst;clear hx e2 wq hB hql hst;cases B with
   | false=>
    have HD2:Hid (dd=b5a V.l m (i+1)):=by have:=HST.out;rw[if_neg (by decide)] at this;exact this.symm
    clear CQ;go_wp2_with fail;refine CB.out.mono ?_;rintro e w2 ⟨rfl,l2⟩;have L2:=hI (step LR.out l2);clear l2 CB;go_wp2_with fail;go_roundw
    case rel=>exact⟨i+1,dd,by omega,by go_num,rfl,hdd,HD2,L2⟩
    case measure=>simp[intOf];omega
   | true=>
    have HD2:Hid (max dd (ql-pl)=b5a V.l m (i+1)):=by have:=HST.out;rw[if_pos rfl] at this;exact this.symm
    go_wp2_with fail;refine CB.out.mono ?_;rintro e w2 ⟨rfl,l2⟩;have L2:=hI (step LR.out l2);have j0:w2.cell? ⟨g,2,none⟩=some (.slice (some ⟨q,0,none⟩) n c):=(L2.out.cell (d0a k0)).trans k0;have j1:w2.cell? ⟨q,i*5,none⟩=some (.int .i64 x):=(l2.cell (d0a k1)).trans k1;have CQ2:=hI (CQ.out w2 L2.out);clear l2 CB CQ;go_wp2_with fail;refine CQ2.out.mono ?_;rintro e w3 ⟨u,rfl,o3,l3⟩;obtain⟨A3,n3,c3,rfl,hh3⟩:=o3.holds;obtain rfl:ql=n3:=HQL.out.trans hh3.len;have L3:=hI (step L2.out l3);clear o3 hh3 l3 CQ2;by_cases hmx:ql-pl<=dd
    ·have hm2:(ql:Int)-(pl:Int)<=(dd:Int):=by omega
     have HD3:Hid (dd=b5a V.l m (i+1)):=(show dd=max dd (ql-pl) by omega).trans HD2.out;go_wp2_with fail;go_roundw
     case rel=>exact⟨i+1,dd,by omega,by go_num,by go_num,hdd,HD3,L3⟩
     case measure=>simp[intOf];omega
    ·have hm2:(dd:Int)<=(ql:Int)-(pl:Int):=by omega
     have HD3:Hid (ql-pl=b5a V.l m (i+1)):=(show ql-pl=max dd (ql-pl) by omega).trans HD2.out;go_wp2_with fail;go_roundw
     case rel=>exact⟨i+1,ql-pl,by omega,by go_num,by go_num,by omega,HD3,L3⟩
     case measure=>simp[intOf];omega
  ·obtain rfl:i=n:=by omega
   have hR:Hid (t4a V.l m=dd):=hend.out.trans HD.out.symm;go_wp2_with fail;go_ret;exact⟨by rw[hR.out];rfl,LR.out,by rw[hR.out];exact hdd⟩
theorem Q2a{fn:Func}{t u v x:Tmp}(h:fn.results=#[.tmp t,.tmp u,.tmp v,.tmp x])(tmps:Array Value)(P:Program)(w:World) :
  (results fn tmps).run P w=.ok (.tuple #[tmps.getD t undef,tmps.getD u undef,tmps.getD v undef,tmps.getD x undef]) w:=by
 simp[results,h]
theorem A1c{p:o0a}(h:h0a p=0):(m0a p).length=0↔p=[]:=by
 have h1:=(P4a h).2;constructor
 ·intro h2;rw[List.eq_nil_of_length_eq_zero h2] at h1;exact h1.symm
 ·rintro rfl;have:=(u7a (ps:=[]) rfl).2;rw[show l2a []=([]:o0a) from rfl] at this;rw[this];rfl
def tgN(L:List k0a)(n:Int)(p:o0a):Int:=if z3a L n p=0 then P0a L p else 0
def tgS(L:List k0a)(n:Int)(p:o0a):o0a:=if z3a L n p=0 then Q0a L p else []
def tgI(L:List k0a)(n:Int)(p:o0a):Int:=if z3a L n p=0 then l1a L n p else 0
theorem S8b{L:List k0a}{n:Int}{p:o0a}{E:Int}(h:z3a L n p=E)(hE:E≠0):tgN L n p=0/\V0a (tgS L n p)=.string ⟨#[]⟩/\tgI L n p=0:=by unfold tgN tgS tgI;rw[if_neg (by omega),if_neg (by omega),if_neg (by omega)];exact⟨rfl,rfl,rfl⟩
theorem N7b{L:List k0a}{n:Int}{p:o0a}(h:z3a L n p=0):tgN L n p=P0a L p/\tgS L n p=Q0a L p/\tgI L n p=l1a L n p:=by unfold tgN tgS tgI;rw[if_pos h,if_pos h,if_pos h];exact⟨rfl,rfl,rfl⟩
theorem H1b(L:List k0a)(p:o0a):(Q0a L p).length<=128:=by
 unfold Q0a;split
 ·exact(U5b p).2
 ·exact Nat.zero_le _
theorem E6b(w:World)(base g:Nat)(v:Value)(V:X0a)(M:List VP)(d:T2a w base g v V M)(m:Int)(s:o0a)(hs:s.length<=1048576) :
  Calls Tryz.prog 131 #[.pointer (some ⟨g,0,none⟩),.int .i64 m,V0a s] w λe w'=>e=.returned (.tuple #[.int .i64 (tgN V.l m s),V0a (tgS V.l m s),.int .i64 (tgI V.l m s),.int .i64 (z3a V.l m s)])/\Below w.heap.size w w':=by
 have C1:=hI (X2b w base g v V M d m);have C2:Hid (∀w1,_):=λw1=>T4a ⟨s.toArray⟩ w1 (by rw[W1a];omega)
 unfold e2a at C2;rw[show(⟨s.toArray⟩:ByteArray).data.toList=s from rfl] at C2;have C3:Hid (∀w1,Below w.heap.size w w1->_):=λw1 hb=>v8a w1 base g v V M (d.below hb) m
 have C5:Hid (∀w1,Below w.heap.size w w1->_):=λw1 hb=>Y2b w1 base g v V M (d.below hb) s hs
 have C7:Hid (∀w1,Below w.heap.size w w1->_):=λw1 hb=>Q9a w1 base g v V M (d.below hb) (P0a V.l s) (Q0a V.l s) (by have:=H1b V.l s;omega)
 have hq:Hid (∀E n z i,z3a V.l m s=E->tgN V.l m s=n->V0a (tgS V.l m s)=z->tgI V.l m s=i->∀(e:Ending) (w':World),e=.returned (.tuple #[.int .i64 n,z,.int .i64 i,.int .i64 E])/\Below w.heap.size w w'->e=.returned (.tuple #[.int .i64 (tgN V.l m s),V0a (tgS V.l m s),.int .i64 (tgI V.l m s),.int .i64 (z3a V.l m s)])/\Below w.heap.size w w'):=λE n z i h1 h2 h3 h4 e w' h=>by rw[h1,h2,h3,h4];exact h
 have hno:Hid (∀E,z3a V.l m s=E->E≠0->∀(e:Ending) (w':World),e=.returned (.tuple #[.int .i64 0,.string ⟨#[]⟩,.int .i64 0,.int .i64 E])/\Below w.heap.size w w'->e=.returned (.tuple #[.int .i64 (tgN V.l m s),V0a (tgS V.l m s),.int .i64 (tgI V.l m s),.int .i64 (z3a V.l m s)])/\Below w.heap.size w w'):=λE h1 h2=>hq.out E 0 _ 0 h1 (S8b h1 h2).1 (S8b h1 h2).2.1 (S8b h1 h2).2.2
 have hE:z3a V.l m s=if q1a V.l m≠0 then q1a V.l m else if h0a s≠0 then h0a s else if s=[]∨g3a s (i1a V.l m)=true then 2 else if l3a V.l s≠0 then l3a V.l s else if 8<(m0a s).length+t4a V.l m then 3 else 0:=rfl
 obtain⟨S,hS⟩:∃S:ByteArray,S=⟨s.toArray⟩:=⟨_,rfl⟩;have hS1:V0a s=.string S:=by rw[hS];rfl
 have hS2:Hid (S.data.toList=s):=by rw[hS];rfl
 have hS3:S.size<=1048576:=by rw[Lib.size_eq,hS2.out];exact hs
 rw[<-hS] at C2;rw[hS1] at C5⊢;clear hS hS1;have D:=hI d;have hp8:=t3a s;have hnil:=λh:h0a s=0=>A1c h
 obtain⟨E1,hE1⟩:∃E,E=q1a V.l m:=⟨_,rfl⟩;have hthere:Hid (E1=0->∃ps,Way V.l m ps/\ps.length<=8):=λh=>by obtain⟨⟨x,hx⟩,_⟩:=U5a (hE1.symm.trans h);obtain⟨hi,hx'⟩:=List.getElem?_eq_some_iff.1 hx;exact d.node hi (by rw[hx];rw[hx'])
 obtain⟨E2,hE2⟩:∃E,E=h0a s:=⟨_,rfl⟩;obtain⟨L,hL⟩:∃L,L=m0a s:=⟨_,rfl⟩;obtain⟨P,hP⟩:∃P:ByteArray,P=⟨(i1a V.l m).toArray⟩:=⟨_,rfl⟩;have hP1:V0a (i1a V.l m)=.string P:=by rw[hP];rfl
 have hP2:Hid (P.data.toList=i1a V.l m):=by rw[hP];rfl
 have hP3:P.size<=1048576:=by
  rw[Lib.size_eq,hP2.out];rcases Q7a (L:=V.l) (n:=m) with⟨_,p2⟩ | ⟨hi,_,p2⟩
  ·unfold i1a I2a;rw[p2];exact Nat.zero_le _
  ·obtain⟨ps,hw,h8⟩:=d.node hi p2;rw[(V5a d.ok hw h8).1];refine Nat.le_trans (C7a _ 128 λq hq=>S0a (Way.good d.ok hw q hq)) ?_;omega
 have C4:Hid (∀w1,_):=λw1=>C6b S P w1 (by omega) (by omega)
 rw[hS2.out,hP2.out] at C4;obtain⟨PE,hPE⟩:∃E,E=I2a V.l m:=⟨_,rfl⟩;obtain⟨U,hU⟩:∃U,U=g3a s (i1a V.l m):=⟨_,rfl⟩;obtain⟨E4,hE4⟩:∃E,E=l3a V.l s:=⟨_,rfl⟩;obtain⟨dn,hdn⟩:∃E,E=P0a V.l s:=⟨_,rfl⟩;obtain⟨Z,hZ⟩:∃Z:ByteArray,Z=⟨(Q0a V.l s).toArray⟩:=⟨_,rfl⟩;have hZ1:V0a (Q0a V.l s)=.string Z:=by rw[hZ];rfl
 obtain⟨C,hC⟩:∃E,E=x0a V.l (P0a V.l s) (Q0a V.l s):=⟨_,rfl⟩;obtain⟨dd,hdd⟩:∃E,E=t4a V.l m:=⟨_,rfl⟩;have hIs:l1a V.l m s=if C=m then 0 else C:=by unfold l1a;rw[<-hC]
 rw[<-hE1] at C1;rw[<-hE2,<-hL] at C2;rw[hP1,<-hPE] at C3;rw[<-hU] at C4;rw[<-hE4,<-hdn,hZ1] at C5;rw[<-hC,<-hdn,hZ1] at C7;rw[<-hE1,<-hE2,<-hU,<-hE4,<-hL,<-hdd] at hE;rw[<-hL] at hp8 hnil;rw[<-hE2] at hnil;have CD:Hid (∀w1,Below w.heap.size w w1->E1=0->Calls Tryz.prog 172 #[.pointer (some ⟨g,0,none⟩),.int .i64 m] w1 λe w'=>e=.returned (.int .i64 (dd:Nat))/\Below w1.heap.size w1 w'/\dd<=8):=λw1 hb h=>by obtain⟨ps,hw,h8⟩:=hthere.out h;rw[hdd];exact z1c w1 base g v V M (d.below hb) m ps hw h8
 have HDN:=hI hdn;have HZ1:=hI hZ1;have HIS:=hI hIs;have HNIL:=hI hnil;clear d hthere hE1 hE2 hL hP hP1 hPE hU hE4 hdn hZ hZ1 hC hdd hIs hnil;go_enter Tryz.func131,Tryz.ntmps131;go_wp2_with fail;refine C1.out.mono ?_;rintro e w1 ⟨rfl,l1⟩;have L1:=hI l1;clear l1 C1;by_cases h1:E1=0
 case neg=>
  rw[if_pos h1] at hE;have t:(E1 != 0)=true:=by simpa using h1
  have HF:=hI (hno.out _ hE h1);clear hE h1 CD hq hno;go_wp2_with fail
  ((try simp only[Exit.inBlock,Exit.then]);refine bodyPost_ret (Q2a rfl _ _ _) rfl ?_)
  exact HF.out _ _ ⟨rfl,L1.out⟩
 rw[if_neg (λh=>h h1)] at hE;subst h1;go_wp2_with fail;refine(C2.out w1).mono ?_;rintro e w2 ⟨u,rfl,o2,l2⟩;obtain⟨A2,n2,c2,rfl,hh⟩:=o2.holds;obtain rfl:L.length=n2:=hh.len;have L2:=hI (step L1.out l2);have C3':=hI (C3.out w2 L2.out);clear o2 hh l2 C2 C3;by_cases h2:E2=0
 case neg=>
  rw[if_pos h2] at hE;have t:(E2 != 0)=true:=by simpa using h2
  have HF:=hI (hno.out _ hE h2);clear hE h2 CD hq hno HNIL;go_wp2_with fail
  ((try simp only[Exit.inBlock,Exit.then]);refine bodyPost_ret (Q2a rfl _ _ _) rfl ?_)
  exact HF.out _ _ ⟨rfl,L2.out⟩
 rw[if_neg (λh=>h h2)] at hE;have HNL:=hI (HNIL.out h2);subst h2;go_wp2_with fail;refine C3'.out.mono ?_;rintro e w3 ⟨rfl,l3⟩;have L3:=hI (step L2.out l3);have C5':=C5;clear l3 C3' C5;obtain⟨ln,hln⟩:∃ln,ln=L.length:=⟨_,rfl⟩;rw[<-hln] at hp8 HNL hE;rw[<-hln];clear hln;by_cases h3:ln=0
 ·rw[if_pos (.inl (HNL.out.1 h3))] at hE;subst h3;have HF:=hI (hno.out _ hE (by decide));clear hE CD hq hno;go_wp2_with fail
  ((try simp only[Exit.inBlock,Exit.then]);refine bodyPost_ret (Q2a rfl _ _ _) rfl ?_)
  exact HF.out _ _ ⟨rfl,L3.out⟩
 have t3:((ln:Int)==0)=false:=by simp;omega
 have hne:s≠[]:=λh=>h3 (HNL.out.2 h)
 go_wp2_with fail;refine(C4.out w3).mono ?_;rintro e w4 ⟨rfl,l4⟩;have L4:=hI (step L3.out l4);have C5:=hI (C5'.out w4 L4.out);clear l4 C4 C5';cases U with
 | true=>
  rw[if_pos (.inr rfl)] at hE;have HF:=hI (hno.out _ hE (by decide));clear hE CD hq hno;go_wp2_with fail
  ((try simp only[Exit.inBlock,Exit.then]);refine bodyPost_ret (Q2a rfl _ _ _) rfl ?_)
  exact HF.out _ _ ⟨rfl,L4.out⟩
 | false=>
  rw[if_neg (λh=>by rcases h with h | h;exact hne h;cases h)] at hE;clear hne;go_wp2_with fail;refine C5.out.mono ?_;rintro e w5 ⟨rfl,l5⟩;have L5:=hI (step L4.out l5);have C6:=hI (CD.out w5 L5.out (by trivial));clear l5 C5 CD;by_cases h4:E4=0
  case neg=>
   rw[if_pos h4] at hE;have t:(E4 != 0)=true:=by simpa using h4
   have HF:=hI (hno.out _ hE h4);clear hE h4 hq hno;go_wp2_with fail
   ((try simp only[Exit.inBlock,Exit.then]);refine bodyPost_ret (Q2a rfl _ _ _) rfl ?_)
   exact HF.out _ _ ⟨rfl,L5.out⟩
  rw[if_neg (λh=>h h4)] at hE;subst h4;go_wp2_with fail;refine C6.out.mono ?_;rintro e w6 ⟨rfl,l6,hd8⟩;have L6:=hI (step L5.out l6);have C8:=hI (C7.out w6 L6.out);clear l6 C6 C7;by_cases h6:8<ln+dd
  case pos=>
   rw[if_pos h6] at hE;have HF:=hI (hno.out _ hE (by decide));clear hE hq hno;go_wp2_with fail
   ((try simp only[Exit.inBlock,Exit.then]);refine bodyPost_ret (Q2a rfl _ _ _) rfl ?_)
   exact HF.out _ _ ⟨rfl,L6.out⟩
  rw[if_neg h6] at hE;go_wp2_with fail;refine C8.out.mono ?_;rintro e w7 ⟨rfl,l7⟩;have L7:=hI (step L6.out l7);clear l7 C8;obtain⟨y1,y2,y3⟩:=N7b hE;by_cases h7:C=m
  ·have HF:=hI (hq.out 0 dn (.string Z) 0 hE (y1.trans HDN.out.symm) (by rw[y2,HZ1.out]) (y3.trans (HIS.out.trans (if_pos h7))));have t:(C==m)=true:=by rw[h7];exact beq_self_eq_true _
   clear hE hq hno y1 y2 y3 h7;go_wp2_with fail
   ((try simp only[Exit.inBlock,Exit.then]);refine bodyPost_ret (Q2a rfl _ _ _) rfl ?_)
   exact HF.out _ _ ⟨rfl,L7.out⟩
  ·have HF:=hI (hq.out 0 dn (.string Z) C hE (y1.trans HDN.out.symm) (by rw[y2,HZ1.out]) (y3.trans (HIS.out.trans (if_neg h7))));have t:(C==m)=false:=by simpa using h7
   clear hE hq hno y1 y2 y3 h7;go_wp2_with fail
   ((try simp only[Exit.inBlock,Exit.then]);refine bodyPost_ret (Q2a rfl _ _ _) rfl ?_)
   exact HF.out _ _ ⟨rfl,L7.out⟩
section
variable {P:Program} {ops:Array Oper} {o:Oper} {a:Act} {w:World} {Q:Exit->Act->World->Prop} {K:Act->World->Prop} {E:Prop}
theorem k3a{α:Type}(hgd:o.guard=none)(l x:Operand)(f:α->List Value)(s:Nat)(hs0:0<s)(hfl:∀y,(f y).length=s)(hf:∀y,∀u∈f y,u.oneCell'=true)(z:Value)(hzc:z.cells.size=s)(T e:TypeId)(bytes:Nat)
(ht:P.underlying T=some (.slice e))(hi:(P.info? e).map (λi=>(i.zero,i.size,i.bytes))=some (some z,s,bytes))
(ho:o.op=.call { callee:=.builtin .append,args:=#[l,x],argTypes:=#[T,T] })
(base:Nat)(v:Value)(xs:List α)(hs:a.eval l=v)(hown:j1a f s e w base v xs)(b so m c:Nat)(ys:List α)(hx:a.eval x=.slice (some ⟨b,so,none⟩) m c)
(hm:ys.length=m)(hsrc:∀j u,(ys.flatMap f)[j]? = some u->w.cell? ⟨b,so+j,none⟩=some u)(hlen:(xs.length+ys.length)*bytes<=140737488355328)(h63:xs.length+ys.length<=9223372036854775807)(hbase:base<=w.heap.size)
(h:∀v' w',Hid (j1a f s e w' base v' (xs++ys))->Hid (g0a (λj=>v.ownBlock=some j) w w')->Hid (Z0a w v v')->K (a.put o.dst v') w') :
  if Region.wanted o (yielded ops a.tmps)=true then Oper.wp P o a w K Q else E:=by
 have hw:Region.wanted o (yielded ops a.tmps)=true:=by simp[Region.wanted,hgd]
 rw[if_pos hw];obtain⟨i0,hi0,hz0,hz1,hz2⟩:=info_parts hi;obtain⟨v',w',hrun,ho',hg',_,hwh⟩:=run_append_own_at (P:=P) w base T o.type e i0 z s bytes ht hi0 hz0 hz1 hz2 hzc hs0 v xs.length (xs.flatMap f) hown ⟨b,so,none⟩ m c (ys.flatMap f) (by rw[C1a hfl,hm])
  (λj u hj=>by rw[Addr.add_mid];exact hsrc j u hj) (by intro u hu;obtain⟨y,_,hy⟩:=List.mem_flatMap.1 hu;exact hf y u hy) (by unfold maxLen;omega) (by rw[<-hm];exact hlen) hbase
 unfold Oper.wp execOp;simp only[ho,resolve,invoke,builtin,Sem.run_bind,Sem.run_pure,Result.andThen_ok,List.map_toArray,List.map_cons,List.map_nil,hs,hx,hrun];refine h v' w' ?_ (g0a.of_grown hg') ?_
 ·show World.ownsRow _ _ _ _ _ _ _
  rw[List.length_append,List.flatMap_append,hm];exact ho'
 ·intro i hi;rcases hwh with h1 | h1
  ·exact .inl (h1▸hi)
  ·rw[h1] at hi;injection hi with hi
   exact .inr (by omega)
end
section
variable {w w':World} {base g j:Nat} {v v':Value} {V V':X0a} {M M':List VP} {T T':TypeId}
theorem T2a.stays(h:T2a w base g v V M)(hb:Below w.heap.size w w'):u1a w base g v M V w':=⟨v,M,h.below hb,g0a.of_over _ hb,λ_ hj=>.inl hj⟩
end
theorem Z2a:(Tryz.prog.info? 98).map (λi=>(i.zero,i.size,i.bytes))=some (some (.agg G1a.toArray),5,48):=by kernel_rfl
theorem T8b:(Tryz.prog.info? 104).map (λi=>(i.zero,i.size))=some (some (.agg #[.slice none 0 0,.slice none 0 0]),2):=by kernel_rfl
theorem Z2b(y:VP)(cs:List Value)(hcs:cs=C0a y)(w:World)(b:Nat)(h:Blk w b 98 cs):∀j u,([y].flatMap C0a)[j]? = some u->w.cell? ⟨b,0+j,none⟩=some u:=λj u hj=>by rw[Nat.zero_add,h.cell,hcs,<-hj];simp
theorem I1b{V:X0a}{p:o0a}{k:Int}(h:I1a V p k=0):r2a V p k=V.last+1/\F3a V p k=⟨V.quota,V.last+1,V.l++[⟨V.last+1,k,P0a V.l p,Q0a V.l p,[],[]⟩]⟩:=by unfold r2a F3a;rw[if_pos h,if_pos h];exact⟨rfl,rfl⟩
theorem O7b{V:X0a}{p:o0a}{k E:Int}(h:I1a V p k=E)(hE:E≠0):r2a V p k=0/\F3a V p k=V:=by unfold r2a F3a;rw[if_neg (by omega),if_neg (by omega)];exact⟨rfl,rfl⟩
theorem S3b{S:ByteArray}{s:o0a}(h:S.data.toList=s):S.size=0↔s=[]:=by rw[Lib.size_eq,h];exact List.length_eq_zero_iff
theorem B1c(w:World)(base g:Nat)(v:Value)(V:X0a)(M:List VP)(d:T2a w base g v V M)(hbase:base<=w.heap.size)(hl:V.last<1048576)(s:o0a)(hs:s.length<=1048576)(k:Int) :
  Calls Tryz.prog 82 #[.pointer (some ⟨g,0,none⟩),V0a s,.int .u8 k] w λe w'=>e=.returned (.tuple #[.int .i64 (r2a V s k),.int .i64 (I1a V s k)])/\u1a w base g v M (F3a V s k) w':=by
 have C1:=hI (T4a ⟨s.toArray⟩ w (by rw[W1a];omega));unfold e2a at C1;rw[show(⟨s.toArray⟩:ByteArray).data.toList=s from rfl] at C1;have C2:Hid (∀w1,Below w.heap.size w w1->_):=λw1 hb=>Y2b w1 base g v V M (d.below hb) s hs
 have C3:Hid (∀w1,Below w.heap.size w w1->_):=λw1 hb=>Q9a w1 base g v V M (d.below hb) (P0a V.l s) (Q0a V.l s) (by have:=H1b V.l s;omega)
 have hno:Hid (∀E,I1a V s k=E->E≠0->∀w',Below w.heap.size w w'->Ending.returned (.tuple #[.int .i64 0,.int .i64 E])=.returned (.tuple #[.int .i64 (r2a V s k),.int .i64 (I1a V s k)])/\u1a w base g v M (F3a V s k) w'):=λE h1 h2 w' hb=>by rw[(O7b h1 h2).1,(O7b h1 h2).2,h1];exact⟨rfl,d.stays hb⟩
 have hyes:Hid (I1a V s k=0->∀w',u1a w base g v M ⟨V.quota,V.last+1,V.l++[⟨V.last+1,k,P0a V.l s,Q0a V.l s,[],[]⟩]⟩ w'->Ending.returned (.tuple #[.int .i64 (V.last+1),.int .i64 0])=.returned (.tuple #[.int .i64 (r2a V s k),.int .i64 (I1a V s k)])/\u1a w base g v M (F3a V s k) w'):=λh w' hp=>by rw[(I1b h).1,(I1b h).2,h];exact⟨rfl,hp⟩
 have hvok:I1a V s k=0->Vok ⟨V.quota,V.last+1,V.l++[⟨V.last+1,k,P0a V.l s,Q0a V.l s,[],[]⟩]⟩:=λh=>by have:=d.ok.make s k;rw[(I1b h).2] at this;exact this
 have HVOK:=hI hvok;have hE:I1a V s k=if h0a s≠0 then h0a s else if s=[] then 8 else if l3a V.l s≠0 then l3a V.l s else if x0a V.l (P0a V.l s) (Q0a V.l s)≠0 then 8 else if k≠1/\k≠2 then 2 else if 256<=V.l.length then 3 else 0:=rfl
 obtain⟨A,c,rfl⟩:=d.len;have k0:w.cell? ⟨g,2,none⟩=some (.slice A V.l.length c):=d.blk.cell 2;have k1:w.cell? ⟨g,1,none⟩=some (.int .i64 V.last):=d.blk.cell 1;have hsm:=d.ok.many;have D:=hI d;obtain⟨S,hS⟩:∃S:ByteArray,S=⟨s.toArray⟩:=⟨_,rfl⟩;have hS1:V0a s=.string S:=by rw[hS];rfl
 have hS2:Hid (S.data.toList=s):=by rw[hS];rfl
 rw[<-hS] at C1;rw[hS1] at C2⊢;obtain⟨E1,hE1⟩:∃E,E=h0a s:=⟨_,rfl⟩;obtain⟨E2,hE2⟩:∃E,E=l3a V.l s:=⟨_,rfl⟩;obtain⟨dn,hdn⟩:∃E,E=P0a V.l s:=⟨_,rfl⟩;obtain⟨z,hz⟩:∃z,z=Q0a V.l s:=⟨_,rfl⟩;obtain⟨C,hC⟩:∃E,E=x0a V.l (P0a V.l s) (Q0a V.l s):=⟨_,rfl⟩;obtain⟨n,hn⟩:∃n,n=V.l.length:=⟨_,rfl⟩;obtain⟨la,hla⟩:∃n,n=V.last:=⟨_,rfl⟩;obtain⟨Z,hZ⟩:∃Z:ByteArray,Z=⟨z.toArray⟩:=⟨_,rfl⟩;have hZ1:V0a z=.string Z:=by rw[hZ];rfl
 have HZ1:=hI hZ1;have hla2:1<=la:=by rw[hla];have:=d.ok.num _ d.ok.mem1;omega
 rw[<-hE1,<-hE2,<-hC,<-hn] at hE;rw[<-hE1] at C1;rw[<-hE2,<-hdn,<-hz,hZ1] at C2;rw[<-hC,<-hdn,<-hz,hZ1] at C3;rw[<-hdn,<-hz,<-hla] at hyes HVOK;rw[<-hla] at hl k1;rw[<-hn] at k0 hsm;have HN:=hI hn;have HLA:=hI hla;have hgw:=d.blk.lt;clear d hS hS1 hE1 hE2 hdn hz hC hn hla hZ hZ1 hvok;go_enter Tryz.func82,Tryz.ntmps82;go_wp2_with fail;refine C1.out.mono ?_;rintro e w1 ⟨u,rfl,o1,l1⟩;have L1:=hI l1;have D2:=hI (C2.out w1 l1);clear l1 o1 C1 C2;by_cases h1:E1=0
 case neg=>
  rw[if_pos h1] at hE;have t:(E1 != 0)=true:=by simpa using h1
  have HF:=hI (hno.out _ hE h1);clear hE h1 hyes hno;go_wp2_with fail;go_ret2;exact HF.out _ L1.out
 rw[if_neg (λh=>h h1)] at hE;subst h1;by_cases h0:s=[]
 ·rw[if_pos h0] at hE;have t0:(S.toList==[])=true:=by rw[b4a];exact decide_eq_true ((S3b hS2.out).2 h0)
  have t1:S.toList.isEmpty=true:=by rw[S2a];exact decide_eq_true ((S3b hS2.out).2 h0)
  have HF:=hI (hno.out _ hE (by decide));clear hE h0 hyes hno;go_wp2_with fail;go_ret2;exact HF.out _ L1.out
 rw[if_neg h0] at hE;have t0:(S.toList==[])=false:=by rw[b4a];exact decide_eq_false λh=>h0 ((S3b hS2.out).1 h)
 have t1:S.toList.isEmpty=false:=by rw[S2a];exact decide_eq_false λh=>h0 ((S3b hS2.out).1 h)
 clear h0;go_wp2_with fail;refine D2.out.mono ?_;rintro e w2 ⟨rfl,l2⟩;have L2:=hI (step L1.out l2);have D3:=hI (C3.out w2 L2.out);clear l2 D2 C3;by_cases h2:E2=0
 case neg=>
  rw[if_pos h2] at hE;have t:(E2 != 0)=true:=by simpa using h2
  have HF:=hI (hno.out _ hE h2);clear hE h2 hyes hno;go_wp2_with fail;go_ret2;exact HF.out _ L2.out
 rw[if_neg (λh=>h h2)] at hE;subst h2;go_wp2_with fail;refine D3.out.mono ?_;rintro e w3 ⟨rfl,l3⟩;have L3:=hI (step L2.out l3);clear l3 D3;by_cases h3:C=0
 case neg=>
  rw[if_pos h3] at hE;have t:(C != 0)=true:=by simpa using h3
  have HF:=hI (hno.out _ hE (by decide));clear hE h3 hyes hno;go_wp2_with fail;go_ret2;exact HF.out _ L3.out
 rw[if_neg (λh=>h h3)] at hE;subst h3;by_cases hk:k=1∨k=2
 case neg=>
  rw[if_pos ⟨λh=>hk (.inl h),λh=>hk (.inr h)⟩] at hE;have t2:(k != 1)=true:=by simpa using λh=>hk (.inl h)
  have t3:(k != 2)=true:=by simpa using λh=>hk (.inr h)
  have HF:=hI (hno.out _ hE (by decide));clear hE hk hyes hno;go_wp2_with fail;go_ret2;exact HF.out _ L3.out
 rw[if_neg (λh=>by rcases hk with e | e;exact h.1 e;exact h.2 e)] at hE;have j0:w3.cell? ⟨g,2,none⟩=some (.slice A n c):=(L3.out.cell (d0a k0)).trans k0;by_cases h5:256<=n
 ·rw[if_pos h5] at hE;have h5':(256:Int)<=(n:Int):=by omega
  have HF:=hI (hno.out _ hE (by decide));clear hE hyes hno;rcases hk with rfl | rfl
  all_goals go_wp2_with fail
  all_goals go_ret2
  all_goals exact HF.out _ L3.out
 rw[if_neg h5] at hE;have h5':¬(256:Int)<=(n:Int):=by omega
 have HE0:=hI hE;have HF:=hI (hyes.out hE);have j1:w3.cell? ⟨g,1,none⟩=some (.int .i64 la):=(L3.out.cell (d0a k1)).trans k1;have B3:Hid (Blk w3 g 101 [.int .i64 V.quota,.int .i64 la,.slice A n c]):=by have:=(D.out.below L3.out).blk;rw[<-HN.out,<-HLA.out] at this;exact this
 have HML:Hid ((M.length+[(0:Nat)].length)*48<=140737488355328/\M.length+[(0:Nat)].length<=9223372036854775807):=by
  have h:M.length=V.l.length:=by rw[<-D.out.is,List.length_map]
  have h2:=HN.out;show _/\_
  simp only[List.length_cons,List.length_nil];omega
 have HVG:Hid (¬(Value.slice A n c).ownBlock=some g):=by have:=D.out.own_ne;rw[<-HN.out] at this;exact this
 have HVL:Hid (∀i,(Value.slice A n c).ownBlock=some i->i<w.heap.size):=λi hi=>by have h:=D.out.row;rw[<-HN.out] at h;exact h.lt hi
 have DROW:Hid (j1a C0a 5 98 w base (.slice A n c) M):=by have h:=D.out.row;rw[<-HN.out] at h;exact h
 have DD:Hid (T2a w base g (.slice A n c) V M):=by have h:=D.out;rw[<-HN.out] at h;exact h
 have HLL:Hid (la+1<=1048576):=by show _<=_;omega
 have ZN:Hid ((Tryz.prog.info? 98).map (λi=>(i.zero,i.size))=some (some (.agg G1a.toArray),5)):=j5b;have ZL:Hid (G1a.length=5):=rfl;obtain⟨zs,hzs⟩:∃zs,zs=G1a:=⟨_,rfl⟩;rw[<-hzs] at ZN ZL;clear hE hyes hno h5 hzs D;have D:=DD;rcases hk with rfl | rfl
 ·obtain⟨cs0,hcs0⟩:∃cs:List Value,cs=[.int .i64 (la+1),.int .u8 1,.int .i64 dn,.string Z,.pointer none]:=⟨_,rfl⟩;have CL0:Hid (cs0.length=5):=by rw[hcs0];rfl
  have CO0:Hid (∀u∈cs0,u.oneCell'=true):=by rw[hcs0];intro u hu;simp only[List.mem_cons,List.not_mem_nil,or_false] at hu;rcases hu with rfl | rfl | rfl | rfl | rfl<;>rfl
  have HCS0:=hI hcs0;clear hcs0;go_wp2_with(first
   | ((with_reducible refine sT 57 ?_);go_loud (refine q0a rfl _ (.tmp 57) (.tmp 55) rfl g 1 rfl _ _ (.int .i64 (la+1)) (by go_num) B3 (show 1<3 by omega) (by kernel_rfl) rfl ?_);intro w4 B4 O4 hg4;have j41:w4.cell? ⟨g,1,none⟩=some (.int .i64 (la+1)):=B4.out.cell 1)
   | ((with_reducible refine sN 65 ?_);go_loud (refine A0a rfl _ _ rfl cs0 (by rw[HCS0.out];kernel_rfl) ?_))
   | ((with_reducible refine sN 13 ?_);go_loud (refine i0a rfl _ rfl zs 5 ZN ?_);intro b w5 hb1 hb2 X5 L5;have hgb:g≠b:=(by omega);have B5:=hI (B4.out.over L5.out))
   | ((with_reducible refine sT 13 ?_);go_loud (refine l0a rfl _ (.tmp 13) (.tmp 65) rfl b rfl _ zs cs0 rfl X5 5 H3a ZL CL0 CO0 ?_);intro w6 X6 O6 hb6;have B6:=hI (B5.out.only O6.out hgb))
   | fail)
  have S6:Hid (g0a (λj=>j=g) w w6):=(((g0a.of_over (λj=>j=g) L3.out).trans (g0a.of_only O4.out) (λ_ _ h=>h)).trans (g0a.of_over (λ_=>False) L5.out) (λ_ _ h=>h.elim)).trans (g0a.of_only O6.out) (λj hj h=>by have h1:=L3.out.size;have h2:=O4.out.size;omega);have hbw:w.heap.size<=b:=by have h1:=L3.out.size;have h2:=O4.out.size;omega
  obtain⟨y,hy⟩:∃y:VP,y=(⟨la+1,1,dn,z,[],[]⟩,none):=⟨_,rfl⟩;have HCS:Hid ([.int .i64 (la+1),.int .u8 1,.int .i64 dn,.string Z,.pointer none]=C0a y):=by rw[hy];unfold C0a;rw[HZ1.out];rfl
  have XZ:Hid (Blk w6 b 98 [.int .i64 (la+1),.int .u8 1,.int .i64 dn,.string Z,.pointer none]):=by have:=X6.out;rw[HCS0.out] at this;exact this
  have CL:Hid (([.int .i64 (la+1),.int .u8 1,.int .i64 dn,.string Z,.pointer none]:List Value).length=5):=rfl;have BZ:Hid (Blk w6 g 101 [.int .i64 V.quota,.int .i64 (la+1),.slice A n c]):=B6.out;have HY:=hI hy;obtain⟨wz,hwz⟩:∃wz,wz=w6:=⟨_,rfl⟩;rw[<-hwz] at XZ BZ S6⊢;have SZ:=S6;have HVB:Hid (¬(Value.slice A n c).ownBlock=some b):=λe=>by have:=HVL.out b e;omega
  have OZ:Hid (j1a C0a 5 98 wz base (.slice A n c) M):=DROW.out.sparS SZ.out (λi hi e=>HVG.out (e▸hi));have HY1:Hid ([y].map (·.1)=[⟨la+1,1,dn,z,[],[]⟩]):=by rw[HY.out];rfl
  clear hy hwz;go_upto_region 19 with fail
  refine m1a 8 (λw'=>w'.cell? ⟨g,2,none⟩=some (.slice A n c)/\w'.rangeAt b 0 [.int .i64 (la+1),.int .u8 1,.int .i64 dn,.string Z,.pointer none]) (by kernel_rfl) ?_;change K2a _ _ _ _ _ _ _ _ _ wz.drew
  have Q0:Hid (wz.drew.cell? ⟨g,2,none⟩=some (.slice A n c)/\wz.drew.rangeAt b 0 [.int .i64 (la+1),.int .u8 1,.int .i64 dn,.string Z,.pointer none]):=⟨BZ.out.cell 2,λj v h=>(XZ.out.range 0) j v h⟩;refine c0a (i:=0) (v:=_) rfl (by kernel_rfl) (by kernel_rfl) (by kernel_rfl) (λ_ _ _ h=>h) rfl (by kernel_rfl) (by kernel_rfl) (by decide) (a0a (by kernel_rfl) (.tmp 0) rfl (.pointer (some ⟨g,0,none⟩)) (by kernel_rfl)) Q0.out ?_;refine c0a (i:=1) (v:=_) rfl (by kernel_rfl) (by kernel_rfl) (by kernel_rfl) (λ_ _ _ h=>h) rfl (by kernel_rfl) (by kernel_rfl) (by decide) (a0a (by kernel_rfl) (.tmp 0) rfl (.pointer (some ⟨g,0,none⟩)) (by kernel_rfl)) Q0.out ?_;refine c0a (i:=2) (v:=_) rfl (by kernel_rfl) (by kernel_rfl) (by kernel_rfl) (λ_ _ _ h=>h) rfl (by kernel_rfl) (by kernel_rfl) (by decide) (p0a (by kernel_rfl) (.tmp 72) rfl ⟨g,0,none⟩ (by kernel_rfl)) Q0.out ?_;refine c0a (i:=3) (v:=_) rfl (by kernel_rfl) (by kernel_rfl) (by kernel_rfl) (λ_ _ _ h=>h) rfl (by kernel_rfl) (by kernel_rfl) (by decide) (e0a (by kernel_rfl) _ (.tmp 73) 2 rfl (.pointer (some ⟨g,0,none⟩)) (.pointer (some ⟨g,2,none⟩)) (by kernel_rfl) (λw=>by go_simp)) Q0.out ?_;refine c0a (i:=4) (v:=_) rfl (by kernel_rfl) (by kernel_rfl) (by kernel_rfl) (λ_ _ _ h=>h) rfl (by kernel_rfl) (by kernel_rfl) (by decide) (b0a (by kernel_rfl) _ (.tmp 74) rfl g (2) (by kernel_rfl) (.slice A n c) (λ_ h=>h.1) _ Tryz.underlying99 rfl) Q0.out ?_;refine c0a (i:=5) (v:=_) rfl (by kernel_rfl) (by kernel_rfl) (by kernel_rfl) (λ_ _ _ h=>h) rfl (by kernel_rfl) (by kernel_rfl) (by decide) (j3a (by kernel_rfl) _ (.tmp 13) rfl b 0 (by kernel_rfl) [.int .i64 (la+1),.int .u8 1,.int .i64 dn,.string Z,.pointer none] (λ_ h=>h.2) 5 _ Tryz.underlying98 rfl H3a CL) Q0.out ?_;refine n0a 6 _ (by kernel_rfl) rfl λK hK=>?_
  refine b2a rfl _ _ _ _ rfl Tryz.underlying99 [.int .i64 (la+1),.int .u8 1,.int .i64 dn,.string Z,.pointer none] (by kernel_rfl) ?_;intro gv w9 hgv hgv2 V9 l9;have R9:=hI ((Below.refl wz.heap.size wz).drew.trans l9.out);have O9:=hI (OZ.out.below R9.out);have B9:=hI (BZ.out.over R9.out);have X9:=hI (XZ.out.over R9.out);have hb9:base<=w9.heap.size:=Nat.le_trans hbase (Nat.le_trans SZ.out.size R9.out.size);refine hK _ _ (λ_=>⟨B9.out.cell 2,λj v h=>(X9.out.range 0) j v h⟩) ?_;clear hK K;refine n0a 7 _ (by kernel_rfl) rfl λK hK=>?_
  refine k3a rfl (.tmp 75) (.tmp 77) C0a 5 (by decide) K0a N1a (.agg G1a.toArray) rfl 99 98 48 Tryz.underlying99 Z2a rfl base _ M (by kernel_rfl) O9.out gv 0 1 1 [y] (by kernel_rfl) rfl (Z2b y [.int .i64 (la+1),.int .u8 1,.int .i64 dn,.string Z,.pointer none] HCS.out _ gv V9.out) HML.out.1 HML.out.2 hb9 ?_;intro v' w10 O10 S10 N10;have B10:=hI (B9.out.spare S10.out HVG.out);have X10:=hI (X9.out.spare S10.out HVB.out);refine hK _ _ (λ_=>⟨B10.out.cell 2,λj v h=>(X10.out.range 0) j v h⟩) ?_;clear hK K;refine n0a 8 _ (by kernel_rfl) rfl λK hK=>?_
  go_simp;refine hK _ _ (λh=>Bool.noConfusion (show true=false from h)) ?_;clear hK K;refine n0a 9 _ (by kernel_rfl) rfl λK hK=>?_
  go_simp;refine hK _ _ (λh=>Bool.noConfusion (show true=false from h)) ?_;clear hK K;refine Q1a λa1 ha1=>?_
  have e1_80:a1.eval (.tmp 80)=.pointer (some ⟨g,2,none⟩):=by rw[ha1];kernel_rfl
  have e1_78:a1.eval (.tmp 78)=v':=by rw[ha1];kernel_rfl
  refine n0a 10 _ (by kernel_rfl) rfl λK hK=>?_
  refine B1a (by kernel_rfl) 99 (.tmp 80) (.tmp 78) (by kernel_rfl) g 2 e1_80 101 _ v' e1_78 B10 (show 2<3 by omega) (by kernel_rfl) O10.out.oneCD ?_;intro w11 B11 P11 hg11;refine hK _ _ (λh=>Bool.noConfusion (show true=false from h)) ?_;clear hK K;rw[ha1];refine K1a (by kernel_rfl) ?_ _;have j11:w11.cell? ⟨g,1,none⟩=some (.int .i64 (la+1)):=B11.out.cell 1;have B11':Hid (Blk w11 g 101 [.int .i64 V.quota,.int .i64 (la+1),v']):=B11.out;have SA:g0a (rvS g (.slice A n c)) w wz:=SZ.out.mono λj _ e=>.inl e
  have SF:=hI (((SA.trans (g0a.of_over (λ_=>False) R9.out) (λ_ _ h=>h.elim)).trans S10.out (λj _ h=>.inr h)).trans (g0a.of_only P11.out) (λj _ h=>.inl h));have NF:Hid (Z0a w (.slice A n c) v'):=λi hi=>(N10.out i hi).imp id (λh=>Nat.le_trans (Nat.le_trans SZ.out.size R9.out.size) h)
  have OF:Hid (j1a C0a 5 98 w11 base v' (M++[y])):=O10.out.sparS (g0a.of_only P11.out) (λi hi e=>absurd (B10.out.typ.same (e▸(O10.out.block hi).2)) (by decide));go_wp2_with fail;go_ret2;refine HF.out _ ?_;rw[<-HN.out];refine D.out.turned SF.out B11'.out OF.out NF.out (by rw[List.map_append,D.out.is,HY1.out]) (λq hq=>?_) (HVOK.out HE0.out) HLL.out;rcases List.mem_append.1 hq with h | h
  ·exact .inl ⟨q,h,rfl,rfl,rfl,rfl⟩
  ·obtain rfl:q=y:=by simpa using h
   refine .inr (by rw[HY.out];exact .inl ⟨rfl,rfl⟩)
 ·obtain⟨cs0,hcs0⟩:∃cs:List Value,cs=[.int .i64 (la+1),.int .u8 2,.int .i64 dn,.string Z,.pointer none]:=⟨_,rfl⟩;have CL0:Hid (cs0.length=5):=by rw[hcs0];rfl
  have CO0:Hid (∀u∈cs0,u.oneCell'=true):=by rw[hcs0];intro u hu;simp only[List.mem_cons,List.not_mem_nil,or_false] at hu;rcases hu with rfl | rfl | rfl | rfl | rfl<;>rfl
  have HCS0:=hI hcs0;clear hcs0;go_wp2_with(first
   | ((with_reducible refine sT 57 ?_);go_loud (refine q0a rfl _ (.tmp 57) (.tmp 55) rfl g 1 rfl _ _ (.int .i64 (la+1)) (by go_num) B3 (show 1<3 by omega) (by kernel_rfl) rfl ?_);intro w4 B4 O4 hg4;have j41:w4.cell? ⟨g,1,none⟩=some (.int .i64 (la+1)):=B4.out.cell 1)
   | ((with_reducible refine sN 65 ?_);go_loud (refine A0a rfl _ _ rfl cs0 (by rw[HCS0.out];kernel_rfl) ?_))
   | ((with_reducible refine sN 13 ?_);go_loud (refine i0a rfl _ rfl zs 5 ZN ?_);intro b w5 hb1 hb2 X5 L5;have hgb:g≠b:=(by omega);have B5:=hI (B4.out.over L5.out))
   | ((with_reducible refine sT 13 ?_);go_loud (refine l0a rfl _ (.tmp 13) (.tmp 65) rfl b rfl _ zs cs0 rfl X5 5 H3a ZL CL0 CO0 ?_);intro w6 X6 O6 hb6;have B6:=hI (B5.out.only O6.out hgb))
   | ((with_reducible refine sN 68 ?_);go_loud (refine J2a rfl _ rfl [.slice none 0 0,.slice none 0 0] (by kernel_rfl) ?_))
   | ((with_reducible refine sN 69 ?_);go_loud (refine v0a rfl _ (.tmp 68) rfl [.slice none 0 0,.slice none 0 0] rfl ?_);intro bd w7 hd1 hd2 Y7 L7;have X7:=hI (X6.out.over L7.out);have B7:=hI (B6.out.over L7.out);have hdb:bd≠b:=(by omega))
   | ((with_reducible refine sT 70 ?_);go_loud (refine q0a rfl _ (.tmp 70) (.tmp 69) rfl b 4 rfl _ _ (.pointer (some ⟨bd,0,none⟩)) rfl X7 (by show 4<cs0.length;rw[CL0.out];omega) (by kernel_rfl) rfl ?_);intro w8 X8 O8 hb8;have B8:=hI (B7.out.only O8.out hgb);have Y8:=hI (Y7.out.only O8.out hdb))
   | fail)
  have S6:Hid (g0a (λj=>j=g) w w8):=(((((g0a.of_over (λj=>j=g) L3.out).trans (g0a.of_only O4.out) (λ_ _ h=>h)).trans (g0a.of_over (λ_=>False) L5.out) (λ_ _ h=>h.elim)).trans (g0a.of_only O6.out) (λj hj h=>by have h1:=L3.out.size;have h2:=O4.out.size;omega)).trans (g0a.of_over (λ_=>False) L7.out) (λ_ _ h=>h.elim)).trans (g0a.of_only O8.out) (λj hj h=>by have h1:=L3.out.size;have h2:=O4.out.size;omega);have hbw:w.heap.size<=b:=by have h1:=L3.out.size;have h2:=O4.out.size;omega
  have hdw:w.heap.size<=bd:=by have h1:=L5.out.size;have h2:=O6.out.size;omega
  obtain⟨y,hy⟩:∃y:VP,y=(⟨la+1,2,dn,z,[],[]⟩,some (bd,.slice none 0 0,.slice none 0 0)):=⟨_,rfl⟩;have HCS:Hid ([.int .i64 (la+1),.int .u8 2,.int .i64 dn,.string Z,.pointer (some ⟨bd,0,none⟩)]=C0a y):=by rw[hy];unfold C0a;rw[HZ1.out];rfl
  have XZ:Hid (Blk w8 b 98 [.int .i64 (la+1),.int .u8 2,.int .i64 dn,.string Z,.pointer (some ⟨bd,0,none⟩)]):=by have:=X8.out;rw[HCS0.out] at this;exact this
  have CL:Hid (([.int .i64 (la+1),.int .u8 2,.int .i64 dn,.string Z,.pointer (some ⟨bd,0,none⟩)]:List Value).length=5):=rfl;have BZ:Hid (Blk w8 g 101 [.int .i64 V.quota,.int .i64 (la+1),.slice A n c]):=B8.out;have HY:=hI hy;obtain⟨wz,hwz⟩:∃wz,wz=w8:=⟨_,rfl⟩;rw[<-hwz] at XZ BZ S6 Y8⊢;have hdz:bd<wz.heap.size:=Y8.out.lt;have SZ:=S6;have HVB:Hid (¬(Value.slice A n c).ownBlock=some b):=λe=>by have:=HVL.out b e;omega
  have OZ:Hid (j1a C0a 5 98 wz base (.slice A n c) M):=DROW.out.sparS SZ.out (λi hi e=>HVG.out (e▸hi));have HY1:Hid ([y].map (·.1)=[⟨la+1,2,dn,z,[],[]⟩]):=by rw[HY.out];rfl
  clear hy hwz;go_upto_region 19 with fail
  refine m1a 8 (λw'=>w'.cell? ⟨g,2,none⟩=some (.slice A n c)/\w'.rangeAt b 0 [.int .i64 (la+1),.int .u8 2,.int .i64 dn,.string Z,.pointer (some ⟨bd,0,none⟩)]) (by kernel_rfl) ?_;change K2a _ _ _ _ _ _ _ _ _ wz.drew
  have Q0:Hid (wz.drew.cell? ⟨g,2,none⟩=some (.slice A n c)/\wz.drew.rangeAt b 0 [.int .i64 (la+1),.int .u8 2,.int .i64 dn,.string Z,.pointer (some ⟨bd,0,none⟩)]):=⟨BZ.out.cell 2,λj v h=>(XZ.out.range 0) j v h⟩;refine c0a (i:=0) (v:=_) rfl (by kernel_rfl) (by kernel_rfl) (by kernel_rfl) (λ_ _ _ h=>h) rfl (by kernel_rfl) (by kernel_rfl) (by decide) (a0a (by kernel_rfl) (.tmp 0) rfl (.pointer (some ⟨g,0,none⟩)) (by kernel_rfl)) Q0.out ?_;refine c0a (i:=1) (v:=_) rfl (by kernel_rfl) (by kernel_rfl) (by kernel_rfl) (λ_ _ _ h=>h) rfl (by kernel_rfl) (by kernel_rfl) (by decide) (a0a (by kernel_rfl) (.tmp 0) rfl (.pointer (some ⟨g,0,none⟩)) (by kernel_rfl)) Q0.out ?_;refine c0a (i:=2) (v:=_) rfl (by kernel_rfl) (by kernel_rfl) (by kernel_rfl) (λ_ _ _ h=>h) rfl (by kernel_rfl) (by kernel_rfl) (by decide) (p0a (by kernel_rfl) (.tmp 72) rfl ⟨g,0,none⟩ (by kernel_rfl)) Q0.out ?_;refine c0a (i:=3) (v:=_) rfl (by kernel_rfl) (by kernel_rfl) (by kernel_rfl) (λ_ _ _ h=>h) rfl (by kernel_rfl) (by kernel_rfl) (by decide) (e0a (by kernel_rfl) _ (.tmp 73) 2 rfl (.pointer (some ⟨g,0,none⟩)) (.pointer (some ⟨g,2,none⟩)) (by kernel_rfl) (λw=>by go_simp)) Q0.out ?_;refine c0a (i:=4) (v:=_) rfl (by kernel_rfl) (by kernel_rfl) (by kernel_rfl) (λ_ _ _ h=>h) rfl (by kernel_rfl) (by kernel_rfl) (by decide) (b0a (by kernel_rfl) _ (.tmp 74) rfl g (2) (by kernel_rfl) (.slice A n c) (λ_ h=>h.1) _ Tryz.underlying99 rfl) Q0.out ?_;refine c0a (i:=5) (v:=_) rfl (by kernel_rfl) (by kernel_rfl) (by kernel_rfl) (λ_ _ _ h=>h) rfl (by kernel_rfl) (by kernel_rfl) (by decide) (j3a (by kernel_rfl) _ (.tmp 13) rfl b 0 (by kernel_rfl) [.int .i64 (la+1),.int .u8 2,.int .i64 dn,.string Z,.pointer (some ⟨bd,0,none⟩)] (λ_ h=>h.2) 5 _ Tryz.underlying98 rfl H3a CL) Q0.out ?_;refine n0a 6 _ (by kernel_rfl) rfl λK hK=>?_
  refine b2a rfl _ _ _ _ rfl Tryz.underlying99 [.int .i64 (la+1),.int .u8 2,.int .i64 dn,.string Z,.pointer (some ⟨bd,0,none⟩)] (by kernel_rfl) ?_;intro gv w9 hgv hgv2 V9 l9;have R9:=hI ((Below.refl wz.heap.size wz).drew.trans l9.out);have O9:=hI (OZ.out.below R9.out);have B9:=hI (BZ.out.over R9.out);have X9:=hI (XZ.out.over R9.out);have hb9:base<=w9.heap.size:=Nat.le_trans hbase (Nat.le_trans SZ.out.size R9.out.size);refine hK _ _ (λ_=>⟨B9.out.cell 2,λj v h=>(X9.out.range 0) j v h⟩) ?_;clear hK K;refine n0a 7 _ (by kernel_rfl) rfl λK hK=>?_
  refine k3a rfl (.tmp 75) (.tmp 77) C0a 5 (by decide) K0a N1a (.agg G1a.toArray) rfl 99 98 48 Tryz.underlying99 Z2a rfl base _ M (by kernel_rfl) O9.out gv 0 1 1 [y] (by kernel_rfl) rfl (Z2b y [.int .i64 (la+1),.int .u8 2,.int .i64 dn,.string Z,.pointer (some ⟨bd,0,none⟩)] HCS.out _ gv V9.out) HML.out.1 HML.out.2 hb9 ?_;intro v' w10 O10 S10 N10;have B10:=hI (B9.out.spare S10.out HVG.out);have X10:=hI (X9.out.spare S10.out HVB.out);refine hK _ _ (λ_=>⟨B10.out.cell 2,λj v h=>(X10.out.range 0) j v h⟩) ?_;clear hK K;refine n0a 8 _ (by kernel_rfl) rfl λK hK=>?_
  go_simp;refine hK _ _ (λh=>Bool.noConfusion (show true=false from h)) ?_;clear hK K;refine n0a 9 _ (by kernel_rfl) rfl λK hK=>?_
  go_simp;refine hK _ _ (λh=>Bool.noConfusion (show true=false from h)) ?_;clear hK K;refine Q1a λa1 ha1=>?_
  have e1_80:a1.eval (.tmp 80)=.pointer (some ⟨g,2,none⟩):=by rw[ha1];kernel_rfl
  have e1_78:a1.eval (.tmp 78)=v':=by rw[ha1];kernel_rfl
  refine n0a 10 _ (by kernel_rfl) rfl λK hK=>?_
  refine B1a (by kernel_rfl) 99 (.tmp 80) (.tmp 78) (by kernel_rfl) g 2 e1_80 101 _ v' e1_78 B10 (show 2<3 by omega) (by kernel_rfl) O10.out.oneCD ?_;intro w11 B11 P11 hg11;refine hK _ _ (λh=>Bool.noConfusion (show true=false from h)) ?_;clear hK K;rw[ha1];refine K1a (by kernel_rfl) ?_ _;have j11:w11.cell? ⟨g,1,none⟩=some (.int .i64 (la+1)):=B11.out.cell 1;have B11':Hid (Blk w11 g 101 [.int .i64 V.quota,.int .i64 (la+1),v']):=B11.out;have SA:g0a (rvS g (.slice A n c)) w wz:=SZ.out.mono λj _ e=>.inl e
  have SF:=hI (((SA.trans (g0a.of_over (λ_=>False) R9.out) (λ_ _ h=>h.elim)).trans S10.out (λj _ h=>.inr h)).trans (g0a.of_only P11.out) (λj _ h=>.inl h));have NF:Hid (Z0a w (.slice A n c) v'):=λi hi=>(N10.out i hi).imp id (λh=>Nat.le_trans (Nat.le_trans SZ.out.size R9.out.size) h)
  have OF:Hid (j1a C0a 5 98 w11 base v' (M++[y])):=O10.out.sparS (g0a.of_only P11.out) (λi hi e=>absurd (B10.out.typ.same (e▸(O10.out.block hi).2)) (by decide));have DF:Hid (D6a w11 base bd (.slice none 0 0) (.slice none 0 0) [] []):=⟨Nat.le_trans hbase hdw,(((Y8.out.over R9.out).spare S10.out (λe=>by have:=HVL.out bd e;omega)).only P11.out (λe=>by rw[e] at hdw;omega)),t1a.nil _ _ _ _,t1a.nil _ _ _ _,rfl,by decide,by intro x hx;cases hx⟩;have HDF:Hid (∀j,rdS bd (.slice none 0 0) (.slice none 0 0) j->w.heap.size<=j):=λj hj=>by
   rcases hj with rfl | hj | hj
   ·exact hdw
   ·cases hj
   ·cases hj
  go_wp2_with fail;go_ret2;refine HF.out _ ?_;rw[<-HN.out];refine D.out.turned SF.out B11'.out OF.out NF.out (by rw[List.map_append,D.out.is,HY1.out]) (λq hq=>?_) (HVOK.out HE0.out) HLL.out;rcases List.mem_append.1 hq with h | h
  ·exact .inl ⟨q,h,rfl,rfl,rfl,rfl⟩
  ·obtain rfl:q=y:=by simpa using h
   refine .inr (by rw[HY.out];exact .inr ⟨rfl,bd,_,_,rfl,DF.out,HDF.out⟩)
section
variable {α:Type} {f:α->List Value} {s:Nat} {w:World} {B b:Nat} {A:Option Addr} {n c m:Nat} {xs:List α}
theorem L0a.preV(h:L0a f s w B A n c xs)(hm:m<=n):L0a f s w B A m c (xs.take m):=
 ⟨by have:=h.len;rw[List.length_take];omega,Nat.le_trans hm h.fit,h.bare,λh0=>by
  obtain⟨b,off,e,hb,hc⟩:=h.cells (by omega);refine⟨b,off,e,hb,λi x hi=>hc i x ?_⟩;rw[List.getElem?_take] at hi;split at hi
  ·exact hi
  ·cases hi⟩
theorem L0a.dropV(h:L0a f s w B (some ⟨b,0,none⟩) n c xs)(hm:m<n):L0a f s w B (some ⟨b,m*s,none⟩) (n-m) (c-m) (xs.drop m):=
 ⟨by have:=h.len;rw[List.length_drop];omega,by have:=h.fit;omega,(by intro e;cases e),λh0=>by
  obtain⟨b',off,e,hb,hc⟩:=h.cells (by omega);injection e with e
  injection e with e1 e2 e3
  subst e1 e2;refine⟨b,m*s,rfl,hb,λi x hi j u hj=>?_⟩;rw[List.getElem?_drop] at hi;have:=hc (m+i) x hi j u hj;rw[Nat.zero_add,Nat.add_mul,Nat.add_assoc] at this;exact this⟩
theorem L0a.noneV(hn:n=0)(hA:A=none->c=0):L0a f s w B A n c []:=⟨hn.symm,by omega,hA,λh=>absurd h (by omega)⟩
end
theorem w8a{α:Type}(l:List α)(i:Nat):l.eraseIdx i=l.take i++l.drop (i+1):=List.eraseIdx_eq_take_drop_succ l i
theorem l5b(w:World)(base g:Nat)(v:Value)(V:X0a)(M:List VP)(d:T2a w base g v V M)(hbase:base<=w.heap.size)(m:Int)(y:k0a)(ha:vAt V.l m=some y)(h1:m≠1)(he:∀x∈V.l,x.n≠1->x.par≠m) :
  Calls Tryz.prog 130 #[.pointer (some ⟨g,0,none⟩),.int .i64 m] w λe w'=>e=.returned (.tuple #[])/\u1a w base g v M ⟨V.quota,V.last,z1a V.l m⟩ w':=by
 have HOK:=hI (d.ok.away ha h1 he);have CP:=hI (V2a w base g _ V M d m);obtain⟨hi,_⟩:=List.getElem?_eq_some_iff.1 ha;have hpl:C3a V.l m=(vIx V.l m:Int):=if_pos hi;rw[hpl] at CP;have hML:M.length=V.l.length:=by rw[<-d.is,List.length_map]
 have hsm:=d.ok.many;obtain⟨q,c,e⟩:=d.row.form (by omega);subst e;have k0:w.cell? ⟨g,2,none⟩=some (.slice (some ⟨q,0,none⟩) M.length c):=d.blk.cell 2;have hnc:M.length<=c/\c<=maxLen:=by obtain⟨_,_,h3,h4,_⟩:=d.row.blk;exact⟨h3,h4⟩
 obtain⟨hnc,hcm⟩:=hnc;have hcm':c<=9223372036854775807:=by unfold maxLen at hcm;omega
 have hold:L0a C0a 5 w w.heap.size (some ⟨q,0,none⟩) M.length c M:=by
  obtain⟨A,n',c',e,hh⟩:=d.row.holds (by decide) K0a;injection e with e1 e2 e3
  subst e1 e2 e3;exact hh
 have D:=hI d;have HML:=hI hML;obtain⟨i,hii⟩:∃i,i=vIx V.l m:=⟨_,rfl⟩;rw[<-hii] at CP hi;have HII:=hI hii;obtain⟨n,hn⟩:∃n,n=M.length:=⟨_,rfl⟩;rw[<-hn] at k0 hnc hold;have HN:=hI hn;have hin:i<n:=by omega
 have hn256:n<=256:=by omega
 have HH:=hI hold;have hgw:=d.blk.lt;have HP:=hI (hold.preV (show i<=n by omega));have HLA:Hid (([]:List VP).length+(M.take i).length<=256):=by show _<=_;rw[List.length_take];simp;omega
 have HLB:Hid ((([]:List VP)++M.take i).length+(M.drop (i+1)).length<=256):=by show _<=_;simp;omega
 have h0:¬c=i:=by omega
 have h0':¬c=0:=by omega
 have hic:i<=c:=by omega
 have hic1:i+1<=c:=by omega
 have BV:Hid (Blk w g 101 [.int .i64 V.quota,.int .i64 V.last,.slice (some ⟨q,0,none⟩) n c]):=by rw[hn];exact d.blk
 have FIN:Hid (∀w3 w4 v3,j1a C0a 5 98 w3 w.heap.size v3 (([]++M.take i)++M.drop (i+1))->Below w.heap.size w w3->Blk w4 g 101 [.int .i64 V.quota,.int .i64 V.last,v3]->S1a g w3 w4->u1a w base g (.slice (some ⟨q,0,none⟩) M.length c) M ⟨V.quota,V.last,z1a V.l m⟩ w4):=λw3 w4 v3 o3 l3 b4 p4=>by
  have hlt:∀i,v3.ownBlock=some i->w.heap.size<=i:=λi hi=>(o3.block hi).1
  have e3:([]++M.take i)++M.drop (i+1)=M.eraseIdx i:=by rw[List.nil_append,w8a]
  rw[e3] at o3;refine D.out.turned ((g0a.of_over (rvS g (.slice (some ⟨q,0,none⟩) M.length c)) l3).trans (g0a.of_only p4) (λj _ h=>.inl h)) b4 ((o3.sparS (g0a.of_only p4) λi hi e=>by have h1:=hlt i hi;have h2:=D.out.blk.lt;omega).mono hbase) (λi hi=>.inr (hlt i hi)) ?_ (λz hz=>.inl ⟨z,List.mem_of_mem_eraseIdx hz,rfl,rfl,rfl,rfl⟩) HOK.out D.out.big;show(M.eraseIdx i).map (·.1)=V.l.eraseIdx (vIx V.l m)
  rw[<-HII.out,<-D.out.is,w8a,w8a,List.map_append,List.map_take,List.map_drop]
 clear d hi hpl hML hcm hold hii hn ha he;by_cases hcn:c=i+1
 ·subst hcn;obtain rfl:n=i+1:=by omega
  have HD:Hid (L0a C0a 5 w w.heap.size (some ⟨q,0,none⟩) 0 0 (M.drop (i+1))):=by rw[List.drop_of_length_le (by have:=HN.out;omega)];exact L0a.noneV rfl (by intro e;cases e)
  go_enter Tryz.func130,Tryz.ntmps130;go_wp2_with fail;refine CP.out.mono ?_;rintro e w1 ⟨rfl,rfl⟩;go_wp2_with(first
   | ((with_reducible refine sN 16 ?_);go_loud (refine o1a rfl (.tmp 9) (.tmp 15) C0a 5 (by decide) K0a N1a (.agg G1a.toArray) rfl 99 98 48 Tryz.underlying99 Z2a rfl w1.heap.size _ [] rfl (j1a.nil _ _ _ _ _) w1.heap.size _ _ _ (M.take i) rfl HP.out (by have:=HLA.out;omega) (by have:=HLA.out;omega) (Nat.le_refl _) ?_);intro v2 w2 O2 L2;have j2:w2.cell? ⟨g,2,none⟩=some (.slice (some ⟨q,0,none⟩) (i+1) (i+1)):=(L2.out.cell hgw).trans k0)
   | ((with_reducible refine sN 26 ?_);go_loud (refine o1a rfl (.tmp 18) (.tmp 25) C0a 5 (by decide) K0a N1a (.agg G1a.toArray) rfl 99 98 48 Tryz.underlying99 Z2a rfl w1.heap.size _ _ rfl O2.out w1.heap.size _ _ _ (M.drop (i+1)) rfl (HD.out.below L2.out) (by have:=HLB.out;omega) (by have:=HLB.out;omega) L2.out.size ?_);intro v3 w3 O3 L3;have L13:=hI (L2.out.trans L3.out);have B3:=hI (BV.out.over L13.out))
   | ((with_reducible refine sT 28 ?_);go_loud (refine q0a rfl _ (.tmp 28) (.tmp 26) rfl g 2 rfl _ _ v3 rfl B3 (show 2<3 by omega) (by kernel_rfl) O3.out.oneCD ?_);intro w4 B4 P4 hg4)
   | fail)
  go_end0;exact⟨rfl,FIN.out _ _ _ O3.out L13.out B4.out P4.out⟩
 ·have hcn':¬c=i+1:=hcn;have HD:Hid (L0a C0a 5 w w.heap.size (some ⟨q,(i+1)*5,none⟩) (n-(i+1)) (c-(i+1)) (M.drop (i+1))):=by
   by_cases hl:i+1<n
   ·exact HH.out.dropV hl
   ·rw[List.drop_of_length_le (by have:=HN.out;omega)];exact⟨by simp;omega,by omega,(by intro e;cases e),λh=>absurd h (by omega)⟩
  go_enter Tryz.func130,Tryz.ntmps130;go_wp2_with fail;refine CP.out.mono ?_;rintro e w1 ⟨rfl,rfl⟩;go_wp2_with(first
   | ((with_reducible refine sN 16 ?_);go_loud (refine o1a rfl (.tmp 9) (.tmp 15) C0a 5 (by decide) K0a N1a (.agg G1a.toArray) rfl 99 98 48 Tryz.underlying99 Z2a rfl w1.heap.size _ [] rfl (j1a.nil _ _ _ _ _) w1.heap.size _ _ _ (M.take i) rfl HP.out (by have:=HLA.out;omega) (by have:=HLA.out;omega) (Nat.le_refl _) ?_);intro v2 w2 O2 L2;have j2:w2.cell? ⟨g,2,none⟩=some (.slice (some ⟨q,0,none⟩) n c):=(L2.out.cell hgw).trans k0)
   | ((with_reducible refine sN 26 ?_);go_loud (refine o1a rfl (.tmp 18) (.tmp 25) C0a 5 (by decide) K0a N1a (.agg G1a.toArray) rfl 99 98 48 Tryz.underlying99 Z2a rfl w1.heap.size _ _ rfl O2.out w1.heap.size _ _ _ (M.drop (i+1)) rfl (HD.out.below L2.out) (by have:=HLB.out;omega) (by have:=HLB.out;omega) L2.out.size ?_);intro v3 w3 O3 L3;have L13:=hI (L2.out.trans L3.out);have B3:=hI (BV.out.over L13.out))
   | ((with_reducible refine sT 28 ?_);go_loud (refine q0a rfl _ (.tmp 28) (.tmp 26) rfl g 2 rfl _ _ v3 rfl B3 (show 2<3 by omega) (by kernel_rfl) O3.out.oneCD ?_);intro w4 B4 P4 hg4)
   | fail)
  go_end0;exact⟨rfl,FIN.out _ _ _ O3.out L13.out B4.out P4.out⟩
theorem B3c{V:X0a}{m:Int}(h:D3a V.l m=0):U6a V m=⟨V.quota,V.last,z1a V.l m⟩:=by unfold U6a;rw[if_pos h]
theorem D4c{V:X0a}{m:Int}(h:D3a V.l m≠0):U6a V m=V:=by unfold U6a;rw[if_neg h]
theorem F6b(w:World)(base g:Nat)(v:Value)(V:X0a)(M:List VP)(d:T2a w base g v V M)(hbase:base<=w.heap.size)(m:Int) :
  Calls Tryz.prog 83 #[.pointer (some ⟨g,0,none⟩),.int .i64 m] w λe w'=>e=.returned (.int .i64 (D3a V.l m))/\u1a w base g v M (U6a V m) w':=by
 have C1:=hI (X2b w base g v V M d m);have C2:Hid (∀w1,Below w.heap.size w w1->_):=λw1 hb=>O8b w1 base g v V M (d.below hb) m
 have hE:D3a V.l m=if q1a V.l m≠0 then q1a V.l m else if s4a V.l m=false then 16 else 0:=rfl
 have hno:Hid (∀E,D3a V.l m=E->E≠0->∀w',Below w.heap.size w w'->Ending.returned (.int .i64 E)=.returned (.int .i64 (D3a V.l m))/\u1a w base g v M (U6a V m) w'):=λE h1 h2 w' hb=>by rw[D4c (by omega),h1];exact⟨rfl,d.stays hb⟩
 have C3:Hid (∀w1,Below w.heap.size w w1->D3a V.l m=0->Calls Tryz.prog 130 #[.pointer (some ⟨g,0,none⟩),.int .i64 m] w1 λe w'=>e=.returned (.tuple #[])/\(Ending.returned (.int .i64 0)=.returned (.int .i64 (D3a V.l m))/\u1a w base g v M (U6a V m) w')):=λw1 hb h=>by obtain⟨⟨y,hy⟩,h1,h2⟩:=P8a h;refine(l5b w1 base g v V M (d.below hb) (Nat.le_trans hbase hb.size) m y hy h1 λx hx _=>d1b h2 x hx).mono ?_;rintro e w2 ⟨rfl,h3⟩;rw[h,B3c h];exact⟨rfl,rfl,h3.ahead hb⟩
 obtain⟨E1,hE1⟩:∃E,E=q1a V.l m:=⟨_,rfl⟩;obtain⟨B,hB⟩:∃E,E=s4a V.l m:=⟨_,rfl⟩;rw[<-hE1,<-hB] at hE;rw[<-hE1] at C1;rw[<-hB] at C2;clear hE1 hB d;go_enter Tryz.func83,Tryz.ntmps83;go_wp2_with fail;refine C1.out.mono ?_;rintro e w1 ⟨rfl,l1⟩;have L1:=hI l1;have D2:=hI (C2.out w1 l1);clear l1 C1 C2;by_cases h1:E1=0
 case neg=>
  rw[if_pos h1] at hE;have t:(E1 != 0)=true:=by simpa using h1
  have HF:=hI (hno.out _ hE h1);clear hE h1 hno C3;go_wp2_with fail;go_ret;exact HF.out _ L1.out
 rw[if_neg (λh=>h h1)] at hE;subst h1;go_wp2_with fail;refine D2.out.mono ?_;rintro e w2 ⟨rfl,l2⟩;have L2:=hI (step L1.out l2);clear l2 D2;cases B with
 | false=>
  have HF:=hI (hno.out _ hE (by decide));clear hE hno C3;go_wp2_with fail;go_ret;exact HF.out _ L2.out
 | true=>have D3:=hI (C3.out w2 L2.out hE);clear hE hno C3;go_wp2_with fail;refine D3.out.mono ?_;rintro e w3 ⟨rfl,h3⟩;have H3:=hI h3;clear h3 D3;go_wp2_with fail;go_ret;exact H3.out
theorem S1a.cellV{w w':World}{g q o:Nat}(h:S1a q w w')(hg:g≠q):w'.cell? ⟨g,o,none⟩=w.cell? ⟨g,o,none⟩:=by simp only[World.cell?,h.rest g hg]
theorem E4c{L:List k0a}{n d:Int}{s:o0a}{x:k0a}(h:o6a L)(hx:vAt L n=some x):f4a L n d s=L.set (vIx L n) ⟨x.n,x.kind,d,s,x.B,x.Z⟩:=by
 obtain⟨hi,hx'⟩:=List.getElem?_eq_some_iff.1 hx;have hxn:=(y0a hx).2;unfold f4a;refine List.ext_getElem (by rw[List.length_map,List.length_set]) λj h1 h2=>?_
 have hj:j<L.length:=by rw[List.length_map] at h1;exact h1
 rw[List.getElem_map,List.getElem_set];by_cases e:vIx L n=j
 ·subst e;rw[if_pos rfl,hx',if_pos hxn]
 ·rw[if_neg e,if_neg];intro hn;have hr:=List.pairwise_iff_getElem.1 h;rcases Nat.lt_or_gt_of_ne e with k | k
  ·have:=hr _ _ hi hj k;rw[hx',hxn,hn] at this;omega
  ·have:=hr _ _ hj hi k;rw[hx',hxn,hn] at this;omega
theorem m5b{V:X0a}{n:Int}{p:o0a}{o:Bool}(h:x1a V.l n p o=0):h2a V n p o=⟨V.quota,V.last,u4a V.l n p⟩:=by unfold h2a;rw[if_pos h]
theorem C3c{V:X0a}{n:Int}{p:o0a}{o:Bool}(h:x1a V.l n p o≠0):h2a V n p o=V:=by unfold h2a;rw[if_neg h]
theorem T2a.named{w w2:World}{base g q c:Nat}{V V':X0a}{M:List VP}{n d:Int}{s:o0a}{x:k0a}(D:T2a w base g (.slice (some ⟨q,0,none⟩) V.l.length c) V M)(hx:vAt V.l n=some x)(hm:vIx V.l n<M.length)
(ho:j1a C0a 5 98 w2 base (.slice (some ⟨q,0,none⟩) V.l.length c) (M.set (vIx V.l n) (⟨x.n,x.kind,d,s,x.B,x.Z⟩,(M[vIx V.l n]'hm).2)))(hO:S1a q w w2)
(hV:V'=⟨V.quota,V.last,f4a V.l n d s⟩)(ok:Vok V'):u1a w base g (.slice (some ⟨q,0,none⟩) V.l.length c) M V' w2:=by
 subst hV;obtain⟨hi,hx'⟩:=List.getElem?_eq_some_iff.1 hx;obtain⟨_,he⟩:=D.get hi;have hq:(Value.slice (some ⟨q,0,none⟩) V.l.length c).ownBlock=some q:=rfl;refine D.turned ((g0a.of_only hO).mono λj _ e=>by rw[e];exact .inr hq) (D.blk.only hO λe=>D.own_ne (by rw[e];exact hq)) ho (Z0a.refl _ _) ?_ (λy hy=>.inl ?_) ok D.big
 ·show(M.set _ _).map (·.1)=f4a V.l n d s
  rw[E4c D.ok.rise hx,List.map_set,D.is]
 ·rcases List.mem_or_eq_of_mem_set hy with h | h
  ·exact⟨y,h,rfl,rfl,rfl,rfl⟩
  ·subst h;refine⟨M[vIx V.l n],List.getElem_mem hm,rfl,?_⟩;rw[he,hx'];exact⟨rfl,rfl,rfl⟩
theorem C1c(w:World)(base g:Nat)(v:Value)(V:X0a)(M:List VP)(d:T2a w base g v V M)(hbase:base<=w.heap.size)(m:Int)(s:o0a)(hs:s.length<=1048576)(over:Bool) :
  Calls Tryz.prog 84 #[.pointer (some ⟨g,0,none⟩),.int .i64 m,V0a s,.bool over] w λe w'=>e=.returned (.int .i64 (x1a V.l m s over))/\u1a w base g v M (h2a V m s over) w':=by
 have C1:=hI (E6b w base g v V M d m s hs);have hno:Hid (∀E,x1a V.l m s over=E->E≠0->∀w',Below w.heap.size w w'->Ending.returned (.int .i64 E)=.returned (.int .i64 (x1a V.l m s over))/\u1a w base g v M (h2a V m s over) w'):=λE h1 h2 w' hb=>by rw[C3c (by omega),h1];exact⟨rfl,d.stays hb⟩
 have hE:x1a V.l m s over=if z3a V.l m s≠0 then z3a V.l m s else if l1a V.l m s≠0/\over=false then 8 else if l1a V.l m s≠0/\(z0a V.l (l1a V.l m s)=1∨z0a V.l m=1) then 9 else 0:=rfl
 have hps:=H1b V.l s;have C2:Hid (∀w1,Below w.heap.size w w1->_):=λw1 hb=>y6a w1 base g v V M (d.below hb) (l1a V.l m s)
 have C3:Hid (∀w1,Below w.heap.size w w1->_):=λw1 hb=>y6a w1 base g v V M (d.below hb) m
 have C4:Hid (∀w1,Below w.heap.size w w1->x1a V.l m s over=0->l1a V.l m s≠0->Calls Tryz.prog 130 #[.pointer (some ⟨g,0,none⟩),.int .i64 (l1a V.l m s)] w1 λe w'=>e=.returned (.tuple #[])/\u1a w base g v M ⟨V.quota,V.last,z1a V.l (l1a V.l m s)⟩ w'/\∃x,vAt (z1a V.l (l1a V.l m s)) m=some x):=λw1 hb he h0=>by
  obtain⟨ht,hcase⟩:=R8a he;obtain⟨rs,mo⟩:=d.ok.moveOk ht;obtain⟨x,hx⟩:=mo.there;have hisd:l1a V.l m s=if x0a V.l (P0a V.l s) (Q0a V.l s)=m then 0 else x0a V.l (P0a V.l s) (Q0a V.l s):=rfl
  obtain⟨i,hi⟩:∃i,i=l1a V.l m s:=⟨_,rfl⟩;rw[<-hi] at hisd hcase h0⊢;have hcn:x0a V.l (P0a V.l s) (Q0a V.l s)≠m:=λe=>by rw[if_pos e] at hisd;exact h0 hisd
  rw[if_neg hcn] at hisd;have hc0:x0a V.l (P0a V.l s) (Q0a V.l s)≠0:=by rw[<-hisd];exact h0
  obtain⟨z,hz,z1,z2,z3⟩:=J1a hc0;have hzi:z.n=i:=by rw[z3,hisd]
  have hzat:vAt V.l i=some z:=by rw[<-hzi];exact d.ok.at hz
  have hk:z0a V.l i≠1:=by
   rcases hcase with q | q
   ·exact absurd q h0
   ·exact q.1
  have hi1:i≠1:=λe=>hk (by rw[e];unfold z0a;rw[d.ok.at1];rfl)
  have hch:∀x∈V.l,x.n≠1->x.par≠i:=λu hu hu1 e=>hk (by rw[<-e];exact d.ok.up u hu hu1)
  have hin:i≠m:=by rw[hisd];exact hcn
  refine(l5b w1 base g v V M (d.below hb) (Nat.le_trans hbase hb.size) i z hzat hi1 hch).mono ?_;rintro e w2 ⟨rfl,h3⟩;obtain⟨hx1,hx2⟩:=y0a hx;exact⟨rfl,h3.ahead hb,x,(d.ok.away hzat hi1 hch).rise.at_iff.2 ⟨(h3a d.ok.rise hzat).2 ⟨hx1,by rw[hx2];exact λe=>hin e.symm⟩,hx2⟩⟩
 have FIN:Hid (x1a V.l m s over=0->∀L1,u4a V.l m s=f4a L1 m (P0a V.l s) (Q0a V.l s)->∀w3 v1 M1,g0a (rvA g v M) w w3->(∀j,rvA g v1 M1 j->rvA g v M j∨w.heap.size<=j)->∀w5,u1a w3 base g v1 M1 ⟨V.quota,V.last,f4a L1 m (P0a V.l s) (Q0a V.l s)⟩ w5->u1a w base g v M (h2a V m s over) w5):=λhe L1 hL w3 v1 M1 h2 h3 w5 k=>by rw[m5b he,hL];exact u1a.next d h2 h3 k
 have FOK:Hid (x1a V.l m s over=0->∀L1,u4a V.l m s=f4a L1 m (P0a V.l s) (Q0a V.l s)->Vok ⟨V.quota,V.last,f4a L1 m (P0a V.l s) (Q0a V.l s)⟩):=λhe L1 hL=>by have:=d.ok.move m s over;rw[m5b he,hL] at this;exact this
 have hthere:Hid (z3a V.l m s=0->∃x,vAt V.l m=some x):=λh=>(U5a (m7b h).1).1
 have D:=hI d;obtain⟨S,hS⟩:∃S:ByteArray,S=⟨s.toArray⟩:=⟨_,rfl⟩;have hS1:V0a s=.string S:=by rw[hS];rfl
 rw[hS1] at C1⊢;by_cases h1:z3a V.l m s=0
 case neg=>
  rw[if_pos h1] at hE;obtain⟨E1,hE1⟩:∃E,E=z3a V.l m s:=⟨_,rfl⟩;rw[(S8b rfl h1).1,(S8b rfl h1).2.1,(S8b rfl h1).2.2,<-hE1] at C1;rw[<-hE1] at hE h1;have t:(E1 != 0)=true:=by simpa using h1
  have HF:=hI (hno.out _ hE h1);clear hE h1 hno hE1 hS hS1 d C2 C3 C4 FIN FOK hthere;go_enter Tryz.func84,Tryz.ntmps84;go_wp2_with fail;refine C1.out.mono ?_;rintro e w1 ⟨rfl,l1⟩;have L1:=hI l1;clear l1 C1;go_wp2_with fail;go_ret;exact HF.out _ L1.out
 rw[(N7b h1).1,(N7b h1).2.1,(N7b h1).2.2,h1] at C1;rw[if_neg (λh=>h h1)] at hE;obtain⟨x0,hx0⟩:=hthere.out h1;have hmv:u4a V.l m s=f4a (if l1a V.l m s≠0 then z1a V.l (l1a V.l m s) else V.l) m (P0a V.l s) (Q0a V.l s):=rfl;obtain⟨i,hii⟩:∃i,i=l1a V.l m s:=⟨_,rfl⟩;obtain⟨dn,hdn⟩:∃i,i=P0a V.l s:=⟨_,rfl⟩;obtain⟨z,hz⟩:∃i,i=Q0a V.l s:=⟨_,rfl⟩;obtain⟨Z,hZ⟩:∃Z:ByteArray,Z=⟨z.toArray⟩:=⟨_,rfl⟩;have hZ1:V0a z=.string Z:=by rw[hZ];rfl
 have HZ1:=hI hZ1;rw[<-hii,<-hdn,<-hz,hZ1] at C1;rw[<-hii] at C2 C4 hE hmv;rw[<-hdn,<-hz] at FIN FOK hmv;obtain⟨K1,hK1⟩:∃k,k=z0a V.l i:=⟨_,rfl⟩;obtain⟨K2,hK2⟩:∃k,k=z0a V.l m:=⟨_,rfl⟩;rw[<-hK1] at C2 hE;rw[<-hK2] at C3 hE;clear h1 hthere hS hS1 hii hdn hz hZ hZ1 hK1 hK2 d hps;by_cases h0:i=0
 ·subst h0;rw[if_neg (λh=>h.1 rfl),if_neg (λh=>h.1 rfl)] at hE;rw[if_neg (λh=>h rfl)] at hmv;rw[hE];have HFIN:=hI (FIN.out hE V.l hmv);have HFOK:=hI (FOK.out hE V.l hmv);clear hE hmv FIN FOK C2 C3 C4 hno;go_enter Tryz.func84,Tryz.ntmps84;go_wp2_with fail;refine C1.out.mono ?_;rintro e w3 ⟨rfl,l1⟩;have D3:=hI (D.out.below l1);have A3:Hid (g0a (rvA g v M) w w3):=g0a.of_over _ l1;have N3:Hid (∀j,rvA g v M j->rvA g v M j∨w.heap.size<=j):=λ_ h=>.inl h
  clear l1 C1;obtain⟨v1,hv1⟩:∃u,u=v:=⟨_,rfl⟩;obtain⟨M1,hM1⟩:∃u,u=M:=⟨_,rfl⟩;obtain⟨V1,hV1⟩:∃u,u=V:=⟨_,rfl⟩;have HX:Hid (vAt V1.l m=some x0):=by rw[hV1];exact hx0
  have F3:Hid (∀w5,u1a w3 base g v1 M1 ⟨V1.quota,V1.last,f4a V1.l m dn z⟩ w5->u1a w base g v M (h2a V m s over) w5):=by rw[hv1,hM1,hV1];exact HFIN.out w3 v M A3.out N3.out
  have K3:Hid (Vok ⟨V1.quota,V1.last,f4a V1.l m dn z⟩):=by rw[hV1];exact HFOK.out
  have DD:Hid (T2a w3 base g v1 V1 M1):=by rw[hv1,hM1,hV1];exact D3.out
  clear hv1 hM1 hV1 hx0 HFIN HFOK A3 N3 D3 D;obtain⟨hi,hxi⟩:=List.getElem?_eq_some_iff.1 HX.out;have CP:=hI (V2a w3 base g _ V1 M1 DD.out m);rw[show C3a V1.l m=(vIx V1.l m:Int) from if_pos hi] at CP;have hML:M1.length=V1.l.length:=by rw[<-DD.out.is,List.length_map]
  obtain⟨q,c,e⟩:=DD.out.row.form (by omega);rw[hML] at e;subst e;have hnc:V1.l.length<=c/\c<=maxLen:=by obtain⟨_,h2,h3,h4,_⟩:=DD.out.row.blk;exact⟨h3,h4⟩
  have hcm:c<=9223372036854775807:=by have:=hnc.2;unfold maxLen at this;omega
  have hm:vIx V1.l m<M1.length:=by omega
  have hsm:=DD.out.ok.many;have hmx:Hid (M1[vIx V1.l m]? = some (M1[vIx V1.l m]'hm)):=List.getElem?_eq_getElem hm;have hget:Hid ((M1[vIx V1.l m]'hm).1=x0):=by obtain⟨_,e⟩:=DD.out.get hi;show _=_;rw[e,hxi]
  have ROW:=hI DD.out.row;have FF:Hid (∀w5,j1a C0a 5 98 w5 base (.slice (some ⟨q,0,none⟩) V1.l.length c) (M1.set (vIx V1.l m) (⟨x0.n,x0.kind,dn,z,x0.B,x0.Z⟩,(M1[vIx V1.l m]'hm).2))->S1a q w3 w5->u1a w base g v M (h2a V m s over) w5):=λw5 ho hO=>F3.out w5 (T2a.named DD.out HX.out hm ho hO rfl K3.out)
  have k0:w3.cell? ⟨g,2,none⟩=some (.slice (some ⟨q,0,none⟩) V1.l.length c):=DD.out.blk.cell 2;have hgq:Hid (g≠q):=λe=>DD.out.own_ne (by rw[e];rfl)
  obtain⟨n,hn⟩:∃n,n=V1.l.length:=⟨_,rfl⟩;obtain⟨k,hk⟩:∃k,k=vIx V1.l m:=⟨_,rfl⟩;obtain⟨p,hp⟩:∃p,p=(M1[vIx V1.l m]'hm):=⟨_,rfl⟩;rw[<-hp] at hmx hget FF;rw[<-hk] at CP hmx FF hi;rw[<-hn] at ROW FF k0 hi hsm;have hnc':n<=c:=by omega
  have hkn:(k:Int)<(n:Int):=by omega
  have hk0:(0:Int)<=(k:Int):=by omega
  clear hML hnc hm hk hn hp hxi F3 K3 DD HX;go_wp2_with fail;refine CP.out.mono ?_;rintro e w4 ⟨rfl,rfl⟩;clear CP;go_upto_region 11 with fail
  refine wp_region_held (S:=λw'=>w'.cell? ⟨g,2,none⟩=some (.slice (some ⟨q,0,none⟩) n c)) (by kernel_rfl) ?_;change wpAnyH _ _ _ _ _ _ _ _ w4.drew
  have Q0:Hid (w4.drew.cell? ⟨g,2,none⟩=some (.slice (some ⟨q,0,none⟩) n c)):=k0;refine tK 0 _ rfl (a0a (by kernel_rfl) (.tmp 0) rfl (.pointer (some ⟨g,0,none⟩)) (by kernel_rfl)) Q0.out ?_;refine tK 1 _ rfl (p0a (by kernel_rfl) (.tmp 54) rfl ⟨g,0,none⟩ (by kernel_rfl)) Q0.out ?_;refine tK 2 _ rfl (e0a (by kernel_rfl) _ (.tmp 55) 2 rfl (.pointer (some ⟨g,0,none⟩)) (.pointer (some ⟨g,2,none⟩)) (by kernel_rfl) (λw=>by go_simp)) Q0.out ?_;refine tK 3 _ rfl (b0a (by kernel_rfl) _ (.tmp 56) rfl g (2) (by kernel_rfl) (.slice (some ⟨q,0,none⟩) n c) (λ_ h=>h) _ Tryz.underlying99 rfl) Q0.out ?_;refine tK 4 _ rfl (a0a (by kernel_rfl) (.tmp 13) rfl (.int .i64 (k:Nat)) (by kernel_rfl)) Q0.out ?_;refine tK 5 _ rfl (a0a (by kernel_rfl) (.tmp 0) rfl (.pointer (some ⟨g,0,none⟩)) (by kernel_rfl)) Q0.out ?_;refine tK 6 _ rfl (p0a (by kernel_rfl) (.tmp 59) rfl ⟨g,0,none⟩ (by kernel_rfl)) Q0.out ?_;refine tK 7 _ rfl (e0a (by kernel_rfl) _ (.tmp 60) 2 rfl (.pointer (some ⟨g,0,none⟩)) (.pointer (some ⟨g,2,none⟩)) (by kernel_rfl) (λw=>by go_simp)) Q0.out ?_;refine tK 8 _ rfl (b0a (by kernel_rfl) _ (.tmp 61) rfl g (2) (by kernel_rfl) (.slice (some ⟨q,0,none⟩) n c) (λ_ h=>h) _ Tryz.underlying99 rfl) Q0.out ?_;refine tK 9 _ rfl (a0a (by kernel_rfl) (.tmp 13) rfl (.int .i64 (k:Nat)) (by kernel_rfl)) Q0.out ?_;refine tK 10 _ rfl (a0a (by kernel_rfl) (.tmp 9) rfl (.int .i64 dn) (by kernel_rfl)) Q0.out ?_;refine tK 11 _ rfl (a0a (by kernel_rfl) (.tmp 10) rfl (.string Z) (by kernel_rfl)) Q0.out ?_;refine oN 12 _ rfl λK hK=>?_
  go_simp;refine hK _ _ Q0.out ?_;clear hK K;refine oN 13 _ rfl λK hK=>?_
  go_simp;refine hK _ _ Q0.out ?_;clear hK K;refine V3a λa1 ha1=>?_
  have e1:a1.eval (.tmp 67)=.pointer (some ⟨q,k*5+2,none⟩):=by rw[ha1];kernel_rfl
  have e2:a1.eval (.tmp 64)=.int .i64 dn:=by rw[ha1];kernel_rfl
  refine oN 14 _ rfl λK hK=>?_
  refine L2a C0a 5 (by decide) K0a (by kernel_rfl) 3 (.tmp 67) (.tmp 64) (by kernel_rfl) q k 2 n c base 98 e1 M1 p (⟨p.1.n,p.1.kind,dn,p.1.name,p.1.B,p.1.Z⟩,p.2) (.int .i64 dn) e2 ROW.out hmx.out (by decide) rfl (by kernel_rfl) rfl ?_ (by kernel_rfl);intro w5 R5 P5;have Q5:Hid (w5.cell? ⟨g,2,none⟩=some (.slice (some ⟨q,0,none⟩) n c)):=(P5.out.cellV hgq.out).trans Q0.out;refine hK _ _ Q5.out ?_;clear hK K e1 e2;rw[ha1];clear ha1 a1;refine oN 15 _ rfl λK hK=>?_
  go_simp;refine hK _ _ Q5.out ?_;clear hK K;refine oN 16 _ rfl λK hK=>?_
  go_simp;refine hK _ _ Q5.out ?_;clear hK K;refine V3a λa1 ha1=>?_
  have e1:a1.eval (.tmp 69)=.pointer (some ⟨q,k*5+3,none⟩):=by rw[ha1];kernel_rfl
  have e2:a1.eval (.tmp 65)=.string Z:=by rw[ha1];kernel_rfl
  refine oN 17 _ rfl λK hK=>?_
  refine L2a C0a 5 (by decide) K0a (by kernel_rfl) 9 (.tmp 69) (.tmp 65) (by kernel_rfl) q k 3 n c base 98 e1 _ (⟨p.1.n,p.1.kind,dn,p.1.name,p.1.B,p.1.Z⟩,p.2) (⟨p.1.n,p.1.kind,dn,z,p.1.B,p.1.Z⟩,p.2) (.string Z) e2 R5.out (by rw[List.getElem?_set_self (List.getElem?_eq_some_iff.1 hmx.out).1]) (by decide) (by rw[<-HZ1.out];rfl) (by kernel_rfl) rfl ?_ (by kernel_rfl);intro w6 R6 P6;refine hK _ _ ((P6.out.cellV hgq.out).trans Q5.out) ?_;clear hK K e1 e2;rw[ha1];clear ha1 a1;refine dN ?_;have R6':=R6.out;rw[List.set_set,hget.out] at R6';have HF:=hI (FF.out w6 R6' ⟨P6.out.os.trans P5.out.os,P6.out.tape.trans P5.out.tape,P6.out.output.trans P5.out.output,P6.out.size.trans P5.out.size,λj hj=>(P6.out.rest j hj).trans (P5.out.rest j hj)⟩);clear R6';go_wp2_with fail;go_ret;exact⟨rfl,HF.out⟩
 ·have t0:(i != 0)=true:=by simpa using h0
  cases over with
  | false=>
   rw[if_pos ⟨h0,rfl⟩] at hE;have HF:=hI (hno.out _ hE (by decide));clear hE hno h0 C2 C3 C4 FIN FOK;go_enter Tryz.func84,Tryz.ntmps84;go_wp2_with fail;refine C1.out.mono ?_;rintro e w1 ⟨rfl,l1⟩;have L1:=hI l1;clear l1 C1;go_wp2_with fail;go_ret;exact HF.out _ L1.out
  | true=>
   rw[if_neg (λh=>by cases h.2)] at hE;by_cases h2:K1=1
   ·rw[if_pos ⟨h0,.inl h2⟩] at hE;subst h2;have HF:=hI (hno.out _ hE (by decide));clear hE hno h0 C3 C4 FIN FOK;go_enter Tryz.func84,Tryz.ntmps84;go_wp2_with fail;refine C1.out.mono ?_;rintro e w1 ⟨rfl,l1⟩;have L1:=hI l1;have D2:=hI (C2.out w1 l1);clear l1 C1 C2;go_wp2_with fail;refine D2.out.mono ?_;rintro e w2 ⟨rfl,l2⟩;have L2:=hI (step L1.out l2);clear l2 D2;go_wp2_with fail;go_ret;exact HF.out _ L2.out
   ·have t2:(K1==1)=false:=by simpa using h2
    by_cases h3:K2=1
    ·rw[if_pos ⟨h0,.inr h3⟩] at hE;subst h3;have HF:=hI (hno.out _ hE (by decide));clear hE hno h0 h2 C4 FIN FOK;go_enter Tryz.func84,Tryz.ntmps84;go_wp2_with fail;refine C1.out.mono ?_;rintro e w1 ⟨rfl,l1⟩;have L1:=hI l1;have D2:=hI (C2.out w1 l1);clear l1 C1 C2;go_wp2_with fail;refine D2.out.mono ?_;rintro e w2 ⟨rfl,l2⟩;have L2:=hI (step L1.out l2);have D3:=hI (C3.out w2 L2.out);clear l2 D2 C3;go_wp2_with fail;refine D3.out.mono ?_;rintro e w3 ⟨rfl,l3⟩;have L3:=hI (step L2.out l3);clear l3 D3;go_wp2_with fail;go_ret;exact HF.out _ L3.out
    ·have t3:(K2==1)=false:=by simpa using h3
     rw[if_neg (λh=>by rcases h.2 with e | e;exact h2 e;exact h3 e)] at hE;rw[if_pos h0] at hmv;rw[hE];have HFIN:=hI (FIN.out hE _ hmv);have HFOK:=hI (FOK.out hE _ hmv);have C4':Hid (∀w1,Below w.heap.size w w1->_):=λw1 hb=>C4.out w1 hb hE h0
     clear hE hno h0 h2 h3 C4 FIN FOK hmv;go_enter Tryz.func84,Tryz.ntmps84;go_wp2_with fail;refine C1.out.mono ?_;rintro e w1 ⟨rfl,l1⟩;have L1:=hI l1;have D2:=hI (C2.out w1 l1);clear l1 C1 C2;go_wp2_with fail;refine D2.out.mono ?_;rintro e w2 ⟨rfl,l2⟩;have L2:=hI (step L1.out l2);have D3:=hI (C3.out w2 L2.out);clear l2 D2 C3;go_wp2_with fail;refine D3.out.mono ?_;rintro e w2b ⟨rfl,l3⟩;have L3:=hI (step L2.out l3);have D4:=hI (C4'.out w2b L3.out);clear l3 D3 C4';go_wp2_with fail;refine D4.out.mono ?_;rintro e w3 ⟨rfl,⟨v1,M1,dd,a3,n3⟩,x0,hx⟩;obtain⟨V1,hV1⟩:∃u:X0a,u=⟨V.quota,V.last,z1a V.l i⟩:=⟨_,rfl⟩;have HX:Hid (vAt V1.l m=some x0):=by rw[hV1];exact hx
     have F3:Hid (∀w5,u1a w3 base g v1 M1 ⟨V1.quota,V1.last,f4a V1.l m dn z⟩ w5->u1a w base g v M (h2a V m s true) w5):=by rw[hV1];exact HFIN.out w3 v1 M1 a3 n3
     have K3:Hid (Vok ⟨V1.quota,V1.last,f4a V1.l m dn z⟩):=by rw[hV1];exact HFOK.out
     have DD:Hid (T2a w3 base g v1 V1 M1):=by rw[hV1];exact dd
     clear hV1 hx HFIN HFOK a3 n3 dd D4 D hx0;obtain⟨hi,hxi⟩:=List.getElem?_eq_some_iff.1 HX.out;have CP:=hI (V2a w3 base g _ V1 M1 DD.out m);rw[show C3a V1.l m=(vIx V1.l m:Int) from if_pos hi] at CP;have hML:M1.length=V1.l.length:=by rw[<-DD.out.is,List.length_map]
     obtain⟨q,c,e⟩:=DD.out.row.form (by omega);rw[hML] at e;subst e;have hnc:V1.l.length<=c/\c<=maxLen:=by obtain⟨_,h2,h3,h4,_⟩:=DD.out.row.blk;exact⟨h3,h4⟩
     have hcm:c<=9223372036854775807:=by have:=hnc.2;unfold maxLen at this;omega
     have hm:vIx V1.l m<M1.length:=by omega
     have hsm:=DD.out.ok.many;have hmx:Hid (M1[vIx V1.l m]? = some (M1[vIx V1.l m]'hm)):=List.getElem?_eq_getElem hm;have hget:Hid ((M1[vIx V1.l m]'hm).1=x0):=by obtain⟨_,e⟩:=DD.out.get hi;show _=_;rw[e,hxi]
     have ROW:=hI DD.out.row;have FF:Hid (∀w5,j1a C0a 5 98 w5 base (.slice (some ⟨q,0,none⟩) V1.l.length c) (M1.set (vIx V1.l m) (⟨x0.n,x0.kind,dn,z,x0.B,x0.Z⟩,(M1[vIx V1.l m]'hm).2))->S1a q w3 w5->u1a w base g v M (h2a V m s true) w5):=λw5 ho hO=>F3.out w5 (T2a.named DD.out HX.out hm ho hO rfl K3.out)
     have k0:w3.cell? ⟨g,2,none⟩=some (.slice (some ⟨q,0,none⟩) V1.l.length c):=DD.out.blk.cell 2;have hgq:Hid (g≠q):=λe=>DD.out.own_ne (by rw[e];rfl)
     obtain⟨n,hn⟩:∃n,n=V1.l.length:=⟨_,rfl⟩;obtain⟨k,hk⟩:∃k,k=vIx V1.l m:=⟨_,rfl⟩;obtain⟨p,hp⟩:∃p,p=(M1[vIx V1.l m]'hm):=⟨_,rfl⟩;rw[<-hp] at hmx hget FF;rw[<-hk] at CP hmx FF hi;rw[<-hn] at ROW FF k0 hi hsm;have hnc':n<=c:=by omega
     have hkn:(k:Int)<(n:Int):=by omega
     have hk0:(0:Int)<=(k:Int):=by omega
     clear hML hnc hm hk hn hp hxi F3 K3 DD HX;go_wp2_with fail;refine CP.out.mono ?_;rintro e w4 ⟨rfl,rfl⟩;clear CP;go_upto_region 11 with fail
     refine wp_region_held (S:=λw'=>w'.cell? ⟨g,2,none⟩=some (.slice (some ⟨q,0,none⟩) n c)) (by kernel_rfl) ?_;change wpAnyH _ _ _ _ _ _ _ _ w4.drew
     have Q0:Hid (w4.drew.cell? ⟨g,2,none⟩=some (.slice (some ⟨q,0,none⟩) n c)):=k0;refine tK 0 _ rfl (a0a (by kernel_rfl) (.tmp 0) rfl (.pointer (some ⟨g,0,none⟩)) (by kernel_rfl)) Q0.out ?_;refine tK 1 _ rfl (p0a (by kernel_rfl) (.tmp 54) rfl ⟨g,0,none⟩ (by kernel_rfl)) Q0.out ?_;refine tK 2 _ rfl (e0a (by kernel_rfl) _ (.tmp 55) 2 rfl (.pointer (some ⟨g,0,none⟩)) (.pointer (some ⟨g,2,none⟩)) (by kernel_rfl) (λw=>by go_simp)) Q0.out ?_;refine tK 3 _ rfl (b0a (by kernel_rfl) _ (.tmp 56) rfl g (2) (by kernel_rfl) (.slice (some ⟨q,0,none⟩) n c) (λ_ h=>h) _ Tryz.underlying99 rfl) Q0.out ?_;refine tK 4 _ rfl (a0a (by kernel_rfl) (.tmp 13) rfl (.int .i64 (k:Nat)) (by kernel_rfl)) Q0.out ?_;refine tK 5 _ rfl (a0a (by kernel_rfl) (.tmp 0) rfl (.pointer (some ⟨g,0,none⟩)) (by kernel_rfl)) Q0.out ?_;refine tK 6 _ rfl (p0a (by kernel_rfl) (.tmp 59) rfl ⟨g,0,none⟩ (by kernel_rfl)) Q0.out ?_;refine tK 7 _ rfl (e0a (by kernel_rfl) _ (.tmp 60) 2 rfl (.pointer (some ⟨g,0,none⟩)) (.pointer (some ⟨g,2,none⟩)) (by kernel_rfl) (λw=>by go_simp)) Q0.out ?_;refine tK 8 _ rfl (b0a (by kernel_rfl) _ (.tmp 61) rfl g (2) (by kernel_rfl) (.slice (some ⟨q,0,none⟩) n c) (λ_ h=>h) _ Tryz.underlying99 rfl) Q0.out ?_;refine tK 9 _ rfl (a0a (by kernel_rfl) (.tmp 13) rfl (.int .i64 (k:Nat)) (by kernel_rfl)) Q0.out ?_;refine tK 10 _ rfl (a0a (by kernel_rfl) (.tmp 9) rfl (.int .i64 dn) (by kernel_rfl)) Q0.out ?_;refine tK 11 _ rfl (a0a (by kernel_rfl) (.tmp 10) rfl (.string Z) (by kernel_rfl)) Q0.out ?_;refine oN 12 _ rfl λK hK=>?_
     go_simp;refine hK _ _ Q0.out ?_;clear hK K;refine oN 13 _ rfl λK hK=>?_
     go_simp;refine hK _ _ Q0.out ?_;clear hK K;refine V3a λa1 ha1=>?_
     have e1:a1.eval (.tmp 67)=.pointer (some ⟨q,k*5+2,none⟩):=by rw[ha1];kernel_rfl
     have e2:a1.eval (.tmp 64)=.int .i64 dn:=by rw[ha1];kernel_rfl
     refine oN 14 _ rfl λK hK=>?_
     refine L2a C0a 5 (by decide) K0a (by kernel_rfl) 3 (.tmp 67) (.tmp 64) (by kernel_rfl) q k 2 n c base 98 e1 M1 p (⟨p.1.n,p.1.kind,dn,p.1.name,p.1.B,p.1.Z⟩,p.2) (.int .i64 dn) e2 ROW.out hmx.out (by decide) rfl (by kernel_rfl) rfl ?_ (by kernel_rfl);intro w5 R5 P5;have Q5:Hid (w5.cell? ⟨g,2,none⟩=some (.slice (some ⟨q,0,none⟩) n c)):=(P5.out.cellV hgq.out).trans Q0.out;refine hK _ _ Q5.out ?_;clear hK K e1 e2;rw[ha1];clear ha1 a1;refine oN 15 _ rfl λK hK=>?_
     go_simp;refine hK _ _ Q5.out ?_;clear hK K;refine oN 16 _ rfl λK hK=>?_
     go_simp;refine hK _ _ Q5.out ?_;clear hK K;refine V3a λa1 ha1=>?_
     have e1:a1.eval (.tmp 69)=.pointer (some ⟨q,k*5+3,none⟩):=by rw[ha1];kernel_rfl
     have e2:a1.eval (.tmp 65)=.string Z:=by rw[ha1];kernel_rfl
     refine oN 17 _ rfl λK hK=>?_
     refine L2a C0a 5 (by decide) K0a (by kernel_rfl) 9 (.tmp 69) (.tmp 65) (by kernel_rfl) q k 3 n c base 98 e1 _ (⟨p.1.n,p.1.kind,dn,p.1.name,p.1.B,p.1.Z⟩,p.2) (⟨p.1.n,p.1.kind,dn,z,p.1.B,p.1.Z⟩,p.2) (.string Z) e2 R5.out (by rw[List.getElem?_set_self (List.getElem?_eq_some_iff.1 hmx.out).1]) (by decide) (by rw[<-HZ1.out];rfl) (by kernel_rfl) rfl ?_ (by kernel_rfl);intro w6 R6 P6;refine hK _ _ ((P6.out.cellV hgq.out).trans Q5.out) ?_;clear hK K e1 e2;rw[ha1];clear ha1 a1;refine dN ?_;have R6':=R6.out;rw[List.set_set,hget.out] at R6';have HF:=hI (FF.out w6 R6' ⟨P6.out.os.trans P5.out.os,P6.out.tape.trans P5.out.tape,P6.out.output.trans P5.out.output,P6.out.size.trans P5.out.size,λj hj=>(P6.out.rest j hj).trans (P5.out.rest j hj)⟩);clear R6';go_wp2_with fail;go_ret;exact⟨rfl,HF.out⟩
theorem c6a{α:Type}{P:Program}{ops:Array Oper}{o:Oper}{a:Act}{w:World}{Q:Exit->Act->World->Prop}{K:Act->World->Prop}{E:Prop}(hgd:o.guard=none)(s x:Operand)(f:α->Value)(hf:∀y,(f y).oneCell'=true)(z:Value)(hzc:z.cells.size=1)(T e:TypeId)(bytes:Nat)
(ht:P.underlying T=some (.slice e))(hi:(P.info? e).map (λi=>(i.zero,i.size,i.bytes))=some (some z,1,bytes))
(ho:o.op=.call { callee:=.builtin .append,args:=#[s,x],argTypes:=#[T,T] })
(base:Nat)(v:Value)(xs:List α)(hs:a.eval s=v)(hown:t1a f e w base v xs)(B:Nat)(A:Option Addr)(m c:Nat)(ys:List α)(hx:a.eval x=.slice A m c)
(hr:U0a f w B A m c ys)(hlen:(xs.length+ys.length)*bytes<=140737488355328)(h63:xs.length+ys.length<=9223372036854775807)(hbase:base<=w.heap.size)
(h:∀v' w',Hid (t1a f e w' base v' (xs++ys))->Hid (Below base w w')->K (a.put o.dst v') w') :
  if Region.wanted o (yielded ops a.tmps)=true then Oper.wp P o a w K Q else E:=by
 have hw:Region.wanted o (yielded ops a.tmps)=true:=by simp[Region.wanted,hgd]
 rw[if_pos hw];obtain⟨i0,hi0,hz0,hz1,hz2⟩:=info_parts hi;have hl:=hr.len;rcases A with _ | ad
 ·have hc:=hr.bare rfl;have hft:=hr.fit;have hm:m=0:=by omega
  subst hm;subst hc;have:ys=[]:=List.eq_nil_of_length_eq_zero hl;subst this;have hrun:=run_append_owned_none (P:=P) (w:=w) base T o.type e i0 1 ht hi0 v xs.length _ hown;unfold Oper.wp;simp[execOp,ho,resolve,invoke,builtin,hs,hx,hrun,Result.andThen];exact h v w (by rw[List.append_nil];exact hown) (Below.refl _ _)
 ·refine wp_append_own w s x T ho base e i0 z 1 bytes ht hi0 hz0 hz1 hz2 hzc (by omega) v xs.length _ hs hown ad m c (ys.map f) hx (by simp[hl]) ?_
   (by intro v hv;obtain⟨x,_,rfl⟩:=List.mem_map.1 hv;exact hf x) (by unfold maxLen;omega) (by rw[<-hl];exact hlen) hbase ?_
  ·intro j u hj;have hjl:j<ys.length:=by
    by_cases hj':j<ys.length
    ·exact hj'
    ·rw[List.getElem?_eq_none (by simp;omega)] at hj;cases hj
   obtain⟨b,off,he,_,hcl⟩:=hr.cells (by omega);injection he with he
   subst he;have e:(⟨b,off,none⟩:Addr).add j=⟨b,off+j,none⟩:=by
    by_cases hj0:j=0
    ·subst hj0;simp[Addr.add]
    ·simp[Addr.add,hj0]
   rw[e,hcl j ys[j] (List.getElem?_eq_getElem hjl),<-hj];simp[hjl]
  ·intro v' w' hown' hgr _;refine h v' w' ?_ ((Below.refl _ _).grown hgr hbase (λk hk=>(World.ownsRow.lt hown k hk).1));show World.ownsRow _ _ _ _ _ _ _
   rw[List.length_append,List.map_append,hl];exact hown'
theorem a3b(w:World)(base g:Nat)(v:Value)(V:X0a)(M:List VP)(d:T2a w base g v V M) :
  Calls Tryz.prog 81 #[.pointer (some ⟨g,0,none⟩)] w λe w'=>e=.returned (.int .i64 (T0a V.l:Nat))/\w'=w:=by
 obtain⟨A,c,rfl⟩:=d.len;have k0:w.cell? ⟨g,2,none⟩=some (.slice A V.l.length c):=d.blk.cell 2;have hsm:=d.ok.many;have hus:T0a V.l<=1048576:=by have h1:=d.ok.used;have h2:=d.ok.q1;omega
 have hle:=λi=>Nat.le_trans (w1c (L:=V.l) i) hus
 have D:=hI d;obtain⟨n,hn⟩:∃n,n=V.l.length:=⟨_,rfl⟩;rw[<-hn] at k0 hsm;have HN:=hI hn;have HLE:=hI hle;clear d hn hle hus;go_enter Tryz.func81,Tryz.ntmps81;go_wp2_with fail;go_loopw [3,4] (λU I wr=>∃i:Nat,i<=n/\I=.int .i64 (i:Nat)/\U=.int .i64 (T0a (V.l.take i):Nat)/\wr=w) (λ_ I _=>n-(intOf I).toNat)
 case atStart=>exact⟨0,Nat.zero_le _,rfl,rfl,rfl⟩
 case round=>
  obtain⟨i,hi,rfl,rfl,rfl⟩:=hrel;by_cases hlt:i<n
  ·have hil:i<V.l.length:=by have:=HN.out;omega
   obtain⟨q,c',e,hnc,hcm,_,k1,_,_,hm0,k4⟩:=D.out.at hil;injection e with e1 e2 e3
   subst e1 e3;have hu:=i5b hil;have h1:=HLE.out i;have h2:=HLE.out (i+1);obtain⟨x,hx⟩:∃x,x=V.l[i].kind:=⟨_,rfl⟩;obtain⟨u,hu'⟩:∃u,u=T0a (V.l.take i):=⟨_,rfl⟩;obtain⟨u2,hu2⟩:∃u,u=T0a (V.l.take (i+1)):=⟨_,rfl⟩;rw[<-hx] at k1;rw[<-hu'] at h1 hu⊢;rw[<-hu2] at h2 hu;have HU2:=hI hu2;rcases D.out.ok.kind _ (List.getElem_mem hil) with hk | hk
   ·have hz:=(D.out.ok.dirB _ (List.getElem_mem hil) hk).1;rw[hz] at hu;obtain rfl:x=1:=hx.trans hk;obtain rfl:u2=u:=hu;clear hx hu' hu2 e2 hk hz k4;go_wp2_with fail;go_roundw
    case rel=>exact⟨i+1,by omega,by go_num,by rw[<-HU2.out],trivial⟩
    case measure=>simp[intOf];omega
   ·obtain⟨hm,b,vB,vZ,e,dd⟩:=D.out.file hil hk;obtain⟨AB,cB,rfl,hh⟩:=dd.holds;have k5:wr.cell? ⟨b,0,none⟩=some (.slice AB V.l[i].B.length cB):=dd.blk.cell 0;have k4':wr.cell? ⟨q,i*5+4,none⟩=some (.pointer (some ⟨b,0,none⟩)):=by rw[k4,e];rfl
    obtain⟨z,hz⟩:∃z,z=V.l[i].B.length:=⟨_,rfl⟩;rw[<-hz] at k5 hu;obtain rfl:x=2:=hx.trans hk;have HU:=hI hu;have hb:u+z<=1048576:=by omega
    clear hx hu' hu2 e2 hk hz k4 dd hh e hu;go_wp2_with fail;go_roundw
    case rel=>exact⟨i+1,by omega,by go_num,by rw[<-HU2.out,HU.out];go_num,trivial⟩
    case measure=>simp[intOf];omega
  ·obtain rfl:i=n:=by omega
   have hR:T0a (V.l.take i)=T0a V.l:=by rw[List.take_of_length_le (by have:=HN.out;omega)]
   rw[hR];go_wp2_with fail;go_ret;exact⟨rfl,rfl⟩
theorem J1b(w:World)(base g:Nat)(vB vZ:Value)(B:List Int)(Z:List Bool)(d:D6a w base g vB vZ B Z) :
  Calls Tryz.prog 133 #[.pointer (some ⟨g,0,none⟩)] w λe w'=>∃b vB' vZ',e=.returned (.pointer (some ⟨b,0,none⟩))/\D6a w' w.heap.size b vB' vZ' B Z/\Below w.heap.size w w':=by
 obtain⟨AB,nB,cB,rfl,hB⟩:=d.rowB.holds;obtain⟨AZ,nZ,cZ,rfl,hZ⟩:=d.rowZ.holds;have k0:w.cell? ⟨g,0,none⟩=some (.slice AB nB cB):=d.blk.cell 0;have k1:w.cell? ⟨g,1,none⟩=some (.slice AZ nZ cZ):=d.blk.cell 1;have HB0:=hI hB;have HZ0:=hI hZ;have HLB:Hid ((([]:List Int).length+B.length)*1<=140737488355328/\([]:List Int).length+B.length<=9223372036854775807):=by have:=d.small;show _/\_;simp only[List.length_nil];omega
 have HLZ:Hid ((([]:List Bool).length+Z.length)*1<=140737488355328/\([]:List Bool).length+Z.length<=9223372036854775807):=by have:=d.small;have:=d.len;show _/\_;simp only[List.length_nil];omega
 have HD:Hid (B.length=Z.length/\B.length<=65536/\Bytes B):=⟨d.len,d.small,d.byte⟩;have ZN:Hid ((Tryz.prog.info? 104).map (λi=>(i.zero,i.size))=some (some (.agg ([.slice none 0 0,.slice none 0 0]:List Value).toArray),2)):=T8b;clear d hB hZ;go_enter Tryz.func133,Tryz.ntmps133;go_wp2_with(first
  | ((with_reducible refine sN 3 ?_);go_loud (refine i0a rfl _ rfl [.slice none 0 0,.slice none 0 0] 2 ZN ?_);intro b w1 hbw hb2 X1 L1)
  | fail)
 have H1:=L1;have H1H:=hI (HB0.out.over L1.out);have H1L:=HLB;go_upto_region 2 with fail
 refine m1a 7 (λw'=>w'.cell? ⟨b,0,none⟩=some (.slice none 0 0)/\w'.cell? ⟨g,0,none⟩=some (.slice AB nB cB)) (by kernel_rfl) ?_;change K2a _ _ _ _ _ _ _ _ _ w1.drew
 have Qw3:Hid (w1.drew.cell? ⟨b,0,none⟩=some (.slice none 0 0)/\w1.drew.cell? ⟨g,0,none⟩=some (.slice AB nB cB)):=⟨X1.out.cell 0,(H1.out.cell (d0a k0)).trans k0⟩;refine c0a (i:=0) (v:=_) rfl (by kernel_rfl) (by kernel_rfl) (by kernel_rfl) (λ_ _ _ h=>h) rfl (by kernel_rfl) (by kernel_rfl) (by decide) (e0a (by kernel_rfl) _ (.tmp 3) 0 rfl (.pointer (some ⟨b,0,none⟩)) (.pointer (some ⟨b,0,none⟩)) (by kernel_rfl) (λw=>by go_simp)) Qw3.out ?_;refine c0a (i:=1) (v:=_) rfl (by kernel_rfl) (by kernel_rfl) (by kernel_rfl) (λ_ _ _ h=>h) rfl (by kernel_rfl) (by kernel_rfl) (by decide) (b0a (by kernel_rfl) _ (.tmp 4) rfl b 0 (by kernel_rfl) (.slice none 0 0) (λ_ h=>h.1) _ Tryz.underlying51 rfl) Qw3.out ?_;refine c0a (i:=2) (v:=_) rfl (by kernel_rfl) (by kernel_rfl) (by kernel_rfl) (λ_ _ _ h=>h) rfl (by kernel_rfl) (by kernel_rfl) (by decide) (a0a (by kernel_rfl) (.tmp 0) rfl (.pointer (some ⟨g,0,none⟩)) (by kernel_rfl)) Qw3.out ?_;refine c0a (i:=3) (v:=_) rfl (by kernel_rfl) (by kernel_rfl) (by kernel_rfl) (λ_ _ _ h=>h) rfl (by kernel_rfl) (by kernel_rfl) (by decide) (p0a (by kernel_rfl) (.tmp 6) rfl ⟨g,0,none⟩ (by kernel_rfl)) Qw3.out ?_;refine c0a (i:=4) (v:=_) rfl (by kernel_rfl) (by kernel_rfl) (by kernel_rfl) (λ_ _ _ h=>h) rfl (by kernel_rfl) (by kernel_rfl) (by decide) (e0a (by kernel_rfl) _ (.tmp 7) 0 rfl (.pointer (some ⟨g,0,none⟩)) (.pointer (some ⟨g,0,none⟩)) (by kernel_rfl) (λw=>by go_simp)) Qw3.out ?_;refine c0a (i:=5) (v:=_) rfl (by kernel_rfl) (by kernel_rfl) (by kernel_rfl) (λ_ _ _ h=>h) rfl (by kernel_rfl) (by kernel_rfl) (by decide) (b0a (by kernel_rfl) _ (.tmp 8) rfl g 0 (by kernel_rfl) (.slice AB nB cB) (λ_ h=>h.2) _ Tryz.underlying51 rfl) Qw3.out ?_;refine n0a 6 _ (by kernel_rfl) rfl λK hK=>?_
 refine c6a rfl (.tmp 5) (.tmp 9) (Value.int .u8) (λ_=>rfl) (.int .u8 0) rfl 51 5 1 Tryz.underlying51 U4a rfl w1.heap.size _ [] (by kernel_rfl) (t1a.nil _ _ _ _) w1.heap.size _ _ _ B (by kernel_rfl) H1H.out.drew H1L.out.1 H1L.out.2 (Nat.le_refl _) ?_;intro vB' w3a Ow3 Mw3;have Lw3:=hI ((Below.refl w1.heap.size w1).drew.trans Mw3.out);have Xw3:=hI (X1.out.over Lw3.out);refine hK _ _ (λ_=>⟨Xw3.out.cell 0,((H1.out.trans (Lw3.out.mono H1.out.size)).cell (d0a k0)).trans k0⟩) ?_;clear hK K;refine n0a 7 _ (by kernel_rfl) rfl λK hK=>?_
 go_simp;refine hK _ _ (λh=>Bool.noConfusion (show true=false from h)) ?_;clear hK K;refine Q1a λa1 ha1=>?_
 have e1:a1.eval (.tmp 11)=.pointer (some ⟨b,0,none⟩):=by rw[ha1];kernel_rfl
 have e2:a1.eval (.tmp 10)=vB':=by rw[ha1];kernel_rfl
 refine n0a 8 _ (by kernel_rfl) rfl λK hK=>?_
 refine B1a (by kernel_rfl) 51 (.tmp 11) (.tmp 10) (by kernel_rfl) b 0 e1 104 _ vB' e2 Xw3 (show 0<2 by omega) (by kernel_rfl) Ow3.out.oneCell ?_;intro w3 Yw3 Pw3 hqw3;refine hK _ _ (λh=>Bool.noConfusion (show true=false from h)) ?_;clear hK K e1 e2;rw[ha1];clear ha1 a1;refine K1a (by kernel_rfl) ?_ _;have Nw3:Hid (t1a (Value.int .u8) 5 w3 w1.heap.size vB' B):=Ow3.out.sparS (g0a.of_only Pw3.out) (λi hi e=>Ow3.out.offBlk Xw3.out (by decide) (e▸hi));have Rw3:=hI (r0a (H1.out.trans (Lw3.out.mono H1.out.size)) Pw3.out hbw);have X3:Hid (Blk w3 b 104 [vB',.slice none 0 0]):=Yw3.out;have H2:=Rw3;have H2H:=hI (HZ0.out.over Rw3.out);have H2L:=HLZ;go_upto_region 3 with fail
 refine m1a 7 (λw'=>w'.cell? ⟨b,1,none⟩=some (.slice none 0 0)/\w'.cell? ⟨g,1,none⟩=some (.slice AZ nZ cZ)) (by kernel_rfl) ?_;change K2a _ _ _ _ _ _ _ _ _ w3.drew
 have Qw5:Hid (w3.drew.cell? ⟨b,1,none⟩=some (.slice none 0 0)/\w3.drew.cell? ⟨g,1,none⟩=some (.slice AZ nZ cZ)):=⟨X3.out.cell 1,(H2.out.cell (d0a k1)).trans k1⟩;refine c0a (i:=0) (v:=_) rfl (by kernel_rfl) (by kernel_rfl) (by kernel_rfl) (λ_ _ _ h=>h) rfl (by kernel_rfl) (by kernel_rfl) (by decide) (e0a (by kernel_rfl) _ (.tmp 3) 1 rfl (.pointer (some ⟨b,0,none⟩)) (.pointer (some ⟨b,1,none⟩)) (by kernel_rfl) (λw=>by go_simp)) Qw5.out ?_;refine c0a (i:=1) (v:=_) rfl (by kernel_rfl) (by kernel_rfl) (by kernel_rfl) (λ_ _ _ h=>h) rfl (by kernel_rfl) (by kernel_rfl) (by decide) (b0a (by kernel_rfl) _ (.tmp 12) rfl b 1 (by kernel_rfl) (.slice none 0 0) (λ_ h=>h.1) _ Tryz.underlying102 rfl) Qw5.out ?_;refine c0a (i:=2) (v:=_) rfl (by kernel_rfl) (by kernel_rfl) (by kernel_rfl) (λ_ _ _ h=>h) rfl (by kernel_rfl) (by kernel_rfl) (by decide) (a0a (by kernel_rfl) (.tmp 0) rfl (.pointer (some ⟨g,0,none⟩)) (by kernel_rfl)) Qw5.out ?_;refine c0a (i:=3) (v:=_) rfl (by kernel_rfl) (by kernel_rfl) (by kernel_rfl) (λ_ _ _ h=>h) rfl (by kernel_rfl) (by kernel_rfl) (by decide) (p0a (by kernel_rfl) (.tmp 14) rfl ⟨g,0,none⟩ (by kernel_rfl)) Qw5.out ?_;refine c0a (i:=4) (v:=_) rfl (by kernel_rfl) (by kernel_rfl) (by kernel_rfl) (λ_ _ _ h=>h) rfl (by kernel_rfl) (by kernel_rfl) (by decide) (e0a (by kernel_rfl) _ (.tmp 15) 1 rfl (.pointer (some ⟨g,0,none⟩)) (.pointer (some ⟨g,1,none⟩)) (by kernel_rfl) (λw=>by go_simp)) Qw5.out ?_;refine c0a (i:=5) (v:=_) rfl (by kernel_rfl) (by kernel_rfl) (by kernel_rfl) (λ_ _ _ h=>h) rfl (by kernel_rfl) (by kernel_rfl) (by decide) (b0a (by kernel_rfl) _ (.tmp 16) rfl g 1 (by kernel_rfl) (.slice AZ nZ cZ) (λ_ h=>h.2) _ Tryz.underlying102 rfl) Qw5.out ?_;refine n0a 6 _ (by kernel_rfl) rfl λK hK=>?_
 refine c6a rfl (.tmp 13) (.tmp 17) Value.bool (λ_=>rfl) (.bool false) rfl 102 4 1 Tryz.underlying102 Z4b rfl w3.heap.size _ [] (by kernel_rfl) (t1a.nil _ _ _ _) w3.heap.size _ _ _ Z (by kernel_rfl) H2H.out.drew H2L.out.1 H2L.out.2 (Nat.le_refl _) ?_;intro vZ' w5a Ow5 Mw5;have Lw5:=hI ((Below.refl w3.heap.size w3).drew.trans Mw5.out);have Xw5:=hI (X3.out.over Lw5.out);refine hK _ _ (λ_=>⟨Xw5.out.cell 1,((H2.out.trans (Lw5.out.mono H2.out.size)).cell (d0a k1)).trans k1⟩) ?_;clear hK K;refine n0a 7 _ (by kernel_rfl) rfl λK hK=>?_
 go_simp;refine hK _ _ (λh=>Bool.noConfusion (show true=false from h)) ?_;clear hK K;refine Q1a λa1 ha1=>?_
 have e1:a1.eval (.tmp 19)=.pointer (some ⟨b,1,none⟩):=by rw[ha1];kernel_rfl
 have e2:a1.eval (.tmp 18)=vZ':=by rw[ha1];kernel_rfl
 refine n0a 8 _ (by kernel_rfl) rfl λK hK=>?_
 refine B1a (by kernel_rfl) 102 (.tmp 19) (.tmp 18) (by kernel_rfl) b 1 e1 104 _ vZ' e2 Xw5 (show 1<2 by omega) (by kernel_rfl) Ow5.out.oneCell ?_;intro w5 Yw5 Pw5 hqw5;refine hK _ _ (λh=>Bool.noConfusion (show true=false from h)) ?_;clear hK K e1 e2;rw[ha1];clear ha1 a1;refine K1a (by kernel_rfl) ?_ _;have Nw5:Hid (t1a Value.bool 4 w5 w3.heap.size vZ' Z):=Ow5.out.sparS (g0a.of_only Pw5.out) (λi hi e=>Ow5.out.offBlk Xw5.out (by decide) (e▸hi));have Rw5:=hI (r0a (H2.out.trans (Lw5.out.mono H2.out.size)) Pw5.out hbw);have X5:Hid (Blk w5 b 104 [vB',vZ']):=Yw5.out;have OB:Hid (t1a (Value.int .u8) 5 w5 w1.heap.size vB' B):=(Nw3.out.below Lw5.out).sparS (g0a.of_only Pw5.out) (λi hi e=>(Nw3.out.below Lw5.out).offBlk Xw5.out (by decide) (e▸hi));go_wp2_with fail;go_ret;exact⟨b,vB',vZ',rfl,⟨hbw,X5.out,OB.out.mono L1.out.size,Nw5.out.mono Rw3.out.size,HD.out.1,HD.out.2.1,HD.out.2.2⟩,Rw5.out⟩
theorem n5b(w:World)(base g:Nat)(v:Value)(V:X0a)(M:List VP)(d:T2a w base g v V M)(hbase:base<=w.heap.size)(m a:Int)(ha:-9223372036854775808<=a/\a<=9223372036854775807)(XA:Option Addr)(xn xc:Nat)(xs:List Int)(hx:Holds w base XA xn xc xs) :
  Calls Tryz.prog 85 #[.pointer (some ⟨g,0,none⟩),.int .i64 m,.int .i64 a,.slice XA xn xc] w λe w'=>e=.returned (.int .i64 (A0b V m a xs))/\u1a w base g v M (vWr V m a xs) w':=by
 have C1:=hI (G1b w base g v V M d m);have hno:Hid (∀E,A0b V m a xs=E->E≠0->∀w',Below w.heap.size w w'->Ending.returned (.int .i64 E)=.returned (.int .i64 (A0b V m a xs))/\u1a w base g v M (vWr V m a xs) w'):=λE h1 h2 w' hb=>by rw[show vWr V m a xs=V from if_neg (by omega),h1];exact⟨rfl,d.stays hb⟩
 have hyes:A0b V m a xs=0->vWr V m a xs=⟨V.quota,V.last,v4a V.l m (Y3a 0 (H0a V.l m) a xs) (Y3a false (b1b V.l m) a (List.replicate xs.length true))⟩:=λh=>if_pos h
 have hE:A0b V m a xs=if r1a V.l m≠0 then r1a V.l m else if q3a a xs.length≠0 then q3a a xs.length else if V.quota<(T0a V.l:Int)-(H0a V.l m).length+((Y3a 0 (H0a V.l m) a xs)).length then 13 else 0:=rfl
 have hvok:=d.ok.wr m a hx.byte;have HHY:=hI hyes;have HOK:=hI hvok;by_cases h1:r1a V.l m=0
 case neg=>
  rw[if_pos h1] at hE;have hP:f2b V.l M m=.pointer none:=if_neg h1;rw[hP] at C1;obtain⟨E1,hE1⟩:∃E,E=r1a V.l m:=⟨_,rfl⟩;rw[<-hE1] at C1 hE h1;have t:(E1 != 0)=true:=by simpa using h1
  have HF:=hI (hno.out _ hE h1);clear hE h1 hno hE1 d hyes hvok hP;go_enter Tryz.func85,Tryz.ntmps85;go_wp2_with fail;refine C1.out.mono ?_;rintro e w1 ⟨rfl,l1⟩;have L1:=hI l1;clear l1 C1;go_wp2_with fail;go_ret;exact HF.out _ L1.out
 rw[if_neg (λh=>h h1)] at hE;obtain⟨x0,hx0,hk2,_,_⟩:=p6a h1;obtain⟨b0,vB0,vZ0,hm,hM0,d0,hp0⟩:=d.dat h1;rw[hp0,h1] at C1;obtain⟨hi,hxi⟩:=List.getElem?_eq_some_iff.1 hx0;have hget:(M[vIx V.l m]'hm).1=x0:=by obtain⟨_,e⟩:=d.get hi;rw[e,hxi]
 have hsm:=d.ok.many;have hML:M.length=V.l.length:=by rw[<-d.is,List.length_map]
 obtain⟨q,c,e⟩:=d.row.form (by omega);rw[hML] at e;subst e;have hnc:V.l.length<=c/\c<=maxLen:=by obtain⟨_,h2,h3,h4,_⟩:=d.row.blk;exact⟨h3,h4⟩
 have hcm:c<=9223372036854775807:=by have:=hnc.2;unfold maxLen at this;omega
 have hus:T0a V.l<=1048576:=by have h1:=d.ok.used;have h2:=d.ok.q1;omega
 have hq0:=d.ok.q0;have hq1:=d.ok.q1;have k0:w.cell? ⟨g,2,none⟩=some (.slice (some ⟨q,0,none⟩) V.l.length c):=d.blk.cell 2;have kq:w.cell? ⟨g,0,none⟩=some (.int .i64 V.quota):=d.blk.cell 0;have D:=hI d;have D0:=hI d0;have hpl:C3a V.l m=(vIx V.l m:Int):=if_pos hi;have CP:Hid (∀w1,Below w.heap.size w w1->Calls Tryz.prog 48 #[.pointer (some ⟨g,0,none⟩),.int .i64 m] w1 λe w'=>e=.returned (.int .i64 (vIx V.l m:Int))/\w'=w1):=λw1 hb=>by have:=V2a w1 base g _ V M (d.below hb) m;rw[hpl] at this;exact this
 have CU:Hid (∀w1,Below w.heap.size w w1->∀k,Calls Tryz.prog 81 #[.pointer (some ⟨g,0,none⟩)] (w1.drewN k) λe w'=>e=.returned (.int .i64 (T0a V.l:Nat))/\w'=w1.drewN k):=λw1 hb k=>a3b (w1.drewN k) base g _ V M (d.below (hb.trans ((E0a w1 k).mono hb.size)))
 have FF:Hid (A0b V m a xs=0->∀w3 w5 b vB vZ,Below w.heap.size w w3->D6a w3 w.heap.size b vB vZ (Y3a 0 (H0a V.l m) a xs) (Y3a false (b1b V.l m) a (List.replicate xs.length true))->j1a C0a 5 98 w5 base (.slice (some ⟨q,0,none⟩) V.l.length c) (M.set (vIx V.l m) (⟨x0.n,x0.kind,x0.par,x0.name,(Y3a 0 (H0a V.l m) a xs),(Y3a false (b1b V.l m) a (List.replicate xs.length true))⟩,some (b,vB,vZ)))->S1a q w3 w5->Ending.returned (.int .i64 0)=.returned (.int .i64 (A0b V m a xs))/\u1a w base g (.slice (some ⟨q,0,none⟩) V.l.length c) M (vWr V m a xs) w5):=λhe w3 w5 b vB vZ hb hd ho hO=>by rw[he];exact⟨rfl,T2a.laid D.out hx0 hk2 hm hb hd hbase ho hO (HHY.out he) HOK.out⟩
 have hmx:Hid (M[vIx V.l m]? = some (M[vIx V.l m]'hm)):=List.getElem?_eq_getElem hm;have HGET:=hI hget;have ROW:=hI d.row;have hqw:q<w.heap.size:=d.row.lt rfl;have hgw:g<w.heap.size:=d.blk.lt;have hgq:Hid (g≠q):=λe=>d.own_ne (by rw[e];rfl)
 have CC:Hid (∀w1,Below w.heap.size w w1->_):=λw1 hb=>J1b w1 base b0 vB0 vZ0 _ _ (d0.below hb)
 obtain⟨AB0,cB0,e,_⟩:=d0.holds;subst e;have kd:w.cell? ⟨b0,0,none⟩=some (.slice AB0 (H0a V.l m).length cB0):=d0.blk.cell 0;have hsB:=d0.small;obtain⟨p,hp⟩:∃p,p=(M[vIx V.l m]'hm):=⟨_,rfl⟩;rw[<-hp] at hmx HGET;obtain⟨n,hn⟩:∃n,n=V.l.length:=⟨_,rfl⟩;obtain⟨k,hk⟩:∃k,k=vIx V.l m:=⟨_,rfl⟩;rw[<-hk] at CP hmx FF hi;rw[<-hn] at ROW FF k0 hi hsm hnc;have hnc':=hnc.1;have hkn:(k:Int)<(n:Int):=by omega
 have hk0:(0:Int)<=(k:Int):=by omega
 have HN:=hI hn;have hno':Hid (∀E,A0b V m a xs=E->E≠0->∀w',Below w.heap.size w w'->Ending.returned (.int .i64 E)=.returned (.int .i64 (A0b V m a xs))/\u1a w base g (.slice (some ⟨q,0,none⟩) n c) M (vWr V m a xs) w'):=by rw[hn];exact hno.out
 rw[<-hn];obtain⟨us,hus'⟩:∃u,u=T0a V.l:=⟨_,rfl⟩;obtain⟨lb,hlb⟩:∃u,u=(H0a V.l m).length:=⟨_,rfl⟩;obtain⟨Q,hQ⟩:∃u,u=V.quota:=⟨_,rfl⟩;obtain⟨B,hB⟩:∃u,u=H0a V.l m:=⟨_,rfl⟩;obtain⟨Z,hZ⟩:∃u,u=b1b V.l m:=⟨_,rfl⟩;rw[<-hlb] at kd hE hsB;rw[<-hB] at FF hE CC;rw[<-hZ] at FF CC;rw[<-hus'] at CU hE hus;rw[<-hQ] at kq hq0 hq1 hE;clear hno d d0 hx0 hk2 hm hM0 hp0 hxi hget hML hnc hpl hp hk hn D D0 hyes hvok hus' hlb hQ hB hZ HHY HOK h1;have hx':=hI hx;go_enter Tryz.func85,Tryz.ntmps85;go_wp2_with fail;refine C1.out.mono ?_;rintro e w1 ⟨rfl,l1⟩;have L1:=hI l1;have CC1:=hI (CC.out w1 l1);clear l1 C1 CC;go_wp2_with fail;refine CC1.out.mono ?_;rintro e w2 ⟨b,vB1,vZ1,rfl,d2,l2⟩;have L2:=hI (step L1.out l2);have D2:=hI d2;have R12:=l2.size;have CW:=hI (a5b w2 w1.heap.size b vB1 vZ1 B Z D2.out a ha R12 XA xn xc xs (((hx'.out.mono hbase).below L2.out).mono L1.out.size));clear d2 l2 CC1;unfold P9a at CW;obtain⟨E2,hE2⟩:∃E,E=q3a a xs.length:=⟨_,rfl⟩;rw[<-hE2] at hE CW;go_wp2_with fail;refine CW.out.mono ?_;rintro e w3 ⟨rfl,vB,vZ,d3,s3,_,_⟩;have L3:Hid (Below w.heap.size w w3):=L2.out.trans (s3.below (λj hj=>Nat.le_trans L1.out.size (D2.out.set_ge j hj)) (L2.out.size));have D3:Hid (D6a w3 w.heap.size b vB vZ _ _):=⟨Nat.le_trans L1.out.size d3.ge,d3.blk,d3.rowB.mono L1.out.size,d3.rowZ.mono L1.out.size,d3.len,d3.small,d3.byte⟩;clear d3 s3 CW D2 hE2;by_cases h2:E2=0
 case neg=>
  rw[if_pos h2] at hE;have t:(E2 != 0)=true:=by simpa using h2
  have HF:=hI (hno'.out _ hE h2);clear hE h2 hno' FF;go_wp2_with fail;go_ret;exact HF.out _ L3.out
 rw[if_neg (λh=>h h2)] at hE;subst h2;obtain⟨AB,cB,e,_⟩:=D3.out.holds;subst e;have kb:w3.cell? ⟨b,0,none⟩=some (.slice AB ((Y3a 0 B a xs)).length cB):=D3.out.blk.cell 0;have hsB3:=D3.out.small;obtain⟨lc,hlc⟩:∃u,u=((Y3a 0 B a xs)).length:=⟨_,rfl⟩;rw[<-hlc] at kb hE hsB3;have j0:w3.cell? ⟨g,2,none⟩=some (.slice (some ⟨q,0,none⟩) n c):=(L3.out.cell hgw).trans k0;have jq:w3.cell? ⟨g,0,none⟩=some (.int .i64 Q):=(L3.out.cell hgw).trans kq;have jd:w3.cell? ⟨b0,0,none⟩=some (.slice AB0 lb cB0):=(L3.out.cell (d0a kd)).trans kd;have CU3:=hI (CU.out w3 L3.out);clear CU hlc;by_cases h3:Q<(us:Int)-lb+lc
 ·rw[if_pos h3] at hE;have HF:=hI (hno'.out _ hE (by decide));clear hE hno' FF;go_wp2_with fail;go_quiet ((go_at_call 81;exact Calls.quiet_of_same (CU3.out _)));go_wp2_with fail;go_ret;exact HF.out _ (L3.out.trans ((E0a w3 _).mono L3.out.size))
 rw[if_neg h3] at hE;have FF':=hI (FF.out hE);clear hE hno' FF;go_wp2_with fail;go_quiet ((go_at_call 81;exact Calls.quiet_of_same (CU3.out _)));go_upto_region 10 with fail
 obtain⟨w4,hw4⟩:∃u,u=w3.drewN nq:=⟨_,rfl⟩;have l34:Below w3.heap.size w3 w4:=by rw[hw4];exact E0a w3 nq
 have L4:=hI (step L3.out l34);have D4:=hI (D3.out.below l34);have CP4:=hI (CP.out w4.drew L4.out.drew);have ROW4:Hid (j1a C0a 5 98 w4 base (.slice (some ⟨q,0,none⟩) n c) M):=ROW.out.below L4.out;have m0:w4.cell? ⟨g,2,none⟩=some (.slice (some ⟨q,0,none⟩) n c):=(L4.out.cell hgw).trans k0;rw[<-hw4];clear hw4 l34 CP ROW D3 L3 CU3;refine wp_region_held (S:=λw'=>w'.cell? ⟨g,2,none⟩=some (.slice (some ⟨q,0,none⟩) n c)) (by kernel_rfl) ?_;change wpAnyH _ _ _ _ _ _ _ _ w4.drew
 have Q0:Hid (w4.drew.cell? ⟨g,2,none⟩=some (.slice (some ⟨q,0,none⟩) n c)):=m0;refine tK 0 _ rfl (a0a (by kernel_rfl) (.tmp 0) rfl (.pointer (some ⟨g,0,none⟩)) (by kernel_rfl)) Q0.out ?_;refine tK 1 _ rfl (p0a (by kernel_rfl) (.tmp 50) rfl ⟨g,0,none⟩ (by kernel_rfl)) Q0.out ?_;refine tK 2 _ rfl (e0a (by kernel_rfl) _ (.tmp 51) 2 rfl (.pointer (some ⟨g,0,none⟩)) (.pointer (some ⟨g,2,none⟩)) (by kernel_rfl) (λw=>by go_simp)) Q0.out ?_;refine tK 3 _ rfl (b0a (by kernel_rfl) _ (.tmp 52) rfl g (2) (by kernel_rfl) (.slice (some ⟨q,0,none⟩) n c) (λ_ h=>h) _ Tryz.underlying99 rfl) Q0.out ?_;refine tK 4 _ rfl (a0a (by kernel_rfl) (.tmp 0) rfl (.pointer (some ⟨g,0,none⟩)) (by kernel_rfl)) Q0.out ?_;refine tK 5 _ rfl (a0a (by kernel_rfl) (.tmp 1) rfl (.int .i64 m) (by kernel_rfl)) Q0.out ?_;refine tK 7 _ rfl (a0a (by kernel_rfl) (.tmp 11) rfl (.pointer (some ⟨b,0,none⟩)) (by kernel_rfl)) Q0.out ?_;refine oN 6 _ rfl λK hK=>?_
 go_simp;refine CP4.out.mono ?_;rintro e v1 ⟨rfl,rfl⟩;refine hK _ _ Q0.out ?_;clear hK K CP4;refine oN 8 _ rfl λK hK=>?_
 go_simp;refine hK _ _ Q0.out ?_;clear hK K;refine oN 9 _ rfl λK hK=>?_
 go_simp;refine hK _ _ Q0.out ?_;clear hK K;refine V3a λa1 ha1=>?_
 have e1:a1.eval (.tmp 59)=.pointer (some ⟨q,k*5+4,none⟩):=by rw[ha1];kernel_rfl
 have e2:a1.eval (.tmp 57)=.pointer (some ⟨b,0,none⟩):=by rw[ha1];kernel_rfl
 refine oN 10 _ rfl λK hK=>?_
 refine L2a C0a 5 (by decide) K0a (by kernel_rfl) 96 (.tmp 59) (.tmp 57) (by kernel_rfl) q k 4 n c base 98 e1 M p (⟨p.1.n,p.1.kind,p.1.par,p.1.name,(Y3a 0 B a xs),(Y3a false Z a (List.replicate xs.length true))⟩,some (b,.slice AB ((Y3a 0 B a xs)).length cB,vZ)) (.pointer (some ⟨b,0,none⟩)) e2 (ROW4.out.below (E0a w4 1)) hmx.out (by decide) rfl (by kernel_rfl) rfl ?_ (by kernel_rfl);intro w6 R6 P6;refine hK _ _ ((P6.out.cellV hgq.out).trans Q0.out) ?_;clear hK K e1 e2;rw[ha1];clear ha1 a1;refine dN ?_;have R6':=R6.out;rw[HGET.out] at R6';have HF:=hI (FF'.out w4.drew w6 b (.slice AB ((Y3a 0 B a xs)).length cB) vZ L4.out.drew (D4.out.below (E0a w4 1)) R6' P6.out);clear R6';go_wp2_with fail;go_ret;exact HF.out
theorem U8b(w:World)(base g:Nat)(v:Value)(V:X0a)(M:List VP)(d:T2a w base g v V M)(hbase:base<=w.heap.size)(m a:Int)(ha:-9223372036854775808<=a/\a<=9223372036854775807) :
  Calls Tryz.prog 86 #[.pointer (some ⟨g,0,none⟩),.int .i64 m,.int .i64 a] w λe w'=>e=.returned (.int .i64 (n6a V m a))/\u1a w base g v M (b2b V m a) w':=by
 have C1:=hI (G1b w base g v V M d m);have hno:Hid (∀E,n6a V m a=E->E≠0->∀w',Below w.heap.size w w'->Ending.returned (.int .i64 E)=.returned (.int .i64 (n6a V m a))/\u1a w base g v M (b2b V m a) w'):=λE h1 h2 w' hb=>by rw[show b2b V m a=V from if_neg (by omega),h1];exact⟨rfl,d.stays hb⟩
 have hyes:n6a V m a=0->b2b V m a=⟨V.quota,V.last,v4a V.l m (T1a 0 (H0a V.l m) a) (T1a false (b1b V.l m) a)⟩:=λh=>if_pos h
 have hE:n6a V m a=if r1a V.l m≠0 then r1a V.l m else if C2a a≠0 then C2a a else if V.quota<(T0a V.l:Int)-(H0a V.l m).length+((T1a 0 (H0a V.l m) a)).length then 13 else 0:=rfl
 have hvok:=d.ok.cut m a;have HHY:=hI hyes;have HOK:=hI hvok;by_cases h1:r1a V.l m=0
 case neg=>
  rw[if_pos h1] at hE;have hP:f2b V.l M m=.pointer none:=if_neg h1;rw[hP] at C1;obtain⟨E1,hE1⟩:∃E,E=r1a V.l m:=⟨_,rfl⟩;rw[<-hE1] at C1 hE h1;have t:(E1 != 0)=true:=by simpa using h1
  have HF:=hI (hno.out _ hE h1);clear hE h1 hno hE1 d hyes hvok hP;go_enter Tryz.func86,Tryz.ntmps86;go_wp2_with fail;refine C1.out.mono ?_;rintro e w1 ⟨rfl,l1⟩;have L1:=hI l1;clear l1 C1;go_wp2_with fail;go_ret;exact HF.out _ L1.out
 rw[if_neg (λh=>h h1)] at hE;obtain⟨x0,hx0,hk2,_,_⟩:=p6a h1;obtain⟨b0,vB0,vZ0,hm,hM0,d0,hp0⟩:=d.dat h1;rw[hp0,h1] at C1;obtain⟨hi,hxi⟩:=List.getElem?_eq_some_iff.1 hx0;have hget:(M[vIx V.l m]'hm).1=x0:=by obtain⟨_,e⟩:=d.get hi;rw[e,hxi]
 have hsm:=d.ok.many;have hML:M.length=V.l.length:=by rw[<-d.is,List.length_map]
 obtain⟨q,c,e⟩:=d.row.form (by omega);rw[hML] at e;subst e;have hnc:V.l.length<=c/\c<=maxLen:=by obtain⟨_,h2,h3,h4,_⟩:=d.row.blk;exact⟨h3,h4⟩
 have hcm:c<=9223372036854775807:=by have:=hnc.2;unfold maxLen at this;omega
 have hus:T0a V.l<=1048576:=by have h1:=d.ok.used;have h2:=d.ok.q1;omega
 have hq0:=d.ok.q0;have hq1:=d.ok.q1;have k0:w.cell? ⟨g,2,none⟩=some (.slice (some ⟨q,0,none⟩) V.l.length c):=d.blk.cell 2;have kq:w.cell? ⟨g,0,none⟩=some (.int .i64 V.quota):=d.blk.cell 0;have D:=hI d;have D0:=hI d0;have hpl:C3a V.l m=(vIx V.l m:Int):=if_pos hi;have CP:Hid (∀w1,Below w.heap.size w w1->Calls Tryz.prog 48 #[.pointer (some ⟨g,0,none⟩),.int .i64 m] w1 λe w'=>e=.returned (.int .i64 (vIx V.l m:Int))/\w'=w1):=λw1 hb=>by have:=V2a w1 base g _ V M (d.below hb) m;rw[hpl] at this;exact this
 have CU:Hid (∀w1,Below w.heap.size w w1->∀k,Calls Tryz.prog 81 #[.pointer (some ⟨g,0,none⟩)] (w1.drewN k) λe w'=>e=.returned (.int .i64 (T0a V.l:Nat))/\w'=w1.drewN k):=λw1 hb k=>a3b (w1.drewN k) base g _ V M (d.below (hb.trans ((E0a w1 k).mono hb.size)))
 have FF:Hid (n6a V m a=0->∀w3 w5 b vB vZ,Below w.heap.size w w3->D6a w3 w.heap.size b vB vZ (T1a 0 (H0a V.l m) a) (T1a false (b1b V.l m) a)->j1a C0a 5 98 w5 base (.slice (some ⟨q,0,none⟩) V.l.length c) (M.set (vIx V.l m) (⟨x0.n,x0.kind,x0.par,x0.name,(T1a 0 (H0a V.l m) a),(T1a false (b1b V.l m) a)⟩,some (b,vB,vZ)))->S1a q w3 w5->Ending.returned (.int .i64 0)=.returned (.int .i64 (n6a V m a))/\u1a w base g (.slice (some ⟨q,0,none⟩) V.l.length c) M (b2b V m a) w5):=λhe w3 w5 b vB vZ hb hd ho hO=>by rw[he];exact⟨rfl,T2a.laid D.out hx0 hk2 hm hb hd hbase ho hO (HHY.out he) HOK.out⟩
 have hmx:Hid (M[vIx V.l m]? = some (M[vIx V.l m]'hm)):=List.getElem?_eq_getElem hm;have HGET:=hI hget;have ROW:=hI d.row;have hqw:q<w.heap.size:=d.row.lt rfl;have hgw:g<w.heap.size:=d.blk.lt;have hgq:Hid (g≠q):=λe=>d.own_ne (by rw[e];rfl)
 have CC:Hid (∀w1,Below w.heap.size w w1->_):=λw1 hb=>J1b w1 base b0 vB0 vZ0 _ _ (d0.below hb)
 obtain⟨AB0,cB0,e,_⟩:=d0.holds;subst e;have kd:w.cell? ⟨b0,0,none⟩=some (.slice AB0 (H0a V.l m).length cB0):=d0.blk.cell 0;have hsB:=d0.small;obtain⟨p,hp⟩:∃p,p=(M[vIx V.l m]'hm):=⟨_,rfl⟩;rw[<-hp] at hmx HGET;obtain⟨n,hn⟩:∃n,n=V.l.length:=⟨_,rfl⟩;obtain⟨k,hk⟩:∃k,k=vIx V.l m:=⟨_,rfl⟩;rw[<-hk] at CP hmx FF hi;rw[<-hn] at ROW FF k0 hi hsm hnc;have hnc':=hnc.1;have hkn:(k:Int)<(n:Int):=by omega
 have hk0:(0:Int)<=(k:Int):=by omega
 have HN:=hI hn;have hno':Hid (∀E,n6a V m a=E->E≠0->∀w',Below w.heap.size w w'->Ending.returned (.int .i64 E)=.returned (.int .i64 (n6a V m a))/\u1a w base g (.slice (some ⟨q,0,none⟩) n c) M (b2b V m a) w'):=by rw[hn];exact hno.out
 rw[<-hn];obtain⟨us,hus'⟩:∃u,u=T0a V.l:=⟨_,rfl⟩;obtain⟨lb,hlb⟩:∃u,u=(H0a V.l m).length:=⟨_,rfl⟩;obtain⟨Q,hQ⟩:∃u,u=V.quota:=⟨_,rfl⟩;obtain⟨B,hB⟩:∃u,u=H0a V.l m:=⟨_,rfl⟩;obtain⟨Z,hZ⟩:∃u,u=b1b V.l m:=⟨_,rfl⟩;rw[<-hlb] at kd hE hsB;rw[<-hB] at FF hE CC;rw[<-hZ] at FF CC;rw[<-hus'] at CU hE hus;rw[<-hQ] at kq hq0 hq1 hE;clear hno d d0 hx0 hk2 hm hM0 hp0 hxi hget hML hnc hpl hp hk hn D D0 hyes hvok hus' hlb hQ hB hZ HHY HOK h1;go_enter Tryz.func86,Tryz.ntmps86;go_wp2_with fail;refine C1.out.mono ?_;rintro e w1 ⟨rfl,l1⟩;have L1:=hI l1;have CC1:=hI (CC.out w1 l1);clear l1 C1 CC;go_wp2_with fail;refine CC1.out.mono ?_;rintro e w2 ⟨b,vB1,vZ1,rfl,d2,l2⟩;have L2:=hI (step L1.out l2);have D2:=hI d2;have R12:=l2.size;have CW:=hI (S2b w2 w1.heap.size b vB1 vZ1 B Z D2.out a ha R12);clear d2 l2 CC1
 skip
 obtain⟨E2,hE2⟩:∃E,E=C2a a:=⟨_,rfl⟩;rw[<-hE2] at hE CW;go_wp2_with fail;refine CW.out.mono ?_;rintro e w3 ⟨rfl,vB,vZ,d3,s3,_,_⟩;have L3:Hid (Below w.heap.size w w3):=L2.out.trans (s3.below (λj hj=>Nat.le_trans L1.out.size (D2.out.set_ge j hj)) (L2.out.size));have D3:Hid (D6a w3 w.heap.size b vB vZ _ _):=⟨Nat.le_trans L1.out.size d3.ge,d3.blk,d3.rowB.mono L1.out.size,d3.rowZ.mono L1.out.size,d3.len,d3.small,d3.byte⟩;clear d3 s3 CW D2 hE2;by_cases h2:E2=0
 case neg=>
  rw[if_pos h2] at hE;have t:(E2 != 0)=true:=by simpa using h2
  have HF:=hI (hno'.out _ hE h2);clear hE h2 hno' FF;go_wp2_with fail;go_ret;exact HF.out _ L3.out
 rw[if_neg (λh=>h h2)] at hE;subst h2;obtain⟨AB,cB,e,_⟩:=D3.out.holds;subst e;have kb:w3.cell? ⟨b,0,none⟩=some (.slice AB ((T1a 0 B a)).length cB):=D3.out.blk.cell 0;have hsB3:=D3.out.small;obtain⟨lc,hlc⟩:∃u,u=((T1a 0 B a)).length:=⟨_,rfl⟩;rw[<-hlc] at kb hE hsB3;have j0:w3.cell? ⟨g,2,none⟩=some (.slice (some ⟨q,0,none⟩) n c):=(L3.out.cell hgw).trans k0;have jq:w3.cell? ⟨g,0,none⟩=some (.int .i64 Q):=(L3.out.cell hgw).trans kq;have jd:w3.cell? ⟨b0,0,none⟩=some (.slice AB0 lb cB0):=(L3.out.cell (d0a kd)).trans kd;have CU3:=hI (CU.out w3 L3.out);clear CU hlc;by_cases h3:Q<(us:Int)-lb+lc
 ·rw[if_pos h3] at hE;have HF:=hI (hno'.out _ hE (by decide));clear hE hno' FF;go_wp2_with fail;go_quiet ((go_at_call 81;exact Calls.quiet_of_same (CU3.out _)));go_wp2_with fail;go_ret;exact HF.out _ (L3.out.trans ((E0a w3 _).mono L3.out.size))
 rw[if_neg h3] at hE;have FF':=hI (FF.out hE);clear hE hno' FF;go_wp2_with fail;go_quiet ((go_at_call 81;exact Calls.quiet_of_same (CU3.out _)));go_upto_region 10 with fail
 obtain⟨w4,hw4⟩:∃u,u=w3.drewN nq:=⟨_,rfl⟩;have l34:Below w3.heap.size w3 w4:=by rw[hw4];exact E0a w3 nq
 have L4:=hI (step L3.out l34);have D4:=hI (D3.out.below l34);have CP4:=hI (CP.out w4.drew L4.out.drew);have ROW4:Hid (j1a C0a 5 98 w4 base (.slice (some ⟨q,0,none⟩) n c) M):=ROW.out.below L4.out;have m0:w4.cell? ⟨g,2,none⟩=some (.slice (some ⟨q,0,none⟩) n c):=(L4.out.cell hgw).trans k0;rw[<-hw4];clear hw4 l34 CP ROW D3 L3 CU3;refine wp_region_held (S:=λw'=>w'.cell? ⟨g,2,none⟩=some (.slice (some ⟨q,0,none⟩) n c)) (by kernel_rfl) ?_;change wpAnyH _ _ _ _ _ _ _ _ w4.drew
 have Q0:Hid (w4.drew.cell? ⟨g,2,none⟩=some (.slice (some ⟨q,0,none⟩) n c)):=m0;refine tK 0 _ rfl (a0a (by kernel_rfl) (.tmp 0) rfl (.pointer (some ⟨g,0,none⟩)) (by kernel_rfl)) Q0.out ?_;refine tK 1 _ rfl (p0a (by kernel_rfl) (.tmp 47) rfl ⟨g,0,none⟩ (by kernel_rfl)) Q0.out ?_;refine tK 2 _ rfl (e0a (by kernel_rfl) _ (.tmp 48) 2 rfl (.pointer (some ⟨g,0,none⟩)) (.pointer (some ⟨g,2,none⟩)) (by kernel_rfl) (λw=>by go_simp)) Q0.out ?_;refine tK 3 _ rfl (b0a (by kernel_rfl) _ (.tmp 49) rfl g (2) (by kernel_rfl) (.slice (some ⟨q,0,none⟩) n c) (λ_ h=>h) _ Tryz.underlying99 rfl) Q0.out ?_;refine tK 4 _ rfl (a0a (by kernel_rfl) (.tmp 0) rfl (.pointer (some ⟨g,0,none⟩)) (by kernel_rfl)) Q0.out ?_;refine tK 5 _ rfl (a0a (by kernel_rfl) (.tmp 1) rfl (.int .i64 m) (by kernel_rfl)) Q0.out ?_;refine tK 7 _ rfl (a0a (by kernel_rfl) (.tmp 9) rfl (.pointer (some ⟨b,0,none⟩)) (by kernel_rfl)) Q0.out ?_;refine oN 6 _ rfl λK hK=>?_
 go_simp;refine CP4.out.mono ?_;rintro e v1 ⟨rfl,rfl⟩;refine hK _ _ Q0.out ?_;clear hK K CP4;refine oN 8 _ rfl λK hK=>?_
 go_simp;refine hK _ _ Q0.out ?_;clear hK K;refine oN 9 _ rfl λK hK=>?_
 go_simp;refine hK _ _ Q0.out ?_;clear hK K;refine V3a λa1 ha1=>?_
 have e1:a1.eval (.tmp 56)=.pointer (some ⟨q,k*5+4,none⟩):=by rw[ha1];kernel_rfl
 have e2:a1.eval (.tmp 54)=.pointer (some ⟨b,0,none⟩):=by rw[ha1];kernel_rfl
 refine oN 10 _ rfl λK hK=>?_
 refine L2a C0a 5 (by decide) K0a (by kernel_rfl) 96 (.tmp 56) (.tmp 54) (by kernel_rfl) q k 4 n c base 98 e1 M p (⟨p.1.n,p.1.kind,p.1.par,p.1.name,(T1a 0 B a),(T1a false Z a)⟩,some (b,.slice AB ((T1a 0 B a)).length cB,vZ)) (.pointer (some ⟨b,0,none⟩)) e2 (ROW4.out.below (E0a w4 1)) hmx.out (by decide) rfl (by kernel_rfl) rfl ?_ (by kernel_rfl);intro w6 R6 P6;refine hK _ _ ((P6.out.cellV hgq.out).trans Q0.out) ?_;clear hK K e1 e2;rw[ha1];clear ha1 a1;refine dN ?_;have R6':=R6.out;rw[HGET.out] at R6';have HF:=hI (FF'.out w4.drew w6 b (.slice AB ((T1a 0 B a)).length cB) vZ L4.out.drew (D4.out.below (E0a w4 1)) R6' P6.out);clear R6';go_wp2_with fail;go_ret;exact HF.out
theorem b3b(w:World)(q:Int) :
  Calls Tryz.prog 38 #[.int .i64 q] w λe w'=>(O3a q≠0->e=.returned (.tuple #[.pointer none,.int .i64 (O3a q)])/\Below w.heap.size w w')/\
   (O3a q=0->∃g v,e=.returned (.tuple #[.pointer (some ⟨g,0,none⟩),.int .i64 0])/\T2a w' w.heap.size g v (e2c q) [(W3a,none)]/\Below w.heap.size w w'):=by
 have hE:O3a q=if q<0∨1048576<q then 2 else 0:=rfl
 by_cases h1:q<0
 ·rw[if_pos (.inl h1)] at hE;have HE:=hI hE;clear hE;go_enter Tryz.func38,Tryz.ntmps38;go_wp2_with fail;go_ret2;exact⟨λ_=>⟨by rw[HE.out];rfl,Below.refl _ _⟩,λh=>by rw[HE.out] at h;cases h⟩
 ·by_cases h2:1048576<q
  ·rw[if_pos (.inr h2)] at hE;have HE:=hI hE;clear hE;go_enter Tryz.func38,Tryz.ntmps38;go_wp2_with fail;go_ret2;exact⟨λ_=>⟨by rw[HE.out];rfl,Below.refl _ _⟩,λh=>by rw[HE.out] at h;cases h⟩
  ·rw[if_neg (λh=>by rcases h with h | h;exact h1 h;exact h2 h)] at hE;have HOK:=hI (Vok.new hE);have HE:=hI hE;clear hE;go_enter Tryz.func38,Tryz.ntmps38;go_wp2_with(first
    | ((with_reducible refine sN 11 ?_);go_loud (refine A0a rfl _ _ rfl [.int .i64 1,.int .u8 1,.int .i64 0,.string .empty,.pointer none] (by kernel_rfl) ?_))
    | ((with_reducible refine sN 12 ?_);go_loud (refine s0b rfl _ _ _ _ rfl Tryz.underlying99 [.int .i64 1,.int .u8 1,.int .i64 0,.string .empty,.pointer none] (by kernel_rfl) ?_);intro gr w1 hr1 hr2 X1 L1)
    | ((with_reducible refine sN 13 ?_);go_loud (refine A0a rfl _ _ rfl [.int .i64 q,.int .i64 1,.slice (some ⟨gr,0,none⟩) 1 1] (by kernel_rfl) ?_))
    | ((with_reducible refine sN 14 ?_);go_loud (refine v0a rfl _ (.tmp 13) rfl [.int .i64 q,.int .i64 1,.slice (some ⟨gr,0,none⟩) 1 1] rfl ?_);intro g w2 hg1 hg2 B2 L2)
    | fail)
   go_ret2;have X2:=X1.out.over L2.out;refine⟨λh=>absurd HE.out h,λ_=>⟨g,rfl,⟨.slice (some ⟨gr,0,none⟩) 1 1,⟨Nat.le_trans L1.out.size hg1,B2.out,?_,rfl,?_,?_,HOK.out,by show(1:Int)<=1048576;decide⟩⟩,step L1.out L2.out⟩⟩
   ·exact j1a.of_blk K0a hr1 X2 rfl (by decide) rfl (Nat.le_refl _) rfl
   ·intro y hy _;obtain rfl:y=(W3a,none):=by simpa using hy
    rfl
   ·intro y hy hk;obtain rfl:y=(W3a,none):=by simpa using hy
    cases hk
theorem G6b(w:World)(base g:Nat)(v:Value)(V:X0a)(M:List VP)(d:T2a w base g v V M)(m a k:Int)(ha:-9223372036854775808<=a/\a<=9223372036854775807)(hk:-9223372036854775808<=k/\k<=9223372036854775807) :
  Calls Tryz.prog 87 #[.pointer (some ⟨g,0,none⟩),.int .i64 m,.int .i64 a,.int .i64 k] w λe w'=>∃u,e=.returned (.tuple #[u,.int .i64 (s2a V.l m a k)])/\Own w' w.heap.size u (E2a V.l m a k)/\Below w.heap.size w w':=by
 have C1:=hI (G1b w base g v V M d m);have hE:s2a V.l m a k=if r1a V.l m≠0 then r1a V.l m else G4a (H0a V.l m).length a k:=rfl
 have hR:E2a V.l m a k=if s2a V.l m a k=0 then d0b (H0a V.l m) a k else []:=rfl
 by_cases h1:r1a V.l m=0
 case neg=>
  rw[if_pos h1] at hE;rw[if_neg (by omega)] at hR;rw[hR];have hP:f2b V.l M m=.pointer none:=if_neg h1;rw[hP] at C1;obtain⟨E1,hE1⟩:∃E,E=r1a V.l m:=⟨_,rfl⟩;rw[<-hE1] at C1 hE h1;rw[hE];have t:(E1 != 0)=true:=by simpa using h1
  clear hE h1 hE1 d hP hR;go_enter Tryz.func87,Tryz.ntmps87;go_wp2_with fail;refine C1.out.mono ?_;rintro e w1 ⟨rfl,l1⟩;have L1:=hI l1;clear l1 C1;go_wp2_with fail;go_ret2;exact⟨_,rfl,Own.nil _ _,L1.out⟩
 rw[if_neg (λh=>h h1)] at hE;obtain⟨b0,vB0,vZ0,hm,hM0,d0,hp0⟩:=d.dat h1;rw[hp0,h1] at C1;have HF:Hid (∀w1 u w2,Below w.heap.size w w1->Own w2 w1.heap.size u (d0b (H0a V.l m) a k)->Below w1.heap.size w1 w2->∃u',Ending.returned (.tuple #[u,.int .i64 (G4a (H0a V.l m).length a k)])=.returned (.tuple #[u',.int .i64 (s2a V.l m a k)])/\Own w2 w.heap.size u' (E2a V.l m a k)/\Below w.heap.size w w2):=λw1 u w2 hb ho hb2=>by
  refine⟨u,by rw[hE],?_,step hb hb2⟩;have e:E2a V.l m a k=d0b (H0a V.l m) a k:=by
   rw[hR];split
   ·rfl
   ·rename_i h;rw[hE] at h;unfold d0b;rw[if_neg h]
  rw[e];exact ho.mono hb.size
 have CR:Hid (∀w1,Below w.heap.size w w1->_):=λw1 hb=>s6b w1 base b0 vB0 vZ0 _ _ (d0.below hb) a k ha hk
 clear hE hR d d0 hM0 hp0 h1;obtain⟨E2,hE2⟩:∃E,E=G4a (H0a V.l m).length a k:=⟨_,rfl⟩;rw[<-hE2] at HF CR;clear hE2;go_enter Tryz.func87,Tryz.ntmps87;go_wp2_with fail;refine C1.out.mono ?_;rintro e w1 ⟨rfl,l1⟩;have L1:=hI l1;have CR1:=hI (CR.out w1 l1);clear l1 C1 CR;go_wp2_with fail;refine CR1.out.mono ?_;rintro e w2 ⟨u,rfl,o2,l2⟩;have FF:=hI (HF.out w1 u w2 L1.out o2 l2);clear o2 l2 CR1 HF;go_wp2_with fail;go_ret2;exact FF.out
theorem x8a(w:World)(base g:Nat)(v:Value)(V:X0a)(M:List VP)(d:T2a w base g v V M)(m:Int) :
  Calls Tryz.prog 16 #[.pointer (some ⟨g,0,none⟩),.int .i64 m] w λe w'=>e=.returned (.tuple #[.agg #[.int .u8 (z0a V.l m),.int .i64 (I4a V.l m:Nat)],.int .i64 (N2a V.l m)])/\Below w.heap.size w w':=by
 have CP:Hid (∀w1,Below w.heap.size w w1->_):=λw1 hb=>V2a w1 base g v V M (d.below hb) m
 have hsm:=d.ok.many;have ZN:Hid ((Tryz.prog.info? 34).map (λi=>(i.zero,i.size))=some (some (.agg ([.int .u8 0,.int .i64 0]:List Value).toArray),2)):=w2a;rcases Q7a (L:=V.l) (n:=m) with⟨p1,p2⟩ | ⟨hi,p1,p2⟩
 ·have hk:z0a V.l m=0:=by unfold z0a;rw[p2]
  have hs:I4a V.l m=0:=by unfold I4a;rw[p2]
  have hE:N2a V.l m=7:=by unfold N2a;rw[p2];rfl
  rw[hk,hs,hE];rw[p1] at CP;clear hk hs hE p1 p2 d;go_enter Tryz.func16,Tryz.ntmps16;go_wp2_with(first
   | ((with_reducible refine sN 4 ?_);refine i0a rfl _ rfl [.int .u8 0,.int .i64 0] 2 ZN ?_;intro b w0 hb1 hb2 X0 L0)
   | fail)
  refine(CP.out w0 L0.out).mono ?_;rintro e w1 ⟨rfl,rfl⟩;clear CP;go_wp2_with(first
   | ((with_reducible refine sN 13 ?_);go_loud (refine J2a rfl _ rfl [.int .u8 0,.int .i64 0] (by kernel_rfl) ?_))
   | ((with_reducible refine sT 4 ?_);go_loud (refine l0a rfl _ (.tmp 4) (.tmp 13) rfl b rfl _ _ [.int .u8 0,.int .i64 0] rfl X0 2 J0a rfl rfl (by intro u hu;simp only[List.mem_cons,List.not_mem_nil,or_false] at hu;rcases hu with rfl | rfl<;>rfl) ?_);intro w2 X2 O2 hg2)
   | fail)
  refine bodyPost_ret (v:=.tuple #[.agg #[.int .u8 0,.int .i64 0],.int .i64 7]) ?_ rfl ⟨rfl,r0a L0.out O2.out hb1⟩;exact d2a rfl _ _ b _ _ (0,0) _ rfl X2.out Tryz.underlying34 rfl (by rw[J0a];rfl) rfl
 ·have hk:z0a V.l m=(V.l[vIx V.l m]'hi).kind:=by unfold z0a;rw[p2]
  have hs:I4a V.l m=(V.l[vIx V.l m]'hi).B.length:=by unfold I4a;rw[p2]
  have hE:N2a V.l m=0:=by unfold N2a;rw[p2];rfl
  rw[hk,hs,hE];rw[p1] at CP;obtain⟨A,c,rfl⟩:=d.len;have k0:w.cell? ⟨g,2,none⟩=some (.slice A V.l.length c):=d.blk.cell 2;obtain⟨q,c',e,hnc,hcm,_,k1,_,_,hm0,k4⟩:=d.at hi;injection e with e1 e2 e3
  subst e1 e3;have hcases:((V.l[vIx V.l m]'hi).kind=1/\(V.l[vIx V.l m]'hi).B.length=0)∨((V.l[vIx V.l m]'hi).kind=2/\∃b AB cB,w.cell? ⟨q,vIx V.l m*5+4,none⟩=some (.pointer (some ⟨b,0,none⟩))/\w.cell? ⟨b,0,none⟩=some (.slice AB (V.l[vIx V.l m]'hi).B.length cB)):=by
   rcases d.ok.kind _ (List.getElem_mem hi) with h | h
   ·exact .inl ⟨h,by rw[(d.ok.dirB _ (List.getElem_mem hi) h).1];rfl⟩
   ·obtain⟨hm,b,vB,vZ,e,dd⟩:=d.file hi h;obtain⟨AB,cB,rfl,_⟩:=dd.holds;exact .inr ⟨h,b,AB,cB,by rw[k4,e];rfl,dd.blk.cell 0⟩
  obtain⟨x,hx⟩:∃x,x=(V.l[vIx V.l m]'hi).kind:=⟨_,rfl⟩;obtain⟨z,hz⟩:∃x,x=(V.l[vIx V.l m]'hi).B.length:=⟨_,rfl⟩;rw[<-hx] at k1 hcases⊢;rw[<-hz] at hcases⊢;obtain⟨n,hn⟩:∃n,n=V.l.length:=⟨_,rfl⟩;obtain⟨i,hii⟩:∃i,i=vIx V.l m:=⟨_,rfl⟩;rw[<-hn] at k0 hi hnc hsm;rw[<-hii] at CP hi k1 hcases;clear hk hs hE p1 p2 d k4 e2 hx hz hn hii;rcases hcases with⟨rfl,rfl⟩ | ⟨rfl,bd,AB,cB,k4,k5⟩
  ·go_enter Tryz.func16,Tryz.ntmps16;go_wp2_with(first
    | ((with_reducible refine sN 4 ?_);refine i0a rfl _ rfl [.int .u8 0,.int .i64 0] 2 ZN ?_;intro b w0 hb1 hb2 X0 L0)
    | fail)
   refine(CP.out w0 L0.out).mono ?_;rintro e w1 ⟨rfl,rfl⟩;have j0:w1.cell? ⟨g,2,none⟩=some (.slice (some ⟨q,0,none⟩) n c):=(L0.out.cell (d0a k0)).trans k0;have j1:w1.cell? ⟨q,i*5+1,none⟩=some (.int .u8 1):=(L0.out.cell (d0a k1)).trans k1;clear CP;go_wp2_with(first
    | ((with_reducible refine sN 22 ?_);go_loud (refine A0a rfl _ _ rfl [.int .u8 1,.int .i64 0] (by kernel_rfl) ?_))
    | ((with_reducible refine sN 7 ?_);go_loud (refine i0a rfl _ rfl [.int .u8 0,.int .i64 0] 2 ZN ?_);intro b7 w2 hc1 hc2 Y2 L2;have X2:=hI (X0.out.over L2.out);have hne:b≠b7:=(by omega))
    | ((with_reducible refine sT 7 ?_);go_loud (refine l0a rfl _ (.tmp 7) (.tmp 22) rfl b7 rfl _ _ [.int .u8 1,.int .i64 0] rfl Y2 2 J0a rfl rfl (by intro u hu;simp only[List.mem_cons,List.not_mem_nil,or_false] at hu;rcases hu with rfl | rfl<;>rfl) ?_);intro w3 Y3 O3 hg3;have X3:=hI (X2.out.only O3.out hne);have g3:w3.cell? ⟨b7,0,none⟩=some (.int .u8 1):=Y3.out.cell 0;have L3:=hI (r0a (step L0.out L2.out) O3.out (Nat.le_trans L0.out.size hc1)))
    | ((with_reducible refine sN 39 ?_);go_loud (refine s3a rfl _ (.tmp 7) rfl b7 rfl _ [.int .u8 1,.int .i64 0] Y3 2 _ Tryz.underlying34 rfl J0a rfl ?_))
    | ((with_reducible refine sT 4 ?_);go_loud (refine l0a rfl _ (.tmp 4) (.tmp 39) rfl b rfl _ _ [.int .u8 1,.int .i64 0] rfl X3 2 J0a rfl rfl (by intro u hu;simp only[List.mem_cons,List.not_mem_nil,or_false] at hu;rcases hu with rfl | rfl<;>rfl) ?_);intro w4 X4 O4 hg4)
    | fail)
   refine bodyPost_ret (v:=.tuple #[.agg #[.int .u8 1,.int .i64 0],.int .i64 0]) ?_ rfl ⟨rfl,r0a L3.out O4.out hb1⟩;exact d2a rfl _ _ b _ _ (0,0) _ rfl X4.out Tryz.underlying34 rfl (by rw[J0a];rfl) rfl
  ·go_enter Tryz.func16,Tryz.ntmps16;go_wp2_with(first
    | ((with_reducible refine sN 4 ?_);refine i0a rfl _ rfl [.int .u8 0,.int .i64 0] 2 ZN ?_;intro b w0 hb1 hb2 X0 L0)
    | fail)
   refine(CP.out w0 L0.out).mono ?_;rintro e w1 ⟨rfl,rfl⟩;have j0:w1.cell? ⟨g,2,none⟩=some (.slice (some ⟨q,0,none⟩) n c):=(L0.out.cell (d0a k0)).trans k0;have j1:w1.cell? ⟨q,i*5+1,none⟩=some (.int .u8 2):=(L0.out.cell (d0a k1)).trans k1;clear CP;go_wp2_with(first
    | ((with_reducible refine sN 22 ?_);go_loud (refine A0a rfl _ _ rfl [.int .u8 2,.int .i64 0] (by kernel_rfl) ?_))
    | ((with_reducible refine sN 7 ?_);go_loud (refine i0a rfl _ rfl [.int .u8 0,.int .i64 0] 2 ZN ?_);intro b7 w2 hc1 hc2 Y2 L2;have X2:=hI (X0.out.over L2.out);have hne:b≠b7:=(by omega))
    | ((with_reducible refine sT 7 ?_);go_loud (refine l0a rfl _ (.tmp 7) (.tmp 22) rfl b7 rfl _ _ [.int .u8 2,.int .i64 0] rfl Y2 2 J0a rfl rfl (by intro u hu;simp only[List.mem_cons,List.not_mem_nil,or_false] at hu;rcases hu with rfl | rfl<;>rfl) ?_);intro w3 Y3 O3 hg3;have X3:=hI (X2.out.only O3.out hne);have g3:w3.cell? ⟨b7,0,none⟩=some (.int .u8 2):=Y3.out.cell 0;have L3:=hI (r0a (step L0.out L2.out) O3.out (Nat.le_trans L0.out.size hc1));have m0:w3.cell? ⟨g,2,none⟩=some (.slice (some ⟨q,0,none⟩) n c):=(L3.out.cell (d0a k0)).trans k0;have m4:w3.cell? ⟨q,i*5+4,none⟩=some (.pointer (some ⟨bd,0,none⟩)):=(L3.out.cell (d0a k4)).trans k4;have m5:w3.cell? ⟨bd,0,none⟩=some (.slice AB z cB):=(L3.out.cell (d0a k5)).trans k5)
    | ((with_reducible refine sT 38 ?_);go_loud (refine q0a rfl _ (.tmp 38) (.tmp 37) rfl b7 1 rfl _ _ (.int .i64 (z:Nat)) rfl Y3 (show 1<2 by omega) (by kernel_rfl) rfl ?_);intro w5 Y5 O5 hg5;have X5:=hI (X3.out.only O5.out hne);have Y5':Hid (Blk w5 b7 34 [.int .u8 2,.int .i64 (z:Nat)]):=Y5.out;have L5:=hI (r0a L3.out O5.out (Nat.le_trans L0.out.size hc1)))
    | ((with_reducible refine sN 39 ?_);go_loud (refine s3a rfl _ (.tmp 7) rfl b7 rfl _ [.int .u8 2,.int .i64 (z:Nat)] Y5' 2 _ Tryz.underlying34 rfl J0a rfl ?_))
    | ((with_reducible refine sT 4 ?_);go_loud (refine l0a rfl _ (.tmp 4) (.tmp 39) rfl b rfl _ _ [.int .u8 2,.int .i64 (z:Nat)] rfl X5 2 J0a rfl rfl (by intro u hu;simp only[List.mem_cons,List.not_mem_nil,or_false] at hu;rcases hu with rfl | rfl<;>rfl) ?_);intro w4 X4 O4 hg4)
    | fail)
   refine bodyPost_ret (v:=.tuple #[.agg #[.int .u8 2,.int .i64 (z:Nat)],.int .i64 0]) ?_ rfl ⟨rfl,r0a L5.out O4.out hb1⟩;exact d2a rfl _ _ b _ _ (0,0) _ rfl X4.out Tryz.underlying34 rfl (by rw[J0a];rfl) rfl
theorem K1b{L:List k0a}:(Y0a L).length=L.length:=by unfold Y0a;rw[List.length_map]
theorem D3c{L:List k0a}{i:Nat}(hi:i<L.length):(Y0a L)[i]? = some L[i].n:=by unfold Y0a;rw[List.getElem?_map,List.getElem?_eq_getElem hi];rfl
theorem V8b{L:List k0a}{i:Nat}(hi:i<L.length):(Y0a L).take (i+1)=(([]++(Y0a L).take i)++[L[i].n])++[]:=by rw[List.append_nil,List.nil_append,List.take_succ_eq_append_getElem (by rw[K1b];exact hi)];unfold Y0a;rw[List.getElem_map]
theorem U0a.zeroV{α:Type}{f:α->Value}{w:World}{B:Nat}{A:Option Addr}{m c:Nat}(hm:m=0)(hA:A=none->c=0):U0a f w B A m c []:=⟨hm.symm,by omega,hA,λh=>absurd h (by omega)⟩
theorem W8b(w:World)(base g:Nat)(v:Value)(V:X0a)(M:List VP)(d:T2a w base g v V M) :
  Calls Tryz.prog 80 #[.pointer (some ⟨g,0,none⟩)] w λe w'=>∃u,e=.returned u/\t1a (Value.int .i64) 3 w' w.heap.size u (Y0a V.l)/\Below w.heap.size w w':=by
 obtain⟨A,c,rfl⟩:=d.len;have k0:w.cell? ⟨g,2,none⟩=some (.slice A V.l.length c):=d.blk.cell 2;have hsm:=d.ok.many;have D:=hI d;obtain⟨n,hn⟩:∃n,n=V.l.length:=⟨_,rfl⟩;rw[<-hn] at k0 hsm;have HN:=hI hn;clear d hn;go_enter Tryz.func80,Tryz.ntmps80;go_wp2_with fail;go_loopw [3,4] (λO I wr=>∃i:Nat,i<=n/\I=.int .i64 (i:Nat)/\Hid (t1a (Value.int .i64) 3 wr w.heap.size O ((Y0a V.l).take i))/\Hid (Below w.heap.size w wr)) (λ_ I _=>n-(intOf I).toNat)
 case atStart=>exact⟨0,Nat.zero_le _,rfl,t1a.nil _ _ _ _,Below.refl _ _⟩
 case round=>
  obtain⟨i,hi,rfl,OR,LR⟩:=hrel
  rename World=>w1
  have k0':w1.cell? ⟨g,2,none⟩=some (.slice A n c):=(LR.out.cell (d0a k0)).trans k0;by_cases hlt:i<n
  ·have hil:i<V.l.length:=by have:=HN.out;omega
   obtain⟨q,c',e,hnc,hcm,k1,_⟩:=(D.out.below LR.out).at hil;injection e with e1 e2 e3
   subst e1 e3;obtain⟨Ao,no,co,rfl,hh⟩:=OR.out.holds;have hno:no=i:=by have:=hh.len;rw[List.length_take,K1b] at this;omega
   subst hno;have hfit:=hh.fit;have hco:co<=9223372036854775807:=by
    rcases OR.out.2 with⟨h1,_⟩ | ⟨_,cap,_,h1,_,_,_,h2,_⟩
    ·injection h1 with _ _ h3;omega
    ·injection h1 with _ _ h3;subst h3;unfold maxLen at h2;exact h2
   have HO:=hI hh;have HT:=hI (V8b hil);have HRISE:Hid (∀k (hk:k<no),∃y,((Y0a V.l).take no)[k]? = some y/\y<V.l[no].n):=λk hk=>by refine⟨V.l[k].n,?_,List.pairwise_iff_getElem.1 D.out.ok.rise _ _ _ _ hk⟩;rw[List.getElem?_take,if_pos hk];exact D3c _
   obtain⟨x,hx⟩:∃x,x=V.l[no].n:=⟨_,rfl⟩;rw[<-hx] at k1 HRISE HT;have HGW:Hid (g<w1.heap.size/\q<w1.heap.size):=⟨d0a k0',d0a k1⟩;have HLN:Hid (((Y0a V.l).take no).length<=256):=by show _<=_;rw[List.length_take];omega
   clear hx e2 hh;go_wp2_with fail;go_loopw [5] (λI w2=>∃k:Nat,k<=no/\I=.int .i64 (k:Nat)/\Hid (Below w1.heap.size w1 w2)) (λI _=>no-(intOf I).toNat)
   case atStart=>exact⟨0,Nat.zero_le _,rfl,Below.refl _ _⟩
   case round=>
    obtain⟨k,hk,rfl,L2⟩:=hrel
    rename World=>w2
    have j0:w2.cell? ⟨g,2,none⟩=some (.slice (some ⟨q,0,none⟩) n c):=(L2.out.cell HGW.out.1).trans k0';have j1:w2.cell? ⟨q,no*5,none⟩=some (.int .i64 x):=(L2.out.cell HGW.out.2).trans k1;by_cases hkn:k<no
    ·obtain⟨b,off,rfl,hb,hc⟩:=(HO.out.below L2.out).cells (by omega);obtain⟨y,hy1,hy2⟩:=HRISE.out k hkn;have gc:=hc k y hy1;have tk:(k:Int)<(no:Int):=by omega
     clear hc hy1;go_wp2_with fail;go_quiet (fail);go_wp2_with fail;go_roundw
     case rel=>exact⟨k+1,by omega,by go_num,L2.out.trans ((E0a w2 _).mono L2.out.size)⟩
     case measure=>simp[intOf];omega
    obtain rfl:k=no:=by omega
    have tk:decide ((k:Int)<(k:Int))=false:=by simp
    go_wp2_with fail;go_quiet (fail);obtain⟨w3,hw3⟩:∃u,u=w2.drewN nq:=⟨_,rfl⟩;have L3:Hid (Below w1.heap.size w1 w3):=by rw[hw3];exact L2.out.trans ((E0a w2 nq).mono L2.out.size)
    rw[<-hw3];clear hw3 j0 j1 tk L2 hkn;have HP:Hid (U0a (Value.int .i64) w3 w3.heap.size Ao k co ((Y0a V.l).take k)):=(HO.out.below L3.out).mono L3.out.size;rcases Ao with _ | ad
    ·obtain rfl:co=0:=HO.out.bare rfl;obtain rfl:k=0:=by omega
     go_wp2_with(first
      | ((with_reducible refine sN 41 ?_);go_loud (refine n1a rfl (.tmp 37) (.tmp 40) (Value.int .i64) (λ_=>rfl) (.int .i64 0) rfl 44 3 8 Tryz.underlying44 k2a rfl w3.heap.size _ [] rfl (t1a.nil _ _ _ _) w3.heap.size _ _ _ ((Y0a V.l).take 0) rfl HP.out (by have:=HLN.out;simp only[List.length_append,List.length_cons,List.length_nil];omega) (by have:=HLN.out;simp only[List.length_append,List.length_cons,List.length_nil];omega) (Nat.le_refl _) ?_);intro v4 w4 O4 M4;have N4:=hI (L3.out.trans (M4.out.mono L3.out.size));have m0:w4.cell? ⟨g,2,none⟩=some (.slice (some ⟨q,0,none⟩) n c):=(N4.out.cell HGW.out.1).trans k0';have m1:w4.cell? ⟨q,0*5,none⟩=some (.int .i64 x):=(N4.out.cell HGW.out.2).trans k1)
      | ((with_reducible refine sN 52 ?_);go_loud (refine g1a rfl (.tmp 42) (.tmp 51) (Value.int .i64) (λ_=>rfl) (.int .i64 0) rfl 44 3 8 Tryz.underlying44 k2a rfl w3.heap.size _ ([]++(Y0a V.l).take 0) [x] _ rfl 1 1 rfl rfl rfl O4.out (by have:=HLN.out;simp only[List.length_append,List.length_cons,List.length_nil];omega) (by have:=HLN.out;simp only[List.length_append,List.length_cons,List.length_nil];omega) M4.out.size ?_);intro v5 w5 O5 G5 H5;have M5:=hI (M4.out.trans (G5.out.belowF O4.out M4.out.size)))
      | ((with_reducible refine sN 57 ?_);go_loud (refine n1a rfl (.tmp 53) (.tmp 56) (Value.int .i64) (λ_=>rfl) (.int .i64 0) rfl 44 3 8 Tryz.underlying44 k2a rfl w3.heap.size _ (([]++(Y0a V.l).take 0)++[x]) rfl O5.out w3.heap.size _ _ _ [] rfl (U0a.zeroV rfl (λ_=>rfl)) (by have:=HLN.out;simp only[List.length_append,List.length_cons,List.length_nil];omega) (by have:=HLN.out;simp only[List.length_append,List.length_cons,List.length_nil];omega) M5.out.size ?_);intro v6 w6 O6 M6)
      | fail)
     have O6':=O6.out;rw[<-HT.out] at O6';have NF:=hI (step LR.out (L3.out.trans ((M5.out.trans M6.out).mono L3.out.size)));have OF:=hI (O6'.mono (Nat.le_trans LR.out.size L3.out.size));clear O6';go_roundw
     case rel=>exact⟨0+1,by omega,by go_num,OF,NF⟩
     case measure=>simp[intOf];omega
    ·by_cases hck:co=k
     ·subst hck;go_wp2_with(first
       | ((with_reducible refine sN 41 ?_);go_loud (refine n1a rfl (.tmp 37) (.tmp 40) (Value.int .i64) (λ_=>rfl) (.int .i64 0) rfl 44 3 8 Tryz.underlying44 k2a rfl w3.heap.size _ [] rfl (t1a.nil _ _ _ _) w3.heap.size _ _ _ ((Y0a V.l).take co) rfl HP.out (by have:=HLN.out;simp only[List.length_append,List.length_cons,List.length_nil];omega) (by have:=HLN.out;simp only[List.length_append,List.length_cons,List.length_nil];omega) (Nat.le_refl _) ?_);intro v4 w4 O4 M4;have N4:=hI (L3.out.trans (M4.out.mono L3.out.size));have m0:w4.cell? ⟨g,2,none⟩=some (.slice (some ⟨q,0,none⟩) n c):=(N4.out.cell HGW.out.1).trans k0';have m1:w4.cell? ⟨q,co*5,none⟩=some (.int .i64 x):=(N4.out.cell HGW.out.2).trans k1)
       | ((with_reducible refine sN 52 ?_);go_loud (refine g1a rfl (.tmp 42) (.tmp 51) (Value.int .i64) (λ_=>rfl) (.int .i64 0) rfl 44 3 8 Tryz.underlying44 k2a rfl w3.heap.size _ ([]++(Y0a V.l).take co) [x] _ rfl 1 1 rfl rfl rfl O4.out (by have:=HLN.out;simp only[List.length_append,List.length_cons,List.length_nil];omega) (by have:=HLN.out;simp only[List.length_append,List.length_cons,List.length_nil];omega) M4.out.size ?_);intro v5 w5 O5 G5 H5;have M5:=hI (M4.out.trans (G5.out.belowF O4.out M4.out.size)))
       | ((with_reducible refine sN 57 ?_);go_loud (refine n1a rfl (.tmp 53) (.tmp 56) (Value.int .i64) (λ_=>rfl) (.int .i64 0) rfl 44 3 8 Tryz.underlying44 k2a rfl w3.heap.size _ (([]++(Y0a V.l).take co)++[x]) rfl O5.out w3.heap.size _ _ _ [] rfl (U0a.zeroV (by omega) (by intro e;cases e)) (by have:=HLN.out;simp only[List.length_append,List.length_cons,List.length_nil];omega) (by have:=HLN.out;simp only[List.length_append,List.length_cons,List.length_nil];omega) M5.out.size ?_);intro v6 w6 O6 M6)
       | fail)
      have O6':=O6.out;rw[<-HT.out] at O6';have NF:=hI (step LR.out (L3.out.trans ((M5.out.trans M6.out).mono L3.out.size)));have OF:=hI (O6'.mono (Nat.le_trans LR.out.size L3.out.size));clear O6';go_roundw
      case rel=>exact⟨co+1,by omega,by go_num,OF,NF⟩
      case measure=>simp[intOf];omega
     ·have hck':¬co=k:=hck;go_wp2_with(first
       | ((with_reducible refine sN 41 ?_);go_loud (refine n1a rfl (.tmp 37) (.tmp 40) (Value.int .i64) (λ_=>rfl) (.int .i64 0) rfl 44 3 8 Tryz.underlying44 k2a rfl w3.heap.size _ [] rfl (t1a.nil _ _ _ _) w3.heap.size _ _ _ ((Y0a V.l).take k) rfl HP.out (by have:=HLN.out;simp only[List.length_append,List.length_cons,List.length_nil];omega) (by have:=HLN.out;simp only[List.length_append,List.length_cons,List.length_nil];omega) (Nat.le_refl _) ?_);intro v4 w4 O4 M4;have N4:=hI (L3.out.trans (M4.out.mono L3.out.size));have m0:w4.cell? ⟨g,2,none⟩=some (.slice (some ⟨q,0,none⟩) n c):=(N4.out.cell HGW.out.1).trans k0';have m1:w4.cell? ⟨q,k*5,none⟩=some (.int .i64 x):=(N4.out.cell HGW.out.2).trans k1)
       | ((with_reducible refine sN 52 ?_);go_loud (refine g1a rfl (.tmp 42) (.tmp 51) (Value.int .i64) (λ_=>rfl) (.int .i64 0) rfl 44 3 8 Tryz.underlying44 k2a rfl w3.heap.size _ ([]++(Y0a V.l).take k) [x] _ rfl 1 1 rfl rfl rfl O4.out (by have:=HLN.out;simp only[List.length_append,List.length_cons,List.length_nil];omega) (by have:=HLN.out;simp only[List.length_append,List.length_cons,List.length_nil];omega) M4.out.size ?_);intro v5 w5 O5 G5 H5;have M5:=hI (M4.out.trans (G5.out.belowF O4.out M4.out.size)))
       | ((with_reducible refine sN 57 ?_);go_loud (refine n1a rfl (.tmp 53) (.tmp 56) (Value.int .i64) (λ_=>rfl) (.int .i64 0) rfl 44 3 8 Tryz.underlying44 k2a rfl w3.heap.size _ (([]++(Y0a V.l).take k)++[x]) rfl O5.out w3.heap.size _ _ _ [] rfl (U0a.zeroV (by omega) (by intro e;cases e)) (by have:=HLN.out;simp only[List.length_append,List.length_cons,List.length_nil];omega) (by have:=HLN.out;simp only[List.length_append,List.length_cons,List.length_nil];omega) M5.out.size ?_);intro v6 w6 O6 M6)
       | fail)
      have O6':=O6.out;rw[<-HT.out] at O6';have NF:=hI (step LR.out (L3.out.trans ((M5.out.trans M6.out).mono L3.out.size)));have OF:=hI (O6'.mono (Nat.le_trans LR.out.size L3.out.size));clear O6';go_roundw
      case rel=>exact⟨k+1,by omega,by go_num,OF,NF⟩
      case measure=>simp[intOf];omega
  ·obtain rfl:i=n:=by omega
   obtain⟨Ao,no,co,rfl,hh⟩:=OR.out.holds;have HR:Hid ((Y0a V.l).take i=Y0a V.l):=List.take_of_length_le (by rw[K1b];have:=HN.out;omega);clear hh;go_wp2_with fail;go_ret;exact⟨_,rfl,by rw[<-HR.out];exact OR.out,LR.out⟩
def c4c(out:List VP)(x:k0a):Nat:=out.findIdx λy=>!e1a y.1.name x.name
def m7a(out:List VP)(y:VP):List VP:=out.take (c4c out y.1)++[y]++out.drop (c4c out y.1)
def L1b(M:List VP)(d:Int):List VP:=(M.filter λy=>decide (y.1.par=d)).foldl m7a []
theorem E3c(out:List VP)(x:k0a):(out.map (·.1)).findIdx (λy=>!e1a y.name x.name)=c4c out x:=by unfold c4c;rw[List.findIdx_map];rfl
theorem D1c(out:List VP)(y:VP):(m7a out y).map (·.1)=k7b (out.map (·.1)) y.1:=by unfold m7a k7b;rw[E3c,List.map_append,List.map_append,List.map_take,List.map_drop];rfl
theorem c3b:∀(l:List VP) (out:List VP),(l.foldl m7a out).map (·.1)=(l.map (·.1)).foldl k7b (out.map (·.1))
 | [],_=>rfl
 | y::r,out=>by rw[List.foldl_cons,List.map_cons,List.foldl_cons,<-D1c];exact c3b r _
theorem X8b(M:List VP)(d:Int):(L1b M d).map (·.1)=o0b (M.map (·.1)) d:=by unfold L1b o0b;rw[c3b,List.filter_map];rfl
def j2a(M:List VP)(d:Int)(k:Nat):List VP:=((M.take k).filter λy=>decide (y.1.par=d)).foldl m7a []
theorem H6b{M:List VP}{d:Int}{k:Nat}(hk:k<M.length)(h:M[k].1.par≠d):j2a M d (k+1)=j2a M d k:=by unfold j2a;rw[List.take_succ_eq_append_getElem hk,List.filter_append,List.filter_cons,decide_eq_false h];simp
theorem I6b{M:List VP}{d:Int}{k:Nat}(hk:k<M.length)(h:M[k].1.par=d):j2a M d (k+1)=m7a (j2a M d k) M[k]:=by unfold j2a;rw[List.take_succ_eq_append_getElem hk,List.filter_append,List.filter_cons,decide_eq_true h];simp
theorem M1b(M:List VP)(d:Int):j2a M d M.length=L1b M d:=by unfold j2a L1b;rw[List.take_length]
theorem E1c(out:List VP)(y:VP):(m7a out y).length=out.length+1:=by unfold m7a;rw[List.length_append,List.length_append,List.length_take,List.length_drop];simp;omega
theorem d3b:∀(l out:List VP),(l.foldl m7a out).length=out.length+l.length
 | [],_=>rfl
 | y::r,out=>by rw[List.foldl_cons,d3b r,E1c,List.length_cons];omega
theorem N1b(M:List VP)(d:Int)(k:Nat):(j2a M d k).length<=M.length:=by unfold j2a;rw[d3b];have h1:=List.length_filter_le (λy:VP=>decide (y.1.par=d)) (M.take k);rw[List.length_take] at h1;simp only[List.length_nil];omega
section
variable {w w':World} {b q g:Nat} {S S':Nat->Prop} {v v':Value} {L L' M M':List I0a}
end
section
variable {P:Program} {ops:Array Oper} {md:Region.Mode} {S S':World->Prop} {Q:Exit->Act->World->Prop}
end
theorem F1c{w w':World}{B b i:Nat}{cs:List Value}(h:w.rangeAt b i cs)(hb:Below B w w')(hlt:b<B):w'.rangeAt b i cs:=λj v hj=>by rw[hb.cell (p:=⟨b,i+j,none⟩) hlt];exact h j v hj
end Go.Proofs.YtdgpbhdihhchgaaGreatDoor
