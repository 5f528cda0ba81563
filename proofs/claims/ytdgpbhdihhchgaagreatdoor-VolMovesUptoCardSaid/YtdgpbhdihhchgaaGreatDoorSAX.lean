import Derived.Test.YtdgpbhdihhchgaaGreatDoorSAM
import Derived.Test.YtdgpbhdihhchgaaGreatDoorSAQ
import Derived.Test.YtdgpbhdihhchgaaGreatDoorSAR
import Derived.Test.YtdgpbhdihhchgaaGreatDoorS0
set_option linter.all false
set_option maxHeartbeats 8000000
set_option maxRecDepth 100000
namespace Go.Proofs.YtdgpbhdihhchgaaGreatDoor
open Go.RowKit Go.Lib
section
variable {L:List k0a} {V:X0a} {n m d k:Int} {x y:k0a} {s p:o0a} {ps qs ws rs us:List o0a} {tp un:o0a} {over:Bool}
theorem Way.nil_one(hw:Way L n []):n=1:=by
 generalize he:([]:List o0a)=q at hw;cases hw with
 | root=>rfl
 | step a b c=>simp at he
theorem Vok.goDown(h:Vok V):∀{us:List o0a} {m k:Int} {ps:List o0a},Down V.l n m ps->vGo V.l m us=(k,0)->∃rs,Down V.l n k (ps++rs)/\rs.map B0a=us.map B0a
 | [],m,k,ps,hw,hg=>by
  unfold vGo at hg;injection hg with h1 _
  subst h1;exact⟨[],by rw[List.append_nil];exact hw,rfl⟩
 | s::r,m,k,ps,hw,hg=>by
  unfold vGo at hg;by_cases h1:z0a V.l m≠1
  ·rw[if_pos h1] at hg;injection hg with _ h2
   cases h2
  ·rw[if_neg h1] at hg;by_cases h2:x0a V.l m s=0
   ·rw[if_pos h2] at hg;injection hg with _ h3
    cases h3
   ·rw[if_neg h2] at hg;obtain⟨x,hx,e1,e2,e3⟩:=J1a h2;rw[<-e3] at hg;have hne:x.n≠1:=λe=>by
     rw[h.one hx e] at e1;have hk:z0a V.l m=1:=by simpa using h1
     rw[<-e1] at hk;obtain⟨y,hy⟩:=t2a (V:=V) (n:=W3a.par) (by rw[hk];decide);have:=h.num y (y0a hy).1;have h5:=(y0a hy).2;have h6:W3a.par=0:=rfl;omega
    have hw2:Down V.l n x.n (ps++[x.name]):=Down.step (h.at hx) hne (by rw[e1];exact hw);obtain⟨rs,w1,w2⟩:=h.goDown hw2 hg;refine⟨x.name::rs,?_,?_⟩
    ·rw[List.append_assoc] at w1;exact w1
    ·rw[List.map_cons,List.map_cons,w2,X1a.1 e2]
theorem y5b:∀{ws:List o0a} (r:o0a),ws≠[]->(∀p∈ws,∀b∈p,b≠92)->splitB (l2a ws++92::r)=ws++splitB r
 | [],r,h,_=>absurd rfl h
 | [p],r,_,hp=>k4a (hp p List.mem_cons_self) r
 | p::q::ws,r,_,hp=>by rw[join_cons p (by simp),List.append_assoc,List.cons_append,k4a (hp p List.mem_cons_self),y5b r (by simp) λu hu=>hp u (List.mem_cons_of_mem _ hu)];rfl
theorem z5b(r:o0a)(hne:ws≠[])(hp:∀p∈ws,nameOf p=true):partsOf (l2a ws++92::r)=ws++splitB r:=by unfold partsOf;rw[if_neg (by simp),y5b r hne λp h=>a7b (hp p h)]
theorem V1c(h:o6a L)(ha:vAt L n=some x)(h1:n≠1)(hw:Way L d rs)(hnd:¬∃qs,Down L n d qs):Way (f4a L n d s) n (rs++[s]):=by have hxn:=(y0a ha).2;have h2:=f1b (n:=n) (d:=d) (s:=s) h ha;rw[if_pos hxn] at h2;have h3:=Way.step (x:=⟨x.n,x.kind,d,s,x.B,x.Z⟩) (ps:=rs) (L:=f4a L n d s) (by show vAt _ x.n=_;rw[hxn,h2,hxn]) (by show x.n≠1;rw[hxn];exact h1) (hw.off h hnd);have h4:Way (f4a L n d s) x.n (rs++[s]):=h3;rw[hxn] at h4;exact h4
theorem p9a(h:Vok V)(he:x1a V.l n tp over=0):∃x rs,vAt V.l n=some x/\vAt (h2a V n tp over).l n=some ⟨x.n,x.kind,P0a V.l tp,Q0a V.l tp,x.B,x.Z⟩/\T9b V n tp rs/\
  Way (h2a V n tp over).l n (rs++[Q0a V.l tp])/\(z0a V.l n=1->(h2a V n tp over).l=f4a V.l n (P0a V.l tp) (Q0a V.l tp)):=by
 obtain⟨ht,hcase⟩:=R8a he;obtain⟨rs,mo⟩:=h.moveOk ht;obtain⟨x,hx⟩:=mo.there;obtain⟨hx1,hx2⟩:=y0a hx;have hV:h2a V n tp over=⟨V.quota,V.last,u4a V.l n tp⟩:=if_pos he;by_cases h0:l1a V.l n tp=0
 ·have hM:u4a V.l n tp=f4a V.l n (P0a V.l tp) (Q0a V.l tp):=by unfold u4a;rw[if_neg (λq=>q h0)]
  rw[hV];refine⟨x,rs,hx,?_,mo,?_,λ_=>hM⟩
  ·show vAt (u4a V.l n tp) n=_
   rw[hM,f1b h.rise hx,if_pos hx2]
  ·show Way (u4a V.l n tp) n _
   rw[hM];exact V1c h.rise hx mo.one mo.way mo.off
 ·obtain⟨i,hi⟩:∃i,i=l1a V.l n tp:=⟨_,rfl⟩;have hisd:i=if x0a V.l (P0a V.l tp) (Q0a V.l tp)=n then 0 else x0a V.l (P0a V.l tp) (Q0a V.l tp):=hi
  rw[<-hi] at h0 hcase;have hcn:x0a V.l (P0a V.l tp) (Q0a V.l tp)≠n:=λe=>by rw[if_pos e] at hisd;exact h0 hisd
  rw[if_neg hcn] at hisd;have hc0:x0a V.l (P0a V.l tp) (Q0a V.l tp)≠0:=by rw[<-hisd];exact h0
  obtain⟨z,hz,z1,z2,z3⟩:=J1a hc0;have hzi:z.n=i:=by rw[z3,hisd]
  have hzat:vAt V.l i=some z:=by rw[<-hzi];exact h.at hz
  have hk:z0a V.l i≠1:=by
   rcases hcase with q | q
   ·exact absurd q h0
   ·exact q.1
  have hkn:z0a V.l n≠1:=by
   rcases hcase with q | q
   ·exact absurd q h0
   ·exact q.2
  have hi1:i≠1:=λe=>hk (by rw[e];unfold z0a;rw[h.at1];rfl)
  have hch:∀x∈V.l,x.n≠1->x.par≠i:=λu hu hu1 e=>hk (by rw[<-e];exact h.up u hu hu1)
  have hA:=h.away hzat hi1 hch;have hin:i≠n:=by rw[hisd];exact hcn
  have hmem:∀u,u∈z1a V.l i↔u∈V.l/\u.n≠i:=λu=>h3a h.rise hzat
  have hsub:=h.rise.sub hA.rise λu hu=>((hmem u).1 hu).1
  have hx':vAt (z1a V.l i) n=some x:=hA.rise.at_iff.2 ⟨(hmem x).2 ⟨hx1,by rw[hx2];exact λe=>hin e.symm⟩,hx2⟩;have hdi:P0a V.l tp≠i:=λe=>hk (by rw[<-e];exact mo.dir)
  have hM:u4a V.l n tp=f4a (z1a V.l i) n (P0a V.l tp) (Q0a V.l tp):=by unfold u4a;rw[<-hi,if_pos h0]
  have hr:o6a (z1a V.l i):=hA.rise;rw[hV];refine⟨x,rs,hx,?_,mo,?_,λe=>absurd e hkn⟩
  ·show vAt (u4a V.l n tp) n=_
   rw[hM,f1b hr hx',if_pos hx2]
  ·show Way (u4a V.l n tp) n _
   rw[hM];exact V1c hr hx' mo.one (Way.away h hzat hch mo.way hdi) fun⟨qs,hq⟩=>mo.off ⟨qs,hq.sub hsub⟩
theorem q9b(h:Vok V)(he:x1a V.l n tp over=0):N2a V.l n=0/\N2a (h2a V n tp over).l n=0/\z0a (h2a V n tp over).l n=z0a V.l n/\I4a (h2a V n tp over).l n=I4a V.l n/\
  (∀a k,s2a (h2a V n tp over).l n a k=s2a V.l n a k)/\∀a k,E2a (h2a V n tp over).l n a k=E2a V.l n a k:=by
 obtain⟨x,rs,h1,h2,_⟩:=p9a h he;have e1:z0a (h2a V n tp over).l n=z0a V.l n:=by unfold z0a;rw[h1,h2]
 have e2:H0a (h2a V n tp over).l n=H0a V.l n:=by unfold H0a;rw[h1,h2]
 have e3:∀a k,s2a (h2a V n tp over).l n a k=s2a V.l n a k:=λa k=>by
  have:r1a (h2a V n tp over).l n=r1a V.l n:=by unfold r1a;rw[e1,h1,h2];rfl
  unfold s2a;rw[this,e2]
 refine⟨by unfold N2a;rw[h1];rfl,by unfold N2a;rw[h2];rfl,e1,by unfold I4a;rw[h1,h2],e3,λa k=>?_⟩;unfold E2a;rw[e3,e2]
theorem S1b(h:Vok V)(mo:T9b V n tp rs):(rs++[Q0a V.l tp]).map B0a=(m0a tp).map B0a/\(m0a tp).length=rs.length+1:=by
 obtain⟨d1,d2,d3,d4⟩:=u2a mo.perr mo.ne;have e:(rs++[Q0a V.l tp]).map B0a=(m0a tp).map B0a:=by
  rw[List.map_append,mo.alike,mo.last,d2]
  conv=>rhs;rw[d4]
  rw[List.map_append]
 refine⟨e,?_⟩;have:=congrArg List.length e;rw[List.length_map,List.length_map,List.length_append] at this;rw[<-this];rfl
theorem Q6b(h:Vok V)(he:x1a V.l n tp over=0):A1a (h2a V n tp over).l tp=(n,0):=by obtain⟨x,rs,h1,h2,mo,hw,_⟩:=p9a h he;unfold A1a;rw[if_neg (by rw[mo.perr];decide)];exact(h.move n tp over).found hw (S1b h mo).1.symm
theorem R6b(h:Vok V)(he:x1a V.l n tp over=0)(hd:z0a V.l n=1)(hf:A1a V.l (i1a V.l n++92::un)=(k,0)):A1a (h2a V n tp over).l (tp++92::un)=(k,0):=by
 obtain⟨x,rs,hx,_,mo,hnew,hM⟩:=p9a h he;have h':=h.move n tp over;obtain⟨hx1,hx2⟩:=y0a hx;obtain⟨ws,hw,h8⟩:=h.way x hx1;rw[hx2] at hw;obtain⟨p1,p2,p3,p4⟩:=V5a h hw h8;have hws:ws≠[]:=λe=>by subst e;exact mo.one hw.nil_one
 have hgood:=hw.good h;have pts:=z5b un hws hgood;rw[p1] at hf;unfold A1a at hf;have pe:h0a (l2a ws++92::un)=0:=by
  by_cases pe:h0a (l2a ws++92::un)=0
  ·exact pe
  ·rw[if_pos pe] at hf;exact absurd (congrArg Prod.snd hf) pe
 rw[if_neg (λq=>q pe)] at hf;have hpo:m0a (l2a ws++92::un)=ws++splitB un:=by unfold m0a;rw[if_pos pe,pts]
 rw[hpo,A7a _ ws _ 1 n (h.found hw rfl)] at hf;obtain⟨ds,hdn,hfold⟩:=h.goDown Down.self hf;rw[List.nil_append] at hdn;unfold h0a at pe;rw[pts] at pe;obtain⟨g1,g2⟩:=w1a.1 pe;rw[hM hd] at hnew;have hway:=hdn.moved h.rise hw hnew;obtain⟨j1,j2⟩:=P4a mo.perr;have hto:m0a tp≠[]:=λe=>mo.ne ((l4a mo.perr).1 e)
 have hgt:=(w1a.1 j1).1;have pts2:=z5b un hto hgt;rw[j2] at pts2;obtain⟨n1,n2⟩:=S1b h mo;have hlen:(splitB un).length=ds.length:=by have:=congrArg List.length hfold;rw[List.length_map,List.length_map] at this;exact this.symm
 have hne:s1a (m0a tp++splitB un)=0:=w1a.2 ⟨λq hq=>by
  rcases List.mem_append.1 hq with hq | hq
  ·exact hgt q hq
  ·exact g1 q (List.mem_append_right _ hq),by
  have:=mo.deep k ds hdn;rw[List.length_append,hlen,n2];exact this⟩
 have pe2:h0a (tp++92::un)=0:=by unfold h0a;rw[pts2];exact hne
 have hpo2:m0a (tp++92::un)=m0a tp++splitB un:=by
  show(if h0a (tp++92::un)=0 then partsOf (tp++92::un) else [])=_
  rw[if_pos pe2,pts2]
 unfold A1a;rw[if_neg (λq=>q pe2),hpo2];refine h'.found (by rw[hM hd];exact hway) ?_;rw[List.map_append,List.map_append,n1,hfold]
theorem r9b(h:Vok V)(he:x1a V.l n tp over=0)(hd:z0a V.l n=1):(h2a V n tp over).l.length=V.l.length:=by obtain⟨x,rs,hx,_,mo,hnew,hM⟩:=p9a h he;rw[hM hd];unfold f4a;rw[List.length_map]
end
set_option maxRecDepth 100000
open Go.RowKit
section
variable {DI:DrI} {EI:FiI} {w:World} {base q m:Nat} {D:DataW Unit} {Q T n:Int} {M:List VN} {R:List (Int×I0a)} {y:VN}
end
section
variable {DI:DrI} {EI:FiI} {w w':World} {base q m:Nat} {D:DataW Unit} {V:X0a} {M:List VN} {y:VN} {x:k0a} {n:Int} {s:o0a}
theorem s9b(HT:y9b DI)(h:PV DI EI w base q m D V M)(hs:s.length<=4294967296):Calls Tryz.prog 13 #[R0a q,V0a s] w λe w'=>e=.returned (.tuple #[.int .i64 (A1a V.l s).1,.int .i64 (A1a V.l s).2])/\Below w.heap.size w w':=by
 have c1:=Q6a ⟨s.toArray⟩ w (by rw[W1a];omega) (h.tabs HT);unfold e2a at c1;rw[show(⟨s.toArray⟩:ByteArray).data.toList=s from rfl] at c1;obtain⟨S,hS⟩:∃S:ByteArray,S=⟨s.toArray⟩:=⟨_,rfl⟩;have hS1:V0a s=.string S:=by rw[hS];rfl
 rw[hS1];rw[<-hS] at c1;clear hS hS1;obtain⟨r,hr⟩:∃r,r=A1a V.l s:=⟨_,rfl⟩;obtain⟨r1,r2⟩:=r;rw[<-hr];have CN:=hI (A4a w q m h.p.c1);have H:=hI h;clear h;unfold R0a at CN⊢;by_cases he:h0a s=0
 ·rw[D0b he] at hr;rw[he] at c1;have hn:=B2a (l:=s);have h8:=t3a s;obtain⟨L,hL⟩:∃L,L=m0a s:=⟨_,rfl⟩;rw[<-hL] at hr c1 hn h8;have HR:=hI hr;have HN:=hI hn;have C1:=hI c1;have R1:Hid (∃y∈M,y.1.n=1):=by obtain⟨y,hy,e⟩:=H.out.node H.out.ok.mem1;exact⟨y,hy,by rw[e];rfl⟩
  clear hr hn c1 hL he;go_enter Tryz.func13,Tryz.ntmps13;go_wp2;go_step3;go_wp2_with fail;refine CN.out.mono ?_;rintro e w0 ⟨rfl,rfl⟩;go_wp2_with fail;refine C1.out.mono ?_;rintro e w1 ⟨v1,rfl,o1,l1⟩;obtain⟨A1,k1,c1,rfl,hh⟩:=o1.holds;have hlen:=hh.len;have hfit:=hh.fit;have L1:=hI l1;have HH:=hI hh;have hk8:k1<=8:=by omega
  have HLEN:=hI hlen;clear l1 hh o1 C1 hlen h8 CN;go_wp2_with fail;go_step3;go_wp2;go_loopw [7,8,24] (λE N I wr=>∃(n:Int) (i:Nat),E=.int .i64 0/\N=.int .i64 n/\I=.int .i64 (i:Nat)/\i<=k1/\Hid (∃y∈M,y.1.n=n)/\Hid (vGo V.l n (L.drop i)=(r1,r2))/\Hid (Below w1.heap.size w1 wr)) (λ_ _ I _=>k1-(intOf I).toNat)
  case atStart=>exact⟨1,0,rfl,rfl,rfl,Nat.zero_le _,R1,by rw[List.drop_zero];exact HR.out.symm,Below.refl _ _⟩
  case round=>
   obtain⟨n,i,rfl,rfl,rfl,hi,HY,HG,LR⟩:=hrel;by_cases hlt:i<k1
   ·have hil:i<L.length:=by have:=HLEN.out;omega
    obtain⟨x,hx⟩:∃x,x=L[i]:=⟨_,rfl⟩;have hxg:nameOf x=true:=HN.out x (by rw[hx];exact List.getElem_mem hil);have e1:L.drop i=x::L.drop (i+1):=by rw[hx];exact List.drop_eq_getElem_cons hil
    have e2:L[i]? = some x:=by rw[hx];exact List.getElem?_eq_getElem hil
    rw[e1] at HG;obtain⟨b,off,rfl,hb,hc⟩:=(HH.out.below LR.out).cells (by omega);have gc:=hc i x e2;obtain⟨y,hy,hyn⟩:=HY.out;have hkk:z0a V.l n=y.1.kind:=by rw[<-hyn];exact H.out.kindOf hy
    have HM1:=H.out.ok;rcases H.out.p.kind y hy with hk | hk
    ·rw[hk] at hkk;obtain⟨g,u,X,cells⟩:=H.out.step hy hyn hk hxg;obtain⟨j1,j2,j3,j4,ca⟩:=cells wr (step L1.out LR.out);obtain⟨C,hC⟩:∃C,C=x0a V.l n x:=⟨_,rfl⟩;rw[<-hC] at ca;have CA:=hI ca;have HK:=hI hkk;have HC:=hI hC;clear hx e1 e2 hc hy hyn hkk hk cells ca hC hxg HY HM1;obtain⟨X2,hX⟩:∃X:ByteArray,X=⟨x.toArray⟩:=⟨_,rfl⟩;unfold V0a at gc CA;rw[<-hX] at gc CA;clear hX;by_cases hc0:C=0
     ·subst hc0;rw[if_pos rfl] at CA;have e3:Hid ((0:Int)=r1/\(7:Int)=r2):=by have:=HG.out;rw[A3b HK.out HC.out.symm] at this;exact Prod.mk.injEq .. ▸ this
      obtain⟨rfl,rfl⟩:=e3.out;go_wp2_with fail;refine CA.out.mono ?_;rintro e w3 ⟨rfl,l3⟩;have L3:=hI (step LR.out l3);clear l3 CA gc;go_wp2;rw[Exit.noGoto_ret];go_ret2;exact⟨rfl,step L1.out L3.out⟩
     ·rw[if_neg hc0] at CA;have HG2:Hid (vGo V.l C (L.drop (i+1))=(r1,r2)):=by have:=HG.out;rw[V9b HK.out (by rw[<-HC.out];exact hc0),<-HC.out] at this;exact this
      have HY2:Hid (∃y∈M,y.1.n=C):=by have hq:=HC.out;rw[hq] at hc0⊢;obtain⟨z,hz,_,_,e⟩:=J1a hc0;obtain⟨y,hy,e2⟩:=H.out.node hz;exact⟨y,hy,by rw[e2,e]⟩
      clear hc0 HG HK HC;go_wp2_with fail;refine CA.out.mono ?_;rintro e w3 ⟨rfl,l3⟩;have L3:=hI (step LR.out l3);clear l3 CA gc;go_wp2_with fail;go_roundw
      case rel=>exact⟨C,i+1,rfl,rfl,by go_num,by omega,HY2,HG2,L3⟩
      case measure=>simp[intOf];omega
    ·rw[hk] at hkk;have e3:Hid ((0:Int)=r1/\(9:Int)=r2):=by have:=HG.out;rw[z3b (by rw[hkk];decide)] at this;exact Prod.mk.injEq .. ▸ this
     obtain⟨rfl,rfl⟩:=e3.out;obtain⟨g,cells⟩:=H.out.stop hy hyn hk;obtain⟨j1,j2,j3⟩:=cells wr (step L1.out LR.out);clear hx e1 e2 hc hy hyn hkk hk cells hxg HY HM1 e3;obtain⟨X2,hX⟩:∃X:ByteArray,X=⟨x.toArray⟩:=⟨_,rfl⟩;unfold V0a at gc;rw[<-hX] at gc;clear hX;go_wp2;rw[Exit.noGoto_ret];go_ret2;exact⟨rfl,step L1.out LR.out⟩
   ·obtain rfl:i=k1:=by omega
    have e3:Hid (n=r1/\(0:Int)=r2):=by have:=HG.out;rw[List.drop_of_length_le (by have:=HLEN.out;omega)] at this;exact Prod.mk.injEq .. ▸ this
    obtain⟨rfl,rfl⟩:=e3.out;go_wp2;go_ret2;exact⟨rfl,step L1.out LR.out⟩
 ·rw[S8a he] at hr;obtain⟨E,hE⟩:∃E,E=h0a s:=⟨_,rfl⟩;rw[<-hE] at c1 hr he;injection hr with hr1 hr2
  subst hr1 hr2;have C1:=hI c1;clear c1 hE H;go_enter Tryz.func13,Tryz.ntmps13;go_wp2;go_step3;go_wp2_with fail;refine CN.out.mono ?_;rintro e w0 ⟨rfl,rfl⟩;go_wp2_with fail;refine C1.out.mono ?_;rintro e w1 ⟨v1,rfl,o1,l1⟩;have L1:=hI l1;clear o1 l1;go_wp2_with fail;rw[Exit.noGoto_ret];go_ret2;exact⟨rfl,L1.out⟩
end
def X4c(I:e0b):Prop:=∀{w:World} {b q:Nat} {V:X0a} {S:Nat->Prop},I.is w b q V S->I.tb b w->b<=w.heap.size->∀{s:o0a},s.length<=4294967296->
 Calls Tryz.prog 13 #[R0a q,V0a s] w λe w'=>e=.returned (.tuple #[.int .i64 (A1a V.l s).1,.int .i64 (A1a V.l s).2])/\Below w.heap.size w w'
theorem S6b:X4c j7a:=by rintro w b q V S h tb hb s hs;obtain⟨m,D,M,p,rfl⟩:=isV.pv h tb;exact s9b M2b p hs
theorem A5b(I:e0b)(W:World)(htb:I.tb W.heap.size W)(k:Int)(hk:c2a k)(A:Option Addr)(n c:Nat)(l:List M2a)(hl:e4a W W.heap.size A n c l)(hn:n<=1048576)(hFL:X4c I)(x:Int)(hx:c2a x)(tz:ByteArray)(htl:tz.size<=1048576)(o:Bool)(uz:ByteArray)(hul:uz.size<=1048576) :
  Calls Tryz.prog 6 #[.int .i64 k,.slice A n c,.int .i64 x,.string tz,.bool o,.string uz] W λe w'=>e=.returned (.bool true)/\Below W.heap.size W w':=by
 have C1:=hI (R3a I W k hk A n c l hl hn htb);have CW:Hid (∀w1,Below W.heap.size W w1->_):=λw1 (h:Below W.heap.size W w1)=>U2a I w1 (I.tbUp (I.tbNext htb h) h.size)
 have HLV:=p4a (q:=k) (l:=l) (min n 40);have hm40:min n 40<=40:=Nat.min_le_right _ _;obtain⟨V,hV⟩:∃V,V=N4a k l (min n 40):=⟨_,rfl⟩;unfold C4a at C1;rw[<-hV] at C1 HLV;have ZN:Hid ((Tryz.prog.info? 34).map (λi=>(i.zero,i.size))=some (some (.agg ([.int .u8 0,.int .i64 0]:List Value).toArray),2)):=w2a;have SZ:Hid ((Tryz.prog.info? 34).map (·.size)=some 2):=J0a;have GS:=V9a;have htl2:tz.data.toList.length<=1048576:=by rw[Array.length_toList];exact htl
 clear hl htb hV;go_enter Tryz.func6,Tryz.ntmps6;go_wp2_with fail;refine C1.out.mono ?_;rintro e w1 ⟨h1,h2⟩;by_cases hE:O3a k=0
 ·obtain⟨q,g,S,v,M,rfl,t1,l1⟩:=h2 hE;have L1:=hI l1;have T1:=hI t1;have hok:=(I.ok t1.x).1;have X1:=hI t1.x;obtain⟨P,hP⟩:∃z,z=(⟨(i1a V.l x).toArray⟩:ByteArray):=⟨_,rfl⟩;have hPd:P.data.toList=i1a V.l x:=by rw[hP]
  have hps:=M7a hok x;have hPs:P.size<=1048576:=by
   have:P.data.toList.length=P.size:=by rw[Array.length_toList];rfl
   rw[<-this,hPd];exact hps
  have z92:(⟨#[92]⟩:ByteArray).size=1:=rfl;have sPU:(P++⟨#[92]⟩++uz).size<=4294967296:=by rw[ByteArray.size_append,ByteArray.size_append,z92];omega
  have sTU:(tz++⟨#[92]⟩++uz).size<=4294967296:=by rw[ByteArray.size_append,ByteArray.size_append,z92];omega
  have dPU:(P++⟨#[92]⟩++uz).data.toList=i1a V.l x++92::uz.data.toList:=by rw[<-hPd];simp[ByteArray.data_append]
  have dTU:(tz++⟨#[92]⟩++uz).data.toList=tz.data.toList++92::uz.data.toList:=by simp[ByteArray.data_append]
  have len_of:∀b:ByteArray,b.data.toList.length=b.size:=λb=>by rw[Array.length_toList];rfl
  have S1:=hI (I.stat t1.x hx);have R1:Hid (∀w2,Below w1.heap.size w1 w2->_):=λw2 (h:Below w1.heap.size w1 w2)=>I.read (t1.below h).x hx (a:=0) (k:=65536) (by unfold c2a;omega) (by unfold c2a;omega)
  have P1:Hid (∀w2,Below w1.heap.size w1 w2->_):=λw2 (h:Below w1.heap.size w1 w2)=>I.path (t1.below h).x (t1.below h).tb (t1.below h).hb hx
  have F1:Hid (∀w2,Below w1.heap.size w1 w2->Calls Tryz.prog 13 #[R0a q,.string (P++⟨#[92]⟩++uz)] w2 λe w'=>e=.returned (.tuple #[.int .i64 (A1a V.l (i1a V.l x++92::uz.data.toList)).1,.int .i64 (A1a V.l (i1a V.l x++92::uz.data.toList)).2])/\Below w2.heap.size w2 w'):=λw2 h=>by rw[<-dPU];exact hFL (s:=(P++⟨#[92]⟩++uz).data.toList) (t1.below h).x (t1.below h).tb (t1.below h).hb (Nat.le_trans (Nat.le_of_eq (len_of _)) sPU)
  have N1:Hid (∀w2,Below w1.heap.size w1 w2->_):=λw2 (h:Below w1.heap.size w1 w2)=>I.nodes (t1.below h).x (t1.below h).tb
  have M1:Hid (∀w2,Below w1.heap.size w1 w2->Calls Tryz.prog 26 #[R0a q,.int .i64 x,.string tz,.bool o] w2 _):=λw2 (h:Below w1.heap.size w1 w2)=>I.move (t1.below h).x (t1.below h).tb (t1.below h).hb (n:=x) (s:=tz.data.toList) (o:=o) hx htl2
  have PQ:Hid (∀w2 S2,I.is w2 W.heap.size q V S2->I.tb W.heap.size w2->W.heap.size<=w2.heap.size->_):=λw2 S2 (h:I.is w2 W.heap.size q V S2) h2 h3=>I.path h h2 h3 hx
  have NQ:Hid (∀w2 S2,I.is w2 W.heap.size q V S2->I.tb W.heap.size w2->_):=λw2 S2 (h:I.is w2 W.heap.size q V S2) h2=>I.nodes h h2
  have hrs:Bytes (E2a V.l x 0 65536)/\(E2a V.l x 0 65536).length<=65536:=U9a hok;obtain⟨V2,hV2⟩:∃z,z=h2a V x tz.data.toList o:=⟨_,rfl⟩;obtain⟨mE,hmE⟩:∃z,z=x1a V.l x tz.data.toList o:=⟨_,rfl⟩;have NO:Hid (mE≠0->V2=V):=λh=>by rw[hV2];exact if_neg (by rw[<-hmE];exact h)
  have YS:Hid (mE=0->N2a V.l x=0/\N2a V2.l x=0/\z0a V2.l x=z0a V.l x/\I4a V2.l x=I4a V.l x/\s2a V2.l x 0 65536=s2a V.l x 0 65536/\E2a V2.l x 0 65536=E2a V.l x 0 65536/\A1a V2.l tz.data.toList=(x,0)):=λh=>by rw[hmE] at h;obtain⟨a1,a2,a3,a4,a5,a6⟩:=q9b hok h;rw[hV2];exact⟨a1,a2,a3,a4,a5 _ _,a6 _ _,Q6b hok h⟩
  have UN:Hid (mE=0->z0a V.l x=1->(∀k,A1a V.l (i1a V.l x++92::uz.data.toList)=(k,0)->A1a V2.l (tz.data.toList++92::uz.data.toList)=(k,0))/\(Y0a V2.l).length=(Y0a V.l).length):=λh hk1=>by rw[hmE] at h;refine⟨λk hf=>by rw[hV2];exact R6b hok h hk1 hf,?_⟩;have:=r9b hok h hk1;unfold Y0a;rw[List.length_map,List.length_map,hV2,this]
  have SQ:Hid (∀w2 S2,I.is w2 W.heap.size q V2 S2->_):=λw2 S2 (h:I.is w2 W.heap.size q V2 S2)=>I.stat h hx
  have RQ:Hid (∀w2 S2,I.is w2 W.heap.size q V2 S2->_):=λw2 S2 (h:I.is w2 W.heap.size q V2 S2)=>I.read h hx (a:=0) (k:=65536) (by unfold c2a;omega) (by unfold c2a;omega)
  have FQ:Hid (∀w2 S2,I.is w2 W.heap.size q V2 S2->I.tb W.heap.size w2->W.heap.size<=w2.heap.size->Calls Tryz.prog 13 #[R0a q,.string tz] w2 _):=λw2 S2 (h:I.is w2 W.heap.size q V2 S2) h2 h3=>I.find h h2 h3 (s:=tz.data.toList) htl2
  have FU:Hid (∀w2 S2,I.is w2 W.heap.size q V2 S2->I.tb W.heap.size w2->W.heap.size<=w2.heap.size->Calls Tryz.prog 13 #[R0a q,.string (tz++⟨#[92]⟩++uz)] w2 λe w'=>e=.returned (.tuple #[.int .i64 (A1a V2.l (tz.data.toList++92::uz.data.toList)).1,.int .i64 (A1a V2.l (tz.data.toList++92::uz.data.toList)).2])/\Below w2.heap.size w2 w'):=λw2 S2 h h2 h3=>by rw[<-dTU];exact hFL (s:=(tz++⟨#[92]⟩++uz).data.toList) h h2 h3 (Nat.le_trans (Nat.le_of_eq (len_of _)) sTU)
  have MQ:Hid (∀w2 S2,I.is w2 W.heap.size q V2 S2->I.tb W.heap.size w2->_):=λw2 S2 (h:I.is w2 W.heap.size q V2 S2) h2=>I.nodes h h2
  rw[<-hmE,<-hV2] at M1;obtain⟨fk,hfk⟩:∃z,z=A1a V.l (i1a V.l x++92::uz.data.toList):=⟨_,rfl⟩;rw[<-hfk] at UN F1;obtain⟨gk,hgk⟩:∃z,z=A1a V2.l (tz.data.toList++92::uz.data.toList):=⟨_,rfl⟩;rw[<-hgk] at UN FU;obtain⟨fn,fe⟩:=fk;obtain⟨gn,ge⟩:=gk;obtain⟨K,hK⟩:∃z,z=z0a V.l x:=⟨_,rfl⟩;obtain⟨Z,hZ⟩:∃z:Int,z=(I4a V.l x:Nat):=⟨_,rfl⟩;obtain⟨se,hse⟩:∃z,z=N2a V.l x:=⟨_,rfl⟩;have YK:Hid (mE=0->((I4a V2.l x:Nat):Int)=Z):=λh=>by rw[hZ,(YS.out h).2.2.2.1]
  rw[<-hK] at UN YS;rw[<-hse] at YS;rw[<-hK,<-hZ,<-hse] at S1;obtain⟨zs,hzs⟩:∃z,z=E2a V.l x 0 65536:=⟨_,rfl⟩;obtain⟨re,hre⟩:∃z,z=s2a V.l x 0 65536:=⟨_,rfl⟩;rw[<-hzs] at R1 YS hrs;rw[<-hre] at R1 YS;obtain⟨pe,hpe⟩:∃z,z=I2a V.l x:=⟨_,rfl⟩;unfold V0a at P1 PQ;rw[<-hP,<-hpe] at P1 PQ;have HRS:=hI hrs;obtain⟨N,hN⟩:∃N,N=zs.length:=⟨_,rfl⟩;have hN6:N<=65536:=by rw[hN];exact hrs.2
  have HN:=hI hN;have q0:∀w:World,(Op.equalIn 10000 34 (.agg #[.int .u8 K,.int .i64 Z]) (.agg #[.int .u8 K,.int .i64 Z])).run Tryz.prog w=.ok true w:=λw=>by rw[q4a];simp
  have hs1:(P.toList==P.toList)=true:=beq_self_eq_true _;have HT:Hid (([.int .u8 K,.int .i64 Z]:List Value).length=2):=rfl;clear h1 h2 t1 l1 C1 hok hx htl2 hP hPd hps dPU dTU sPU sTU z92 hrs hV2 hmE hfk hgk hK hZ hse hzs hre hpe hN len_of;go_wp2_with fail;refine S1.out.mono ?_;rintro e w2 ⟨rfl,l2⟩;have L2:=hI l2;clear l2 S1;go_wp2_with(first
   | ((with_reducible refine sN 16 ?_);refine i0a rfl _ rfl [.int .u8 0,.int .i64 0] 2 ZN ?_;intro b16 v16 hb16 hbb16 X16 M16)
   | ((with_reducible refine sT 16 ?_);go_loud (refine l0a rfl _ (.tmp 16) (.tmp 47) rfl b16 rfl _ _ [.int .u8 K,.int .i64 Z] rfl X16 2 SZ.out rfl rfl (by intro u hu;simp only[List.mem_cons,List.not_mem_nil,or_false] at hu;rcases hu with rfl | rfl<;>rfl) ?_);intro y16 Y16 O16 hg16;have lb16:=r0a M16.out O16.out hb16)
   | fail)
  have L3:=hI (L2.out.trans (lb16.mono L2.out.size));have Y3:=Y16;have HB16:Hid (w1.heap.size<=b16):=Nat.le_trans L2.out.size hb16;clear X16 M16 O16 lb16 L2 Y16;refine(R1.out _ L3.out).mono ?_;rintro e w4 ⟨u4,rfl,o4,l4⟩;obtain⟨A4,c4,rfl,y4⟩:=o4.holds HRS.out.1 (by rw[<-HN.out];omega);rw[<-HN.out] at y4⊢;have B4:=hI y4;have KB4:Hid (∀ad,A4=some ad->w1.heap.size<=ad.block):=λad had=>by subst had;exact Nat.le_trans L3.out.size (v1a.block (k:=.u8) o4 (i:=ad.block) (by obtain⟨b,o,s⟩:=ad;rfl)).1
  have L4:=hI (L3.out.trans (l4.mono L3.out.size));have Y4:=hI (Y3.out.over l4);clear o4 l4 y4 R1 L3 Y3;go_wp2_with fail;refine(P1.out _ L4.out).mono ?_;rintro e w5 ⟨rfl,l5⟩;have L5:=hI (L4.out.trans (l5.mono L4.out.size));have Y5:=hI (Y4.out.over l5);have B5:=hI (B4.out.over l5);clear l5 P1 L4 Y4 B4;go_wp2_with fail;refine(F1.out _ L5.out).mono ?_;rintro e w6 ⟨rfl,l6⟩;have L6:=hI (L5.out.trans (l6.mono L5.out.size));have Y6:=hI (Y5.out.over l6);have B6:=hI (B5.out.over l6);clear l6 F1 L5 Y5 B5;go_wp2_with fail;refine(N1.out _ L6.out).mono ?_;rintro e w7 ⟨u7,rfl,o7,l7⟩;obtain⟨A7,n7,c7,rfl,hn7,_⟩:=o7.open;have HN7:=hI hn7;have L7:=hI (L6.out.trans (l7.mono L6.out.size));have Y7:=hI (Y6.out.over l7);have B7:=hI (B6.out.over l7);clear o7 l7 hn7 N1 L6 Y6 B6;go_wp2_with fail;refine(M1.out _ L7.out).mono ?_;rintro e w8 ⟨rfl,t8⟩;have X7:=hI (I.below X1.out L7.out);have T7:=hI (T1.out.below L7.out);have G7:Hid (∀j,S j->j<w1.heap.size):=λj hj=>(I.ge X1.out j hj).2
  obtain⟨S8,x8,s8,n8⟩:=t8;have l8:=s8.below (λj hj=>(I.ge X7.out j hj).1) T7.out.hb;have hs8:=s8.size;have X8:=hI x8;have L8:=hI ((L1.out.trans (L7.out.mono L1.out.size)).trans l8);have TB8:=hI (I.tbNext T7.out.tb l8);have Y8:=hI (Y7.out.spare s8 λh=>by have:=G7.out _ h;have:=HB16.out;omega);have hA4:∀ad,A4=some ad->¬S ad.block:=λad had hS=>by have:=KB4.out ad had;have:=G7.out _ hS;omega
  have B8:=hI (B7.out.spar s8 (Nat.le_refl _) hA4);clear x8 s8 n8 l8 M1 X7 T7 G7 L7 Y7 B7 hA4 T1 X1 KB4 HB16;by_cases hz:mE=0
  ·obtain⟨a1,a2,a3,a4,a5,a6,a7⟩:=YS.out hz;have aK:=YK.out hz;have UN1:=hI (UN.out hz);have D1:=hI (SQ.out _ _ X8.out);rw[a2,a3,aK] at D1;have RQ1:=RQ;rw[a5,a6] at RQ1;have FQ1:Hid (∀w2 S2,I.is w2 W.heap.size q V2 S2->I.tb W.heap.size w2->W.heap.size<=w2.heap.size->Calls Tryz.prog 13 #[R0a q,.string tz] w2 λe w'=>e=.returned (.tuple #[.int .i64 x,.int .i64 0])/\Below w2.heap.size w2 w'):=λw2 S2 h h2 h3=>by have:=FQ.out w2 S2 h h2 h3;rw[a7] at this;exact this
   subst a1;subst hz;clear a2 a3 a4 a5 a6 a7 aK YS YK UN NO SQ RQ FQ PQ NQ;go_wp2_with fail;refine D1.out.mono ?_;rintro e w9 ⟨rfl,l9⟩;have X9:=hI (I.below X8.out l9);have L9:=hI (L8.out.trans (l9.mono L8.out.size));have TB9:=hI (I.tbNext TB8.out (l9.mono L8.out.size));have Y9:=hI (Y8.out.over l9);have B9:=hI ((B8.out.mono hs8).over l9);clear l9 D1 X8 L8 TB8 Y8 B8;go_wp2_with(first
    | ((with_reducible refine sN 28 ?_);refine i0a rfl _ rfl [.int .u8 0,.int .i64 0] 2 ZN ?_;intro b28 v28 hb28 hbb28 X28 M28)
    | ((with_reducible refine sT 28 ?_);go_loud (refine l0a rfl _ (.tmp 28) (.tmp 103) rfl b28 rfl _ _ [.int .u8 K,.int .i64 Z] rfl X28 2 SZ.out rfl rfl (by intro u hu;simp only[List.mem_cons,List.not_mem_nil,or_false] at hu;rcases hu with rfl | rfl<;>rfl) ?_);intro y28 Y28 O28 hg28;have lb28:=r0a M28.out O28.out hb28)
    | fail)
   have X10:=hI (I.below X9.out lb28);have L10:=hI (L9.out.trans (lb28.mono L9.out.size));have TB10:=hI (I.tbNext TB9.out (lb28.mono L9.out.size));have Y10:=hI (Y9.out.over lb28);have B10:=hI (B9.out.over lb28);have Z10:=Y28;clear X28 M28 O28 lb28 X9 L9 TB9 Y9 B9 Y28;refine(RQ1.out _ _ X10.out).mono ?_;rintro e w11 ⟨u11,rfl,o11,l11⟩;obtain⟨A11,c11,rfl,y11⟩:=o11.holds HRS.out.1 (by rw[<-HN.out];omega);rw[<-HN.out] at y11⊢;have D11:=hI y11;have X11:=hI (I.below X10.out l11);have L11:=hI (L10.out.trans (l11.mono L10.out.size));have TB11:=hI (I.tbNext TB10.out (l11.mono L10.out.size));have Y11:=hI (Y10.out.over l11);have Z11:=hI (Z10.out.over l11);have B11:=hI (B10.out.over l11);clear o11 l11 y11 RQ1 X10 L10 TB10 Y10 B10 Z10;go_wp2_with fail;refine(FQ1.out _ _ X11.out TB11.out L11.out.size).mono ?_;rintro e w12 ⟨rfl,l12⟩;have X12:=hI (I.below X11.out l12);have L12:=hI (L11.out.trans (l12.mono L11.out.size));have TB12:=hI (I.tbNext TB11.out (l12.mono L11.out.size));have Y12:=hI (Y11.out.over l12);have Z12:=hI (Z11.out.over l12);have B12:=hI (B11.out.over l12);have D12:=hI (D11.out.over l12);have C13:Hid (Calls Tryz.prog 27 #[.slice A4 N c4,.slice A11 N c11] w12 λe w'=>e=.returned (.bool true)/\∃k,w12.drewN k=w'):=by have:=i9a w12 _ _ _ _ _ _ _ _ _ _ B12.out D12.out;rw[decide_eq_true rfl] at this;exact this
   clear l12 FQ1 X11 L11 TB11 Y11 Z11 B11 D11 B12 D12;go_wp2_with(first
    | ((with_reducible refine sN 124 ?_);go_loud (refine a3a rfl _ (.tmp 16) rfl b16 rfl _ [.int .u8 K,.int .i64 Z] Y12 2 _ Tryz.underlying34 rfl SZ.out HT ?_))
    | ((with_reducible refine sN 125 ?_);go_loud (refine a3a rfl _ (.tmp 28) rfl b28 rfl _ [.int .u8 K,.int .i64 Z] Z12 2 _ Tryz.underlying34 rfl SZ.out HT ?_))
    | fail)
   refine C13.out.mono ?_;rintro e w13 ⟨rfl,j13,hw13⟩;have l13:Below w12.heap.size w12 w13:=by rw[<-hw13];exact E0a _ _
   have X13:=hI (I.below X12.out l13);have L13:=hI (L12.out.trans (l13.mono L12.out.size));have TB13:=hI (I.tbNext TB12.out (l13.mono L12.out.size));have Y13:=hI (Y12.out.over l13);clear hw13 l13 C13 X12 L12 TB12 Y12 Z12;by_cases hg:fe=0
   ·by_cases hk1:K=1
    ·obtain⟨u1,u2⟩:=UN1.out hk1;have u3:=u1 fn (by rw[hg]);injection u3 with u3 u4
     have HU2:Hid ((Y0a V2.l).length=(Y0a V.l).length):=u2;subst u3;subst u4;subst hg;have yc:=Y13.out.cell 0;subst hk1;clear u1 u2 UN1;have FU1:=hI (FU.out _ _ X13.out TB13.out L13.out.size);clear FU;go_wp2_with fail;refine FU1.out.mono ?_;rintro e w14 ⟨rfl,l14⟩;have X14:=hI (I.below X13.out l14);have L14:=hI (L13.out.trans (l14.mono L13.out.size));have TB14:=hI (I.tbNext TB13.out (l14.mono L13.out.size));clear l14 FU1 X13 L13 TB13 Y13 yc;go_wp2_with fail;refine(MQ.out _ _ X14.out TB14.out).mono ?_;rintro e w15 ⟨u15,rfl,o15,l15⟩;obtain⟨A15,n15,c15,rfl,hn15,_⟩:=o15.open;have hnm:n15=n7:=by rw[<-hn15,HU2.out];exact HN7.out
     subst hnm;have L15:=hI (L14.out.trans (l15.mono L14.out.size));clear o15 l15 hn15 MQ X14 L14 TB14;go_wp2_with fail;refine(CW.out _ L15.out).mono ?_;rintro e wz ⟨rfl,lz⟩;go_wp2_with fail;go_ret;exact⟨rfl,L15.out.trans (lz.mono L15.out.size)⟩
    ·have hk1':(K != 1)=true:=by simpa using hk1
     have yc:=Y13.out.cell 0;subst hg;clear UN1 FU MQ;go_wp2_with fail;refine(CW.out _ L13.out).mono ?_;rintro e wz ⟨rfl,lz⟩;go_wp2_with fail;go_ret;exact⟨rfl,L13.out.trans (lz.mono L13.out.size)⟩
   ·have hg':(fe != 0)=true:=by simpa using hg
    clear UN1 FU MQ;go_wp2_with fail;refine(CW.out _ L13.out).mono ?_;rintro e wz ⟨rfl,lz⟩;go_wp2_with fail;go_ret;exact⟨rfl,L13.out.trans (lz.mono L13.out.size)⟩
  ·have hz':(mE != 0)=true:=by simpa using hz
   have hVV:=NO.out hz;rw[hVV] at X8;clear hVV YS YK UN NO SQ RQ FQ FU MQ;go_wp2_with fail;refine(PQ.out _ _ X8.out TB8.out L8.out.size).mono ?_;rintro e w9 ⟨rfl,l9⟩;have X9:=hI (I.below X8.out l9);have L9:=hI (L8.out.trans (l9.mono L8.out.size));have TB9:=hI (I.tbNext TB8.out (l9.mono L8.out.size));clear l9 PQ X8 L8 TB8 Y8 B8;go_wp2_with fail;refine(NQ.out _ _ X9.out TB9.out).mono ?_;rintro e w10 ⟨u10,rfl,o10,l10⟩;obtain⟨A10,n10,c10,rfl,hn10,_⟩:=o10.open;have hnm:n10=n7:=hn10.symm.trans HN7.out;subst hnm;have L10:=hI (L9.out.trans (l10.mono L9.out.size));clear o10 l10 hn10 NQ X9 L9 TB9;go_wp2_with fail;refine(CW.out _ L10.out).mono ?_;rintro e wz ⟨rfl,lz⟩;go_wp2_with fail;go_ret;exact⟨rfl,L10.out.trans (lz.mono L10.out.size)⟩
 ·obtain⟨rfl,l1⟩:=h1 hE;have L1:=hI l1;have h0:NoV w1 (.pointer none):=.inl rfl;have hem:((⟨#[]⟩:ByteArray).toList==(⟨#[]⟩:ByteArray).toList)=true:=beq_self_eq_true _;clear h1 h2 l1 C1;go_wp2_with fail;refine(d4b _ _ h0 x).mono ?_;rintro e w2 ⟨rfl,l2⟩;have n2:=h0.below l2;have L2:=hI (L1.out.trans (l2.mono L1.out.size));go_wp2_with(first
   | ((with_reducible refine sN 16 ?_);refine i0a rfl _ rfl [.int .u8 0,.int .i64 0] 2 ZN ?_;intro b16 v16 hb16 hbb16 X16 M16)
   | ((with_reducible refine sT 16 ?_);go_loud (refine l0a rfl _ (.tmp 16) (.tmp 47) rfl b16 rfl _ _ [.int .u8 0,.int .i64 0] rfl X16 2 SZ.out rfl rfl (by intro u hu;simp only[List.mem_cons,List.not_mem_nil,or_false] at hu;rcases hu with rfl | rfl<;>rfl) ?_);intro y16 Y16 O16 hg16;have lb16:=r0a M16.out O16.out hb16)
   | fail)
  have n3:=n2.below lb16;have L3:=hI (L2.out.trans (lb16.mono L2.out.size));clear X16 M16 O16 lb16 Y16;refine(c4b _ _ n3 x 0 65536).mono ?_;rintro e w4 ⟨rfl,l4⟩;have n4:=n3.below l4;have L4:=hI (L3.out.trans (l4.mono L3.out.size));go_wp2_with fail;refine(o9a _ _ n4 x).mono ?_;rintro e w5 ⟨rfl,l5⟩;have n5:=n4.below l5;have L5:=hI (L4.out.trans (l5.mono L4.out.size));go_wp2_with fail;refine(a4b _ _ n5 _).mono ?_;rintro e w6 ⟨rfl,l6⟩;have n6:=n5.below l6;have L6:=hI (L5.out.trans (l6.mono L5.out.size));go_wp2_with fail;refine(n7a _ _ n6).mono ?_;rintro e w7 ⟨rfl,l7⟩;have n7:=n6.below l7;have L7:=hI (L6.out.trans (l7.mono L6.out.size));go_wp2_with fail;refine(b4b _ _ n7 x tz o).mono ?_;rintro e w8 ⟨rfl,l8⟩;have n8:=n7.below l8;have L8:=hI (L7.out.trans (l8.mono L7.out.size));go_wp2_with fail;refine(o9a _ _ n8 x).mono ?_;rintro e w9 ⟨rfl,l9⟩;have n9:=n8.below l9;have L9:=hI (L8.out.trans (l9.mono L8.out.size));go_wp2_with fail;refine(n7a _ _ n9).mono ?_;rintro e w10 ⟨rfl,l10⟩;have L10:=hI (L9.out.trans (l10.mono L9.out.size));go_wp2_with fail;refine(CW.out _ L10.out).mono ?_;rintro e wz ⟨rfl,lz⟩;go_wp2_with fail;go_ret;exact⟨rfl,L10.out.trans (lz.mono L10.out.size)⟩
theorem walk_VolMoves(W:World)(hT:k5a W)(a0:Int)(w0:-9223372036854775808<=a0/\a0<=9223372036854775807)(A1:Option Addr)(n1 c1:Nat)(z1:List M2a)(h1:e4a W W.heap.size A1 n1 c1 z1)(r1:n1<=1048576)(a2:Int)(w2:-9223372036854775808<=a2/\a2<=9223372036854775807)(a3:ByteArray)(r3:a3.size<=1048576)(a4:Bool)(a5:ByteArray)(r5:a5.size<=1048576) :
  Calls Tryz.prog 6 #[.int .i64 a0,.slice A1 n1 c1,.int .i64 a2,.string a3,.bool a4,.string a5] W λe w'=>e=.returned (.bool true)/\Below W.heap.size W w':=
 A5b j7a W (F2a.of hT) a0 w0 A1 n1 c1 z1 h1 r1 S6b a2 w2 a3 r3 a4 a5 r5
end Go.Proofs.YtdgpbhdihhchgaaGreatDoor
