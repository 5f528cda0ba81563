import Derived.Test.YtjpcifmeimcikaaGreatDoorSAE
import Derived.Test.YtjpcifmeimcikaaGreatDoorS0
set_option linter.all false
set_option maxHeartbeats 8000000
set_option maxRecDepth 100000
namespace Go.Proofs.YtjpcifmeimcikaaGreatDoor
open Go.Proofs.Tryz
open Go.RowKit
set_option maxRecDepth 100000
def rd0:Rd:=⟨0,0⟩
def T6a(c:Int)(xs:List Int):l1a×Rd:=
 if c=0 then ({ i0a with dial:=(D1a xs rd0).1,guid:=(y0a xs 16 (D1a xs rd0).2).1 },(y0a xs 16 (D1a xs rd0).2).2)
 else if c=1 then ({ i0a with proof:=(y0a xs 32 rd0).1,user:=⟨(U0a xs (y0a xs 32 rd0).2).1.toArray⟩ },(U0a xs (y0a xs 32 rd0).2).2)
 else if c=3 then ({ i0a with share:=⟨(U0a xs rd0).1.toArray⟩ },(U0a xs rd0).2)
 else (i0a,rdZ xs 4 rd0)
def A2a(c:Int)(xs:List Int):Int:=if S0a c=true then Q0a xs (T6a c xs).2 else 2
def N2a(c:Int)(xs:List Int):l1a:=if A2a c xs=0 then (T6a c xs).1 else i0a
def C9a(c:Int)(xs:List Int):O1a×Rd:=
 if c=0 then ({ n0a with dia:=(rdN xs 2 rd0).1,siz:=(rdN xs 4 (rdZ xs 2 (rdN xs 2 rd0).2)).1,chal:=(y0a xs 8 (rdN xs 4 (rdZ xs 2 (rdN xs 2 rd0).2)).2).1 },(y0a xs 8 (rdN xs 4 (rdZ xs 2 (rdN xs 2 rd0).2)).2).2)
 else (n0a,rdZ xs 4 rd0)
def D3a(c:Int)(xs:List Int):Int:=if S0a c=true then Q0a xs (C9a c xs).2 else 2
def Y3a(c:Int)(xs:List Int):O1a:=if D3a c xs=0 then (C9a c xs).1 else n0a
def H1a(w:World)(c:Int)(xs:List Int)(e:Ending)(w':World):Prop:=∃vd,e=.returned (.tuple #[.agg (l0a vd (.slice none 0 0) (.slice none 0 0) (N2a c xs)).toArray,.int .i64 (A2a c xs)])/\g1a w' w'.heap.size (l0a vd (.slice none 0 0) (.slice none 0 0) (N2a c xs)) (N2a c xs)/\BW w w'/\(∀b off s n c,vd=.slice (some ⟨b,off,s⟩) n c->w.heap.size<=b)
def r4a(w:World)(c:Int)(xs:List Int)(e:Ending)(w':World):Prop:=e=.returned (.tuple #[.agg (u0a (.slice none 0 0) (.slice none 0 0) (Y3a c xs)).toArray,.int .i64 (D3a c xs)])/\BW w w'
theorem s7b{cur:List Value}{off:Nat}{xs:List Int}(h:off+xs.length<=cur.length):(spliced cur off xs).length=cur.length:=by unfold spliced;simp only[List.length_append,List.length_take,List.length_map,List.length_drop];omega
theorem D9a{xs:List Int}{m n:Nat}{r:Rd}(hl:xs.length=n)(h:r.p<=n):(rdZ xs m r).p<=n:=by
 have:=Y5a (m:=m) hl h;unfold rdZ;split
 ·split
  ·exact this
  ·exact this
 ·exact this
theorem E9a{xs:List Int}{n:Nat}{r:Rd}(hx:Bytes xs)(hl:xs.length=n)(h:r.p<=n):(U0a xs r).2.p<=n:=by
 unfold U0a;split
 ·have:=c4a hx (r.p:Int) (by omega);show(Z0a xs r.p).toNat<=n
  omega
 ·exact h
theorem U5b{xs:List Int}{n:Nat}{r:Rd}(hl:xs.length=n)(h:r.p<=n):(D1a xs r).2.p<=n:=by
 have:=V7a (s:=2) hl h;unfold D1a;split
 ·exact this
 ·exact H0b hl this _
theorem P3a{xs:List Int}{r:Rd}(h:Q0a xs r=0):r.e=0:=by
 unfold Q0a at h;split at h
 ·exact absurd h (by decide)
 ·exact h
theorem d4a.holdsF{k:IntKind}{e:TypeId}{w:World}{base:Nat}{v:Value}{xs:List Int}(h:d4a k e w base v xs):∃A n c,v=.slice A n c/\J1a (Value.int k) w w.heap.size A n c xs:=by
 obtain⟨A,n,c,rfl,h1,h2,h3,h4,h5⟩:=h.open;refine⟨A,n,c,rfl,h1,h2,h4,λh0=>?_⟩;obtain⟨g,rfl,_,hg,hc⟩:=h5 h0;refine⟨g,0,rfl,hg,λi x hx=>?_⟩;have hi:i<n:=by rw[<-h1];exact(List.getElem?_eq_some_iff.1 hx).1
 rw[Nat.zero_add,hc i hi];simp[List.getD_eq_getElem?_getD,hx]
theorem d4a.save{k:IntKind}{e:TypeId}{w w':World}{base g:Nat}{v:Value}{xs:List Int}(h:d4a k e w base v xs)(hS:W0a g w w')(hg:g<base):d4a k e w' base v xs:=h.keep λi cs hi hc=>hS.rest i (Array.getElem?_eq_some_iff.1 hc).1 (by obtain⟨hb,_⟩:=h.block hi;omega)
theorem C2b{xs:List Int}(hx:Bytes xs)(r:Rd):0<=(rdN xs 4 r).1/\(rdN xs 4 r).1<=18446744073709551615:=by
 unfold rdN;split
 ·split
  ·exact⟨Int.le_refl 0,by show(0:Int)<=_;decide⟩
  ·have:=T1a xs hx r.p 4 4294967296 (by decide);exact⟨this.1,by show Y0a xs r.p 4<=_;omega⟩
 ·exact⟨Int.le_refl 0,by show(0:Int)<=_;decide⟩
theorem t7b{xs:List Int}(hx:Bytes xs)(r:Rd)(k:Nat):∀x∈(Q2a xs r k).1,0<=x/\x<=65535:=by
 induction k with
 | zero=>intro x h;cases h
 | succ k ih=>
  intro x h;simp only[Q2a,List.mem_append,List.mem_singleton] at h;rcases h with h | rfl
  ·exact ih x h
  ·exact p5a hx _
theorem D2b{xs:List Int}(hx:Bytes xs)(r:Rd):∀x∈(D1a xs r).1,0<=x/\x<=65535:=by
 unfold D1a;split
 ·intro x h;cases h
 ·exact t7b hx _ _
theorem V5b{xs:List Int}{r:Rd}(h:(U0a xs r).2.e=0):r.e=0:=by
 unfold U0a at h;by_cases he:r.e=0
 ·exact he
 ·rw[if_neg he] at h;exact h
theorem W5b:(prog.info? 127).map (λi=>(i.zero,i.size))=some (some (.agg (.slice none 0 0::.int .i64 0::.int .i64 0::l0a (.slice none 0 0) (.slice none 0 0) (.slice none 0 0) i0a).toArray),72):=by kernel_rfl
theorem F9a:(prog.info? 127).map (·.size)=some 72:=by kernel_rfl
theorem u7b(w:World)(c:Int)(A:Option Addr)(n k:Nat)(xs:List Int)(hc:0<=c/\c<=65535)(hx:Holds w w.heap.size A n k xs) :
  Calls prog 61 #[.int .u16 c,.slice A n k] w (H1a w c xs):=by
 have hl:=hx.len;have hrm:=hx.room;have HX:=hI hx;have hby:=hx.byte;have ZH:=hI n8a;have ZB:=hI W5b;have BZ:=F7a;have HZ:Hid ((l0a (.slice none 0 0) (.slice none 0 0) (.slice none 0 0) i0a).length=69):=G1a h0a;have HZ1:Hid (∀v∈l0a (.slice none 0 0) (.slice none 0 0) (.slice none 0 0) i0a,v.oneCell'=true):=(V1a w 0).one;have B1:prog.built 125 [(0,.slice A n k)]=some (.slice A n k::.int .i64 0::.int .i64 0::([]:List Value)).toArray:=by kernel_rfl
 have B2:prog.built 127 [(0,.agg #[.slice A n k,.int .i64 0,.int .i64 0])]=some (.slice A n k::.int .i64 0::.int .i64 0::l0a (.slice none 0 0) (.slice none 0 0) (.slice none 0 0) i0a).toArray:=by kernel_rfl
 have HZI:Hid (∀w':World,g1a w' w'.heap.size (l0a (.slice none 0 0) (.slice none 0 0) (.slice none 0 0) i0a) i0a):=λw'=>V1a w' _
 have HE:Hid (∀er,A2a c xs=er->er≠0->∀e w',e=.returned (.tuple #[.agg (l0a (.slice none 0 0) (.slice none 0 0) (.slice none 0 0) i0a).toArray,.int .i64 er])->BW w w'->H1a w c xs e w'):=by intro er h1 h2 e w' he hb;unfold H1a N2a;rw[h1,if_neg h2];exact⟨_,he,HZI.o w',hb,λ_ _ _ _ _ h=>by cases h⟩
 obtain⟨zs,hzs⟩:=xX (l0a (.slice none 0 0) (.slice none 0 0) (.slice none 0 0) i0a);obtain⟨tl,htl⟩:=xX zs.tail;have HTL:Hid (zs=.slice none 0 0::tl):=by show _=_;rw[htl,hzs];rfl
 have HZS:=hI hzs;rw[<-hzs] at ZH ZB BZ HZ HZ1 B2 HE;clear hzs htl HZI;have HZB:Hid ((Value.slice none 0 0::Value.int .i64 0::Value.int .i64 0::zs).length=72):=by show _=_;simp only[List.length_cons,HZ.o]
 have HNB:Hid ((Value.slice A n k::Value.int .i64 0::Value.int .i64 0::zs).length=72):=by show _=_;simp only[List.length_cons,HZ.o]
 have HOB:Hid (∀v∈Value.slice A n k::Value.int .i64 0::Value.int .i64 0::zs,v.oneCell'=true):=by
  intro v hv;rcases List.mem_cons.1 hv with rfl | hv
  ·rfl
  rcases List.mem_cons.1 hv with rfl | hv
  ·rfl
  rcases List.mem_cons.1 hv with rfl | hv
  ·rfl
  exact HZ1.o v hv
 by_cases hk:S0a c=true;rotate_left
 ·have HQ:=hI (HE.o 2 (by unfold A2a;rw[if_neg hk]) (by decide));have hk':S0a c=false:=by simpa using hk
  have hc01:c≠0/\c≠1/\c≠2/\c≠3/\c≠4/\c≠13:=by unfold S0a at hk';simp at hk';omega
  obtain⟨h0,h1,h2,h3,h4,h13⟩:=hc01;have b0:(c==0)=false:=bF h0
  have b1:(c==1)=false:=bF h1
  have b2:(c==2)=false:=bF h2
  have b3:(c==3)=false:=bF h3
  have b4:(c==4)=false:=bF h4
  have b13:(c==13)=false:=bF h13
  clear hk hk' HE hx h0 h1 h2 h3 h4 h13;go_enter func61,ntmps61;go_wp2_with(first|(refine sN 4 ?_;refine b0a rfl _ rfl zs _ ZH ?_;intro h w1 hg1 hg2 Z1 L1)|(refine sN 9 ?_;refine v0a rfl _ _ rfl (.slice A n k::.int .i64 0::.int .i64 0::[]) (by refine Eq.trans ?_ B1;kernel_rfl) ?_)|(refine sN 10 ?_;refine v0a rfl _ _ rfl (.slice A n k::.int .i64 0::.int .i64 0::zs) (by refine Eq.trans ?_ B2;kernel_rfl) ?_)|(refine sN 6 ?_;refine b0a rfl _ rfl (.slice none 0 0::.int .i64 0::.int .i64 0::zs) _ ZB ?_;intro g w2 hg3 hg4 P02 L2)|(refine sT 6 ?_;refine a0a rfl _ (.tmp 6) (.tmp 10) rfl g rfl _ (.slice none 0 0::.int .i64 0::.int .i64 0::zs) (.slice A n k::.int .i64 0::.int .i64 0::zs) rfl P02 72 F9a HZB HNB HOB ?_;intro w3 P03 O3 hg5;have hsz:=L1.o.size;have hng:h≠g:=(by omega);have Z3:=hI ((Z1.o.over L2.o).only O3.o hng);have B3:Hid (BW w w3):=c0a (step L1.o L2.o) O3.o (by omega);have P3:Hid (PRd w3 g 127 A n k rd0 zs):=P03;have hwg:w.heap.size<=g:=(by omega);have hwh:w.heap.size<=h:=hg1)|(refine sN 12 ?_;refine r0a rfl _ rfl zs BZ ?_)|(refine sT 4 ?_;refine a0a rfl _ (.tmp 4) (.tmp 12) rfl h rfl _ zs zs rfl Z3 69 p0a HZ HZ HZ1 ?_;intro w10 K10 O10 hg10)|fail)
  refine bodyPost_ret (v:=.tuple #[.agg zs.toArray,.int .i64 2]) ?_ rfl (HQ.o _ _ rfl (c0a B3.o O10.o hwh));exact j0a rfl _ _ h _ _ (0,0) _ rfl K10.o underlying34 rfl (by rw[p0a];have:=HZ.o;simp[this]) rfl
 obtain⟨cq,hcq⟩:=xX c;rw[show H1a w c xs=H1a w cq xs by rw[hcq]];go_enter func61,ntmps61;go_upto_if 13 with(first|(refine sN 4 ?_;refine b0a rfl _ rfl zs _ ZH ?_;intro h w1 hg1 hg2 Z1 L1)|(refine sN 9 ?_;refine v0a rfl _ _ rfl (.slice A n k::.int .i64 0::.int .i64 0::[]) (by refine Eq.trans ?_ B1;kernel_rfl) ?_)|(refine sN 10 ?_;refine v0a rfl _ _ rfl (.slice A n k::.int .i64 0::.int .i64 0::zs) (by refine Eq.trans ?_ B2;kernel_rfl) ?_)|(refine sN 6 ?_;refine b0a rfl _ rfl (.slice none 0 0::.int .i64 0::.int .i64 0::zs) _ ZB ?_;intro g w2 hg3 hg4 P02 L2)|(refine sT 6 ?_;refine a0a rfl _ (.tmp 6) (.tmp 10) rfl g rfl _ (.slice none 0 0::.int .i64 0::.int .i64 0::zs) (.slice A n k::.int .i64 0::.int .i64 0::zs) rfl P02 72 F9a HZB HNB HOB ?_;intro w3 P03 O3 hg5;have hsz:=L1.o.size;have hng:h≠g:=(by omega);have Z3:=hI ((Z1.o.over L2.o).only O3.o hng);have B3:Hid (BW w w3):=c0a (step L1.o L2.o) O3.o (by omega);have P3:Hid (PRd w3 g 127 A n k rd0 zs):=P03;have hwg:w.heap.size<=g:=(by omega);have hwh:w.heap.size<=h:=hg1)|fail)
 by_cases h0:c=0
 ·subst hcq;subst h0;have p0:rd0.p<=n:=Nat.zero_le _;have p1:(D1a xs rd0).2.p<=n:=U5b hl p0;have p2:(y0a xs 16 (D1a xs rd0).2).2.p<=n:=Y5a hl p1;have CT:=hI fun (w':World) (g:Nat) h1 h2 h3=>l3c w' g w.heap.size 127 A n k xs rd0 tl h1 h2 h3 p0
  have CF:=hI fun (w':World) (g:Nat) (rest:List Value) h1 h2 h3=>R4b w' g 127 A n k xs (D1a xs rd0).2 1 16 16 rest h1 h2 p1 (by decide) (by decide) h3
  have hok:=B9a (m:=16) (r:=(D1a xs rd0).2) hl;have hbyq:=I2a hby 16 (D1a xs rd0).2;have kdial:=D2b hby rd0;have CE:=hI fun (w':World) (g:Nat) (rest:List Value) h1=>S6a w' g 127 A n k xs (y0a xs 16 (D1a xs rd0).2).2 rest h1 hl hrm p2
  have hre:Q0a xs (y0a xs 16 (D1a xs rd0).2).2=0->(y0a xs 16 (D1a xs rd0).2).2.e=0:=P3a;have hge:A2a 0 xs=Q0a xs (y0a xs 16 (D1a xs rd0).2).2:=by unfold A2a T6a;rw[if_pos hk,if_pos rfl]
  have HQE:=hI (HE.o _ hge);have HQ:Hid (Q0a xs (y0a xs 16 (D1a xs rd0).2).2=0->∀vd e w',e=.returned (.tuple #[.agg (l0a vd (.slice none 0 0) (.slice none 0 0) ({ i0a with dial:=(D1a xs rd0).1,guid:=(y0a xs 16 (D1a xs rd0).2).1 })).toArray,.int .i64 0])->g1a w' w'.heap.size (l0a vd (.slice none 0 0) (.slice none 0 0) ({ i0a with dial:=(D1a xs rd0).1,guid:=(y0a xs 16 (D1a xs rd0).2).1 })) ({ i0a with dial:=(D1a xs rd0).1,guid:=(y0a xs 16 (D1a xs rd0).2).1 })->BW w w'->(∀b off s n c,vd=.slice (some ⟨b,off,s⟩) n c->w.heap.size<=b)->H1a w 0 xs e w'):=by
   intro he vd e w' h1 h2 h3 h9;have h4:N2a 0 xs={ i0a with dial:=(D1a xs rd0).1,guid:=(y0a xs 16 (D1a xs rd0).2).1 }:=by unfold N2a;rw[hge,he,if_pos rfl];unfold T6a;rw[if_pos rfl]
   unfold H1a;rw[h4,hge,he];exact⟨vd,h1,h2,h3,h9⟩
  obtain⟨d,hd⟩:=xX (D1a xs rd0);rw[<-hd] at CT CF p1 p2 hok hbyq kdial CE hre HQ HQE;clear hd;obtain⟨q,hq⟩:=xX (y0a xs 16 d.2);rw[<-hq] at CF p2 hok hbyq CE hre HQ HQE;clear hq;obtain⟨er,her⟩:=xX (Q0a xs q.2);rw[<-her] at CE HQ HQE hre;have HRE:=hI hre;clear her HE hx hk hge hre;go_wp2_with fail;have P3t:Hid (PRd w3 g 127 A n k rd0 (.slice none 0 0::tl)):=by rw[<-HTL.o];exact P3.o
  refine(CT.o w3 g P3t.o (HX.o.below B3.o) hwg).mono ?_;rintro e w4 ⟨rfl,vd,hP,hD,hS⟩;have P4:=hI hP;have Z4:=hI (Z3.o.save hS hng);have B4:=hI (B3.o.trans (hS.below hwg B3.o.size));have D4:=hI hD;have hgd:g<w3.heap.size:=P3.o.lt;have hhd:h<w3.heap.size:=Z3.o.lt;have hwd0:=B3.o.size;clear hP hS hD P3t P3 Z3 B3;have HV:Hid (17<=(vd::tl).length):=by show _<=_;have h:=HZ.o;rw[HTL.o] at h;simp only[List.length_cons] at h⊢;omega
  go_wp2_with fail;refine(CF.o w4 g _ P4.o ((HX.o.below B4.o).mono B4.o.size) HV.o).mono ?_;rintro e w5 ⟨rfl,hP,hS⟩;have P5':=hI hP;have Z5:=hI (Z4.o.save hS hng);have B5:=hI (B4.o.trans (hS.below hwg B4.o.size));have D5:=hI (D4.o.save hS hgd);clear hP hS P4 Z4 B4 D4;obtain⟨wd,hwd⟩:∃wd:World,wd=w3:=⟨_,rfl⟩;rw[<-hwd] at D5 hhd hwd0;clear hwd hgd;obtain⟨rs,hrs⟩:=xX (spliced (vd::tl) 1 q.1);have HRS:=hI hrs;rw[<-hrs] at P5';have P5:=P5';clear hrs P5';go_wp2_with fail;refine(CE.o w5 g _ P5.o).mono ?_;rintro e w99 ⟨rfl,kk,rfl⟩;have Z99:=hI (Blk.drewN Z5.o kk);have P99:=hI (Blk.drewN P5.o kk);have B99:Hid (BW w (w5.drewN kk)):=step B5.o (x3a _ kk);have D99:Hid (d4a .u16 22 (w5.drewN kk) wd.heap.size vd d.1):=D5.o.keep λ_ _ _ _=>rfl
  obtain⟨wq,hwq⟩:=xX (w5.drewN kk);rw[<-hwq] at Z99 P99 B99 D99⊢;clear hwq P5 Z5 B5;by_cases he:er=0;rotate_left
  ·have hne:(er != 0)=true:=by simpa using he
   have HQ':=hI (HQE.o he);go_wp2_with(first|(refine sN 48 ?_;refine r0a rfl _ rfl zs BZ ?_)|(refine sT 4 ?_;refine a0a rfl _ (.tmp 4) (.tmp 48) rfl h rfl _ zs zs rfl Z99 69 p0a HZ HZ HZ1 ?_;intro w10 K10 O10 hg10)|fail)
   refine bodyPost_ret (v:=.tuple #[.agg zs.toArray,.int .i64 er]) ?_ rfl (HQ'.o _ _ rfl (c0a B99.o O10.o hwh));exact j0a rfl _ _ h _ _ (0,0) _ rfl K10.o underlying34 rfl (by rw[p0a];have:=HZ.o;simp[this]) rfl
  subst he;have hre0:=HRE.o rfl;have hql:=hok hre0;have kd:({ i0a with dial:=d.1 }:l1a).ok:=⟨kdial,h0a.glen,h0a.gbyte,h0a.plen,h0a.pbyte,h0a.acc,h0a.shr,h0a.way,h0a.opt,h0a.lev,h0a.dur,h0a.file,h0a.at_,h0a.n,h0a.data,h0a.locks,h0a.most,h0a.cls,h0a.siz⟩;have kw:({ i0a with dial:=d.1,guid:=q.1 }:l1a).ok:=⟨kdial,hql,hbyq,h0a.plen,h0a.pbyte,h0a.acc,h0a.shr,h0a.way,h0a.opt,h0a.lev,h0a.dur,h0a.file,h0a.at_,h0a.n,h0a.data,h0a.locks,h0a.most,h0a.cls,h0a.siz⟩;have HEQ:Hid (rs=l0a vd (.slice none 0 0) (.slice none 0 0) ({ i0a with dial:=d.1,guid:=q.1 })):=by
   show _=_
   rw[HRS.o];have h:=D0b (vd:=vd) (vx:=.slice none 0 0) (vl:=.slice none 0 0) (a:={ i0a with dial:=d.1 }) kd q.1;rw[<-h];unfold spliced;rw[hql];have e1:vd::tl=l0a vd (.slice none 0 0) (.slice none 0 0) { i0a with dial:=d.1 }:=by have h1:=HTL.o;rw[HZS.o] at h1;injection h1 with _ h1;rw[<-h1];rfl
   rw[e1]
  have HRL:Hid (rs.length=69):=by show _=_;rw[HEQ.o];exact G1a kw
  have hvd1:vd.oneCell'=true:=by obtain⟨_,_,_,rfl,_⟩:=D5.o.open;rfl
  have HR1:Hid (∀v∈rs,v.oneCell'=true):=by rw[HEQ.o];exact x1a hvd1 rfl rfl
  have hrg:Hid (wq.rangeAt g 3 rs):=Blk.range P99.o 3;go_wp2_with(first|(refine sN 51 ?_;refine q0a rfl _ (.tmp 50) rfl g 3 rfl rs _ hrg underlying34 rfl 69 p0a HRL ?_)|(refine sT 4 ?_;refine a0a rfl _ (.tmp 4) (.tmp 51) rfl h rfl _ zs rs rfl Z99 69 p0a HZ HRL HR1 ?_;intro w10 K10 O10 hg10)|fail)
  refine bodyPost_ret (v:=.tuple #[.agg rs.toArray,.int .i64 0]) ?_ rfl ?_
  ·exact j0a rfl _ _ h _ _ (0,0) _ rfl K10.o underlying34 rfl (by rw[p0a];have:=HRL.o;simp[this]) rfl
  ·have D10:d4a .u16 22 w10 wd.heap.size vd d.1:=D99.o.keep λi cs hi hc=>O10.o.rest i (by obtain⟨hb,_⟩:=D99.o.block hi;omega)
   obtain⟨Av,nv,cv,hv,hF⟩:=D10.holdsF;exact HQ.o trivial vd _ w10 (congrArg (λr:List Value=>Ending.returned (.tuple #[.agg r.toArray,.int .i64 0])) HEQ.o) ⟨Av,nv,cv,none,0,0,none,0,0,by rw[hv],hF,Holds.nil _ _,c1a.nil _ _ _ _⟩ (c0a B99.o O10.o hwh) (λb off s n c h=>by obtain⟨hb,_⟩:=D10.block (i:=b) (by rw[h];rfl);exact Nat.le_trans hwd0 hb)
 by_cases h1:c=1
 ·subst hcq;subst h1;have p0:rd0.p<=n:=Nat.zero_le _;have p1:(y0a xs 32 rd0).2.p<=n:=Y5a hl p0;have p2:(U0a xs (y0a xs 32 rd0).2).2.p<=n:=E9a hby hl p1;have CF:=hI fun (w':World) (g:Nat) (rest:List Value) h1 h2 h3=>R4b w' g 127 A n k xs rd0 17 32 32 rest h1 h2 p0 (by decide) (by decide) h3
  have CX:=hI fun (w':World) (g:Nat) (rest:List Value) h1 h2=>S5b w' g 127 A n k xs (y0a xs 32 rd0).2 rest h1 h2 p1
  have hok:=B9a (m:=32) (r:=rd0) hl;have hbyq:=I2a hby 32 rd0;have hql:=t6a (xs:=xs) (m:=32) (r:=rd0);have hte:(U0a xs (y0a xs 32 rd0).2).2.e=0->(y0a xs 32 rd0).2.e=0:=V5b;have CE:=hI fun (w':World) (g:Nat) (rest:List Value) h1=>S6a w' g 127 A n k xs (U0a xs (y0a xs 32 rd0).2).2 rest h1 hl hrm p2
  have hre:Q0a xs (U0a xs (y0a xs 32 rd0).2).2=0->(U0a xs (y0a xs 32 rd0).2).2.e=0:=P3a;have hge:A2a 1 xs=Q0a xs (U0a xs (y0a xs 32 rd0).2).2:=by unfold A2a T6a;rw[if_pos hk,if_neg (by decide),if_pos rfl]
  have HQE:=hI (HE.o _ hge);have HQ:Hid (Q0a xs (U0a xs (y0a xs 32 rd0).2).2=0->∀vd e w',e=.returned (.tuple #[.agg (l0a vd (.slice none 0 0) (.slice none 0 0) ({ i0a with proof:=(y0a xs 32 rd0).1,user:=⟨(U0a xs (y0a xs 32 rd0).2).1.toArray⟩ })).toArray,.int .i64 0])->g1a w' w'.heap.size (l0a vd (.slice none 0 0) (.slice none 0 0) ({ i0a with proof:=(y0a xs 32 rd0).1,user:=⟨(U0a xs (y0a xs 32 rd0).2).1.toArray⟩ })) ({ i0a with proof:=(y0a xs 32 rd0).1,user:=⟨(U0a xs (y0a xs 32 rd0).2).1.toArray⟩ })->BW w w'->(∀b off s n c,vd=.slice (some ⟨b,off,s⟩) n c->w.heap.size<=b)->H1a w 1 xs e w'):=by
   intro he vd e w' h1 h2 h3 h9;have h4:N2a 1 xs={ i0a with proof:=(y0a xs 32 rd0).1,user:=⟨(U0a xs (y0a xs 32 rd0).2).1.toArray⟩ }:=by unfold N2a;rw[hge,he,if_pos rfl];unfold T6a;rw[if_neg (by decide),if_pos rfl]
   unfold H1a;rw[h4,hge,he];exact⟨vd,h1,h2,h3,h9⟩
  obtain⟨q,hq⟩:=xX (y0a xs 32 rd0);rw[<-hq] at CF CX p1 p2 hok hbyq hql hte CE hre HQ HQE;clear hq;obtain⟨t,ht⟩:=xX (U0a xs q.2);rw[<-ht] at CX p2 hte CE hre HQ HQE;clear ht;obtain⟨er,her⟩:=xX (Q0a xs t.2);rw[<-her] at CE HQ HQE hre;have HRE:=hI hre;clear her HE hx hk hge hre;go_wp2_with fail;have HV:Hid (49<=zs.length):=by show _<=_;rw[HZ.o];omega
  refine(CF.o w3 g _ P3.o ((HX.o.below B3.o).mono B3.o.size) HV.o).mono ?_;rintro e w4 ⟨rfl,hP,hS⟩;have P4':=hI hP;have Z4:=hI (Z3.o.save hS hng);have B4:=hI (B3.o.trans (hS.below hwg B3.o.size));clear hP hS P3 Z3 B3;obtain⟨r4,hr4⟩:=xX (spliced zs 17 q.1);have HR4:=hI hr4;have hr4l:r4.length=69:=by rw[hr4,s7b (by have h:=HZ.o;have h2:=hql;omega)];exact HZ.o
  rw[<-hr4] at P4';have P4:=P4';clear hr4 P4';go_wp2_with fail;refine(CX.o w4 g _ P4.o ((HX.o.below B4.o).mono B4.o.size)).mono ?_;rintro e w5 ⟨rfl,hP,hS⟩;have P5:=hI hP;have Z5:=hI (Z4.o.save hS hng);have B5:=hI (B4.o.trans (hS.below hwg B4.o.size));clear hP hS P4 Z4 B4;obtain⟨rs,hrs⟩:=xX (r4.set 49 (.string ⟨t.1.toArray⟩));have HRS:=hI hrs;have hst:∀u:Value,(Value.slice A n k::Value.int .i64 (t.2.p:Int)::Value.int .i64 t.2.e::r4).set 52 u=Value.slice A n k::Value.int .i64 (t.2.p:Int)::Value.int .i64 t.2.e::r4.set 49 u:=λ_=>rfl
  have HST:=hI (hst (.string ⟨t.1.toArray⟩));rw[<-hrs] at HST;clear hst hrs;obtain⟨tx,htx⟩:∃x:ByteArray,x=⟨t.1.toArray⟩:=⟨_,rfl⟩;have HTX:=hI htx;rw[<-htx] at HST HRS⊢;clear htx;obtain⟨cc,hcc⟩:=xX (Value.slice A n k::Value.int .i64 (t.2.p:Int)::Value.int .i64 t.2.e::r4);have hcl:52<cc.length:=by rw[hcc];simp only[List.length_cons,hr4l];omega
  have HCL:=hI hcl;have PC:Hid (Blk w5 g 127 cc):=by rw[hcc];exact P5.o
  rw[<-hcc] at HST;clear hcc hcl P5 hr4l;go_wp2_with(first|(refine sT 31 ?_;refine x0a rfl _ (.tmp 31) (.tmp 29) rfl g 52 rfl _ cc (.string tx) rfl PC HCL (by kernel_rfl) rfl ?_;intro w6 P06 O6 q6;rw[HST.o] at P06;have P6:Hid (PRd w6 g 127 A n k t.2 rs):=P06;have Z6:=hI (Z5.o.only O6.o hng);have B6:Hid (BW w w6):=c0a B5.o O6.o hwg)|fail)
  clear P06 O6 q6 PC Z5 B5;refine(CE.o w6 g _ P6.o).mono ?_;rintro e w99 ⟨rfl,kk,rfl⟩;have Z99:=hI (Blk.drewN Z6.o kk);have P99:=hI (Blk.drewN P6.o kk);have B99:Hid (BW w (w6.drewN kk)):=step B6.o (x3a _ kk);obtain⟨wq,hwq⟩:=xX (w6.drewN kk);rw[<-hwq] at Z99 P99 B99⊢;clear hwq P6 Z6 B6;by_cases he:er=0;rotate_left
  ·have hne:(er != 0)=true:=by simpa using he
   have HQ':=hI (HQE.o he);go_wp2_with(first|(refine sN 48 ?_;refine r0a rfl _ rfl zs BZ ?_)|(refine sT 4 ?_;refine a0a rfl _ (.tmp 4) (.tmp 48) rfl h rfl _ zs zs rfl Z99 69 p0a HZ HZ HZ1 ?_;intro w10 K10 O10 hg10)|fail)
   refine bodyPost_ret (v:=.tuple #[.agg zs.toArray,.int .i64 er]) ?_ rfl (HQ'.o _ _ rfl (c0a B99.o O10.o hwh));exact j0a rfl _ _ h _ _ (0,0) _ rfl K10.o underlying34 rfl (by rw[p0a];have:=HZ.o;simp[this]) rfl
  subst he;have hre0:=HRE.o rfl;have hqe:=hok (hte hre0);have kd:({ i0a with proof:=q.1 }:l1a).ok:=⟨h0a.dial,h0a.glen,h0a.gbyte,hqe,hbyq,h0a.acc,h0a.shr,h0a.way,h0a.opt,h0a.lev,h0a.dur,h0a.file,h0a.at_,h0a.n,h0a.data,h0a.locks,h0a.most,h0a.cls,h0a.siz⟩;have kw:({ i0a with proof:=q.1,user:=⟨t.1.toArray⟩ }:l1a).ok:=⟨kd.dial,kd.glen,kd.gbyte,kd.plen,kd.pbyte,kd.acc,kd.shr,kd.way,kd.opt,kd.lev,kd.dur,kd.file,kd.at_,kd.n,kd.data,kd.locks,kd.most,kd.cls,kd.siz⟩;have HEQ:Hid (rs=l0a (.slice none 0 0) (.slice none 0 0) (.slice none 0 0) ({ i0a with proof:=q.1,user:=⟨t.1.toArray⟩ })):=by
   show _=_
   rw[HRS.o,HR4.o,HZS.o,HTX.o];have h:=y9a (vd:=.slice none 0 0) (vx:=.slice none 0 0) (vl:=.slice none 0 0) (a:=i0a) h0a q.1;have e1:spliced (l0a (.slice none 0 0) (.slice none 0 0) (.slice none 0 0) i0a) 17 q.1=l0a (.slice none 0 0) (.slice none 0 0) (.slice none 0 0) { i0a with proof:=q.1 }:=by rw[<-h];unfold spliced;rw[hqe]
   rw[e1];exact w2b (a:={ i0a with proof:=q.1 }) kd _
  have HRL:Hid (rs.length=69):=by show _=_;rw[HEQ.o];exact G1a kw
  have HR1:Hid (∀v∈rs,v.oneCell'=true):=by rw[HEQ.o];exact x1a rfl rfl rfl
  have hrg:Hid (wq.rangeAt g 3 rs):=Blk.range P99.o 3;go_wp2_with(first|(refine sN 51 ?_;refine q0a rfl _ (.tmp 50) rfl g 3 rfl rs _ hrg underlying34 rfl 69 p0a HRL ?_)|(refine sT 4 ?_;refine a0a rfl _ (.tmp 4) (.tmp 51) rfl h rfl _ zs rs rfl Z99 69 p0a HZ HRL HR1 ?_;intro w10 K10 O10 hg10)|fail)
  refine bodyPost_ret (v:=.tuple #[.agg rs.toArray,.int .i64 0]) ?_ rfl ?_
  ·exact j0a rfl _ _ h _ _ (0,0) _ rfl K10.o underlying34 rfl (by rw[p0a];have:=HRL.o;simp[this]) rfl
  ·exact HQ.o trivial (.slice none 0 0) _ w10 (congrArg (λr:List Value=>Ending.returned (.tuple #[.agg r.toArray,.int .i64 0])) HEQ.o) ⟨none,0,0,none,0,0,none,0,0,rfl,J1a.nil _ _ _,Holds.nil _ _,c1a.nil _ _ _ _⟩ (c0a B99.o O10.o hwh) (λ_ _ _ _ _ h=>by cases h)
 by_cases h3:c=3
 ·subst hcq;subst h3;have p0:rd0.p<=n:=Nat.zero_le _;have p2:(U0a xs rd0).2.p<=n:=E9a hby hl p0;have CX:=hI fun (w':World) (g:Nat) (rest:List Value) h1 h2=>S5b w' g 127 A n k xs rd0 rest h1 h2 p0
  have CE:=hI fun (w':World) (g:Nat) (rest:List Value) h1=>S6a w' g 127 A n k xs (U0a xs rd0).2 rest h1 hl hrm p2
  have hre:Q0a xs (U0a xs rd0).2=0->(U0a xs rd0).2.e=0:=P3a;have hge:A2a 3 xs=Q0a xs (U0a xs rd0).2:=by unfold A2a T6a;rw[if_pos hk,if_neg (by decide),if_neg (by decide),if_pos rfl]
  have HQE:=hI (HE.o _ hge);have HQ:Hid (Q0a xs (U0a xs rd0).2=0->∀vd e w',e=.returned (.tuple #[.agg (l0a vd (.slice none 0 0) (.slice none 0 0) ({ i0a with share:=⟨(U0a xs rd0).1.toArray⟩ })).toArray,.int .i64 0])->g1a w' w'.heap.size (l0a vd (.slice none 0 0) (.slice none 0 0) ({ i0a with share:=⟨(U0a xs rd0).1.toArray⟩ })) ({ i0a with share:=⟨(U0a xs rd0).1.toArray⟩ })->BW w w'->(∀b off s n c,vd=.slice (some ⟨b,off,s⟩) n c->w.heap.size<=b)->H1a w 3 xs e w'):=by
   intro he vd e w' h1 h2 h3 h9;have h4:N2a 3 xs={ i0a with share:=⟨(U0a xs rd0).1.toArray⟩ }:=by unfold N2a;rw[hge,he,if_pos rfl];unfold T6a;rw[if_neg (by decide),if_neg (by decide),if_pos rfl]
   unfold H1a;rw[h4,hge,he];exact⟨vd,h1,h2,h3,h9⟩
  obtain⟨t,ht⟩:=xX (U0a xs rd0);rw[<-ht] at CX p2 CE hre HQ HQE;clear ht;obtain⟨er,her⟩:=xX (Q0a xs t.2);rw[<-her] at CE HQ HQE hre;have HRE:=hI hre;clear her HE hx hk hge hre;go_wp2_with fail;refine(CX.o w3 g _ P3.o ((HX.o.below B3.o).mono B3.o.size)).mono ?_;rintro e w5 ⟨rfl,hP,hS⟩;have P5:=hI hP;have Z5:=hI (Z3.o.save hS hng);have B5:=hI (B3.o.trans (hS.below hwg B3.o.size));clear hP hS P3 Z3 B3;obtain⟨rs,hrs⟩:=xX (zs.set 50 (.string ⟨t.1.toArray⟩));have HRS:=hI hrs;have hst:∀u:Value,(Value.slice A n k::Value.int .i64 (t.2.p:Int)::Value.int .i64 t.2.e::zs).set 53 u=Value.slice A n k::Value.int .i64 (t.2.p:Int)::Value.int .i64 t.2.e::zs.set 50 u:=λ_=>rfl
  have HST:=hI (hst (.string ⟨t.1.toArray⟩));rw[<-hrs] at HST;clear hst hrs;obtain⟨tx,htx⟩:∃x:ByteArray,x=⟨t.1.toArray⟩:=⟨_,rfl⟩;have HTX:=hI htx;rw[<-htx] at HST HRS⊢;clear htx;obtain⟨cc,hcc⟩:=xX (Value.slice A n k::Value.int .i64 (t.2.p:Int)::Value.int .i64 t.2.e::zs);have hcl:53<cc.length:=by rw[hcc];simp only[List.length_cons,HZ.o];omega
  have HCL:=hI hcl;have PC:Hid (Blk w5 g 127 cc):=by rw[hcc];exact P5.o
  rw[<-hcc] at HST;clear hcc hcl P5;go_wp2_with(first|(refine sT 37 ?_;refine x0a rfl _ (.tmp 37) (.tmp 35) rfl g 53 rfl _ cc (.string tx) rfl PC HCL (by kernel_rfl) rfl ?_;intro w6 P06 O6 q6;rw[HST.o] at P06;have P6:Hid (PRd w6 g 127 A n k t.2 rs):=P06;have Z6:=hI (Z5.o.only O6.o hng);have B6:Hid (BW w w6):=c0a B5.o O6.o hwg)|fail)
  clear P06 O6 q6 PC Z5 B5;refine(CE.o w6 g _ P6.o).mono ?_;rintro e w99 ⟨rfl,kk,rfl⟩;have Z99:=hI (Blk.drewN Z6.o kk);have P99:=hI (Blk.drewN P6.o kk);have B99:Hid (BW w (w6.drewN kk)):=step B6.o (x3a _ kk);obtain⟨wq,hwq⟩:=xX (w6.drewN kk);rw[<-hwq] at Z99 P99 B99⊢;clear hwq P6 Z6 B6;by_cases he:er=0;rotate_left
  ·have hne:(er != 0)=true:=by simpa using he
   have HQ':=hI (HQE.o he);go_wp2_with(first|(refine sN 48 ?_;refine r0a rfl _ rfl zs BZ ?_)|(refine sT 4 ?_;refine a0a rfl _ (.tmp 4) (.tmp 48) rfl h rfl _ zs zs rfl Z99 69 p0a HZ HZ HZ1 ?_;intro w10 K10 O10 hg10)|fail)
   refine bodyPost_ret (v:=.tuple #[.agg zs.toArray,.int .i64 er]) ?_ rfl (HQ'.o _ _ rfl (c0a B99.o O10.o hwh));exact j0a rfl _ _ h _ _ (0,0) _ rfl K10.o underlying34 rfl (by rw[p0a];have:=HZ.o;simp[this]) rfl
  subst he;have hre0:=HRE.o rfl;have kw:({ i0a with share:=⟨t.1.toArray⟩ }:l1a).ok:=⟨h0a.dial,h0a.glen,h0a.gbyte,h0a.plen,h0a.pbyte,h0a.acc,h0a.shr,h0a.way,h0a.opt,h0a.lev,h0a.dur,h0a.file,h0a.at_,h0a.n,h0a.data,h0a.locks,h0a.most,h0a.cls,h0a.siz⟩;have HEQ:Hid (rs=l0a (.slice none 0 0) (.slice none 0 0) (.slice none 0 0) ({ i0a with share:=⟨t.1.toArray⟩ })):=by
   show _=_
   rw[HRS.o,HZS.o,HTX.o];exact E0b h0a _
  have HRL:Hid (rs.length=69):=by show _=_;rw[HEQ.o];exact G1a kw
  have HR1:Hid (∀v∈rs,v.oneCell'=true):=by rw[HEQ.o];exact x1a rfl rfl rfl
  have hrg:Hid (wq.rangeAt g 3 rs):=Blk.range P99.o 3;go_wp2_with(first|(refine sN 51 ?_;refine q0a rfl _ (.tmp 50) rfl g 3 rfl rs _ hrg underlying34 rfl 69 p0a HRL ?_)|(refine sT 4 ?_;refine a0a rfl _ (.tmp 4) (.tmp 51) rfl h rfl _ zs rs rfl Z99 69 p0a HZ HRL HR1 ?_;intro w10 K10 O10 hg10)|fail)
  refine bodyPost_ret (v:=.tuple #[.agg rs.toArray,.int .i64 0]) ?_ rfl ?_
  ·exact j0a rfl _ _ h _ _ (0,0) _ rfl K10.o underlying34 rfl (by rw[p0a];have:=HRL.o;simp[this]) rfl
  ·exact HQ.o trivial (.slice none 0 0) _ w10 (congrArg (λr:List Value=>Ending.returned (.tuple #[.agg r.toArray,.int .i64 0])) HEQ.o) ⟨none,0,0,none,0,0,none,0,0,rfl,J1a.nil _ _ _,Holds.nil _ _,c1a.nil _ _ _ _⟩ (c0a B99.o O10.o hwh) (λ_ _ _ _ _ h=>by cases h)
 have hcc:c=2∨c=4∨c=13:=by unfold S0a at hk;simp at hk;omega
 have hge:A2a c xs=Q0a xs (rdZ xs 4 rd0):=by unfold A2a T6a;rw[if_pos hk,if_neg (by omega),if_neg (by omega),if_neg (by omega)]
 have hgo:Q0a xs (rdZ xs 4 rd0)=0->N2a c xs=i0a:=λhe=>by unfold N2a;rw[hge,he,if_pos rfl];unfold T6a;rw[if_neg (by omega),if_neg (by omega),if_neg (by omega)]
 rw[<-hcq] at HE hk hge hgo;clear hcq hc h0 h1 h3;rcases hcc with rfl | rfl | rfl
 all_goals
  have p0:rd0.p<=n:=Nat.zero_le _;have p1:(rdZ xs 4 rd0).p<=n:=D9a hl p0;have C1:=hI fun (w':World) (g:Nat) (rest:List Value) h1 h2=>R6a w' g 127 A n k xs rd0 4 rest h1 h2 p0 (by decide)
  have CE:=hI fun (w':World) (g:Nat) (rest:List Value) h1=>S6a w' g 127 A n k xs (rdZ xs 4 rd0) rest h1 hl hrm p1
  have hre:Q0a xs (rdZ xs 4 rd0)=0->(rdZ xs 4 rd0).e=0:=P3a;have HQE:=hI (HE.o _ hge);have HQ:Hid (Q0a xs (rdZ xs 4 rd0)=0->∀vd e w',e=.returned (.tuple #[.agg (l0a vd (.slice none 0 0) (.slice none 0 0) (i0a)).toArray,.int .i64 0])->g1a w' w'.heap.size (l0a vd (.slice none 0 0) (.slice none 0 0) (i0a)) (i0a)->BW w w'->(∀b off s n c,vd=.slice (some ⟨b,off,s⟩) n c->w.heap.size<=b)->H1a w cq xs e w'):=by intro he vd e w' h1 h2 h3 h9;have h4:=hgo he;unfold H1a;rw[h4,hge,he];exact⟨vd,h1,h2,h3,h9⟩
  obtain⟨z,hz⟩:=xX (rdZ xs 4 rd0);rw[<-hz] at C1 p1 CE hre HQ HQE;clear hz;obtain⟨er,her⟩:=xX (Q0a xs z);rw[<-her] at CE HQ HQE hre;have HRE:=hI hre;clear her HE hx hk hge hre;go_wp2_with fail;refine(C1.o w3 g _ P3.o ((HX.o.below B3.o).mono B3.o.size)).mono ?_;rintro e w4 ⟨rfl,hP,hS⟩;have P4:=hI hP;have Z4:=hI (Z3.o.save hS hng);have B4:=hI (B3.o.trans (hS.below hwg B3.o.size));clear hP hS P3 Z3 B3;obtain⟨rs,hrs⟩:=xX zs;have HRS:=hI hrs;have P4':Hid (PRd w4 g 127 A n k z rs):=by rw[hrs];exact P4.o
  clear hrs P4;have P4:=P4';clear P4';go_wp2_with fail;refine(CE.o w4 g _ P4.o).mono ?_;rintro e w99 ⟨rfl,kk,rfl⟩;have Z99:=hI (Blk.drewN Z4.o kk);have P99:=hI (Blk.drewN P4.o kk);have B99:Hid (BW w (w4.drewN kk)):=step B4.o (x3a _ kk);obtain⟨wq,hwq⟩:=xX (w4.drewN kk);rw[<-hwq] at Z99 P99 B99⊢;clear hwq P4 Z4 B4;by_cases he:er=0;rotate_left
  ·have hne:(er != 0)=true:=by simpa using he
   have HQ':=hI (HQE.o he);go_wp2_with(first|(refine sN 48 ?_;refine r0a rfl _ rfl zs BZ ?_)|(refine sT 4 ?_;refine a0a rfl _ (.tmp 4) (.tmp 48) rfl h rfl _ zs zs rfl Z99 69 p0a HZ HZ HZ1 ?_;intro w10 K10 O10 hg10)|fail)
   refine bodyPost_ret (v:=.tuple #[.agg zs.toArray,.int .i64 er]) ?_ rfl (HQ'.o _ _ rfl (c0a B99.o O10.o hwh));exact j0a rfl _ _ h _ _ (0,0) _ rfl K10.o underlying34 rfl (by rw[p0a];have:=HZ.o;simp[this]) rfl
  subst he;have hre0:=HRE.o rfl;have HEQ:Hid (rs=l0a (.slice none 0 0) (.slice none 0 0) (.slice none 0 0) (i0a)):=by
   show _=_
   rw[HRS.o,HZS.o]
  have HRL:Hid (rs.length=69):=by show _=_;rw[HEQ.o];exact G1a h0a
  have HR1:Hid (∀v∈rs,v.oneCell'=true):=by rw[HEQ.o];exact x1a rfl rfl rfl
  have hrg:Hid (wq.rangeAt g 3 rs):=Blk.range P99.o 3;go_wp2_with(first|(refine sN 51 ?_;refine q0a rfl _ (.tmp 50) rfl g 3 rfl rs _ hrg underlying34 rfl 69 p0a HRL ?_)|(refine sT 4 ?_;refine a0a rfl _ (.tmp 4) (.tmp 51) rfl h rfl _ zs rs rfl Z99 69 p0a HZ HRL HR1 ?_;intro w10 K10 O10 hg10)|fail)
  refine bodyPost_ret (v:=.tuple #[.agg rs.toArray,.int .i64 0]) ?_ rfl ?_
  ·exact j0a rfl _ _ h _ _ (0,0) _ rfl K10.o underlying34 rfl (by rw[p0a];have:=HRL.o;simp[this]) rfl
  ·exact HQ.o trivial (.slice none 0 0) _ w10 (congrArg (λr:List Value=>Ending.returned (.tuple #[.agg r.toArray,.int .i64 0])) HEQ.o) ⟨none,0,0,none,0,0,none,0,0,rfl,J1a.nil _ _ _,Holds.nil _ _,c1a.nil _ _ _ _⟩ (c0a B99.o O10.o hwh) (λ_ _ _ _ _ h=>by cases h)
theorem h1c:(prog.info? 136).map (λi=>(i.zero,i.size))=some (some (.agg (.slice none 0 0::.int .i64 0::.int .i64 0::u0a (.slice none 0 0) (.slice none 0 0) n0a).toArray),23):=by kernel_rfl
theorem X5b:(prog.info? 136).map (·.size)=some 23:=by kernel_rfl
theorem s9b(w:World)(c:Int)(A:Option Addr)(n k:Nat)(xs:List Int)(hc:0<=c/\c<=65535)(hx:Holds w w.heap.size A n k xs) :
  Calls prog 63 #[.int .u16 c,.slice A n k] w (r4a w c xs):=by
 have hl:=hx.len;have hrm:=hx.room;have HX:=hI hx;have hby:=hx.byte;have ZH:=hI q9a;have ZB:=hI h1c;have BZ:=r9a;have HZ:Hid ((u0a (.slice none 0 0) (.slice none 0 0) n0a).length=20):=m2a I0a;have HZ1:Hid (∀v∈u0a (.slice none 0 0) (.slice none 0 0) n0a,v.oneCell'=true):=(v2a w 0).one;have B1:prog.built 125 [(0,.slice A n k)]=some (.slice A n k::.int .i64 0::.int .i64 0::([]:List Value)).toArray:=by kernel_rfl
 have B2:prog.built 136 [(0,.agg #[.slice A n k,.int .i64 0,.int .i64 0])]=some (.slice A n k::.int .i64 0::.int .i64 0::u0a (.slice none 0 0) (.slice none 0 0) n0a).toArray:=by kernel_rfl
 have HE:Hid (∀er,D3a c xs=er->er≠0->∀e w',e=.returned (.tuple #[.agg (u0a (.slice none 0 0) (.slice none 0 0) n0a).toArray,.int .i64 er])->BW w w'->r4a w c xs e w'):=by intro er h1 h2 e w' he hb;unfold r4a Y3a;rw[h1,if_neg h2];exact⟨he,hb⟩
 obtain⟨zs,hzs⟩:=xX (u0a (.slice none 0 0) (.slice none 0 0) n0a);have HZS:=hI hzs;rw[<-hzs] at ZH ZB BZ HZ HZ1 B2 HE;clear hzs;have HZB:Hid ((Value.slice none 0 0::Value.int .i64 0::Value.int .i64 0::zs).length=23):=by show _=_;simp only[List.length_cons,HZ.o]
 have HNB:Hid ((Value.slice A n k::Value.int .i64 0::Value.int .i64 0::zs).length=23):=by show _=_;simp only[List.length_cons,HZ.o]
 have HOB:Hid (∀v∈Value.slice A n k::Value.int .i64 0::Value.int .i64 0::zs,v.oneCell'=true):=by
  intro v hv;rcases List.mem_cons.1 hv with rfl | hv
  ·rfl
  rcases List.mem_cons.1 hv with rfl | hv
  ·rfl
  rcases List.mem_cons.1 hv with rfl | hv
  ·rfl
  exact HZ1.o v hv
 by_cases hk:S0a c=true;rotate_left
 ·have HQ:=hI (HE.o 2 (by unfold D3a;rw[if_neg hk]) (by decide));have hk':S0a c=false:=by simpa using hk
  have hc01:c≠0/\c≠1/\c≠2/\c≠3/\c≠4/\c≠13:=by unfold S0a at hk';simp at hk';omega
  obtain⟨h0,h1,h2,h3,h4,h13⟩:=hc01;have b0:(c==0)=false:=bF h0
  have b1:(c==1)=false:=bF h1
  have b2:(c==2)=false:=bF h2
  have b3:(c==3)=false:=bF h3
  have b4:(c==4)=false:=bF h4
  have b13:(c==13)=false:=bF h13
  clear hk hk' HE hx h0 h1 h2 h3 h4 h13;go_enter func63,ntmps63;go_wp2_with(first|(refine sN 4 ?_;refine b0a rfl _ rfl zs _ ZH ?_;intro h w1 hg1 hg2 Z1 L1)|(refine sN 9 ?_;refine v0a rfl _ _ rfl (.slice A n k::.int .i64 0::.int .i64 0::[]) (by refine Eq.trans ?_ B1;kernel_rfl) ?_)|(refine sN 10 ?_;refine v0a rfl _ _ rfl (.slice A n k::.int .i64 0::.int .i64 0::zs) (by refine Eq.trans ?_ B2;kernel_rfl) ?_)|(refine sN 6 ?_;refine b0a rfl _ rfl (.slice none 0 0::.int .i64 0::.int .i64 0::zs) _ ZB ?_;intro g w2 hg3 hg4 P02 L2)|(refine sT 6 ?_;refine a0a rfl _ (.tmp 6) (.tmp 10) rfl g rfl _ (.slice none 0 0::.int .i64 0::.int .i64 0::zs) (.slice A n k::.int .i64 0::.int .i64 0::zs) rfl P02 23 X5b HZB HNB HOB ?_;intro w3 P03 O3 hg5;have hsz:=L1.o.size;have hng:h≠g:=(by omega);have Z3:=hI ((Z1.o.over L2.o).only O3.o hng);have B3:Hid (BW w w3):=c0a (step L1.o L2.o) O3.o (by omega);have P3:Hid (PRd w3 g 136 A n k rd0 zs):=P03;have hwg:w.heap.size<=g:=(by omega);have hwh:w.heap.size<=h:=hg1)|(refine sN 12 ?_;refine r0a rfl _ rfl zs BZ ?_)|(refine sT 4 ?_;refine a0a rfl _ (.tmp 4) (.tmp 12) rfl h rfl _ zs zs rfl Z3 20 t0a HZ HZ HZ1 ?_;intro w10 K10 O10 hg10)|fail)
  refine bodyPost_ret (v:=.tuple #[.agg zs.toArray,.int .i64 2]) ?_ rfl (HQ.o _ _ rfl (c0a B3.o O10.o hwh));exact j0a rfl _ _ h _ _ (0,0) _ rfl K10.o underlying39 rfl (by rw[t0a];have:=HZ.o;simp[this]) rfl
 obtain⟨cq,hcq⟩:=xX c;rw[show r4a w c xs=r4a w cq xs by rw[hcq]];go_enter func63,ntmps63;go_upto_if 13 with(first|(refine sN 4 ?_;refine b0a rfl _ rfl zs _ ZH ?_;intro h w1 hg1 hg2 Z1 L1)|(refine sN 9 ?_;refine v0a rfl _ _ rfl (.slice A n k::.int .i64 0::.int .i64 0::[]) (by refine Eq.trans ?_ B1;kernel_rfl) ?_)|(refine sN 10 ?_;refine v0a rfl _ _ rfl (.slice A n k::.int .i64 0::.int .i64 0::zs) (by refine Eq.trans ?_ B2;kernel_rfl) ?_)|(refine sN 6 ?_;refine b0a rfl _ rfl (.slice none 0 0::.int .i64 0::.int .i64 0::zs) _ ZB ?_;intro g w2 hg3 hg4 P02 L2)|(refine sT 6 ?_;refine a0a rfl _ (.tmp 6) (.tmp 10) rfl g rfl _ (.slice none 0 0::.int .i64 0::.int .i64 0::zs) (.slice A n k::.int .i64 0::.int .i64 0::zs) rfl P02 23 X5b HZB HNB HOB ?_;intro w3 P03 O3 hg5;have hsz:=L1.o.size;have hng:h≠g:=(by omega);have Z3:=hI ((Z1.o.over L2.o).only O3.o hng);have B3:Hid (BW w w3):=c0a (step L1.o L2.o) O3.o (by omega);have P3:Hid (PRd w3 g 136 A n k rd0 zs):=P03;have hwg:w.heap.size<=g:=(by omega);have hwh:w.heap.size<=h:=hg1)|fail)
 by_cases h0:c=0
 ·subst hcq;subst h0;have p0:rd0.p<=n:=Nat.zero_le _;have p1:(rdN xs 2 rd0).2.p<=n:=V7a hl p0;have p2:(rdZ xs 2 (rdN xs 2 rd0).2).p<=n:=D9a hl p1;have p3:(rdN xs 4 (rdZ xs 2 (rdN xs 2 rd0).2)).2.p<=n:=V7a hl p2;have p4:(y0a xs 8 (rdN xs 4 (rdZ xs 2 (rdN xs 2 rd0).2)).2).2.p<=n:=Y5a hl p3;have C1:=hI fun (w':World) (g:Nat) (rest:List Value) h1 h2=>Q6a w' g 136 A n k xs rd0 2 rest h1 h2 p0 (by decide)
  have C2:=hI fun (w':World) (g:Nat) (rest:List Value) h1 h2=>R6a w' g 136 A n k xs (rdN xs 2 rd0).2 2 rest h1 h2 p1 (by decide)
  have C3:=hI fun (w':World) (g:Nat) (rest:List Value) h1 h2=>Q6a w' g 136 A n k xs (rdZ xs 2 (rdN xs 2 rd0).2) 4 rest h1 h2 p2 (by decide)
  have CF:=hI fun (w':World) (g:Nat) (rest:List Value) h1 h2 h3=>R4b w' g 136 A n k xs (rdN xs 4 (rdZ xs 2 (rdN xs 2 rd0).2)).2 2 8 8 rest h1 h2 p3 (by decide) (by decide) h3
  have hok:=B9a (m:=8) (r:=(rdN xs 4 (rdZ xs 2 (rdN xs 2 rd0).2)).2) hl;have hbyq:=I2a hby 8 (rdN xs 4 (rdZ xs 2 (rdN xs 2 rd0).2)).2;have hd1:=p5a hby rd0;have hs1:=C2b hby (rdZ xs 2 (rdN xs 2 rd0).2);have CE:=hI fun (w':World) (g:Nat) (rest:List Value) h1=>S6a w' g 136 A n k xs (y0a xs 8 (rdN xs 4 (rdZ xs 2 (rdN xs 2 rd0).2)).2).2 rest h1 hl hrm p4
  have hre:Q0a xs (y0a xs 8 (rdN xs 4 (rdZ xs 2 (rdN xs 2 rd0).2)).2).2=0->(y0a xs 8 (rdN xs 4 (rdZ xs 2 (rdN xs 2 rd0).2)).2).2.e=0:=P3a;have hge:D3a 0 xs=Q0a xs (y0a xs 8 (rdN xs 4 (rdZ xs 2 (rdN xs 2 rd0).2)).2).2:=by unfold D3a C9a;rw[if_pos hk,if_pos rfl]
  have HQE:=hI (HE.o _ hge);have HQ:Hid (Q0a xs (y0a xs 8 (rdN xs 4 (rdZ xs 2 (rdN xs 2 rd0).2)).2).2=0->∀e w',e=.returned (.tuple #[.agg (u0a (.slice none 0 0) (.slice none 0 0) ({ n0a with dia:=(rdN xs 2 rd0).1,siz:=(rdN xs 4 (rdZ xs 2 (rdN xs 2 rd0).2)).1,chal:=(y0a xs 8 (rdN xs 4 (rdZ xs 2 (rdN xs 2 rd0).2)).2).1 })).toArray,.int .i64 0])->BW w w'->r4a w 0 xs e w'):=by
   intro he e w' h1 h3;have h4:Y3a 0 xs={ n0a with dia:=(rdN xs 2 rd0).1,siz:=(rdN xs 4 (rdZ xs 2 (rdN xs 2 rd0).2)).1,chal:=(y0a xs 8 (rdN xs 4 (rdZ xs 2 (rdN xs 2 rd0).2)).2).1 }:=by unfold Y3a;rw[hge,he,if_pos rfl];unfold C9a;rw[if_pos rfl]
   unfold r4a;rw[h4,hge,he];exact⟨h1,h3⟩
  obtain⟨n1,hn1⟩:=xX (rdN xs 2 rd0);rw[<-hn1] at C1 C2 C3 CF p1 p2 p3 p4 hok hbyq hd1 hs1 CE hre HQ HQE;clear hn1;obtain⟨z,hz⟩:=xX (rdZ xs 2 n1.2);rw[<-hz] at C2 C3 CF p2 p3 p4 hok hbyq hs1 CE hre HQ HQE;clear hz;obtain⟨n2,hn2⟩:=xX (rdN xs 4 z);rw[<-hn2] at C3 CF p3 p4 hok hbyq hs1 CE hre HQ HQE;clear hn2;obtain⟨q,hq⟩:=xX (y0a xs 8 n2.2);rw[<-hq] at CF p4 hok hbyq CE hre HQ HQE;clear hq;obtain⟨er,her⟩:=xX (Q0a xs q.2);rw[<-her] at CE HQ HQE hre;have HRE:=hI hre;clear her HE hx hk hge hre;go_wp2_with fail;refine(C1.o w3 g _ P3.o ((HX.o.below B3.o).mono B3.o.size)).mono ?_;rintro e w4 ⟨rfl,hP,hS⟩;have P4:=hI hP;have Z4:=hI (Z3.o.save hS hng);have B4:=hI (B3.o.trans (hS.below hwg B3.o.size));clear hP hS P3 Z3 B3;obtain⟨r4,hrs⟩:=xX (zs.set 0 (.int .u16 n1.1));have HR4:=hI hrs;have hst:∀u:Value,(Value.slice A n k::Value.int .i64 (n1.2.p:Int)::Value.int .i64 n1.2.e::zs).set 3 u=Value.slice A n k::Value.int .i64 (n1.2.p:Int)::Value.int .i64 n1.2.e::zs.set 0 u:=λ_=>rfl
  have HST:=hI (hst (.int .u16 n1.1));rw[<-hrs] at HST;have r4l:r4.length=20:=by rw[hrs,List.length_set];exact HZ.o
  clear hst hrs;obtain⟨cc,hcc⟩:=xX (Value.slice A n k::Value.int .i64 (n1.2.p:Int)::Value.int .i64 n1.2.e::zs);have hcl:3<cc.length:=by rw[hcc];have h:=HZ.o;simp only[List.length_cons];omega
  have HCL:=hI hcl;have PC:Hid (Blk w4 g 136 cc):=by rw[hcc];exact P4.o
  rw[<-hcc] at HST;clear hcc hcl P4;go_wp2_with(first|(refine sT 19 ?_;refine x0a rfl _ (.tmp 19) (.tmp 17) rfl g 3 rfl _ cc (.int .u16 n1.1) rfl PC HCL (by kernel_rfl) rfl ?_;intro w5 P05 O5 q5;rw[HST.o] at P05;have P5:Hid (PRd w5 g 136 A n k n1.2 r4):=P05;have Z5:=hI (Z4.o.only O5.o hng);have B5:Hid (BW w w5):=c0a B4.o O5.o hwg)|fail)
  clear P05 O5 q5 PC Z4 B4 HST HCL cc;refine(C2.o w5 g _ P5.o ((HX.o.below B5.o).mono B5.o.size)).mono ?_;rintro e w6 ⟨rfl,hP,hS⟩;have P6:=hI hP;have Z6:=hI (Z5.o.save hS hng);have B6:=hI (B5.o.trans (hS.below hwg B5.o.size));clear hP hS P5 Z5 B5;go_wp2_with fail;refine(C3.o w6 g _ P6.o ((HX.o.below B6.o).mono B6.o.size)).mono ?_;rintro e w7 ⟨rfl,hP,hS⟩;have P7:=hI hP;have Z7:=hI (Z6.o.save hS hng);have B7:=hI (B6.o.trans (hS.below hwg B6.o.size));clear hP hS P6 Z6 B6;obtain⟨r5,hrs⟩:=xX (r4.set 1 (.int .u64 n2.1));have HR5:=hI hrs;have hst:∀u:Value,(Value.slice A n k::Value.int .i64 (n2.2.p:Int)::Value.int .i64 n2.2.e::r4).set 4 u=Value.slice A n k::Value.int .i64 (n2.2.p:Int)::Value.int .i64 n2.2.e::r4.set 1 u:=λ_=>rfl
  have HST:=hI (hst (.int .u64 n2.1));rw[<-hrs] at HST;have r5l:r5.length=20:=by rw[hrs,List.length_set];exact r4l
  clear hst hrs;obtain⟨cc,hcc⟩:=xX (Value.slice A n k::Value.int .i64 (n2.2.p:Int)::Value.int .i64 n2.2.e::r4);have hcl:4<cc.length:=by rw[hcc];have h:=r4l;simp only[List.length_cons];omega
  have HCL:=hI hcl;have PC:Hid (Blk w7 g 136 cc):=by rw[hcc];exact P7.o
  rw[<-hcc] at HST;clear hcc hcl P7;go_wp2_with(first|(refine sT 25 ?_;refine x0a rfl _ (.tmp 25) (.tmp 23) rfl g 4 rfl _ cc (.int .u64 n2.1) rfl PC HCL (by kernel_rfl) rfl ?_;intro w8 P08 O8 q8;rw[HST.o] at P08;have P8:Hid (PRd w8 g 136 A n k n2.2 r5):=P08;have Z8:=hI (Z7.o.only O8.o hng);have B8:Hid (BW w w8):=c0a B7.o O8.o hwg)|fail)
  clear P08 O8 q8 PC Z7 B7 HST HCL cc;have HV:Hid (2+8<=r5.length):=by show _<=_;rw[r5l];omega
  refine(CF.o w8 g _ P8.o ((HX.o.below B8.o).mono B8.o.size) HV.o).mono ?_;rintro e w9 ⟨rfl,hP,hS⟩;have P9':=hI hP;have Z9:=hI (Z8.o.save hS hng);have B9:=hI (B8.o.trans (hS.below hwg B8.o.size));clear hP hS P8 Z8 B8;obtain⟨rs,hrs⟩:=xX (spliced r5 2 q.1);have HRS:=hI hrs;rw[<-hrs] at P9';have P9:=P9';clear hrs P9';go_wp2_with fail;refine(CE.o w9 g _ P9.o).mono ?_;rintro e w99 ⟨rfl,kk,rfl⟩;have Z99:=hI (Blk.drewN Z9.o kk);have P99:=hI (Blk.drewN P9.o kk);have B99:Hid (BW w (w9.drewN kk)):=step B9.o (x3a _ kk);obtain⟨wq,hwq⟩:=xX (w9.drewN kk);rw[<-hwq] at Z99 P99 B99⊢;clear hwq P9 Z9 B9;by_cases he:er=0;rotate_left
  ·have hne:(er != 0)=true:=by simpa using he
   have HQ':=hI (HQE.o he);go_wp2_with(first|(refine sN 43 ?_;refine r0a rfl _ rfl zs BZ ?_)|(refine sT 4 ?_;refine a0a rfl _ (.tmp 4) (.tmp 43) rfl h rfl _ zs zs rfl Z99 20 t0a HZ HZ HZ1 ?_;intro w10 K10 O10 hg10)|fail)
   refine bodyPost_ret (v:=.tuple #[.agg zs.toArray,.int .i64 er]) ?_ rfl (HQ'.o _ _ rfl (c0a B99.o O10.o hwh));exact j0a rfl _ _ h _ _ (0,0) _ rfl K10.o underlying39 rfl (by rw[t0a];have:=HZ.o;simp[this]) rfl
  subst he;have hre0:=HRE.o rfl;have hql:=hok hre0;have kd:({ n0a with dia:=n1.1,siz:=n2.1 }:O1a).ok:=⟨hd1,hs1,I0a.clen,I0a.cbyte,I0a.lev,I0a.dur,I0a.made,I0a.file,I0a.kind,I0a.data,I0a.n,I0a.ents⟩;have kw:({ n0a with dia:=n1.1,siz:=n2.1,chal:=q.1 }:O1a).ok:=⟨hd1,hs1,hql,hbyq,I0a.lev,I0a.dur,I0a.made,I0a.file,I0a.kind,I0a.data,I0a.n,I0a.ents⟩;have HEQ:Hid (rs=u0a (.slice none 0 0) (.slice none 0 0) ({ n0a with dia:=n1.1,siz:=n2.1,chal:=q.1 })):=by
   show _=_
   rw[HRS.o];have e1:r5=u0a (.slice none 0 0) (.slice none 0 0) { n0a with dia:=n1.1,siz:=n2.1 }:=by rw[HR5.o,HR4.o,HZS.o];rfl
   rw[e1];have h:=F0b (vx:=.slice none 0 0) (ve:=.slice none 0 0) (s:={ n0a with dia:=n1.1,siz:=n2.1 }) kd q.1;rw[<-h];unfold spliced;rw[hql]
  have HRL:Hid (rs.length=20):=by show _=_;rw[HEQ.o];exact m2a kw
  have HR1:Hid (∀v∈rs,v.oneCell'=true):=by rw[HEQ.o];exact N1a rfl rfl
  have hrg:Hid (wq.rangeAt g 3 rs):=Blk.range P99.o 3;go_wp2_with(first|(refine sN 46 ?_;refine q0a rfl _ (.tmp 45) rfl g 3 rfl rs _ hrg underlying39 rfl 20 t0a HRL ?_)|(refine sT 4 ?_;refine a0a rfl _ (.tmp 4) (.tmp 46) rfl h rfl _ zs rs rfl Z99 20 t0a HZ HRL HR1 ?_;intro w10 K10 O10 hg10)|fail)
  refine bodyPost_ret (v:=.tuple #[.agg rs.toArray,.int .i64 0]) ?_ rfl ?_
  ·exact j0a rfl _ _ h _ _ (0,0) _ rfl K10.o underlying39 rfl (by rw[t0a];have:=HRL.o;simp[this]) rfl
  ·exact HQ.o trivial _ w10 (congrArg (λr:List Value=>Ending.returned (.tuple #[.agg r.toArray,.int .i64 0])) HEQ.o) (c0a B99.o O10.o hwh)
 have hcc:c=1∨c=3∨c=2∨c=4∨c=13:=by unfold S0a at hk;simp at hk;omega
 have hge:D3a c xs=Q0a xs (rdZ xs 4 rd0):=by unfold D3a C9a;rw[if_pos hk,if_neg (by omega)]
 have hgo:Q0a xs (rdZ xs 4 rd0)=0->Y3a c xs=n0a:=λhe=>by unfold Y3a;rw[hge,he,if_pos rfl];unfold C9a;rw[if_neg (by omega)]
 rw[<-hcq] at HE hk hge hgo;clear hcq hc h0;rcases hcc with rfl | rfl | rfl | rfl | rfl
 all_goals
  have p0:rd0.p<=n:=Nat.zero_le _;have p1:(rdZ xs 4 rd0).p<=n:=D9a hl p0;have C1:=hI fun (w':World) (g:Nat) (rest:List Value) h1 h2=>R6a w' g 136 A n k xs rd0 4 rest h1 h2 p0 (by decide)
  have CE:=hI fun (w':World) (g:Nat) (rest:List Value) h1=>S6a w' g 136 A n k xs (rdZ xs 4 rd0) rest h1 hl hrm p1
  have hre:Q0a xs (rdZ xs 4 rd0)=0->(rdZ xs 4 rd0).e=0:=P3a;have HQE:=hI (HE.o _ hge);have HQ:Hid (Q0a xs (rdZ xs 4 rd0)=0->∀e w',e=.returned (.tuple #[.agg (u0a (.slice none 0 0) (.slice none 0 0) (n0a)).toArray,.int .i64 0])->BW w w'->r4a w cq xs e w'):=by intro he e w' h1 h3;have h4:=hgo he;unfold r4a;rw[h4,hge,he];exact⟨h1,h3⟩
  obtain⟨z,hz⟩:=xX (rdZ xs 4 rd0);rw[<-hz] at C1 p1 CE hre HQ HQE;clear hz;obtain⟨er,her⟩:=xX (Q0a xs z);rw[<-her] at CE HQ HQE hre;have HRE:=hI hre;clear her HE hx hk hge hre;go_wp2_with fail;refine(C1.o w3 g _ P3.o ((HX.o.below B3.o).mono B3.o.size)).mono ?_;rintro e w4 ⟨rfl,hP,hS⟩;have P4:=hI hP;have Z4:=hI (Z3.o.save hS hng);have B4:=hI (B3.o.trans (hS.below hwg B3.o.size));clear hP hS P3 Z3 B3;obtain⟨rs,hrs⟩:=xX zs;have HRS:=hI hrs;have P4':Hid (PRd w4 g 136 A n k z rs):=by rw[hrs];exact P4.o
  clear hrs P4;have P4:=P4';clear P4';go_wp2_with fail;refine(CE.o w4 g _ P4.o).mono ?_;rintro e w99 ⟨rfl,kk,rfl⟩;have Z99:=hI (Blk.drewN Z4.o kk);have P99:=hI (Blk.drewN P4.o kk);have B99:Hid (BW w (w4.drewN kk)):=step B4.o (x3a _ kk);obtain⟨wq,hwq⟩:=xX (w4.drewN kk);rw[<-hwq] at Z99 P99 B99⊢;clear hwq P4 Z4 B4;by_cases he:er=0;rotate_left
  ·have hne:(er != 0)=true:=by simpa using he
   have HQ':=hI (HQE.o he);go_wp2_with(first|(refine sN 43 ?_;refine r0a rfl _ rfl zs BZ ?_)|(refine sT 4 ?_;refine a0a rfl _ (.tmp 4) (.tmp 43) rfl h rfl _ zs zs rfl Z99 20 t0a HZ HZ HZ1 ?_;intro w10 K10 O10 hg10)|fail)
   refine bodyPost_ret (v:=.tuple #[.agg zs.toArray,.int .i64 er]) ?_ rfl (HQ'.o _ _ rfl (c0a B99.o O10.o hwh));exact j0a rfl _ _ h _ _ (0,0) _ rfl K10.o underlying39 rfl (by rw[t0a];have:=HZ.o;simp[this]) rfl
  subst he;have hre0:=HRE.o rfl;have HEQ:Hid (rs=u0a (.slice none 0 0) (.slice none 0 0) (n0a)):=by
   show _=_
   rw[HRS.o,HZS.o]
  have HRL:Hid (rs.length=20):=by show _=_;rw[HEQ.o];exact m2a I0a
  have HR1:Hid (∀v∈rs,v.oneCell'=true):=by rw[HEQ.o];exact N1a rfl rfl
  have hrg:Hid (wq.rangeAt g 3 rs):=Blk.range P99.o 3;go_wp2_with(first|(refine sN 46 ?_;refine q0a rfl _ (.tmp 45) rfl g 3 rfl rs _ hrg underlying39 rfl 20 t0a HRL ?_)|(refine sT 4 ?_;refine a0a rfl _ (.tmp 4) (.tmp 46) rfl h rfl _ zs rs rfl Z99 20 t0a HZ HRL HR1 ?_;intro w10 K10 O10 hg10)|fail)
  refine bodyPost_ret (v:=.tuple #[.agg rs.toArray,.int .i64 0]) ?_ rfl ?_
  ·exact j0a rfl _ _ h _ _ (0,0) _ rfl K10.o underlying39 rfl (by rw[t0a];have:=HRL.o;simp[this]) rfl
  ·exact HQ.o trivial _ w10 (congrArg (λr:List Value=>Ending.returned (.tuple #[.agg r.toArray,.int .i64 0])) HEQ.o) (c0a B99.o O10.o hwh)
theorem v7b{l:List UInt8}(h:S3a l=true):e4a (U1a l)=l/\Z4a (U1a l)=0:=by
 have e:S8b (U1a l)=some (I1a l):=by unfold U1a;rw[if_pos h];exact Y2c (C8a h)
 unfold e4a Z4a;rw[e];exact⟨N6b l,rfl⟩
theorem t9b{xs:List Int}(hx:Bytes xs)(h:Z4a xs=0):U1a (e4a xs)=xs/\A3a (e4a xs)=0:=by
 unfold Z4a at h;cases hg:S8b xs with
 | none=>rw[hg] at h;exact absurd h (by decide)
 | some rs=>
  obtain⟨h1,h2⟩:=A5b hx hg;have ht:=u0c rs h1;have e:e4a xs=rs.flatMap enc:=by unfold e4a;rw[hg]
  rw[e];refine⟨?_,if_pos ht⟩;unfold U1a;rw[if_pos ht,w3b rs h1,h2]
theorem j8b(pre post:List Int)(v:Int)(s:Nat)(h0:0<=v)(h1:v<256^s):Y0a (pre++(le v s++post)) pre.length s=v:=by unfold Y0a;rw[List.drop_left,List.take_left' (g0a v s)];exact d0c v s h0 h1
theorem Y5b(pre post:List Int)(v:Int)(s:Nat)(h0:0<=v)(h1:v<256^s):rdN (pre++(le v s++post)) s ⟨pre.length,0⟩=(v,⟨pre.length+s,0⟩):=by unfold rdN;rw[if_pos rfl,if_neg (by simp only[List.length_append,g0a];omega),j8b pre post v s h0 h1]
theorem R4a(pre ys post:List Int)(m:Nat)(hm:ys.length=m):y0a (pre++(ys++post)) m ⟨pre.length,0⟩=(ys,⟨pre.length+m,0⟩):=by unfold y0a;rw[if_pos rfl,if_neg (by simp only[List.length_append];omega),List.drop_left,List.take_left' hm]
theorem i1c(pre post ds:List Int)(hd:∀x∈ds,0<=x/\x<=65535):∀k,k<=ds.length->Q2a (pre++(p1a ds++post)) ⟨pre.length,0⟩ k=(ds.take k,⟨pre.length+2*k,0⟩):=by
 intro k
 induction k with
 | zero=>intro _;rfl
 | succ k ih=>
  intro hk;have ih':=ih (by omega);simp only[Q2a,ih'];have hx:=hd ds[k] (List.getElem_mem (by omega));have e:pre++(p1a ds++post)=(pre++p1a (ds.take k))++(le ds[k] 2++(p1a (ds.drop (k+1))++post)):=by
   have e1:ds=ds.take k++ds[k]::ds.drop (k+1):=by rw[<-List.drop_eq_getElem_cons (by omega),List.take_append_drop]
   have e2:p1a ds=p1a (ds.take k)++(le ds[k] 2++p1a (ds.drop (k+1))):=by
    have h1:p1a (ds.take k++ds[k]::ds.drop (k+1))=p1a (ds.take k)++(le ds[k] 2++p1a (ds.drop (k+1))):=by unfold p1a;rw[List.flatMap_append,List.flatMap_cons]
    exact(congrArg p1a e1).trans h1
   rw[e2];simp only[List.append_assoc]
  have hl:(pre++p1a (ds.take k)).length=pre.length+2*k:=by rw[List.length_append,D4a,List.length_take];omega
  have h:=Y5b (pre++p1a (ds.take k)) (p1a (ds.drop (k+1))++post) ds[k] 2 hx.1 (by show ds[k]<256^2;rw[show(256:Int)^2=65536 from by decide];omega);rw[<-e,hl] at h;rw[h,List.take_add_one,List.getElem?_eq_getElem (by omega),Option.toList_some];rfl
theorem E2b{l:List UInt8}(h:z0a l=0):S3a l=true/\(U1a l).length<=512/\C0a l=le (U1a l).length 2++U1a l:=by
 have h0:=h;unfold z0a at h;by_cases ht:A3a l=0
 ·rw[if_pos ht] at h;by_cases hm:(U1a l).length<=512
  ·refine⟨?_,hm,?_⟩
   ·unfold A3a at ht;by_cases hi:S3a l=true
    ·exact hi
    ·rw[if_neg hi] at ht;exact absurd ht (by decide)
   ·unfold C0a rowOf;rw[if_pos h0,if_pos (by omega)]
  ·rw[if_neg hm] at h;exact absurd h (by decide)
 ·rw[if_neg ht] at h;exact absurd h ht
theorem B4c(pre ys post:List Int)(hy:ys.length<=512):X1a (pre++(le ys.length 2++(ys++post))) pre.length 512=0/\d2a (pre++(le ys.length 2++(ys++post))) pre.length 512=ys/\L3a (pre++(le ys.length 2++(ys++post))) pre.length 512=pre.length+2+ys.length:=by
 have hr:W0b (pre++(le ys.length 2++(ys++post))) (pre.length:Int)=ys.length:=by unfold W0b;rw[Int.toNat_natCast];exact j8b pre (ys++post) ys.length 2 (by omega) (by rw[show(256:Int)^2=65536 from by decide];omega)
 have h0:X1a (pre++(le ys.length 2++(ys++post))) pre.length 512=0:=by unfold X1a;rw[hr,if_neg (by simp only[List.length_append,g0a];omega),if_neg (by simp only[List.length_append,g0a];omega),if_neg (by omega),if_neg (by simp only[List.length_append,g0a];omega)]
 refine⟨h0,?_,?_⟩
 ·unfold d2a;rw[h0,if_pos rfl,hr,Int.toNat_natCast,Int.toNat_natCast,<-List.drop_drop,List.drop_left,List.drop_left' (g0a _ _),List.take_left' rfl]
 ·unfold L3a;rw[h0,if_pos rfl,hr]
theorem o0b(pre post:List Int){l:List UInt8}(h:z0a l=0):U0a (pre++(C0a l++post)) ⟨pre.length,0⟩=(l,⟨pre.length+(C0a l).length,0⟩):=by
 obtain⟨h1,h2,h3⟩:=E2b h;obtain⟨g1,g2,g3⟩:=B4c pre (U1a l) post h2;obtain⟨t1,t2⟩:=v7b h1;rw[h3,List.append_assoc];have e1:V0a (pre++(le (U1a l).length 2++(U1a l++post))) pre.length=0:=by unfold V0a;rw[if_pos g1,g2,t2]
 unfold U0a Y1a Z0a;rw[if_pos rfl];show(if V0a (pre++(le (U1a l).length 2++(U1a l++post))) (pre.length:Nat)=0 then _ else _,_)=_
 rw[e1,if_pos rfl,if_pos rfl,g2,t1,g3,List.length_append,g0a];have e2:((pre.length:Int)+2+((U1a l).length:Nat)).toNat=pre.length+(2+(U1a l).length):=by omega
 rw[e2]
theorem j1c(c:Int)(a:l1a)(ka:a.ok)(he:h1a c a=0)(post:List Int):(T6a c (S2a c a++post)).2=⟨(S2a c a).length,0⟩/\(T6a c (S2a c a++post)).1=a/\S0a c=true:=by
 have h0:=he;unfold h1a at he;by_cases hk:S0a c=true/\i1a c a=i0a;rotate_left
 ·rw[if_neg hk] at he;exact absurd he (by decide)
 rw[if_pos hk] at he;obtain⟨hk,hb⟩:=hk;unfold S2a T6a;rw[if_pos h0];by_cases c0:c=0
 ·rw[if_pos c0] at he;simp only[if_pos c0];have hd:a.dial.length<=16:=by
   by_cases hd:a.dial.length<=16
   ·exact hd
   ·rw[if_neg hd] at he;exact absurd he (by decide)
  have e1:B3a a++post=[]++(le a.dial.length 2++(p1a a.dial++(a.guid++post))):=by unfold B3a;simp only[List.append_assoc,List.nil_append]
  have r1:rdN (B3a a++post) 2 rd0=((a.dial.length:Int),⟨2,0⟩):=by rw[e1];exact Y5b [] _ _ 2 (by omega) (by rw[show(256:Int)^2=65536 from by decide];omega)
  have e2:B3a a++post=le a.dial.length 2++(p1a a.dial++(a.guid++post)):=by rw[e1,List.nil_append]
  have r2:D1a (B3a a++post) rd0=(a.dial,⟨2+2*a.dial.length,0⟩):=by
   unfold D1a;rw[r1,if_neg (by omega)];show Q2a _ ⟨2,0⟩ (a.dial.length:Int).toNat=_
   rw[Int.toNat_natCast,e2];have h:=i1c (le a.dial.length 2) (a.guid++post) a.dial ka.dial a.dial.length (Nat.le_refl _);rw[g0a] at h;rw[h,List.take_of_length_le (Nat.le_refl _)]
  have e3:B3a a++post=(le a.dial.length 2++p1a a.dial)++(a.guid++post):=by rw[e2,List.append_assoc]
  have r3:y0a (B3a a++post) 16 ⟨2+2*a.dial.length,0⟩=(a.guid,⟨2+2*a.dial.length+16,0⟩):=by have h:=R4a (le a.dial.length 2++p1a a.dial) a.guid post 16 ka.glen;rw[List.length_append,g0a,D4a,<-e3] at h;exact h
  have el:(B3a a).length=2+2*a.dial.length+16:=by unfold B3a;rw[List.length_append,List.length_append,g0a,D4a,ka.glen]
  rw[r2];simp only[];rw[r3,el];refine⟨rfl,?_,hk⟩;unfold i1a at hb;rw[if_pos c0] at hb;cases a;simp only[i0a,l1a.mk.injEq,true_and] at hb⊢;obtain⟨q3,q4,q5,q6,q7,q8,q9,q10,q11,q12,q13,q14,q15,q16,q17,q18,q19,q20,q21,q22,q23⟩:=hb
  subst_vars
  simp
 ·rw[if_neg c0] at he;simp only[if_neg c0];by_cases c1:c=1
  ·rw[if_pos c1] at he;simp only[if_pos c1];have e1:a.proof++C0a a.user.data.toList++post=[]++(a.proof++(C0a a.user.data.toList++post)):=by simp only[List.append_assoc,List.nil_append]
   have r1:y0a (a.proof++C0a a.user.data.toList++post) 32 rd0=(a.proof,⟨32,0⟩):=by rw[e1];have h:=R4a [] a.proof (C0a a.user.data.toList++post) 32 ka.plen;rw[List.length_nil,Nat.zero_add] at h;exact h
   have r2:U0a (a.proof++C0a a.user.data.toList++post) ⟨32,0⟩=(a.user.data.toList,⟨32+(C0a a.user.data.toList).length,0⟩):=by have h:=o0b a.proof post he;rw[ka.plen,<-List.append_assoc] at h;exact h
   rw[r1];simp only[];rw[r2,List.length_append,ka.plen];refine⟨rfl,?_,hk⟩;unfold i1a at hb;rw[if_neg c0,if_pos c1] at hb;cases a;simp only[i0a,l1a.mk.injEq,true_and] at hb⊢;obtain⟨q3,q4,q5,q6,q7,q8,q9,q10,q11,q12,q13,q14,q15,q16,q17,q18,q19,q20,q21,q22,q23⟩:=hb
   subst_vars
   simp
  ·rw[if_neg c1] at he;simp only[if_neg c1];by_cases c3:c=3
   ·rw[if_pos c3] at he;simp only[if_pos c3];have r2:U0a (C0a a.share.data.toList++post) rd0=(a.share.data.toList,⟨(C0a a.share.data.toList).length,0⟩):=by have h:=o0b [] post he;rw[List.length_nil,Nat.zero_add,List.nil_append] at h;exact h
    rw[r2];refine⟨rfl,?_,hk⟩;unfold i1a at hb;rw[if_neg c0,if_neg c1,if_pos c3] at hb;cases a;simp only[i0a,l1a.mk.injEq,true_and] at hb⊢;obtain⟨q2,q3,q4,q5,q6,q7,q8,q9,q10,q11,q12,q13,q14,q15,q16,q17,q18,q19,q20,q21,q22,q23⟩:=hb
    subst_vars
    simp
   ·simp only[if_neg c3];unfold i1a at hb;rw[if_neg c0,if_neg c1,if_neg c3] at hb;refine⟨?_,hb.symm,hk⟩;have r1:y0a (List.replicate 4 0++post) 4 rd0=(List.replicate 4 0,⟨4,0⟩):=by have h:=R4a [] (List.replicate 4 0) post 4 (by simp);rw[List.length_nil,Nat.zero_add,List.nil_append] at h;exact h
    unfold rdZ;rw[r1];simp only[];rw[if_pos trivial,if_pos (by decide),List.length_replicate]
theorem k1c(c:Int)(a:l1a)(ka:a.ok)(he:h1a c a=0):A2a c (S2a c a)=0/\N2a c (S2a c a)=a:=by
 obtain⟨h1,h2,h3⟩:=j1c c a ka he [];rw[List.append_nil] at h1 h2;have e:A2a c (S2a c a)=0:=by unfold A2a Q0a;rw[if_pos h3,h1,if_neg (λh=>h.2 rfl)]
 exact⟨e,by unfold N2a;rw[if_pos e,h2]⟩
theorem l1c(c:Int)(a:l1a)(ka:a.ok)(he:h1a c a=0)(more:List Int)(hm:more≠[]):A2a c (S2a c a++more)=5:=by obtain⟨h1,h2,h3⟩:=j1c c a ka he more;unfold A2a Q0a;rw[if_pos h3,h1,if_pos ⟨rfl,by have:=List.length_pos_iff.2 hm;simp only[List.length_append];omega⟩]
theorem m1c(c:Int)(s:O1a)(ks:s.ok)(he:q1a c s=0)(post:List Int):(C9a c (V2a c s++post)).2=⟨(V2a c s).length,0⟩/\(C9a c (V2a c s++post)).1=s/\S0a c=true:=by
 have h0:=he;unfold q1a at he;by_cases hk:S0a c=true/\v1a c s=n0a/\(c=0->s.siz<4294967296);rotate_left
 ·rw[if_neg hk] at he;exact absurd he (by decide)
 obtain⟨hk,hb,hz⟩:=hk;have key:(C9a c (V2a c s++post)).2=⟨(V2a c s).length,0⟩/\(C9a c (V2a c s++post)).1=s:=by
  unfold V2a C9a;rw[if_pos h0];by_cases c0:c=0
  ·simp only[if_pos c0];have hs:=hz c0;have r1:rdN (le s.dia 2++List.replicate 2 0++le s.siz 4++s.chal++post) 2 rd0=(s.dia,⟨2,0⟩):=by have h:=Y5b [] (List.replicate 2 0++(le s.siz 4++(s.chal++post))) s.dia 2 ks.dia.1 (by rw[show(256:Int)^2=65536 from by decide];have:=ks.dia;omega);simp only[List.nil_append,List.length_nil,Nat.zero_add] at h;simp only[List.append_assoc];exact h
   have r2:y0a (le s.dia 2++List.replicate 2 0++le s.siz 4++s.chal++post) 2 ⟨2,0⟩=(List.replicate 2 0,⟨4,0⟩):=by have h:=R4a (le s.dia 2) (List.replicate 2 0) (le s.siz 4++(s.chal++post)) 2 (by simp);rw[g0a] at h;simpa only[List.append_assoc] using h
   have r2':rdZ (le s.dia 2++List.replicate 2 0++le s.siz 4++s.chal++post) 2 ⟨2,0⟩=⟨4,0⟩:=by unfold rdZ;rw[r2];simp only[];rw[if_pos trivial,if_pos (by decide)]
   have r3:rdN (le s.dia 2++List.replicate 2 0++le s.siz 4++s.chal++post) 4 ⟨4,0⟩=(s.siz,⟨8,0⟩):=by have h:=Y5b (le s.dia 2++List.replicate 2 0) (s.chal++post) s.siz 4 ks.siz.1 (by rw[show(256:Int)^4=4294967296 from by decide];exact hs);rw[List.length_append,g0a,List.length_replicate] at h;simpa only[List.append_assoc] using h
   have r4:y0a (le s.dia 2++List.replicate 2 0++le s.siz 4++s.chal++post) 8 ⟨8,0⟩=(s.chal,⟨16,0⟩):=by have h:=R4a (le s.dia 2++List.replicate 2 0++le s.siz 4) s.chal post 8 ks.clen;rw[List.length_append,List.length_append,g0a,g0a,List.length_replicate] at h;simpa only[List.append_assoc] using h
   rw[r1];simp only[];rw[r2',r3];simp only[];rw[r4];refine⟨by simp only[List.length_append,g0a,List.length_replicate,ks.clen],?_⟩;unfold v1a at hb;rw[if_pos c0] at hb;cases s;simp only[n0a,O1a.mk.injEq,true_and] at hb⊢;obtain⟨q4,q5,q6,q7,q8,q9,q10,q11,q12,q13⟩:=hb
   subst_vars
   simp
  ·simp only[if_neg c0];unfold v1a at hb;rw[if_neg c0] at hb;refine⟨?_,hb.symm⟩;have r1:y0a (List.replicate 4 0++post) 4 rd0=(List.replicate 4 0,⟨4,0⟩):=by have h:=R4a [] (List.replicate 4 0) post 4 (by simp);rw[List.length_nil,Nat.zero_add,List.nil_append] at h;exact h
   unfold rdZ;rw[r1];simp only[];rw[if_pos trivial,if_pos (by decide),List.length_replicate]
 exact⟨key.1,key.2,hk⟩
theorem n1c(c:Int)(s:O1a)(ks:s.ok)(he:q1a c s=0):D3a c (V2a c s)=0/\Y3a c (V2a c s)=s:=by
 obtain⟨h1,h2,h3⟩:=m1c c s ks he [];rw[List.append_nil] at h1 h2;have e:D3a c (V2a c s)=0:=by unfold D3a Q0a;rw[if_pos h3,h1,if_neg (λh=>h.2 rfl)]
 exact⟨e,by unfold Y3a;rw[if_pos e,h2]⟩
theorem o1c(c:Int)(s:O1a)(ks:s.ok)(he:q1a c s=0)(more:List Int)(hm:more≠[]):D3a c (V2a c s++more)=5:=by obtain⟨h1,h2,h3⟩:=m1c c s ks he more;unfold D3a Q0a;rw[if_pos h3,h1,if_pos ⟨rfl,by have:=List.length_pos_iff.2 hm;simp only[List.length_append];omega⟩]
theorem W7a{xs:List Int}{s:Nat}{r:Rd}(hx:Bytes xs)(h:(rdN xs s r).2.e=0):r.e=0/\(rdN xs s r).2=⟨r.p+s,0⟩/\r.p+s<=xs.length/\xs.take (r.p+s)=xs.take r.p++le (rdN xs s r).1 s:=by
 unfold rdN at h⊢;by_cases h0:r.e=0
 ·rw[if_pos h0] at h⊢;by_cases h1:xs.length<r.p+s
  ·rw[if_pos h1] at h;exact absurd (show(4:Int)=0 from h) (by decide)
  ·rw[if_neg h1];refine⟨h0,rfl,by omega,?_⟩;rw[List.take_add,<-o4b xs hx r.p s (by omega)]
 ·rw[if_neg h0] at h;exact absurd h h0
theorem I0b{xs:List Int}(hx:Bytes xs){r:Rd}:∀k,(Q2a xs r k).2.e=0->r.e=0/\(Q2a xs r k).2=⟨r.p+2*k,0⟩/\xs.take (r.p+2*k)=xs.take r.p++p1a (Q2a xs r k).1
 | 0,h=>⟨h,by obtain⟨p,e⟩:=r;simp only[Q2a] at h⊢;rw[h];rfl,by simp[Q2a,p1a]⟩
 | k+1,h=>by simp only[Q2a] at h⊢;obtain⟨h1,h2,h3,h4⟩:=W7a hx h;obtain⟨i1,i2,i3⟩:=I0b hx k h1;rw[i2] at h2 h3 h4⊢;refine⟨i1,by rw[h2];show(⟨r.p+2*k+2,0⟩:Rd)=_;congr 1,?_⟩;rw[G0b,<-List.append_assoc,<-i3];exact h4
theorem S4a{xs:List Int}{m:Nat}{r:Rd}(h:(y0a xs m r).2.e=0):r.e=0/\(y0a xs m r).2=⟨r.p+m,0⟩/\r.p+m<=xs.length/\xs.take (r.p+m)=xs.take r.p++(y0a xs m r).1/\(y0a xs m r).1.length=m:=by
 unfold y0a at h⊢;by_cases h0:r.e=0
 ·rw[if_pos h0] at h⊢;by_cases h1:xs.length<r.p+m
  ·rw[if_pos h1] at h;exact absurd (show(4:Int)=0 from h) (by decide)
  ·rw[if_neg h1];exact⟨h0,rfl,by omega,List.take_add ..,by simp;omega⟩
 ·rw[if_neg h0] at h;exact absurd h h0
theorem G9a{xs:List Int}{m:Nat}{r:Rd}(h:(rdZ xs m r).e=0):r.e=0/\rdZ xs m r=⟨r.p+m,0⟩/\r.p+m<=xs.length/\xs.take (r.p+m)=xs.take r.p++List.replicate m 0:=by
 unfold rdZ at h⊢;by_cases h0:(y0a xs m r).2.e=0
 ·rw[if_pos h0] at h⊢;obtain⟨h1,h2,h3,h4,h5⟩:=S4a h0;by_cases h6:zeroOf (y0a xs m r).1 0 (m:Int)=true
  ·rw[if_pos h6];refine⟨h1,h2,h3,?_⟩;rw[h4]
   congr 1
   unfold zeroOf partOf at h6;rw[h5] at h6;have ep:R0a m 0 (m:Int)=0:=by unfold R0a;rw[if_neg (by omega),if_neg (by omega)]
   rw[ep,if_pos rfl] at h6;have h7:(y0a xs m r).1.all (· == 0)=true:=by
    have e1:((y0a xs m r).1.drop (0:Int).toNat).take (m:Int).toNat=(y0a xs m r).1:=by rw[show(0:Int).toNat=0 from rfl,List.drop_zero,Int.toNat_natCast,List.take_of_length_le (Nat.le_of_eq h5)]
    rw[e1] at h6;simpa using h6
   refine List.eq_replicate_of_mem (λx hx=>?_) |>.trans (by rw[h5])
   simpa using List.all_eq_true.1 h7 x hx
  ·rw[if_neg h6] at h;exact absurd (show(5:Int)=0 from h) (by decide)
 ·rw[if_neg h0] at h;exact absurd h h0
theorem U6a{xs:List Int}(hx:Bytes xs){r:Rd}(h:(U0a xs r).2.e=0):r.e=0/\z0a (U0a xs r).1=0/\(U0a xs r).2.p<=xs.length/\xs.take (U0a xs r).2.p=xs.take r.p++C0a (U0a xs r).1:=by
 have h0:=V5b h;unfold U0a at h⊢;rw[if_pos h0] at h⊢;have hg:V0a xs r.p=0:=h;have hg2:=hg;unfold V0a at hg2;by_cases g0:X1a xs r.p 512=0;rotate_left
 ·rw[if_neg g0] at hg2;exact absurd hg2 g0
 rw[if_pos g0] at hg2;obtain⟨q1,q2,q3⟩:=z7a g0;have hn:=y5a xs hx (r.p:Int);have hl:=j0b hx g0;have hb:=A7a hx (r.p:Int) 512;obtain⟨p1,p2⟩:=t9b hb hg2;have e1:Y1a xs r.p=e4a (d2a xs r.p 512):=by unfold Y1a;rw[if_pos hg]
 have e2:Z0a xs r.p=r.p+2+W0b xs r.p:=by unfold Z0a L3a;rw[if_pos hg,if_pos g0]
 have hpe:z0a (Y1a xs r.p)=0:=by unfold z0a;rw[e1,if_pos p2,p1,if_pos (by omega)]
 refine⟨h0,hpe,by show(Z0a xs r.p).toNat<=_;omega,?_⟩;show xs.take (Z0a xs r.p).toNat=xs.take r.p++C0a (Y1a xs r.p)
 obtain⟨n,hn'⟩:∃n:Nat,W0b xs r.p=(n:Int):=⟨(W0b xs r.p).toNat,by omega⟩;have e3:(Z0a xs r.p).toNat=r.p+(2+n):=by omega
 obtain⟨_,_,e4⟩:=E2b hpe;rw[e4,e1,p1,e3];have e5:(d2a xs r.p 512).length=n:=by omega
 have e6:d2a xs r.p 512=(xs.drop (r.p+2)).take n:=by unfold d2a;rw[if_pos g0,hn',Int.toNat_natCast,Int.toNat_natCast]
 have e7:le (n:Int) 2=(xs.drop r.p).take 2:=by rw[<-hn'];unfold W0b;rw[Int.toNat_natCast];exact o4b xs hx r.p 2 (by omega)
 rw[e5,e7,e6,List.take_add,List.take_add,List.drop_drop]
theorem E4a{xs:List Int}{r:Rd}(h:Q0a xs r=0):r.e=0/\r.p=xs.length:=by
 have he:=P3a h;refine⟨he,?_⟩;unfold Q0a at h;by_cases hp:r.p=xs.length
 ·exact hp
 ·rw[if_pos ⟨he,hp⟩] at h;exact absurd h (by decide)
theorem p1c(c:Int){xs:List Int}(hx:Bytes xs)(h:A2a c xs=0):h1a c (N2a c xs)=0/\S2a c (N2a c xs)=xs/\(N2a c xs).ok:=by
 have e0:N2a c xs=(T6a c xs).1:=by unfold N2a;rw[if_pos h]
 unfold A2a at h;by_cases hk:S0a c=true;rotate_left
 ·rw[if_neg hk] at h;exact absurd h (by decide)
 rw[if_pos hk] at h;obtain⟨h1,h2⟩:=E4a h;rw[e0];unfold T6a at h1 h2⊢;by_cases c0:c=0
 ·simp only[if_pos c0] at h1 h2⊢;obtain⟨a1,a2,a3,a4,a5⟩:=S4a h1;have hd:¬16<(rdN xs 2 rd0).1:=λhh=>by unfold D1a at a1;rw[if_pos hh] at a1;exact absurd (show(3:Int)=0 from a1) (by decide)
  have ht:D1a xs rd0=Q2a xs (rdN xs 2 rd0).2 (rdN xs 2 rd0).1.toNat:=by unfold D1a;rw[if_neg hd]
  have hb:=p5a hx rd0;have hdl:(D1a xs rd0).1.length=(rdN xs 2 rd0).1.toNat:=by rw[ht,N3b]
  rw[ht] at a1;obtain⟨b1,b2,b3⟩:=I0b hx _ a1;obtain⟨d1,d2,d3,d4⟩:=W7a hx b1;have hdial:=D2b hx rd0;have hbq:=I2a hx 16 (D1a xs rd0).2;have kw:({ i0a with dial:=(D1a xs rd0).1,guid:=(y0a xs 16 (D1a xs rd0).2).1 }:l1a).ok:=⟨hdial,a5,hbq,h0a.plen,h0a.pbyte,h0a.acc,h0a.shr,h0a.way,h0a.opt,h0a.lev,h0a.dur,h0a.file,h0a.at_,h0a.n,h0a.data,h0a.locks,h0a.most,h0a.cls,h0a.siz⟩;have e1:h1a c { i0a with dial:=(D1a xs rd0).1,guid:=(y0a xs 16 (D1a xs rd0).2).1 }=0:=by unfold h1a;rw[if_pos ⟨hk,by unfold i1a;rw[if_pos c0];rfl⟩,if_pos c0,if_pos (by show(D1a xs rd0).1.length<=16;omega)]
  refine⟨e1,?_,kw⟩;unfold S2a;rw[if_pos e1,if_pos c0];unfold B3a;show le ((D1a xs rd0).1.length:Int) 2++p1a (D1a xs rd0).1++(y0a xs 16 (D1a xs rd0).2).1=xs
  have e2:((D1a xs rd0).1.length:Int)=(rdN xs 2 rd0).1:=by omega
  rw[e2];rw[a2] at h2;change (D1a xs rd0).2.p+16=xs.length at h2
  rw[h2,List.take_of_length_le (Nat.le_refl _)] at a4;have e3:(D1a xs rd0).2.p=(rdN xs 2 rd0).2.p+2*(rdN xs 2 rd0).1.toNat:=by rw[ht,b2]
  rw[e3] at a4;rw[b3] at a4;have e4:(rdN xs 2 rd0).2.p=rd0.p+2:=by rw[d2]
  rw[e4,d4] at a4;rw[show xs.take rd0.p=[] from rfl,List.nil_append,<-ht] at a4;exact a4.symm
 ·simp only[if_neg c0] at h1 h2⊢;by_cases c1:c=1
  ·simp only[if_pos c1] at h1 h2⊢;obtain⟨t1,t2,t3,t4⟩:=U6a hx h1;obtain⟨a1,a2,a3,a4,a5⟩:=S4a t1;have hbq:=I2a hx 32 rd0;have kw:({ i0a with proof:=(y0a xs 32 rd0).1,user:=⟨(U0a xs (y0a xs 32 rd0).2).1.toArray⟩ }:l1a).ok:=⟨h0a.dial,h0a.glen,h0a.gbyte,a5,hbq,h0a.acc,h0a.shr,h0a.way,h0a.opt,h0a.lev,h0a.dur,h0a.file,h0a.at_,h0a.n,h0a.data,h0a.locks,h0a.most,h0a.cls,h0a.siz⟩;have e1:h1a c { i0a with proof:=(y0a xs 32 rd0).1,user:=⟨(U0a xs (y0a xs 32 rd0).2).1.toArray⟩ }=0:=by unfold h1a;rw[if_pos ⟨hk,by unfold i1a;rw[if_neg c0,if_pos c1];rfl⟩,if_neg c0,if_pos c1];exact t2
   refine⟨e1,?_,kw⟩;unfold S2a;rw[if_pos e1,if_neg c0,if_pos c1];show(y0a xs 32 rd0).1++C0a (U0a xs (y0a xs 32 rd0).2).1=xs
   rw[h2,List.take_of_length_le (Nat.le_refl _)] at t4;have e3:(y0a xs 32 rd0).2.p=rd0.p+32:=by rw[a2]
   rw[e3,a4,show xs.take rd0.p=[] from rfl,List.nil_append] at t4;exact t4.symm
  ·simp only[if_neg c1] at h1 h2⊢;by_cases c3:c=3
   ·simp only[if_pos c3] at h1 h2⊢;obtain⟨t1,t2,t3,t4⟩:=U6a hx h1;have kw:({ i0a with share:=⟨(U0a xs rd0).1.toArray⟩ }:l1a).ok:=⟨h0a.dial,h0a.glen,h0a.gbyte,h0a.plen,h0a.pbyte,h0a.acc,h0a.shr,h0a.way,h0a.opt,h0a.lev,h0a.dur,h0a.file,h0a.at_,h0a.n,h0a.data,h0a.locks,h0a.most,h0a.cls,h0a.siz⟩;have e1:h1a c { i0a with share:=⟨(U0a xs rd0).1.toArray⟩ }=0:=by unfold h1a;rw[if_pos ⟨hk,by unfold i1a;rw[if_neg c0,if_neg c1,if_pos c3];rfl⟩,if_neg c0,if_neg c1,if_pos c3];exact t2
    refine⟨e1,?_,kw⟩;unfold S2a;rw[if_pos e1,if_neg c0,if_neg c1,if_pos c3];show C0a (U0a xs rd0).1=xs
    rw[h2,List.take_of_length_le (Nat.le_refl _),show xs.take rd0.p=[] from rfl,List.nil_append] at t4;exact t4.symm
   ·simp only[if_neg c3] at h1 h2⊢;obtain⟨z1,z2,z3,z4⟩:=G9a h1;have e1:h1a c i0a=0:=by unfold h1a;rw[if_pos ⟨hk,by unfold i1a;rw[if_neg c0,if_neg c1,if_neg c3]⟩,if_neg c0,if_neg c1,if_neg c3]
    refine⟨e1,?_,h0a⟩;unfold S2a;rw[if_pos e1,if_neg c0,if_neg c1,if_neg c3];rw[z2] at h2;change rd0.p+4=xs.length at h2
    rw[h2,List.take_of_length_le (Nat.le_refl _),show xs.take rd0.p=[] from rfl,List.nil_append] at z4;exact z4.symm
theorem k8b{xs:List Int}{s:Nat}{r:Rd}(h0:r.e=0)(h:¬xs.length<r.p+s):rdN xs s r=(Y0a xs r.p s,⟨r.p+s,0⟩):=by unfold rdN;rw[if_pos h0,if_neg h]
theorem q1c(c:Int){xs:List Int}(hx:Bytes xs)(h:D3a c xs=0):q1a c (Y3a c xs)=0/\V2a c (Y3a c xs)=xs/\(Y3a c xs).ok:=by
 have e0:Y3a c xs=(C9a c xs).1:=by unfold Y3a;rw[if_pos h]
 unfold D3a at h;by_cases hk:S0a c=true;rotate_left
 ·rw[if_neg hk] at h;exact absurd h (by decide)
 rw[if_pos hk] at h;obtain⟨h1,h2⟩:=E4a h;rw[e0];unfold C9a at h1 h2⊢;by_cases c0:c=0
 ·simp only[if_pos c0] at h1 h2⊢;obtain⟨a1,a2,a3,a4,a5⟩:=S4a h1;obtain⟨b1,b2,b3,b4⟩:=W7a hx a1;obtain⟨z1,z2,z3,z4⟩:=G9a b1;obtain⟨d1,d2,d3,d4⟩:=W7a hx z1;have hs:=C2b hx (rdZ xs 2 (rdN xs 2 rd0).2);have hs4:(rdN xs 4 (rdZ xs 2 (rdN xs 2 rd0).2)).1<4294967296:=by
   have hq:(rdN xs 4 (rdZ xs 2 (rdN xs 2 rd0).2)).1=Y0a xs (rdZ xs 2 (rdN xs 2 rd0).2).p 4:=by rw[k8b (xs:=xs) (s:=4) b1 (by omega)]
   rw[hq];have:=T1a xs hx (rdZ xs 2 (rdN xs 2 rd0).2).p 4 4294967296 (by decide);omega
  have kw:({ n0a with dia:=(rdN xs 2 rd0).1,siz:=(rdN xs 4 (rdZ xs 2 (rdN xs 2 rd0).2)).1,chal:=(y0a xs 8 (rdN xs 4 (rdZ xs 2 (rdN xs 2 rd0).2)).2).1 }:O1a).ok:=⟨p5a hx rd0,hs,a5,I2a hx 8 _,I0a.lev,I0a.dur,I0a.made,I0a.file,I0a.kind,I0a.data,I0a.n,I0a.ents⟩;have e1:q1a c { n0a with dia:=(rdN xs 2 rd0).1,siz:=(rdN xs 4 (rdZ xs 2 (rdN xs 2 rd0).2)).1,chal:=(y0a xs 8 (rdN xs 4 (rdZ xs 2 (rdN xs 2 rd0).2)).2).1 }=0:=by unfold q1a;rw[if_pos ⟨hk,by unfold v1a;rw[if_pos c0];rfl,λ_=>hs4⟩]
  refine⟨e1,?_,kw⟩;unfold V2a;rw[if_pos e1,if_pos c0];show le (rdN xs 2 rd0).1 2++List.replicate 2 0++le (rdN xs 4 (rdZ xs 2 (rdN xs 2 rd0).2)).1 4++(y0a xs 8 (rdN xs 4 (rdZ xs 2 (rdN xs 2 rd0).2)).2).1=xs
  rw[a2] at h2;change (rdN xs 4 (rdZ xs 2 (rdN xs 2 rd0).2)).2.p+8=xs.length at h2
  rw[h2,List.take_of_length_le (Nat.le_refl _)] at a4;have e3:(rdN xs 4 (rdZ xs 2 (rdN xs 2 rd0).2)).2.p=(rdZ xs 2 (rdN xs 2 rd0).2).p+4:=by rw[b2]
  rw[e3,b4] at a4;have e4:(rdZ xs 2 (rdN xs 2 rd0).2).p=(rdN xs 2 rd0).2.p+2:=by rw[z2]
  have e5:(rdN xs 2 rd0).2.p=rd0.p+2:=by rw[d2]
  rw[e4,z4,e5,d4,show xs.take rd0.p=[] from rfl,List.nil_append] at a4;exact a4.symm
 ·simp only[if_neg c0] at h1 h2⊢;obtain⟨z1,z2,z3,z4⟩:=G9a h1;have e1:q1a c n0a=0:=by unfold q1a;rw[if_pos ⟨hk,by unfold v1a;rw[if_neg c0],λh=>absurd h c0⟩]
  refine⟨e1,?_,I0a⟩;unfold V2a;rw[if_pos e1,if_neg c0];rw[z2] at h2;change rd0.p+4=xs.length at h2
  rw[h2,List.take_of_length_le (Nat.le_refl _),show xs.take rd0.p=[] from rfl,List.nil_append] at z4;exact z4.symm
theorem Z5b{xs:List Int}{m:Nat}{r:Rd}(h:¬r.e=0):(y0a xs m r).2=r:=by unfold y0a;rw[if_neg h]
theorem r1c{xs:List Int}{s:Nat}{r:Rd}(h0:r.e=0)(h:xs.length<r.p+s):rdN xs s r=(0,⟨r.p,4⟩):=by unfold rdN;rw[if_pos h0,if_pos h]
theorem a6b{xs:List Int}{m:Nat}{r:Rd}(h0:r.e=0)(h:xs.length<r.p+m):(y0a xs m r).2=⟨r.p,4⟩:=by unfold y0a;rw[if_pos h0,if_pos h]
def c3a(c:Int):Bool:=decide (5<=c)&&decide (c<=10)
def n1b(l:r2a):List Int:=le l.at_ 8++(le l.n 8++(le l.md 2++List.replicate 2 0))
def R1a:List r2a->List Int
 | []=>[]
 | l::r=>n1b l++R1a r
def j1a(c:Int)(a:l1a):l1a:=
 if c=5 then { a with acc:=0,shr:=0,way:=0,opt:=0,lev:=0,dur:=0,name:=.empty,file:=0 }
 else if c=8 then { a with at_:=0,n:=0,file:=0 }
 else if c=9 then { a with at_:=0,data:=[],file:=0 }
 else if c=10 then { a with locks:=[],file:=0 }
 else { a with file:=0 }
def u9b(c:Int)(a:l1a):l1a:=
 if c=5 then { i0a with acc:=a.acc,shr:=a.shr,way:=a.way,opt:=a.opt,lev:=a.lev,dur:=a.dur,name:=a.name,file:=a.file }
 else if c=8 then { i0a with at_:=a.at_,n:=a.n,file:=a.file }
 else if c=9 then { i0a with at_:=a.at_,data:=a.data,file:=a.file }
 else if c=10 then { i0a with locks:=a.locks,file:=a.file }
 else { i0a with file:=a.file }
def shut(ls:List r2a):Bool:=ls.all (λl=>l.op==0)
def U8a(c:Int)(a:l1a):Bool:=c3a c&&(decide (j1a c a=i0a)&&shut a.locks)
def t7a(c:Int)(a:l1a):Int:=if U8a c a=true then (if a.data.length<=32768/\a.locks.length<=16 then (if c=5 then z0a a.name.data.toList else 0) else 3) else 2
def y4a(c:Int)(a:l1a):List Int:=
 if c=5 then le a.acc 4++(le a.shr 4++(le a.way 4++(le a.opt 4++(le a.lev 1++(le a.dur 1++(List.replicate 2 0++(le a.file 8++C0a a.name.data.toList)))))))
 else if c=8 then le a.file 8++(le a.at_ 8++le a.n 4)
 else if c=9 then le a.file 8++(le a.at_ 8++(le a.data.length 4++a.data))
 else if c=10 then le a.file 8++(le a.locks.length 2++(List.replicate 2 0++R1a a.locks))
 else le a.file 8
def F2b(c:Int)(a:l1a):List Int:=if t7a c a=0 then y4a c a else []
def k1a(c:Int)(s:O1a):O1a:=
 if c=5 then { s with lev:=0,dur:=0,made:=0,file:=0,siz:=0,kind:=0 }
 else if c=8 then { s with data:=[] }
 else if c=9 then { s with n:=0 }
 else s
def l8b(c:Int)(s:O1a):O1a:=
 if c=5 then { n0a with lev:=s.lev,dur:=s.dur,made:=s.made,file:=s.file,siz:=s.siz,kind:=s.kind }
 else if c=8 then { n0a with data:=s.data }
 else if c=9 then { n0a with n:=s.n }
 else n0a
def E3a(c:Int)(s:O1a):Bool:=c3a c&&decide (k1a c s=n0a)
def V6a(c:Int)(s:O1a):Int:=if E3a c s=true/\s.made<=2/\s.kind<=2 then (if s.data.length<=32768 then 0 else 3) else 2
def W2a(c:Int)(s:O1a):List Int:=
 if c=5 then le s.lev 1++(le s.dur 1++(le s.made 2++(le s.file 8++(le s.siz 8++(le s.kind 2++List.replicate 2 0)))))
 else if c=8 then le s.data.length 4++s.data
 else if c=9 then le s.n 4
 else List.replicate 4 0
def O3b(c:Int)(s:O1a):List Int:=if V6a c s=0 then W2a c s else []
def p0b(xs:List Int)(most:Int)(r:Rd):Int×Rd:=if (rdN xs 2 r).2.e=0/\most<(rdN xs 2 r).1 then ((rdN xs 2 r).1,⟨(rdN xs 2 r).2.p,5⟩) else rdN xs 2 r
def k4a(xs:List Int)(r:Rd):List Int×Rd:=y0a xs (a1a xs 4 32768 3 r).1.toNat (a1a xs 4 32768 3 r).2
def D5a(xs:List Int)(r:Rd):r2a×Rd:=(⟨0,(rdN xs 8 r).1,(rdN xs 8 (rdN xs 8 r).2).1,(rdN xs 2 (rdN xs 8 (rdN xs 8 r).2).2).1⟩,rdZ xs 2 (rdN xs 2 (rdN xs 8 (rdN xs 8 r).2).2).2)
def z1a(xs:List Int)(r:Rd):Nat->List r2a×Rd
 | 0=>([],r)
 | k+1=>((z1a xs r k).1++[(D5a xs (z1a xs r k).2).1],(D5a xs (z1a xs r k).2).2)
def u7a(xs:List Int)(r:Rd):List r2a×Rd:=z1a xs (rdZ xs 2 (a1a xs 2 16 3 r).2) (a1a xs 2 16 3 r).1.toNat
def c1(xs:List Int):=rdN xs 4 rd0
def c2(xs:List Int):=rdN xs 4 (c1 xs).2
def c3(xs:List Int):=rdN xs 4 (c2 xs).2
def c4(xs:List Int):=rdN xs 4 (c3 xs).2
def c5(xs:List Int):=rdN xs 1 (c4 xs).2
def c6(xs:List Int):=rdN xs 1 (c5 xs).2
def c7(xs:List Int):=rdZ xs 2 (c6 xs).2
def c8(xs:List Int):=rdN xs 8 (c7 xs)
def c9(xs:List Int):=M1a xs (c8 xs).2
def o1(xs:List Int):=rdN xs 8 rd0
def o2(xs:List Int):=rdN xs 8 (o1 xs).2
def o3(xs:List Int):=rdN xs 4 (o2 xs).2
def o4(xs:List Int):=k4a xs (o2 xs).2
def o5(xs:List Int):=u7a xs (o1 xs).2
def fgP(c:Int)(xs:List Int):l1a×Rd:=
 if c=5 then ({ i0a with acc:=(c1 xs).1,shr:=(c2 xs).1,way:=(c3 xs).1,opt:=(c4 xs).1,lev:=(c5 xs).1,dur:=(c6 xs).1,file:=(c8 xs).1,name:=⟨(c9 xs).1.toArray⟩ },(c9 xs).2)
 else if c=8 then ({ i0a with file:=(o1 xs).1,at_:=(o2 xs).1,n:=(o3 xs).1 },(o3 xs).2)
 else if c=9 then ({ i0a with file:=(o1 xs).1,at_:=(o2 xs).1,data:=(o4 xs).1 },(o4 xs).2)
 else if c=10 then ({ i0a with file:=(o1 xs).1,locks:=(o5 xs).1 },(o5 xs).2)
 else ({ i0a with file:=(o1 xs).1 },(o1 xs).2)
def E5a(c:Int)(xs:List Int):Int:=if c3a c=true then Q0a xs (fgP c xs).2 else 2
def o1b(c:Int)(xs:List Int):l1a:=if E5a c xs=0 then (fgP c xs).1 else i0a
def s1(xs:List Int):=rdN xs 1 rd0
def s2(xs:List Int):=rdN xs 1 (s1 xs).2
def s3(xs:List Int):=p0b xs 2 (s2 xs).2
def s4(xs:List Int):=rdN xs 8 (s3 xs).2
def s5(xs:List Int):=rdN xs 8 (s4 xs).2
def s6(xs:List Int):=p0b xs 2 (s5 xs).2
def s7(xs:List Int):=rdZ xs 2 (s6 xs).2
def s8(xs:List Int):=k4a xs rd0
def s9(xs:List Int):=rdN xs 4 rd0
def sgP(c:Int)(xs:List Int):O1a×Rd:=
 if c=5 then ({ n0a with lev:=(s1 xs).1,dur:=(s2 xs).1,made:=(s3 xs).1,file:=(s4 xs).1,siz:=(s5 xs).1,kind:=(s6 xs).1 },s7 xs)
 else if c=8 then ({ n0a with data:=(s8 xs).1 },(s8 xs).2)
 else if c=9 then ({ n0a with n:=(s9 xs).1 },(s9 xs).2)
 else (n0a,rdZ xs 4 rd0)
def O5a(c:Int)(xs:List Int):Int:=if c3a c=true then Q0a xs (sgP c xs).2 else 2
def p1b(c:Int)(xs:List Int):O1a:=if O5a c xs=0 then (sgP c xs).1 else n0a
theorem e5a{xs:List Int}(hx:Bytes xs)(s:Nat)(r:Rd)(M:Int)(hM:(256:Int)^s=M)(h1:1<=M):0<=(rdN xs s r).1/\(rdN xs s r).1<=M-1:=by
 unfold rdN;split
 ·split
  ·exact⟨Int.le_refl 0,by show(0:Int)<=M-1;omega⟩
  ·exact T1a xs hx r.p s M hM
 ·exact⟨Int.le_refl 0,by show(0:Int)<=M-1;omega⟩
theorem w7b{xs:List Int}(hx:Bytes xs)(most:Int)(r:Rd):0<=(p0b xs most r).1/\(p0b xs most r).1<=65535:=by
 have:=e5a hx 2 r 65536 (by decide) (by decide);unfold p0b;split
 ·exact⟨this.1,by show(rdN xs 2 r).1<=_;omega⟩
 ·exact⟨this.1,by omega⟩
theorem x7b{xs:List Int}{most:Int}{r:Rd}(h:(p0b xs most r).2.e=0):(rdN xs 2 r).2.e=0/\(rdN xs 2 r).1<=most/\p0b xs most r=rdN xs 2 r:=by
 unfold p0b at h⊢;split
 ·rename_i h1;rw[if_pos h1] at h;exact absurd h (show ¬(5:Int)=0 by decide)
 ·rename_i h1;rw[if_neg h1] at h;refine⟨h,?_,rfl⟩;by_cases h2:(rdN xs 2 r).1<=most
  ·exact h2
  ·exact absurd ⟨h,by omega⟩ h1
theorem s1c{xs:List Int}{s:Nat}{most er:Int}{r:Rd}(hne:er≠0)(h:(a1a xs s most er r).2.e=0):(rdN xs s r).2.e=0/\(rdN xs s r).1<=most/\a1a xs s most er r=rdN xs s r:=by
 unfold a1a at h⊢;split
 ·rename_i h1;rw[if_pos h1] at h;exact absurd h hne
 ·rename_i h1;rw[if_neg h1] at h;refine⟨h,?_,rfl⟩;by_cases h2:(rdN xs s r).1<=most
  ·exact h2
  ·exact absurd ⟨h,by omega⟩ h1
theorem t1c(xs:List Int)(most:Int)(r:Rd):(a1a xs 2 most 5 r).2=(p0b xs most r).2/\((p0b xs most r).2.e=0->(a1a xs 2 most 5 r).1=(p0b xs most r).1):=by
 unfold a1a p0b;split
 ·exact⟨rfl,λh=>absurd h (show ¬(5:Int)=0 by decide)⟩
 ·exact⟨rfl,λ_=>rfl⟩
theorem o3a{xs:List Int}(hx:Bytes xs)(s:Nat)(most er:Int)(r:Rd)(hs:1<=s/\s<=8)(hm:0<=most):0<=(a1a xs s most er r).1/\(a1a xs s most er r).1<=most:=by
 have h0:0<=(rdN xs s r).1:=by
  unfold rdN;split
  ·split
   ·exact Int.le_refl 0
   ·exact(T1a xs hx r.p s _ rfl).1
  ·exact Int.le_refl 0
 unfold a1a;split
 ·exact⟨Int.le_refl 0,hm⟩
 ·rename_i h1;by_cases h2:(rdN xs s r).2.e=0
  ·refine⟨h0,?_⟩;by_cases h3:most<(rdN xs s r).1
   ·exact absurd ⟨h2,h3⟩ h1
   ·omega
  ·refine⟨h0,?_⟩;unfold rdN at h2⊢;split
   ·rename_i h4;split
    ·exact hm
    ·rename_i h5;rw[if_pos h4,if_neg h5] at h2;exact absurd rfl h2
   ·exact hm
theorem b6b{xs:List Int}{s:Nat}{r:Rd}(h:¬r.e=0):(rdN xs s r).2=r:=by unfold rdN;rw[if_neg h]
theorem c6b{xs:List Int}{m:Nat}{r:Rd}(h:¬r.e=0):rdZ xs m r=r:=by have:=Z5b (xs:=xs) (m:=m) h;unfold rdZ;rw[if_neg (by rw[this];exact h),this]
theorem d6b{xs:List Int}{s:Nat}{most er:Int}{r:Rd}(h:¬r.e=0):(a1a xs s most er r).2=r:=by have:=b6b (xs:=xs) (s:=s) h;unfold a1a;rw[if_neg (λh1=>h (by rw[<-this];exact h1.1)),this]
theorem v9b{xs:List Int}{most:Int}{r:Rd}(h:¬r.e=0):(p0b xs most r).2=r:=by rw[<-(t1c xs most r).1];exact d6b h
theorem G2b{xs:List Int}{r:Rd}(k:Nat):(z1a xs r k).1.length=k:=by
 induction k with
 | zero=>rfl
 | succ k ih=>simp[z1a,ih]
theorem u1c{xs:List Int}(hx:Bytes xs)(r:Rd):(D5a xs r).1.ok:=
 ⟨⟨by show(-9223372036854775808:Int)<=0;decide,by show(0:Int)<=9223372036854775807;decide⟩,
  by have:=e5a hx 8 r 18446744073709551616 (by decide) (by decide);exact⟨this.1,by show(rdN xs 8 r).1<=_;omega⟩,
  by have:=e5a hx 8 (rdN xs 8 r).2 18446744073709551616 (by decide) (by decide);exact⟨this.1,by show(rdN xs 8 (rdN xs 8 r).2).1<=_;omega⟩,
  by have:=e5a hx 2 (rdN xs 8 (rdN xs 8 r).2).2 65536 (by decide) (by decide);exact⟨this.1,by show(rdN xs 2 (rdN xs 8 (rdN xs 8 r).2).2).1<=_;omega⟩⟩
theorem w9b{xs:List Int}(hx:Bytes xs)(r:Rd)(k:Nat):∀l∈(z1a xs r k).1,l.ok:=by
 induction k with
 | zero=>intro l h;cases h
 | succ k ih=>
  intro l h;rcases List.mem_append.1 h with h | h
  ·exact ih l h
  ·rw[List.mem_singleton.1 h];exact u1c hx _
theorem e6b{xs:List Int}(r:Rd)(k:Nat):shut (z1a xs r k).1=true:=by
 induction k with
 | zero=>rfl
 | succ k ih=>unfold shut at ih⊢;simp only[z1a,List.all_append,ih,Bool.true_and];rfl
theorem P3b{xs:List Int}{r:Rd}(h:(M1a xs r).2.e=0):U0a xs r=M1a xs r:=by
 unfold M1a at h⊢;unfold U0a;by_cases he:r.e=0
 ·rw[if_pos he] at h⊢;rw[if_pos he];have h1:V0a xs r.p=0:=h;rw[if_pos h1]
 ·rw[if_neg he,if_neg he]
theorem x9b{xs:List Int}{r:Rd}(h:(U0a xs r).2.e=0):M1a xs r=U0a xs r:=by
 refine(P3b ?_).symm;unfold U0a at h;unfold M1a;by_cases he:r.e=0
 ·rw[if_pos he] at h⊢;exact h
 ·rw[if_neg he] at h⊢;exact h
theorem H2b(ls:List r2a)(l:r2a):R1a (ls++[l])=R1a ls++n1b l:=by
 induction ls with
 | nil=>simp[R1a]
 | cons a r ih=>simp[R1a,ih,List.append_assoc]
theorem v1c(l:r2a):(n1b l).length=20:=by simp[n1b,g0a]
theorem u6a(ls:List r2a):(R1a ls).length=20*ls.length:=by
 induction ls with
 | nil=>rfl
 | cons a r ih=>simp only[R1a,List.length_append,v1c,ih,List.length_cons];omega
theorem y7b(l:r2a):Bytes (n1b l):=(F0a _ _).append ((F0a _ _).append ((F0a _ _).append (Bytes.zeros 2)))
theorem X7a(ls:List r2a):Bytes (R1a ls):=by
 induction ls with
 | nil=>exact Bytes.nil
 | cons a r ih=>exact(y7b a).append ih
theorem Holds.rest{w:World}{B:Nat}{A:Option Addr}{n c k:Nat}{xs:List Int}(h:Holds w B A n c xs)(hk:k<=n):Holds w B (if c=k then A else A.map (·.add k)) (n-k) (c-k) (xs.drop k):=by
 have hl:=h.len;have hf:=h.fit;refine⟨by simp;omega,by omega,by have:=h.room;omega,h.byte.drop k,λhA=>?_,λhn=>?_⟩
 ·by_cases hc:c=k
  ·omega
  ·rw[if_neg hc] at hA;have:A=none:=by cases A<;>simp_all
   have:=h.bare this;omega
 ·obtain⟨b,off,rfl,hb,hcl⟩:=h.cells (by omega);rw[if_neg (by omega)];refine⟨b,off+k,?_,hb,λi hi=>?_⟩
  ·by_cases hk0:k=0
   ·subst hk0;simp[Addr.add]
   ·simp[Addr.add,hk0]
  ·rw[Nat.add_assoc,hcl (k+i) (by omega)];simp[List.getD_eq_getElem?_getD,List.getElem?_drop]
theorem Holds.of_lit{w:World}{g:Nat}{T:TypeId}{xs:List Int}(h:Blk w g T (xs.map (Value.int .u8)))(hx:Bytes xs)(hn:xs.length<=1000:=by simp):Holds w w.heap.size (some ⟨g,0,none⟩) xs.length xs.length xs:=
 ⟨rfl,Nat.le_refl _,by omega,hx,λhA=>(by cases hA),λ_=>⟨g,0,rfl,h.lt,λi hi=>by rw[Nat.zero_add,h.cell];simp[List.getD_eq_getElem?_getD,hi]⟩⟩
def PF(w:World)(g B:Nat)(xs:List Int)(r:Rd):Prop:=r.p<=xs.length/\B<=g/\∃A n c,Blk w g 142 [.slice A n c,.int .i64 r.e]/\Holds w B A n c (xs.drop r.p)
def V8a(w:World)(g B:Nat)(xs:List Int)(q:List Int×Rd)(e:Ending)(w':World):Prop:=∃A' k,e=.returned (.slice A' k k)/\k=q.1.length/\Holds w' B A' k k q.1/\PF w' g B xs q.2/\s2a g w w'
theorem PF.lt{w:World}{g B:Nat}{xs:List Int}{r:Rd}(h:PF w g B xs r):g<w.heap.size:=by obtain⟨_,_,A,n,c,hB,_⟩:=h;exact hB.lt
theorem PF.only{w w':World}{g g' B:Nat}{xs:List Int}{r:Rd}(h:PF w g B xs r)(hO:s2a g' w w')(hg:g≠g')(hb:B<=g'):PF w' g B xs r:=by obtain⟨h1,h2,A,n,c,hB,hx⟩:=h;exact⟨h1,h2,A,n,c,hB.only hO hg,hx.only hO hb⟩
theorem PF.below{w w':World}{g B:Nat}{xs:List Int}{r:Rd}(h:PF w g B xs r)(hb:BW w w'):PF w' g B xs r:=by have hlt:=h.lt;obtain⟨h1,h2,A,n,c,hB,hx⟩:=h;exact⟨h1,h2,A,n,c,hB.over hb,hx.below (hb.mono (by omega))⟩
theorem S4b(w:World)(g B:Nat)(xs:List Int)(r:Rd)(m:Nat)(hP:PF w g B xs r)(hm:m<=281474976710656) :
  Calls prog 134 #[.pointer (some ⟨g,0,none⟩),.int .i64 (m:Int)] w (V8a w g B xs (y0a xs m r)):=by
 obtain⟨p,er⟩:=r;obtain⟨hp,hg,A,n,c,hB,hx⟩:=hP;change p<=xs.length at hp
 change Blk w g _ [.slice A n c,.int .i64 er] at hB
 change Holds w B A n c (xs.drop p) at hx
 have hl:xs.length-p=n:=by rw[<-hx.len,List.length_drop]
 have hrm:=hx.room;have hft:=hx.fit;have c0:w.cell? ⟨g,0,none⟩=some (.slice A n c):=Blk.at hB rfl;have c1:w.cell? ⟨g,1,none⟩=some (.int .i64 er):=Blk.at hB rfl;have f0:=Blk.frozen hB 0;have f1:=Blk.frozen hB 1;have HBk:=hI hB;have HX:=hI hx;by_cases he:er=0;rotate_left
 ·have HQ:Hid (∀e w',(∃A' k,e=.returned (.slice A' k k)/\k=0/\Holds w' B A' k k []/\PF w' g B xs ⟨p,er⟩/\s2a g w w')->V8a w g B xs (y0a xs m ⟨p,er⟩) e w'):=by intro e w' hh;unfold y0a;rw[if_neg he];exact hh
  have HP:Hid (PF w g B xs ⟨p,er⟩):=⟨hp,hg,A,n,c,hB,hx⟩;have hne:(er != 0)=true:=by simpa using he
  have hnb:(er==0)=false:=bF he
  clear hB hx hl he;go_enter func134,ntmps134;go_wp2;go_ret;exact HQ.o _ _ ⟨none,0,rfl,rfl,Holds.nil _ _,HP.o,s2a.refl g w⟩
 subst er;by_cases hr:n<m
 ·have HQ:Hid (∀e w',(∃A' k,e=.returned (.slice A' k k)/\k=0/\Holds w' B A' k k []/\PF w' g B xs ⟨p,4⟩/\s2a g w w')->V8a w g B xs (y0a xs m ⟨p,0⟩) e w'):=by intro e w' hh;unfold y0a;rw[if_pos rfl,if_pos (by show xs.length<p+m;omega)];exact hh
  have k1:(w.setCell ⟨g,1,none⟩ (.int .i64 4)).cell? ⟨g,1,none⟩=some (.int .i64 4):=Blk.at (Blk.set hB 1 _) rfl;have HO:Hid (s2a g w (w.setCell ⟨g,1,none⟩ (.int .i64 4))):=d1a w g 1 _;have HP:Hid (PF (w.setCell ⟨g,1,none⟩ (.int .i64 4)) g B xs ⟨p,4⟩):=⟨hp,hg,A,n,c,Blk.set hB 1 _,hx.only HO.o hg⟩;clear hB hx hl;go_enter func134,ntmps134;go_wp2;go_ret;exact HQ.o _ _ ⟨none,0,rfl,rfl,Holds.nil _ _,HP.o,HO.o⟩
 ·have HQ:Hid (∀e w',(∃A' k,e=.returned (.slice A' k k)/\k=m/\Holds w' B A' k k ((xs.drop p).take m)/\PF w' g B xs ⟨p+m,0⟩/\s2a g w w')->V8a w g B xs (y0a xs m ⟨p,0⟩) e w'):=by intro e w' hh;unfold y0a;rw[if_pos rfl,if_neg (by show ¬xs.length<p+m;omega)];obtain⟨A',k,h1,h2,h3,h4,h5⟩:=hh;exact⟨A',k,h1,by rw[h2];show m=((xs.drop p).take m).length;rw[List.length_take,List.length_drop];omega,h3,h4,h5⟩
  have hd:(xs.drop p).drop m=xs.drop (p+m):=by rw[List.drop_drop]
  have hrst:=hx.rest (k:=m) (by omega);rw[hd] at hrst;have HK:Hid (∀v,(w.setCell ⟨g,0,none⟩ v).cell? ⟨g,0,none⟩=some v):=λv=>Blk.at (Blk.set hB 0 v) rfl
  have hA0:A.map (·.add 0)=A:=by cases A<;>simp[Addr.add]
  by_cases hcm:c=m
  ·rw[if_pos hcm] at hrst;by_cases hm0:m=0
   ·subst hm0;have HP0:Holds w B A n 0 (xs.drop (p+0)):=by have h:=hrst;simpa[hA0,hcm] using h
    have HO:Hid (s2a g w (w.setCell ⟨g,0,none⟩ (.slice A n 0))):=d1a w g 0 _;have HP:Hid (PF (w.setCell ⟨g,0,none⟩ (.slice A n 0)) g B xs ⟨p+0,0⟩):=⟨by show p+0<=_;omega,hg,_,_,_,Blk.set hB 0 _,HP0.only HO.o hg⟩;have HC:Hid (Holds (w.setCell ⟨g,0,none⟩ (.slice A n 0)) B A 0 0 ((xs.drop p).take 0)):=Holds.empty _ _ _ _ (λ_=>rfl);clear hB hx hl hd hrst HP0;clear hA0;go_enter func134,ntmps134;go_wp2;go_ret;exact HQ.o _ _ ⟨_,_,rfl,rfl,HC.o,HP.o,HO.o⟩
   ·have HP0:Holds w B A (n-m) 0 (xs.drop (p+m)):=by have h:=hrst;simpa[hcm] using h
    have HO:Hid (s2a g w (w.setCell ⟨g,0,none⟩ (.slice A (n-m) 0))):=d1a w g 0 _;have HP:Hid (PF (w.setCell ⟨g,0,none⟩ (.slice A (n-m) 0)) g B xs ⟨p+m,0⟩):=⟨by show p+m<=_;omega,hg,_,_,_,Blk.set hB 0 _,HP0.only HO.o hg⟩;have hct:=hx.cut (k:=0) (m:=m) (by omega) (by omega);rw[List.drop_zero,hA0] at hct;have HC:Hid (Holds (w.setCell ⟨g,0,none⟩ (.slice A (n-m) 0)) B A m m ((xs.drop p).take m)):=hct.only HO.o hg;clear hB hx hl hd hrst hct HP0;clear hA0;go_enter func134,ntmps134;go_wp2;go_ret;exact HQ.o _ _ ⟨_,_,rfl,rfl,HC.o,HP.o,HO.o⟩
  ·rw[if_neg hcm] at hrst;by_cases hm0:m=0
   ·subst hm0;have HP0:Holds w B A n c (xs.drop (p+0)):=by have h:=hrst;simpa[hA0] using h
    have HO:Hid (s2a g w (w.setCell ⟨g,0,none⟩ (.slice A n c))):=d1a w g 0 _;have HP:Hid (PF (w.setCell ⟨g,0,none⟩ (.slice A n c)) g B xs ⟨p+0,0⟩):=⟨by show p+0<=_;omega,hg,_,_,_,Blk.set hB 0 _,HP0.only HO.o hg⟩;have HC:Hid (Holds (w.setCell ⟨g,0,none⟩ (.slice A n c)) B A 0 0 ((xs.drop p).take 0)):=Holds.empty _ _ _ _ (λ_=>rfl);clear hB hx hl hd hrst HP0;clear hA0;go_enter func134,ntmps134;go_wp2;go_ret;exact HQ.o _ _ ⟨_,_,rfl,rfl,HC.o,HP.o,HO.o⟩
   ·have HP0:=hrst;have HO:Hid (s2a g w (w.setCell ⟨g,0,none⟩ (.slice (A.map (·.add m)) (n-m) (c-m)))):=d1a w g 0 _;have HP:Hid (PF (w.setCell ⟨g,0,none⟩ (.slice (A.map (·.add m)) (n-m) (c-m))) g B xs ⟨p+m,0⟩):=⟨by show p+m<=_;omega,hg,_,_,_,Blk.set hB 0 _,HP0.only HO.o hg⟩;have hct:=hx.cut (k:=0) (m:=m) (by omega) (by omega);rw[List.drop_zero,hA0] at hct;have HC:Hid (Holds (w.setCell ⟨g,0,none⟩ (.slice (A.map (·.add m)) (n-m) (c-m))) B A m m ((xs.drop p).take m)):=hct.only HO.o hg;clear hB hx hl hd hrst hct HP0;clear hA0;go_enter func134,ntmps134;go_wp2;go_ret;exact HQ.o _ _ ⟨_,_,rfl,rfl,HC.o,HP.o,HO.o⟩
theorem m3c{xs:List Int}{s:Nat}{r:Rd}(hp:r.p<=xs.length)(hs:u3a (s:Int)=true):(y0a xs s r).2=(rdN xs s r).2/\A4a (y0a xs s r).1 0 (s:Int)=(rdN xs s r).1:=by
 have hs1:1<=s:=by rcases S1a hs with h | h | h | h<;>omega
 have hn:A4a [] 0 (s:Int)=0:=by
  have h4:t2a 0 0 (s:Int)=4:=by unfold t2a R0a;rw[if_pos hs,if_neg (by omega),if_pos (by omega)]
  unfold A4a;rw[List.length_nil,h4,if_neg (by decide)]
 unfold y0a rdN;by_cases he:r.e=0
 ·simp only[if_pos he];by_cases hr:xs.length<r.p+s
  ·simp only[if_pos hr];exact⟨trivial,hn⟩
  ·simp only[if_neg hr];refine⟨trivial,?_⟩;have hl:((xs.drop r.p).take s).length=s:=by rw[List.length_take,List.length_drop];omega
   have h0:t2a s 0 (s:Int)=0:=by unfold t2a R0a;rw[if_pos hs,if_neg (by omega),if_neg (by omega)]
   unfold A4a Y0a;rw[hl,h0,if_pos rfl,Int.toNat_natCast,show Int.toNat 0=0 from rfl,List.drop_zero,List.take_of_length_le (by omega)]
 ·simp only[if_neg he];exact⟨trivial,hn⟩
def f3b(w:World)(g B:Nat)(xs:List Int)(k:IntKind)(q:Int×Rd)(e:Ending)(w':World):Prop:=e=.returned (.int k q.1)/\PF w' g B xs q.2/\s2a g w w'
theorem H9a(w:World)(g B:Nat)(xs:List Int)(r:Rd)(s:Nat)(hP:PF w g B xs r)(hs:u3a (s:Int)=true) :
  Calls prog 133 #[.pointer (some ⟨g,0,none⟩),.int .i64 (s:Int)] w (f3b w g B xs .u64 (rdN xs s r)):=by
 have hs8:s<=8:=by rcases S1a hs with h | h | h | h<;>omega
 have C1:=S4b w g B xs r s hP (by omega);obtain⟨e1,e2⟩:=m3c hP.1 hs;have C2:Hid (∀(w:World) (A:Option Addr) (k:Nat),Holds w B A k k (y0a xs s r).1->Calls prog 44 #[.slice A k k,.int .i64 0,.int .i64 (s:Int)] w λe w'=>(∃er,e=.returned (.tuple #[.int .u64 (rdN xs s r).1,.int .i64 er]))/\w=w'):=λw A k hh=>by have h:=O8a w B A k k _ 0 (s:Int) hh (by omega) (by omega);rw[e2] at h;exact h.mono λe w' ⟨h1,h2⟩=>⟨⟨_,h1⟩,h2⟩
 unfold V8a at C1;rw[e1] at C1;have C1':=hI C1;have HQ:Hid (∀e w',(e=.returned (.int .u64 (rdN xs s r).1)/\PF w' g B xs (rdN xs s r).2/\s2a g w w')->f3b w g B xs .u64 (rdN xs s r) e w'):=λ_ _ h=>h
 obtain⟨q,hq⟩:=xX (rdN xs s r);obtain⟨ys,hys⟩:=xX ((y0a xs s r).1);rw[<-hq] at C1' C2 HQ⊢;rw[<-hys] at C1' C2;obtain⟨z,p⟩:=q;clear hq hys C1 e1 e2 hs;go_enter func133,ntmps133;go_wp2_with fail;refine C1'.o.mono ?_;rintro e w1 ⟨A',k,rfl,hk,hH,hP1,hO1⟩;have HH:=hI hH;have HP1:=hI hP1;have HO1:=hI hO1;clear hk hH hP1 hO1;go_wp2_with fail;refine(C2.o w1 A' k HH.o).mono ?_;rintro e w2 ⟨⟨er,rfl⟩,rfl⟩;go_wp2;go_ret;exact HQ.o _ _ ⟨rfl,HP1.o,HO1.o⟩
theorem y1b(w:World)(g B:Nat)(xs:List Int)(r:Rd)(hx:Bytes xs)(hP:PF w g B xs r) :
  Calls prog 92 #[.pointer (some ⟨g,0,none⟩)] w (f3b w g B xs .u8 (rdN xs 1 r)):=by
 have C1:=hI (H9a w g B xs r 1 hP (by decide));have hb:=e5a hx 1 r 256 (by decide) (by decide);have HQ:Hid (∀e w',(e=.returned (.int .u8 (rdN xs 1 r).1)/\PF w' g B xs (rdN xs 1 r).2/\s2a g w w')->f3b w g B xs .u8 (rdN xs 1 r) e w'):=λ_ _ h=>h
 unfold f3b at C1;obtain⟨q,hq⟩:=xX (rdN xs 1 r);rw[<-hq] at C1 HQ hb⊢;obtain⟨z,p⟩:=q;change 0<=z/\z<=_ at hb
 obtain⟨hb0,hb1⟩:=hb;have hz:IntKind.u8.wrap z=z:=by rw[IntKind.wrap_u8];omega
 clear hq hP;go_enter func92,ntmps92;go_wp2_with fail;refine C1.o.mono ?_;rintro e w1 ⟨rfl,hP1,hO1⟩;have HP1:=hI hP1;have HO1:=hI hO1;clear hP1 hO1;go_wp2;go_ret;exact HQ.o _ _ ⟨rfl,HP1.o,HO1.o⟩
theorem m8b(w:World)(g B:Nat)(xs:List Int)(r:Rd)(hx:Bytes xs)(hP:PF w g B xs r) :
  Calls prog 136 #[.pointer (some ⟨g,0,none⟩)] w (f3b w g B xs .u16 (rdN xs 2 r)):=by
 have C1:=hI (H9a w g B xs r 2 hP (by decide));have hb:=e5a hx 2 r 65536 (by decide) (by decide);have HQ:Hid (∀e w',(e=.returned (.int .u16 (rdN xs 2 r).1)/\PF w' g B xs (rdN xs 2 r).2/\s2a g w w')->f3b w g B xs .u16 (rdN xs 2 r) e w'):=λ_ _ h=>h
 unfold f3b at C1;obtain⟨q,hq⟩:=xX (rdN xs 2 r);rw[<-hq] at C1 HQ hb⊢;obtain⟨z,p⟩:=q;change 0<=z/\z<=_ at hb
 obtain⟨hb0,hb1⟩:=hb;have hz:IntKind.u16.wrap z=z:=by rw[IntKind.wrap_u16];omega
 clear hq hP;go_enter func136,ntmps136;go_wp2_with fail;refine C1.o.mono ?_;rintro e w1 ⟨rfl,hP1,hO1⟩;have HP1:=hI hP1;have HO1:=hI hO1;clear hP1 hO1;go_wp2;go_ret;exact HQ.o _ _ ⟨rfl,HP1.o,HO1.o⟩
theorem v6a(w:World)(g B:Nat)(xs:List Int)(r:Rd)(hx:Bytes xs)(hP:PF w g B xs r) :
  Calls prog 93 #[.pointer (some ⟨g,0,none⟩)] w (f3b w g B xs .u32 (rdN xs 4 r)):=by
 have C1:=hI (H9a w g B xs r 4 hP (by decide));have hb:=e5a hx 4 r 4294967296 (by decide) (by decide);have HQ:Hid (∀e w',(e=.returned (.int .u32 (rdN xs 4 r).1)/\PF w' g B xs (rdN xs 4 r).2/\s2a g w w')->f3b w g B xs .u32 (rdN xs 4 r) e w'):=λ_ _ h=>h
 unfold f3b at C1;obtain⟨q,hq⟩:=xX (rdN xs 4 r);rw[<-hq] at C1 HQ hb⊢;obtain⟨z,p⟩:=q;change 0<=z/\z<=_ at hb
 obtain⟨hb0,hb1⟩:=hb;have hz:IntKind.u32.wrap z=z:=by rw[IntKind.wrap_u32];omega
 clear hq hP;go_enter func93,ntmps93;go_wp2_with fail;refine C1.o.mono ?_;rintro e w1 ⟨rfl,hP1,hO1⟩;have HP1:=hI hP1;have HO1:=hI hO1;clear hP1 hO1;go_wp2;go_ret;exact HQ.o _ _ ⟨rfl,HP1.o,HO1.o⟩
theorem t3a(w:World)(g B:Nat)(xs:List Int)(r:Rd)(hx:Bytes xs)(hP:PF w g B xs r) :
  Calls prog 94 #[.pointer (some ⟨g,0,none⟩)] w (f3b w g B xs .u64 (rdN xs 8 r)):=by
 have C1:=hI (H9a w g B xs r 8 hP (by decide));have hb:=e5a hx 8 r 18446744073709551616 (by decide) (by decide);have HQ:Hid (∀e w',(e=.returned (.int .u64 (rdN xs 8 r).1)/\PF w' g B xs (rdN xs 8 r).2/\s2a g w w')->f3b w g B xs .u64 (rdN xs 8 r) e w'):=λ_ _ h=>h
 unfold f3b at C1;obtain⟨q,hq⟩:=xX (rdN xs 8 r);rw[<-hq] at C1 HQ hb⊢;obtain⟨z,p⟩:=q;change 0<=z/\z<=_ at hb
 obtain⟨hb0,hb1⟩:=hb;clear hq hP;go_enter func94,ntmps94;go_wp2_with fail;refine C1.o.mono ?_;rintro e w1 ⟨rfl,hP1,hO1⟩;have HP1:=hI hP1;have HO1:=hI hO1;clear hP1 hO1;go_wp2;go_ret;exact HQ.o _ _ ⟨rfl,HP1.o,HO1.o⟩
theorem w1c(w:World)(g B:Nat)(xs:List Int)(r:Rd)(most:Int)(hx:Bytes xs)(hP:PF w g B xs r)(hm:0<=most/\most<=65535) :
  Calls prog 101 #[.pointer (some ⟨g,0,none⟩),.int .u16 most] w (f3b w g B xs .u16 (p0b xs most r)):=by
 have C1:=hI (m8b w g B xs r hx hP);have hb:=e5a hx 2 r 65536 (by decide) (by decide);have h0:(rdN xs 2 r).2.e≠0->(rdN xs 2 r).1=0:=by
  intro h;unfold rdN at h⊢;by_cases h1:r.e=0
  ·rw[if_pos h1] at h⊢;by_cases h2:xs.length<r.p+2
   ·rw[if_pos h2]
   ·rw[if_neg h2] at h;exact absurd rfl h
  ·rw[if_neg h1]
 unfold f3b at C1;have HQ:Hid (∀e w',(e=.returned (.int .u16 (p0b xs most r).1)/\PF w' g B xs (p0b xs most r).2/\s2a g w w')->f3b w g B xs .u16 (p0b xs most r) e w'):=λ_ _ h=>h
 obtain⟨q,hq⟩:=xX (rdN xs 2 r);have hu:p0b xs most r=if q.2.e=0/\most<q.1 then (q.1,⟨q.2.p,5⟩) else q:=by rw[hq];rfl
 rw[hu] at HQ⊢;rw[<-hq] at C1 hb h0;obtain⟨z,p⟩:=q;change 0<=z/\z<=_ at hb
 obtain⟨hb0,hb1⟩:=hb;obtain⟨hm0,hm1⟩:=hm;clear hq hP hu;by_cases hg:most<z
 ·have he:p.e=0:=by
   by_cases he:p.e=0
   ·exact he
   ·have:z=0:=h0 he;omega
  rw[if_pos ⟨he,hg⟩] at HQ⊢;clear h0 he;go_enter func101,ntmps101;go_wp2_with fail;refine C1.o.mono ?_;rintro e w1 ⟨rfl,hP1,hO1⟩;obtain⟨hp1,hg1,A,n,c,hB1,hx1⟩:=hP1;have f1:=Blk.frozen hB1 1;have c1:w1.cell? ⟨g,1,none⟩=some (.int .i64 p.e):=Blk.at hB1 rfl;have HO:Hid (s2a g w (w1.setCell ⟨g,1,none⟩ (.int .i64 5))):=hO1.setCell 1 _;have HP:Hid (PF (w1.setCell ⟨g,1,none⟩ (.int .i64 5)) g B xs ⟨p.p,5⟩):=⟨hp1,hg1,A,n,c,Blk.set hB1 1 _,hx1.only (d1a w1 g 1 _) hg1⟩;clear hp1 hg1 hB1 hx1 hO1;go_wp2;go_ret;exact HQ.o _ _ ⟨rfl,HP.o,HO.o⟩
 ·rw[if_neg (λh=>hg h.2)] at HQ⊢;clear h0;go_enter func101,ntmps101;go_wp2_with fail;refine C1.o.mono ?_;rintro e w1 ⟨rfl,hP1,hO1⟩;have HP1:=hI hP1;have HO1:=hI hO1;clear hP1 hO1;go_wp2;go_ret;exact HQ.o _ _ ⟨rfl,HP1.o,HO1.o⟩
theorem f6b(w:World)(g B:Nat)(xs:List Int)(r:Rd)(s:Nat)(most:Int)(hx:Bytes xs)(hP:PF w g B xs r)(hs:u3a (s:Int)=true)(hm:0<=most/\most<=65535) :
  Calls prog 135 #[.pointer (some ⟨g,0,none⟩),.int .i64 (s:Int),.int .i64 most] w (f3b w g B xs .i64 (a1a xs s most 3 r)):=by
 have C1:=hI (H9a w g B xs r s hP hs);have h0:0<=(rdN xs s r).1/\((rdN xs s r).2.e≠0->(rdN xs s r).1=0):=by
  unfold rdN;by_cases h1:r.e=0
  ·rw[if_pos h1];by_cases h2:xs.length<r.p+s
   ·rw[if_pos h2];exact⟨Int.le_refl 0,λ_=>rfl⟩
   ·rw[if_neg h2];exact⟨(T1a xs hx r.p s _ rfl).1,λh=>absurd rfl h⟩
  ·rw[if_neg h1];exact⟨Int.le_refl 0,λ_=>rfl⟩
 unfold f3b at C1;have HQ:Hid (∀e w',(e=.returned (.int .i64 (a1a xs s most 3 r).1)/\PF w' g B xs (a1a xs s most 3 r).2/\s2a g w w')->f3b w g B xs .i64 (a1a xs s most 3 r) e w'):=λ_ _ h=>h
 obtain⟨q,hq⟩:=xX (rdN xs s r);have hu:a1a xs s most 3 r=if q.2.e=0/\most<q.1 then (0,⟨q.2.p,3⟩) else q:=by rw[hq];rfl
 rw[hu] at HQ⊢;rw[<-hq] at C1 h0;obtain⟨z,p⟩:=q;obtain⟨hb0,h0⟩:=h0;change 0<=z at hb0
 obtain⟨hm0,hm1⟩:=hm;have hmz:IntKind.u64.wrap most=most:=by rw[IntKind.wrap_u64];omega
 clear hq hP hu;by_cases hg:most<z
 ·have he:p.e=0:=by
   by_cases he:p.e=0
   ·exact he
   ·have:z=0:=h0 he;omega
  rw[if_pos ⟨he,hg⟩] at HQ⊢;clear h0 he;go_enter func135,ntmps135;go_wp2_with fail;refine C1.o.mono ?_;rintro e w1 ⟨rfl,hP1,hO1⟩;obtain⟨hp1,hg1,A,n,c,hB1,hx1⟩:=hP1;have f1:=Blk.frozen hB1 1;have c1:w1.cell? ⟨g,1,none⟩=some (.int .i64 p.e):=Blk.at hB1 rfl;have HO:Hid (s2a g w (w1.setCell ⟨g,1,none⟩ (.int .i64 3))):=hO1.setCell 1 _;have HP:Hid (PF (w1.setCell ⟨g,1,none⟩ (.int .i64 3)) g B xs ⟨p.p,3⟩):=⟨hp1,hg1,A,n,c,Blk.set hB1 1 _,hx1.only (d1a w1 g 1 _) hg1⟩;clear hp1 hg1 hB1 hx1 hO1;go_wp2;go_ret;exact HQ.o _ _ ⟨rfl,HP.o,HO.o⟩
 ·rw[if_neg (λh=>hg h.2)] at HQ⊢;have hzz:IntKind.i64.wrap z=z:=by rw[IntKind.wrap_i64];omega
  clear h0;go_enter func135,ntmps135;go_wp2_with fail;refine C1.o.mono ?_;rintro e w1 ⟨rfl,hP1,hO1⟩;have HP1:=hI hP1;have HO1:=hI hO1;clear hP1 hO1;go_wp2;go_ret;exact HQ.o _ _ ⟨rfl,HP1.o,HO1.o⟩
def J5c(w:World)(g B:Nat)(xs:List Int)(r:Rd)(e:Ending)(w':World):Prop:=e=.returned (.tuple #[])/\PF w' g B xs r/\s2a g w w'
theorem W6a(w:World)(g B:Nat)(xs:List Int)(r:Rd)(m:Nat)(hx:Bytes xs)(hP:PF w g B xs r)(hm:m<=65536) :
  Calls prog 95 #[.pointer (some ⟨g,0,none⟩),.int .i64 (m:Int)] w (J5c w g B xs (rdZ xs m r)):=by
 have C1:=S4b w g B xs r m hP (by omega);have C2:Hid (∀(w:World) (A:Option Addr) (k:Nat),Holds w B A k k (y0a xs m r).1->Calls prog 130 #[.slice A k k,.int .i64 0,.int .i64 (m:Int)] w λe w'=>e=.returned (.bool (zeroOf (y0a xs m r).1 0 (m:Int)))/\w=w'):=λw A k hh=>y4b w B A k k _ 0 (m:Int) hh (by omega) (by omega)
 have hq:∀e w',(e=.returned (.tuple #[])/\PF w' g B xs (if (y0a xs m r).2.e=0 then (if zeroOf (y0a xs m r).1 0 (m:Int)=true then (y0a xs m r).2 else ⟨(y0a xs m r).2.p,5⟩) else (y0a xs m r).2)/\s2a g w w')->J5c w g B xs (rdZ xs m r) e w':=λ_ _ h=>h
 unfold V8a at C1;obtain⟨z,hz⟩:=xX (zeroOf (y0a xs m r).1 0 (m:Int));rw[<-hz] at C2 hq;obtain⟨ys,hys⟩:=xX ((y0a xs m r).1);rw[<-hys] at C1 C2;obtain⟨q,hqq⟩:=xX ((y0a xs m r).2);rw[<-hqq] at C1 hq;obtain⟨p,er⟩:=q;have C1':=hI C1;clear C1 hz hys hqq hP;by_cases he:er=0
 ·by_cases hzz:z=true
  ·have HQ:Hid (∀e w',(e=.returned (.tuple #[])/\PF w' g B xs ⟨p,er⟩/\s2a g w w')->J5c w g B xs (rdZ xs m r) e w'):=by intro e w' hh;refine hq e w' ?_;rw[if_pos he,if_pos hzz];exact hh
   clear hq;subst he hzz;go_enter func95,ntmps95;go_wp2_with fail;refine C1'.o.mono ?_;rintro e w1 ⟨A',k,rfl,hk,hH,hP1,hO1⟩;have HP1:=hI hP1;obtain⟨hp1,hg1,A,n,c,hB1,hx1⟩:=hP1;have c1:w1.cell? ⟨g,1,none⟩=some (.int .i64 0):=Blk.at hB1 rfl;have HH:=hI hH;have HO1:=hI hO1;clear hk hH hp1 hg1 hB1 hx1 hO1;go_wp2_with fail;refine(C2.o w1 A' k HH.o).mono ?_;rintro e w2 ⟨rfl,rfl⟩;go_wp2;go_end0;exact HQ.o _ _ ⟨rfl,HP1.o,HO1.o⟩
  ·have HQ:Hid (∀e w',(e=.returned (.tuple #[])/\PF w' g B xs ⟨p,5⟩/\s2a g w w')->J5c w g B xs (rdZ xs m r) e w'):=by intro e w' hh;refine hq e w' ?_;rw[if_pos he,if_neg hzz];exact hh
   clear hq;have hzf:z=false:=by simpa using hzz
   clear hzz;subst he hzf;go_enter func95,ntmps95;go_wp2_with fail;refine C1'.o.mono ?_;rintro e w1 ⟨A',k,rfl,hk,hH,hP1,hO1⟩;obtain⟨hp1,hg1,A,n,c,hB1,hx1⟩:=hP1;have c1:w1.cell? ⟨g,1,none⟩=some (.int .i64 0):=Blk.at hB1 rfl;have f1:=Blk.frozen hB1 1;have HH:=hI hH;have HO:Hid (s2a g w (w1.setCell ⟨g,1,none⟩ (.int .i64 5))):=hO1.setCell 1 _;have HP:Hid (PF (w1.setCell ⟨g,1,none⟩ (.int .i64 5)) g B xs ⟨p,5⟩):=⟨hp1,hg1,A,n,c,Blk.set hB1 1 _,hx1.only (d1a w1 g 1 _) hg1⟩;clear hk hH hp1 hg1 hB1 hx1 hO1;go_wp2_with fail;refine(C2.o w1 A' k HH.o).mono ?_;rintro e w2 ⟨rfl,rfl⟩;go_wp2;go_end0;exact HQ.o _ _ ⟨rfl,HP.o,HO.o⟩
 ·have HQ:Hid (∀e w',(e=.returned (.tuple #[])/\PF w' g B xs ⟨p,er⟩/\s2a g w w')->J5c w g B xs (rdZ xs m r) e w'):=by intro e w' hh;refine hq e w' ?_;rw[if_neg he];exact hh
  have hne:(er==0)=false:=bF he
  clear hq C2 he;go_enter func95,ntmps95;go_wp2_with fail;refine C1'.o.mono ?_;rintro e w1 ⟨A',k,rfl,hk,hH,hP1,hO1⟩;have HP1:=hI hP1;obtain⟨hp1,hg1,A,n,c,hB1,hx1⟩:=hP1;have c1:w1.cell? ⟨g,1,none⟩=some (.int .i64 er):=Blk.at hB1 rfl;have HO1:=hI hO1;clear hk hH hp1 hg1 hB1 hx1 hO1;go_wp2;go_end0;exact HQ.o _ _ ⟨rfl,HP1.o,HO1.o⟩
theorem m5a(w:World)(g B:Nat)(xs:List Int)(r:Rd)(hP:PF w g B xs r) :
  Calls prog 99 #[.pointer (some ⟨g,0,none⟩)] w λe w'=>e=.returned (.int .i64 (Q0a xs r))/\w=w':=by
 obtain⟨p,er⟩:=r;obtain⟨hp,hg,A,n,c,hB,hx⟩:=hP;change p<=xs.length at hp
 have hl:xs.length-p=n:=by rw[<-hx.len,List.length_drop]
 have hrm:=hx.room;have c0:w.cell? ⟨g,0,none⟩=some (.slice A n c):=Blk.at hB rfl;have c1:w.cell? ⟨g,1,none⟩=some (.int .i64 er):=Blk.at hB rfl;unfold Q0a;by_cases he:er=0
 ·subst he;by_cases hn:0<n
  ·rw[if_pos ⟨rfl,by show p≠_;omega⟩];clear hB hx hl hp;go_enter func99,ntmps99;go_wp2;go_ret;exact⟨rfl,rfl⟩
  ·rw[if_neg (λh=>h.2 (by show p=_;omega))];have hn0:n=0:=by omega
   clear hB hx hl hp hn;subst hn0;go_enter func99,ntmps99;go_wp2;go_ret;exact⟨rfl,rfl⟩
 ·rw[if_neg (λh=>he h.1)];have hne:(er==0)=false:=bF he
  clear hB hx hl hp he;go_enter func99,ntmps99;go_wp2;go_ret;exact⟨rfl,rfl⟩
abbrev w6a(w:World)(base:Nat)(v:Value)(xs:List Int):Prop:=b1a .u8 5 w base v xs
theorem b1a.own8{w:World}{base:Nat}{v:Value}{xs:List Int}(h:b1a .u8 5 w base v xs):Own w base v xs:=h.own
theorem b1a.holds8{w:World}{base:Nat}{v:Value}{xs:List Int}(h:b1a .u8 5 w base v xs)(hx:Bytes xs)(hn:xs.length<=281474976710656) :
  ∃A c,v=.slice A xs.length c/\Holds w w.heap.size A xs.length c xs:=h.own8.holds hx hn
theorem p2a.ownB{w:World}{base n:Nat}{A:Option Addr}{xs:List Int}(h:p2a w base A xs)(hl:xs.length=n)(hn:n<=281474976710656):b1a .u8 5 w base (.slice A n n) xs:=by
 rcases h with⟨rfl,rfl⟩ | ⟨g,rfl,hb,hr⟩
 ·obtain rfl:n=0:=hl.symm;exact b1a.nil _ _ _ _
 ·refine .inr ⟨g,0,by rw[hl,Nat.add_zero],hb,by unfold maxLen;omega,?_⟩;rw[List.replicate_zero,List.append_nil];exact hr
theorem x6a{w:World}{g base n:Nat}(h:Row w g (List.replicate n 0))(hb:base<=g)(hn:n<=281474976710656):b1a .u8 5 w base (.slice (some ⟨g,0,none⟩) n n) (List.replicate n 0):=p2a.ownB (.inr ⟨g,rfl,hb,h⟩) (by simp) hn
def F5a(w:World)(xs:List Int)(e:Ending)(w':World):Prop:=∃v,e=.returned (.tuple #[v,.int .i64 (x3b xs.length)])/\w6a w' w.heap.size v (rowOf xs)/\BW w w'
def f4a(w:World)(l:List UInt8)(e:Ending)(w':World):Prop:=∃v,e=.returned (.tuple #[v,.int .i64 (z0a l)])/\w6a w' w.heap.size v (C0a l)/\BW w w'
def y6a(w:World)(a:l1a)(e:Ending)(w':World):Prop:=∃v,e=.returned (.tuple #[v,.int .i64 (if a.dial.length<=16 then 0 else 3)])/\w6a w' w.heap.size v (if a.dial.length<=16 then B3a a else [])/\BW w w'
def O2a(w:World)(c:Int)(a:l1a)(e:Ending)(w':World):Prop:=∃v,e=.returned (.tuple #[v,.int .i64 (h1a c a)])/\w6a w' w.heap.size v (S2a c a)/\BW w w'
def F3a(w:World)(c:Int)(s:O1a)(e:Ending)(w':World):Prop:=∃v,e=.returned (.tuple #[v,.int .i64 (q1a c s)])/\w6a w' w.heap.size v (V2a c s)/\BW w w'
theorem z7b(w:World)(A:Option Addr)(n c:Nat)(xs:List Int)(h:Holds w w.heap.size A n c xs) :
  Calls prog 127 #[.slice A n c] w (F5a w xs):=by
 have hl:=h.len;have hr:=h.room;have hf:=h.fit;have C1:=P8a w (n:Int) 2 (by omega) (by omega);unfold z5a at C1;have hz:IntKind.u64.wrap (n:Int)=n:=by rw[IntKind.wrap_u64];omega
 by_cases hn:n<=65535
 ·obtain⟨e0,e1⟩:=X3c n hn;rw[e0,e1,g0a] at C1;have HQ:Hid (∀e w',(∃v,e=.returned (.tuple #[v,.int .i64 0])/\w6a w' w.heap.size v (le n 2++xs)/\BW w w')->F5a w xs e w'):=by intro e w' hh;unfold F5a x3b rowOf;rw[hl,if_pos hn,if_pos hn];exact hh
  have HLB:Hid (Bytes (le (n:Int) 2)):=F0a _ _;have HLL:Hid ((le (n:Int) 2).length=2):=g0a _ _;obtain⟨ls,hls⟩:=xX (le (n:Int) 2);rw[<-hls] at C1 HQ HLB HLL;have C1':=hI C1;have HX:=hI h;clear C1 hls e0 e1 h hl;go_enter func127,ntmps127;go_wp2_with fail;refine C1'.o.mono ?_;rintro e w1 ⟨A',rfl,hfr,L1⟩;have H1:=hI (hfr.holds (n:=2) HLL.o HLB.o (by omega));have HX1:=hI (HX.o.over L1);have M1:=hI L1;clear hfr L1 C1' HX;go_wp2_with(first|(refine sN 17 ?_;refine u2a rfl 2 _ rfl [(A',2,2,ls),(A,n,c,xs)] rfl (by kernel_rfl) (List.forall_mem_cons.2 ⟨H1.o,List.forall_mem_cons.2 ⟨HX1.o,λ_ h=>by cases h⟩⟩) ?_;intro g2 w2 P2 b2)|fail)
  refine(L2a _ g2 2 _ _ _ _ P2.o (by omega) (by show 0+2+n<=_;omega)).mono ?_;rintro e w3 ⟨v,rfl,ho,L3⟩;have HO:=hI ho;have L3':=hI L3;clear ho L3;go_wp2;go_ret2;refine HQ.o _ _ ⟨_,rfl,?_,step (step M1.o b2.o) L3'.o⟩;have:=HO.o.mono (base':=w.heap.size) (step M1.o b2.o).size;simpa[v5a,T3a] using this
 ·obtain⟨e1,e0⟩:=q4c n hn;rw[e0,e1] at C1;have HQ:Hid (∀e w',(∃v,e=.returned (.tuple #[v,.int .i64 3])/\w6a w' w.heap.size v []/\BW w w')->F5a w xs e w'):=by intro e w' hh;unfold F5a x3b rowOf;rw[hl,if_neg hn,if_neg hn];exact hh
  have C1':=hI C1;clear C1 e0 e1 h hl;go_enter func127,ntmps127;go_wp2_with fail;refine C1'.o.mono ?_;rintro e w1 ⟨A',rfl,hfr,L1⟩;clear hfr C1';go_wp2;go_ret2;exact HQ.o _ _ ⟨_,rfl,b1a.nil _ _ _ _,L1⟩
theorem Z5a(s:ByteArray)(w:World)(hs:s.size<=17592186044416)(hT:E8a w) :
  Calls prog 79 #[.string s] w (f4a w s.data.toList):=by
 have C1:=T2c s w hs hT;unfold w4b at C1;obtain⟨l,hl⟩:=xX s.data.toList;rw[<-hl] at C1⊢;have hlen:(U1a l).length<=4*s.size:=by
  rw[hl];have:=u4b s.data.toList;have:=R1b s.data.toList;have e:s.data.toList.length=s.size:=by rw[Array.length_toList];rfl
  omega
 have HBY:=hI (Q1b l);by_cases ht:A3a l=0;rotate_left
 ·have HQ:Hid (∀e w',e=.returned (.tuple #[.slice none 0 0,.int .i64 (A3a l)])->BW w w'->f4a w l e w'):=by intro e w' he hb;unfold f4a C0a z0a;rw[if_neg ht,if_neg ht];exact⟨_,he,b1a.nil _ _ _ _,hb⟩
  have hne:(A3a l != 0)=true:=by simpa using ht
  obtain⟨er,her⟩:=xX (A3a l);obtain⟨ys,hys⟩:=xX (U1a l);rw[<-her] at HQ C1 hne;rw[<-hys] at C1;have C1':=hI C1;clear C1 her ht hl hlen HBY hys;go_enter func79,ntmps79;go_wp2_with fail;refine C1'.o.mono ?_;rintro e w1 ⟨v,rfl,ho,L1⟩;have ho':Own w1 w.heap.size v ys:=ho.own;obtain⟨Av,cv,rfl⟩:=ho'.len;clear ho';go_wp2;go_ret2;exact HQ.o _ _ rfl L1
 rw[ht] at C1;by_cases hm:(U1a l).length<=512
 ·have HQ:Hid (∀e w',(∃v,e=.returned (.tuple #[v,.int .i64 (x3b (U1a l).length)])/\w6a w' w.heap.size v (rowOf (U1a l))/\BW w w')->f4a w l e w'):=by
   intro e w' hh;have e0:z0a l=0:=by unfold z0a;rw[if_pos ht,if_pos hm]
   unfold f4a C0a;rw[e0,if_pos rfl];unfold x3b at hh
   rwa [if_pos (by omega:(U1a l).length<=65535)] at hh
  have CR:Hid (∀(w:World) (A:Option Addr) (n c:Nat),Holds w w.heap.size A n c (U1a l)->Calls prog 127 #[.slice A n c] w (F5a w (U1a l))):=λw A n c hh=>z7b w A n c _ hh
  unfold F5a at CR;obtain⟨er,her⟩:=xX (x3b (U1a l).length);obtain⟨rs,hrs⟩:=xX (rowOf (U1a l));rw[<-her,<-hrs] at HQ CR;obtain⟨ys,hys⟩:=xX (U1a l);rw[<-hys] at C1 CR HBY hm;obtain⟨m,hm'⟩:=xX ys.length;have HM:=hI hm';rw[<-hm'] at hm;have C1':=hI C1;clear C1 her hrs ht hl hlen hys hm';go_enter func79,ntmps79;go_wp2_with fail;refine C1'.o.mono ?_;rintro e w1 ⟨v,rfl,ho,L1⟩;have ho':Own w1 w.heap.size v ys:=ho.own;obtain⟨Av,cv,rfl,hh⟩:=ho'.holds HBY.o (by have:=HM.o;omega);rw[<-HM.o] at hh⊢;have HH:=hI hh;have M1:=hI L1;clear ho ho' hh L1 C1';go_wp2_with fail;refine(CR.o _ _ _ _ HH.o).mono ?_;rintro e w2 ⟨v,rfl,ho,L2⟩;have HO:=hI ho;have L2':=hI L2;clear ho L2;go_wp2;go_ret2;exact HQ.o _ _ ⟨_,rfl,HO.o.mono M1.o.size,step M1.o L2'.o⟩
 ·have HQ:Hid (∀e w',e=.returned (.tuple #[.slice none 0 0,.int .i64 3])->BW w w'->f4a w l e w'):=by intro e w' he hb;unfold f4a C0a z0a;rw[if_pos ht,if_neg hm];exact⟨_,he,b1a.nil _ _ _ _,hb⟩
  obtain⟨ys,hys⟩:=xX (U1a l);rw[<-hys] at C1 HBY hm hlen;obtain⟨m,hm'⟩:=xX ys.length;have HM:=hI hm';rw[<-hm'] at hm hlen;have C1':=hI C1;clear C1 ht hl hys hm';go_enter func79,ntmps79;go_wp2_with fail;refine C1'.o.mono ?_;rintro e w1 ⟨v,rfl,ho,L1⟩;have ho':Own w1 w.heap.size v ys:=ho.own;obtain⟨Av,cv,rfl,hh⟩:=ho'.holds HBY.o (by have:=HM.o;omega);rw[<-HM.o];clear ho ho' hh C1';go_wp2;go_ret2;exact HQ.o _ _ rfl L1
theorem T4b(w:World)(cs:List Value)(a:l1a)(ka:a.ok)(ha:g1a w w.heap.size cs a) :
  Calls prog 78 #[.agg cs.toArray] w (y6a w a):=by
 obtain⟨D1,D2,D3,X1,X2,X3,M1,M2,M3,rfl,hD,hX,hM⟩:=ha;have hl:=hD.len;have FA:Hid (∀(w:World) (g:Nat),Blk w g 34 (l0a (.slice D1 D2 D3) (.slice X1 X2 X3) (.slice M1 M2 M3) a)->w.cell? ⟨g,0,none⟩=some (.slice D1 D2 D3)):=λw g h=>h.at rfl
 have RG:Hid (∀(w:World) (g:Nat),Blk w g 34 (l0a (.slice D1 D2 D3) (.slice X1 X2 X3) (.slice M1 M2 M3) a)->Holds w w.heap.size (some ⟨g,1,none⟩) 16 16 a.guid):=λw g h=>Q5b ka h
 have HDB:=hI ka.dial;have HGL:=hI ka.glen;obtain⟨cs,hcs⟩:=xX (l0a (.slice D1 D2 D3) (.slice X1 X2 X3) (.slice M1 M2 M3) a);rw[<-hcs] at FA RG⊢;clear hcs hX hM ka;by_cases hn:D2<=16;rotate_left
 ·have HQ:Hid (∀e w',e=.returned (.tuple #[.slice none 0 0,.int .i64 3])->BW w w'->y6a w a e w'):=by intro e w' he hb;unfold y6a;rw[hl,if_neg hn,if_neg hn];exact⟨_,he,b1a.nil _ _ _ _,hb⟩
  have hn':16<D2:=by omega
  clear hl hD;go_enter func78,ntmps78;go_wp2_with(first|(refine sN 1 ?_;refine d0a rfl _ (.tmp 0) rfl cs rfl ?_;intro g w1 hg1 hg2 K1 L1;have gd:=FA.o _ _ K1.o)|fail)
  go_ret2;exact HQ.o _ _ rfl L1.o
 have HQ:Hid (∀e w',(∃v,e=.returned (.tuple #[v,.int .i64 0])/\w6a w' w.heap.size v (le D2 2++p1a a.dial++a.guid)/\BW w w')->y6a w a e w'):=by intro e w' hh;unfold y6a B3a;rw[hl,if_pos hn,if_pos hn];exact hh
 have HDL:=hI hl;have HD:=hI hD;have HF:=hI hD.fit;have hz:IntKind.u64.wrap (D2:Int)=D2:=by rw[IntKind.wrap_u64];omega
 obtain⟨ds,hds⟩:=xX a.dial;obtain⟨gs,hgs⟩:=xX a.guid;rw[<-hds] at HQ HDL HD HDB;rw[<-hgs] at HQ RG HGL;clear hl hD hds hgs;go_enter func78,ntmps78;go_wp2_with(first|(refine sN 1 ?_;refine d0a rfl _ (.tmp 0) rfl cs rfl ?_;intro g w1 hg1 hg2 K1 L1;have gd:=FA.o _ _ K1.o)|fail)
 refine(x2b w1 (D2:Int) (by omega) (by omega)).mono ?_;rintro e w2 ⟨A',rfl,hf2,L2⟩;have gd2:=FA.o _ _ (K1.o.over L2);have HO2:=hI (hf2.ownB (n:=2) (by rw[g0a]) (by omega));have M2:=hI L2;have hs2:=L2.size;clear gd hf2 L2;go_wp2;go_loopw [4,19] (λv i wr=>∃j:Nat,i=.int .i64 j/\j<=D2/\Hid (w6a wr w1.heap.size v (le D2 2++p1a (ds.take j)))/\Hid (BW w1 wr)) (λ_ i _=>D2-(intOf i).toNat)
 case atStart=>exact⟨0,rfl,Nat.zero_le _,(by show w6a _ _ _ _;simpa[p1a] using HO2.o),M2⟩
 case round=>
  obtain⟨j,rfl,hj,HO,HL⟩:=hrel;have hsr:=HL.o.size;by_cases hlt:j<D2
  ·have HDr:=HD.o.over (step L1.o HL.o);have hft:=HF.o;obtain⟨b,off,rfl,hb,hc⟩:=HDr.cells (by omega);obtain⟨x,hx⟩:∃x,ds[j]? = some x:=⟨_,List.getElem?_eq_getElem (by have:=HDL.o;omega)⟩;have gc:=hc j x hx;obtain⟨x0,x1⟩:=HDB.o x (List.mem_of_getElem? hx);have E1:Hid (le D2 2++p1a (ds.take (j+1))=le D2 2++p1a (ds.take j)++le x 2):=by
    show _=_
    rw[List.take_add_one,hx,Option.toList_some,G0b,List.append_assoc]
   have HLEN:Hid ((le (D2:Int) 2++p1a (ds.take j)).length+(le x 2).length<=140737488355328):=by
    show _<=_
    rw[List.length_append,g0a,g0a,D4a,List.length_take];omega
   have HXB:Hid (Bytes (le x 2)):=F0a _ _;have HXL:Hid ((le x 2).length=2):=g0a _ _;have hxz:IntKind.u64.wrap x=x:=by rw[IntKind.wrap_u64];omega
   obtain⟨P,hP⟩:=xX (le (D2:Int) 2++p1a (ds.take j));rw[<-hP] at E1 HLEN HO;have CN:Hid (∀w:World,Calls prog 87 #[.int .u64 x,.int .i64 2] w λe w'=>∃A',e=.returned (.slice A' 2 2)/\p2a w' w.heap.size A' (le x 2)/\BW w w'):=λw=>x2b w x x0 x1
   obtain⟨lx,hlx⟩:=xX (le x 2);rw[<-hlx] at E1 HLEN HXB HXL CN;clear hc hx hP hlx HDr;go_wp2_with fail;refine(CN.o wr).mono ?_;rintro e w3 ⟨A3,rfl,hf3,L3⟩;have HH:=hI (hf3.holds HXL.o HXB.o (by omega));have HO3:=hI (HO.o.below L3);have M3:=hI (HL.o.trans (L3.mono hsr));have hs3:=M3.o.size;clear hf3 L3 HO CN gc;go_wp2_with(first|(at_builtin;refine X2a rfl (.tmp 23) (.tmp 26) rfl w1.heap.size _ P rfl HO3.o w3.heap.size A3 2 2 lx rfl HH.o HLEN.o hs3 ?_;intro v4 w4 ho4 hb4)|fail)
   have HO4:Hid (w6a w4 w1.heap.size v4 (le D2 2++p1a (ds.take (j+1)))):=by rw[E1.o];exact ho4.o
   have M4:=hI (M3.o.trans hb4);clear ho4 hb4 HH HO3 M3;go_wp2;go_roundw
   case rel=>exact⟨j+1,by go_num,hlt,HO4,M4⟩
   case measure=>simp[intOf];omega
  ·obtain rfl:j=D2:=by omega
   have HO5:Hid (w6a wr w1.heap.size u4 (le (j:Int) 2++p1a ds)):=by
    have h:=HO.o
    rwa [List.take_of_length_le (by have:=HDL.o;omega)] at h
   have HG:=hI (RG.o _ _ (K1.o.over HL.o));have HLEN:Hid ((le (j:Int) 2++p1a ds).length+gs.length<=140737488355328):=by
    show _<=_
    have h1:=HGL.o;have h2:=HDL.o;rw[List.length_append,g0a,D4a];omega
   have hs1:=L1.o.size;obtain⟨P,hP⟩:=xX (le (j:Int) 2++p1a ds);rw[<-hP] at HO5 HLEN HQ;clear HO hP;go_wp2_with(first|(at_builtin;refine X2a rfl (.tmp 29) (.tmp 31) rfl w1.heap.size _ P rfl HO5.o wr.heap.size (some ⟨g,1,none⟩) 16 16 gs rfl HG.o HLEN.o hsr ?_;intro v4 w4 ho4 hb4)|fail)
   go_ret2;exact HQ.o _ _ ⟨_,rfl,ho4.o.mono hs1,L1.o.trans ((HL.o.trans hb4).mono hs1)⟩
theorem X6a(w:World)(c:Int)(cs:List Value)(a:l1a)(hc:0<=c/\c<=65535)(ka:a.ok)(ha:g1a w w.heap.size cs a)(hu:a.user.size<=17592186044416/\a.share.size<=17592186044416)(hT:E8a w) :
  Calls prog 60 #[.int .u16 c,.agg cs.toArray] w (O2a w c a):=by
 have HL:=hI (ha.len ka);have HO1:=hI ha.one;have ZH:=hI n8a;have HZ:Hid ((l0a (.slice none 0 0) (.slice none 0 0) (.slice none 0 0) i0a).length=69):=G1a h0a;have HA:=hI ha;have HT:=hI hT;obtain⟨hu0,hu1⟩:=hu;have CB:Hid (∀w':World,BW w w'->Calls prog 76 #[.int .u16 c,.agg cs.toArray] w' λe w2=>∃ds,e=.returned (.tuple #[.agg ds.toArray,.bool (S0a c)])/\g1a w2 w2.heap.size ds (if S0a c=true then i1a c a else i0a)/\BW w' w2):=λw' hb=>L4b w' c cs a hc ka (ha.over hb)
 obtain⟨zs,hzs⟩:=xX (l0a (.slice none 0 0) (.slice none 0 0) (.slice none 0 0) i0a);rw[<-hzs] at ZH HZ;clear hzs;by_cases hk:S0a c=true;rotate_left
 ·have hk':S0a c=false:=by simpa using hk
  have HQ:Hid (∀e w',e=.returned (.tuple #[.slice none 0 0,.int .i64 2])->BW w w'->O2a w c a e w'):=by
   intro e w' he hb;have h2:h1a c a=2:=by unfold h1a;rw[if_neg (λh=>hk h.1)]
   unfold O2a S2a;rw[h2,if_neg (by decide)];exact⟨_,he,b1a.nil _ _ _ _,hb⟩
  rw[if_neg hk,hk'] at CB;have kb:=h0a;clear hk hk' HA ka ha;go_enter func60,ntmps60;go_wp2_with(first|(refine sN 3 ?_;refine d0a rfl _ (.tmp 1) rfl cs rfl ?_;intro g w1 hg1 hg2 K1 L1)|(refine sN 12 ?_;refine e0a rfl _ (.tmp 3) rfl g rfl _ cs K1 69 _ underlying34 rfl p0a HL ?_)|fail)
  refine(CB.o w1 L1.o).mono ?_;rintro e w2 ⟨ds,rfl,hds,L2⟩;have HD:=hI hds;have HDL:=hI (hds.len kb);have HDO:=hI hds.one;have K2:=hI (K1.o.over L2);have M2:=hI (step L1.o L2);clear hds L2 K1;go_wp2_with(first|(refine sN 6 ?_;refine b0a rfl _ rfl zs _ ZH ?_;intro h w3 hg3 hg4 Z3 L3)|(refine sT 6 ?_;refine a0a rfl _ (.tmp 6) (.tmp 14) rfl h rfl _ zs ds rfl Z3 69 p0a HZ HDL HDO ?_;intro w4 X4 O4 hg5;have L4:=hI (c0a L3.o O4.o hg3);have M4:=hI (step M2.o L4.o);have K4:=hI (K2.o.over L4.o);have HD4:=hI (HD.o.over L4.o))|fail)
  go_ret2;exact HQ.o _ _ rfl M4.o
 rw[if_pos hk,hk] at CB;have kb:=X5a (c:=c) ka;have CZ:Hid (∀(w':World) (ds:List Value),g1a w' w'.heap.size ds (i1a c a)->Calls prog 77 #[.agg ds.toArray] w' λe w2=>e=.returned (.bool (decide (i1a c a=i0a)))/\BW w' w2):=λw' ds hds=>J4b w' ds _ kb hds
 obtain⟨b,hb⟩:=xX (i1a c a);rw[<-hb] at CB CZ kb;obtain⟨z,hzb⟩:=xX (decide (b=i0a));rw[<-hzb] at CZ;rw[hb] at hzb;clear hb;go_enter func60,ntmps60;go_wp2_with(first|(refine sN 3 ?_;refine d0a rfl _ (.tmp 1) rfl cs rfl ?_;intro g w1 hg1 hg2 K1 L1)|(refine sN 12 ?_;refine e0a rfl _ (.tmp 3) rfl g rfl _ cs K1 69 _ underlying34 rfl p0a HL ?_)|fail)
 refine(CB.o w1 L1.o).mono ?_;rintro e w2 ⟨ds,rfl,hds,L2⟩;have HD:=hI hds;have HDL:=hI (hds.len kb);have HDO:=hI hds.one;have K2:=hI (K1.o.over L2);have M2:=hI (step L1.o L2);clear hds L2 K1;go_wp2_with(first|(refine sN 6 ?_;refine b0a rfl _ rfl zs _ ZH ?_;intro h w3 hg3 hg4 Z3 L3)|(refine sT 6 ?_;refine a0a rfl _ (.tmp 6) (.tmp 14) rfl h rfl _ zs ds rfl Z3 69 p0a HZ HDL HDO ?_;intro w4 X4 O4 hg5;have L4:=hI (c0a L3.o O4.o hg3);have M4:=hI (step M2.o L4.o);have K4:=hI (K2.o.over L4.o);have HD4:=hI (HD.o.over L4.o))|(refine sN 19 ?_;refine b4a (by kernel_rfl) _ (.tmp 6) rfl h rfl _ ds X4 69 _ underlying34 rfl p0a HDL ?_)|fail)
 refine(CZ.o w4 ds HD4.o).mono ?_;rintro e w5 ⟨rfl,L5⟩;have M5:=hI (step M4.o L5);have K5:=hI (K4.o.over L5);have hs5:=M5.o.size;clear L5 K4 HD4 HD CZ CB X4 O4 Z3 L3 L4 M4 M2 K2;by_cases hz:i1a c a=i0a;rotate_left
 ·rw[decide_eq_false hz] at hzb;subst hzb;have HQ:Hid (∀e w',e=.returned (.tuple #[.slice none 0 0,.int .i64 2])->BW w w'->O2a w c a e w'):=by
   intro e w' he hb;have h2:h1a c a=2:=by unfold h1a;rw[if_neg (λh=>hz h.2)]
   unfold O2a S2a;rw[h2,if_neg (by decide)];exact⟨_,he,b1a.nil _ _ _ _,hb⟩
  clear hk hz HA ka ha;go_wp2;go_ret2;exact HQ.o _ _ rfl M5.o
 rw[decide_eq_true hz] at hzb;subst hzb;by_cases h0:c=0
 ·have h2:h1a c a=if a.dial.length<=16 then 0 else 3:=by unfold h1a;rw[if_pos ⟨hk,hz⟩,if_pos h0]
  have HQ:Hid (∀e w',(∃v,e=.returned (.tuple #[v,.int .i64 (if a.dial.length<=16 then 0 else 3)])/\w6a w' w.heap.size v (if a.dial.length<=16 then B3a a else [])/\BW w w')->O2a w c a e w'):=by
   intro e w' hh;unfold O2a S2a;rw[h2,if_pos h0];by_cases hd:a.dial.length<=16
   ·rw[if_pos hd,if_pos hd] at hh;rw[if_pos hd,if_pos rfl];exact hh
   ·rw[if_neg hd,if_neg hd] at hh;rw[if_neg hd,if_neg (by decide)];exact hh
  have CO:Hid (∀w':World,BW w w'->Calls prog 78 #[.agg cs.toArray] w' λe w2=>∃v,e=.returned (.tuple #[v,.int .i64 (if a.dial.length<=16 then 0 else 3)])/\w6a w2 w'.heap.size v (if a.dial.length<=16 then B3a a else [])/\BW w' w2):=λw' hb=>T4b w' cs a ka (HA.o.over hb)
  obtain⟨er,her⟩:∃x:Int,x=if a.dial.length<=16 then 0 else 3:=⟨_,rfl⟩
  obtain⟨ys,hys⟩:=xX (if a.dial.length<=16 then B3a a else [])
  rw[<-her,<-hys] at HQ CO;have c0:(c==0)=true:=by simpa using h0
  clear hk hz HA ka ha h2 her hys h0;go_wp2_with(first|(refine sN 26 ?_;refine e0a rfl _ (.tmp 3) rfl g rfl _ cs K5 69 _ underlying34 rfl p0a HL ?_)|fail)
  refine(CO.o w5 M5.o).mono ?_;rintro e w6 ⟨v,rfl,ho,L6⟩;have HO:=hI ho;have L6':=hI L6;clear ho L6;go_wp2;go_ret2;exact HQ.o _ _ ⟨_,rfl,HO.o.mono hs5,step M5.o L6'.o⟩
 have b0:(c==0)=false:=bF h0
 have FA:Hid (∀(w:World) (g:Nat),Blk w g 34 cs->w.cell? ⟨g,49,none⟩=some (.string a.user)/\w.cell? ⟨g,50,none⟩=some (.string a.share)/\Holds w w.heap.size (some ⟨g,17,none⟩) 32 32 a.proof):=by intro w g h;obtain⟨D1,D2,D3,X1,X2,X3,M1,M2,M3,rfl,_⟩:=HA.o;exact⟨h.at (o0a ka 0),h.at (o0a ka 1),O4b ka h⟩
 by_cases h1:c=1
 ·have CT:Hid (∀w':World,BW w w'->Calls prog 79 #[.string a.user] w' λe w2=>∃v,e=.returned (.tuple #[v,.int .i64 (z0a a.user.data.toList)])/\w6a w2 w'.heap.size v (C0a a.user.data.toList)/\BW w' w2):=λw' hb=>Z5a a.user w' hu0 (HT.o.below hb)
  have h2:h1a c a=z0a a.user.data.toList:=by unfold h1a;rw[if_pos ⟨hk,hz⟩,if_neg h0,if_pos h1]
  have c1:(c==1)=true:=by simpa using h1
  have HPB:=hI (e2a a.user.data.toList);have hpl:=v3a a.user.data.toList;by_cases hp:z0a a.user.data.toList=0
  ·have HQ:Hid (∀e w',(∃v,e=.returned (.tuple #[v,.int .i64 0])/\w6a w' w.heap.size v (a.proof++C0a a.user.data.toList)/\BW w w')->O2a w c a e w'):=by intro e w' hh;unfold O2a S2a;rw[h2,hp,if_pos rfl,if_neg h0,if_pos h1];exact hh
   rw[hp] at CT;obtain⟨ys,hys⟩:=xX (C0a a.user.data.toList);rw[<-hys] at HQ CT HPB hpl;obtain⟨tx,htx⟩:=xX a.user;obtain⟨px,hpx⟩:=xX a.proof;rw[<-htx,<-hpx] at FA;rw[<-htx] at CT;rw[<-hpx] at HQ;clear hk hz HA ka ha h2 hys htx hpx h0 h1 hu0 hu1 hp;obtain⟨gd,_,_⟩:=FA.o _ _ K5.o;go_wp2_with fail;refine(CT.o w5 M5.o).mono ?_;rintro e w6 ⟨v,rfl,ho,L6⟩;obtain⟨Av,cv,rfl,hh⟩:=ho.holds8 HPB.o (by omega);have HH:=hI hh;obtain⟨_,_,hpr⟩:=FA.o _ _ (K5.o.over L6);have HPR:=hI hpr;have M6:=hI (step M5.o L6);obtain⟨m,hm⟩:=xX ys.length;rw[<-hm] at HH hpl⊢;clear ho hh hpr L6 gd hm;go_wp2_with(first|(refine sN 44 ?_;refine u2a rfl 2 _ rfl [(some ⟨g,17,none⟩,32,32,px),(Av,m,cv,ys)] rfl (by kernel_rfl) (List.forall_mem_cons.2 ⟨HPR.o,List.forall_mem_cons.2 ⟨HH.o,λ_ h=>by cases h⟩⟩) ?_;intro g7 w7 P7 b7)|fail)
   refine(L2a _ g7 2 _ _ _ _ P7.o (by omega) (by show 0+32+m<=_;omega)).mono ?_;rintro e w8 ⟨v,rfl,ho,L8⟩;have HO:=hI ho;have L8':=hI L8;clear ho L8;go_wp2;go_ret2;have M7:=step M6.o b7.o;refine HQ.o _ _ ⟨_,rfl,?_,step M7 L8'.o⟩;have h9:=HO.o.mono (base':=w.heap.size) M7.size;simpa[v5a,T3a] using h9
  ·have HQ:Hid (∀e w',e=.returned (.tuple #[.slice none 0 0,.int .i64 (z0a a.user.data.toList)])->BW w w'->O2a w c a e w'):=by intro e w' he hb;unfold O2a S2a;rw[h2,if_neg hp];exact⟨_,he,b1a.nil _ _ _ _,hb⟩
   have hne:(z0a a.user.data.toList != 0)=true:=by simpa using hp
   obtain⟨ys,hys⟩:=xX (C0a a.user.data.toList);obtain⟨er,her⟩:=xX (z0a a.user.data.toList);rw[<-hys,<-her] at CT;rw[<-her] at HQ hne;rw[<-hys] at HPB hpl;obtain⟨tx,htx⟩:=xX a.user;rw[<-htx] at FA CT;clear hk hz HA ka ha h2 hys her htx h0 h1 hu0 hu1 hp;obtain⟨gd,_,_⟩:=FA.o _ _ K5.o;go_wp2_with fail;refine(CT.o w5 M5.o).mono ?_;rintro e w6 ⟨v,rfl,ho,L6⟩;obtain⟨Av,cv,rfl⟩:=ho.own8.len;clear ho;go_wp2;go_ret2;exact HQ.o _ _ rfl (step M5.o L6)
 have b1:(c==1)=false:=bF h1
 by_cases h3:c=3
 ·have CT:Hid (∀w':World,BW w w'->Calls prog 79 #[.string a.share] w' λe w2=>∃v,e=.returned (.tuple #[v,.int .i64 (z0a a.share.data.toList)])/\w6a w2 w'.heap.size v (C0a a.share.data.toList)/\BW w' w2):=λw' hb=>Z5a a.share w' hu1 (HT.o.below hb)
  have h2:h1a c a=z0a a.share.data.toList:=by unfold h1a;rw[if_pos ⟨hk,hz⟩,if_neg h0,if_neg h1,if_pos h3]
  have c3:(c==3)=true:=by simpa using h3
  have HQ:Hid (∀e w',(∃v,e=.returned (.tuple #[v,.int .i64 (z0a a.share.data.toList)])/\w6a w' w.heap.size v (C0a a.share.data.toList)/\BW w w')->O2a w c a e w'):=by
   intro e w' hh;unfold O2a S2a;rw[h2,if_neg h0,if_neg h1,if_pos h3];by_cases hp:z0a a.share.data.toList=0
   ·rw[if_pos hp];exact hh
   ·rw[if_neg hp];unfold C0a at hh;rw[if_neg hp] at hh;exact hh
  obtain⟨er,her⟩:=xX (z0a a.share.data.toList);obtain⟨ys,hys⟩:=xX (C0a a.share.data.toList);rw[<-her,<-hys] at HQ CT;obtain⟨tx,htx⟩:=xX a.share;rw[<-htx] at FA CT;clear hk hz HA ka ha h2 her hys htx h0 h1 h3 hu0 hu1;have b1:(c==1)=false:=by have h:=c3;simp only[beq_iff_eq] at h;subst h;rfl
  obtain⟨_,gd,_⟩:=FA.o _ _ K5.o;go_wp2_with fail;refine(CT.o w5 M5.o).mono ?_;rintro e w6 ⟨v,rfl,ho,L6⟩;have HO:=hI ho;have L6':=hI L6;clear ho L6;go_wp2;go_ret2;exact HQ.o _ _ ⟨_,rfl,HO.o.mono hs5,step M5.o L6'.o⟩
 have b3:(c==3)=false:=bF h3
 have h2:h1a c a=0:=by unfold h1a;rw[if_pos ⟨hk,hz⟩,if_neg h0,if_neg h1,if_neg h3]
 have HQ:Hid (∀e w',(∃v,e=.returned (.tuple #[v,.int .i64 0])/\w6a w' w.heap.size v (List.replicate 4 0)/\BW w w')->O2a w c a e w'):=by intro e w' hh;unfold O2a S2a;rw[h2,if_pos rfl,if_neg h0,if_neg h1,if_neg h3];exact hh
 clear hk hz HA ka ha h2 h0 h1 h3 hu0 hu1;go_wp2_with(at_make;refine K1a _ rfl _ _ rfl _ _ 4 rfl rfl rfl rfl (by omega) ?_;intro w6 R6 L6);go_ret2;exact HQ.o _ _ ⟨_,rfl,x6a R6.o hs5 (by omega),step M5.o L6⟩
theorem Y6a(w:World)(c:Int)(cs:List Value)(a:O1a)(hc:0<=c/\c<=65535)(ka:a.ok)(ha:s1a w w.heap.size cs a) :
  Calls prog 62 #[.int .u16 c,.agg cs.toArray] w (F3a w c a):=by
 have HL:=hI (ha.len ka);have HO1:=hI ha.one;have ZH:=hI q9a;have HZ:Hid ((u0a (.slice none 0 0) (.slice none 0 0) n0a).length=20):=m2a I0a;have HA:=hI ha;have CB:Hid (∀w':World,BW w w'->Calls prog 85 #[.int .u16 c,.agg cs.toArray] w' λe w2=>∃ds,e=.returned (.tuple #[.agg ds.toArray,.bool (S0a c)])/\s1a w2 w2.heap.size ds (if S0a c=true then v1a c a else n0a)/\BW w' w2):=λw' hb=>M4b w' c cs a hc ka (ha.over hb)
 obtain⟨zs,hzs⟩:=xX (u0a (.slice none 0 0) (.slice none 0 0) n0a);rw[<-hzs] at ZH HZ;clear hzs;by_cases hk:S0a c=true;rotate_left
 ·have hk':S0a c=false:=by simpa using hk
  have HQ:Hid (∀e w',e=.returned (.tuple #[.slice none 0 0,.int .i64 2])->BW w w'->F3a w c a e w'):=by
   intro e w' he hb;have h2:q1a c a=2:=by unfold q1a;rw[if_neg (λh=>hk h.1)]
   unfold F3a V2a;rw[h2,if_neg (by decide)];exact⟨_,he,b1a.nil _ _ _ _,hb⟩
  rw[if_neg hk,hk'] at CB;have kb:=I0a;clear hk hk' HA ka ha;go_enter func62,ntmps62;go_wp2_with(first|(refine sN 3 ?_;refine d0a rfl _ (.tmp 1) rfl cs rfl ?_;intro g w1 hg1 hg2 K1 L1)|(refine sN 12 ?_;refine e0a rfl _ (.tmp 3) rfl g rfl _ cs K1 20 _ underlying39 rfl t0a HL ?_)|fail)
  refine(CB.o w1 L1.o).mono ?_;rintro e w2 ⟨ds,rfl,hds,L2⟩;have HD:=hI hds;have HDL:=hI (hds.len kb);have HDO:=hI hds.one;have K2:=hI (K1.o.over L2);have M2:=hI (step L1.o L2);clear hds L2 K1;go_wp2_with(first|(refine sN 6 ?_;refine b0a rfl _ rfl zs _ ZH ?_;intro h w3 hg3 hg4 Z3 L3)|(refine sT 6 ?_;refine a0a rfl _ (.tmp 6) (.tmp 14) rfl h rfl _ zs ds rfl Z3 20 t0a HZ HDL HDO ?_;intro w4 X4 O4 hg5;have L4:=hI (c0a L3.o O4.o hg3);have M4:=hI (step M2.o L4.o);have K4:=hI (K2.o.over L4.o);have HD4:=hI (HD.o.over L4.o))|fail)
  go_ret2;exact HQ.o _ _ rfl M4.o
 rw[if_pos hk,hk] at CB;have kb:=C0b (c:=c) ka;have CZ:Hid (∀(w':World) (ds:List Value),s1a w' w'.heap.size ds (v1a c a)->Calls prog 86 #[.agg ds.toArray] w' λe w2=>e=.returned (.bool (decide (v1a c a=n0a)))/\BW w' w2):=λw' ds hds=>K4b w' ds _ kb hds
 obtain⟨b,hb⟩:=xX (v1a c a);rw[<-hb] at CB CZ kb;obtain⟨z,hzb⟩:=xX (decide (b=n0a));rw[<-hzb] at CZ;rw[hb] at hzb;clear hb;go_enter func62,ntmps62;go_wp2_with(first|(refine sN 3 ?_;refine d0a rfl _ (.tmp 1) rfl cs rfl ?_;intro g w1 hg1 hg2 K1 L1)|(refine sN 12 ?_;refine e0a rfl _ (.tmp 3) rfl g rfl _ cs K1 20 _ underlying39 rfl t0a HL ?_)|fail)
 refine(CB.o w1 L1.o).mono ?_;rintro e w2 ⟨ds,rfl,hds,L2⟩;have HD:=hI hds;have HDL:=hI (hds.len kb);have HDO:=hI hds.one;have K2:=hI (K1.o.over L2);have M2:=hI (step L1.o L2);clear hds L2 K1;go_wp2_with(first|(refine sN 6 ?_;refine b0a rfl _ rfl zs _ ZH ?_;intro h w3 hg3 hg4 Z3 L3)|(refine sT 6 ?_;refine a0a rfl _ (.tmp 6) (.tmp 14) rfl h rfl _ zs ds rfl Z3 20 t0a HZ HDL HDO ?_;intro w4 X4 O4 hg5;have L4:=hI (c0a L3.o O4.o hg3);have M4:=hI (step M2.o L4.o);have K4:=hI (K2.o.over L4.o);have HD4:=hI (HD.o.over L4.o))|(refine sN 19 ?_;refine b4a (by kernel_rfl) _ (.tmp 6) rfl h rfl _ ds X4 20 _ underlying39 rfl t0a HDL ?_)|fail)
 refine(CZ.o w4 ds HD4.o).mono ?_;rintro e w5 ⟨rfl,L5⟩;have M5:=hI (step M4.o L5);have K5:=hI (K4.o.over L5);have hs5:=M5.o.size;clear L5 K4 HD4 HD CZ CB X4 O4 Z3 L3 L4 M4 M2 K2;by_cases hz:v1a c a=n0a;rotate_left
 ·rw[decide_eq_false hz] at hzb;subst hzb;have HQ:Hid (∀e w',e=.returned (.tuple #[.slice none 0 0,.int .i64 2])->BW w w'->F3a w c a e w'):=by
   intro e w' he hb;have h2:q1a c a=2:=by unfold q1a;rw[if_neg (λh=>hz h.2.1)]
   unfold F3a V2a;rw[h2,if_neg (by decide)];exact⟨_,he,b1a.nil _ _ _ _,hb⟩
  clear hk hz HA ka ha;go_wp2;go_ret2;exact HQ.o _ _ rfl M5.o
 rw[decide_eq_true hz] at hzb;subst hzb;by_cases h0:c=0;rotate_left
 ·have h2:q1a c a=0:=by unfold q1a;rw[if_pos ⟨hk,hz,λh=>absurd h h0⟩]
  have HQ:Hid (∀e w',(∃v,e=.returned (.tuple #[v,.int .i64 0])/\w6a w' w.heap.size v (List.replicate 4 0)/\BW w w')->F3a w c a e w'):=by intro e w' hh;unfold F3a V2a;rw[h2,if_pos rfl,if_neg h0];exact hh
  have b0:(c != 0)=true:=by simpa using h0
  clear hk hz HA ka ha h2 h0;go_wp2_with(at_make;refine K1a _ rfl _ _ rfl _ _ 4 rfl rfl rfl rfl (by omega) ?_;intro w6 R6 L6);go_ret2;exact HQ.o _ _ ⟨_,rfl,x6a R6.o hs5 (by omega),step M5.o L6⟩
 have b0:(c != 0)=false:=by simpa using h0
 have FA:Hid (∀(w:World) (g:Nat),Blk w g 39 cs->w.cell? ⟨g,0,none⟩=some (.int .u16 a.dia)/\w.cell? ⟨g,1,none⟩=some (.int .u64 a.siz)/\Holds w w.heap.size (some ⟨g,2,none⟩) 8 8 a.chal):=by intro w g h;obtain⟨X1,X2,X3,M1,M2,M3,rfl,_⟩:=HA.o;exact⟨h.at rfl,h.at rfl,R5b ka h⟩
 obtain⟨s0,s1⟩:=ka.siz;obtain⟨d0,d1⟩:=ka.dia;by_cases hs:a.siz<4294967296;rotate_left
 ·have h2:q1a c a=2:=by unfold q1a;rw[if_neg (λh=>hs (h.2.2 h0))]
  have HQ:Hid (∀e w',e=.returned (.tuple #[.slice none 0 0,.int .i64 2])->BW w w'->F3a w c a e w'):=by intro e w' he hb;unfold F3a V2a;rw[h2,if_neg (by decide)];exact⟨_,he,b1a.nil _ _ _ _,hb⟩
  have CP:Hid (∀w':World,Calls prog 32 #[.int .u64 a.siz,.int .i64 4] w' λe w2=>∃A',e=.returned (.tuple #[.slice A' 0 0,.int .i64 2])/\BW w' w2):=λw'=>by
   have h:=P8a w' a.siz 4 ⟨s0,s1⟩ (by omega);unfold z5a at h;have hp:N4a a.siz 4=false:=by unfold N4a;rw[show((4:Int).toNat)=4 from rfl,show(256:Int)^4=4294967296 from by decide,decide_eq_false hs];simp
   unfold e7a N5a at h;rw[if_neg (by rw[hp];decide),if_neg (by rw[hp];decide)] at h;exact h.mono λe w2 ⟨A',h1,_,h3⟩=>⟨A',h1,h3⟩
  obtain⟨sz,hsz⟩:=xX a.siz;rw[<-hsz] at FA CP;clear hk hz HA ka ha h2 h0 hs s0 s1 hsz;obtain⟨_,gd,_⟩:=FA.o _ _ K5.o;go_wp2_with fail;refine(CP.o w5).mono ?_;rintro e w6 ⟨A',rfl,L6⟩;go_wp2;go_ret2;exact HQ.o _ _ rfl (step M5.o L6)
 have h2:q1a c a=0:=by unfold q1a;rw[if_pos ⟨hk,hz,λ_=>hs⟩]
 have HQ:Hid (∀e w',(∃v,e=.returned (.tuple #[v,.int .i64 0])/\w6a w' w.heap.size v (le a.dia 2++List.replicate 2 0++le a.siz 4++a.chal)/\BW w w')->F3a w c a e w'):=by intro e w' hh;unfold F3a V2a;rw[h2,if_pos rfl,if_pos h0];exact hh
 have CP:Hid (∀w':World,Calls prog 32 #[.int .u64 a.siz,.int .i64 4] w' λe w2=>∃A',e=.returned (.tuple #[.slice A' 4 4,.int .i64 0])/\p2a w2 w'.heap.size A' (le a.siz 4)/\BW w' w2):=λw'=>by
  have h:=P8a w' a.siz 4 ⟨s0,s1⟩ (by omega);unfold z5a at h;have hp:N4a a.siz 4=true:=by unfold N4a;rw[show((4:Int).toNat)=4 from rfl,show(256:Int)^4=4294967296 from by decide,decide_eq_true hs];rfl
  unfold e7a N5a at h;rw[if_pos hp,if_pos hp,show((4:Int).toNat)=4 from rfl,g0a] at h;exact h
 have CD:Hid (∀w':World,Calls prog 87 #[.int .u64 a.dia,.int .i64 2] w' λe w2=>∃A',e=.returned (.slice A' 2 2)/\p2a w2 w'.heap.size A' (le a.dia 2)/\BW w' w2):=λw'=>x2b w' a.dia d0 d1
 have CC:Hid (∀(w:World) (gs m:Nat) (A:Nat->Option Addr) (n c:Nat->Nat) (X:Nat->List Int),W3a w gs m A n c X->m<=1000->x0b n m<=140737488355328->Calls prog 18 #[.slice (some ⟨gs,0,none⟩) m m] w λe w'=>∃v,e=.returned v/\w6a w' w.heap.size v (v5a X m)/\BW w w'):=L2a;have hdz:IntKind.u64.wrap a.dia=a.dia:=by rw[IntKind.wrap_u64];omega
 have HLS:Hid ((le a.siz 4).length=4):=g0a _ _;have HBS:Hid (Bytes (le a.siz 4)):=F0a _ _;have HLD:Hid ((le a.dia 2).length=2):=g0a _ _;have HBD:Hid (Bytes (le a.dia 2)):=F0a _ _;obtain⟨ls,hls⟩:=xX (le a.siz 4);obtain⟨ld,hld⟩:=xX (le a.dia 2);rw[<-hls,<-hld] at HQ;rw[<-hls] at CP HLS HBS;rw[<-hld] at CD HLD HBD;obtain⟨sz,hsz⟩:=xX a.siz;obtain⟨dz,hdz'⟩:=xX a.dia;obtain⟨ch,hch⟩:=xX a.chal;rw[<-hsz,<-hdz',<-hch] at FA;rw[<-hsz] at CP;rw[<-hdz'] at CD hdz;rw[<-hch] at HQ;clear hk hz HA ka ha h2 h0 hs s0 s1 d0 d1 hsz hdz' hch hls hld;obtain⟨_,gd,_⟩:=FA.o _ _ K5.o;go_wp2_with fail;refine(CP.o w5).mono ?_;rintro e w6 ⟨A6,rfl,hf6,L6⟩;have K6:=hI (K5.o.over L6);have M6:=hI (step M5.o L6);have HF6:=hI (hf6.holds HLS.o HBS.o (by omega));clear hf6 L6 gd CP K5;go_upto_region 9 with fail
 refine wp_region_held (S:=λw'=>Blk w' g 39 cs) (by kernel_rfl) ?_;change wpAnyH _ _ _ _ _ _ _ _ w6.drew
 have S0:Hid (Blk w6.drew g 39 cs):=K6.o.drew;have b0:Hid (BW w w6.drew):=M6.o.drew;refine tK 0 _ rfl (w0a (by kernel_rfl) _ (.tmp 3) 0 rfl (.pointer (some ⟨g,0,none⟩)) (.pointer (some ⟨g,0,none⟩)) (by kernel_rfl) (L7a g)) S0.o ?_;refine tK 1 _ rfl (k0a (by kernel_rfl) _ (.tmp 35) rfl g 0 (by kernel_rfl) (.int .u16 dz) (λw h=>(FA.o w g h).1) _ underlying22 rfl) S0.o ?_;refine pK 2 ((.int .u64 dz)) rfl S0.o ?_;refine tK 5 _ rfl (s0a (by kernel_rfl) (.tmp 8) rfl (.slice A6 4 4) (by kernel_rfl)) S0.o ?_;refine tK 6 _ rfl (w0a (by kernel_rfl) _ (.tmp 3) 2 rfl (.pointer (some ⟨g,0,none⟩)) (.pointer (some ⟨g,2,none⟩)) (by kernel_rfl) (N7a g)) S0.o ?_;refine pK 7 ((.slice (some ⟨g,2,none⟩) 8 8)) rfl S0.o ?_;refine j8a 3 4 _ _ (by kernel_rfl) rfl rfl (λK hK=>?_) (λK hK=>?_)
 ·go_simp;refine(CD.o _).mono ?_;rintro e v1 ⟨A3,rfl,hf3,L3⟩;have S1:=hI (S0.o.over L3);have b1:=hI (step b0.o L3);have HN1:=hI (hf3.holds HLD.o HBD.o (by omega));have HS1:=hI (HF6.o.drew.over L3);refine hK _ _ S1.o ?_;clear hK K hf3 L3;refine oN 4 _ rfl λK hK=>?_
  refine C3a rfl _ _ rfl 2 rfl rfl (by omega) ?_;intro v2 R2 b2';have S2:=hI (S1.o.over b2'.o);have b2:=hI (step b1.o b2'.o);have HN2:=hI (HN1.o.over b2'.o);have HS2:=hI (HS1.o.over b2'.o);have HZ2:Hid (Holds v2 v2.heap.size (some ⟨v1.heap.size,0,none⟩) 2 2 (List.replicate 2 0)):=p2a.holds (base:=0) (.inr ⟨_,rfl,Nat.zero_le _,R2.o⟩) rfl (Bytes.zeros 2) (by omega);refine hK _ _ S2.o ?_;clear hK K;refine H2a λa1 ha1=>?_
  refine oN 8 _ rfl λK hK=>?_
  refine P0a rfl _ _ 4 _ rfl underlying94 [.slice A3 2 2,.slice (some ⟨v1.heap.size,0,none⟩) 2 2,.slice A6 4 4,.slice (some ⟨g,2,none⟩) 8 8] (by rw[ha1];kernel_rfl) ?_;intro g9 v3 q2 q3 Y3 b3';have S3:=hI (S2.o.over b3'.o);have b3:=hI (step b2.o b3'.o);obtain⟨_,_,hch⟩:=FA.o _ _ S3.o;have PP:Hid (W3a v3 g9 4 (U0b [(A3,2,2,ld),(some ⟨v1.heap.size,0,none⟩,2,2,List.replicate 2 0),(A6,4,4,ls),(some ⟨g,2,none⟩,8,8,ch)]) (e0b [(A3,2,2,ld),(some ⟨v1.heap.size,0,none⟩,2,2,List.replicate 2 0),(A6,4,4,ls),(some ⟨g,2,none⟩,8,8,ch)]) (V0b [(A3,2,2,ld),(some ⟨v1.heap.size,0,none⟩,2,2,List.replicate 2 0),(A6,4,4,ls),(some ⟨g,2,none⟩,8,8,ch)]) (T3a [(A3,2,2,ld),(some ⟨v1.heap.size,0,none⟩,2,2,List.replicate 2 0),(A6,4,4,ls),(some ⟨g,2,none⟩,8,8,ch)])):=W3a.of_blk [(A3,2,2,ld),(some ⟨v1.heap.size,0,none⟩,2,2,List.replicate 2 0),(A6,4,4,ls),(some ⟨g,2,none⟩,8,8,ch)] Y3.o (List.forall_mem_cons.2 ⟨HN2.o.over b3'.o,List.forall_mem_cons.2 ⟨HZ2.o.over b3'.o,List.forall_mem_cons.2 ⟨HS2.o.over b3'.o,List.forall_mem_cons.2 ⟨hch,λ_ h=>by cases h⟩⟩⟩⟩)
  refine hK _ _ S3.o ?_;clear hK K hch;rw[ha1];clear ha1 a1;refine oN 9 _ rfl λK hK=>?_
  go_simp;refine(CC.o v3 g9 4 _ _ _ _ PP.o (by omega) (by show 0+2+2+4+8<=_;omega)).mono ?_;rintro e v4 ⟨v,rfl,ho,L4⟩;have HOUT:=hI ho;have S4:=hI (S3.o.over L4);have b4:=hI (step b3.o L4);refine hK _ _ S4.o ?_;clear hK K ho L4;refine oN 10 _ rfl λK hK=>?_
  go_simp;refine hK _ _ S4.o ?_;clear hK K;refine oN 11 _ rfl λK hK=>?_
  go_simp;refine hK _ _ S4.o ?_;clear hK K;refine dN ?_;go_wp2;go_ret2;refine HQ.o _ _ ⟨_,rfl,?_,b4.o⟩;have h9:=HOUT.o.mono (base':=w.heap.size) b3.o.size;simpa[v5a,T3a,List.append_assoc] using h9
 ·refine C3a rfl _ _ rfl 2 rfl rfl (by omega) ?_;intro v1 R1 b1';have S1:=hI (S0.o.over b1'.o);have b1:=hI (step b0.o b1'.o);have HS1:=hI (HF6.o.drew.over b1'.o);have HZ1:Hid (Holds v1 v1.heap.size (some ⟨w6.drew.heap.size,0,none⟩) 2 2 (List.replicate 2 0)):=p2a.holds (base:=0) (.inr ⟨_,rfl,Nat.zero_le _,R1.o⟩) rfl (Bytes.zeros 2) (by omega);refine hK _ _ S1.o ?_;clear hK K;refine oN 3 _ rfl λK hK=>?_
  go_simp;refine(CD.o _).mono ?_;rintro e v2 ⟨A3,rfl,hf3,L3⟩;have S2:=hI (S1.o.over L3);have b2:=hI (step b1.o L3);have HN2:=hI (hf3.holds HLD.o HBD.o (by omega));have HS2:=hI (HS1.o.over L3);have HZ2:=hI (HZ1.o.over L3);refine hK _ _ S2.o ?_;clear hK K hf3 L3;refine H2a λa1 ha1=>?_
  refine oN 8 _ rfl λK hK=>?_
  refine P0a rfl _ _ 4 _ rfl underlying94 [.slice A3 2 2,.slice (some ⟨w6.drew.heap.size,0,none⟩) 2 2,.slice A6 4 4,.slice (some ⟨g,2,none⟩) 8 8] (by rw[ha1];kernel_rfl) ?_;intro g9 v3 q2 q3 Y3 b3';have S3:=hI (S2.o.over b3'.o);have b3:=hI (step b2.o b3'.o);obtain⟨_,_,hch⟩:=FA.o _ _ S3.o;have PP:Hid (W3a v3 g9 4 (U0b [(A3,2,2,ld),(some ⟨w6.drew.heap.size,0,none⟩,2,2,List.replicate 2 0),(A6,4,4,ls),(some ⟨g,2,none⟩,8,8,ch)]) (e0b [(A3,2,2,ld),(some ⟨w6.drew.heap.size,0,none⟩,2,2,List.replicate 2 0),(A6,4,4,ls),(some ⟨g,2,none⟩,8,8,ch)]) (V0b [(A3,2,2,ld),(some ⟨w6.drew.heap.size,0,none⟩,2,2,List.replicate 2 0),(A6,4,4,ls),(some ⟨g,2,none⟩,8,8,ch)]) (T3a [(A3,2,2,ld),(some ⟨w6.drew.heap.size,0,none⟩,2,2,List.replicate 2 0),(A6,4,4,ls),(some ⟨g,2,none⟩,8,8,ch)])):=W3a.of_blk [(A3,2,2,ld),(some ⟨w6.drew.heap.size,0,none⟩,2,2,List.replicate 2 0),(A6,4,4,ls),(some ⟨g,2,none⟩,8,8,ch)] Y3.o (List.forall_mem_cons.2 ⟨HN2.o.over b3'.o,List.forall_mem_cons.2 ⟨HZ2.o.over b3'.o,List.forall_mem_cons.2 ⟨HS2.o.over b3'.o,List.forall_mem_cons.2 ⟨hch,λ_ h=>by cases h⟩⟩⟩⟩)
  refine hK _ _ S3.o ?_;clear hK K hch;rw[ha1];clear ha1 a1;refine oN 9 _ rfl λK hK=>?_
  go_simp;refine(CC.o v3 g9 4 _ _ _ _ PP.o (by omega) (by show 0+2+2+4+8<=_;omega)).mono ?_;rintro e v4 ⟨v,rfl,ho,L4⟩;have HOUT:=hI ho;have S4:=hI (S3.o.over L4);have b4:=hI (step b3.o L4);refine hK _ _ S4.o ?_;clear hK K ho L4;refine oN 10 _ rfl λK hK=>?_
  go_simp;refine hK _ _ S4.o ?_;clear hK K;refine oN 11 _ rfl λK hK=>?_
  go_simp;refine hK _ _ S4.o ?_;clear hK K;refine dN ?_;go_wp2;go_ret2;refine HQ.o _ _ ⟨_,rfl,?_,b4.o⟩;have h9:=HOUT.o.mono (base':=w.heap.size) b3.o.size;simpa[v5a,T3a,List.append_assoc] using h9
theorem I2b(w:World)(c:Int)(cs:List Value)(a:l1a)(hc:0<=c/\c<=65535)(ka:a.ok)(ha:g1a w w.heap.size cs a)(hu:a.user.size<=17592186044416/\a.share.size<=17592186044416)(hT:E8a w) :
  Calls prog 60 #[.int .u16 c,.agg cs.toArray] w (g3c w c a):=(X6a w c cs a hc ka ha hu hT).mono λe w' ⟨v,h1,h2,h3⟩=>⟨v,h1,h2.own8,h3⟩
theorem J2b(w:World)(c:Int)(cs:List Value)(a:O1a)(hc:0<=c/\c<=65535)(ka:a.ok)(ha:s1a w w.heap.size cs a) :
  Calls prog 62 #[.int .u16 c,.agg cs.toArray] w (h3c w c a):=(Y6a w c cs a hc ka ha).mono λe w' ⟨v,h1,h2,h3⟩=>⟨v,h1,h2.own8,h3⟩
theorem y9b(xs:List Int)(p s:Nat):Y0a (xs.drop p) 0 s=Y0a xs p s:=by unfold Y0a;rw[List.drop_zero]
theorem K2b(xs:List Int)(p:Nat):W0b (xs.drop p) 0=W0b xs (p:Int):=by unfold W0b;rw[Int.toNat_natCast];exact y9b xs p 2
theorem Y7a(xs:List Int)(p:Nat)(m:Int)(hp:p<=xs.length):X1a (xs.drop p) 0 m=X1a xs (p:Int) m:=by
 unfold X1a;rw[K2b,List.length_drop];have e1:((xs.length-p:Nat):Int)-0=(xs.length:Int)-p:=by omega
 rw[if_neg (show ¬((0:Int)<0∨((xs.length-p:Nat):Int)<0) by omega),e1,if_neg (show ¬((p:Int)<0∨(xs.length:Int)<p) by omega)]
theorem L2b(xs:List Int)(p:Nat)(m:Int)(hp:p<=xs.length):d2a (xs.drop p) 0 m=d2a xs (p:Int) m:=by unfold d2a;rw[Y7a xs p m hp,K2b,Int.toNat_natCast,show Int.toNat 0=0 from rfl,Nat.zero_add,List.drop_drop]
theorem z9b(xs:List Int)(p:Nat)(hp:p<=xs.length):V0a (xs.drop p) 0=V0a xs (p:Int)/\Y1a (xs.drop p) 0=Y1a xs (p:Int)/\(V0a xs (p:Int)=0->Z0a (xs.drop p) 0+p=Z0a xs (p:Int)):=by
 have e1:V0a (xs.drop p) 0=V0a xs (p:Int):=by unfold V0a;rw[Y7a xs p 512 hp,L2b xs p 512 hp]
 refine⟨e1,?_,?_⟩
 ·unfold Y1a;rw[e1,L2b xs p 512 hp]
 ·intro h;unfold Z0a;rw[e1,if_pos h,if_pos h];unfold L3a;rw[Y7a xs p 512 hp,K2b];have hg:X1a xs (p:Int) 512=0:=by
   unfold V0a at h;by_cases hg:X1a xs (p:Int) 512=0
   ·exact hg
   ·rw[if_neg hg] at h;exact absurd h hg
  rw[if_pos hg,if_pos hg];omega
def n3c(w:World)(g B:Nat)(xs:List Int)(q:List UInt8×Rd)(e:Ending)(w':World):Prop:=e=.returned (.string ⟨q.1.toArray⟩)/\PF w' g B xs q.2/\W0a g w w'
theorem x1c(w:World)(g B:Nat)(xs:List Int)(r:Rd)(hx:Bytes xs)(hP:PF w g B xs r) :
  Calls prog 96 #[.pointer (some ⟨g,0,none⟩)] w (n3c w g B xs (M1a xs r)):=by
 have HP0:=hI hP;obtain⟨p,er⟩:=r;obtain⟨hp,hg,A,n,c,hB,hh⟩:=hP;change p<=xs.length at hp
 change Blk w g _ [.slice A n c,.int .i64 er] at hB
 change Holds w B A n c (xs.drop p) at hh
 have hl:xs.length-p=n:=by rw[<-hh.len,List.length_drop]
 have hrm:=hh.room;have hft:=hh.fit;have hlt:=hB.lt;have c0:w.cell? ⟨g,0,none⟩=some (.slice A n c):=Blk.at hB rfl;have c1:w.cell? ⟨g,1,none⟩=some (.int .i64 er):=Blk.at hB rfl;by_cases he:er=0;rotate_left
 ·have HQ:Hid (∀e w',(e=.returned (.string .empty)/\PF w' g B xs ⟨p,er⟩/\W0a g w w')->n3c w g B xs (M1a xs ⟨p,er⟩) e w'):=by intro e w' h;unfold M1a;rw[if_neg he];exact h
  have hne:(er != 0)=true:=by simpa using he
  clear hB hh hl he hp;go_enter func96,ntmps96;go_wp2;go_ret;exact HQ.o _ _ ⟨rfl,HP0.o,W0a.refl g w⟩
 subst he;obtain⟨t1,t2,t3⟩:=z9b xs p hp;obtain⟨n0,n1⟩:=c4a (hx.drop p) 0 (Int.le_refl 0);have C1:=Q8a w A n c (xs.drop p) 0 (hh.mono (by omega)) (by omega);unfold s3a at C1;rw[t1,t2] at C1;rw[List.length_drop,hl] at n1;obtain⟨j,hj⟩:=Int.eq_ofNat_of_zero_le n0;rw[hj] at C1 n1 t3;have hjn:j<=n:=by omega
 have HQ:Hid (∀e w',(e=.returned (.string ⟨(Y1a xs (p:Int)).toArray⟩)/\PF w' g B xs ⟨p+j,V0a xs (p:Int)⟩/\W0a g w w')->n3c w g B xs (M1a xs ⟨p,0⟩) e w'):=by
  intro e w' h;unfold M1a;rw[if_pos rfl];have e2:(if V0a xs (p:Int)=0 then (Z0a xs (p:Int)).toNat else p)=p+j:=by
   by_cases h0:V0a xs (p:Int)=0
   ·rw[if_pos h0,<-t3 h0];omega
   ·rw[if_neg h0];have:(j:Int)=0:=by rw[<-hj];unfold Z0a;rw[t1,if_neg h0]
    omega
  show n3c w g B xs (_,⟨if V0a xs ((p:Nat):Int)=0 then (Z0a xs ((p:Nat):Int)).toNat else p,_⟩) e w'
  rw[e2];exact h
 have hd:(xs.drop p).drop j=xs.drop (p+j):=by rw[List.drop_drop]
 have hrst:=hh.rest (k:=j) hjn;rw[hd] at hrst;have HK:Hid (∀w1,BW w w1->w1.cell? ⟨g,0,none⟩=some (.slice A n c)/\w1.cell? ⟨g,1,none⟩=some (.int .i64 0)/\w1.frozen? ⟨g,0,none⟩=false/\w1.frozen? ⟨g,1,none⟩=false/\∀v,(w1.setCell ⟨g,0,none⟩ v).frozen? ⟨g,1,none⟩=false/\(w1.setCell ⟨g,0,none⟩ v).cell? ⟨g,1,none⟩=some (.int .i64 0)):=by intro w1 hb;have h1:=hB.over hb;exact⟨h1.at rfl,h1.at rfl,h1.frozen 0,h1.frozen 1,λv=>⟨(h1.set 0 v).frozen 1,(h1.set 0 v).at rfl⟩⟩
 obtain⟨tx,htx⟩:=xX (Y1a xs (p:Int));obtain⟨ex,hex⟩:=xX (V0a xs (p:Int));rw[<-htx,<-hex] at C1 HQ;have HB0:=hI hB;have HS:Hid (∀(w1:World) (u v:Value),BW w w1->W0a g w ((w1.setCell ⟨g,0,none⟩ u).setCell ⟨g,1,none⟩ v)):=λw1 u v hb=>((W0a.of_below hb g).setCell 0 u).setCell 1 v
 have C1':=hI C1;by_cases hcj:c=j
 ·rw[if_pos hcj] at hrst;subst hcj;have HPF:Hid (∀w1,BW w w1->PF ((w1.setCell ⟨g,0,none⟩ (.slice A 0 0)).setCell ⟨g,1,none⟩ (.int .i64 ex)) g B xs ⟨p+c,ex⟩):=by
   intro w1 hb;have hr2:Holds w B A 0 0 (xs.drop (p+c)):=by
    have h0:n-c=0:=by omega
    simpa[h0] using hrst
   exact⟨by show p+c<=_;omega,hg,_,_,_,Blk.set (Blk.set (hB.over hb) 0 _) 1 _,((hr2.below (hb.mono (by omega))).only (d1a w1 g 0 _) hg).only (d1a _ g 1 _) hg⟩
  clear C1 hB hh hl hp t1 t2 t3 n0 n1 hj htx hex hd hrst c1;go_enter func96,ntmps96;have c1:w.cell? ⟨g,1,none⟩=some (.int .i64 0):=HB0.o.at rfl;go_wp2_with fail;refine C1'.o.mono ?_;rintro e w1 ⟨rfl,hb⟩;have HPW:=hI (HPF.o w1 hb);have HSW:=hI (HS.o w1 (.slice A 0 0) (.int .i64 ex) hb);obtain⟨k0,k1,k2,k3,k4⟩:=HK.o w1 hb;obtain⟨k5,k6⟩:=k4 (.slice A 0 0);clear k4 hb HPF HK HS;go_wp2;go_ret;exact HQ.o _ _ ⟨rfl,HPW.o,HSW.o⟩
 ·rw[if_neg hcj] at hrst;have HPF:Hid (∀w1,BW w w1->PF ((w1.setCell ⟨g,0,none⟩ (.slice (A.map (·.add j)) (n-j) (c-j))).setCell ⟨g,1,none⟩ (.int .i64 ex)) g B xs ⟨p+j,ex⟩):=by intro w1 hb;exact⟨by show p+j<=_;omega,hg,_,_,_,Blk.set (Blk.set (hB.over hb) 0 _) 1 _,((hrst.below (hb.mono (by omega))).only (d1a w1 g 0 _) hg).only (d1a _ g 1 _) hg⟩
  clear C1 hB hh hl hp t1 t2 t3 n0 n1 hj htx hex hd hrst c1;go_enter func96,ntmps96;have c1:w.cell? ⟨g,1,none⟩=some (.int .i64 0):=HB0.o.at rfl;go_wp2_with fail;refine C1'.o.mono ?_;rintro e w1 ⟨rfl,hb⟩;have HPW:=hI (HPF.o w1 hb);have HSW:=hI (HS.o w1 (.slice (A.map (·.add j)) (n-j) (c-j)) (.int .i64 ex) hb);obtain⟨k0,k1,k2,k3,k4⟩:=HK.o w1 hb;obtain⟨k5,k6⟩:=k4 (.slice (A.map (·.add j)) (n-j) (c-j));clear k4 hb HPF HK HS;go_wp2;go_ret;exact HQ.o _ _ ⟨rfl,HPW.o,HSW.o⟩
def y1c(w:World)(g B:Nat)(xs:List Int)(q:List Int×Rd)(e:Ending)(w':World):Prop:=∃v,e=.returned v/\b1a .u8 5 w' w.heap.size v q.1/\PF w' g B xs q.2/\W0a g w w'
theorem C4c(A:Option Addr)(k:Nat)(ys:List Int):v5a (T3a [(A,k,k,ys)]) 1=ys:=by
 show[]++ys=ys
 rfl
theorem g6b(w:World)(g B:Nat)(xs:List Int)(r:Rd)(hx:Bytes xs)(hP:PF w g B xs r) :
  Calls prog 97 #[.pointer (some ⟨g,0,none⟩)] w (y1c w g B xs (k4a xs r)):=by
 have hlt:=hP.lt;have hBg:=hP.2.1;have C1:=f6b w g B xs r 4 32768 hx hP (by decide) (by decide);obtain⟨m0,m1⟩:=o3a hx 4 32768 3 r (by decide) (by decide);unfold f3b at C1;have hq:∀e w',y1c w g B xs (y0a xs (a1a xs 4 32768 3 r).1.toNat (a1a xs 4 32768 3 r).2) e w'->y1c w g B xs (k4a xs r) e w':=λ_ _ h=>h
 obtain⟨q,hqq⟩:=xX (a1a xs 4 32768 3 r);rw[<-hqq] at C1 m0 m1 hq;obtain⟨z,p⟩:=q;change 0<=z at m0
 change z<=32768 at m1
 obtain⟨m,rfl⟩:=Int.eq_ofNat_of_zero_le m0;change ∀e w',y1c w g B xs (y0a xs ((m:Int)).toNat p) e w'->_ at hq
 rw[Int.toNat_natCast] at hq;have hm:m<=32768:=by omega
 have CC:Hid (∀w,PF w g B xs p->Calls prog 134 #[.pointer (some ⟨g,0,none⟩),.int .i64 (m:Int)] w (V8a w g B xs (y0a xs m p))):=λw h=>S4b w g B xs p m h (by omega)
 have hyl:(y0a xs m p).1.length<=m:=t6a;have HQ:Hid (∀e w',(∃v,e=.returned v/\b1a .u8 5 w' w.heap.size v (y0a xs m p).1/\PF w' g B xs (y0a xs m p).2/\W0a g w w')->y1c w g B xs (k4a xs r) e w'):=λe w' h=>hq e w' h
 obtain⟨d,hd⟩:=xX (y0a xs m p);rw[<-hd] at CC HQ hyl;obtain⟨ys,q⟩:=d;change ys.length<=m at hyl
 have C1':=hI C1;clear C1 hqq hq hd hP m0 m1;go_enter func97,ntmps97;go_wp2_with fail;refine C1'.o.mono ?_;rintro e w1 ⟨rfl,hP1,hO1⟩;have HP1:=hI hP1;have HO1:=hI hO1;clear hP1 hO1 C1';go_wp2_with fail;refine(CC.o w1 HP1.o).mono ?_;rintro e w2 ⟨A',k,rfl,hk,hH,hP2,hO2⟩;have HH:=hI hH;have HP2:=hI hP2;have HS2:Hid (W0a g w w2):=(W0a.of_only HO1.o).trans (W0a.of_only hO2);have HKY:Hid (k=ys.length):=hk;have hk3:k<=32768:=by rw[hk];exact Nat.le_trans hyl hm
 clear hH hP2 hO2 HO1 HP1 CC hk;have hsz:w.heap.size<=w2.heap.size:=HS2.o.size;have hB2:B<=w2.heap.size:=by omega
 go_wp2_with(first|(refine sN 7 ?_;refine u2a rfl 1 _ rfl [(A',k,k,ys)] rfl (by kernel_rfl) (λp hp=>by rw[List.mem_singleton.1 hp];exact HH.o.mono hB2) ?_;intro g3 w3 hP3 L3)|fail)
 have HCC:=hI (L2a w3 g3 1 _ _ _ _ hP3.o (by decide) (by show 0+k<=_;omega));have HP3:=hI (HP2.o.below L3.o);have HS3:=hI (HS2.o.trans (W0a.of_below L3.o g));have hsz3:=L3.o.size;clear hP3 L3 HH;go_wp2_with fail;refine HCC.o.mono ?_;rintro e w4 ⟨v,rfl,hv,L4⟩;rw[C4c] at hv;have HV:=hI (b1a.mono hv (Nat.le_trans hsz hsz3));have HP4:=hI (HP3.o.below L4);have HS4:=hI (HS3.o.trans (W0a.of_below L4 g));clear hv L4 HCC HP3 HS3;go_wp2;go_ret;exact HQ.o _ _ ⟨_,rfl,HV.o,HP4.o,HS4.o⟩
theorem PF.belowAt{w w':World}{g B b:Nat}{xs:List Int}{r:Rd}(h:PF w g B xs r)(hb:Below b w w')(hg:g<b):PF w' g B xs r:=by obtain⟨h1,h2,A,n,c,hB,hx⟩:=h;exact⟨h1,h2,A,n,c,hB.below hb hg,hx.below (hb.mono (by omega))⟩
theorem c1a.oneLock{w:World}{g:Nat}{T:TypeId}{l:r2a}(h:Blk w g T (H0a l)):c1a H0a 4 w (g+1) (some ⟨g,0,none⟩) 1 1 [l]:=by
 refine⟨rfl,Nat.le_refl _,λhA=>(by cases hA),λ_=>⟨g,0,rfl,by omega,λi x hx j u hu=>?_⟩⟩;have hi:i=0:=by have:=(List.getElem?_eq_some_iff.1 hx).1;simpa using this
 subst hi;have hx2:l=x:=by simpa using hx
 subst hx2;rw[Nat.zero_mul,Nat.zero_add,Nat.zero_add,h.cell];exact hu
def h6b(w:World)(g B:Nat)(xs:List Int)(q:List r2a×Rd)(e:Ending)(w':World):Prop:=∃v,e=.returned v/\F6a H0a 4 104 w' w.heap.size v q.1/\PF w' g B xs q.2/\W0a g w w'
theorem A9b(w:World)(g B:Nat)(xs:List Int)(r:Rd)(hx:Bytes xs)(hP:PF w g B xs r) :
  Calls prog 98 #[.pointer (some ⟨g,0,none⟩)] w (h6b w g B xs (u7a xs r)):=by
 have hlt:=hP.lt;have hBg:=hP.2.1;have C1:=f6b w g B xs r 2 16 hx hP (by decide) (by decide);obtain⟨m0,m1⟩:=o3a hx 2 16 3 r (by decide) (by decide);unfold f3b at C1;have hq:∀e w',h6b w g B xs (z1a xs (rdZ xs 2 (a1a xs 2 16 3 r).2) (a1a xs 2 16 3 r).1.toNat) e w'->h6b w g B xs (u7a xs r) e w':=λ_ _ h=>h
 obtain⟨q,hqq⟩:=xX (a1a xs 2 16 3 r);rw[<-hqq] at C1 m0 m1 hq;obtain⟨z,p⟩:=q;change 0<=z at m0
 change z<=16 at m1
 obtain⟨N,rfl⟩:=Int.eq_ofNat_of_zero_le m0;change ∀e w',h6b w g B xs (z1a xs (rdZ xs 2 p) ((N:Int)).toNat) e w'->_ at hq
 rw[Int.toNat_natCast] at hq;have hN:N<=16:=by omega
 have CZ:Hid (∀(w:World) (r:Rd),PF w g B xs r->Calls prog 95 #[.pointer (some ⟨g,0,none⟩),.int .i64 2] w λe w'=>e=.returned (.tuple #[])/\PF w' g B xs (rdZ xs 2 r)/\s2a g w w'):=λw r h=>W6a w g B xs r 2 hx h (by decide)
 have C8:Hid (∀(w:World) (r:Rd),PF w g B xs r->Calls prog 94 #[.pointer (some ⟨g,0,none⟩)] w λe w'=>e=.returned (.int .u64 (rdN xs 8 r).1)/\PF w' g B xs (rdN xs 8 r).2/\s2a g w w'):=λw r h=>t3a w g B xs r hx h
 have C2:Hid (∀(w:World) (r:Rd),PF w g B xs r->Calls prog 136 #[.pointer (some ⟨g,0,none⟩)] w λe w'=>e=.returned (.int .u16 (rdN xs 2 r).1)/\PF w' g B xs (rdN xs 2 r).2/\s2a g w w'):=λw r h=>m8b w g B xs r hx h
 have HQ:Hid (∀e w',(∃v,e=.returned v/\F6a H0a 4 104 w' w.heap.size v (z1a xs (rdZ xs 2 p) N).1/\PF w' g B xs (z1a xs (rdZ xs 2 p) N).2/\W0a g w w')->h6b w g B xs (u7a xs r) e w'):=λe w' h=>hq e w' h
 obtain⟨qz,hqz⟩:=xX (rdZ xs 2 p);rw[<-hqz] at HQ;have HQZ:=hI hqz;have HST:Hid (∀j,(z1a xs qz (j+1)).1=(z1a xs qz j).1++[(⟨0,(rdN xs 8 (z1a xs qz j).2).1,(rdN xs 8 (rdN xs 8 (z1a xs qz j).2).2).1,(rdN xs 2 (rdN xs 8 (rdN xs 8 (z1a xs qz j).2).2).2).1⟩:r2a)]/\(z1a xs qz (j+1)).2=rdZ xs 2 (rdN xs 2 (rdN xs 8 (rdN xs 8 (z1a xs qz j).2).2).2).2):=λj=>⟨rfl,rfl⟩
 have HLN:Hid (∀j,(z1a xs qz j).1.length=j):=λj=>G2b j
 obtain⟨lk,hlk⟩:=xX (z1a xs qz);have H0:Hid (lk 0=([],qz)):=by show _=_;rw[hlk];rfl
 rw[<-hlk] at HST HLN HQ;have BL:∀x y z:Int,prog.built 104 [(1,.int .u64 x),(2,.int .u64 y),(3,.int .u16 z)]=some (H0a ⟨0,x,y,z⟩).toArray:=λx y z=>by kernel_rfl
 have BS:∀l:r2a,prog.builtSlice 104 1 [(0,.agg (H0a l).toArray)]=some (H0a l).toArray:=λl=>by kernel_rfl
 have C1':=hI C1;clear C1 hqq hq hqz hlk hP m0 m1;go_enter func98,ntmps98;go_wp2_with fail;refine C1'.o.mono ?_;rintro e w1 ⟨rfl,hP1,hO1⟩;have HP1:=hI hP1;have HO1:=hI hO1;clear hP1 hO1 C1';go_wp2_with fail;refine(CZ.o w1 p HP1.o).mono ?_;rintro e w2 ⟨rfl,hP2,hO2⟩;rw[<-HQZ.o] at hP2;have HP2:=hI hP2;have HS2:Hid (W0a g w w2):=(W0a.of_only HO1.o).trans (W0a.of_only hO2);clear hP2 hO2 HO1 HP1 HQZ;go_wp2;go_loopw [3,10] (λv i wr=>∃j:Nat,i=.int .i64 j/\j<=N/\Hid (F6a H0a 4 104 wr w.heap.size v (lk j).1)/\Hid (PF wr g B xs (lk j).2)/\Hid (W0a g w wr)) (λ_ i _=>N-(intOf i).toNat)
 case atStart=>exact⟨0,rfl,Nat.zero_le _,by rw[H0.o];exact F6a.nil _ _ _ _ _,by rw[H0.o];exact HP2,HS2⟩
 case round=>
  obtain⟨j,rfl,hj,HO,HP,HS⟩:=hrel;by_cases hlt2:j<N
  ·obtain⟨E1,E2⟩:=HST.o j;have hLn:=HLN.o j;have HE1:=hI E1;have HE2:=hI E2;obtain⟨r0,hr0⟩:=xX ((lk j).2);rw[<-hr0] at HP HE1 HE2;obtain⟨L,hL⟩:=xX ((lk j).1);rw[<-hL] at HO HE1 hLn;obtain⟨r1,hr1⟩:=xX (rdN xs 8 r0);rw[<-hr1] at HE1 HE2;have D1:=C8.o wr r0 HP.o;rw[<-hr1] at D1;obtain⟨r2,hr2⟩:=xX (rdN xs 8 r1.2);rw[<-hr2] at HE1 HE2;have D2:=λw h=>C8.o w r1.2 h
   rw[<-hr2] at D2;obtain⟨r3,hr3⟩:=xX (rdN xs 2 r2.2);rw[<-hr3] at HE1 HE2;have D3:=λw h=>C2.o w r2.2 h
   rw[<-hr3] at D3;have D4:=λw h=>CZ.o w r3.2 h
   rw[<-HE2.o] at D4;have D1':=hI D1;have D2':=hI D2;have D3':=hI D3;have D4':=hI D4;have hsz:=HS.o.size;clear E1 E2 hr0 hL hr1 hr2 hr3 D1 D2 D3 D4 HE2;go_wp2_with fail;refine D1'.o.mono ?_;rintro e v1 ⟨rfl,hP1,hO1⟩;have HPa:=hI hP1;have HSa:=hI (HS.o.trans (W0a.of_only hO1));have HOa:=hI (HO.o.only hO1 hlt);clear hP1 hO1 D1' HO HP;go_wp2_with fail;refine(D2'.o v1 HPa.o).mono ?_;rintro e v2 ⟨rfl,hP1,hO1⟩;have HPb:=hI hP1;have HSb:=hI (HSa.o.trans (W0a.of_only hO1));have HOb:=hI (HOa.o.only hO1 hlt);clear hP1 hO1 D2' HOa HPa HSa;go_wp2_with fail;refine(D3'.o v2 HPb.o).mono ?_;rintro e v3 ⟨rfl,hP1,hO1⟩;have HPc:=hI hP1;have HSc:=hI (HSb.o.trans (W0a.of_only hO1));have HOc:=hI (HOb.o.only hO1 hlt);clear hP1 hO1 D3' HOb HPb HSb;obtain⟨l,hl⟩:∃l:r2a,l=⟨0,r1.1,r2.1,r3.1⟩:=⟨_,rfl⟩;rw[<-hl] at HE1;have BLl:=BL r1.1 r2.1 r3.1;rw[<-hl] at BLl;have hszc:=HSc.o.size;clear hl;go_wp2_with(first|(refine sN 19 ?_;refine v0a rfl _ _ rfl (H0a l) (by refine Eq.trans ?_ BLl;kernel_rfl) ?_)|(refine sN 20 ?_;refine o1a rfl _ _ 1 _ rfl underlying32 (H0a l) (by refine Eq.trans ?_ (BS l);kernel_rfl) ?_;intro gl v4 hgl1 hgl2 K4 L4;have HOd:=hI (HOc.o.below L4.o);have HPd:=hI (HPc.o.below L4.o);have HSd:=hI (HSc.o.trans (W0a.of_below L4.o g));have hszd:=HSd.o.size)|(at_builtin;refine S8a rfl (.tmp 12) (.tmp 20) H0a 4 (by omega) i5a o9a _ rfl 32 104 32 underlying32 I0c rfl w.heap.size _ L rfl HOd.o (gl+1) _ 1 1 [l] rfl (c1a.oneLock K4.o) (by rw[hLn];show(j+1)*32<=_;omega) (by rw[hLn];show j+1<=_;omega) hszd ?_;intro u5 v5 HOe L5)|fail)
   have HPe:=hI (PF.belowAt HPd.o L5.o hlt);have HSe:=hI (W0a.thenBelow HSd.o L5.o);clear HOd HPd HSd HPc HSc HOc K4 L4 L5 BLl;refine(D4'.o v5 HPe.o).mono ?_;rintro e v6 ⟨rfl,hP1,hO1⟩;have HPf:=hI hP1;have HSf:=hI (HSe.o.trans (W0a.of_only hO1));have HOf:=hI (HOe.o.only hO1 hlt);rw[<-HE1.o] at HOf;clear hP1 hO1 D4' HOe HPe HSe HE1;go_wp2;go_roundw
   case rel=>exact⟨j+1,by simp,by omega,HOf,HPf,HSf⟩
   case measure=>simp[intOf];omega
  ·obtain rfl:j=N:=by omega
   go_wp2;go_ret;exact HQ.o _ _ ⟨_,rfl,HO.o,HP.o,HS.o⟩
end Go.Proofs.YtjpcifmeimcikaaGreatDoor
