import Derived.Test.YtgfflnjggnadpaaGreatDoorZAC
import Derived.Test.YtgfflnjggnadpaaGreatDoorS0
set_option linter.all false
set_option maxHeartbeats 8000000
set_option maxRecDepth 100000
namespace Go.Proofs.YtgfflnjggnadpaaGreatDoor
open Go.RowKit
set_option maxRecDepth 100000
abbrev T5a(w:World)(base:Nat)(v:Value)(xs:List Int):Prop:=X0a .u8 5 w base v xs
theorem X0a.own8{w:World}{base:Nat}{v:Value}{xs:List Int}(h:X0a .u8 5 w base v xs):Own w base v xs:=h.own
theorem X0a.holds8{w:World}{base:Nat}{v:Value}{xs:List Int}(h:X0a .u8 5 w base v xs)(hx:Bytes xs)(hn:xs.length<=281474976710656) :
  ∃A c,v=.slice A xs.length c/\Holds w w.heap.size A xs.length c xs:=h.own8.holds hx hn
theorem r2a.ownB{w:World}{base n:Nat}{A:Option Addr}{xs:List Int}(h:r2a w base A xs)(hl:xs.length=n)(hn:n<=281474976710656):X0a .u8 5 w base (.slice A n n) xs:=by
 rcases h with⟨rfl,rfl⟩ | ⟨g,rfl,hb,hr⟩
 ·obtain rfl:n=0:=hl.symm;exact X0a.nil _ _ _ _
 ·refine .inr ⟨g,0,by rw[hl,Nat.add_zero],hb,by unfold maxLen;omega,?_⟩;rw[List.replicate_zero,List.append_nil];exact hr
theorem U5a{w:World}{g base n:Nat}(h:Row w g (List.replicate n 0))(hb:base<=g)(hn:n<=281474976710656):X0a .u8 5 w base (.slice (some ⟨g,0,none⟩) n n) (List.replicate n 0):=r2a.ownB (.inr ⟨g,rfl,hb,h⟩) (by simp) hn
def i5a(w:World)(xs:List Int)(e:Ending)(w':World):Prop:=∃v,e=.returned (.tuple #[v,.int .i64 (l2b xs.length)])/\T5a w' w.heap.size v (rowOf xs)/\Below w.heap.size w w'
def R3a(w:World)(l:List UInt8)(e:Ending)(w':World):Prop:=∃v,e=.returned (.tuple #[v,.int .i64 (y0a l)])/\T5a w' w.heap.size v (A0a l)/\Below w.heap.size w w'
def V5a(w:World)(a:m1a)(e:Ending)(w':World):Prop:=∃v,e=.returned (.tuple #[v,.int .i64 (if a.dial.length<=16 then 0 else 3)])/\T5a w' w.heap.size v (if a.dial.length<=16 then r3a a else [])/\Below w.heap.size w w'
def C2a(w:World)(c:Int)(a:m1a)(e:Ending)(w':World):Prop:=∃v,e=.returned (.tuple #[v,.int .i64 (k1a c a)])/\T5a w' w.heap.size v (H2a c a)/\Below w.heap.size w w'
def v3a(w:World)(c:Int)(s:M1a)(e:Ending)(w':World):Prop:=∃v,e=.returned (.tuple #[v,.int .i64 (z1a c s)])/\T5a w' w.heap.size v (L2a c s)/\Below w.heap.size w w'
theorem k5b(w:World)(A:Option Addr)(n c:Nat)(xs:List Int)(h:Holds w w.heap.size A n c xs) :
  Calls Tryz.prog 162 #[.slice A n c] w (i5a w xs):=by
 have hl:=h.len;have hr:=h.room;have hf:=h.fit;have C1:=d8a w (n:Int) 2 (by omega) (by omega);unfold e5a at C1;have hz:IntKind.u64.wrap (n:Int)=n:=by rw[IntKind.wrap_u64];omega
 by_cases hn:n<=65535
 ·obtain⟨e0,e1⟩:=H0c n hn;rw[e0,e1,g0a] at C1;have HQ:Hid (∀e w',(∃v,e=.returned (.tuple #[v,.int .i64 0])/\T5a w' w.heap.size v (le n 2++xs)/\Below w.heap.size w w')->i5a w xs e w'):=by intro e w' hh;unfold i5a l2b rowOf;rw[hl,if_pos hn,if_pos hn];exact hh
  have HLB:Hid (Bytes (le (n:Int) 2)):=F0a _ _;have HLL:Hid ((le (n:Int) 2).length=2):=g0a _ _;obtain⟨ls,hls⟩:∃ls,ls=le (n:Int) 2:=⟨_,rfl⟩;rw[<-hls] at C1 HQ HLB HLL;have C1':=hI C1;have HX:=hI h;clear C1 hls e0 e1 h hl;go_enter Tryz.func162,Tryz.ntmps162;go_wp2_with fail;refine C1'.out.mono ?_;rintro e w1 ⟨A',rfl,hfr,L1⟩;have H1:=hI (hfr.holds (n:=2) HLL.out HLB.out (by omega));have HX1:=hI (HX.out.over L1);have M1:=hI L1;clear hfr L1 C1' HX;go_wp2_with(first
   | ((with_reducible refine sN 17 ?_);refine Q2a rfl 2 _ rfl [(A',2,2,ls),(A,n,c,xs)] rfl (by kernel_rfl) (List.forall_mem_cons.2 ⟨H1.out,List.forall_mem_cons.2 ⟨HX1.out,λ_ h=>by cases h⟩⟩) ?_;intro g2 w2 P2 b2)
   | fail)
  refine(X2a _ g2 2 _ _ _ _ P2.out (by omega) (by show 0+2+n<=_;omega)).mono ?_;rintro e w3 ⟨v,rfl,ho,L3⟩;have HO:=hI ho;have L3':=hI L3;clear ho L3;go_wp2;go_ret2;refine HQ.out _ _ ⟨_,rfl,?_,step (step M1.out b2.out) L3'.out⟩;have:=HO.out.mono (base':=w.heap.size) (step M1.out b2.out).size;simpa[E7a,d4a] using this
 ·obtain⟨e1,e0⟩:=T0c n hn;rw[e0,e1] at C1;have HQ:Hid (∀e w',(∃v,e=.returned (.tuple #[v,.int .i64 3])/\T5a w' w.heap.size v []/\Below w.heap.size w w')->i5a w xs e w'):=by intro e w' hh;unfold i5a l2b rowOf;rw[hl,if_neg hn,if_neg hn];exact hh
  have C1':=hI C1;clear C1 e0 e1 h hl;go_enter Tryz.func162,Tryz.ntmps162;go_wp2_with fail;refine C1'.out.mono ?_;rintro e w1 ⟨A',rfl,hfr,L1⟩;clear hfr C1';go_wp2;go_ret2;exact HQ.out _ _ ⟨_,rfl,X0a.nil _ _ _ _,L1⟩
theorem A5a(s:ByteArray)(w:World)(hs:s.size<=17592186044416)(hT:V7a w) :
  Calls Tryz.prog 110 #[.string s] w (R3a w s.data.toList):=by
 have C1:=E9b s w hs hT;unfold Z2b at C1;obtain⟨l,hl⟩:∃l,l=s.data.toList:=⟨_,rfl⟩;rw[<-hl] at C1⊢;have hlen:(S1a l).length<=4*s.size:=by
  rw[hl];have:=X2b s.data.toList;have:=N0b s.data.toList;have e:s.data.toList.length=s.size:=by rw[Array.length_toList];rfl
  omega
 have HBY:=hI (M0b l);by_cases ht:q3a l=0;rotate_left
 ·have HQ:Hid (∀e w',e=.returned (.tuple #[.slice none 0 0,.int .i64 (q3a l)])->Below w.heap.size w w'->R3a w l e w'):=by intro e w' he hb;unfold R3a A0a y0a;rw[if_neg ht,if_neg ht];exact⟨_,he,X0a.nil _ _ _ _,hb⟩
  have hne:(q3a l != 0)=true:=by simpa using ht
  obtain⟨er,her⟩:∃er,er=q3a l:=⟨_,rfl⟩;obtain⟨ys,hys⟩:∃ys,ys=S1a l:=⟨_,rfl⟩;rw[<-her] at HQ C1 hne;rw[<-hys] at C1;have C1':=hI C1;clear C1 her ht hl hlen HBY hys;go_enter Tryz.func110,Tryz.ntmps110;go_wp2_with fail;refine C1'.out.mono ?_;rintro e w1 ⟨v,rfl,ho,L1⟩;have ho':Own w1 w.heap.size v ys:=ho.own;obtain⟨Av,cv,rfl⟩:=ho'.len;clear ho';go_wp2;go_ret2;exact HQ.out _ _ rfl L1
 rw[ht] at C1;by_cases hm:(S1a l).length<=512
 ·have HQ:Hid (∀e w',(∃v,e=.returned (.tuple #[v,.int .i64 (l2b (S1a l).length)])/\T5a w' w.heap.size v (rowOf (S1a l))/\Below w.heap.size w w')->R3a w l e w'):=by
   intro e w' hh;have e0:y0a l=0:=by unfold y0a;rw[if_pos ht,if_pos hm]
   unfold R3a A0a;rw[e0,if_pos rfl];unfold l2b at hh
   rwa [if_pos (by omega:(S1a l).length<=65535)] at hh
  have CR:Hid (∀(w:World) (A:Option Addr) (n c:Nat),Holds w w.heap.size A n c (S1a l)->Calls Tryz.prog 162 #[.slice A n c] w (i5a w (S1a l))):=λw A n c hh=>k5b w A n c _ hh
  unfold i5a at CR;obtain⟨er,her⟩:∃er,er=l2b (S1a l).length:=⟨_,rfl⟩;obtain⟨rs,hrs⟩:∃rs,rs=rowOf (S1a l):=⟨_,rfl⟩;rw[<-her,<-hrs] at HQ CR;obtain⟨ys,hys⟩:∃ys,ys=S1a l:=⟨_,rfl⟩;rw[<-hys] at C1 CR HBY hm;obtain⟨m,hm'⟩:∃m,m=ys.length:=⟨_,rfl⟩;have HM:=hI hm';rw[<-hm'] at hm;have C1':=hI C1;clear C1 her hrs ht hl hlen hys hm';go_enter Tryz.func110,Tryz.ntmps110;go_wp2_with fail;refine C1'.out.mono ?_;rintro e w1 ⟨v,rfl,ho,L1⟩;have ho':Own w1 w.heap.size v ys:=ho.own;obtain⟨Av,cv,rfl,hh⟩:=ho'.holds HBY.out (by have:=HM.out;omega);rw[<-HM.out] at hh⊢;have HH:=hI hh;have M1:=hI L1;clear ho ho' hh L1 C1';go_wp2_with fail;refine(CR.out _ _ _ _ HH.out).mono ?_;rintro e w2 ⟨v,rfl,ho,L2⟩;have HO:=hI ho;have L2':=hI L2;clear ho L2;go_wp2;go_ret2;exact HQ.out _ _ ⟨_,rfl,HO.out.mono M1.out.size,step M1.out L2'.out⟩
 ·have HQ:Hid (∀e w',e=.returned (.tuple #[.slice none 0 0,.int .i64 3])->Below w.heap.size w w'->R3a w l e w'):=by intro e w' he hb;unfold R3a A0a y0a;rw[if_pos ht,if_neg hm];exact⟨_,he,X0a.nil _ _ _ _,hb⟩
  obtain⟨ys,hys⟩:∃ys,ys=S1a l:=⟨_,rfl⟩;rw[<-hys] at C1 HBY hm hlen;obtain⟨m,hm'⟩:∃m,m=ys.length:=⟨_,rfl⟩;have HM:=hI hm';rw[<-hm'] at hm hlen;have C1':=hI C1;clear C1 ht hl hys hm';go_enter Tryz.func110,Tryz.ntmps110;go_wp2_with fail;refine C1'.out.mono ?_;rintro e w1 ⟨v,rfl,ho,L1⟩;have ho':Own w1 w.heap.size v ys:=ho.own;obtain⟨Av,cv,rfl,hh⟩:=ho'.holds HBY.out (by have:=HM.out;omega);rw[<-HM.out];clear ho ho' hh C1';go_wp2;go_ret2;exact HQ.out _ _ rfl L1
theorem p3b(w:World)(cs:List Value)(a:m1a)(ka:a.ok)(ha:f1a w w.heap.size cs a) :
  Calls Tryz.prog 109 #[.agg cs.toArray] w (V5a w a):=by
 obtain⟨D1,D2,D3,X1,X2,X3,M1,M2,M3,rfl,hD,hX,hM⟩:=ha;have hl:=hD.len;have FA:Hid (∀(w:World) (g:Nat),Blk w g 34 (j0a (.slice D1 D2 D3) (.slice X1 X2 X3) (.slice M1 M2 M3) a)->w.cell? ⟨g,0,none⟩=some (.slice D1 D2 D3)):=λw g h=>h.at rfl
 have RG:Hid (∀(w:World) (g:Nat),Blk w g 34 (j0a (.slice D1 D2 D3) (.slice X1 X2 X3) (.slice M1 M2 M3) a)->Holds w w.heap.size (some ⟨g,1,none⟩) 16 16 a.guid):=λw g h=>V3b ka h
 have HDB:=hI ka.dial;have HGL:=hI ka.glen;obtain⟨cs,hcs⟩:∃c,c=j0a (.slice D1 D2 D3) (.slice X1 X2 X3) (.slice M1 M2 M3) a:=⟨_,rfl⟩;rw[<-hcs] at FA RG⊢;clear hcs hX hM ka;by_cases hn:D2<=16;rotate_left
 ·have HQ:Hid (∀e w',e=.returned (.tuple #[.slice none 0 0,.int .i64 3])->Below w.heap.size w w'->V5a w a e w'):=by intro e w' he hb;unfold V5a;rw[hl,if_neg hn,if_neg hn];exact⟨_,he,X0a.nil _ _ _ _,hb⟩
  have hn':16<D2:=by omega
  clear hl hD;go_enter Tryz.func109,Tryz.ntmps109;go_wp2_with(first
   | ((with_reducible refine sN 1 ?_);refine f0a rfl _ (.tmp 0) rfl cs rfl ?_;intro g w1 hg1 hg2 K1 L1;have gd:=FA.out _ _ K1.out)
   | fail)
  go_ret2;exact HQ.out _ _ rfl L1.out
 have HQ:Hid (∀e w',(∃v,e=.returned (.tuple #[v,.int .i64 0])/\T5a w' w.heap.size v (le D2 2++u1a a.dial++a.guid)/\Below w.heap.size w w')->V5a w a e w'):=by intro e w' hh;unfold V5a r3a;rw[hl,if_pos hn,if_pos hn];exact hh
 have HDL:=hI hl;have HD:=hI hD;have HF:=hI hD.fit;have hz:IntKind.u64.wrap (D2:Int)=D2:=by rw[IntKind.wrap_u64];omega
 obtain⟨ds,hds⟩:∃d,d=a.dial:=⟨_,rfl⟩;obtain⟨gs,hgs⟩:∃d,d=a.guid:=⟨_,rfl⟩;rw[<-hds] at HQ HDL HD HDB;rw[<-hgs] at HQ RG HGL;clear hl hD hds hgs;go_enter Tryz.func109,Tryz.ntmps109;go_wp2_with(first
  | ((with_reducible refine sN 1 ?_);refine f0a rfl _ (.tmp 0) rfl cs rfl ?_;intro g w1 hg1 hg2 K1 L1;have gd:=FA.out _ _ K1.out)
  | fail)
 refine(j1b w1 (D2:Int) (by omega) (by omega)).mono ?_;rintro e w2 ⟨A',rfl,hf2,L2⟩;have gd2:=FA.out _ _ (K1.out.over L2);have HO2:=hI (hf2.ownB (n:=2) (by rw[g0a]) (by omega));have M2:=hI L2;have hs2:=L2.size;clear gd hf2 L2;go_wp2;go_loopw [4,19] (λv i wr=>∃j:Nat,i=.int .i64 j/\j<=D2/\Hid (T5a wr w1.heap.size v (le D2 2++u1a (ds.take j)))/\Hid (Below w1.heap.size w1 wr)) (λ_ i _=>D2-(intOf i).toNat)
 case atStart=>exact⟨0,rfl,Nat.zero_le _,(by show T5a _ _ _ _;simpa[u1a] using HO2.out),M2⟩
 case round=>
  obtain⟨j,rfl,hj,HO,HL⟩:=hrel;have hsr:=HL.out.size;by_cases hlt:j<D2
  ·have HDr:=HD.out.over (step L1.out HL.out);have hft:=HF.out;obtain⟨b,off,rfl,hb,hc⟩:=HDr.cells (by omega);obtain⟨x,hx⟩:∃x,ds[j]? = some x:=⟨_,List.getElem?_eq_getElem (by have:=HDL.out;omega)⟩;have gc:=hc j x hx;obtain⟨x0,x1⟩:=HDB.out x (List.mem_of_getElem? hx);have E1:Hid (le D2 2++u1a (ds.take (j+1))=le D2 2++u1a (ds.take j)++le x 2):=by
    show _=_
    rw[List.take_add_one,hx,Option.toList_some,H9a,List.append_assoc]
   have HLEN:Hid ((le (D2:Int) 2++u1a (ds.take j)).length+(le x 2).length<=140737488355328):=by
    show _<=_
    rw[List.length_append,g0a,g0a,t4a,List.length_take];omega
   have HXB:Hid (Bytes (le x 2)):=F0a _ _;have HXL:Hid ((le x 2).length=2):=g0a _ _;have hxz:IntKind.u64.wrap x=x:=by rw[IntKind.wrap_u64];omega
   obtain⟨P,hP⟩:∃P,P=le (D2:Int) 2++u1a (ds.take j):=⟨_,rfl⟩;rw[<-hP] at E1 HLEN HO;have CN:Hid (∀w:World,Calls Tryz.prog 118 #[.int .u64 x,.int .i64 2] w λe w'=>∃A',e=.returned (.slice A' 2 2)/\r2a w' w.heap.size A' (le x 2)/\Below w.heap.size w w'):=λw=>j1b w x x0 x1
   obtain⟨lx,hlx⟩:∃P,P=le x 2:=⟨_,rfl⟩;rw[<-hlx] at E1 HLEN HXB HXL CN;clear hc hx hP hlx HDr;go_wp2_with fail;refine(CN.out wr).mono ?_;rintro e w3 ⟨A3,rfl,hf3,L3⟩;have HH:=hI (hf3.holds HXL.out HXB.out (by omega));have HO3:=hI (HO.out.below L3);have M3:=hI (HL.out.trans (L3.mono hsr));have hs3:=M3.out.size;clear hf3 L3 HO CN gc;go_wp2_with(first
    | (at_builtin;refine N2a rfl (.tmp 23) (.tmp 26) rfl w1.heap.size _ P rfl HO3.out w3.heap.size A3 2 2 lx rfl HH.out HLEN.out hs3 ?_;intro v4 w4 ho4 hb4)
    | fail)
   have HO4:Hid (T5a w4 w1.heap.size v4 (le D2 2++u1a (ds.take (j+1)))):=by rw[E1.out];exact ho4.out
   have M4:=hI (M3.out.trans hb4);clear ho4 hb4 HH HO3 M3;go_wp2;go_roundw
   case rel=>exact⟨j+1,by go_num,hlt,HO4,M4⟩
   case measure=>simp[intOf];omega
  ·obtain rfl:j=D2:=by omega
   have HO5:Hid (T5a wr w1.heap.size u4 (le (j:Int) 2++u1a ds)):=by
    have h:=HO.out
    rwa [List.take_of_length_le (by have:=HDL.out;omega)] at h
   have HG:=hI (RG.out _ _ (K1.out.over HL.out));have HLEN:Hid ((le (j:Int) 2++u1a ds).length+gs.length<=140737488355328):=by
    show _<=_
    have h1:=HGL.out;have h2:=HDL.out;rw[List.length_append,g0a,t4a];omega
   have hs1:=L1.out.size;obtain⟨P,hP⟩:∃P,P=le (j:Int) 2++u1a ds:=⟨_,rfl⟩;rw[<-hP] at HO5 HLEN HQ;clear HO hP;go_wp2_with(first
    | (at_builtin;refine N2a rfl (.tmp 29) (.tmp 31) rfl w1.heap.size _ P rfl HO5.out wr.heap.size (some ⟨g,1,none⟩) 16 16 gs rfl HG.out HLEN.out hsr ?_;intro v4 w4 ho4 hb4)
    | fail)
   go_ret2;exact HQ.out _ _ ⟨_,rfl,ho4.out.mono hs1,L1.out.trans ((HL.out.trans hb4).mono hs1)⟩
theorem s6a(w:World)(c:Int)(cs:List Value)(a:m1a)(hc:0<=c/\c<=65535)(ka:a.ok)(ha:f1a w w.heap.size cs a)(hu:a.user.size<=17592186044416/\a.share.size<=17592186044416)(hT:V7a w) :
  Calls Tryz.prog 80 #[.int .u16 c,.agg cs.toArray] w (C2a w c a):=by
 have HL:=hI (ha.len ka);have HO1:=hI ha.one;have ZH:=hI H7a;have HZ:Hid ((j0a (.slice none 0 0) (.slice none 0 0) (.slice none 0 0) i0a).length=69):=I1a h0a;have HA:=hI ha;have HT:=hI hT;obtain⟨hu0,hu1⟩:=hu;have CB:Hid (∀w':World,Below w.heap.size w w'->Calls Tryz.prog 107 #[.int .u16 c,.agg cs.toArray] w' λe w2=>∃ds,e=.returned (.tuple #[.agg ds.toArray,.bool (U0a c)])/\f1a w2 w2.heap.size ds (if U0a c=true then c1a c a else i0a)/\Below w'.heap.size w' w2):=λw' hb=>i3b w' c cs a hc ka (ha.over hb)
 obtain⟨zs,hzs⟩:∃zs,zs=j0a (.slice none 0 0) (.slice none 0 0) (.slice none 0 0) i0a:=⟨_,rfl⟩;rw[<-hzs] at ZH HZ;clear hzs;by_cases hk:U0a c=true;rotate_left
 ·have hk':U0a c=false:=by simpa using hk
  have HQ:Hid (∀e w',e=.returned (.tuple #[.slice none 0 0,.int .i64 2])->Below w.heap.size w w'->C2a w c a e w'):=by
   intro e w' he hb;have h2:k1a c a=2:=by unfold k1a;rw[if_neg (λh=>hk h.1)]
   unfold C2a H2a;rw[h2,if_neg (by decide)];exact⟨_,he,X0a.nil _ _ _ _,hb⟩
  rw[if_neg hk,hk'] at CB;have kb:=h0a;clear hk hk' HA ka ha;go_enter Tryz.func80,Tryz.ntmps80;go_wp2_with(first
   | ((with_reducible refine sN 3 ?_);refine f0a rfl _ (.tmp 1) rfl cs rfl ?_;intro g w1 hg1 hg2 K1 L1)
   | ((with_reducible refine sN 12 ?_);refine e0a rfl _ (.tmp 3) rfl g rfl _ cs K1 69 _ Tryz.underlying34 rfl n0a HL ?_)
   | fail)
  refine(CB.out w1 L1.out).mono ?_;rintro e w2 ⟨ds,rfl,hds,L2⟩;have HD:=hI hds;have HDL:=hI (hds.len kb);have HDO:=hI hds.one;have K2:=hI (K1.out.over L2);have M2:=hI (step L1.out L2);clear hds L2 K1;go_wp2_with(first
   | ((with_reducible refine sN 6 ?_);refine a0a rfl _ rfl zs _ ZH ?_;intro h w3 hg3 hg4 Z3 L3)
   | ((with_reducible refine sT 6 ?_);refine b0a rfl _ (.tmp 6) (.tmp 14) rfl h rfl _ zs ds rfl Z3 69 n0a HZ HDL HDO ?_;intro w4 X4 O4 hg5;have L4:=hI (c0a L3.out O4.out hg3);have M4:=hI (step M2.out L4.out);have K4:=hI (K2.out.over L4.out);have HD4:=hI (HD.out.over L4.out))
   | fail)
  go_ret2;exact HQ.out _ _ rfl M4.out
 rw[if_pos hk,hk] at CB;have kb:=y5a (c:=c) ka;have CZ:Hid (∀(w':World) (ds:List Value),f1a w' w'.heap.size ds (c1a c a)->Calls Tryz.prog 108 #[.agg ds.toArray] w' λe w2=>e=.returned (.bool (decide (c1a c a=i0a)))/\Below w'.heap.size w' w2):=λw' ds hds=>g3b w' ds _ kb hds
 by_cases hz:c1a c a=i0a;rotate_left
 ·rw[decide_eq_false hz] at CZ;have HQ:Hid (∀e w',e=.returned (.tuple #[.slice none 0 0,.int .i64 2])->Below w.heap.size w w'->C2a w c a e w'):=by
   intro e w' he hb;have h2:k1a c a=2:=by unfold k1a;rw[if_neg (λh=>hz h.2)]
   unfold C2a H2a;rw[h2,if_neg (by decide)];exact⟨_,he,X0a.nil _ _ _ _,hb⟩
  obtain⟨b,hb⟩:∃b,b=c1a c a:=⟨_,rfl⟩;rw[<-hb] at CB CZ kb;clear hk hz HA ka ha hb;go_enter Tryz.func80,Tryz.ntmps80;go_wp2_with(first
   | ((with_reducible refine sN 3 ?_);refine f0a rfl _ (.tmp 1) rfl cs rfl ?_;intro g w1 hg1 hg2 K1 L1)
   | ((with_reducible refine sN 12 ?_);refine e0a rfl _ (.tmp 3) rfl g rfl _ cs K1 69 _ Tryz.underlying34 rfl n0a HL ?_)
   | fail)
  refine(CB.out w1 L1.out).mono ?_;rintro e w2 ⟨ds,rfl,hds,L2⟩;have HD:=hI hds;have HDL:=hI (hds.len kb);have HDO:=hI hds.one;have K2:=hI (K1.out.over L2);have M2:=hI (step L1.out L2);clear hds L2 K1;go_wp2_with(first
   | ((with_reducible refine sN 6 ?_);refine a0a rfl _ rfl zs _ ZH ?_;intro h w3 hg3 hg4 Z3 L3)
   | ((with_reducible refine sT 6 ?_);refine b0a rfl _ (.tmp 6) (.tmp 14) rfl h rfl _ zs ds rfl Z3 69 n0a HZ HDL HDO ?_;intro w4 X4 O4 hg5;have L4:=hI (c0a L3.out O4.out hg3);have M4:=hI (step M2.out L4.out);have K4:=hI (K2.out.over L4.out);have HD4:=hI (HD.out.over L4.out))
   | ((with_reducible refine sN 19 ?_);refine t1a (by kernel_rfl) _ (.tmp 6) rfl h rfl _ ds X4 69 _ Tryz.underlying34 rfl n0a HDL ?_)
   | fail)
  refine(CZ.out w4 ds HD4.out).mono ?_;rintro e w5 ⟨rfl,L5⟩;have M5:=hI (step M4.out L5);have K5:=hI (K4.out.over L5);have hs5:=M5.out.size;clear L5 K4 HD4 HD CZ CB X4 O4 Z3 L3 L4 M4 M2 K2;go_wp2;go_ret2;exact HQ.out _ _ rfl M5.out
 rw[decide_eq_true hz] at CZ;by_cases h0:c=0
 ·have h2:k1a c a=if a.dial.length<=16 then 0 else 3:=by unfold k1a;rw[if_pos ⟨hk,hz⟩,if_pos h0]
  have HQ:Hid (∀e w',(∃v,e=.returned (.tuple #[v,.int .i64 (if a.dial.length<=16 then 0 else 3)])/\T5a w' w.heap.size v (if a.dial.length<=16 then r3a a else [])/\Below w.heap.size w w')->C2a w c a e w'):=by
   intro e w' hh;unfold C2a H2a;rw[h2,if_pos h0];by_cases hd:a.dial.length<=16
   ·rw[if_pos hd,if_pos hd] at hh;rw[if_pos hd,if_pos rfl];exact hh
   ·rw[if_neg hd,if_neg hd] at hh;rw[if_neg hd,if_neg (by decide)];exact hh
  have CO:Hid (∀w':World,Below w.heap.size w w'->Calls Tryz.prog 109 #[.agg cs.toArray] w' λe w2=>∃v,e=.returned (.tuple #[v,.int .i64 (if a.dial.length<=16 then 0 else 3)])/\T5a w2 w'.heap.size v (if a.dial.length<=16 then r3a a else [])/\Below w'.heap.size w' w2):=λw' hb=>p3b w' cs a ka (HA.out.over hb)
  obtain⟨er,her⟩:∃x:Int,x=if a.dial.length<=16 then 0 else 3:=⟨_,rfl⟩
  obtain⟨ys,hys⟩:∃x,x=if a.dial.length<=16 then r3a a else []:=⟨_,rfl⟩
  rw[<-her,<-hys] at HQ CO;have c0:(c==0)=true:=by simpa using h0
  obtain⟨b,hb⟩:∃b,b=c1a c a:=⟨_,rfl⟩;rw[<-hb] at CB CZ kb;clear hk hz HA ka ha h2 her hys h0 hb;go_enter Tryz.func80,Tryz.ntmps80;go_wp2_with(first
   | ((with_reducible refine sN 3 ?_);refine f0a rfl _ (.tmp 1) rfl cs rfl ?_;intro g w1 hg1 hg2 K1 L1)
   | ((with_reducible refine sN 12 ?_);refine e0a rfl _ (.tmp 3) rfl g rfl _ cs K1 69 _ Tryz.underlying34 rfl n0a HL ?_)
   | fail)
  refine(CB.out w1 L1.out).mono ?_;rintro e w2 ⟨ds,rfl,hds,L2⟩;have HD:=hI hds;have HDL:=hI (hds.len kb);have HDO:=hI hds.one;have K2:=hI (K1.out.over L2);have M2:=hI (step L1.out L2);clear hds L2 K1;go_wp2_with(first
   | ((with_reducible refine sN 6 ?_);refine a0a rfl _ rfl zs _ ZH ?_;intro h w3 hg3 hg4 Z3 L3)
   | ((with_reducible refine sT 6 ?_);refine b0a rfl _ (.tmp 6) (.tmp 14) rfl h rfl _ zs ds rfl Z3 69 n0a HZ HDL HDO ?_;intro w4 X4 O4 hg5;have L4:=hI (c0a L3.out O4.out hg3);have M4:=hI (step M2.out L4.out);have K4:=hI (K2.out.over L4.out);have HD4:=hI (HD.out.over L4.out))
   | ((with_reducible refine sN 19 ?_);refine t1a (by kernel_rfl) _ (.tmp 6) rfl h rfl _ ds X4 69 _ Tryz.underlying34 rfl n0a HDL ?_)
   | fail)
  refine(CZ.out w4 ds HD4.out).mono ?_;rintro e w5 ⟨rfl,L5⟩;have M5:=hI (step M4.out L5);have K5:=hI (K4.out.over L5);have hs5:=M5.out.size;clear L5 K4 HD4 HD CZ CB X4 O4 Z3 L3 L4 M4 M2 K2;go_wp2_with(first
   | ((with_reducible refine sN 26 ?_);refine e0a rfl _ (.tmp 3) rfl g rfl _ cs K5 69 _ Tryz.underlying34 rfl n0a HL ?_)
   | fail)
  refine(CO.out w5 M5.out).mono ?_;rintro e w6 ⟨v,rfl,ho,L6⟩;have HO:=hI ho;have L6':=hI L6;clear ho L6;go_wp2;go_ret2;exact HQ.out _ _ ⟨_,rfl,HO.out.mono hs5,step M5.out L6'.out⟩
 have b0:(c==0)=false:=by simpa using h0
 have FA:Hid (∀(w:World) (g:Nat),Blk w g 34 cs->w.cell? ⟨g,49,none⟩=some (.string a.user)/\w.cell? ⟨g,50,none⟩=some (.string a.share)/\Holds w w.heap.size (some ⟨g,17,none⟩) 32 32 a.proof):=by intro w g h;obtain⟨D1,D2,D3,X1,X2,X3,M1,M2,M3,rfl,_⟩:=HA.out;exact⟨h.at (p0a ka 0),h.at (p0a ka 1),l3b ka h⟩
 by_cases h1:c=1
 ·have CT:Hid (∀w':World,Below w.heap.size w w'->Calls Tryz.prog 110 #[.string a.user] w' λe w2=>∃v,e=.returned (.tuple #[v,.int .i64 (y0a a.user.data.toList)])/\T5a w2 w'.heap.size v (A0a a.user.data.toList)/\Below w'.heap.size w' w2):=λw' hb=>A5a a.user w' hu0 (HT.out.below hb)
  have h2:k1a c a=y0a a.user.data.toList:=by unfold k1a;rw[if_pos ⟨hk,hz⟩,if_neg h0,if_pos h1]
  have c1:(c==1)=true:=by simpa using h1
  have HPB:=hI (b2a a.user.data.toList);have hpl:=k3a a.user.data.toList;by_cases hp:y0a a.user.data.toList=0
  ·have HQ:Hid (∀e w',(∃v,e=.returned (.tuple #[v,.int .i64 0])/\T5a w' w.heap.size v (a.proof++A0a a.user.data.toList)/\Below w.heap.size w w')->C2a w c a e w'):=by intro e w' hh;unfold C2a H2a;rw[h2,hp,if_pos rfl,if_neg h0,if_pos h1];exact hh
   rw[hp] at CT;obtain⟨ys,hys⟩:∃x,x=A0a a.user.data.toList:=⟨_,rfl⟩;rw[<-hys] at HQ CT HPB hpl;obtain⟨tx,htx⟩:∃x,x=a.user:=⟨_,rfl⟩;obtain⟨px,hpx⟩:∃x,x=a.proof:=⟨_,rfl⟩;rw[<-htx,<-hpx] at FA;rw[<-htx] at CT;rw[<-hpx] at HQ;obtain⟨b,hb⟩:∃b,b=c1a c a:=⟨_,rfl⟩;rw[<-hb] at CB CZ kb;clear hk hz HA ka ha h2 hys htx hpx h0 h1 hb hu0 hu1 hp;go_enter Tryz.func80,Tryz.ntmps80;go_wp2_with(first
    | ((with_reducible refine sN 3 ?_);refine f0a rfl _ (.tmp 1) rfl cs rfl ?_;intro g w1 hg1 hg2 K1 L1)
    | ((with_reducible refine sN 12 ?_);refine e0a rfl _ (.tmp 3) rfl g rfl _ cs K1 69 _ Tryz.underlying34 rfl n0a HL ?_)
    | fail)
   refine(CB.out w1 L1.out).mono ?_;rintro e w2 ⟨ds,rfl,hds,L2⟩;have HD:=hI hds;have HDL:=hI (hds.len kb);have HDO:=hI hds.one;have K2:=hI (K1.out.over L2);have M2:=hI (step L1.out L2);clear hds L2 K1;go_wp2_with(first
    | ((with_reducible refine sN 6 ?_);refine a0a rfl _ rfl zs _ ZH ?_;intro h w3 hg3 hg4 Z3 L3)
    | ((with_reducible refine sT 6 ?_);refine b0a rfl _ (.tmp 6) (.tmp 14) rfl h rfl _ zs ds rfl Z3 69 n0a HZ HDL HDO ?_;intro w4 X4 O4 hg5;have L4:=hI (c0a L3.out O4.out hg3);have M4:=hI (step M2.out L4.out);have K4:=hI (K2.out.over L4.out);have HD4:=hI (HD.out.over L4.out))
    | ((with_reducible refine sN 19 ?_);refine t1a (by kernel_rfl) _ (.tmp 6) rfl h rfl _ ds X4 69 _ Tryz.underlying34 rfl n0a HDL ?_)
    | fail)
   refine(CZ.out w4 ds HD4.out).mono ?_;rintro e w5 ⟨rfl,L5⟩;have M5:=hI (step M4.out L5);have K5:=hI (K4.out.over L5);have hs5:=M5.out.size;clear L5 K4 HD4 HD CZ CB X4 O4 Z3 L3 L4 M4 M2 K2;obtain⟨gd,_,_⟩:=FA.out _ _ K5.out;go_wp2_with fail;refine(CT.out w5 M5.out).mono ?_;rintro e w6 ⟨v,rfl,ho,L6⟩;obtain⟨Av,cv,rfl,hh⟩:=ho.holds8 HPB.out (by omega);have HH:=hI hh;obtain⟨_,_,hpr⟩:=FA.out _ _ (K5.out.over L6);have HPR:=hI hpr;have M6:=hI (step M5.out L6);obtain⟨m,hm⟩:∃m,m=ys.length:=⟨_,rfl⟩;rw[<-hm] at HH hpl⊢;clear ho hh hpr L6 gd hm;go_wp2_with(first
    | ((with_reducible refine sN 44 ?_);refine Q2a rfl 2 _ rfl [(some ⟨g,17,none⟩,32,32,px),(Av,m,cv,ys)] rfl (by kernel_rfl) (List.forall_mem_cons.2 ⟨HPR.out,List.forall_mem_cons.2 ⟨HH.out,λ_ h=>by cases h⟩⟩) ?_;intro g7 w7 P7 b7)
    | fail)
   refine(X2a _ g7 2 _ _ _ _ P7.out (by omega) (by show 0+32+m<=_;omega)).mono ?_;rintro e w8 ⟨v,rfl,ho,L8⟩;have HO:=hI ho;have L8':=hI L8;clear ho L8;go_wp2;go_ret2;have M7:=step M6.out b7.out;refine HQ.out _ _ ⟨_,rfl,?_,step M7 L8'.out⟩;have h9:=HO.out.mono (base':=w.heap.size) M7.size;simpa[E7a,d4a] using h9
  ·have HQ:Hid (∀e w',e=.returned (.tuple #[.slice none 0 0,.int .i64 (y0a a.user.data.toList)])->Below w.heap.size w w'->C2a w c a e w'):=by intro e w' he hb;unfold C2a H2a;rw[h2,if_neg hp];exact⟨_,he,X0a.nil _ _ _ _,hb⟩
   have hne:(y0a a.user.data.toList != 0)=true:=by simpa using hp
   obtain⟨ys,hys⟩:∃x,x=A0a a.user.data.toList:=⟨_,rfl⟩;obtain⟨er,her⟩:∃x,x=y0a a.user.data.toList:=⟨_,rfl⟩;rw[<-hys,<-her] at CT;rw[<-her] at HQ hne;rw[<-hys] at HPB hpl;obtain⟨tx,htx⟩:∃x,x=a.user:=⟨_,rfl⟩;rw[<-htx] at FA CT;obtain⟨b,hb⟩:∃b,b=c1a c a:=⟨_,rfl⟩;rw[<-hb] at CB CZ kb;clear hk hz HA ka ha h2 hys her htx h0 h1 hb hu0 hu1 hp;go_enter Tryz.func80,Tryz.ntmps80;go_wp2_with(first
    | ((with_reducible refine sN 3 ?_);refine f0a rfl _ (.tmp 1) rfl cs rfl ?_;intro g w1 hg1 hg2 K1 L1)
    | ((with_reducible refine sN 12 ?_);refine e0a rfl _ (.tmp 3) rfl g rfl _ cs K1 69 _ Tryz.underlying34 rfl n0a HL ?_)
    | fail)
   refine(CB.out w1 L1.out).mono ?_;rintro e w2 ⟨ds,rfl,hds,L2⟩;have HD:=hI hds;have HDL:=hI (hds.len kb);have HDO:=hI hds.one;have K2:=hI (K1.out.over L2);have M2:=hI (step L1.out L2);clear hds L2 K1;go_wp2_with(first
    | ((with_reducible refine sN 6 ?_);refine a0a rfl _ rfl zs _ ZH ?_;intro h w3 hg3 hg4 Z3 L3)
    | ((with_reducible refine sT 6 ?_);refine b0a rfl _ (.tmp 6) (.tmp 14) rfl h rfl _ zs ds rfl Z3 69 n0a HZ HDL HDO ?_;intro w4 X4 O4 hg5;have L4:=hI (c0a L3.out O4.out hg3);have M4:=hI (step M2.out L4.out);have K4:=hI (K2.out.over L4.out);have HD4:=hI (HD.out.over L4.out))
    | ((with_reducible refine sN 19 ?_);refine t1a (by kernel_rfl) _ (.tmp 6) rfl h rfl _ ds X4 69 _ Tryz.underlying34 rfl n0a HDL ?_)
    | fail)
   refine(CZ.out w4 ds HD4.out).mono ?_;rintro e w5 ⟨rfl,L5⟩;have M5:=hI (step M4.out L5);have K5:=hI (K4.out.over L5);have hs5:=M5.out.size;clear L5 K4 HD4 HD CZ CB X4 O4 Z3 L3 L4 M4 M2 K2;obtain⟨gd,_,_⟩:=FA.out _ _ K5.out;go_wp2_with fail;refine(CT.out w5 M5.out).mono ?_;rintro e w6 ⟨v,rfl,ho,L6⟩;obtain⟨Av,cv,rfl⟩:=ho.own8.len;clear ho;go_wp2;go_ret2;exact HQ.out _ _ rfl (step M5.out L6)
 have b1:(c==1)=false:=by simpa using h1
 by_cases h3:c=3
 ·have CT:Hid (∀w':World,Below w.heap.size w w'->Calls Tryz.prog 110 #[.string a.share] w' λe w2=>∃v,e=.returned (.tuple #[v,.int .i64 (y0a a.share.data.toList)])/\T5a w2 w'.heap.size v (A0a a.share.data.toList)/\Below w'.heap.size w' w2):=λw' hb=>A5a a.share w' hu1 (HT.out.below hb)
  have h2:k1a c a=y0a a.share.data.toList:=by unfold k1a;rw[if_pos ⟨hk,hz⟩,if_neg h0,if_neg h1,if_pos h3]
  have c3:(c==3)=true:=by simpa using h3
  have HQ:Hid (∀e w',(∃v,e=.returned (.tuple #[v,.int .i64 (y0a a.share.data.toList)])/\T5a w' w.heap.size v (A0a a.share.data.toList)/\Below w.heap.size w w')->C2a w c a e w'):=by
   intro e w' hh;unfold C2a H2a;rw[h2,if_neg h0,if_neg h1,if_pos h3];by_cases hp:y0a a.share.data.toList=0
   ·rw[if_pos hp];exact hh
   ·rw[if_neg hp];unfold A0a at hh;rw[if_neg hp] at hh;exact hh
  obtain⟨er,her⟩:∃x,x=y0a a.share.data.toList:=⟨_,rfl⟩;obtain⟨ys,hys⟩:∃x,x=A0a a.share.data.toList:=⟨_,rfl⟩;rw[<-her,<-hys] at HQ CT;obtain⟨tx,htx⟩:∃x,x=a.share:=⟨_,rfl⟩;rw[<-htx] at FA CT;obtain⟨b,hb⟩:∃b,b=c1a c a:=⟨_,rfl⟩;rw[<-hb] at CB CZ kb;clear hk hz HA ka ha h2 her hys htx h0 h1 h3 hb hu0 hu1;have b1:(c==1)=false:=by have h:=c3;simp only[beq_iff_eq] at h;subst h;rfl
  go_enter Tryz.func80,Tryz.ntmps80;go_wp2_with(first
   | ((with_reducible refine sN 3 ?_);refine f0a rfl _ (.tmp 1) rfl cs rfl ?_;intro g w1 hg1 hg2 K1 L1)
   | ((with_reducible refine sN 12 ?_);refine e0a rfl _ (.tmp 3) rfl g rfl _ cs K1 69 _ Tryz.underlying34 rfl n0a HL ?_)
   | fail)
  refine(CB.out w1 L1.out).mono ?_;rintro e w2 ⟨ds,rfl,hds,L2⟩;have HD:=hI hds;have HDL:=hI (hds.len kb);have HDO:=hI hds.one;have K2:=hI (K1.out.over L2);have M2:=hI (step L1.out L2);clear hds L2 K1;go_wp2_with(first
   | ((with_reducible refine sN 6 ?_);refine a0a rfl _ rfl zs _ ZH ?_;intro h w3 hg3 hg4 Z3 L3)
   | ((with_reducible refine sT 6 ?_);refine b0a rfl _ (.tmp 6) (.tmp 14) rfl h rfl _ zs ds rfl Z3 69 n0a HZ HDL HDO ?_;intro w4 X4 O4 hg5;have L4:=hI (c0a L3.out O4.out hg3);have M4:=hI (step M2.out L4.out);have K4:=hI (K2.out.over L4.out);have HD4:=hI (HD.out.over L4.out))
   | ((with_reducible refine sN 19 ?_);refine t1a (by kernel_rfl) _ (.tmp 6) rfl h rfl _ ds X4 69 _ Tryz.underlying34 rfl n0a HDL ?_)
   | fail)
  refine(CZ.out w4 ds HD4.out).mono ?_;rintro e w5 ⟨rfl,L5⟩;have M5:=hI (step M4.out L5);have K5:=hI (K4.out.over L5);have hs5:=M5.out.size;clear L5 K4 HD4 HD CZ CB X4 O4 Z3 L3 L4 M4 M2 K2;obtain⟨_,gd,_⟩:=FA.out _ _ K5.out;go_wp2_with fail;refine(CT.out w5 M5.out).mono ?_;rintro e w6 ⟨v,rfl,ho,L6⟩;have HO:=hI ho;have L6':=hI L6;clear ho L6;go_wp2;go_ret2;exact HQ.out _ _ ⟨_,rfl,HO.out.mono hs5,step M5.out L6'.out⟩
 have b3:(c==3)=false:=by simpa using h3
 have h2:k1a c a=0:=by unfold k1a;rw[if_pos ⟨hk,hz⟩,if_neg h0,if_neg h1,if_neg h3]
 have HQ:Hid (∀e w',(∃v,e=.returned (.tuple #[v,.int .i64 0])/\T5a w' w.heap.size v (List.replicate 4 0)/\Below w.heap.size w w')->C2a w c a e w'):=by intro e w' hh;unfold C2a H2a;rw[h2,if_pos rfl,if_neg h0,if_neg h1,if_neg h3];exact hh
 obtain⟨b,hb⟩:∃b,b=c1a c a:=⟨_,rfl⟩;rw[<-hb] at CB CZ kb;clear hk hz HA ka ha h2 h0 h1 h3 hb hu0 hu1;go_enter Tryz.func80,Tryz.ntmps80;go_wp2_with(first
  | ((with_reducible refine sN 3 ?_);refine f0a rfl _ (.tmp 1) rfl cs rfl ?_;intro g w1 hg1 hg2 K1 L1)
  | ((with_reducible refine sN 12 ?_);refine e0a rfl _ (.tmp 3) rfl g rfl _ cs K1 69 _ Tryz.underlying34 rfl n0a HL ?_)
  | fail)
 refine(CB.out w1 L1.out).mono ?_;rintro e w2 ⟨ds,rfl,hds,L2⟩;have HD:=hI hds;have HDL:=hI (hds.len kb);have HDO:=hI hds.one;have K2:=hI (K1.out.over L2);have M2:=hI (step L1.out L2);clear hds L2 K1;go_wp2_with(first
  | ((with_reducible refine sN 6 ?_);refine a0a rfl _ rfl zs _ ZH ?_;intro h w3 hg3 hg4 Z3 L3)
  | ((with_reducible refine sT 6 ?_);refine b0a rfl _ (.tmp 6) (.tmp 14) rfl h rfl _ zs ds rfl Z3 69 n0a HZ HDL HDO ?_;intro w4 X4 O4 hg5;have L4:=hI (c0a L3.out O4.out hg3);have M4:=hI (step M2.out L4.out);have K4:=hI (K2.out.over L4.out);have HD4:=hI (HD.out.over L4.out))
  | ((with_reducible refine sN 19 ?_);refine t1a (by kernel_rfl) _ (.tmp 6) rfl h rfl _ ds X4 69 _ Tryz.underlying34 rfl n0a HDL ?_)
  | fail)
 refine(CZ.out w4 ds HD4.out).mono ?_;rintro e w5 ⟨rfl,L5⟩;have M5:=hI (step M4.out L5);have K5:=hI (K4.out.over L5);have hs5:=M5.out.size;clear L5 K4 HD4 HD CZ CB X4 O4 Z3 L3 L4 M4 M2 K2;go_wp2_with(at_make;refine H1a _ rfl _ _ rfl _ _ 4 rfl rfl rfl rfl (by omega) ?_;intro w6 R6 L6);go_ret2;exact HQ.out _ _ ⟨_,rfl,U5a R6.out hs5 (by omega),step M5.out L6⟩
theorem t6a(w:World)(c:Int)(cs:List Value)(a:M1a)(hc:0<=c/\c<=65535)(ka:a.ok)(ha:n1a w w.heap.size cs a) :
  Calls Tryz.prog 82 #[.int .u16 c,.agg cs.toArray] w (v3a w c a):=by
 have HL:=hI (ha.len ka);have HO1:=hI ha.one;have ZH:=hI I7a;have HZ:Hid ((r0a (.slice none 0 0) (.slice none 0 0) q0a).length=20):=U1a G0a;have HA:=hI ha;have CB:Hid (∀w':World,Below w.heap.size w w'->Calls Tryz.prog 116 #[.int .u16 c,.agg cs.toArray] w' λe w2=>∃ds,e=.returned (.tuple #[.agg ds.toArray,.bool (U0a c)])/\n1a w2 w2.heap.size ds (if U0a c=true then o1a c a else q0a)/\Below w'.heap.size w' w2):=λw' hb=>j3b w' c cs a hc ka (ha.over hb)
 obtain⟨zs,hzs⟩:∃zs,zs=r0a (.slice none 0 0) (.slice none 0 0) q0a:=⟨_,rfl⟩;rw[<-hzs] at ZH HZ;clear hzs;by_cases hk:U0a c=true;rotate_left
 ·have hk':U0a c=false:=by simpa using hk
  have HQ:Hid (∀e w',e=.returned (.tuple #[.slice none 0 0,.int .i64 2])->Below w.heap.size w w'->v3a w c a e w'):=by
   intro e w' he hb;have h2:z1a c a=2:=by unfold z1a;rw[if_neg (λh=>hk h.1)]
   unfold v3a L2a;rw[h2,if_neg (by decide)];exact⟨_,he,X0a.nil _ _ _ _,hb⟩
  rw[if_neg hk,hk'] at CB;have kb:=G0a;clear hk hk' HA ka ha;go_enter Tryz.func82,Tryz.ntmps82;go_wp2_with(first
   | ((with_reducible refine sN 3 ?_);refine f0a rfl _ (.tmp 1) rfl cs rfl ?_;intro g w1 hg1 hg2 K1 L1)
   | ((with_reducible refine sN 12 ?_);refine e0a rfl _ (.tmp 3) rfl g rfl _ cs K1 20 _ Tryz.underlying39 rfl s0a HL ?_)
   | fail)
  refine(CB.out w1 L1.out).mono ?_;rintro e w2 ⟨ds,rfl,hds,L2⟩;have HD:=hI hds;have HDL:=hI (hds.len kb);have HDO:=hI hds.one;have K2:=hI (K1.out.over L2);have M2:=hI (step L1.out L2);clear hds L2 K1;go_wp2_with(first
   | ((with_reducible refine sN 6 ?_);refine a0a rfl _ rfl zs _ ZH ?_;intro h w3 hg3 hg4 Z3 L3)
   | ((with_reducible refine sT 6 ?_);refine b0a rfl _ (.tmp 6) (.tmp 14) rfl h rfl _ zs ds rfl Z3 20 s0a HZ HDL HDO ?_;intro w4 X4 O4 hg5;have L4:=hI (c0a L3.out O4.out hg3);have M4:=hI (step M2.out L4.out);have K4:=hI (K2.out.over L4.out);have HD4:=hI (HD.out.over L4.out))
   | fail)
  go_ret2;exact HQ.out _ _ rfl M4.out
 rw[if_pos hk,hk] at CB;have kb:=D9a (c:=c) ka;have CZ:Hid (∀(w':World) (ds:List Value),n1a w' w'.heap.size ds (o1a c a)->Calls Tryz.prog 117 #[.agg ds.toArray] w' λe w2=>e=.returned (.bool (decide (o1a c a=q0a)))/\Below w'.heap.size w' w2):=λw' ds hds=>h3b w' ds _ kb hds
 by_cases hz:o1a c a=q0a;rotate_left
 ·rw[decide_eq_false hz] at CZ;have HQ:Hid (∀e w',e=.returned (.tuple #[.slice none 0 0,.int .i64 2])->Below w.heap.size w w'->v3a w c a e w'):=by
   intro e w' he hb;have h2:z1a c a=2:=by unfold z1a;rw[if_neg (λh=>hz h.2.1)]
   unfold v3a L2a;rw[h2,if_neg (by decide)];exact⟨_,he,X0a.nil _ _ _ _,hb⟩
  obtain⟨b,hb⟩:∃b,b=o1a c a:=⟨_,rfl⟩;rw[<-hb] at CB CZ kb;clear hk hz HA ka ha hb;go_enter Tryz.func82,Tryz.ntmps82;go_wp2_with(first
   | ((with_reducible refine sN 3 ?_);refine f0a rfl _ (.tmp 1) rfl cs rfl ?_;intro g w1 hg1 hg2 K1 L1)
   | ((with_reducible refine sN 12 ?_);refine e0a rfl _ (.tmp 3) rfl g rfl _ cs K1 20 _ Tryz.underlying39 rfl s0a HL ?_)
   | fail)
  refine(CB.out w1 L1.out).mono ?_;rintro e w2 ⟨ds,rfl,hds,L2⟩;have HD:=hI hds;have HDL:=hI (hds.len kb);have HDO:=hI hds.one;have K2:=hI (K1.out.over L2);have M2:=hI (step L1.out L2);clear hds L2 K1;go_wp2_with(first
   | ((with_reducible refine sN 6 ?_);refine a0a rfl _ rfl zs _ ZH ?_;intro h w3 hg3 hg4 Z3 L3)
   | ((with_reducible refine sT 6 ?_);refine b0a rfl _ (.tmp 6) (.tmp 14) rfl h rfl _ zs ds rfl Z3 20 s0a HZ HDL HDO ?_;intro w4 X4 O4 hg5;have L4:=hI (c0a L3.out O4.out hg3);have M4:=hI (step M2.out L4.out);have K4:=hI (K2.out.over L4.out);have HD4:=hI (HD.out.over L4.out))
   | ((with_reducible refine sN 19 ?_);refine t1a (by kernel_rfl) _ (.tmp 6) rfl h rfl _ ds X4 20 _ Tryz.underlying39 rfl s0a HDL ?_)
   | fail)
  refine(CZ.out w4 ds HD4.out).mono ?_;rintro e w5 ⟨rfl,L5⟩;have M5:=hI (step M4.out L5);have K5:=hI (K4.out.over L5);have hs5:=M5.out.size;clear L5 K4 HD4 HD CZ CB X4 O4 Z3 L3 L4 M4 M2 K2;go_wp2;go_ret2;exact HQ.out _ _ rfl M5.out
 rw[decide_eq_true hz] at CZ;by_cases h0:c=0;rotate_left
 ·have h2:z1a c a=0:=by unfold z1a;rw[if_pos ⟨hk,hz,λh=>absurd h h0⟩]
  have HQ:Hid (∀e w',(∃v,e=.returned (.tuple #[v,.int .i64 0])/\T5a w' w.heap.size v (List.replicate 4 0)/\Below w.heap.size w w')->v3a w c a e w'):=by intro e w' hh;unfold v3a L2a;rw[h2,if_pos rfl,if_neg h0];exact hh
  have b0:(c != 0)=true:=by simpa using h0
  obtain⟨b,hb⟩:∃b,b=o1a c a:=⟨_,rfl⟩;rw[<-hb] at CB CZ kb;clear hk hz HA ka ha h2 h0 hb;go_enter Tryz.func82,Tryz.ntmps82;go_wp2_with(first
   | ((with_reducible refine sN 3 ?_);refine f0a rfl _ (.tmp 1) rfl cs rfl ?_;intro g w1 hg1 hg2 K1 L1)
   | ((with_reducible refine sN 12 ?_);refine e0a rfl _ (.tmp 3) rfl g rfl _ cs K1 20 _ Tryz.underlying39 rfl s0a HL ?_)
   | fail)
  refine(CB.out w1 L1.out).mono ?_;rintro e w2 ⟨ds,rfl,hds,L2⟩;have HD:=hI hds;have HDL:=hI (hds.len kb);have HDO:=hI hds.one;have K2:=hI (K1.out.over L2);have M2:=hI (step L1.out L2);clear hds L2 K1;go_wp2_with(first
   | ((with_reducible refine sN 6 ?_);refine a0a rfl _ rfl zs _ ZH ?_;intro h w3 hg3 hg4 Z3 L3)
   | ((with_reducible refine sT 6 ?_);refine b0a rfl _ (.tmp 6) (.tmp 14) rfl h rfl _ zs ds rfl Z3 20 s0a HZ HDL HDO ?_;intro w4 X4 O4 hg5;have L4:=hI (c0a L3.out O4.out hg3);have M4:=hI (step M2.out L4.out);have K4:=hI (K2.out.over L4.out);have HD4:=hI (HD.out.over L4.out))
   | ((with_reducible refine sN 19 ?_);refine t1a (by kernel_rfl) _ (.tmp 6) rfl h rfl _ ds X4 20 _ Tryz.underlying39 rfl s0a HDL ?_)
   | fail)
  refine(CZ.out w4 ds HD4.out).mono ?_;rintro e w5 ⟨rfl,L5⟩;have M5:=hI (step M4.out L5);have K5:=hI (K4.out.over L5);have hs5:=M5.out.size;clear L5 K4 HD4 HD CZ CB X4 O4 Z3 L3 L4 M4 M2 K2;go_wp2_with(at_make;refine H1a _ rfl _ _ rfl _ _ 4 rfl rfl rfl rfl (by omega) ?_;intro w6 R6 L6);go_ret2;exact HQ.out _ _ ⟨_,rfl,U5a R6.out hs5 (by omega),step M5.out L6⟩
 have b0:(c != 0)=false:=by simpa using h0
 have FA:Hid (∀(w:World) (g:Nat),Blk w g 39 cs->w.cell? ⟨g,0,none⟩=some (.int .u16 a.dia)/\w.cell? ⟨g,1,none⟩=some (.int .u64 a.siz)/\Holds w w.heap.size (some ⟨g,2,none⟩) 8 8 a.chal):=by intro w g h;obtain⟨X1,X2,X3,M1,M2,M3,rfl,_⟩:=HA.out;exact⟨h.at rfl,h.at rfl,W3b ka h⟩
 obtain⟨s0,s1⟩:=ka.siz;obtain⟨d0,d1⟩:=ka.dia;by_cases hs:a.siz<4294967296;rotate_left
 ·have h2:z1a c a=2:=by unfold z1a;rw[if_neg (λh=>hs (h.2.2 h0))]
  have HQ:Hid (∀e w',e=.returned (.tuple #[.slice none 0 0,.int .i64 2])->Below w.heap.size w w'->v3a w c a e w'):=by intro e w' he hb;unfold v3a L2a;rw[h2,if_neg (by decide)];exact⟨_,he,X0a.nil _ _ _ _,hb⟩
  have CP:Hid (∀w':World,Calls Tryz.prog 37 #[.int .u64 a.siz,.int .i64 4] w' λe w2=>∃A',e=.returned (.tuple #[.slice A' 0 0,.int .i64 2])/\Below w'.heap.size w' w2):=λw'=>by
   have h:=d8a w' a.siz 4 ⟨s0,s1⟩ (by omega);unfold e5a at h;have hp:A4a a.siz 4=false:=by unfold A4a;rw[show((4:Int).toNat)=4 from rfl,show(256:Int)^4=4294967296 from by decide,decide_eq_false hs];simp
   unfold z6a p5a at h;rw[if_neg (by rw[hp];decide),if_neg (by rw[hp];decide)] at h;exact h.mono λe w2 ⟨A',h1,_,h3⟩=>⟨A',h1,h3⟩
  obtain⟨sz,hsz⟩:∃x,x=a.siz:=⟨_,rfl⟩;rw[<-hsz] at FA CP;obtain⟨b,hb⟩:∃b,b=o1a c a:=⟨_,rfl⟩;rw[<-hb] at CB CZ kb;clear hk hz HA ka ha h2 h0 hb hs s0 s1 hsz;go_enter Tryz.func82,Tryz.ntmps82;go_wp2_with(first
   | ((with_reducible refine sN 3 ?_);refine f0a rfl _ (.tmp 1) rfl cs rfl ?_;intro g w1 hg1 hg2 K1 L1)
   | ((with_reducible refine sN 12 ?_);refine e0a rfl _ (.tmp 3) rfl g rfl _ cs K1 20 _ Tryz.underlying39 rfl s0a HL ?_)
   | fail)
  refine(CB.out w1 L1.out).mono ?_;rintro e w2 ⟨ds,rfl,hds,L2⟩;have HD:=hI hds;have HDL:=hI (hds.len kb);have HDO:=hI hds.one;have K2:=hI (K1.out.over L2);have M2:=hI (step L1.out L2);clear hds L2 K1;go_wp2_with(first
   | ((with_reducible refine sN 6 ?_);refine a0a rfl _ rfl zs _ ZH ?_;intro h w3 hg3 hg4 Z3 L3)
   | ((with_reducible refine sT 6 ?_);refine b0a rfl _ (.tmp 6) (.tmp 14) rfl h rfl _ zs ds rfl Z3 20 s0a HZ HDL HDO ?_;intro w4 X4 O4 hg5;have L4:=hI (c0a L3.out O4.out hg3);have M4:=hI (step M2.out L4.out);have K4:=hI (K2.out.over L4.out);have HD4:=hI (HD.out.over L4.out))
   | ((with_reducible refine sN 19 ?_);refine t1a (by kernel_rfl) _ (.tmp 6) rfl h rfl _ ds X4 20 _ Tryz.underlying39 rfl s0a HDL ?_)
   | fail)
  refine(CZ.out w4 ds HD4.out).mono ?_;rintro e w5 ⟨rfl,L5⟩;have M5:=hI (step M4.out L5);have K5:=hI (K4.out.over L5);have hs5:=M5.out.size;clear L5 K4 HD4 HD CZ CB X4 O4 Z3 L3 L4 M4 M2 K2;obtain⟨_,gd,_⟩:=FA.out _ _ K5.out;go_wp2_with fail;refine(CP.out w5).mono ?_;rintro e w6 ⟨A',rfl,L6⟩;go_wp2;go_ret2;exact HQ.out _ _ rfl (step M5.out L6)
 have h2:z1a c a=0:=by unfold z1a;rw[if_pos ⟨hk,hz,λ_=>hs⟩]
 have HQ:Hid (∀e w',(∃v,e=.returned (.tuple #[v,.int .i64 0])/\T5a w' w.heap.size v (le a.dia 2++List.replicate 2 0++le a.siz 4++a.chal)/\Below w.heap.size w w')->v3a w c a e w'):=by intro e w' hh;unfold v3a L2a;rw[h2,if_pos rfl,if_pos h0];exact hh
 have CP:Hid (∀w':World,Calls Tryz.prog 37 #[.int .u64 a.siz,.int .i64 4] w' λe w2=>∃A',e=.returned (.tuple #[.slice A' 4 4,.int .i64 0])/\r2a w2 w'.heap.size A' (le a.siz 4)/\Below w'.heap.size w' w2):=λw'=>by
  have h:=d8a w' a.siz 4 ⟨s0,s1⟩ (by omega);unfold e5a at h;have hp:A4a a.siz 4=true:=by unfold A4a;rw[show((4:Int).toNat)=4 from rfl,show(256:Int)^4=4294967296 from by decide,decide_eq_true hs];rfl
  unfold z6a p5a at h;rw[if_pos hp,if_pos hp,show((4:Int).toNat)=4 from rfl,g0a] at h;exact h
 have CD:Hid (∀w':World,Calls Tryz.prog 118 #[.int .u64 a.dia,.int .i64 2] w' λe w2=>∃A',e=.returned (.slice A' 2 2)/\r2a w2 w'.heap.size A' (le a.dia 2)/\Below w'.heap.size w' w2):=λw'=>j1b w' a.dia d0 d1
 have CC:Hid (∀(w:World) (gs m:Nat) (A:Nat->Option Addr) (n c:Nat->Nat) (X:Nat->List Int),o4a w gs m A n c X->m<=1000->X1b n m<=140737488355328->Calls Tryz.prog 22 #[.slice (some ⟨gs,0,none⟩) m m] w λe w'=>∃v,e=.returned v/\T5a w' w.heap.size v (E7a X m)/\Below w.heap.size w w'):=X2a;have hdz:IntKind.u64.wrap a.dia=a.dia:=by rw[IntKind.wrap_u64];omega
 have HLS:Hid ((le a.siz 4).length=4):=g0a _ _;have HBS:Hid (Bytes (le a.siz 4)):=F0a _ _;have HLD:Hid ((le a.dia 2).length=2):=g0a _ _;have HBD:Hid (Bytes (le a.dia 2)):=F0a _ _;obtain⟨ls,hls⟩:∃x,x=le a.siz 4:=⟨_,rfl⟩;obtain⟨ld,hld⟩:∃x,x=le a.dia 2:=⟨_,rfl⟩;rw[<-hls,<-hld] at HQ;rw[<-hls] at CP HLS HBS;rw[<-hld] at CD HLD HBD;obtain⟨sz,hsz⟩:∃x,x=a.siz:=⟨_,rfl⟩;obtain⟨dz,hdz'⟩:∃x,x=a.dia:=⟨_,rfl⟩;obtain⟨ch,hch⟩:∃x,x=a.chal:=⟨_,rfl⟩;rw[<-hsz,<-hdz',<-hch] at FA;rw[<-hsz] at CP;rw[<-hdz'] at CD hdz;rw[<-hch] at HQ;obtain⟨b,hb⟩:∃b,b=o1a c a:=⟨_,rfl⟩;rw[<-hb] at CB CZ kb;clear hk hz HA ka ha h2 h0 hb hs s0 s1 d0 d1 hsz hdz' hch hls hld;go_enter Tryz.func82,Tryz.ntmps82;go_wp2_with(first
  | ((with_reducible refine sN 3 ?_);refine f0a rfl _ (.tmp 1) rfl cs rfl ?_;intro g w1 hg1 hg2 K1 L1)
  | ((with_reducible refine sN 12 ?_);refine e0a rfl _ (.tmp 3) rfl g rfl _ cs K1 20 _ Tryz.underlying39 rfl s0a HL ?_)
  | fail)
 refine(CB.out w1 L1.out).mono ?_;rintro e w2 ⟨ds,rfl,hds,L2⟩;have HD:=hI hds;have HDL:=hI (hds.len kb);have HDO:=hI hds.one;have K2:=hI (K1.out.over L2);have M2:=hI (step L1.out L2);clear hds L2 K1;go_wp2_with(first
  | ((with_reducible refine sN 6 ?_);refine a0a rfl _ rfl zs _ ZH ?_;intro h w3 hg3 hg4 Z3 L3)
  | ((with_reducible refine sT 6 ?_);refine b0a rfl _ (.tmp 6) (.tmp 14) rfl h rfl _ zs ds rfl Z3 20 s0a HZ HDL HDO ?_;intro w4 X4 O4 hg5;have L4:=hI (c0a L3.out O4.out hg3);have M4:=hI (step M2.out L4.out);have K4:=hI (K2.out.over L4.out);have HD4:=hI (HD.out.over L4.out))
  | ((with_reducible refine sN 19 ?_);refine t1a (by kernel_rfl) _ (.tmp 6) rfl h rfl _ ds X4 20 _ Tryz.underlying39 rfl s0a HDL ?_)
  | fail)
 refine(CZ.out w4 ds HD4.out).mono ?_;rintro e w5 ⟨rfl,L5⟩;have M5:=hI (step M4.out L5);have K5:=hI (K4.out.over L5);have hs5:=M5.out.size;clear L5 K4 HD4 HD CZ CB X4 O4 Z3 L3 L4 M4 M2 K2;obtain⟨_,gd,_⟩:=FA.out _ _ K5.out;go_wp2_with fail;refine(CP.out w5).mono ?_;rintro e w6 ⟨A6,rfl,hf6,L6⟩;have K6:=hI (K5.out.over L6);have M6:=hI (step M5.out L6);have HF6:=hI (hf6.holds HLS.out HBS.out (by omega));clear hf6 L6 gd CP K5;go_upto_region 9 with fail
 refine wp_region_held (S:=λw'=>Blk w' g 39 cs) (by kernel_rfl) ?_;change wpAnyH _ _ _ _ _ _ _ _ w6.drew
 have S0:Hid (Blk w6.drew g 39 cs):=K6.out.drew;have b0:Hid (Below w.heap.size w w6.drew):=M6.out.drew;refine tK 0 _ rfl (w0a (by kernel_rfl) _ (.tmp 3) 0 rfl (.pointer (some ⟨g,0,none⟩)) (.pointer (some ⟨g,0,none⟩)) (by kernel_rfl) (X6a g)) S0.out ?_;refine tK 1 _ rfl (l0a (by kernel_rfl) _ (.tmp 35) rfl g 0 (by kernel_rfl) (.int .u16 dz) (λw h=>(FA.out w g h).1) _ Tryz.underlying22 rfl) S0.out ?_;refine tK 2 ((.int .u64 dz)) rfl (.inl ⟨by kernel_rfl,λw _=>by go_simp⟩) S0.out ?_;refine tK 5 _ rfl (u0a (by kernel_rfl) (.tmp 8) rfl (.slice A6 4 4) (by kernel_rfl)) S0.out ?_;refine tK 6 _ rfl (w0a (by kernel_rfl) _ (.tmp 3) 2 rfl (.pointer (some ⟨g,0,none⟩)) (.pointer (some ⟨g,2,none⟩)) (by kernel_rfl) (Z6a g)) S0.out ?_;refine tK 7 ((.slice (some ⟨g,2,none⟩) 8 8)) rfl (.inl ⟨by kernel_rfl,λw _=>by go_simp⟩) S0.out ?_;refine D6b 3 4 _ _ (by kernel_rfl) rfl rfl (λK hK=>?_) (λK hK=>?_)
 ·go_simp;refine(CD.out _).mono ?_;rintro e v1 ⟨A3,rfl,hf3,L3⟩;have S1:=hI (S0.out.over L3);have b1:=hI (step b0.out L3);have HN1:=hI (hf3.holds HLD.out HBD.out (by omega));have HS1:=hI (HF6.out.drew.over L3);refine hK _ _ S1.out ?_;clear hK K hf3 L3;refine oN 4 _ rfl λK hK=>?_
  refine s3a rfl _ _ rfl 2 rfl rfl (by omega) ?_;intro v2 R2 b2';have S2:=hI (S1.out.over b2'.out);have b2:=hI (step b1.out b2'.out);have HN2:=hI (HN1.out.over b2'.out);have HS2:=hI (HS1.out.over b2'.out);have HZ2:Hid (Holds v2 v2.heap.size (some ⟨v1.heap.size,0,none⟩) 2 2 (List.replicate 2 0)):=r2a.holds (base:=0) (.inr ⟨_,rfl,Nat.zero_le _,R2.out⟩) rfl (Bytes.zeros 2) (by omega);refine hK _ _ S2.out ?_;clear hK K;refine t2a λa1 ha1=>?_
  refine oN 8 _ rfl λK hK=>?_
  refine O0a rfl _ _ 4 _ rfl Tryz.underlying93 [.slice A3 2 2,.slice (some ⟨v1.heap.size,0,none⟩) 2 2,.slice A6 4 4,.slice (some ⟨g,2,none⟩) 8 8] (by rw[ha1];kernel_rfl) ?_;intro g9 v3 q2 q3 Y3 b3';have S3:=hI (S2.out.over b3'.out);have b3:=hI (step b2.out b3'.out);obtain⟨_,_,hch⟩:=FA.out _ _ S3.out;have PP:Hid (o4a v3 g9 4 (Y1b [(A3,2,2,ld),(some ⟨v1.heap.size,0,none⟩,2,2,List.replicate 2 0),(A6,4,4,ls),(some ⟨g,2,none⟩,8,8,ch)]) (R0b [(A3,2,2,ld),(some ⟨v1.heap.size,0,none⟩,2,2,List.replicate 2 0),(A6,4,4,ls),(some ⟨g,2,none⟩,8,8,ch)]) (Z1b [(A3,2,2,ld),(some ⟨v1.heap.size,0,none⟩,2,2,List.replicate 2 0),(A6,4,4,ls),(some ⟨g,2,none⟩,8,8,ch)]) (d4a [(A3,2,2,ld),(some ⟨v1.heap.size,0,none⟩,2,2,List.replicate 2 0),(A6,4,4,ls),(some ⟨g,2,none⟩,8,8,ch)])):=o4a.of_blk [(A3,2,2,ld),(some ⟨v1.heap.size,0,none⟩,2,2,List.replicate 2 0),(A6,4,4,ls),(some ⟨g,2,none⟩,8,8,ch)] Y3.out (List.forall_mem_cons.2 ⟨HN2.out.over b3'.out,List.forall_mem_cons.2 ⟨HZ2.out.over b3'.out,List.forall_mem_cons.2 ⟨HS2.out.over b3'.out,List.forall_mem_cons.2 ⟨hch,λ_ h=>by cases h⟩⟩⟩⟩)
  refine hK _ _ S3.out ?_;clear hK K hch;rw[ha1];clear ha1 a1;refine oN 9 _ rfl λK hK=>?_
  go_simp;refine(CC.out v3 g9 4 _ _ _ _ PP.out (by omega) (by show 0+2+2+4+8<=_;omega)).mono ?_;rintro e v4 ⟨v,rfl,ho,L4⟩;have HOUT:=hI ho;have S4:=hI (S3.out.over L4);have b4:=hI (step b3.out L4);refine hK _ _ S4.out ?_;clear hK K ho L4;refine oN 10 _ rfl λK hK=>?_
  go_simp;refine hK _ _ S4.out ?_;clear hK K;refine oN 11 _ rfl λK hK=>?_
  go_simp;refine hK _ _ S4.out ?_;clear hK K;refine dN ?_;go_wp2;go_ret2;refine HQ.out _ _ ⟨_,rfl,?_,b4.out⟩;have h9:=HOUT.out.mono (base':=w.heap.size) b3.out.size;simpa[E7a,d4a,List.append_assoc] using h9
 ·refine s3a rfl _ _ rfl 2 rfl rfl (by omega) ?_;intro v1 R1 b1';have S1:=hI (S0.out.over b1'.out);have b1:=hI (step b0.out b1'.out);have HS1:=hI (HF6.out.drew.over b1'.out);have HZ1:Hid (Holds v1 v1.heap.size (some ⟨w6.drew.heap.size,0,none⟩) 2 2 (List.replicate 2 0)):=r2a.holds (base:=0) (.inr ⟨_,rfl,Nat.zero_le _,R1.out⟩) rfl (Bytes.zeros 2) (by omega);refine hK _ _ S1.out ?_;clear hK K;refine oN 3 _ rfl λK hK=>?_
  go_simp;refine(CD.out _).mono ?_;rintro e v2 ⟨A3,rfl,hf3,L3⟩;have S2:=hI (S1.out.over L3);have b2:=hI (step b1.out L3);have HN2:=hI (hf3.holds HLD.out HBD.out (by omega));have HS2:=hI (HS1.out.over L3);have HZ2:=hI (HZ1.out.over L3);refine hK _ _ S2.out ?_;clear hK K hf3 L3;refine t2a λa1 ha1=>?_
  refine oN 8 _ rfl λK hK=>?_
  refine O0a rfl _ _ 4 _ rfl Tryz.underlying93 [.slice A3 2 2,.slice (some ⟨w6.drew.heap.size,0,none⟩) 2 2,.slice A6 4 4,.slice (some ⟨g,2,none⟩) 8 8] (by rw[ha1];kernel_rfl) ?_;intro g9 v3 q2 q3 Y3 b3';have S3:=hI (S2.out.over b3'.out);have b3:=hI (step b2.out b3'.out);obtain⟨_,_,hch⟩:=FA.out _ _ S3.out;have PP:Hid (o4a v3 g9 4 (Y1b [(A3,2,2,ld),(some ⟨w6.drew.heap.size,0,none⟩,2,2,List.replicate 2 0),(A6,4,4,ls),(some ⟨g,2,none⟩,8,8,ch)]) (R0b [(A3,2,2,ld),(some ⟨w6.drew.heap.size,0,none⟩,2,2,List.replicate 2 0),(A6,4,4,ls),(some ⟨g,2,none⟩,8,8,ch)]) (Z1b [(A3,2,2,ld),(some ⟨w6.drew.heap.size,0,none⟩,2,2,List.replicate 2 0),(A6,4,4,ls),(some ⟨g,2,none⟩,8,8,ch)]) (d4a [(A3,2,2,ld),(some ⟨w6.drew.heap.size,0,none⟩,2,2,List.replicate 2 0),(A6,4,4,ls),(some ⟨g,2,none⟩,8,8,ch)])):=o4a.of_blk [(A3,2,2,ld),(some ⟨w6.drew.heap.size,0,none⟩,2,2,List.replicate 2 0),(A6,4,4,ls),(some ⟨g,2,none⟩,8,8,ch)] Y3.out (List.forall_mem_cons.2 ⟨HN2.out.over b3'.out,List.forall_mem_cons.2 ⟨HZ2.out.over b3'.out,List.forall_mem_cons.2 ⟨HS2.out.over b3'.out,List.forall_mem_cons.2 ⟨hch,λ_ h=>by cases h⟩⟩⟩⟩)
  refine hK _ _ S3.out ?_;clear hK K hch;rw[ha1];clear ha1 a1;refine oN 9 _ rfl λK hK=>?_
  go_simp;refine(CC.out v3 g9 4 _ _ _ _ PP.out (by omega) (by show 0+2+2+4+8<=_;omega)).mono ?_;rintro e v4 ⟨v,rfl,ho,L4⟩;have HOUT:=hI ho;have S4:=hI (S3.out.over L4);have b4:=hI (step b3.out L4);refine hK _ _ S4.out ?_;clear hK K ho L4;refine oN 10 _ rfl λK hK=>?_
  go_simp;refine hK _ _ S4.out ?_;clear hK K;refine oN 11 _ rfl λK hK=>?_
  go_simp;refine hK _ _ S4.out ?_;clear hK K;refine dN ?_;go_wp2;go_ret2;refine HQ.out _ _ ⟨_,rfl,?_,b4.out⟩;have h9:=HOUT.out.mono (base':=w.heap.size) b3.out.size;simpa[E7a,d4a,List.append_assoc] using h9
theorem w1b(w:World)(c:Int)(cs:List Value)(a:m1a)(hc:0<=c/\c<=65535)(ka:a.ok)(ha:f1a w w.heap.size cs a)(hu:a.user.size<=17592186044416/\a.share.size<=17592186044416)(hT:V7a w) :
  Calls Tryz.prog 80 #[.int .u16 c,.agg cs.toArray] w (M9b w c a):=(s6a w c cs a hc ka ha hu hT).mono λe w' ⟨v,h1,h2,h3⟩=>⟨v,h1,h2.own8,h3⟩
theorem x1b(w:World)(c:Int)(cs:List Value)(a:M1a)(hc:0<=c/\c<=65535)(ka:a.ok)(ha:n1a w w.heap.size cs a) :
  Calls Tryz.prog 82 #[.int .u16 c,.agg cs.toArray] w (N9b w c a):=(t6a w c cs a hc ka ha).mono λe w' ⟨v,h1,h2,h3⟩=>⟨v,h1,h2.own8,h3⟩
theorem L6b(xs:List Int)(p s:Nat):Z0a (xs.drop p) 0 s=Z0a xs p s:=by unfold Z0a;rw[List.drop_zero]
theorem y1b(xs:List Int)(p:Nat):W9a (xs.drop p) 0=W9a xs (p:Int):=by unfold W9a;rw[Int.toNat_natCast];exact L6b xs p 2
theorem m7a(xs:List Int)(p:Nat)(m:Int)(hp:p<=xs.length):W1a (xs.drop p) 0 m=W1a xs (p:Int) m:=by
 unfold W1a;rw[y1b,List.length_drop];have e1:((xs.length-p:Nat):Int)-0=(xs.length:Int)-p:=by omega
 rw[if_neg (show ¬((0:Int)<0∨((xs.length-p:Nat):Int)<0) by omega),e1,if_neg (show ¬((p:Int)<0∨(xs.length:Int)<p) by omega)]
theorem z1b(xs:List Int)(p:Nat)(m:Int)(hp:p<=xs.length):a2a (xs.drop p) 0 m=a2a xs (p:Int) m:=by unfold a2a;rw[m7a xs p m hp,y1b,Int.toNat_natCast,show Int.toNat 0=0 from rfl,Nat.zero_add,List.drop_drop]
theorem M6b(xs:List Int)(p:Nat)(hp:p<=xs.length):Y0a (xs.drop p) 0=Y0a xs (p:Int)/\X1a (xs.drop p) 0=X1a xs (p:Int)/\(Y0a xs (p:Int)=0->a1a (xs.drop p) 0+p=a1a xs (p:Int)):=by
 have e1:Y0a (xs.drop p) 0=Y0a xs (p:Int):=by unfold Y0a;rw[m7a xs p 512 hp,z1b xs p 512 hp]
 refine⟨e1,?_,?_⟩
 ·unfold X1a;rw[e1,z1b xs p 512 hp]
 ·intro h;unfold a1a;rw[e1,if_pos h,if_pos h];unfold B3a;rw[m7a xs p 512 hp,y1b];have hg:W1a xs (p:Int) 512=0:=by
   unfold Y0a at h;by_cases hg:W1a xs (p:Int) 512=0
   ·exact hg
   ·rw[if_neg hg] at h;exact absurd h hg
  rw[if_pos hg,if_pos hg];omega
def T9b(w:World)(g B:Nat)(xs:List Int)(q:List UInt8×Rd)(e:Ending)(w':World):Prop:=e=.returned (.string ⟨q.1.toArray⟩)/\PF w' g B xs q.2/\Q0a g w w'
theorem f8b(w:World)(g B:Nat)(xs:List Int)(r:Rd)(hx:Bytes xs)(hP:PF w g B xs r) :
  Calls Tryz.prog 127 #[.pointer (some ⟨g,0,none⟩)] w (T9b w g B xs (L1a xs r)):=by
 have HP0:=hI hP;obtain⟨p,er⟩:=r;obtain⟨hp,hg,A,n,c,hB,hh⟩:=hP;change p<=xs.length at hp
 change Blk w g _ [.slice A n c,.int .i64 er] at hB
 change Holds w B A n c (xs.drop p) at hh
 have hl:xs.length-p=n:=by rw[<-hh.len,List.length_drop]
 have hrm:=hh.room;have hft:=hh.fit;have hlt:=hB.lt;have c0:w.cell? ⟨g,0,none⟩=some (.slice A n c):=Blk.at hB rfl;have c1:w.cell? ⟨g,1,none⟩=some (.int .i64 er):=Blk.at hB rfl;by_cases he:er=0;rotate_left
 ·have HQ:Hid (∀e w',(e=.returned (.string .empty)/\PF w' g B xs ⟨p,er⟩/\Q0a g w w')->T9b w g B xs (L1a xs ⟨p,er⟩) e w'):=by intro e w' h;unfold L1a;rw[if_neg he];exact h
  have hne:(er != 0)=true:=by simpa using he
  clear hB hh hl he hp;go_enter Tryz.func127,Tryz.ntmps127;go_wp2;go_ret;exact HQ.out _ _ ⟨rfl,HP0.out,Q0a.refl g w⟩
 subst he;obtain⟨t1,t2,t3⟩:=M6b xs p hp;obtain⟨n0,n1⟩:=M3a (hx.drop p) 0 (Int.le_refl 0);have C1:=e8a w A n c (xs.drop p) 0 (hh.mono (by omega)) (by omega);unfold h3a at C1;rw[t1,t2] at C1;rw[List.length_drop,hl] at n1;obtain⟨j,hj⟩:=Int.eq_ofNat_of_zero_le n0;rw[hj] at C1 n1 t3;have hjn:j<=n:=by omega
 have HQ:Hid (∀e w',(e=.returned (.string ⟨(X1a xs (p:Int)).toArray⟩)/\PF w' g B xs ⟨p+j,Y0a xs (p:Int)⟩/\Q0a g w w')->T9b w g B xs (L1a xs ⟨p,0⟩) e w'):=by
  intro e w' h;unfold L1a;rw[if_pos rfl];have e2:(if Y0a xs (p:Int)=0 then (a1a xs (p:Int)).toNat else p)=p+j:=by
   by_cases h0:Y0a xs (p:Int)=0
   ·rw[if_pos h0,<-t3 h0];omega
   ·rw[if_neg h0];have:(j:Int)=0:=by rw[<-hj];unfold a1a;rw[t1,if_neg h0]
    omega
  show T9b w g B xs (_,⟨if Y0a xs ((p:Nat):Int)=0 then (a1a xs ((p:Nat):Int)).toNat else p,_⟩) e w'
  rw[e2];exact h
 have hd:(xs.drop p).drop j=xs.drop (p+j):=by rw[List.drop_drop]
 have hrst:=hh.rest (k:=j) hjn;rw[hd] at hrst;have HK:Hid (∀w1,Below w.heap.size w w1->w1.cell? ⟨g,0,none⟩=some (.slice A n c)/\w1.cell? ⟨g,1,none⟩=some (.int .i64 0)/\w1.frozen? ⟨g,0,none⟩=false/\w1.frozen? ⟨g,1,none⟩=false/\∀v,(w1.setCell ⟨g,0,none⟩ v).frozen? ⟨g,1,none⟩=false/\(w1.setCell ⟨g,0,none⟩ v).cell? ⟨g,1,none⟩=some (.int .i64 0)):=by intro w1 hb;have h1:=hB.over hb;exact⟨h1.at rfl,h1.at rfl,h1.frozen 0,h1.frozen 1,λv=>⟨(h1.set 0 v).frozen 1,(h1.set 0 v).at rfl⟩⟩
 obtain⟨tx,htx⟩:∃x,x=X1a xs (p:Int):=⟨_,rfl⟩;obtain⟨ex,hex⟩:∃x,x=Y0a xs (p:Int):=⟨_,rfl⟩;rw[<-htx,<-hex] at C1 HQ;have HB0:=hI hB;have HS:Hid (∀(w1:World) (u v:Value),Below w.heap.size w w1->Q0a g w ((w1.setCell ⟨g,0,none⟩ u).setCell ⟨g,1,none⟩ v)):=λw1 u v hb=>((Q0a.of_below hb g).setCell 0 u).setCell 1 v
 have C1':=hI C1;by_cases hcj:c=j
 ·rw[if_pos hcj] at hrst;subst hcj;have HPF:Hid (∀w1,Below w.heap.size w w1->PF ((w1.setCell ⟨g,0,none⟩ (.slice A 0 0)).setCell ⟨g,1,none⟩ (.int .i64 ex)) g B xs ⟨p+c,ex⟩):=by
   intro w1 hb;have hr2:Holds w B A 0 0 (xs.drop (p+c)):=by
    have h0:n-c=0:=by omega
    simpa[h0] using hrst
   exact⟨by show p+c<=_;omega,hg,_,_,_,Blk.set (Blk.set (hB.over hb) 0 _) 1 _,((hr2.below (hb.mono (by omega))).only (g1a w1 g 0 _) hg).only (g1a _ g 1 _) hg⟩
  clear C1 hB hh hl hp t1 t2 t3 n0 n1 hj htx hex hd hrst c1;go_enter Tryz.func127,Tryz.ntmps127;have c1:w.cell? ⟨g,1,none⟩=some (.int .i64 0):=HB0.out.at rfl;go_wp2_with fail;refine C1'.out.mono ?_;rintro e w1 ⟨rfl,hb⟩;have HPW:=hI (HPF.out w1 hb);have HSW:=hI (HS.out w1 (.slice A 0 0) (.int .i64 ex) hb);obtain⟨k0,k1,k2,k3,k4⟩:=HK.out w1 hb;obtain⟨k5,k6⟩:=k4 (.slice A 0 0);clear k4 hb HPF HK HS;go_wp2;go_ret;exact HQ.out _ _ ⟨rfl,HPW.out,HSW.out⟩
 ·rw[if_neg hcj] at hrst;have HPF:Hid (∀w1,Below w.heap.size w w1->PF ((w1.setCell ⟨g,0,none⟩ (.slice (A.map (·.add j)) (n-j) (c-j))).setCell ⟨g,1,none⟩ (.int .i64 ex)) g B xs ⟨p+j,ex⟩):=by intro w1 hb;exact⟨by show p+j<=_;omega,hg,_,_,_,Blk.set (Blk.set (hB.over hb) 0 _) 1 _,((hrst.below (hb.mono (by omega))).only (g1a w1 g 0 _) hg).only (g1a _ g 1 _) hg⟩
  clear C1 hB hh hl hp t1 t2 t3 n0 n1 hj htx hex hd hrst c1;go_enter Tryz.func127,Tryz.ntmps127;have c1:w.cell? ⟨g,1,none⟩=some (.int .i64 0):=HB0.out.at rfl;go_wp2_with fail;refine C1'.out.mono ?_;rintro e w1 ⟨rfl,hb⟩;have HPW:=hI (HPF.out w1 hb);have HSW:=hI (HS.out w1 (.slice (A.map (·.add j)) (n-j) (c-j)) (.int .i64 ex) hb);obtain⟨k0,k1,k2,k3,k4⟩:=HK.out w1 hb;obtain⟨k5,k6⟩:=k4 (.slice (A.map (·.add j)) (n-j) (c-j));clear k4 hb HPF HK HS;go_wp2;go_ret;exact HQ.out _ _ ⟨rfl,HPW.out,HSW.out⟩
def g8b(w:World)(g B:Nat)(xs:List Int)(q:List Int×Rd)(e:Ending)(w':World):Prop:=∃v,e=.returned v/\X0a .u8 5 w' w.heap.size v q.1/\PF w' g B xs q.2/\Q0a g w w'
theorem X0c(A:Option Addr)(k:Nat)(ys:List Int):E7a (d4a [(A,k,k,ys)]) 1=ys:=by
 show[]++ys=ys
 rfl
theorem i4b(w:World)(g B:Nat)(xs:List Int)(r:Rd)(hx:Bytes xs)(hP:PF w g B xs r) :
  Calls Tryz.prog 128 #[.pointer (some ⟨g,0,none⟩)] w (g8b w g B xs (X3a xs r)):=by
 have hlt:=hP.lt;have hBg:=hP.2.1;have C1:=h4b w g B xs r 4 32768 hx hP (by decide) (by decide);obtain⟨m0,m1⟩:=d3a hx 4 32768 3 r (by decide) (by decide);unfold S1b at C1;have hq:∀e w',g8b w g B xs (v0a xs (b1a xs 4 32768 3 r).1.toNat (b1a xs 4 32768 3 r).2) e w'->g8b w g B xs (X3a xs r) e w':=λ_ _ h=>h
 obtain⟨q,hqq⟩:∃q,q=b1a xs 4 32768 3 r:=⟨_,rfl⟩;rw[<-hqq] at C1 m0 m1 hq;obtain⟨z,p⟩:=q;change 0<=z at m0
 change z<=32768 at m1
 obtain⟨m,rfl⟩:=Int.eq_ofNat_of_zero_le m0;change ∀e w',g8b w g B xs (v0a xs ((m:Int)).toNat p) e w'->_ at hq
 rw[Int.toNat_natCast] at hq;have hm:m<=32768:=by omega
 have CC:Hid (∀w,PF w g B xs p->Calls Tryz.prog 169 #[.pointer (some ⟨g,0,none⟩),.int .i64 (m:Int)] w (j8a w g B xs (v0a xs m p))):=λw h=>o3b w g B xs p m h (by omega)
 have hyl:(v0a xs m p).1.length<=m:=Q5a;have HQ:Hid (∀e w',(∃v,e=.returned v/\X0a .u8 5 w' w.heap.size v (v0a xs m p).1/\PF w' g B xs (v0a xs m p).2/\Q0a g w w')->g8b w g B xs (X3a xs r) e w'):=λe w' h=>hq e w' h
 obtain⟨d,hd⟩:∃d,d=v0a xs m p:=⟨_,rfl⟩;rw[<-hd] at CC HQ hyl;obtain⟨ys,q⟩:=d;change ys.length<=m at hyl
 have C1':=hI C1;clear C1 hqq hq hd hP m0 m1;go_enter Tryz.func128,Tryz.ntmps128;go_wp2_with fail;refine C1'.out.mono ?_;rintro e w1 ⟨rfl,hP1,hO1⟩;have HP1:=hI hP1;have HO1:=hI hO1;clear hP1 hO1 C1';go_wp2_with fail;refine(CC.out w1 HP1.out).mono ?_;rintro e w2 ⟨A',k,rfl,hk,hH,hP2,hO2⟩;have HH:=hI hH;have HP2:=hI hP2;have HS2:Hid (Q0a g w w2):=(Q0a.of_only HO1.out).trans (Q0a.of_only hO2);have HKY:Hid (k=ys.length):=hk;have hk3:k<=32768:=by rw[hk];exact Nat.le_trans hyl hm
 clear hH hP2 hO2 HO1 HP1 CC hk;have hsz:w.heap.size<=w2.heap.size:=HS2.out.size;have hB2:B<=w2.heap.size:=by omega
 go_wp2_with(first
  | ((with_reducible refine sN 7 ?_);refine Q2a rfl 1 _ rfl [(A',k,k,ys)] rfl (by kernel_rfl) (λp hp=>by rw[List.mem_singleton.1 hp];exact HH.out.mono hB2) ?_;intro g3 w3 hP3 L3)
  | fail)
 have HCC:=hI (X2a w3 g3 1 _ _ _ _ hP3.out (by decide) (by show 0+k<=_;omega));have HP3:=hI (HP2.out.below L3.out);have HS3:=hI (HS2.out.trans (Q0a.of_below L3.out g));have hsz3:=L3.out.size;clear hP3 L3 HH;go_wp2_with fail;refine HCC.out.mono ?_;rintro e w4 ⟨v,rfl,hv,L4⟩;rw[X0c] at hv;have HV:=hI (X0a.mono hv (Nat.le_trans hsz hsz3));have HP4:=hI (HP3.out.below L4);have HS4:=hI (HS3.out.trans (Q0a.of_below L4 g));clear hv L4 HCC HP3 HS3;go_wp2;go_ret;exact HQ.out _ _ ⟨_,rfl,HV.out,HP4.out,HS4.out⟩
theorem PF.belowAt{w w':World}{g B b:Nat}{xs:List Int}{r:Rd}(h:PF w g B xs r)(hb:Below b w w')(hg:g<b):PF w' g B xs r:=by obtain⟨h1,h2,A,n,c,hB,hx⟩:=h;exact⟨h1,h2,A,n,c,hB.below hb hg,hx.below (hb.mono (by omega))⟩
theorem d1a.oneLock{w:World}{g:Nat}{T:TypeId}{l:g2a}(h:Blk w g T (E0a l)):d1a E0a 4 w (g+1) (some ⟨g,0,none⟩) 1 1 [l]:=by
 refine⟨rfl,Nat.le_refl _,λhA=>(by cases hA),λ_=>⟨g,0,rfl,by omega,λi x hx j u hu=>?_⟩⟩;have hi:i=0:=by have:=(List.getElem?_eq_some_iff.1 hx).1;simpa using this
 subst hi;have hx2:l=x:=by simpa using hx
 subst hx2;rw[Nat.zero_mul,Nat.zero_add,Nat.zero_add,h.cell];exact hu
def j4b(w:World)(g B:Nat)(xs:List Int)(q:List g2a×Rd)(e:Ending)(w':World):Prop:=∃v,e=.returned v/\r5a E0a 4 114 w' w.heap.size v q.1/\PF w' g B xs q.2/\Q0a g w w'
theorem N6b(w:World)(g B:Nat)(xs:List Int)(r:Rd)(hx:Bytes xs)(hP:PF w g B xs r) :
  Calls Tryz.prog 129 #[.pointer (some ⟨g,0,none⟩)] w (j4b w g B xs (J6a xs r)):=by
 have hlt:=hP.lt;have hBg:=hP.2.1;have C1:=h4b w g B xs r 2 16 hx hP (by decide) (by decide);obtain⟨m0,m1⟩:=d3a hx 2 16 3 r (by decide) (by decide);unfold S1b at C1;have hq:∀e w',j4b w g B xs (A1a xs (rdZ xs 2 (b1a xs 2 16 3 r).2) (b1a xs 2 16 3 r).1.toNat) e w'->j4b w g B xs (J6a xs r) e w':=λ_ _ h=>h
 obtain⟨q,hqq⟩:∃q,q=b1a xs 2 16 3 r:=⟨_,rfl⟩;rw[<-hqq] at C1 m0 m1 hq;obtain⟨z,p⟩:=q;change 0<=z at m0
 change z<=16 at m1
 obtain⟨N,rfl⟩:=Int.eq_ofNat_of_zero_le m0;change ∀e w',j4b w g B xs (A1a xs (rdZ xs 2 p) ((N:Int)).toNat) e w'->_ at hq
 rw[Int.toNat_natCast] at hq;have hN:N<=16:=by omega
 have CZ:Hid (∀(w:World) (r:Rd),PF w g B xs r->Calls Tryz.prog 126 #[.pointer (some ⟨g,0,none⟩),.int .i64 2] w λe w'=>e=.returned (.tuple #[])/\PF w' g B xs (rdZ xs 2 r)/\T1a g w w'):=λw r h=>r6a w g B xs r 2 hx h (by decide)
 have C8:Hid (∀(w:World) (r:Rd),PF w g B xs r->Calls Tryz.prog 125 #[.pointer (some ⟨g,0,none⟩)] w λe w'=>e=.returned (.int .u64 (rdN xs 8 r).1)/\PF w' g B xs (rdN xs 8 r).2/\T1a g w w'):=λw r h=>i3a w g B xs r hx h
 have C2:Hid (∀(w:World) (r:Rd),PF w g B xs r->Calls Tryz.prog 171 #[.pointer (some ⟨g,0,none⟩)] w λe w'=>e=.returned (.int .u16 (rdN xs 2 r).1)/\PF w' g B xs (rdN xs 2 r).2/\T1a g w w'):=λw r h=>Q5b w g B xs r hx h
 have HQ:Hid (∀e w',(∃v,e=.returned v/\r5a E0a 4 114 w' w.heap.size v (A1a xs (rdZ xs 2 p) N).1/\PF w' g B xs (A1a xs (rdZ xs 2 p) N).2/\Q0a g w w')->j4b w g B xs (J6a xs r) e w'):=λe w' h=>hq e w' h
 obtain⟨qz,hqz⟩:∃q,q=rdZ xs 2 p:=⟨_,rfl⟩;rw[<-hqz] at HQ;have HQZ:=hI hqz;have HST:Hid (∀j,(A1a xs qz (j+1)).1=(A1a xs qz j).1++[(⟨0,(rdN xs 8 (A1a xs qz j).2).1,(rdN xs 8 (rdN xs 8 (A1a xs qz j).2).2).1,(rdN xs 2 (rdN xs 8 (rdN xs 8 (A1a xs qz j).2).2).2).1⟩:g2a)]/\(A1a xs qz (j+1)).2=rdZ xs 2 (rdN xs 2 (rdN xs 8 (rdN xs 8 (A1a xs qz j).2).2).2).2):=λj=>⟨rfl,rfl⟩
 have HLN:Hid (∀j,(A1a xs qz j).1.length=j):=λj=>u1b j
 obtain⟨lk,hlk⟩:∃f,f=A1a xs qz:=⟨_,rfl⟩;have H0:Hid (lk 0=([],qz)):=by show _=_;rw[hlk];rfl
 rw[<-hlk] at HST HLN HQ;have BL:∀x y z:Int,Tryz.prog.built 114 [(1,.int .u64 x),(2,.int .u64 y),(3,.int .u16 z)]=some (E0a ⟨0,x,y,z⟩).toArray:=λx y z=>by kernel_rfl
 have BS:∀l:g2a,Tryz.prog.builtSlice 114 1 [(0,.agg (E0a l).toArray)]=some (E0a l).toArray:=λl=>by kernel_rfl
 have C1':=hI C1;clear C1 hqq hq hqz hlk hP m0 m1;go_enter Tryz.func129,Tryz.ntmps129;go_wp2_with fail;refine C1'.out.mono ?_;rintro e w1 ⟨rfl,hP1,hO1⟩;have HP1:=hI hP1;have HO1:=hI hO1;clear hP1 hO1 C1';go_wp2_with fail;refine(CZ.out w1 p HP1.out).mono ?_;rintro e w2 ⟨rfl,hP2,hO2⟩;rw[<-HQZ.out] at hP2;have HP2:=hI hP2;have HS2:Hid (Q0a g w w2):=(Q0a.of_only HO1.out).trans (Q0a.of_only hO2);clear hP2 hO2 HO1 HP1 HQZ;go_wp2;go_loopw [3,10] (λv i wr=>∃j:Nat,i=.int .i64 j/\j<=N/\Hid (r5a E0a 4 114 wr w.heap.size v (lk j).1)/\Hid (PF wr g B xs (lk j).2)/\Hid (Q0a g w wr)) (λ_ i _=>N-(intOf i).toNat)
 case atStart=>exact⟨0,rfl,Nat.zero_le _,by rw[H0.out];exact r5a.nil _ _ _ _ _,by rw[H0.out];exact HP2,HS2⟩
 case round=>
  obtain⟨j,rfl,hj,HO,HP,HS⟩:=hrel;by_cases hlt2:j<N
  ·obtain⟨E1,E2⟩:=HST.out j;have hLn:=HLN.out j;have HE1:=hI E1;have HE2:=hI E2;obtain⟨r0,hr0⟩:∃r,r=(lk j).2:=⟨_,rfl⟩;rw[<-hr0] at HP HE1 HE2;obtain⟨L,hL⟩:∃r,r=(lk j).1:=⟨_,rfl⟩;rw[<-hL] at HO HE1 hLn;obtain⟨r1,hr1⟩:∃r,r=rdN xs 8 r0:=⟨_,rfl⟩;rw[<-hr1] at HE1 HE2;have D1:=C8.out wr r0 HP.out;rw[<-hr1] at D1;obtain⟨r2,hr2⟩:∃r,r=rdN xs 8 r1.2:=⟨_,rfl⟩;rw[<-hr2] at HE1 HE2;have D2:=λw h=>C8.out w r1.2 h
   rw[<-hr2] at D2;obtain⟨r3,hr3⟩:∃r,r=rdN xs 2 r2.2:=⟨_,rfl⟩;rw[<-hr3] at HE1 HE2;have D3:=λw h=>C2.out w r2.2 h
   rw[<-hr3] at D3;have D4:=λw h=>CZ.out w r3.2 h
   rw[<-HE2.out] at D4;have D1':=hI D1;have D2':=hI D2;have D3':=hI D3;have D4':=hI D4;have hsz:=HS.out.size;clear E1 E2 hr0 hL hr1 hr2 hr3 D1 D2 D3 D4 HE2;go_wp2_with fail;refine D1'.out.mono ?_;rintro e v1 ⟨rfl,hP1,hO1⟩;have HPa:=hI hP1;have HSa:=hI (HS.out.trans (Q0a.of_only hO1));have HOa:=hI (HO.out.only hO1 hlt);clear hP1 hO1 D1' HO HP;go_wp2_with fail;refine(D2'.out v1 HPa.out).mono ?_;rintro e v2 ⟨rfl,hP1,hO1⟩;have HPb:=hI hP1;have HSb:=hI (HSa.out.trans (Q0a.of_only hO1));have HOb:=hI (HOa.out.only hO1 hlt);clear hP1 hO1 D2' HOa HPa HSa;go_wp2_with fail;refine(D3'.out v2 HPb.out).mono ?_;rintro e v3 ⟨rfl,hP1,hO1⟩;have HPc:=hI hP1;have HSc:=hI (HSb.out.trans (Q0a.of_only hO1));have HOc:=hI (HOb.out.only hO1 hlt);clear hP1 hO1 D3' HOb HPb HSb;obtain⟨l,hl⟩:∃l:g2a,l=⟨0,r1.1,r2.1,r3.1⟩:=⟨_,rfl⟩;rw[<-hl] at HE1;have BLl:=BL r1.1 r2.1 r3.1;rw[<-hl] at BLl;have hszc:=HSc.out.size;clear hl;go_wp2_with(first
    | ((with_reducible refine sN 19 ?_);refine k0a rfl _ _ rfl (E0a l) (by refine Eq.trans ?_ BLl;kernel_rfl) ?_)
    | ((with_reducible refine sN 20 ?_);refine s1a rfl _ _ 1 _ rfl Tryz.underlying32 (E0a l) (by refine Eq.trans ?_ (BS l);kernel_rfl) ?_;intro gl v4 hgl1 hgl2 K4 L4;have HOd:=hI (HOc.out.below L4.out);have HPd:=hI (HPc.out.below L4.out);have HSd:=hI (HSc.out.trans (Q0a.of_below L4.out g));have hszd:=HSd.out.size)
    | (at_builtin;refine Q3a rfl (.tmp 12) (.tmp 20) E0a 4 (by omega) Y2a k6a _ rfl 32 114 32 Tryz.underlying32 R3b rfl w.heap.size _ L rfl HOd.out (gl+1) _ 1 1 [l] rfl (d1a.oneLock K4.out) (by rw[hLn];show(j+1)*32<=_;omega) (by rw[hLn];show j+1<=_;omega) hszd ?_;intro u5 v5 HOe L5)
    | fail)
   have HPe:=hI (PF.belowAt HPd.out L5.out hlt);have HSe:=hI (Q0a.thenBelow HSd.out L5.out);clear HOd HPd HSd HPc HSc HOc K4 L4 L5 BLl;refine(D4'.out v5 HPe.out).mono ?_;rintro e v6 ⟨rfl,hP1,hO1⟩;have HPf:=hI hP1;have HSf:=hI (HSe.out.trans (Q0a.of_only hO1));have HOf:=hI (HOe.out.only hO1 hlt);rw[<-HE1.out] at HOf;clear hP1 hO1 D4' HOe HPe HSe HE1;go_wp2;go_roundw
   case rel=>exact⟨j+1,by simp,by omega,HOf,HPf,HSf⟩
   case measure=>simp[intOf];omega
  ·obtain rfl:j=N:=by omega
   go_wp2;go_ret;exact HQ.out _ _ ⟨_,rfl,HO.out,HP.out,HS.out⟩
def h2a(w:World)(c:Int)(xs:List Int)(e:Ending)(w':World):Prop:=∃cs vx,e=.returned (.tuple #[.agg cs.toArray,.int .i64 (h5a c xs)])/\f1a w' w'.heap.size cs (n0b c xs)/\cs[61]? = some vx/\X0a .u8 5 w' w.heap.size vx (n0b c xs).data/\Below w.heap.size w w'/\(∀b off s n c,cs[62]? = some (.slice (some ⟨b,off,s⟩) n c)->w.heap.size<=b)
def S2a(w:World)(c:Int)(xs:List Int)(e:Ending)(w':World):Prop:=∃cs vx,e=.returned (.tuple #[.agg cs.toArray,.int .i64 (s5a c xs)])/\n1a w' w'.heap.size cs (o0b c xs)/\cs[15]? = some vx/\X0a .u8 5 w' w.heap.size vx (o0b c xs).data/\Below w.heap.size w w'
theorem X0a.onlyAt{k:IntKind}{e:TypeId}{w w':World}{base b:Nat}{v:Value}{xs:List Int}(h:X0a k e w base v xs)(hO:T1a b w w')(hb:b<base):X0a k e w' base v xs:=
 h.keep λi cs hi hc=>hO.rest i (by obtain⟨h1,_⟩:=h.own.block hi;omega)
theorem Y0c{xs:List Int}{r:Rd}(h:H0a xs r=0):r.e=0:=W3a h
theorem Z1c{xs:List Int}{s:Nat}{r:Rd}(h:(rdN xs s r).2.e=0):r.e=0:=by
 by_cases he:r.e=0
 ·exact he
 ·rw[d4b he] at h;exact h
theorem N2c{xs:List Int}{m:Nat}{r:Rd}(h:(rdZ xs m r).e=0):r.e=0:=by
 by_cases he:r.e=0
 ·exact he
 ·rw[e4b he] at h;exact h
theorem a2c{xs:List Int}{m:Int}{r:Rd}(h:(s9a xs m r).2.e=0):r.e=0:=by
 by_cases he:r.e=0
 ·exact he
 ·rw[J6b he] at h;exact h
theorem h8b:(Tryz.prog.info? 152).map (λi=>(i.zero,i.size))=some (some (.agg ([.slice none 0 0,.int .i64 0]:List Value).toArray),2):=by kernel_rfl
theorem j5a:(Tryz.prog.info? 152).map (·.size)=some 2:=by kernel_rfl
theorem R5b{xs:List Int}(h:H0a xs (s7 xs)=0):(s3 xs).1<=2/\(s6 xs).1<=2:=by have h7:(s6 xs).2.e=0:=N2c (Y0c h);have h6:=i5b h7;have h5:(s4 xs).2.e=0:=Z1c (a2c h7);have h3:=i5b (Z1c h5);exact⟨by rw[show s3 xs=rdN xs 2 (s2 xs).2 from h3.2.2];exact h3.2.1,by rw[show s6 xs=rdN xs 2 (s5 xs).2 from h6.2.2];exact h6.2.1⟩
theorem V4a{w:World}{base:Nat}{v:Value}{xs:List Int}(h:X0a .u8 5 w base v xs):v.oneCell'=true:=by rcases h with⟨rfl,_⟩ | ⟨g,m,rfl,_⟩<;>rfl
theorem S5b{w:World}{base:Nat}{v:Value}{xs:List g2a}(h:r5a E0a 4 114 w base v xs):v.oneCell'=true:=by obtain⟨_,_,_,rfl,_⟩:=r5a.holds (by decide) Y2a h;rfl
theorem P8a{xs:List Int}(hx:Bytes xs)(r:Rd):Bytes (X3a xs r).1/\(X3a xs r).1.length<=32768:=by
 obtain⟨m0,m1⟩:=d3a hx 4 32768 3 r (by decide) (by decide);refine⟨u2a hx _ _,?_⟩;have h:=Q5a (xs:=xs) (m:=(b1a xs 4 32768 3 r).1.toNat) (r:=(b1a xs 4 32768 3 r).2);show(v0a xs (b1a xs 4 32768 3 r).1.toNat (b1a xs 4 32768 3 r).2).1.length<=_
 omega
theorem k4b(w:World)(c:Int)(A:Option Addr)(n k:Nat)(xs:List Int)(hc:0<=c/\c<=65535)(hx:Holds w w.heap.size A n k xs) :
  Calls Tryz.prog 85 #[.int .u16 c,.slice A n k] w (h2a w c xs):=by
 have hby:=hx.byte;have HX:=hI hx;have hmf:∀(fn:Fn) (first cap:Array Value) (w:World),(Instr.makeFunc fn first cap).run Tryz.prog w=.ok (.func fn first cap) w:=λ_ _ _ _=>rfl
 have ZH:=hI H7a;have BZ:=B8a;have ZR:=hI h8b;have HZ:Hid ((j0a (.slice none 0 0) (.slice none 0 0) (.slice none 0 0) i0a).length=69):=I1a h0a;have HZ1:Hid (∀v∈j0a (.slice none 0 0) (.slice none 0 0) (.slice none 0 0) i0a,v.oneCell'=true):=(w2a w 0).one;have HZI:Hid (∀w':World,f1a w' w'.heap.size (j0a (.slice none 0 0) (.slice none 0 0) (.slice none 0 0) i0a) i0a):=λw'=>w2a w' _
 have HZD:Hid ((j0a (.slice none 0 0) (.slice none 0 0) (.slice none 0 0) i0a)[61]? = some (.slice none 0 0)):=rfl;have BR:Tryz.prog.built 152 [(0,.slice A n k)]=some ([.slice A n k,.int .i64 0]:List Value).toArray:=by kernel_rfl
 have HR0:Hid (([.slice none 0 0,.int .i64 0]:List Value).length=2):=rfl;have HR1:Hid (([.slice A n k,.int .i64 0]:List Value).length=2):=rfl;have HR2:Hid (∀v∈([.slice A n k,.int .i64 0]:List Value),v.oneCell'=true):=by
  intro v hv;rcases List.mem_cons.1 hv with rfl | hv
  ·rfl
  ·rw[List.mem_singleton.1 hv];rfl
 have HE:Hid (∀er,h5a c xs=er->er≠0->∀e w',e=.returned (.tuple #[.agg (j0a (.slice none 0 0) (.slice none 0 0) (.slice none 0 0) i0a).toArray,.int .i64 er])->Below w.heap.size w w'->h2a w c xs e w'):=by intro er h1 h2 e w' he hb;unfold h2a n0b;rw[h1,if_neg h2];exact⟨_,_,he,HZI.out w',HZD.out,X0a.nil _ _ _ _,hb,λb off s n c h=>by have h2:some (Value.slice none 0 0)=some (Value.slice (some ⟨b,off,s⟩) n c):=h;cases h2⟩
 obtain⟨zs,hzs⟩:∃zs,zs=j0a (.slice none 0 0) (.slice none 0 0) (.slice none 0 0) i0a:=⟨_,rfl⟩;have HZS:=hI hzs;rw[<-hzs] at ZH BZ HZ HZ1 HE;clear hzs HZI HZD;by_cases hk:R2a c=true;rotate_left
 ·have HQ:=hI (HE.out 2 (by unfold h5a;rw[if_neg hk]) (by decide));have hk':c≠5/\c≠6/\c≠7/\c≠8/\c≠9/\c≠10:=by refine⟨?_,?_,?_,?_,?_,?_⟩<;>(rintro rfl;exact hk (by decide))
  obtain⟨h5,h6,h7,h8,h9,h10⟩:=hk';have b5:(c==5)=false:=by simpa using h5
  have b6:(c==6)=false:=by simpa using h6
  have b7:(c==7)=false:=by simpa using h7
  have b8:(c==8)=false:=by simpa using h8
  have b9:(c==9)=false:=by simpa using h9
  have b10:(c==10)=false:=by simpa using h10
  clear hk HE hx h5 h6 h7 h8 h9 h10;go_enter Tryz.func85,Tryz.ntmps85;go_wp2_with(first
   | ((with_reducible refine sN 4 ?_);refine a0a rfl _ rfl zs _ ZH ?_;intro h w1 hg1 hg2 Z1 L1)
   | ((with_reducible refine sN 6 ?_);refine a0a rfl _ rfl zs _ ZH ?_;intro a w2 hg3 hg4 K2 L02;have Z2:=hI (Z1.out.over L02.out);have L2:=hI (step L1.out L02.out);have hha:h≠a:=(by omega);have hwa:w.heap.size<=a:=(by have:=L1.out.size;omega);have hsz2:=L2.out.size)
   | ((with_reducible refine sN 13 ?_);refine k0a rfl _ _ rfl ([.slice A n k,.int .i64 0]:List Value) (by refine Eq.trans ?_ BR;kernel_rfl) ?_)
   | ((with_reducible refine sN 7 ?_);refine a0a rfl _ rfl ([.slice none 0 0,.int .i64 0]:List Value) _ ZR ?_;intro g w3 hg5 hg6 R3 L03;have K3:=hI (K2.out.over L03.out);have Z3:=hI (Z2.out.over L03.out);have L3:=hI (step L2.out L03.out);have hag:a≠g:=(by omega);have hhg:h≠g:=(by have:=Z2.out.lt;omega);have hwg:w.heap.size<=g:=(by omega))
   | ((with_reducible refine sT 7 ?_);refine b0a rfl _ (.tmp 7) (.tmp 13) rfl g rfl _ ([.slice none 0 0,.int .i64 0]:List Value) ([.slice A n k,.int .i64 0]:List Value) rfl R3 2 j5a HR0 HR1 HR2 ?_;intro w4 R4 O4 hg7;have K4:=hI (K3.out.only O4.out hag);have Z4:=hI (Z3.out.only O4.out hhg);have L4:=hI (c0a L3.out O4.out hwg))
   | ((with_reducible refine sN 18 ?_);refine x0a rfl _ rfl zs BZ ?_)
   | ((with_reducible refine sT 4 ?_);refine b0a rfl _ (.tmp 4) (.tmp 18) rfl h rfl _ zs zs rfl Z4 69 n0a HZ HZ HZ1 ?_;intro w10 K10 O10 hg10)
   | fail)
  refine bodyPost_ret (v:=.tuple #[.agg zs.toArray,.int .i64 2]) ?_ rfl (HQ.out _ _ rfl (c0a L4.out O10.out (by omega)));exact m0a rfl _ _ h _ _ (0,0) _ rfl K10.out Tryz.underlying34 rfl (by rw[n0a];have:=HZ.out;simp[this]) rfl
 have hcs:c=5∨(c=6∨c=7)∨c=8∨c=9∨c=10:=by unfold R2a at hk;simp at hk;omega
 rcases hcs with h5 | hgr | h8 | h9 | h10
 ·subst h5;have D1:Hid (∀(w':World) (g:Nat),PF w' g w.heap.size xs rd0->Calls Tryz.prog 124 #[.pointer (some ⟨g,0,none⟩)] w' λe w2=>e=.returned (.int .u32 (c1 xs).1)/\PF w2 g w.heap.size xs (c1 xs).2/\T1a g w' w2):=λw' g h=>S5a w' g w.heap.size xs _ hby h
  have D2:Hid (∀(w':World) (g:Nat),PF w' g w.heap.size xs (c1 xs).2->Calls Tryz.prog 124 #[.pointer (some ⟨g,0,none⟩)] w' λe w2=>e=.returned (.int .u32 (c2 xs).1)/\PF w2 g w.heap.size xs (c2 xs).2/\T1a g w' w2):=λw' g h=>S5a w' g w.heap.size xs _ hby h
  have D3:Hid (∀(w':World) (g:Nat),PF w' g w.heap.size xs (c2 xs).2->Calls Tryz.prog 124 #[.pointer (some ⟨g,0,none⟩)] w' λe w2=>e=.returned (.int .u32 (c3 xs).1)/\PF w2 g w.heap.size xs (c3 xs).2/\T1a g w' w2):=λw' g h=>S5a w' g w.heap.size xs _ hby h
  have D4:Hid (∀(w':World) (g:Nat),PF w' g w.heap.size xs (c3 xs).2->Calls Tryz.prog 124 #[.pointer (some ⟨g,0,none⟩)] w' λe w2=>e=.returned (.int .u32 (c4 xs).1)/\PF w2 g w.heap.size xs (c4 xs).2/\T1a g w' w2):=λw' g h=>S5a w' g w.heap.size xs _ hby h
  have D5:Hid (∀(w':World) (g:Nat),PF w' g w.heap.size xs (c4 xs).2->Calls Tryz.prog 123 #[.pointer (some ⟨g,0,none⟩)] w' λe w2=>e=.returned (.int .u8 (c5 xs).1)/\PF w2 g w.heap.size xs (c5 xs).2/\T1a g w' w2):=λw' g h=>x0b w' g w.heap.size xs _ hby h
  have D6:Hid (∀(w':World) (g:Nat),PF w' g w.heap.size xs (c5 xs).2->Calls Tryz.prog 123 #[.pointer (some ⟨g,0,none⟩)] w' λe w2=>e=.returned (.int .u8 (c6 xs).1)/\PF w2 g w.heap.size xs (c6 xs).2/\T1a g w' w2):=λw' g h=>x0b w' g w.heap.size xs _ hby h
  have D7:Hid (∀(w':World) (g:Nat),PF w' g w.heap.size xs (c6 xs).2->Calls Tryz.prog 126 #[.pointer (some ⟨g,0,none⟩),.int .i64 2] w' λe w2=>e=.returned (.tuple #[])/\PF w2 g w.heap.size xs (c7 xs)/\T1a g w' w2):=λw' g h=>r6a w' g w.heap.size xs _ 2 hby h (by decide)
  have D8:Hid (∀(w':World) (g:Nat),PF w' g w.heap.size xs (c7 xs)->Calls Tryz.prog 125 #[.pointer (some ⟨g,0,none⟩)] w' λe w2=>e=.returned (.int .u64 (c8 xs).1)/\PF w2 g w.heap.size xs (c8 xs).2/\T1a g w' w2):=λw' g h=>i3a w' g w.heap.size xs _ hby h
  have D9:Hid (∀(w':World) (g:Nat),PF w' g w.heap.size xs (c8 xs).2->Calls Tryz.prog 127 #[.pointer (some ⟨g,0,none⟩)] w' λe w2=>e=.returned (.string ⟨(c9 xs).1.toArray⟩)/\PF w2 g w.heap.size xs (c9 xs).2/\Q0a g w' w2):=λw' g h=>f8b w' g w.heap.size xs _ hby h
  have DE:Hid (∀(w':World) (g:Nat),PF w' g w.heap.size xs (c9 xs).2->Calls Tryz.prog 130 #[.pointer (some ⟨g,0,none⟩)] w' λe w2=>e=.returned (.int .i64 (H0a xs (c9 xs).2))/\w'=w2):=λw' g h=>U4a w' g w.heap.size xs _ h
  have hge:h5a 5 xs=H0a xs (c9 xs).2:=by unfold h5a;rw[if_pos hk];rfl
  have HQ:Hid (∀(cs:List Value) (vx:Value) (e:Ending) (w':World),H0a xs (c9 xs).2=0->e=.returned (.tuple #[.agg cs.toArray,.int .i64 0])->f1a w' w'.heap.size cs { i0a with acc:=(c1 xs).1,shr:=(c2 xs).1,way:=(c3 xs).1,opt:=(c4 xs).1,lev:=(c5 xs).1,dur:=(c6 xs).1,file:=(c8 xs).1,name:=⟨(c9 xs).1.toArray⟩ }->cs[61]? = some vx->X0a .u8 5 w' w.heap.size vx ({ i0a with acc:=(c1 xs).1,shr:=(c2 xs).1,way:=(c3 xs).1,opt:=(c4 xs).1,lev:=(c5 xs).1,dur:=(c6 xs).1,file:=(c8 xs).1,name:=⟨(c9 xs).1.toArray⟩ }).data->Below w.heap.size w w'->(∀b off s n c,cs[62]? = some (.slice (some ⟨b,off,s⟩) n c)->w.heap.size<=b)->h2a w 5 xs e w'):=by
   intro cs vx e w' h0 h1 h2 h3 h4 h5 h9;have ho:n0b 5 xs={ i0a with acc:=(c1 xs).1,shr:=(c2 xs).1,way:=(c3 xs).1,opt:=(c4 xs).1,lev:=(c5 xs).1,dur:=(c6 xs).1,file:=(c8 xs).1,name:=⟨(c9 xs).1.toArray⟩ }:=by unfold n0b;rw[hge,h0,if_pos rfl];rfl
   unfold h2a;rw[hge,h0,ho];exact⟨cs,vx,h1,h2,h3,h4,h5,h9⟩
  have HE':=hI (HE.out _ hge);obtain⟨er,her⟩:∃x,x=H0a xs (c9 xs).2:=⟨_,rfl⟩;rw[<-her] at DE HQ HE';obtain⟨q1,hq1⟩:∃x,x=(c1 xs):=⟨_,rfl⟩;rw[<-hq1] at D1 D2 HQ;obtain⟨q2,hq2⟩:∃x,x=(c2 xs):=⟨_,rfl⟩;rw[<-hq2] at D2 D3 HQ;obtain⟨q3,hq3⟩:∃x,x=(c3 xs):=⟨_,rfl⟩;rw[<-hq3] at D3 D4 HQ;obtain⟨q4,hq4⟩:∃x,x=(c4 xs):=⟨_,rfl⟩;rw[<-hq4] at D4 D5 HQ;obtain⟨q5,hq5⟩:∃x,x=(c5 xs):=⟨_,rfl⟩;rw[<-hq5] at D5 D6 HQ;obtain⟨q6,hq6⟩:∃x,x=(c6 xs):=⟨_,rfl⟩;rw[<-hq6] at D6 D7 HQ;obtain⟨q7,hq7⟩:∃x,x=(c7 xs):=⟨_,rfl⟩;rw[<-hq7] at D7 D8;obtain⟨q8,hq8⟩:∃x,x=(c8 xs):=⟨_,rfl⟩;rw[<-hq8] at D8 D9 HQ;obtain⟨q9,hq9⟩:∃x,x=(c9 xs):=⟨_,rfl⟩;rw[<-hq9] at D9 DE HQ;clear her hge HE hk hx hq1 hq2 hq3 hq4 hq5 hq6 hq7 hq8 hq9;go_enter Tryz.func85,Tryz.ntmps85;go_wp2_with(first
   | ((with_reducible refine sN 4 ?_);refine a0a rfl _ rfl zs _ ZH ?_;intro h w1 hg1 hg2 Z1 L1)
   | ((with_reducible refine sN 6 ?_);refine a0a rfl _ rfl zs _ ZH ?_;intro a w2 hg3 hg4 K2 L02;have Z2:=hI (Z1.out.over L02.out);have L2:=hI (step L1.out L02.out);have hha:h≠a:=(by omega);have hwa:w.heap.size<=a:=(by have:=L1.out.size;omega);have hsz2:=L2.out.size)
   | ((with_reducible refine sN 13 ?_);refine k0a rfl _ _ rfl ([.slice A n k,.int .i64 0]:List Value) (by refine Eq.trans ?_ BR;kernel_rfl) ?_)
   | ((with_reducible refine sN 7 ?_);refine a0a rfl _ rfl ([.slice none 0 0,.int .i64 0]:List Value) _ ZR ?_;intro g w3 hg5 hg6 R3 L03;have K3:=hI (K2.out.over L03.out);have Z3:=hI (Z2.out.over L03.out);have L3:=hI (step L2.out L03.out);have hag:a≠g:=(by omega);have hhg:h≠g:=(by have:=Z2.out.lt;omega);have hwg:w.heap.size<=g:=(by omega))
   | ((with_reducible refine sT 7 ?_);refine b0a rfl _ (.tmp 7) (.tmp 13) rfl g rfl _ ([.slice none 0 0,.int .i64 0]:List Value) ([.slice A n k,.int .i64 0]:List Value) rfl R3 2 j5a HR0 HR1 HR2 ?_;intro w4 R4 O4 hg7;have K4:=hI (K3.out.only O4.out hag);have Z4:=hI (Z3.out.only O4.out hhg);have L4:=hI (c0a L3.out O4.out hwg))
   | fail)
  have P4:Hid (PF w4 g w.heap.size xs rd0):=⟨Nat.zero_le _,hwg,A,n,k,R4.out,HX.out.below L4.out⟩;clear R3 L03 K2 K3 Z1 Z2 Z3 L02 L1 L2 L3 R4 O4 HX;refine(D1.out w4 g P4.out).mono ?_;rintro e v1 ⟨rfl,hP,hO⟩;have hS:=Q0a.of_only hO;have Pc1:=hI hP;have Zc1:=hI (Z4.out.save hS hhg);have Kc1:=hI (K4.out.save hS hag);have Lc1:=hI (L4.out.trans (hS.below hwg L4.out.size));clear hP hS P4 Z4 K4 L4 hO;go_wp2_with fail;refine(D2.out v1 g Pc1.out).mono ?_;rintro e v2 ⟨rfl,hP,hO⟩;have hS:=Q0a.of_only hO;have Pc2:=hI hP;have Zc2:=hI (Zc1.out.save hS hhg);have Kc2:=hI (Kc1.out.save hS hag);have Lc2:=hI (Lc1.out.trans (hS.below hwg Lc1.out.size));clear hP hS Pc1 Zc1 Kc1 Lc1 hO;go_wp2_with fail;refine(D3.out v2 g Pc2.out).mono ?_;rintro e v3 ⟨rfl,hP,hO⟩;have hS:=Q0a.of_only hO;have Pc3:=hI hP;have Zc3:=hI (Zc2.out.save hS hhg);have Kc3:=hI (Kc2.out.save hS hag);have Lc3:=hI (Lc2.out.trans (hS.below hwg Lc2.out.size));clear hP hS Pc2 Zc2 Kc2 Lc2 hO;go_wp2_with fail;refine(D4.out v3 g Pc3.out).mono ?_;rintro e v4 ⟨rfl,hP,hO⟩;have hS:=Q0a.of_only hO;have Pc4:=hI hP;have Zc4:=hI (Zc3.out.save hS hhg);have Kc4:=hI (Kc3.out.save hS hag);have Lc4:=hI (Lc3.out.trans (hS.below hwg Lc3.out.size));clear hP hS Pc3 Zc3 Kc3 Lc3 hO;go_wp2_with(first
   | ((with_reducible refine sT 29 ?_);refine d0a rfl _ (.tmp 29) (.tmp 22) rfl a 51 rfl _ zs (.int .u32 q1.1) rfl Kc4 (hI (by have:=HZ.out;omega)) (by kernel_rfl) rfl ?_;intro x1 Ks1 Os1 hqs1;obtain⟨C1,hC1⟩:∃x,x=zs.set 51 (.int .u32 q1.1):=⟨_,rfl⟩;have HC1:=hI hC1;have HL1:Hid (C1.length=69):=(by rw[hC1,List.length_set];exact HZ.out);rw[<-hC1] at Ks1;have Zs1:=hI (Zc4.out.only Os1.out hha);have Ps1:=hI (Pc4.out.only Os1.out (Ne.symm hag) hwa);have Ls1:=hI (c0a Lc4.out Os1.out hwa);clear hC1)
   | ((with_reducible refine sT 30 ?_);refine d0a rfl _ (.tmp 30) (.tmp 24) rfl a 52 rfl _ C1 (.int .u32 q2.1) rfl Ks1 (hI (by have:=HL1.out;omega)) (by kernel_rfl) rfl ?_;intro x2 Ks2 Os2 hqs2;obtain⟨C2,hC2⟩:∃x,x=C1.set 52 (.int .u32 q2.1):=⟨_,rfl⟩;have HC2:=hI hC2;have HL2:Hid (C2.length=69):=(by rw[hC2,List.length_set];exact HL1.out);rw[<-hC2] at Ks2;have Zs2:=hI (Zs1.out.only Os2.out hha);have Ps2:=hI (Ps1.out.only Os2.out (Ne.symm hag) hwa);have Ls2:=hI (c0a Ls1.out Os2.out hwa);clear hC2)
   | ((with_reducible refine sT 31 ?_);refine d0a rfl _ (.tmp 31) (.tmp 26) rfl a 53 rfl _ C2 (.int .u32 q3.1) rfl Ks2 (hI (by have:=HL2.out;omega)) (by kernel_rfl) rfl ?_;intro x3 Ks3 Os3 hqs3;obtain⟨C3,hC3⟩:∃x,x=C2.set 53 (.int .u32 q3.1):=⟨_,rfl⟩;have HC3:=hI hC3;have HL3:Hid (C3.length=69):=(by rw[hC3,List.length_set];exact HL2.out);rw[<-hC3] at Ks3;have Zs3:=hI (Zs2.out.only Os3.out hha);have Ps3:=hI (Ps2.out.only Os3.out (Ne.symm hag) hwa);have Ls3:=hI (c0a Ls2.out Os3.out hwa);clear hC3)
   | ((with_reducible refine sT 32 ?_);refine d0a rfl _ (.tmp 32) (.tmp 28) rfl a 54 rfl _ C3 (.int .u32 q4.1) rfl Ks3 (hI (by have:=HL3.out;omega)) (by kernel_rfl) rfl ?_;intro x4 Ks4 Os4 hqs4;obtain⟨C4,hC4⟩:∃x,x=C3.set 54 (.int .u32 q4.1):=⟨_,rfl⟩;have HC4:=hI hC4;have HL4:Hid (C4.length=69):=(by rw[hC4,List.length_set];exact HL3.out);rw[<-hC4] at Ks4;have Zs4:=hI (Zs3.out.only Os4.out hha);have Ps4:=hI (Ps3.out.only Os4.out (Ne.symm hag) hwa);have Ls4:=hI (c0a Ls3.out Os4.out hwa);clear hC4)
   | fail)
  refine(D5.out x4 g Ps4.out).mono ?_;rintro e v5 ⟨rfl,hP,hO⟩;have hS:=Q0a.of_only hO;have Pc5:=hI hP;have Zc5:=hI (Zs4.out.save hS hhg);have Kc5:=hI (Ks4.out.save hS hag);have Lc5:=hI (Ls4.out.trans (hS.below hwg Ls4.out.size));clear hP hS Ps4 Zs4 Ks4 Ls4 hO;go_wp2_with fail;refine(D6.out v5 g Pc5.out).mono ?_;rintro e v6 ⟨rfl,hP,hO⟩;have hS:=Q0a.of_only hO;have Pc6:=hI hP;have Zc6:=hI (Zc5.out.save hS hhg);have Kc6:=hI (Kc5.out.save hS hag);have Lc6:=hI (Lc5.out.trans (hS.below hwg Lc5.out.size));clear hP hS Pc5 Zc5 Kc5 Lc5 hO;go_wp2_with(first
   | ((with_reducible refine sT 37 ?_);refine d0a rfl _ (.tmp 37) (.tmp 34) rfl a 55 rfl _ C4 (.int .u8 q5.1) rfl Kc6 (hI (by have:=HL4.out;omega)) (by kernel_rfl) rfl ?_;intro x5 Ks5 Os5 hqs5;obtain⟨C5,hC5⟩:∃x,x=C4.set 55 (.int .u8 q5.1):=⟨_,rfl⟩;have HC5:=hI hC5;have HL5:Hid (C5.length=69):=(by rw[hC5,List.length_set];exact HL4.out);rw[<-hC5] at Ks5;have Zs5:=hI (Zc6.out.only Os5.out hha);have Ps5:=hI (Pc6.out.only Os5.out (Ne.symm hag) hwa);have Ls5:=hI (c0a Lc6.out Os5.out hwa);clear hC5)
   | ((with_reducible refine sT 38 ?_);refine d0a rfl _ (.tmp 38) (.tmp 36) rfl a 56 rfl _ C5 (.int .u8 q6.1) rfl Ks5 (hI (by have:=HL5.out;omega)) (by kernel_rfl) rfl ?_;intro x6 Ks6 Os6 hqs6;obtain⟨C6,hC6⟩:∃x,x=C5.set 56 (.int .u8 q6.1):=⟨_,rfl⟩;have HC6:=hI hC6;have HL6:Hid (C6.length=69):=(by rw[hC6,List.length_set];exact HL5.out);rw[<-hC6] at Ks6;have Zs6:=hI (Zs5.out.only Os6.out hha);have Ps6:=hI (Ps5.out.only Os6.out (Ne.symm hag) hwa);have Ls6:=hI (c0a Ls5.out Os6.out hwa);clear hC6)
   | fail)
  refine(D7.out x6 g Ps6.out).mono ?_;rintro e v7 ⟨rfl,hP,hO⟩;have hS:=Q0a.of_only hO;have Pc7:=hI hP;have Zc7:=hI (Zs6.out.save hS hhg);have Kc7:=hI (Ks6.out.save hS hag);have Lc7:=hI (Ls6.out.trans (hS.below hwg Ls6.out.size));clear hP hS Ps6 Zs6 Ks6 Ls6 hO;go_wp2_with fail;refine(D8.out v7 g Pc7.out).mono ?_;rintro e v8 ⟨rfl,hP,hO⟩;have hS:=Q0a.of_only hO;have Pc8:=hI hP;have Zc8:=hI (Zc7.out.save hS hhg);have Kc8:=hI (Kc7.out.save hS hag);have Lc8:=hI (Lc7.out.trans (hS.below hwg Lc7.out.size));clear hP hS Pc7 Zc7 Kc7 Lc7 hO;go_wp2_with(first
   | ((with_reducible refine sT 42 ?_);refine d0a rfl _ (.tmp 42) (.tmp 41) rfl a 57 rfl _ C6 (.int .u64 q8.1) rfl Kc8 (hI (by have:=HL6.out;omega)) (by kernel_rfl) rfl ?_;intro x7 Ks7 Os7 hqs7;obtain⟨C7,hC7⟩:∃x,x=C6.set 57 (.int .u64 q8.1):=⟨_,rfl⟩;have HC7:=hI hC7;have HL7:Hid (C7.length=69):=(by rw[hC7,List.length_set];exact HL6.out);rw[<-hC7] at Ks7;have Zs7:=hI (Zc8.out.only Os7.out hha);have Ps7:=hI (Pc8.out.only Os7.out (Ne.symm hag) hwa);have Ls7:=hI (c0a Lc8.out Os7.out hwa);clear hC7)
   | fail)
  refine(D9.out x7 g Ps7.out).mono ?_;rintro e v9 ⟨rfl,hP,hS⟩;have Pc9:=hI hP;have Zc9:=hI (Zs7.out.save hS hhg);have Kc9:=hI (Ks7.out.save hS hag);have Lc9:=hI (Ls7.out.trans (hS.below hwg Ls7.out.size));clear hP hS Ps7 Zs7 Ks7 Ls7;go_wp2_with(first
   | ((with_reducible refine sT 44 ?_);refine d0a rfl _ (.tmp 44) (.tmp 43) rfl a 58 rfl _ C7 (.string ⟨q9.1.toArray⟩) rfl Kc9 (hI (by have:=HL7.out;omega)) (by kernel_rfl) rfl ?_;intro x8 Ks8 Os8 hqs8;obtain⟨C8,hC8⟩:∃x,x=C7.set 58 (.string ⟨q9.1.toArray⟩):=⟨_,rfl⟩;have HC8:=hI hC8;have HL8:Hid (C8.length=69):=(by rw[hC8,List.length_set];exact HL7.out);rw[<-hC8] at Ks8;have Zs8:=hI (Zc9.out.only Os8.out hha);have Ps8:=hI (Pc9.out.only Os8.out (Ne.symm hag) hwa);have Ls8:=hI (c0a Lc9.out Os8.out hwa);clear hC8)
   | fail)
  refine(DE.out x8 g Ps8.out).mono ?_;rintro e x8' ⟨rfl,rfl⟩;by_cases he:er=0;rotate_left
  ·have hne:(er != 0)=true:=by simpa using he
   have HN:=hI (HE'.out he);clear he HE' HQ;go_wp2_with(first
    | ((with_reducible refine sN 82 ?_);refine x0a rfl _ rfl zs BZ ?_)
    | ((with_reducible refine sT 4 ?_);refine b0a rfl _ (.tmp 4) (.tmp 82) rfl h rfl _ zs zs rfl Zs8 69 n0a HZ HZ HZ1 ?_;intro w10 K10 O10 hg10)
    | fail)
   refine bodyPost_ret (v:=.tuple #[.agg zs.toArray,.int .i64 er]) ?_ rfl (HN.out _ _ rfl (c0a Ls8.out O10.out (by omega)));exact m0a rfl _ _ h _ _ (0,0) _ rfl K10.out Tryz.underlying34 rfl (by rw[n0a];have:=HZ.out;simp[this]) rfl
  ·subst he;have HEQ:Hid (C8=j0a (.slice none 0 0) (.slice none 0 0) (.slice none 0 0) { i0a with acc:=q1.1,shr:=q2.1,way:=q3.1,opt:=q4.1,lev:=q5.1,dur:=q6.1,file:=q8.1,name:=⟨q9.1.toArray⟩ }):=by
    show _=_
    rw[HC8.out,HC7.out,HC6.out,HC5.out,HC4.out,HC3.out,HC2.out,HC1.out,HZS.out];rfl
   have H1C:Hid (∀v∈C8,v.oneCell'=true):=by
    show _
    rw[HEQ.out];exact x1a rfl rfl rfl
   go_wp2_with(first
    | ((with_reducible refine sN 84 ?_);refine e0a rfl _ (.tmp 6) rfl a rfl _ C8 Ks8 69 _ Tryz.underlying34 rfl n0a HL8 ?_)
    | ((with_reducible refine sT 4 ?_);refine b0a rfl _ (.tmp 4) (.tmp 84) rfl h rfl _ zs C8 rfl Zs8 69 n0a HZ HL8 H1C ?_;intro w10 K10 O10 hg10)
    | fail)
   refine bodyPost_ret (v:=.tuple #[.agg C8.toArray,.int .i64 0]) ?_ rfl ?_
   ·exact m0a rfl _ _ h _ _ (0,0) _ rfl K10.out Tryz.underlying34 rfl (by rw[n0a];have:=HL8.out;simp[this]) rfl
   ·have LF:Below w.heap.size w w10:=c0a Ls8.out O10.out (by omega);exact HQ.out C8 (.slice none 0 0) _ _ (by trivial) rfl ⟨none,0,0,none,0,0,none,0,0,by rw[HEQ.out],G1a.nil _ _ _,Holds.nil _ _,d1a.nil _ _ _ _⟩ (by rw[HEQ.out];rfl) (X0a.nil _ _ _ _) LF (λb off s n c h=>by rw[HEQ.out] at h;have h2:some (Value.slice none 0 0)=some (Value.slice (some ⟨b,off,s⟩) n c):=h;cases h2)
 ·have hge:h5a c xs=H0a xs (o1 xs).2:=by unfold h5a;rw[if_pos hk];rcases hgr with rfl | rfl<;>rfl
  have hgo:H0a xs (o1 xs).2=0->n0b c xs={ i0a with file:=(o1 xs).1 }:=λh0=>by unfold n0b;rw[hge,h0,if_pos rfl];rcases hgr with rfl | rfl<;>rfl
  obtain⟨cq,hcq⟩:∃x,x=c:=⟨_,rfl⟩;rw[show h2a w c xs=h2a w cq xs by rw[hcq]];rw[<-hcq] at HE hk hge hgo;clear hcq hc;rcases hgr with rfl | rfl
  all_goals
   have D1:Hid (∀(w':World) (g:Nat),PF w' g w.heap.size xs rd0->Calls Tryz.prog 125 #[.pointer (some ⟨g,0,none⟩)] w' λe w2=>e=.returned (.int .u64 (o1 xs).1)/\PF w2 g w.heap.size xs (o1 xs).2/\T1a g w' w2):=λw' g h=>i3a w' g w.heap.size xs _ hby h
   have DE:Hid (∀(w':World) (g:Nat),PF w' g w.heap.size xs (o1 xs).2->Calls Tryz.prog 130 #[.pointer (some ⟨g,0,none⟩)] w' λe w2=>e=.returned (.int .i64 (H0a xs (o1 xs).2))/\w'=w2):=λw' g h=>U4a w' g w.heap.size xs _ h
   have HQ:Hid (∀(cs:List Value) (vx:Value) (e:Ending) (w':World),H0a xs (o1 xs).2=0->e=.returned (.tuple #[.agg cs.toArray,.int .i64 0])->f1a w' w'.heap.size cs { i0a with file:=(o1 xs).1 }->cs[61]? = some vx->X0a .u8 5 w' w.heap.size vx ({ i0a with file:=(o1 xs).1 }).data->Below w.heap.size w w'->(∀b off s n c,cs[62]? = some (.slice (some ⟨b,off,s⟩) n c)->w.heap.size<=b)->h2a w cq xs e w'):=by intro cs vx e w' h0 h1 h2 h3 h4 h5 h9;have ho:=hgo h0;unfold h2a;rw[hge,h0,ho];exact⟨cs,vx,h1,h2,h3,h4,h5,h9⟩
   have HE':=hI (HE.out _ hge);obtain⟨er,her⟩:∃x,x=H0a xs (o1 xs).2:=⟨_,rfl⟩;rw[<-her] at DE HQ HE';obtain⟨q1,hq1⟩:∃x,x=(o1 xs):=⟨_,rfl⟩;rw[<-hq1] at D1 DE HQ;clear her hge HE hk hx hq1;go_enter Tryz.func85,Tryz.ntmps85;go_wp2_with(first
    | ((with_reducible refine sN 4 ?_);refine a0a rfl _ rfl zs _ ZH ?_;intro h w1 hg1 hg2 Z1 L1)
    | ((with_reducible refine sN 6 ?_);refine a0a rfl _ rfl zs _ ZH ?_;intro a w2 hg3 hg4 K2 L02;have Z2:=hI (Z1.out.over L02.out);have L2:=hI (step L1.out L02.out);have hha:h≠a:=(by omega);have hwa:w.heap.size<=a:=(by have:=L1.out.size;omega);have hsz2:=L2.out.size)
    | ((with_reducible refine sN 13 ?_);refine k0a rfl _ _ rfl ([.slice A n k,.int .i64 0]:List Value) (by refine Eq.trans ?_ BR;kernel_rfl) ?_)
    | ((with_reducible refine sN 7 ?_);refine a0a rfl _ rfl ([.slice none 0 0,.int .i64 0]:List Value) _ ZR ?_;intro g w3 hg5 hg6 R3 L03;have K3:=hI (K2.out.over L03.out);have Z3:=hI (Z2.out.over L03.out);have L3:=hI (step L2.out L03.out);have hag:a≠g:=(by omega);have hhg:h≠g:=(by have:=Z2.out.lt;omega);have hwg:w.heap.size<=g:=(by omega))
    | ((with_reducible refine sT 7 ?_);refine b0a rfl _ (.tmp 7) (.tmp 13) rfl g rfl _ ([.slice none 0 0,.int .i64 0]:List Value) ([.slice A n k,.int .i64 0]:List Value) rfl R3 2 j5a HR0 HR1 HR2 ?_;intro w4 R4 O4 hg7;have K4:=hI (K3.out.only O4.out hag);have Z4:=hI (Z3.out.only O4.out hhg);have L4:=hI (c0a L3.out O4.out hwg))
    | fail)
   have P4:Hid (PF w4 g w.heap.size xs rd0):=⟨Nat.zero_le _,hwg,A,n,k,R4.out,HX.out.below L4.out⟩;clear R3 L03 K2 K3 Z1 Z2 Z3 L02 L1 L2 L3 R4 O4 HX;refine(D1.out w4 g P4.out).mono ?_;rintro e v1 ⟨rfl,hP,hO⟩;have hS:=Q0a.of_only hO;have Pc1:=hI hP;have Zc1:=hI (Z4.out.save hS hhg);have Kc1:=hI (K4.out.save hS hag);have Lc1:=hI (L4.out.trans (hS.below hwg L4.out.size));clear hP hS P4 Z4 K4 L4 hO;go_wp2_with(first
    | ((with_reducible refine sT 50 ?_);refine d0a rfl _ (.tmp 50) (.tmp 49) rfl a 57 rfl _ zs (.int .u64 q1.1) rfl Kc1 (hI (by have:=HZ.out;omega)) (by kernel_rfl) rfl ?_;intro x1 Ks1 Os1 hqs1;obtain⟨C1,hC1⟩:∃x,x=zs.set 57 (.int .u64 q1.1):=⟨_,rfl⟩;have HC1:=hI hC1;have HL1:Hid (C1.length=69):=(by rw[hC1,List.length_set];exact HZ.out);rw[<-hC1] at Ks1;have Zs1:=hI (Zc1.out.only Os1.out hha);have Ps1:=hI (Pc1.out.only Os1.out (Ne.symm hag) hwa);have Ls1:=hI (c0a Lc1.out Os1.out hwa);clear hC1)
    | fail)
   refine(DE.out x1 g Ps1.out).mono ?_;rintro e x1' ⟨rfl,rfl⟩;by_cases he:er=0;rotate_left
   ·have hne:(er != 0)=true:=by simpa using he
    have HN:=hI (HE'.out he);clear he HE' HQ;go_wp2_with(first
     | ((with_reducible refine sN 82 ?_);refine x0a rfl _ rfl zs BZ ?_)
     | ((with_reducible refine sT 4 ?_);refine b0a rfl _ (.tmp 4) (.tmp 82) rfl h rfl _ zs zs rfl Zs1 69 n0a HZ HZ HZ1 ?_;intro w10 K10 O10 hg10)
     | fail)
    refine bodyPost_ret (v:=.tuple #[.agg zs.toArray,.int .i64 er]) ?_ rfl (HN.out _ _ rfl (c0a Ls1.out O10.out (by omega)));exact m0a rfl _ _ h _ _ (0,0) _ rfl K10.out Tryz.underlying34 rfl (by rw[n0a];have:=HZ.out;simp[this]) rfl
   ·subst he;have HEQ:Hid (C1=j0a (.slice none 0 0) (.slice none 0 0) (.slice none 0 0) { i0a with file:=q1.1 }):=by
     show _=_
     rw[HC1.out,HZS.out];rfl
    have H1C:Hid (∀v∈C1,v.oneCell'=true):=by
     show _
     rw[HEQ.out];exact x1a rfl rfl rfl
    go_wp2_with(first
     | ((with_reducible refine sN 84 ?_);refine e0a rfl _ (.tmp 6) rfl a rfl _ C1 Ks1 69 _ Tryz.underlying34 rfl n0a HL1 ?_)
     | ((with_reducible refine sT 4 ?_);refine b0a rfl _ (.tmp 4) (.tmp 84) rfl h rfl _ zs C1 rfl Zs1 69 n0a HZ HL1 H1C ?_;intro w10 K10 O10 hg10)
     | fail)
    refine bodyPost_ret (v:=.tuple #[.agg C1.toArray,.int .i64 0]) ?_ rfl ?_
    ·exact m0a rfl _ _ h _ _ (0,0) _ rfl K10.out Tryz.underlying34 rfl (by rw[n0a];have:=HL1.out;simp[this]) rfl
    ·have LF:Below w.heap.size w w10:=c0a Ls1.out O10.out (by omega);exact HQ.out C1 (.slice none 0 0) _ _ (by trivial) rfl ⟨none,0,0,none,0,0,none,0,0,by rw[HEQ.out],G1a.nil _ _ _,Holds.nil _ _,d1a.nil _ _ _ _⟩ (by rw[HEQ.out];rfl) (X0a.nil _ _ _ _) LF (λb off s n c h=>by rw[HEQ.out] at h;have h2:some (Value.slice none 0 0)=some (Value.slice (some ⟨b,off,s⟩) n c):=h;cases h2)
 ·subst h8;have D1:Hid (∀(w':World) (g:Nat),PF w' g w.heap.size xs rd0->Calls Tryz.prog 125 #[.pointer (some ⟨g,0,none⟩)] w' λe w2=>e=.returned (.int .u64 (o1 xs).1)/\PF w2 g w.heap.size xs (o1 xs).2/\T1a g w' w2):=λw' g h=>i3a w' g w.heap.size xs _ hby h
  have D2:Hid (∀(w':World) (g:Nat),PF w' g w.heap.size xs (o1 xs).2->Calls Tryz.prog 125 #[.pointer (some ⟨g,0,none⟩)] w' λe w2=>e=.returned (.int .u64 (o2 xs).1)/\PF w2 g w.heap.size xs (o2 xs).2/\T1a g w' w2):=λw' g h=>i3a w' g w.heap.size xs _ hby h
  have D3:Hid (∀(w':World) (g:Nat),PF w' g w.heap.size xs (o2 xs).2->Calls Tryz.prog 124 #[.pointer (some ⟨g,0,none⟩)] w' λe w2=>e=.returned (.int .u32 (o3 xs).1)/\PF w2 g w.heap.size xs (o3 xs).2/\T1a g w' w2):=λw' g h=>S5a w' g w.heap.size xs _ hby h
  have DE:Hid (∀(w':World) (g:Nat),PF w' g w.heap.size xs (o3 xs).2->Calls Tryz.prog 130 #[.pointer (some ⟨g,0,none⟩)] w' λe w2=>e=.returned (.int .i64 (H0a xs (o3 xs).2))/\w'=w2):=λw' g h=>U4a w' g w.heap.size xs _ h
  have hge:h5a 8 xs=H0a xs (o3 xs).2:=by unfold h5a;rw[if_pos hk];rfl
  have HQ:Hid (∀(cs:List Value) (vx:Value) (e:Ending) (w':World),H0a xs (o3 xs).2=0->e=.returned (.tuple #[.agg cs.toArray,.int .i64 0])->f1a w' w'.heap.size cs { i0a with file:=(o1 xs).1,at_:=(o2 xs).1,n:=(o3 xs).1 }->cs[61]? = some vx->X0a .u8 5 w' w.heap.size vx ({ i0a with file:=(o1 xs).1,at_:=(o2 xs).1,n:=(o3 xs).1 }).data->Below w.heap.size w w'->(∀b off s n c,cs[62]? = some (.slice (some ⟨b,off,s⟩) n c)->w.heap.size<=b)->h2a w 8 xs e w'):=by
   intro cs vx e w' h0 h1 h2 h3 h4 h5 h9;have ho:n0b 8 xs={ i0a with file:=(o1 xs).1,at_:=(o2 xs).1,n:=(o3 xs).1 }:=by unfold n0b;rw[hge,h0,if_pos rfl];rfl
   unfold h2a;rw[hge,h0,ho];exact⟨cs,vx,h1,h2,h3,h4,h5,h9⟩
  have HE':=hI (HE.out _ hge);obtain⟨er,her⟩:∃x,x=H0a xs (o3 xs).2:=⟨_,rfl⟩;rw[<-her] at DE HQ HE';obtain⟨q1,hq1⟩:∃x,x=(o1 xs):=⟨_,rfl⟩;rw[<-hq1] at D1 D2 HQ;obtain⟨q2,hq2⟩:∃x,x=(o2 xs):=⟨_,rfl⟩;rw[<-hq2] at D2 D3 HQ;obtain⟨q3,hq3⟩:∃x,x=(o3 xs):=⟨_,rfl⟩;rw[<-hq3] at D3 DE HQ;clear her hge HE hk hx hq1 hq2 hq3;go_enter Tryz.func85,Tryz.ntmps85;go_wp2_with(first
   | ((with_reducible refine sN 4 ?_);refine a0a rfl _ rfl zs _ ZH ?_;intro h w1 hg1 hg2 Z1 L1)
   | ((with_reducible refine sN 6 ?_);refine a0a rfl _ rfl zs _ ZH ?_;intro a w2 hg3 hg4 K2 L02;have Z2:=hI (Z1.out.over L02.out);have L2:=hI (step L1.out L02.out);have hha:h≠a:=(by omega);have hwa:w.heap.size<=a:=(by have:=L1.out.size;omega);have hsz2:=L2.out.size)
   | ((with_reducible refine sN 13 ?_);refine k0a rfl _ _ rfl ([.slice A n k,.int .i64 0]:List Value) (by refine Eq.trans ?_ BR;kernel_rfl) ?_)
   | ((with_reducible refine sN 7 ?_);refine a0a rfl _ rfl ([.slice none 0 0,.int .i64 0]:List Value) _ ZR ?_;intro g w3 hg5 hg6 R3 L03;have K3:=hI (K2.out.over L03.out);have Z3:=hI (Z2.out.over L03.out);have L3:=hI (step L2.out L03.out);have hag:a≠g:=(by omega);have hhg:h≠g:=(by have:=Z2.out.lt;omega);have hwg:w.heap.size<=g:=(by omega))
   | ((with_reducible refine sT 7 ?_);refine b0a rfl _ (.tmp 7) (.tmp 13) rfl g rfl _ ([.slice none 0 0,.int .i64 0]:List Value) ([.slice A n k,.int .i64 0]:List Value) rfl R3 2 j5a HR0 HR1 HR2 ?_;intro w4 R4 O4 hg7;have K4:=hI (K3.out.only O4.out hag);have Z4:=hI (Z3.out.only O4.out hhg);have L4:=hI (c0a L3.out O4.out hwg))
   | fail)
  have P4:Hid (PF w4 g w.heap.size xs rd0):=⟨Nat.zero_le _,hwg,A,n,k,R4.out,HX.out.below L4.out⟩;clear R3 L03 K2 K3 Z1 Z2 Z3 L02 L1 L2 L3 R4 O4 HX;refine(D1.out w4 g P4.out).mono ?_;rintro e v1 ⟨rfl,hP,hO⟩;have hS:=Q0a.of_only hO;have Pc1:=hI hP;have Zc1:=hI (Z4.out.save hS hhg);have Kc1:=hI (K4.out.save hS hag);have Lc1:=hI (L4.out.trans (hS.below hwg L4.out.size));clear hP hS P4 Z4 K4 L4 hO;go_wp2_with fail;refine(D2.out v1 g Pc1.out).mono ?_;rintro e v2 ⟨rfl,hP,hO⟩;have hS:=Q0a.of_only hO;have Pc2:=hI hP;have Zc2:=hI (Zc1.out.save hS hhg);have Kc2:=hI (Kc1.out.save hS hag);have Lc2:=hI (Lc1.out.trans (hS.below hwg Lc1.out.size));clear hP hS Pc1 Zc1 Kc1 Lc1 hO;go_wp2_with fail;refine(D3.out v2 g Pc2.out).mono ?_;rintro e v3 ⟨rfl,hP,hO⟩;have hS:=Q0a.of_only hO;have Pc3:=hI hP;have Zc3:=hI (Zc2.out.save hS hhg);have Kc3:=hI (Kc2.out.save hS hag);have Lc3:=hI (Lc2.out.trans (hS.below hwg Lc2.out.size));clear hP hS Pc2 Zc2 Kc2 Lc2 hO;go_wp2_with(first
   | ((with_reducible refine sT 59 ?_);refine d0a rfl _ (.tmp 59) (.tmp 54) rfl a 57 rfl _ zs (.int .u64 q1.1) rfl Kc3 (hI (by have:=HZ.out;omega)) (by kernel_rfl) rfl ?_;intro x1 Ks1 Os1 hqs1;obtain⟨C1,hC1⟩:∃x,x=zs.set 57 (.int .u64 q1.1):=⟨_,rfl⟩;have HC1:=hI hC1;have HL1:Hid (C1.length=69):=(by rw[hC1,List.length_set];exact HZ.out);rw[<-hC1] at Ks1;have Zs1:=hI (Zc3.out.only Os1.out hha);have Ps1:=hI (Pc3.out.only Os1.out (Ne.symm hag) hwa);have Ls1:=hI (c0a Lc3.out Os1.out hwa);clear hC1)
   | ((with_reducible refine sT 60 ?_);refine d0a rfl _ (.tmp 60) (.tmp 56) rfl a 59 rfl _ C1 (.int .u64 q2.1) rfl Ks1 (hI (by have:=HL1.out;omega)) (by kernel_rfl) rfl ?_;intro x2 Ks2 Os2 hqs2;obtain⟨C2,hC2⟩:∃x,x=C1.set 59 (.int .u64 q2.1):=⟨_,rfl⟩;have HC2:=hI hC2;have HL2:Hid (C2.length=69):=(by rw[hC2,List.length_set];exact HL1.out);rw[<-hC2] at Ks2;have Zs2:=hI (Zs1.out.only Os2.out hha);have Ps2:=hI (Ps1.out.only Os2.out (Ne.symm hag) hwa);have Ls2:=hI (c0a Ls1.out Os2.out hwa);clear hC2)
   | ((with_reducible refine sT 61 ?_);refine d0a rfl _ (.tmp 61) (.tmp 58) rfl a 60 rfl _ C2 (.int .u32 q3.1) rfl Ks2 (hI (by have:=HL2.out;omega)) (by kernel_rfl) rfl ?_;intro x3 Ks3 Os3 hqs3;obtain⟨C3,hC3⟩:∃x,x=C2.set 60 (.int .u32 q3.1):=⟨_,rfl⟩;have HC3:=hI hC3;have HL3:Hid (C3.length=69):=(by rw[hC3,List.length_set];exact HL2.out);rw[<-hC3] at Ks3;have Zs3:=hI (Zs2.out.only Os3.out hha);have Ps3:=hI (Ps2.out.only Os3.out (Ne.symm hag) hwa);have Ls3:=hI (c0a Ls2.out Os3.out hwa);clear hC3)
   | fail)
  refine(DE.out x3 g Ps3.out).mono ?_;rintro e x3' ⟨rfl,rfl⟩;by_cases he:er=0;rotate_left
  ·have hne:(er != 0)=true:=by simpa using he
   have HN:=hI (HE'.out he);clear he HE' HQ;go_wp2_with(first
    | ((with_reducible refine sN 82 ?_);refine x0a rfl _ rfl zs BZ ?_)
    | ((with_reducible refine sT 4 ?_);refine b0a rfl _ (.tmp 4) (.tmp 82) rfl h rfl _ zs zs rfl Zs3 69 n0a HZ HZ HZ1 ?_;intro w10 K10 O10 hg10)
    | fail)
   refine bodyPost_ret (v:=.tuple #[.agg zs.toArray,.int .i64 er]) ?_ rfl (HN.out _ _ rfl (c0a Ls3.out O10.out (by omega)));exact m0a rfl _ _ h _ _ (0,0) _ rfl K10.out Tryz.underlying34 rfl (by rw[n0a];have:=HZ.out;simp[this]) rfl
  ·subst he;have HEQ:Hid (C3=j0a (.slice none 0 0) (.slice none 0 0) (.slice none 0 0) { i0a with file:=q1.1,at_:=q2.1,n:=q3.1 }):=by
    show _=_
    rw[HC3.out,HC2.out,HC1.out,HZS.out];rfl
   have H1C:Hid (∀v∈C3,v.oneCell'=true):=by
    show _
    rw[HEQ.out];exact x1a rfl rfl rfl
   go_wp2_with(first
    | ((with_reducible refine sN 84 ?_);refine e0a rfl _ (.tmp 6) rfl a rfl _ C3 Ks3 69 _ Tryz.underlying34 rfl n0a HL3 ?_)
    | ((with_reducible refine sT 4 ?_);refine b0a rfl _ (.tmp 4) (.tmp 84) rfl h rfl _ zs C3 rfl Zs3 69 n0a HZ HL3 H1C ?_;intro w10 K10 O10 hg10)
    | fail)
   refine bodyPost_ret (v:=.tuple #[.agg C3.toArray,.int .i64 0]) ?_ rfl ?_
   ·exact m0a rfl _ _ h _ _ (0,0) _ rfl K10.out Tryz.underlying34 rfl (by rw[n0a];have:=HL3.out;simp[this]) rfl
   ·have LF:Below w.heap.size w w10:=c0a Ls3.out O10.out (by omega);exact HQ.out C3 (.slice none 0 0) _ _ (by trivial) rfl ⟨none,0,0,none,0,0,none,0,0,by rw[HEQ.out],G1a.nil _ _ _,Holds.nil _ _,d1a.nil _ _ _ _⟩ (by rw[HEQ.out];rfl) (X0a.nil _ _ _ _) LF (λb off s n c h=>by rw[HEQ.out] at h;have h2:some (Value.slice none 0 0)=some (Value.slice (some ⟨b,off,s⟩) n c):=h;cases h2)
 ·subst h9;have D1:Hid (∀(w':World) (g:Nat),PF w' g w.heap.size xs rd0->Calls Tryz.prog 125 #[.pointer (some ⟨g,0,none⟩)] w' λe w2=>e=.returned (.int .u64 (o1 xs).1)/\PF w2 g w.heap.size xs (o1 xs).2/\T1a g w' w2):=λw' g h=>i3a w' g w.heap.size xs _ hby h
  have D2:Hid (∀(w':World) (g:Nat),PF w' g w.heap.size xs (o1 xs).2->Calls Tryz.prog 125 #[.pointer (some ⟨g,0,none⟩)] w' λe w2=>e=.returned (.int .u64 (o2 xs).1)/\PF w2 g w.heap.size xs (o2 xs).2/\T1a g w' w2):=λw' g h=>i3a w' g w.heap.size xs _ hby h
  have D3:Hid (∀(w':World) (g:Nat),PF w' g w.heap.size xs (o2 xs).2->Calls Tryz.prog 128 #[.pointer (some ⟨g,0,none⟩)] w' λe w2=>∃v,e=.returned v/\X0a .u8 5 w2 w'.heap.size v (o4 xs).1/\PF w2 g w.heap.size xs (o4 xs).2/\Q0a g w' w2):=λw' g h=>i4b w' g w.heap.size xs _ hby h
  have DE:Hid (∀(w':World) (g:Nat),PF w' g w.heap.size xs (o4 xs).2->Calls Tryz.prog 130 #[.pointer (some ⟨g,0,none⟩)] w' λe w2=>e=.returned (.int .i64 (H0a xs (o4 xs).2))/\w'=w2):=λw' g h=>U4a w' g w.heap.size xs _ h
  have hge:h5a 9 xs=H0a xs (o4 xs).2:=by unfold h5a;rw[if_pos hk];rfl
  have HQ:Hid (∀(cs:List Value) (vx:Value) (e:Ending) (w':World),H0a xs (o4 xs).2=0->e=.returned (.tuple #[.agg cs.toArray,.int .i64 0])->f1a w' w'.heap.size cs { i0a with file:=(o1 xs).1,at_:=(o2 xs).1,data:=(o4 xs).1 }->cs[61]? = some vx->X0a .u8 5 w' w.heap.size vx ({ i0a with file:=(o1 xs).1,at_:=(o2 xs).1,data:=(o4 xs).1 }).data->Below w.heap.size w w'->(∀b off s n c,cs[62]? = some (.slice (some ⟨b,off,s⟩) n c)->w.heap.size<=b)->h2a w 9 xs e w'):=by
   intro cs vx e w' h0 h1 h2 h3 h4 h5 h9;have ho:n0b 9 xs={ i0a with file:=(o1 xs).1,at_:=(o2 xs).1,data:=(o4 xs).1 }:=by unfold n0b;rw[hge,h0,if_pos rfl];rfl
   unfold h2a;rw[hge,h0,ho];exact⟨cs,vx,h1,h2,h3,h4,h5,h9⟩
  have HE':=hI (HE.out _ hge);have DL:Hid (Bytes (o4 xs).1/\(o4 xs).1.length<=32768):=P8a hby _;obtain⟨er,her⟩:∃x,x=H0a xs (o4 xs).2:=⟨_,rfl⟩;rw[<-her] at DE HQ HE';obtain⟨q1,hq1⟩:∃x,x=(o1 xs):=⟨_,rfl⟩;rw[<-hq1] at D1 D2 HQ;obtain⟨q2,hq2⟩:∃x,x=(o2 xs):=⟨_,rfl⟩;rw[<-hq2] at D2 D3 HQ;obtain⟨q3,hq3⟩:∃x,x=(o4 xs):=⟨_,rfl⟩;rw[<-hq3] at D3 DE HQ DL;clear her hge HE hk hx hq1 hq2 hq3;go_enter Tryz.func85,Tryz.ntmps85;go_wp2_with(first
   | ((with_reducible refine sN 4 ?_);refine a0a rfl _ rfl zs _ ZH ?_;intro h w1 hg1 hg2 Z1 L1)
   | ((with_reducible refine sN 6 ?_);refine a0a rfl _ rfl zs _ ZH ?_;intro a w2 hg3 hg4 K2 L02;have Z2:=hI (Z1.out.over L02.out);have L2:=hI (step L1.out L02.out);have hha:h≠a:=(by omega);have hwa:w.heap.size<=a:=(by have:=L1.out.size;omega);have hsz2:=L2.out.size)
   | ((with_reducible refine sN 13 ?_);refine k0a rfl _ _ rfl ([.slice A n k,.int .i64 0]:List Value) (by refine Eq.trans ?_ BR;kernel_rfl) ?_)
   | ((with_reducible refine sN 7 ?_);refine a0a rfl _ rfl ([.slice none 0 0,.int .i64 0]:List Value) _ ZR ?_;intro g w3 hg5 hg6 R3 L03;have K3:=hI (K2.out.over L03.out);have Z3:=hI (Z2.out.over L03.out);have L3:=hI (step L2.out L03.out);have hag:a≠g:=(by omega);have hhg:h≠g:=(by have:=Z2.out.lt;omega);have hwg:w.heap.size<=g:=(by omega))
   | ((with_reducible refine sT 7 ?_);refine b0a rfl _ (.tmp 7) (.tmp 13) rfl g rfl _ ([.slice none 0 0,.int .i64 0]:List Value) ([.slice A n k,.int .i64 0]:List Value) rfl R3 2 j5a HR0 HR1 HR2 ?_;intro w4 R4 O4 hg7;have K4:=hI (K3.out.only O4.out hag);have Z4:=hI (Z3.out.only O4.out hhg);have L4:=hI (c0a L3.out O4.out hwg))
   | fail)
  have P4:Hid (PF w4 g w.heap.size xs rd0):=⟨Nat.zero_le _,hwg,A,n,k,R4.out,HX.out.below L4.out⟩;clear R3 L03 K2 K3 Z1 Z2 Z3 L02 L1 L2 L3 R4 O4 HX;refine(D1.out w4 g P4.out).mono ?_;rintro e v1 ⟨rfl,hP,hO⟩;have hS:=Q0a.of_only hO;have Pc1:=hI hP;have Zc1:=hI (Z4.out.save hS hhg);have Kc1:=hI (K4.out.save hS hag);have Lc1:=hI (L4.out.trans (hS.below hwg L4.out.size));clear hP hS P4 Z4 K4 L4 hO;go_wp2_with fail;refine(D2.out v1 g Pc1.out).mono ?_;rintro e v2 ⟨rfl,hP,hO⟩;have hS:=Q0a.of_only hO;have Pc2:=hI hP;have Zc2:=hI (Zc1.out.save hS hhg);have Kc2:=hI (Kc1.out.save hS hag);have Lc2:=hI (Lc1.out.trans (hS.below hwg Lc1.out.size));clear hP hS Pc1 Zc1 Kc1 Lc1 hO;go_wp2_with(first
   | ((with_reducible refine sT 68 ?_);refine d0a rfl _ (.tmp 68) (.tmp 65) rfl a 57 rfl _ zs (.int .u64 q1.1) rfl Kc2 (hI (by have:=HZ.out;omega)) (by kernel_rfl) rfl ?_;intro x1 Ks1 Os1 hqs1;obtain⟨C1,hC1⟩:∃x,x=zs.set 57 (.int .u64 q1.1):=⟨_,rfl⟩;have HC1:=hI hC1;have HL1:Hid (C1.length=69):=(by rw[hC1,List.length_set];exact HZ.out);rw[<-hC1] at Ks1;have Zs1:=hI (Zc2.out.only Os1.out hha);have Ps1:=hI (Pc2.out.only Os1.out (Ne.symm hag) hwa);have Ls1:=hI (c0a Lc2.out Os1.out hwa);clear hC1)
   | ((with_reducible refine sT 69 ?_);refine d0a rfl _ (.tmp 69) (.tmp 67) rfl a 59 rfl _ C1 (.int .u64 q2.1) rfl Ks1 (hI (by have:=HL1.out;omega)) (by kernel_rfl) rfl ?_;intro x2 Ks2 Os2 hqs2;obtain⟨C2,hC2⟩:∃x,x=C1.set 59 (.int .u64 q2.1):=⟨_,rfl⟩;have HC2:=hI hC2;have HL2:Hid (C2.length=69):=(by rw[hC2,List.length_set];exact HL1.out);rw[<-hC2] at Ks2;have Zs2:=hI (Zs1.out.only Os2.out hha);have Ps2:=hI (Ps1.out.only Os2.out (Ne.symm hag) hwa);have Ls2:=hI (c0a Ls1.out Os2.out hwa);clear hC2)
   | fail)
  refine(D3.out x2 g Ps2.out).mono ?_;rintro e v3 ⟨u3,rfl,hV,hP,hS⟩;have V3:=hI hV;have hbs3:a<x2.heap.size/\h<x2.heap.size/\w.heap.size<=x2.heap.size:=⟨Ks2.out.lt,Zs2.out.lt,Ls2.out.size⟩;obtain⟨b3,hb3⟩:∃x,x=x2.heap.size:=⟨_,rfl⟩;rw[<-hb3] at V3 hbs3;obtain⟨hba3,hbh3,hbw3⟩:=hbs3;clear hV hb3;have Pc3:=hI hP;have Zc3:=hI (Zs2.out.save hS hhg);have Kc3:=hI (Ks2.out.save hS hag);have Lc3:=hI (Ls2.out.trans (hS.below hwg Ls2.out.size));clear hP hS Ps2 Zs2 Ks2 Ls2;go_wp2_with(first
   | ((with_reducible refine sT 71 ?_);refine d0a rfl _ (.tmp 71) (.tmp 70) rfl a 61 rfl _ C2 (u3) rfl Kc3 (hI (by have:=HL2.out;omega)) (by kernel_rfl) (V4a V3.out) ?_;intro x3 Ks3 Os3 hqs3;obtain⟨C3,hC3⟩:∃x,x=C2.set 61 (u3):=⟨_,rfl⟩;have HC3:=hI hC3;have HL3:Hid (C3.length=69):=(by rw[hC3,List.length_set];exact HL2.out);rw[<-hC3] at Ks3;have Zs3:=hI (Zc3.out.only Os3.out hha);have Ps3:=hI (Pc3.out.only Os3.out (Ne.symm hag) hwa);have Ls3:=hI (c0a Lc3.out Os3.out hwa);have V3s3:=hI (V3.out.onlyAt Os3.out hba3);clear hC3)
   | fail)
  refine(DE.out x3 g Ps3.out).mono ?_;rintro e x3' ⟨rfl,rfl⟩;by_cases he:er=0;rotate_left
  ·have hne:(er != 0)=true:=by simpa using he
   have HN:=hI (HE'.out he);clear he HE' HQ;go_wp2_with(first
    | ((with_reducible refine sN 82 ?_);refine x0a rfl _ rfl zs BZ ?_)
    | ((with_reducible refine sT 4 ?_);refine b0a rfl _ (.tmp 4) (.tmp 82) rfl h rfl _ zs zs rfl Zs3 69 n0a HZ HZ HZ1 ?_;intro w10 K10 O10 hg10)
    | fail)
   refine bodyPost_ret (v:=.tuple #[.agg zs.toArray,.int .i64 er]) ?_ rfl (HN.out _ _ rfl (c0a Ls3.out O10.out (by omega)));exact m0a rfl _ _ h _ _ (0,0) _ rfl K10.out Tryz.underlying34 rfl (by rw[n0a];have:=HZ.out;simp[this]) rfl
  ·subst he;have HEQ:Hid (C3=j0a (.slice none 0 0) u3 (.slice none 0 0) { i0a with file:=q1.1,at_:=q2.1,data:=q3.1 }):=by
    show _=_
    rw[HC3.out,HC2.out,HC1.out,HZS.out];rfl
   have H1C:Hid (∀v∈C3,v.oneCell'=true):=by
    show _
    rw[HEQ.out];exact x1a rfl (V4a V3s3.out) rfl
   go_wp2_with(first
    | ((with_reducible refine sN 84 ?_);refine e0a rfl _ (.tmp 6) rfl a rfl _ C3 Ks3 69 _ Tryz.underlying34 rfl n0a HL3 ?_)
    | ((with_reducible refine sT 4 ?_);refine b0a rfl _ (.tmp 4) (.tmp 84) rfl h rfl _ zs C3 rfl Zs3 69 n0a HZ HL3 H1C ?_;intro w10 K10 O10 hg10)
    | fail)
   refine bodyPost_ret (v:=.tuple #[.agg C3.toArray,.int .i64 0]) ?_ rfl ?_
   ·exact m0a rfl _ _ h _ _ (0,0) _ rfl K10.out Tryz.underlying34 rfl (by rw[n0a];have:=HL3.out;simp[this]) rfl
   ·have LF:Below w.heap.size w w10:=c0a Ls3.out O10.out (by omega);have VF:=X0a.onlyAt V3s3.out O10.out hbh3;obtain⟨Ax,kx,hux,hHx⟩:=X0a.holds8 VF DL.out.1 (Nat.le_trans DL.out.2 (by decide));exact HQ.out C3 u3 _ _ (by trivial) rfl ⟨none,0,0,Ax,_,kx,none,0,0,by rw[HEQ.out,hux],G1a.nil _ _ _,hHx,d1a.nil _ _ _ _⟩ (by rw[HEQ.out];rfl) (VF.mono hbw3) LF (λb off s n c h=>by rw[HEQ.out] at h;have h2:some (Value.slice none 0 0)=some (Value.slice (some ⟨b,off,s⟩) n c):=h;cases h2)
 ·subst h10;have D1:Hid (∀(w':World) (g:Nat),PF w' g w.heap.size xs rd0->Calls Tryz.prog 125 #[.pointer (some ⟨g,0,none⟩)] w' λe w2=>e=.returned (.int .u64 (o1 xs).1)/\PF w2 g w.heap.size xs (o1 xs).2/\T1a g w' w2):=λw' g h=>i3a w' g w.heap.size xs _ hby h
  have D2:Hid (∀(w':World) (g:Nat),PF w' g w.heap.size xs (o1 xs).2->Calls Tryz.prog 129 #[.pointer (some ⟨g,0,none⟩)] w' λe w2=>∃v,e=.returned v/\r5a E0a 4 114 w2 w'.heap.size v (o5 xs).1/\PF w2 g w.heap.size xs (o5 xs).2/\Q0a g w' w2):=λw' g h=>N6b w' g w.heap.size xs _ hby h
  have DE:Hid (∀(w':World) (g:Nat),PF w' g w.heap.size xs (o5 xs).2->Calls Tryz.prog 130 #[.pointer (some ⟨g,0,none⟩)] w' λe w2=>e=.returned (.int .i64 (H0a xs (o5 xs).2))/\w'=w2):=λw' g h=>U4a w' g w.heap.size xs _ h
  have hge:h5a 10 xs=H0a xs (o5 xs).2:=by unfold h5a;rw[if_pos hk];rfl
  have HQ:Hid (∀(cs:List Value) (vx:Value) (e:Ending) (w':World),H0a xs (o5 xs).2=0->e=.returned (.tuple #[.agg cs.toArray,.int .i64 0])->f1a w' w'.heap.size cs { i0a with file:=(o1 xs).1,locks:=(o5 xs).1 }->cs[61]? = some vx->X0a .u8 5 w' w.heap.size vx ({ i0a with file:=(o1 xs).1,locks:=(o5 xs).1 }).data->Below w.heap.size w w'->(∀b off s n c,cs[62]? = some (.slice (some ⟨b,off,s⟩) n c)->w.heap.size<=b)->h2a w 10 xs e w'):=by
   intro cs vx e w' h0 h1 h2 h3 h4 h5 h9;have ho:n0b 10 xs={ i0a with file:=(o1 xs).1,locks:=(o5 xs).1 }:=by unfold n0b;rw[hge,h0,if_pos rfl];rfl
   unfold h2a;rw[hge,h0,ho];exact⟨cs,vx,h1,h2,h3,h4,h5,h9⟩
  have HE':=hI (HE.out _ hge);obtain⟨er,her⟩:∃x,x=H0a xs (o5 xs).2:=⟨_,rfl⟩;rw[<-her] at DE HQ HE';obtain⟨q1,hq1⟩:∃x,x=(o1 xs):=⟨_,rfl⟩;rw[<-hq1] at D1 D2 HQ;obtain⟨q2,hq2⟩:∃x,x=(o5 xs):=⟨_,rfl⟩;rw[<-hq2] at D2 DE HQ;clear her hge HE hk hx hq1 hq2;go_enter Tryz.func85,Tryz.ntmps85;go_wp2_with(first
   | ((with_reducible refine sN 4 ?_);refine a0a rfl _ rfl zs _ ZH ?_;intro h w1 hg1 hg2 Z1 L1)
   | ((with_reducible refine sN 6 ?_);refine a0a rfl _ rfl zs _ ZH ?_;intro a w2 hg3 hg4 K2 L02;have Z2:=hI (Z1.out.over L02.out);have L2:=hI (step L1.out L02.out);have hha:h≠a:=(by omega);have hwa:w.heap.size<=a:=(by have:=L1.out.size;omega);have hsz2:=L2.out.size)
   | ((with_reducible refine sN 13 ?_);refine k0a rfl _ _ rfl ([.slice A n k,.int .i64 0]:List Value) (by refine Eq.trans ?_ BR;kernel_rfl) ?_)
   | ((with_reducible refine sN 7 ?_);refine a0a rfl _ rfl ([.slice none 0 0,.int .i64 0]:List Value) _ ZR ?_;intro g w3 hg5 hg6 R3 L03;have K3:=hI (K2.out.over L03.out);have Z3:=hI (Z2.out.over L03.out);have L3:=hI (step L2.out L03.out);have hag:a≠g:=(by omega);have hhg:h≠g:=(by have:=Z2.out.lt;omega);have hwg:w.heap.size<=g:=(by omega))
   | ((with_reducible refine sT 7 ?_);refine b0a rfl _ (.tmp 7) (.tmp 13) rfl g rfl _ ([.slice none 0 0,.int .i64 0]:List Value) ([.slice A n k,.int .i64 0]:List Value) rfl R3 2 j5a HR0 HR1 HR2 ?_;intro w4 R4 O4 hg7;have K4:=hI (K3.out.only O4.out hag);have Z4:=hI (Z3.out.only O4.out hhg);have L4:=hI (c0a L3.out O4.out hwg))
   | fail)
  have P4:Hid (PF w4 g w.heap.size xs rd0):=⟨Nat.zero_le _,hwg,A,n,k,R4.out,HX.out.below L4.out⟩;clear R3 L03 K2 K3 Z1 Z2 Z3 L02 L1 L2 L3 R4 O4 HX;refine(D1.out w4 g P4.out).mono ?_;rintro e v1 ⟨rfl,hP,hO⟩;have hS:=Q0a.of_only hO;have Pc1:=hI hP;have Zc1:=hI (Z4.out.save hS hhg);have Kc1:=hI (K4.out.save hS hag);have Lc1:=hI (L4.out.trans (hS.below hwg L4.out.size));clear hP hS P4 Z4 K4 L4 hO;go_wp2_with(first
   | ((with_reducible refine sT 76 ?_);refine d0a rfl _ (.tmp 76) (.tmp 75) rfl a 57 rfl _ zs (.int .u64 q1.1) rfl Kc1 (hI (by have:=HZ.out;omega)) (by kernel_rfl) rfl ?_;intro x1 Ks1 Os1 hqs1;obtain⟨C1,hC1⟩:∃x,x=zs.set 57 (.int .u64 q1.1):=⟨_,rfl⟩;have HC1:=hI hC1;have HL1:Hid (C1.length=69):=(by rw[hC1,List.length_set];exact HZ.out);rw[<-hC1] at Ks1;have Zs1:=hI (Zc1.out.only Os1.out hha);have Ps1:=hI (Pc1.out.only Os1.out (Ne.symm hag) hwa);have Ls1:=hI (c0a Lc1.out Os1.out hwa);clear hC1)
   | fail)
  refine(D2.out x1 g Ps1.out).mono ?_;rintro e v2 ⟨u2,rfl,hV,hP,hS⟩;have V2:=hI hV;have hbs2:a<x1.heap.size/\h<x1.heap.size/\w.heap.size<=x1.heap.size:=⟨Ks1.out.lt,Zs1.out.lt,Ls1.out.size⟩;obtain⟨b2,hb2⟩:∃x,x=x1.heap.size:=⟨_,rfl⟩;rw[<-hb2] at V2 hbs2;obtain⟨hba2,hbh2,hbw2⟩:=hbs2;clear hV hb2;have Pc2:=hI hP;have Zc2:=hI (Zs1.out.save hS hhg);have Kc2:=hI (Ks1.out.save hS hag);have Lc2:=hI (Ls1.out.trans (hS.below hwg Ls1.out.size));clear hP hS Ps1 Zs1 Ks1 Ls1;go_wp2_with(first
   | ((with_reducible refine sT 78 ?_);refine d0a rfl _ (.tmp 78) (.tmp 77) rfl a 62 rfl _ C1 (u2) rfl Kc2 (hI (by have:=HL1.out;omega)) (by kernel_rfl) (S5b V2.out) ?_;intro x2 Ks2 Os2 hqs2;obtain⟨C2,hC2⟩:∃x,x=C1.set 62 (u2):=⟨_,rfl⟩;have HC2:=hI hC2;have HL2:Hid (C2.length=69):=(by rw[hC2,List.length_set];exact HL1.out);rw[<-hC2] at Ks2;have Zs2:=hI (Zc2.out.only Os2.out hha);have Ps2:=hI (Pc2.out.only Os2.out (Ne.symm hag) hwa);have Ls2:=hI (c0a Lc2.out Os2.out hwa);have V2s2:=hI (V2.out.only Os2.out hba2);clear hC2)
   | fail)
  refine(DE.out x2 g Ps2.out).mono ?_;rintro e x2' ⟨rfl,rfl⟩;by_cases he:er=0;rotate_left
  ·have hne:(er != 0)=true:=by simpa using he
   have HN:=hI (HE'.out he);clear he HE' HQ;go_wp2_with(first
    | ((with_reducible refine sN 82 ?_);refine x0a rfl _ rfl zs BZ ?_)
    | ((with_reducible refine sT 4 ?_);refine b0a rfl _ (.tmp 4) (.tmp 82) rfl h rfl _ zs zs rfl Zs2 69 n0a HZ HZ HZ1 ?_;intro w10 K10 O10 hg10)
    | fail)
   refine bodyPost_ret (v:=.tuple #[.agg zs.toArray,.int .i64 er]) ?_ rfl (HN.out _ _ rfl (c0a Ls2.out O10.out (by omega)));exact m0a rfl _ _ h _ _ (0,0) _ rfl K10.out Tryz.underlying34 rfl (by rw[n0a];have:=HZ.out;simp[this]) rfl
  ·subst he;have HEQ:Hid (C2=j0a (.slice none 0 0) (.slice none 0 0) u2 { i0a with file:=q1.1,locks:=q2.1 }):=by
    show _=_
    rw[HC2.out,HC1.out,HZS.out];rfl
   have H1C:Hid (∀v∈C2,v.oneCell'=true):=by
    show _
    rw[HEQ.out];exact x1a rfl rfl (S5b V2s2.out)
   go_wp2_with(first
    | ((with_reducible refine sN 84 ?_);refine e0a rfl _ (.tmp 6) rfl a rfl _ C2 Ks2 69 _ Tryz.underlying34 rfl n0a HL2 ?_)
    | ((with_reducible refine sT 4 ?_);refine b0a rfl _ (.tmp 4) (.tmp 84) rfl h rfl _ zs C2 rfl Zs2 69 n0a HZ HL2 H1C ?_;intro w10 K10 O10 hg10)
    | fail)
   refine bodyPost_ret (v:=.tuple #[.agg C2.toArray,.int .i64 0]) ?_ rfl ?_
   ·exact m0a rfl _ _ h _ _ (0,0) _ rfl K10.out Tryz.underlying34 rfl (by rw[n0a];have:=HL2.out;simp[this]) rfl
   ·have LF:Below w.heap.size w w10:=c0a Ls2.out O10.out (by omega);have VL:=r5a.only V2s2.out O10.out hbh2;obtain⟨Al,nl,kl,hul,hHl⟩:=r5a.holds (by decide) Y2a VL;exact HQ.out C2 (.slice none 0 0) _ _ (by trivial) rfl ⟨none,0,0,none,0,0,Al,nl,kl,by rw[HEQ.out,hul],G1a.nil _ _ _,Holds.nil _ _,hHl⟩ (by rw[HEQ.out];rfl) (X0a.nil _ _ _ _) LF (λb off s n c h=>by rw[HEQ.out] at h;have h2:some u2=some (Value.slice (some ⟨b,off,s⟩) n c):=h;injection h2 with h2;exact Nat.le_trans hbw2 (World.ownsRow.lt VL b (by rw[h2];rfl)).1)
theorem l5b(w:World)(c:Int)(A:Option Addr)(n k:Nat)(xs:List Int)(hc:0<=c/\c<=65535)(hx:Holds w w.heap.size A n k xs) :
  Calls Tryz.prog 87 #[.int .u16 c,.slice A n k] w (S2a w c xs):=by
 have hby:=hx.byte;have HX:=hI hx;have hmf:∀(fn:Fn) (first cap:Array Value) (w:World),(Instr.makeFunc fn first cap).run Tryz.prog w=.ok (.func fn first cap) w:=λ_ _ _ _=>rfl
 have ZH:=hI I7a;have BZ:=C8a;have ZR:=hI h8b;have HZ:Hid ((r0a (.slice none 0 0) (.slice none 0 0) q0a).length=20):=U1a G0a;have HZ1:Hid (∀v∈r0a (.slice none 0 0) (.slice none 0 0) q0a,v.oneCell'=true):=(E2a w 0).one;have HZI:Hid (∀w':World,n1a w' w'.heap.size (r0a (.slice none 0 0) (.slice none 0 0) q0a) q0a):=λw'=>E2a w' _
 have HZD:Hid ((r0a (.slice none 0 0) (.slice none 0 0) q0a)[15]? = some (.slice none 0 0)):=rfl;have BR:Tryz.prog.built 152 [(0,.slice A n k)]=some ([.slice A n k,.int .i64 0]:List Value).toArray:=by kernel_rfl
 have HR0:Hid (([.slice none 0 0,.int .i64 0]:List Value).length=2):=rfl;have HR1:Hid (([.slice A n k,.int .i64 0]:List Value).length=2):=rfl;have HR2:Hid (∀v∈([.slice A n k,.int .i64 0]:List Value),v.oneCell'=true):=by
  intro v hv;rcases List.mem_cons.1 hv with rfl | hv
  ·rfl
  ·rw[List.mem_singleton.1 hv];rfl
 have HE:Hid (∀er,s5a c xs=er->er≠0->∀e w',e=.returned (.tuple #[.agg (r0a (.slice none 0 0) (.slice none 0 0) q0a).toArray,.int .i64 er])->Below w.heap.size w w'->S2a w c xs e w'):=by intro er h1 h2 e w' he hb;unfold S2a o0b;rw[h1,if_neg h2];exact⟨_,_,he,HZI.out w',HZD.out,X0a.nil _ _ _ _,hb⟩
 obtain⟨zs,hzs⟩:∃zs,zs=r0a (.slice none 0 0) (.slice none 0 0) q0a:=⟨_,rfl⟩;have HZS:=hI hzs;rw[<-hzs] at ZH BZ HZ HZ1 HE;clear hzs HZI HZD;by_cases hk:R2a c=true;rotate_left
 ·have HQ:=hI (HE.out 2 (by unfold s5a;rw[if_neg hk]) (by decide));have hk':c≠5/\c≠6/\c≠7/\c≠8/\c≠9/\c≠10:=by refine⟨?_,?_,?_,?_,?_,?_⟩<;>(rintro rfl;exact hk (by decide))
  obtain⟨h5,h6,h7,h8,h9,h10⟩:=hk';have b5:(c==5)=false:=by simpa using h5
  have b6:(c==6)=false:=by simpa using h6
  have b7:(c==7)=false:=by simpa using h7
  have b8:(c==8)=false:=by simpa using h8
  have b9:(c==9)=false:=by simpa using h9
  have b10:(c==10)=false:=by simpa using h10
  clear hk HE hx h5 h6 h7 h8 h9 h10;go_enter Tryz.func87,Tryz.ntmps87;go_wp2_with(first
   | ((with_reducible refine sN 4 ?_);refine a0a rfl _ rfl zs _ ZH ?_;intro h w1 hg1 hg2 Z1 L1)
   | ((with_reducible refine sN 6 ?_);refine a0a rfl _ rfl zs _ ZH ?_;intro a w2 hg3 hg4 K2 L02;have Z2:=hI (Z1.out.over L02.out);have L2:=hI (step L1.out L02.out);have hha:h≠a:=(by omega);have hwa:w.heap.size<=a:=(by have:=L1.out.size;omega);have hsz2:=L2.out.size)
   | ((with_reducible refine sN 13 ?_);refine k0a rfl _ _ rfl ([.slice A n k,.int .i64 0]:List Value) (by refine Eq.trans ?_ BR;kernel_rfl) ?_)
   | ((with_reducible refine sN 7 ?_);refine a0a rfl _ rfl ([.slice none 0 0,.int .i64 0]:List Value) _ ZR ?_;intro g w3 hg5 hg6 R3 L03;have K3:=hI (K2.out.over L03.out);have Z3:=hI (Z2.out.over L03.out);have L3:=hI (step L2.out L03.out);have hag:a≠g:=(by omega);have hhg:h≠g:=(by have:=Z2.out.lt;omega);have hwg:w.heap.size<=g:=(by omega))
   | ((with_reducible refine sT 7 ?_);refine b0a rfl _ (.tmp 7) (.tmp 13) rfl g rfl _ ([.slice none 0 0,.int .i64 0]:List Value) ([.slice A n k,.int .i64 0]:List Value) rfl R3 2 j5a HR0 HR1 HR2 ?_;intro w4 R4 O4 hg7;have K4:=hI (K3.out.only O4.out hag);have Z4:=hI (Z3.out.only O4.out hhg);have L4:=hI (c0a L3.out O4.out hwg))
   | ((with_reducible refine sN 18 ?_);refine x0a rfl _ rfl zs BZ ?_)
   | ((with_reducible refine sT 4 ?_);refine b0a rfl _ (.tmp 4) (.tmp 18) rfl h rfl _ zs zs rfl Z4 20 s0a HZ HZ HZ1 ?_;intro w10 K10 O10 hg10)
   | fail)
  refine bodyPost_ret (v:=.tuple #[.agg zs.toArray,.int .i64 2]) ?_ rfl (HQ.out _ _ rfl (c0a L4.out O10.out (by omega)));exact m0a rfl _ _ h _ _ (0,0) _ rfl K10.out Tryz.underlying39 rfl (by rw[s0a];have:=HZ.out;simp[this]) rfl
 have hcs:c=5∨(c=6∨c=7∨c=10)∨c=8∨c=9:=by unfold R2a at hk;simp at hk;omega
 rcases hcs with h5 | hgr | h8 | h9
 ·subst h5;have D1:Hid (∀(w':World) (g:Nat),PF w' g w.heap.size xs rd0->Calls Tryz.prog 123 #[.pointer (some ⟨g,0,none⟩)] w' λe w2=>e=.returned (.int .u8 (s1 xs).1)/\PF w2 g w.heap.size xs (s1 xs).2/\T1a g w' w2):=λw' g h=>x0b w' g w.heap.size xs _ hby h
  have D2:Hid (∀(w':World) (g:Nat),PF w' g w.heap.size xs (s1 xs).2->Calls Tryz.prog 123 #[.pointer (some ⟨g,0,none⟩)] w' λe w2=>e=.returned (.int .u8 (s2 xs).1)/\PF w2 g w.heap.size xs (s2 xs).2/\T1a g w' w2):=λw' g h=>x0b w' g w.heap.size xs _ hby h
  have D3:Hid (∀(w':World) (g:Nat),PF w' g w.heap.size xs (s2 xs).2->Calls Tryz.prog 132 #[.pointer (some ⟨g,0,none⟩),.int .u16 2] w' λe w2=>e=.returned (.int .u16 (s3 xs).1)/\PF w2 g w.heap.size xs (s3 xs).2/\T1a g w' w2):=λw' g h=>e8b w' g w.heap.size xs _ 2 hby h (by decide)
  have D4:Hid (∀(w':World) (g:Nat),PF w' g w.heap.size xs (s3 xs).2->Calls Tryz.prog 125 #[.pointer (some ⟨g,0,none⟩)] w' λe w2=>e=.returned (.int .u64 (s4 xs).1)/\PF w2 g w.heap.size xs (s4 xs).2/\T1a g w' w2):=λw' g h=>i3a w' g w.heap.size xs _ hby h
  have D5:Hid (∀(w':World) (g:Nat),PF w' g w.heap.size xs (s4 xs).2->Calls Tryz.prog 125 #[.pointer (some ⟨g,0,none⟩)] w' λe w2=>e=.returned (.int .u64 (s5 xs).1)/\PF w2 g w.heap.size xs (s5 xs).2/\T1a g w' w2):=λw' g h=>i3a w' g w.heap.size xs _ hby h
  have D6:Hid (∀(w':World) (g:Nat),PF w' g w.heap.size xs (s5 xs).2->Calls Tryz.prog 132 #[.pointer (some ⟨g,0,none⟩),.int .u16 2] w' λe w2=>e=.returned (.int .u16 (s6 xs).1)/\PF w2 g w.heap.size xs (s6 xs).2/\T1a g w' w2):=λw' g h=>e8b w' g w.heap.size xs _ 2 hby h (by decide)
  have D7:Hid (∀(w':World) (g:Nat),PF w' g w.heap.size xs (s6 xs).2->Calls Tryz.prog 126 #[.pointer (some ⟨g,0,none⟩),.int .i64 2] w' λe w2=>e=.returned (.tuple #[])/\PF w2 g w.heap.size xs (s7 xs)/\T1a g w' w2):=λw' g h=>r6a w' g w.heap.size xs _ 2 hby h (by decide)
  have DE:Hid (∀(w':World) (g:Nat),PF w' g w.heap.size xs (s7 xs)->Calls Tryz.prog 130 #[.pointer (some ⟨g,0,none⟩)] w' λe w2=>e=.returned (.int .i64 (H0a xs (s7 xs)))/\w'=w2):=λw' g h=>U4a w' g w.heap.size xs _ h
  have hge:s5a 5 xs=H0a xs (s7 xs):=by unfold s5a;rw[if_pos hk];rfl
  have HQ:Hid (∀(cs:List Value) (vx:Value) (e:Ending) (w':World),H0a xs (s7 xs)=0->e=.returned (.tuple #[.agg cs.toArray,.int .i64 0])->n1a w' w'.heap.size cs { q0a with lev:=(s1 xs).1,dur:=(s2 xs).1,made:=(s3 xs).1,file:=(s4 xs).1,siz:=(s5 xs).1,kind:=(s6 xs).1 }->cs[15]? = some vx->X0a .u8 5 w' w.heap.size vx ({ q0a with lev:=(s1 xs).1,dur:=(s2 xs).1,made:=(s3 xs).1,file:=(s4 xs).1,siz:=(s5 xs).1,kind:=(s6 xs).1 }).data->Below w.heap.size w w'->S2a w 5 xs e w'):=by
   intro cs vx e w' h0 h1 h2 h3 h4 h5;have ho:o0b 5 xs={ q0a with lev:=(s1 xs).1,dur:=(s2 xs).1,made:=(s3 xs).1,file:=(s4 xs).1,siz:=(s5 xs).1,kind:=(s6 xs).1 }:=by unfold o0b;rw[hge,h0,if_pos rfl];rfl
   unfold S2a;rw[hge,h0,ho];exact⟨cs,vx,h1,h2,h3,h4,h5⟩
  have HE':=hI (HE.out _ hge);obtain⟨k6,hk6⟩:∃x,IntKind.u8.wrap (s6 xs).1=x:=⟨_,rfl⟩;have HK6:Hid (H0a xs (s7 xs)=0->k6=(s6 xs).1):=λh=>by
   have h2:=(R5b h).2;have h0:=(h5b hby 2 (s5 xs).2).1;change 0<=(s6 xs).1 at h0
   rw[<-hk6,IntKind.wrap_u8];omega
  obtain⟨er,her⟩:∃x,x=H0a xs (s7 xs):=⟨_,rfl⟩;rw[<-her] at DE HQ HE' HK6;obtain⟨q1,hq1⟩:∃x,x=(s1 xs):=⟨_,rfl⟩;rw[<-hq1] at D1 D2 HQ;obtain⟨q2,hq2⟩:∃x,x=(s2 xs):=⟨_,rfl⟩;rw[<-hq2] at D2 D3 HQ;obtain⟨q3,hq3⟩:∃x,x=(s3 xs):=⟨_,rfl⟩;rw[<-hq3] at D3 D4 HQ;obtain⟨q4,hq4⟩:∃x,x=(s4 xs):=⟨_,rfl⟩;rw[<-hq4] at D4 D5 HQ;obtain⟨q5,hq5⟩:∃x,x=(s5 xs):=⟨_,rfl⟩;rw[<-hq5] at D5 D6 HQ;obtain⟨q6,hq6⟩:∃x,x=(s6 xs):=⟨_,rfl⟩;rw[<-hq6] at D6 D7 HQ HK6 hk6;obtain⟨q7,hq7⟩:∃x,x=(s7 xs):=⟨_,rfl⟩;rw[<-hq7] at D7 DE;clear her hge HE hk hx hq1 hq2 hq3 hq4 hq5 hq6 hq7;go_enter Tryz.func87,Tryz.ntmps87;go_wp2_with(first
   | ((with_reducible refine sN 4 ?_);refine a0a rfl _ rfl zs _ ZH ?_;intro h w1 hg1 hg2 Z1 L1)
   | ((with_reducible refine sN 6 ?_);refine a0a rfl _ rfl zs _ ZH ?_;intro a w2 hg3 hg4 K2 L02;have Z2:=hI (Z1.out.over L02.out);have L2:=hI (step L1.out L02.out);have hha:h≠a:=(by omega);have hwa:w.heap.size<=a:=(by have:=L1.out.size;omega);have hsz2:=L2.out.size)
   | ((with_reducible refine sN 13 ?_);refine k0a rfl _ _ rfl ([.slice A n k,.int .i64 0]:List Value) (by refine Eq.trans ?_ BR;kernel_rfl) ?_)
   | ((with_reducible refine sN 7 ?_);refine a0a rfl _ rfl ([.slice none 0 0,.int .i64 0]:List Value) _ ZR ?_;intro g w3 hg5 hg6 R3 L03;have K3:=hI (K2.out.over L03.out);have Z3:=hI (Z2.out.over L03.out);have L3:=hI (step L2.out L03.out);have hag:a≠g:=(by omega);have hhg:h≠g:=(by have:=Z2.out.lt;omega);have hwg:w.heap.size<=g:=(by omega))
   | ((with_reducible refine sT 7 ?_);refine b0a rfl _ (.tmp 7) (.tmp 13) rfl g rfl _ ([.slice none 0 0,.int .i64 0]:List Value) ([.slice A n k,.int .i64 0]:List Value) rfl R3 2 j5a HR0 HR1 HR2 ?_;intro w4 R4 O4 hg7;have K4:=hI (K3.out.only O4.out hag);have Z4:=hI (Z3.out.only O4.out hhg);have L4:=hI (c0a L3.out O4.out hwg))
   | fail)
  have P4:Hid (PF w4 g w.heap.size xs rd0):=⟨Nat.zero_le _,hwg,A,n,k,R4.out,HX.out.below L4.out⟩;clear R3 L03 K2 K3 Z1 Z2 Z3 L02 L1 L2 L3 R4 O4 HX;refine(D1.out w4 g P4.out).mono ?_;rintro e v1 ⟨rfl,hP,hO⟩;have hS:=Q0a.of_only hO;have Pc1:=hI hP;have Zc1:=hI (Z4.out.save hS hhg);have Kc1:=hI (K4.out.save hS hag);have Lc1:=hI (L4.out.trans (hS.below hwg L4.out.size));clear hP hS P4 Z4 K4 L4 hO;go_wp2_with fail;refine(D2.out v1 g Pc1.out).mono ?_;rintro e v2 ⟨rfl,hP,hO⟩;have hS:=Q0a.of_only hO;have Pc2:=hI hP;have Zc2:=hI (Zc1.out.save hS hhg);have Kc2:=hI (Kc1.out.save hS hag);have Lc2:=hI (Lc1.out.trans (hS.below hwg Lc1.out.size));clear hP hS Pc1 Zc1 Kc1 Lc1 hO;go_wp2_with(first
   | ((with_reducible refine sT 25 ?_);refine d0a rfl _ (.tmp 25) (.tmp 22) rfl a 10 rfl _ zs (.int .u8 q1.1) rfl Kc2 (hI (by have:=HZ.out;omega)) (by kernel_rfl) rfl ?_;intro x1 Ks1 Os1 hqs1;obtain⟨C1,hC1⟩:∃x,x=zs.set 10 (.int .u8 q1.1):=⟨_,rfl⟩;have HC1:=hI hC1;have HL1:Hid (C1.length=20):=(by rw[hC1,List.length_set];exact HZ.out);rw[<-hC1] at Ks1;have Zs1:=hI (Zc2.out.only Os1.out hha);have Ps1:=hI (Pc2.out.only Os1.out (Ne.symm hag) hwa);have Ls1:=hI (c0a Lc2.out Os1.out hwa);clear hC1)
   | ((with_reducible refine sT 26 ?_);refine d0a rfl _ (.tmp 26) (.tmp 24) rfl a 11 rfl _ C1 (.int .u8 q2.1) rfl Ks1 (hI (by have:=HL1.out;omega)) (by kernel_rfl) rfl ?_;intro x2 Ks2 Os2 hqs2;obtain⟨C2,hC2⟩:∃x,x=C1.set 11 (.int .u8 q2.1):=⟨_,rfl⟩;have HC2:=hI hC2;have HL2:Hid (C2.length=20):=(by rw[hC2,List.length_set];exact HL1.out);rw[<-hC2] at Ks2;have Zs2:=hI (Zs1.out.only Os2.out hha);have Ps2:=hI (Ps1.out.only Os2.out (Ne.symm hag) hwa);have Ls2:=hI (c0a Ls1.out Os2.out hwa);clear hC2)
   | fail)
  refine(D3.out x2 g Ps2.out).mono ?_;rintro e v3 ⟨rfl,hP,hO⟩;have hS:=Q0a.of_only hO;have Pc3:=hI hP;have Zc3:=hI (Zs2.out.save hS hhg);have Kc3:=hI (Ks2.out.save hS hag);have Lc3:=hI (Ls2.out.trans (hS.below hwg Ls2.out.size));clear hP hS Ps2 Zs2 Ks2 Ls2 hO;go_wp2_with(first
   | ((with_reducible refine sT 29 ?_);refine d0a rfl _ (.tmp 29) (.tmp 28) rfl a 12 rfl _ C2 (.int .u16 q3.1) rfl Kc3 (hI (by have:=HL2.out;omega)) (by kernel_rfl) rfl ?_;intro x3 Ks3 Os3 hqs3;obtain⟨C3,hC3⟩:∃x,x=C2.set 12 (.int .u16 q3.1):=⟨_,rfl⟩;have HC3:=hI hC3;have HL3:Hid (C3.length=20):=(by rw[hC3,List.length_set];exact HL2.out);rw[<-hC3] at Ks3;have Zs3:=hI (Zc3.out.only Os3.out hha);have Ps3:=hI (Pc3.out.only Os3.out (Ne.symm hag) hwa);have Ls3:=hI (c0a Lc3.out Os3.out hwa);clear hC3)
   | fail)
  refine(D4.out x3 g Ps3.out).mono ?_;rintro e v4 ⟨rfl,hP,hO⟩;have hS:=Q0a.of_only hO;have Pc4:=hI hP;have Zc4:=hI (Zs3.out.save hS hhg);have Kc4:=hI (Ks3.out.save hS hag);have Lc4:=hI (Ls3.out.trans (hS.below hwg Ls3.out.size));clear hP hS Ps3 Zs3 Ks3 Ls3 hO;go_wp2_with fail;refine(D5.out v4 g Pc4.out).mono ?_;rintro e v5 ⟨rfl,hP,hO⟩;have hS:=Q0a.of_only hO;have Pc5:=hI hP;have Zc5:=hI (Zc4.out.save hS hhg);have Kc5:=hI (Kc4.out.save hS hag);have Lc5:=hI (Lc4.out.trans (hS.below hwg Lc4.out.size));clear hP hS Pc4 Zc4 Kc4 Lc4 hO;go_wp2_with(first
   | ((with_reducible refine sT 34 ?_);refine d0a rfl _ (.tmp 34) (.tmp 31) rfl a 13 rfl _ C3 (.int .u64 q4.1) rfl Kc5 (hI (by have:=HL3.out;omega)) (by kernel_rfl) rfl ?_;intro x4 Ks4 Os4 hqs4;obtain⟨C4,hC4⟩:∃x,x=C3.set 13 (.int .u64 q4.1):=⟨_,rfl⟩;have HC4:=hI hC4;have HL4:Hid (C4.length=20):=(by rw[hC4,List.length_set];exact HL3.out);rw[<-hC4] at Ks4;have Zs4:=hI (Zc5.out.only Os4.out hha);have Ps4:=hI (Pc5.out.only Os4.out (Ne.symm hag) hwa);have Ls4:=hI (c0a Lc5.out Os4.out hwa);clear hC4)
   | ((with_reducible refine sT 35 ?_);refine d0a rfl _ (.tmp 35) (.tmp 33) rfl a 1 rfl _ C4 (.int .u64 q5.1) rfl Ks4 (hI (by have:=HL4.out;omega)) (by kernel_rfl) rfl ?_;intro x5 Ks5 Os5 hqs5;obtain⟨C5,hC5⟩:∃x,x=C4.set 1 (.int .u64 q5.1):=⟨_,rfl⟩;have HC5:=hI hC5;have HL5:Hid (C5.length=20):=(by rw[hC5,List.length_set];exact HL4.out);rw[<-hC5] at Ks5;have Zs5:=hI (Zs4.out.only Os5.out hha);have Ps5:=hI (Ps4.out.only Os5.out (Ne.symm hag) hwa);have Ls5:=hI (c0a Ls4.out Os5.out hwa);clear hC5)
   | fail)
  refine(D6.out x5 g Ps5.out).mono ?_;rintro e v6 ⟨rfl,hP,hO⟩;have hS:=Q0a.of_only hO;have Pc6:=hI hP;have Zc6:=hI (Zs5.out.save hS hhg);have Kc6:=hI (Ks5.out.save hS hag);have Lc6:=hI (Ls5.out.trans (hS.below hwg Ls5.out.size));clear hP hS Ps5 Zs5 Ks5 Ls5 hO;go_wp2_with(first
   | ((with_reducible refine sT 39 ?_);refine d0a rfl _ (.tmp 39) (.tmp 38) rfl a 14 rfl _ C5 (.int .u8 k6) rfl Kc6 (hI (by have:=HL5.out;omega)) (by kernel_rfl) rfl ?_;intro x6 Ks6 Os6 hqs6;obtain⟨C6,hC6⟩:∃x,x=C5.set 14 (.int .u8 k6):=⟨_,rfl⟩;have HC6:=hI hC6;have HL6:Hid (C6.length=20):=(by rw[hC6,List.length_set];exact HL5.out);rw[<-hC6] at Ks6;have Zs6:=hI (Zc6.out.only Os6.out hha);have Ps6:=hI (Pc6.out.only Os6.out (Ne.symm hag) hwa);have Ls6:=hI (c0a Lc6.out Os6.out hwa);clear hC6)
   | fail)
  refine(D7.out x6 g Ps6.out).mono ?_;rintro e v7 ⟨rfl,hP,hO⟩;have hS:=Q0a.of_only hO;have Pc7:=hI hP;have Zc7:=hI (Zs6.out.save hS hhg);have Kc7:=hI (Ks6.out.save hS hag);have Lc7:=hI (Ls6.out.trans (hS.below hwg Ls6.out.size));clear hP hS Ps6 Zs6 Ks6 Ls6 hO;go_wp2_with fail;refine(DE.out v7 g Pc7.out).mono ?_;rintro e v7' ⟨rfl,rfl⟩;by_cases he:er=0;rotate_left
  ·have hne:(er != 0)=true:=by simpa using he
   have HN:=hI (HE'.out he);clear he HE' HQ;go_wp2_with(first
    | ((with_reducible refine sN 57 ?_);refine x0a rfl _ rfl zs BZ ?_)
    | ((with_reducible refine sT 4 ?_);refine b0a rfl _ (.tmp 4) (.tmp 57) rfl h rfl _ zs zs rfl Zc7 20 s0a HZ HZ HZ1 ?_;intro w10 K10 O10 hg10)
    | fail)
   refine bodyPost_ret (v:=.tuple #[.agg zs.toArray,.int .i64 er]) ?_ rfl (HN.out _ _ rfl (c0a Lc7.out O10.out (by omega)));exact m0a rfl _ _ h _ _ (0,0) _ rfl K10.out Tryz.underlying39 rfl (by rw[s0a];have:=HZ.out;simp[this]) rfl
  ·subst he;have HEQ:Hid (C6=r0a (.slice none 0 0) (.slice none 0 0) { q0a with lev:=q1.1,dur:=q2.1,made:=q3.1,file:=q4.1,siz:=q5.1,kind:=q6.1 }):=by
    show _=_
    rw[HC6.out,HC5.out,HC4.out,HC3.out,HC2.out,HC1.out,HZS.out];rw[HK6.out (by trivial)];rfl
   have H1C:Hid (∀v∈C6,v.oneCell'=true):=by
    show _
    rw[HEQ.out];exact J1a rfl rfl
   go_wp2_with(first
    | ((with_reducible refine sN 59 ?_);refine e0a rfl _ (.tmp 6) rfl a rfl _ C6 Kc7 20 _ Tryz.underlying39 rfl s0a HL6 ?_)
    | ((with_reducible refine sT 4 ?_);refine b0a rfl _ (.tmp 4) (.tmp 59) rfl h rfl _ zs C6 rfl Zc7 20 s0a HZ HL6 H1C ?_;intro w10 K10 O10 hg10)
    | fail)
   refine bodyPost_ret (v:=.tuple #[.agg C6.toArray,.int .i64 0]) ?_ rfl ?_
   ·exact m0a rfl _ _ h _ _ (0,0) _ rfl K10.out Tryz.underlying39 rfl (by rw[s0a];have:=HL6.out;simp[this]) rfl
   ·have LF:Below w.heap.size w w10:=c0a Lc7.out O10.out (by omega);exact HQ.out C6 (.slice none 0 0) _ _ (by trivial) rfl ⟨none,0,0,none,0,0,by rw[HEQ.out],Holds.nil _ _,d1a.nil _ _ _ _⟩ (by rw[HEQ.out];rfl) (X0a.nil _ _ _ _) LF
 ·have hge:s5a c xs=H0a xs (rdZ xs 4 rd0):=by unfold s5a;rw[if_pos hk];rcases hgr with rfl | rfl | rfl<;>rfl
  have hgo:H0a xs (rdZ xs 4 rd0)=0->o0b c xs=q0a:=λh0=>by unfold o0b;rw[hge,h0,if_pos rfl];rcases hgr with rfl | rfl | rfl<;>rfl
  obtain⟨cq,hcq⟩:∃x,x=c:=⟨_,rfl⟩;rw[show S2a w c xs=S2a w cq xs by rw[hcq]];rw[<-hcq] at HE hk hge hgo;clear hcq hc;rcases hgr with rfl | rfl | rfl
  all_goals
   have D1:Hid (∀(w':World) (g:Nat),PF w' g w.heap.size xs rd0->Calls Tryz.prog 126 #[.pointer (some ⟨g,0,none⟩),.int .i64 4] w' λe w2=>e=.returned (.tuple #[])/\PF w2 g w.heap.size xs (rdZ xs 4 rd0)/\T1a g w' w2):=λw' g h=>r6a w' g w.heap.size xs _ 4 hby h (by decide)
   have DE:Hid (∀(w':World) (g:Nat),PF w' g w.heap.size xs (rdZ xs 4 rd0)->Calls Tryz.prog 130 #[.pointer (some ⟨g,0,none⟩)] w' λe w2=>e=.returned (.int .i64 (H0a xs (rdZ xs 4 rd0)))/\w'=w2):=λw' g h=>U4a w' g w.heap.size xs _ h
   have HQ:Hid (∀(cs:List Value) (vx:Value) (e:Ending) (w':World),H0a xs (rdZ xs 4 rd0)=0->e=.returned (.tuple #[.agg cs.toArray,.int .i64 0])->n1a w' w'.heap.size cs q0a->cs[15]? = some vx->X0a .u8 5 w' w.heap.size vx (q0a).data->Below w.heap.size w w'->S2a w cq xs e w'):=by intro cs vx e w' h0 h1 h2 h3 h4 h5;have ho:=hgo h0;unfold S2a;rw[hge,h0,ho];exact⟨cs,vx,h1,h2,h3,h4,h5⟩
   have HE':=hI (HE.out _ hge);obtain⟨er,her⟩:∃x,x=H0a xs (rdZ xs 4 rd0):=⟨_,rfl⟩;rw[<-her] at DE HQ HE';obtain⟨q1,hq1⟩:∃x,x=(rdZ xs 4 rd0):=⟨_,rfl⟩;rw[<-hq1] at D1 DE;clear her hge HE hk hx hq1;go_enter Tryz.func87,Tryz.ntmps87;go_wp2_with(first
    | ((with_reducible refine sN 4 ?_);refine a0a rfl _ rfl zs _ ZH ?_;intro h w1 hg1 hg2 Z1 L1)
    | ((with_reducible refine sN 6 ?_);refine a0a rfl _ rfl zs _ ZH ?_;intro a w2 hg3 hg4 K2 L02;have Z2:=hI (Z1.out.over L02.out);have L2:=hI (step L1.out L02.out);have hha:h≠a:=(by omega);have hwa:w.heap.size<=a:=(by have:=L1.out.size;omega);have hsz2:=L2.out.size)
    | ((with_reducible refine sN 13 ?_);refine k0a rfl _ _ rfl ([.slice A n k,.int .i64 0]:List Value) (by refine Eq.trans ?_ BR;kernel_rfl) ?_)
    | ((with_reducible refine sN 7 ?_);refine a0a rfl _ rfl ([.slice none 0 0,.int .i64 0]:List Value) _ ZR ?_;intro g w3 hg5 hg6 R3 L03;have K3:=hI (K2.out.over L03.out);have Z3:=hI (Z2.out.over L03.out);have L3:=hI (step L2.out L03.out);have hag:a≠g:=(by omega);have hhg:h≠g:=(by have:=Z2.out.lt;omega);have hwg:w.heap.size<=g:=(by omega))
    | ((with_reducible refine sT 7 ?_);refine b0a rfl _ (.tmp 7) (.tmp 13) rfl g rfl _ ([.slice none 0 0,.int .i64 0]:List Value) ([.slice A n k,.int .i64 0]:List Value) rfl R3 2 j5a HR0 HR1 HR2 ?_;intro w4 R4 O4 hg7;have K4:=hI (K3.out.only O4.out hag);have Z4:=hI (Z3.out.only O4.out hhg);have L4:=hI (c0a L3.out O4.out hwg))
    | fail)
   have P4:Hid (PF w4 g w.heap.size xs rd0):=⟨Nat.zero_le _,hwg,A,n,k,R4.out,HX.out.below L4.out⟩;clear R3 L03 K2 K3 Z1 Z2 Z3 L02 L1 L2 L3 R4 O4 HX;refine(D1.out w4 g P4.out).mono ?_;rintro e v1 ⟨rfl,hP,hO⟩;have hS:=Q0a.of_only hO;have Pc1:=hI hP;have Zc1:=hI (Z4.out.save hS hhg);have Kc1:=hI (K4.out.save hS hag);have Lc1:=hI (L4.out.trans (hS.below hwg L4.out.size));clear hP hS P4 Z4 K4 L4 hO;go_wp2_with fail;refine(DE.out v1 g Pc1.out).mono ?_;rintro e v1' ⟨rfl,rfl⟩;by_cases he:er=0;rotate_left
   ·have hne:(er != 0)=true:=by simpa using he
    have HN:=hI (HE'.out he);clear he HE' HQ;go_wp2_with(first
     | ((with_reducible refine sN 57 ?_);refine x0a rfl _ rfl zs BZ ?_)
     | ((with_reducible refine sT 4 ?_);refine b0a rfl _ (.tmp 4) (.tmp 57) rfl h rfl _ zs zs rfl Zc1 20 s0a HZ HZ HZ1 ?_;intro w10 K10 O10 hg10)
     | fail)
    refine bodyPost_ret (v:=.tuple #[.agg zs.toArray,.int .i64 er]) ?_ rfl (HN.out _ _ rfl (c0a Lc1.out O10.out (by omega)));exact m0a rfl _ _ h _ _ (0,0) _ rfl K10.out Tryz.underlying39 rfl (by rw[s0a];have:=HZ.out;simp[this]) rfl
   ·subst he;have HEQ:Hid (zs=r0a (.slice none 0 0) (.slice none 0 0) q0a):=by
     show _=_
     exact HZS.out
    have H1C:Hid (∀v∈zs,v.oneCell'=true):=by
     show _
     rw[HEQ.out];exact J1a rfl rfl
    go_wp2_with(first
     | ((with_reducible refine sN 59 ?_);refine e0a rfl _ (.tmp 6) rfl a rfl _ zs Kc1 20 _ Tryz.underlying39 rfl s0a HZ ?_)
     | ((with_reducible refine sT 4 ?_);refine b0a rfl _ (.tmp 4) (.tmp 59) rfl h rfl _ zs zs rfl Zc1 20 s0a HZ HZ H1C ?_;intro w10 K10 O10 hg10)
     | fail)
    refine bodyPost_ret (v:=.tuple #[.agg zs.toArray,.int .i64 0]) ?_ rfl ?_
    ·exact m0a rfl _ _ h _ _ (0,0) _ rfl K10.out Tryz.underlying39 rfl (by rw[s0a];have:=HZ.out;simp[this]) rfl
    ·have LF:Below w.heap.size w w10:=c0a Lc1.out O10.out (by omega);exact HQ.out zs (.slice none 0 0) _ _ (by trivial) rfl ⟨none,0,0,none,0,0,by rw[HEQ.out],Holds.nil _ _,d1a.nil _ _ _ _⟩ (by rw[HEQ.out];rfl) (X0a.nil _ _ _ _) LF
 ·subst h8;have D1:Hid (∀(w':World) (g:Nat),PF w' g w.heap.size xs rd0->Calls Tryz.prog 128 #[.pointer (some ⟨g,0,none⟩)] w' λe w2=>∃v,e=.returned v/\X0a .u8 5 w2 w'.heap.size v (s8 xs).1/\PF w2 g w.heap.size xs (s8 xs).2/\Q0a g w' w2):=λw' g h=>i4b w' g w.heap.size xs _ hby h
  have DE:Hid (∀(w':World) (g:Nat),PF w' g w.heap.size xs (s8 xs).2->Calls Tryz.prog 130 #[.pointer (some ⟨g,0,none⟩)] w' λe w2=>e=.returned (.int .i64 (H0a xs (s8 xs).2))/\w'=w2):=λw' g h=>U4a w' g w.heap.size xs _ h
  have hge:s5a 8 xs=H0a xs (s8 xs).2:=by unfold s5a;rw[if_pos hk];rfl
  have HQ:Hid (∀(cs:List Value) (vx:Value) (e:Ending) (w':World),H0a xs (s8 xs).2=0->e=.returned (.tuple #[.agg cs.toArray,.int .i64 0])->n1a w' w'.heap.size cs { q0a with data:=(s8 xs).1 }->cs[15]? = some vx->X0a .u8 5 w' w.heap.size vx ({ q0a with data:=(s8 xs).1 }).data->Below w.heap.size w w'->S2a w 8 xs e w'):=by
   intro cs vx e w' h0 h1 h2 h3 h4 h5;have ho:o0b 8 xs={ q0a with data:=(s8 xs).1 }:=by unfold o0b;rw[hge,h0,if_pos rfl];rfl
   unfold S2a;rw[hge,h0,ho];exact⟨cs,vx,h1,h2,h3,h4,h5⟩
  have HE':=hI (HE.out _ hge);have DL:Hid (Bytes (s8 xs).1/\(s8 xs).1.length<=32768):=P8a hby _;obtain⟨er,her⟩:∃x,x=H0a xs (s8 xs).2:=⟨_,rfl⟩;rw[<-her] at DE HQ HE';obtain⟨q1,hq1⟩:∃x,x=(s8 xs):=⟨_,rfl⟩;rw[<-hq1] at D1 DE HQ DL;clear her hge HE hk hx hq1;go_enter Tryz.func87,Tryz.ntmps87;go_wp2_with(first
   | ((with_reducible refine sN 4 ?_);refine a0a rfl _ rfl zs _ ZH ?_;intro h w1 hg1 hg2 Z1 L1)
   | ((with_reducible refine sN 6 ?_);refine a0a rfl _ rfl zs _ ZH ?_;intro a w2 hg3 hg4 K2 L02;have Z2:=hI (Z1.out.over L02.out);have L2:=hI (step L1.out L02.out);have hha:h≠a:=(by omega);have hwa:w.heap.size<=a:=(by have:=L1.out.size;omega);have hsz2:=L2.out.size)
   | ((with_reducible refine sN 13 ?_);refine k0a rfl _ _ rfl ([.slice A n k,.int .i64 0]:List Value) (by refine Eq.trans ?_ BR;kernel_rfl) ?_)
   | ((with_reducible refine sN 7 ?_);refine a0a rfl _ rfl ([.slice none 0 0,.int .i64 0]:List Value) _ ZR ?_;intro g w3 hg5 hg6 R3 L03;have K3:=hI (K2.out.over L03.out);have Z3:=hI (Z2.out.over L03.out);have L3:=hI (step L2.out L03.out);have hag:a≠g:=(by omega);have hhg:h≠g:=(by have:=Z2.out.lt;omega);have hwg:w.heap.size<=g:=(by omega))
   | ((with_reducible refine sT 7 ?_);refine b0a rfl _ (.tmp 7) (.tmp 13) rfl g rfl _ ([.slice none 0 0,.int .i64 0]:List Value) ([.slice A n k,.int .i64 0]:List Value) rfl R3 2 j5a HR0 HR1 HR2 ?_;intro w4 R4 O4 hg7;have K4:=hI (K3.out.only O4.out hag);have Z4:=hI (Z3.out.only O4.out hhg);have L4:=hI (c0a L3.out O4.out hwg))
   | fail)
  have P4:Hid (PF w4 g w.heap.size xs rd0):=⟨Nat.zero_le _,hwg,A,n,k,R4.out,HX.out.below L4.out⟩;clear R3 L03 K2 K3 Z1 Z2 Z3 L02 L1 L2 L3 R4 O4 HX;refine(D1.out w4 g P4.out).mono ?_;rintro e v1 ⟨u1,rfl,hV,hP,hS⟩;have V1:=hI hV;have hbs1:a<w4.heap.size/\h<w4.heap.size/\w.heap.size<=w4.heap.size:=⟨K4.out.lt,Z4.out.lt,L4.out.size⟩;obtain⟨b1,hb1⟩:∃x,x=w4.heap.size:=⟨_,rfl⟩;rw[<-hb1] at V1 hbs1;obtain⟨hba1,hbh1,hbw1⟩:=hbs1;clear hV hb1;have Pc1:=hI hP;have Zc1:=hI (Z4.out.save hS hhg);have Kc1:=hI (K4.out.save hS hag);have Lc1:=hI (L4.out.trans (hS.below hwg L4.out.size));clear hP hS P4 Z4 K4 L4;go_wp2_with(first
   | ((with_reducible refine sT 44 ?_);refine d0a rfl _ (.tmp 44) (.tmp 43) rfl a 15 rfl _ zs (u1) rfl Kc1 (hI (by have:=HZ.out;omega)) (by kernel_rfl) (V4a V1.out) ?_;intro x1 Ks1 Os1 hqs1;obtain⟨C1,hC1⟩:∃x,x=zs.set 15 (u1):=⟨_,rfl⟩;have HC1:=hI hC1;have HL1:Hid (C1.length=20):=(by rw[hC1,List.length_set];exact HZ.out);rw[<-hC1] at Ks1;have Zs1:=hI (Zc1.out.only Os1.out hha);have Ps1:=hI (Pc1.out.only Os1.out (Ne.symm hag) hwa);have Ls1:=hI (c0a Lc1.out Os1.out hwa);have V1s1:=hI (V1.out.onlyAt Os1.out hba1);clear hC1)
   | fail)
  refine(DE.out x1 g Ps1.out).mono ?_;rintro e x1' ⟨rfl,rfl⟩;by_cases he:er=0;rotate_left
  ·have hne:(er != 0)=true:=by simpa using he
   have HN:=hI (HE'.out he);clear he HE' HQ;go_wp2_with(first
    | ((with_reducible refine sN 57 ?_);refine x0a rfl _ rfl zs BZ ?_)
    | ((with_reducible refine sT 4 ?_);refine b0a rfl _ (.tmp 4) (.tmp 57) rfl h rfl _ zs zs rfl Zs1 20 s0a HZ HZ HZ1 ?_;intro w10 K10 O10 hg10)
    | fail)
   refine bodyPost_ret (v:=.tuple #[.agg zs.toArray,.int .i64 er]) ?_ rfl (HN.out _ _ rfl (c0a Ls1.out O10.out (by omega)));exact m0a rfl _ _ h _ _ (0,0) _ rfl K10.out Tryz.underlying39 rfl (by rw[s0a];have:=HZ.out;simp[this]) rfl
  ·subst he;have HEQ:Hid (C1=r0a u1 (.slice none 0 0) { q0a with data:=q1.1 }):=by
    show _=_
    rw[HC1.out,HZS.out];rfl
   have H1C:Hid (∀v∈C1,v.oneCell'=true):=by
    show _
    rw[HEQ.out];exact J1a (V4a V1s1.out) rfl
   go_wp2_with(first
    | ((with_reducible refine sN 59 ?_);refine e0a rfl _ (.tmp 6) rfl a rfl _ C1 Ks1 20 _ Tryz.underlying39 rfl s0a HL1 ?_)
    | ((with_reducible refine sT 4 ?_);refine b0a rfl _ (.tmp 4) (.tmp 59) rfl h rfl _ zs C1 rfl Zs1 20 s0a HZ HL1 H1C ?_;intro w10 K10 O10 hg10)
    | fail)
   refine bodyPost_ret (v:=.tuple #[.agg C1.toArray,.int .i64 0]) ?_ rfl ?_
   ·exact m0a rfl _ _ h _ _ (0,0) _ rfl K10.out Tryz.underlying39 rfl (by rw[s0a];have:=HL1.out;simp[this]) rfl
   ·have LF:Below w.heap.size w w10:=c0a Ls1.out O10.out (by omega);have VF:=X0a.onlyAt V1s1.out O10.out hbh1;obtain⟨Ax,kx,hux,hHx⟩:=X0a.holds8 VF DL.out.1 (Nat.le_trans DL.out.2 (by decide));exact HQ.out C1 u1 _ _ (by trivial) rfl ⟨Ax,_,kx,none,0,0,by rw[HEQ.out,hux],hHx,d1a.nil _ _ _ _⟩ (by rw[HEQ.out];rfl) (VF.mono hbw1) LF
 ·subst h9;have D1:Hid (∀(w':World) (g:Nat),PF w' g w.heap.size xs rd0->Calls Tryz.prog 124 #[.pointer (some ⟨g,0,none⟩)] w' λe w2=>e=.returned (.int .u32 (s9 xs).1)/\PF w2 g w.heap.size xs (s9 xs).2/\T1a g w' w2):=λw' g h=>S5a w' g w.heap.size xs _ hby h
  have DE:Hid (∀(w':World) (g:Nat),PF w' g w.heap.size xs (s9 xs).2->Calls Tryz.prog 130 #[.pointer (some ⟨g,0,none⟩)] w' λe w2=>e=.returned (.int .i64 (H0a xs (s9 xs).2))/\w'=w2):=λw' g h=>U4a w' g w.heap.size xs _ h
  have hge:s5a 9 xs=H0a xs (s9 xs).2:=by unfold s5a;rw[if_pos hk];rfl
  have HQ:Hid (∀(cs:List Value) (vx:Value) (e:Ending) (w':World),H0a xs (s9 xs).2=0->e=.returned (.tuple #[.agg cs.toArray,.int .i64 0])->n1a w' w'.heap.size cs { q0a with n:=(s9 xs).1 }->cs[15]? = some vx->X0a .u8 5 w' w.heap.size vx ({ q0a with n:=(s9 xs).1 }).data->Below w.heap.size w w'->S2a w 9 xs e w'):=by
   intro cs vx e w' h0 h1 h2 h3 h4 h5;have ho:o0b 9 xs={ q0a with n:=(s9 xs).1 }:=by unfold o0b;rw[hge,h0,if_pos rfl];rfl
   unfold S2a;rw[hge,h0,ho];exact⟨cs,vx,h1,h2,h3,h4,h5⟩
  have HE':=hI (HE.out _ hge);obtain⟨er,her⟩:∃x,x=H0a xs (s9 xs).2:=⟨_,rfl⟩;rw[<-her] at DE HQ HE';obtain⟨q1,hq1⟩:∃x,x=(s9 xs):=⟨_,rfl⟩;rw[<-hq1] at D1 DE HQ;clear her hge HE hk hx hq1;go_enter Tryz.func87,Tryz.ntmps87;go_wp2_with(first
   | ((with_reducible refine sN 4 ?_);refine a0a rfl _ rfl zs _ ZH ?_;intro h w1 hg1 hg2 Z1 L1)
   | ((with_reducible refine sN 6 ?_);refine a0a rfl _ rfl zs _ ZH ?_;intro a w2 hg3 hg4 K2 L02;have Z2:=hI (Z1.out.over L02.out);have L2:=hI (step L1.out L02.out);have hha:h≠a:=(by omega);have hwa:w.heap.size<=a:=(by have:=L1.out.size;omega);have hsz2:=L2.out.size)
   | ((with_reducible refine sN 13 ?_);refine k0a rfl _ _ rfl ([.slice A n k,.int .i64 0]:List Value) (by refine Eq.trans ?_ BR;kernel_rfl) ?_)
   | ((with_reducible refine sN 7 ?_);refine a0a rfl _ rfl ([.slice none 0 0,.int .i64 0]:List Value) _ ZR ?_;intro g w3 hg5 hg6 R3 L03;have K3:=hI (K2.out.over L03.out);have Z3:=hI (Z2.out.over L03.out);have L3:=hI (step L2.out L03.out);have hag:a≠g:=(by omega);have hhg:h≠g:=(by have:=Z2.out.lt;omega);have hwg:w.heap.size<=g:=(by omega))
   | ((with_reducible refine sT 7 ?_);refine b0a rfl _ (.tmp 7) (.tmp 13) rfl g rfl _ ([.slice none 0 0,.int .i64 0]:List Value) ([.slice A n k,.int .i64 0]:List Value) rfl R3 2 j5a HR0 HR1 HR2 ?_;intro w4 R4 O4 hg7;have K4:=hI (K3.out.only O4.out hag);have Z4:=hI (Z3.out.only O4.out hhg);have L4:=hI (c0a L3.out O4.out hwg))
   | fail)
  have P4:Hid (PF w4 g w.heap.size xs rd0):=⟨Nat.zero_le _,hwg,A,n,k,R4.out,HX.out.below L4.out⟩;clear R3 L03 K2 K3 Z1 Z2 Z3 L02 L1 L2 L3 R4 O4 HX;refine(D1.out w4 g P4.out).mono ?_;rintro e v1 ⟨rfl,hP,hO⟩;have hS:=Q0a.of_only hO;have Pc1:=hI hP;have Zc1:=hI (Z4.out.save hS hhg);have Kc1:=hI (K4.out.save hS hag);have Lc1:=hI (L4.out.trans (hS.below hwg L4.out.size));clear hP hS P4 Z4 K4 L4 hO;go_wp2_with(first
   | ((with_reducible refine sT 48 ?_);refine d0a rfl _ (.tmp 48) (.tmp 47) rfl a 16 rfl _ zs (.int .u32 q1.1) rfl Kc1 (hI (by have:=HZ.out;omega)) (by kernel_rfl) rfl ?_;intro x1 Ks1 Os1 hqs1;obtain⟨C1,hC1⟩:∃x,x=zs.set 16 (.int .u32 q1.1):=⟨_,rfl⟩;have HC1:=hI hC1;have HL1:Hid (C1.length=20):=(by rw[hC1,List.length_set];exact HZ.out);rw[<-hC1] at Ks1;have Zs1:=hI (Zc1.out.only Os1.out hha);have Ps1:=hI (Pc1.out.only Os1.out (Ne.symm hag) hwa);have Ls1:=hI (c0a Lc1.out Os1.out hwa);clear hC1)
   | fail)
  refine(DE.out x1 g Ps1.out).mono ?_;rintro e x1' ⟨rfl,rfl⟩;by_cases he:er=0;rotate_left
  ·have hne:(er != 0)=true:=by simpa using he
   have HN:=hI (HE'.out he);clear he HE' HQ;go_wp2_with(first
    | ((with_reducible refine sN 57 ?_);refine x0a rfl _ rfl zs BZ ?_)
    | ((with_reducible refine sT 4 ?_);refine b0a rfl _ (.tmp 4) (.tmp 57) rfl h rfl _ zs zs rfl Zs1 20 s0a HZ HZ HZ1 ?_;intro w10 K10 O10 hg10)
    | fail)
   refine bodyPost_ret (v:=.tuple #[.agg zs.toArray,.int .i64 er]) ?_ rfl (HN.out _ _ rfl (c0a Ls1.out O10.out (by omega)));exact m0a rfl _ _ h _ _ (0,0) _ rfl K10.out Tryz.underlying39 rfl (by rw[s0a];have:=HZ.out;simp[this]) rfl
  ·subst he;have HEQ:Hid (C1=r0a (.slice none 0 0) (.slice none 0 0) { q0a with n:=q1.1 }):=by
    show _=_
    rw[HC1.out,HZS.out];rfl
   have H1C:Hid (∀v∈C1,v.oneCell'=true):=by
    show _
    rw[HEQ.out];exact J1a rfl rfl
   go_wp2_with(first
    | ((with_reducible refine sN 59 ?_);refine e0a rfl _ (.tmp 6) rfl a rfl _ C1 Ks1 20 _ Tryz.underlying39 rfl s0a HL1 ?_)
    | ((with_reducible refine sT 4 ?_);refine b0a rfl _ (.tmp 4) (.tmp 59) rfl h rfl _ zs C1 rfl Zs1 20 s0a HZ HL1 H1C ?_;intro w10 K10 O10 hg10)
    | fail)
   refine bodyPost_ret (v:=.tuple #[.agg C1.toArray,.int .i64 0]) ?_ rfl ?_
   ·exact m0a rfl _ _ h _ _ (0,0) _ rfl K10.out Tryz.underlying39 rfl (by rw[s0a];have:=HL1.out;simp[this]) rfl
   ·have LF:Below w.heap.size w w10:=c0a Ls1.out O10.out (by omega);exact HQ.out C1 (.slice none 0 0) _ _ (by trivial) rfl ⟨none,0,0,none,0,0,by rw[HEQ.out],Holds.nil _ _,d1a.nil _ _ _ _⟩ (by rw[HEQ.out];rfl) (X0a.nil _ _ _ _) LF
theorem K9a(c:Int)(a:m1a):i1a c a=i0a↔I6b c a=a:=by
 obtain⟨a1,a2,a3,a4,a5,a6,a7,a8,a9,a10,a11,a12,a13,a14,a15,a16,a17,a18,a19,a20,a21,a22,a23⟩:=a;unfold i1a I6b;split
 ·simp only[i0a,m1a.mk.injEq];constructor<;>(intro h;obtain⟨h1,h2,h3,h4,h5,h6,h7,h8,h9,h10,h11,h12,h13,h14,h15,h16,h17,h18,h19,h20,h21,h22,h23⟩:=h;subst_vars;simp)
 ·split
  ·simp only[i0a,m1a.mk.injEq];constructor<;>(intro h;obtain⟨h1,h2,h3,h4,h5,h6,h7,h8,h9,h10,h11,h12,h13,h14,h15,h16,h17,h18,h19,h20,h21,h22,h23⟩:=h;subst_vars;simp)
  ·split
   ·simp only[i0a,m1a.mk.injEq];constructor<;>(intro h;obtain⟨h1,h2,h3,h4,h5,h6,h7,h8,h9,h10,h11,h12,h13,h14,h15,h16,h17,h18,h19,h20,h21,h22,h23⟩:=h;subst_vars;simp)
   ·split
    ·simp only[i0a,m1a.mk.injEq];constructor<;>(intro h;obtain⟨h1,h2,h3,h4,h5,h6,h7,h8,h9,h10,h11,h12,h13,h14,h15,h16,h17,h18,h19,h20,h21,h22,h23⟩:=h;subst_vars;simp)
    ·simp only[i0a,m1a.mk.injEq];constructor<;>(intro h;obtain⟨h1,h2,h3,h4,h5,h6,h7,h8,h9,h10,h11,h12,h13,h14,h15,h16,h17,h18,h19,h20,h21,h22,h23⟩:=h;subst_vars;simp)
theorem Q8a(c:Int)(s:M1a):l1a c s=q0a↔P5b c s=s:=by
 obtain⟨a1,a2,a3,a4,a5,a6,a7,a8,a9,a10,a11,a12,a13⟩:=s;unfold l1a P5b;split
 ·simp only[q0a,M1a.mk.injEq];constructor<;>(intro h;obtain⟨h1,h2,h3,h4,h5,h6,h7,h8,h9,h10,h11,h12,h13⟩:=h;subst_vars;simp)
 ·split
  ·simp only[q0a,M1a.mk.injEq];constructor<;>(intro h;obtain⟨h1,h2,h3,h4,h5,h6,h7,h8,h9,h10,h11,h12,h13⟩:=h;subst_vars;simp)
  ·split
   ·simp only[q0a,M1a.mk.injEq];constructor<;>(intro h;obtain⟨h1,h2,h3,h4,h5,h6,h7,h8,h9,h10,h11,h12,h13⟩:=h;subst_vars;simp)
   ·exact eq_comm
theorem y0b{c:Int}{a:m1a}(h:I6a c a=0):R2a c=true/\I6b c a=a/\shut a.locks=true/\a.data.length<=32768/\a.locks.length<=16/\(c=5->y0a a.name.data.toList=0)/\t1b c a=p4a c a:=by
 have h0:=h;unfold I6a at h;by_cases h1:i8a c a=true
 ·rw[if_pos h1] at h;by_cases h2:a.data.length<=32768/\a.locks.length<=16
  ·rw[if_pos h2] at h;unfold i8a at h1;simp only[Bool.and_eq_true,decide_eq_true_eq] at h1;refine⟨h1.1,(K9a c a).1 h1.2.1,h1.2.2,h2.1,h2.2,λh5=>by rw[if_pos h5] at h;exact h,by unfold t1b;rw[if_pos h0]⟩
  ·rw[if_neg h2] at h;exact absurd h (by decide)
 ·rw[if_neg h1] at h;exact absurd h (by decide)
theorem R8a{c:Int}{s:M1a}(h:q6a c s=0):R2a c=true/\P5b c s=s/\s.made<=2/\s.kind<=2/\s.data.length<=32768/\u2b c s=M2a c s:=by
 have h0:=h;unfold q6a at h;by_cases h1:u3a c s=true/\s.made<=2/\s.kind<=2
 ·rw[if_pos h1] at h;by_cases h2:s.data.length<=32768
  ·obtain⟨h3,h4,h5⟩:=h1;unfold u3a at h3;simp only[Bool.and_eq_true,decide_eq_true_eq] at h3;exact⟨h3.1,(Q8a c s).1 h3.2,h4,h5,h2,by unfold u2b;rw[if_pos h0]⟩
  ·rw[if_neg h2] at h;exact absurd h (by decide)
 ·rw[if_neg h1] at h;exact absurd h (by decide)
theorem B5a{c:Int}(h:R2a c=true):c=5∨c=6∨c=7∨c=8∨c=9∨c=10:=by unfold R2a at h;simp at h;omega
theorem i8b{c:Int}{a:m1a}(k:a.ok):Bytes (H2a c a):=by
 unfold H2a;split
 ·split
  ·exact((F0a _ _).append (k3b _)).append k.gbyte
  ·split
   ·exact k.pbyte.append (b2a _)
   ·split
    ·exact b2a _
    ·exact Bytes.zeros 4
 ·exact Bytes.nil
theorem Z0c{c:Int}{a:m1a}(k:a.ok):(H2a c a).length<=70000:=by
 unfold H2a;split
 ·rename_i he;split
  ·rename_i h0;have hd:a.dial.length<=16:=by
    unfold k1a at he;by_cases hk:U0a c=true/\c1a c a=i0a
    ·rw[if_pos hk,if_pos h0] at he;by_cases hd:a.dial.length<=16
     ·exact hd
     ·rw[if_neg hd] at he;exact absurd he (by decide)
    ·rw[if_neg hk] at he;exact absurd he (by decide)
   unfold r3a;rw[List.length_append,List.length_append,g0a,t4a,k.glen];omega
  ·split
   ·have:=k3a a.user.data.toList;rw[List.length_append,k.plen];omega
   ·split
    ·have:=k3a a.share.data.toList;omega
    ·simp
 ·simp
theorem j8b{c:Int}{a:M1a}(k:a.ok):Bytes (L2a c a):=by
 unfold L2a;split
 ·split
  ·exact(((F0a _ _).append (Bytes.zeros 2)).append (F0a _ _)).append k.cbyte
  ·exact Bytes.zeros 4
 ·exact Bytes.nil
theorem a1c{c:Int}{a:M1a}(k:a.ok):(L2a c a).length<=70000:=by
 unfold L2a;split
 ·split
  ·simp only[List.length_append,g0a,List.length_replicate,k.clen];omega
  ·simp
 ·simp
theorem k8b(c:Int){xs:List Int}(hx:Bytes xs):(B2a c xs).ok:=by
 by_cases h:A2a c xs=0
 ·exact(X7b c hx h).2.2
 ·unfold B2a;rw[if_neg h];exact h0a
theorem l8b(c:Int){xs:List Int}(hx:Bytes xs):(K3a c xs).ok:=by
 by_cases h:t3a c xs=0
 ·exact(Y7b c hx h).2.2
 ·unfold K3a;rw[if_neg h];exact G0a
theorem w2b(c:Int)(xs:List Int):(K3a c xs).data=[]/\(K3a c xs).ents=[]:=by
 unfold K3a;split
 ·unfold L8a;split<;>exact⟨rfl,rfl⟩
 ·exact⟨rfl,rfl⟩
theorem b1c(w:World)(B:Nat)(c:Int)(xs:List Int):n1a w B (r0a (.slice none 0 0) (.slice none 0 0) (K3a c xs)) (K3a c xs):=by
 obtain⟨h1,h2⟩:=w2b c xs;refine⟨none,0,0,none,0,0,rfl,?_,?_⟩
 ·rw[h1];exact Holds.nil _ _
 ·rw[h2];exact d1a.nil _ _ _ _
theorem O6b(c:Int)(xs:List Int):(B2a c xs).data=[]/\(B2a c xs).locks=[]:=by
 unfold B2a;split
 ·unfold i7a;split
  ·exact⟨rfl,rfl⟩
  ·split
   ·exact⟨rfl,rfl⟩
   ·split<;>exact⟨rfl,rfl⟩
 ·exact⟨rfl,rfl⟩
theorem m5b(rs:List Int):(rs.flatMap enc).length<=4*rs.length:=by
 induction rs with
 | nil=>exact Nat.le_refl _
 | cons r rs ih=>rw[List.flatMap_cons,List.length_append,List.length_cons];have:=W1c (r:=r);omega
theorem U9b(rs:List Int):rs.length<=z2a rs:=by
 induction rs with
 | nil=>exact Nat.le_refl _
 | cons r rs ih=>rw[z2a,List.length_cons];split<;>omega
theorem P6b{xs:List Int}(hx:Bytes xs):(P3a xs).length<=4*xs.length:=by
 unfold P3a;cases hg:s7b xs with
 | none=>exact Nat.zero_le _
 | some rs=>
  obtain⟨h1,h2⟩:=K3b hx hg;have h3:=b5a rs;rw[h2] at h3;have h4:=U9b rs;have h5:=m5b rs;show(rs.flatMap enc).length<=_
  omega
theorem Q6b{xs:List Int}(hx:Bytes xs)(a:Int):(X1a xs a).length<=262140:=by
 unfold X1a;split
 ·have h1:=N3b hx a 512;have h2:=P6b (R6a hx a 512);omega
 ·exact Nat.zero_le _
theorem m8b(l:List UInt8):(⟨l.toArray⟩:ByteArray).size=l.length:=by simp[ByteArray.size]
theorem V9b{c:Int}{a:m1a}(k:a.ok):Bytes (t1b c a):=by
 unfold t1b;split
 ·unfold p4a;split
  ·exact(F0a _ _).append ((F0a _ _).append ((F0a _ _).append ((F0a _ _).append ((F0a _ _).append ((F0a _ _).append ((Bytes.zeros 2).append ((F0a _ _).append (b2a _))))))))
  ·split
   ·exact(F0a _ _).append ((F0a _ _).append (F0a _ _))
   ·split
    ·exact(F0a _ _).append ((F0a _ _).append ((F0a _ _).append k.data))
    ·split
     ·exact(F0a _ _).append ((F0a _ _).append ((Bytes.zeros 2).append (l7a _)))
     ·exact F0a _ _
 ·exact Bytes.nil
theorem b2c{c:Int}{a:m1a}:(t1b c a).length<=70000:=by
 unfold t1b;split
 ·rename_i he;obtain⟨_,_,_,hd,hl,_,_⟩:=y0b he;unfold p4a;split
  ·have:=k3a a.name.data.toList;simp only[List.length_append,g0a,List.length_replicate];omega
  ·split
   ·simp only[List.length_append,g0a];omega
   ·split
    ·simp only[List.length_append,g0a];omega
    ·split
     ·simp only[List.length_append,g0a,List.length_replicate,R5a];omega
     ·simp only[g0a];omega
 ·simp
theorem W9b{c:Int}{a:M1a}(k:a.ok):Bytes (u2b c a):=by
 unfold u2b;split
 ·unfold M2a;split
  ·exact(F0a _ _).append ((F0a _ _).append ((F0a _ _).append ((F0a _ _).append ((F0a _ _).append ((F0a _ _).append (Bytes.zeros 2))))))
  ·split
   ·exact(F0a _ _).append k.data
   ·split
    ·exact F0a _ _
    ·exact Bytes.zeros 4
 ·exact Bytes.nil
theorem c2c{c:Int}{a:M1a}:(u2b c a).length<=70000:=by
 unfold u2b;split
 ·rename_i he;obtain⟨_,_,_,_,hd,_⟩:=R8a he;unfold M2a;split
  ·simp only[List.length_append,g0a,List.length_replicate];omega
  ·split
   ·simp only[List.length_append,g0a];omega
   ·split
    ·simp only[g0a];omega
    ·simp
 ·simp
theorem e2a{xs:List Int}{s:Nat}{r:Rd}(hx:Bytes xs)(h:(rdN xs s r).2.e=0):r.e=0/\xs.take (rdN xs s r).2.p=xs.take r.p++le (rdN xs s r).1 s:=by obtain⟨h1,h2,_,h4⟩:=k7a hx h;refine⟨h1,?_⟩;rw[show(rdN xs s r).2.p=r.p+s from by rw[h2]];exact h4
theorem W5a{xs:List Int}{m:Nat}{r:Rd}(h:(rdZ xs m r).e=0):r.e=0/\xs.take (rdZ xs m r).p=xs.take r.p++List.replicate m 0:=by obtain⟨h1,h2,_,h4⟩:=N8a h;refine⟨h1,?_⟩;rw[show(rdZ xs m r).p=r.p+m from by rw[h2]];exact h4
theorem n8b{xs:List Int}{most:Int}{r:Rd}(hx:Bytes xs)(h:(s9a xs most r).2.e=0):r.e=0/\(s9a xs most r).1<=most/\xs.take (s9a xs most r).2.p=xs.take r.p++le (s9a xs most r).1 2:=by obtain⟨h1,h2,h3⟩:=i5b h;rw[h3];exact⟨(e2a hx h1).1,h2,(e2a hx h1).2⟩
theorem X5a{xs:List Int}{s:Nat}{most er:Int}{r:Rd}(hx:Bytes xs)(hne:er≠0)(h:(b1a xs s most er r).2.e=0):r.e=0/\(b1a xs s most er r).1<=most/\xs.take (b1a xs s most er r).2.p=xs.take r.p++le (b1a xs s most er r).1 s:=by obtain⟨h1,h2,h3⟩:=a8b hne h;rw[h3];exact⟨(e2a hx h1).1,h2,(e2a hx h1).2⟩
theorem n7a{xs:List Int}{r:Rd}(hx:Bytes xs)(h:(L1a xs r).2.e=0):r.e=0/\y0a (L1a xs r).1=0/\xs.take (L1a xs r).2.p=xs.take r.p++A0a (L1a xs r).1:=by have h1:=v2b h;rw[<-h1] at h⊢;obtain⟨t1,t2,_,t4⟩:=p6a hx h;exact⟨t1,t2,t4⟩
theorem l4b{xs:List Int}{r:Rd}(hx:Bytes xs)(h:(X3a xs r).2.e=0):r.e=0/\xs.take (X3a xs r).2.p=xs.take r.p++(le ((X3a xs r).1.length:Int) 4++(X3a xs r).1):=by obtain⟨h1,h2,_,h4,h5⟩:=E4a (show(v0a xs (b1a xs 4 32768 3 r).1.toNat (b1a xs 4 32768 3 r).2).2.e=0 from h);obtain⟨m1,m2,m3⟩:=X5a hx (by decide) h1;have m0:=d3a hx 4 32768 3 r ⟨by decide,by decide⟩ (by decide);refine⟨m1,?_⟩;rw[show(X3a xs r).2.p=(b1a xs 4 32768 3 r).2.p+(b1a xs 4 32768 3 r).1.toNat from by unfold X3a;rw[h2],h4,m3];rw[show((X3a xs r).1.length:Int)=(b1a xs 4 32768 3 r).1 from by unfold X3a;rw[h5];omega,List.append_assoc];rfl
theorem o8b{xs:List Int}{r:Rd}(hx:Bytes xs)(h:(g5a xs r).2.e=0):r.e=0/\xs.take (g5a xs r).2.p=xs.take r.p++m0b (g5a xs r).1:=by
 have h':(rdZ xs 2 (rdN xs 2 (rdN xs 8 (rdN xs 8 r).2).2).2).e=0:=h;obtain⟨z1,z2⟩:=W5a h';obtain⟨a1,a2⟩:=e2a hx z1;obtain⟨b1,b2⟩:=e2a hx a1;obtain⟨d1,d2⟩:=e2a hx b1;refine⟨d1,?_⟩;show xs.take (rdZ xs 2 (rdN xs 2 (rdN xs 8 (rdN xs 8 r).2).2).2).p=_
 rw[z2,a2,b2,d2];show _=xs.take r.p++(le (rdN xs 8 r).1 8++(le (rdN xs 8 (rdN xs 8 r).2).1 8++(le (rdN xs 2 (rdN xs 8 (rdN xs 8 r).2).2).1 2++List.replicate 2 0)))
 simp only[List.append_assoc]
theorem x2b{xs:List Int}{r:Rd}(hx:Bytes xs):∀k,(A1a xs r k).2.e=0->r.e=0/\xs.take (A1a xs r k).2.p=xs.take r.p++P1a (A1a xs r k).1
 | 0,h=>⟨h,by show xs.take r.p=xs.take r.p++[];rw[List.append_nil]⟩
 | k+1,h=>by
  have h':(g5a xs (A1a xs r k).2).2.e=0:=h;obtain⟨l1,l2⟩:=o8b hx h';obtain⟨i1,i2⟩:=x2b hx k l1;refine⟨i1,?_⟩;show xs.take (g5a xs (A1a xs r k).2).2.p=xs.take r.p++P1a ((A1a xs r k).1++[(g5a xs (A1a xs r k).2).1])
  rw[l2,i2,v1b,List.append_assoc]
theorem X9b{xs:List Int}{r:Rd}(hx:Bytes xs)(h:(J6a xs r).2.e=0):r.e=0/\(J6a xs r).1.length<=16/\xs.take (J6a xs r).2.p=xs.take r.p++(le ((J6a xs r).1.length:Int) 2++(List.replicate 2 0++P1a (J6a xs r).1)):=by
 obtain⟨l1,l2⟩:=x2b hx _ (show(A1a xs (rdZ xs 2 (b1a xs 2 16 3 r).2) (b1a xs 2 16 3 r).1.toNat).2.e=0 from h);obtain⟨z1,z2⟩:=W5a l1;obtain⟨m1,m2,m3⟩:=X5a hx (by decide) z1;have m0:=d3a hx 2 16 3 r ⟨by decide,by decide⟩ (by decide);have hl:((J6a xs r).1.length:Int)=(b1a xs 2 16 3 r).1:=by unfold J6a;rw[u1b];omega
 refine⟨m1,by omega,?_⟩;rw[hl];unfold J6a;rw[l2,z2,m3];simp only[List.append_assoc]
theorem d2c{xs:List Int}{r:Rd}(hx:Bytes xs):(∀l∈(J6a xs r).1,l.ok)/\shut (J6a xs r).1=true:=⟨K6b hx _ _,g4b _ _⟩
theorem b4{xs:List Int}(hx:Bytes xs)(r:Rd):0<=(rdN xs 4 r).1/\(rdN xs 4 r).1<=4294967295:=by have:=P4a hx 4 r 4294967296 (by decide) (by decide);exact⟨this.1,by omega⟩
theorem b1'{xs:List Int}(hx:Bytes xs)(r:Rd):0<=(rdN xs 1 r).1/\(rdN xs 1 r).1<=255:=by have:=P4a hx 1 r 256 (by decide) (by decide);exact⟨this.1,by omega⟩
theorem b8{xs:List Int}(hx:Bytes xs)(r:Rd):0<=(rdN xs 8 r).1/\(rdN xs 8 r).1<=18446744073709551615:=by have:=P4a hx 8 r 18446744073709551616 (by decide) (by decide);exact⟨this.1,by omega⟩
theorem whole{xs ys:List Int}{r:Rd}(h:xs.take r.p=ys)(h2:r.p=xs.length):ys=xs:=by rw[<-h,h2,List.take_of_length_le (Nat.le_refl _)]
theorem c1c(c:Int){xs:List Int}(hx:Bytes xs)(h:h5a c xs=0):I6a c (n0b c xs)=0/\t1b c (n0b c xs)=xs/\(n0b c xs).ok:=by
 have e0:n0b c xs=(fgP c xs).1:=by unfold n0b;rw[if_pos h]
 unfold h5a at h;by_cases hk:R2a c=true;rotate_left
 ·rw[if_neg hk] at h;exact absurd h (by decide)
 rw[if_pos hk] at h;obtain⟨h1,h2⟩:=u4a h;rw[e0];have key:∀a:m1a,I6b c a=a->shut a.locks=true->a.data.length<=32768->a.locks.length<=16->(c=5->y0a a.name.data.toList=0)->a.ok->p4a c a=xs->I6a c a=0/\t1b c a=xs/\a.ok:=by
  intro a w1 w2 w3 w4 w5 w6 w7;have e:I6a c a=0:=by
   unfold I6a i8a;rw[hk,w2,(K9a c a).2 w1];simp only[decide_true,Bool.and_self,if_true];rw[if_pos ⟨w3,w4⟩];split
   ·rename_i h5;exact w5 h5
   ·rfl
  exact⟨e,by unfold t1b;rw[if_pos e];exact w7,w6⟩
 have zd:=h0a;have hb:=P8a hx (o2 xs).2;have ho:=d2c (r:=(o1 xs).2) hx;unfold fgP at h1 h2⊢;rcases B5a hk with k5 | k6 | k7 | k8 | k9 | k10
 ·subst k5;simp only[if_true] at h1 h2⊢;obtain⟨t1,t2,t3⟩:=n7a hx h1;obtain⟨u8,v8⟩:=e2a hx t1;obtain⟨u7,v7⟩:=W5a u8;obtain⟨u6,v6⟩:=e2a hx u7;obtain⟨u5,v5⟩:=e2a hx u6;obtain⟨u4,v4⟩:=e2a hx u5;obtain⟨u3,v3⟩:=e2a hx u4;obtain⟨u2,v2⟩:=e2a hx u3;obtain⟨u1,v1⟩:=e2a hx u2;refine key _ rfl rfl (Nat.zero_le _) (Nat.zero_le _) (λ_=>t2) ⟨zd.dial,zd.glen,zd.gbyte,zd.plen,zd.pbyte,b4 hx _,b4 hx _,b4 hx _,b4 hx _,b1' hx _,b1' hx _,b8 hx _,zd.at_,zd.n,zd.data,zd.locks,zd.most,zd.cls,zd.siz⟩ ?_;refine whole (r:=(c9 xs).2) ?_ h2;show xs.take (L1a xs (c8 xs).2).2.p=le (c1 xs).1 4++(le (c2 xs).1 4++(le (c3 xs).1 4++(le (c4 xs).1 4++(le (c5 xs).1 1++(le (c6 xs).1 1++(List.replicate 2 0++(le (c8 xs).1 8++A0a (L1a xs (c8 xs).2).1)))))))
  rw[t3];show xs.take (rdN xs 8 (c7 xs)).2.p++_=_
  rw[v8];show xs.take (rdZ xs 2 (c6 xs).2).p++_++_=_
  rw[v7];show xs.take (rdN xs 1 (c5 xs).2).2.p++_++_++_=_
  rw[v6];show xs.take (rdN xs 1 (c4 xs).2).2.p++_++_++_++_=_
  rw[v5];show xs.take (rdN xs 4 (c3 xs).2).2.p++_++_++_++_++_=_
  rw[v4];show xs.take (rdN xs 4 (c2 xs).2).2.p++_++_++_++_++_++_=_
  rw[v3];show xs.take (rdN xs 4 (c1 xs).2).2.p++_++_++_++_++_++_++_=_
  rw[v2];show xs.take (rdN xs 4 rd0).2.p++_++_++_++_++_++_++_++_=_
  rw[v1,show xs.take rd0.p=[] from rfl,List.nil_append];simp only[List.append_assoc];rfl
 ·subst k6;simp only[show ¬((6:Int)=5) by decide,show ¬((6:Int)=8) by decide,show ¬((6:Int)=9) by decide,show ¬((6:Int)=10) by decide,if_false] at h1 h2⊢;obtain⟨u1,v1⟩:=e2a hx h1;refine key _ rfl rfl (Nat.zero_le _) (Nat.zero_le _) (λh=>absurd h (by decide)) ⟨zd.dial,zd.glen,zd.gbyte,zd.plen,zd.pbyte,zd.acc,zd.shr,zd.way,zd.opt,zd.lev,zd.dur,b8 hx _,zd.at_,zd.n,zd.data,zd.locks,zd.most,zd.cls,zd.siz⟩ ?_;exact whole (r:=(o1 xs).2) v1 h2
 ·subst k7;simp only[show ¬((7:Int)=5) by decide,show ¬((7:Int)=8) by decide,show ¬((7:Int)=9) by decide,show ¬((7:Int)=10) by decide,if_false] at h1 h2⊢;obtain⟨u1,v1⟩:=e2a hx h1;refine key _ rfl rfl (Nat.zero_le _) (Nat.zero_le _) (λh=>absurd h (by decide)) ⟨zd.dial,zd.glen,zd.gbyte,zd.plen,zd.pbyte,zd.acc,zd.shr,zd.way,zd.opt,zd.lev,zd.dur,b8 hx _,zd.at_,zd.n,zd.data,zd.locks,zd.most,zd.cls,zd.siz⟩ ?_;exact whole (r:=(o1 xs).2) v1 h2
 ·subst k8;simp only[show ¬((8:Int)=5) by decide,if_true,if_false] at h1 h2⊢;obtain⟨u3,v3⟩:=e2a hx h1;obtain⟨u2,v2⟩:=e2a hx u3;obtain⟨u1,v1⟩:=e2a hx u2;refine key _ rfl rfl (Nat.zero_le _) (Nat.zero_le _) (λh=>absurd h (by decide)) ⟨zd.dial,zd.glen,zd.gbyte,zd.plen,zd.pbyte,zd.acc,zd.shr,zd.way,zd.opt,zd.lev,zd.dur,b8 hx _,b8 hx _,b4 hx _,zd.data,zd.locks,zd.most,zd.cls,zd.siz⟩ ?_;refine whole (r:=(o3 xs).2) ?_ h2;show xs.take (rdN xs 4 (o2 xs).2).2.p=le (o1 xs).1 8++(le (o2 xs).1 8++le (o3 xs).1 4)
  rw[v3];show xs.take (rdN xs 8 (o1 xs).2).2.p++_=_
  rw[v2];show xs.take (rdN xs 8 rd0).2.p++_++_=_
  rw[v1,show xs.take rd0.p=[] from rfl,List.nil_append];simp only[List.append_assoc];rfl
 ·subst k9;simp only[show ¬((9:Int)=5) by decide,show ¬((9:Int)=8) by decide,if_true,if_false] at h1 h2⊢;obtain⟨u3,v3⟩:=l4b hx h1;obtain⟨u2,v2⟩:=e2a hx u3;obtain⟨u1,v1⟩:=e2a hx u2;refine key _ rfl rfl hb.2 (Nat.zero_le _) (λh=>absurd h (by decide)) ⟨zd.dial,zd.glen,zd.gbyte,zd.plen,zd.pbyte,zd.acc,zd.shr,zd.way,zd.opt,zd.lev,zd.dur,b8 hx _,b8 hx _,zd.n,hb.1,zd.locks,zd.most,zd.cls,zd.siz⟩ ?_;refine whole (r:=(o4 xs).2) ?_ h2;show xs.take (X3a xs (o2 xs).2).2.p=le (o1 xs).1 8++(le (o2 xs).1 8++(le ((X3a xs (o2 xs).2).1.length:Int) 4++(X3a xs (o2 xs).2).1))
  rw[v3];show xs.take (rdN xs 8 (o1 xs).2).2.p++_=_
  rw[v2];show xs.take (rdN xs 8 rd0).2.p++_++_=_
  rw[v1,show xs.take rd0.p=[] from rfl,List.nil_append];simp only[List.append_assoc];rfl
 ·subst k10;simp only[show ¬((10:Int)=5) by decide,show ¬((10:Int)=8) by decide,show ¬((10:Int)=9) by decide,if_true,if_false] at h1 h2⊢;obtain⟨u3,v0,v3⟩:=X9b hx h1;obtain⟨u1,v1⟩:=e2a hx u3;refine key _ rfl ho.2 (Nat.zero_le _) v0 (λh=>absurd h (by decide)) ⟨zd.dial,zd.glen,zd.gbyte,zd.plen,zd.pbyte,zd.acc,zd.shr,zd.way,zd.opt,zd.lev,zd.dur,b8 hx _,zd.at_,zd.n,zd.data,ho.1,zd.most,zd.cls,zd.siz⟩ ?_;refine whole (r:=(o5 xs).2) ?_ h2;show xs.take (J6a xs (o1 xs).2).2.p=le (o1 xs).1 8++(le ((J6a xs (o1 xs).2).1.length:Int) 2++(List.replicate 2 0++P1a (J6a xs (o1 xs).2).1))
  rw[v3];show xs.take (rdN xs 8 rd0).2.p++_=_
  rw[v1,show xs.take rd0.p=[] from rfl,List.nil_append];rfl
theorem p8b(c:Int){xs:List Int}(hx:Bytes xs)(h:s5a c xs=0):q6a c (o0b c xs)=0/\u2b c (o0b c xs)=xs/\(o0b c xs).ok:=by
 have e0:o0b c xs=(sgP c xs).1:=by unfold o0b;rw[if_pos h]
 unfold s5a at h;by_cases hk:R2a c=true;rotate_left
 ·rw[if_neg hk] at h;exact absurd h (by decide)
 rw[if_pos hk] at h;have hend:=h;obtain⟨h1,h2⟩:=u4a h;rw[e0];have key:∀a:M1a,P5b c a=a->a.made<=2->a.kind<=2->a.data.length<=32768->a.ok->M2a c a=xs->q6a c a=0/\u2b c a=xs/\a.ok:=by
  intro a w1 w2 w3 w4 w6 w7;have e:q6a c a=0:=by unfold q6a u3a;rw[hk,(Q8a c a).2 w1];rw[if_pos ⟨by simp,w2,w3⟩,if_pos w4]
  exact⟨e,by unfold u2b;rw[if_pos e];exact w7,w6⟩
 have zd:=G0a;have hb:=P8a hx rd0;unfold sgP at h1 h2 hend⊢;rcases B5a hk with k5 | k6 | k7 | k8 | k9 | k10
 ·subst k5;simp only[if_true] at h1 h2 hend⊢;obtain⟨m1,m2⟩:=R5b hend;obtain⟨u7,v7⟩:=W5a h1;obtain⟨u6,w6,v6⟩:=n8b hx u7;obtain⟨u5,v5⟩:=e2a hx u6;obtain⟨u4,v4⟩:=e2a hx u5;obtain⟨u3,w3,v3⟩:=n8b hx u4;obtain⟨u2,v2⟩:=e2a hx u3;obtain⟨u1,v1⟩:=e2a hx u2;have q3:=h5b hx 2 (s2 xs).2;have q6:=h5b hx 2 (s5 xs).2;refine key _ rfl m1 m2 (Nat.zero_le _) ⟨zd.dia,b8 hx _,zd.clen,zd.cbyte,b1' hx _,b1' hx _,q3,b8 hx _,⟨q6.1,by show(s6 xs).1<=255;omega⟩,zd.data,zd.n,zd.ents⟩ ?_;refine whole (r:=s7 xs) ?_ h2;show xs.take (rdZ xs 2 (s6 xs).2).p=le (s1 xs).1 1++(le (s2 xs).1 1++(le (s3 xs).1 2++(le (s4 xs).1 8++(le (s5 xs).1 8++(le (s6 xs).1 2++List.replicate 2 0)))))
  rw[v7];show xs.take (s9a xs 2 (s5 xs).2).2.p++_=_
  rw[v6];show xs.take (rdN xs 8 (s4 xs).2).2.p++_++_=_
  rw[v5];show xs.take (rdN xs 8 (s3 xs).2).2.p++_++_++_=_
  rw[v4];show xs.take (s9a xs 2 (s2 xs).2).2.p++_++_++_++_=_
  rw[v3];show xs.take (rdN xs 1 (s1 xs).2).2.p++_++_++_++_++_=_
  rw[v2];show xs.take (rdN xs 1 rd0).2.p++_++_++_++_++_++_=_
  rw[v1,show xs.take rd0.p=[] from rfl,List.nil_append];simp only[List.append_assoc];rfl
 ·subst k6;simp only[show ¬((6:Int)=5) by decide,show ¬((6:Int)=8) by decide,show ¬((6:Int)=9) by decide,if_false] at h1 h2⊢;obtain⟨u1,v1⟩:=W5a h1;exact key _ rfl (by decide) (by decide) (Nat.zero_le _) zd (whole (r:=rdZ xs 4 rd0) v1 h2)
 ·subst k7;simp only[show ¬((7:Int)=5) by decide,show ¬((7:Int)=8) by decide,show ¬((7:Int)=9) by decide,if_false] at h1 h2⊢;obtain⟨u1,v1⟩:=W5a h1;exact key _ rfl (by decide) (by decide) (Nat.zero_le _) zd (whole (r:=rdZ xs 4 rd0) v1 h2)
 ·subst k8;simp only[show ¬((8:Int)=5) by decide,if_true,if_false] at h1 h2⊢;obtain⟨u1,v1⟩:=l4b hx h1;refine key _ rfl (show(0:Int)<=2 by decide) (show(0:Int)<=2 by decide) hb.2 ⟨zd.dia,zd.siz,zd.clen,zd.cbyte,zd.lev,zd.dur,zd.made,zd.file,zd.kind,hb.1,zd.n,zd.ents⟩ ?_;exact whole (r:=(s8 xs).2) v1 h2
 ·subst k9;simp only[show ¬((9:Int)=5) by decide,show ¬((9:Int)=8) by decide,if_true,if_false] at h1 h2⊢;obtain⟨u1,v1⟩:=e2a hx h1;refine key _ rfl (show(0:Int)<=2 by decide) (show(0:Int)<=2 by decide) (Nat.zero_le _) ⟨zd.dia,zd.siz,zd.clen,zd.cbyte,zd.lev,zd.dur,zd.made,zd.file,zd.kind,zd.data,b4 hx _,zd.ents⟩ ?_;exact whole (r:=(s9 xs).2) v1 h2
 ·subst k10;simp only[show ¬((10:Int)=5) by decide,show ¬((10:Int)=8) by decide,show ¬((10:Int)=9) by decide,if_false] at h1 h2⊢;obtain⟨u1,v1⟩:=W5a h1;exact key _ rfl (by decide) (by decide) (Nat.zero_le _) zd (whole (r:=rdZ xs 4 rd0) v1 h2)
theorem d1c(c:Int){xs:List Int}(hx:Bytes xs):(n0b c xs).ok:=by
 by_cases h:h5a c xs=0
 ·exact(c1c c hx h).2.2
 ·unfold n0b;rw[if_neg h];exact h0a
theorem e1c(c:Int){xs:List Int}(hx:Bytes xs):(o0b c xs).ok:=by
 by_cases h:s5a c xs=0
 ·exact(p8b c hx h).2.2
 ·unfold o0b;rw[if_neg h];exact G0a
theorem R6b(c:Int){xs:List Int}(hx:Bytes xs):(o0b c xs).data.length<=32768/\(o0b c xs).ents.length<=0:=by
 by_cases h:s5a c xs=0
 ·obtain⟨h1,_,_⟩:=p8b c hx h;obtain⟨_,_,_,_,hd,_⟩:=R8a h1;refine⟨hd,?_⟩;unfold o0b;rw[if_pos h];unfold sgP;repeat' split
  all_goals exact Nat.zero_le _
 ·unfold o0b;rw[if_neg h];exact⟨Nat.zero_le _,Nat.zero_le _⟩
def T2c(k:Nat)(r r':Rd):Prop:=(r'=r/\r.p<=k/\r.e=0)∨r'.e=4
theorem T2c.start(k:Nat):T2c k rd0 rd0:=.inl ⟨rfl,Nat.zero_le _,rfl⟩
end Go.Proofs.YtgfflnjggnadpaaGreatDoor
