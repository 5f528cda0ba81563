import Derived.Test.YtpodpmckdiijhaaGreatDoorZAC
import Derived.Test.YtpodpmckdiijhaaGreatDoorS0
set_option linter.all false
set_option maxHeartbeats 8000000
set_option maxRecDepth 100000
namespace Go.Proofs.YtpodpmckdiijhaaGreatDoor
open Go.RowKit
set_option maxRecDepth 100000
abbrev s5a(w:World)(base:Nat)(v:Value)(xs:List Int):Prop:=P0a .u8 5 w base v xs
theorem P0a.own8{w:World}{base:Nat}{v:Value}{xs:List Int}(h:P0a .u8 5 w base v xs):Own w base v xs:=h.own
theorem P0a.holds8{w:World}{base:Nat}{v:Value}{xs:List Int}(h:P0a .u8 5 w base v xs)(hx:Bytes xs)(hn:xs.length≤281474976710656) :
  ∃A c,v=.slice A xs.length c∧Holds w w.heap.size A xs.length c xs:=h.own8.holds hx hn
theorem C1a.ownB{w:World}{base n:Nat}{A:Option Addr}{xs:List Int}(h:C1a w base A xs)(hl:xs.length=n)(hn:n≤281474976710656):P0a .u8 5 w base (.slice A n n) xs:=by
 rcases h with⟨rfl,rfl⟩ | ⟨g,rfl,hb,hr⟩
 ·obtain rfl:n=0:=hl.symm;exact P0a.nil _ _ _ _
 ·refine .inr ⟨g,0,by rw[hl,Nat.add_zero],hb,by unfold maxLen;omega,?_⟩;rw[List.replicate_zero,List.append_nil];exact hr
theorem l5a{w:World}{g base n:Nat}(h:Row w g (List.replicate n 0))(hb:base≤g)(hn:n≤281474976710656):P0a .u8 5 w base (.slice (some ⟨g,0,none⟩) n n) (List.replicate n 0):=C1a.ownB (.inr ⟨g,rfl,hb,h⟩) (by simp) hn
def E4a(w:World)(xs:List Int)(e:Ending)(w':World):Prop:=∃v,e=.returned (.tuple #[v,.int .i64 (p1b xs.length)])∧s5a w' w.heap.size v (rowOf xs)∧Below w.heap.size w w'
def z3a(w:World)(l:List UInt8)(e:Ending)(w':World):Prop:=∃v,e=.returned (.tuple #[v,.int .i64 (B0a l)])∧s5a w' w.heap.size v (N0a l)∧Below w.heap.size w w'
def m5a(w:World)(a:z1a)(e:Ending)(w':World):Prop:=∃v,e=.returned (.tuple #[v,.int .i64 (if a.dial.length≤16 then 0 else 3)])∧s5a w' w.heap.size v (if a.dial.length≤16 then r6a a else [])∧Below w.heap.size w w'
def u2a(w:World)(c:Int)(a:z1a)(e:Ending)(w':World):Prop:=∃v,e=.returned (.tuple #[v,.int .i64 (v1a c a)])∧s5a w' w.heap.size v (u3a c a)∧Below w.heap.size w w'
def j3a(w:World)(c:Int)(s:W1a)(e:Ending)(w':World):Prop:=∃v,e=.returned (.tuple #[v,.int .i64 (M1a c s)])∧s5a w' w.heap.size v (c4a c s)∧Below w.heap.size w w'
theorem i4b(w:World)(A:Option Addr)(n c:Nat)(xs:List Int)(h:Holds w w.heap.size A n c xs) :
  Calls Tryz.prog 195 #[.slice A n c] w (E4a w xs):=by
 have hl:=h.len;have hr:=h.room;have hf:=h.fit;have C1:=j7a w (n:Int) 2 (by omega) (by omega);unfold C4a at C1;have hz:IntKind.u64.wrap (n:Int)=n:=by rw[IntKind.wrap_u64];omega
 by_cases hn:n≤65535
 ·obtain⟨e0,e1⟩:=J8b n hn;rw[e0,e1,w0a] at C1;have HQ:Hid (∀e w',(∃v,e=.returned (.tuple #[v,.int .i64 0])∧s5a w' w.heap.size v (le n 2++xs)∧Below w.heap.size w w')→E4a w xs e w'):=by intro e w' hh;unfold E4a p1b rowOf;rw[hl,if_pos hn,if_pos hn];exact hh
  have HLB:Hid (Bytes (le (n:Int) 2)):=F0a _ _;have HLL:Hid ((le (n:Int) 2).length=2):=w0a _ _;obtain⟨ls,hls⟩:∃ls,ls=le (n:Int) 2:=⟨_,rfl⟩;rw[←hls] at C1 HQ HLB HLL;have C1':=hI C1;have HX:=hI h;clear C1 hls e0 e1 h hl;go_enter Tryz.func195,Tryz.ntmps195;go_wp2_with fail;refine C1'.out.mono ?_;rintro e w1 ⟨A',rfl,hfr,L1⟩;have H1:=hI (hfr.holds (n:=2) HLL.out HLB.out (by omega));have HX1:=hI (HX.out.over L1);have M1:=hI L1;clear hfr L1 C1' HX;go_wp2_with(first
   | ((with_reducible apply sN 17);refine G2a rfl 2 _ rfl [(A',2,2,ls),(A,n,c,xs)] rfl (by kernel_rfl) (List.forall_mem_cons.2 ⟨H1.out,List.forall_mem_cons.2 ⟨HX1.out,λ_ h=>by cases h⟩⟩) ?_;intro g2 w2 P2 b2))
  refine(R2a _ g2 2 _ _ _ _ P2.out (by omega) (by show 0+2+n≤_;omega)).mono ?_;rintro e w3 ⟨v,rfl,ho,L3⟩;have HO:=hI ho;have L3':=hI L3;clear ho L3;go_wp2;go_ret2;refine HQ.out _ _ ⟨_,rfl,?_,step (step M1.out b2.out) L3'.out⟩;have:=HO.out.mono (base':=w.heap.size) (step M1.out b2.out).size;simpa[Q3a,o1a] using this
 ·obtain⟨e1,e0⟩:=V8b n hn;rw[e0,e1] at C1;have HQ:Hid (∀e w',(∃v,e=.returned (.tuple #[v,.int .i64 3])∧s5a w' w.heap.size v []∧Below w.heap.size w w')→E4a w xs e w'):=by intro e w' hh;unfold E4a p1b rowOf;rw[hl,if_neg hn,if_neg hn];exact hh
  have C1':=hI C1;clear C1 e0 e1 h hl;go_enter Tryz.func195,Tryz.ntmps195;go_wp2_with fail;refine C1'.out.mono ?_;rintro e w1 ⟨A',rfl,hfr,L1⟩;clear hfr C1';go_wp2;go_ret2;exact HQ.out _ _ ⟨_,rfl,P0a.nil _ _ _ _,L1⟩
theorem V4a(s:ByteArray)(w:World)(hs:s.size≤17592186044416)(hT:K7a w) :
  Calls Tryz.prog 141 #[.string s] w (z3a w s.data.toList):=by
 have C1:=M7b s w hs hT;unfold c2b at C1;obtain⟨l,hl⟩:∃l,l=s.data.toList:=⟨_,rfl⟩;rw[←hl] at C1⊢;have hlen:(v2a l).length≤4*s.size:=by
  rw[hl];have:=a2b s.data.toList;have:=T9a s.data.toList;have e:s.data.toList.length=s.size:=by rw[Array.length_toList];rfl
  omega
 have HBY:=hI (S9a l);by_cases ht:h3a l=0;rotate_left
 ·have HQ:Hid (∀e w',e=.returned (.tuple #[.slice none 0 0,.int .i64 (h3a l)])→Below w.heap.size w w'→z3a w l e w'):=by intro e w' he hb;unfold z3a N0a B0a;rw[if_neg ht,if_neg ht];exact⟨_,he,P0a.nil _ _ _ _,hb⟩
  have hne:(h3a l != 0)=true:=by simpa using ht
  obtain⟨er,her⟩:∃er,er=h3a l:=⟨_,rfl⟩;obtain⟨ys,hys⟩:∃ys,ys=v2a l:=⟨_,rfl⟩;rw[←her] at HQ C1 hne;rw[←hys] at C1;have C1':=hI C1;clear C1 her ht hl hlen HBY hys;go_enter Tryz.func141,Tryz.ntmps141;go_wp2_with fail;refine C1'.out.mono ?_;rintro e w1 ⟨v,rfl,ho,L1⟩;have ho':Own w1 w.heap.size v ys:=ho.own;obtain⟨Av,cv,rfl⟩:=ho'.len;clear ho';go_wp2;go_ret2;exact HQ.out _ _ rfl L1
 rw[ht] at C1;by_cases hm:(v2a l).length≤512
 ·have HQ:Hid (∀e w',(∃v,e=.returned (.tuple #[v,.int .i64 (p1b (v2a l).length)])∧s5a w' w.heap.size v (rowOf (v2a l))∧Below w.heap.size w w')→z3a w l e w'):=by
   intro e w' hh;have e0:B0a l=0:=by unfold B0a;rw[if_pos ht,if_pos hm]
   unfold z3a N0a;rw[e0,if_pos rfl];unfold p1b at hh
   rwa [if_pos (by omega:(v2a l).length≤65535)] at hh
  have CR:Hid (∀(w:World) (A:Option Addr) (n c:Nat),Holds w w.heap.size A n c (v2a l)→Calls Tryz.prog 195 #[.slice A n c] w (E4a w (v2a l))):=λw A n c hh=>i4b w A n c _ hh
  unfold E4a at CR;obtain⟨er,her⟩:∃er,er=p1b (v2a l).length:=⟨_,rfl⟩;obtain⟨rs,hrs⟩:∃rs,rs=rowOf (v2a l):=⟨_,rfl⟩;rw[←her,←hrs] at HQ CR;obtain⟨ys,hys⟩:∃ys,ys=v2a l:=⟨_,rfl⟩;rw[←hys] at C1 CR HBY hm;obtain⟨m,hm'⟩:∃m,m=ys.length:=⟨_,rfl⟩;have HM:=hI hm';rw[←hm'] at hm;have C1':=hI C1;clear C1 her hrs ht hl hlen hys hm';go_enter Tryz.func141,Tryz.ntmps141;go_wp2_with fail;refine C1'.out.mono ?_;rintro e w1 ⟨v,rfl,ho,L1⟩;have ho':Own w1 w.heap.size v ys:=ho.own;obtain⟨Av,cv,rfl,hh⟩:=ho'.holds HBY.out (by have:=HM.out;omega);rw[←HM.out] at hh⊢;have HH:=hI hh;have M1:=hI L1;clear ho ho' hh L1 C1';go_wp2_with fail;refine(CR.out _ _ _ _ HH.out).mono ?_;rintro e w2 ⟨v,rfl,ho,L2⟩;have HO:=hI ho;have L2':=hI L2;clear ho L2;go_wp2;go_ret2;exact HQ.out _ _ ⟨_,rfl,HO.out.mono M1.out.size,step M1.out L2'.out⟩
 ·have HQ:Hid (∀e w',e=.returned (.tuple #[.slice none 0 0,.int .i64 3])→Below w.heap.size w w'→z3a w l e w'):=by intro e w' he hb;unfold z3a N0a B0a;rw[if_pos ht,if_neg hm];exact⟨_,he,P0a.nil _ _ _ _,hb⟩
  obtain⟨ys,hys⟩:∃ys,ys=v2a l:=⟨_,rfl⟩;rw[←hys] at C1 HBY hm hlen;obtain⟨m,hm'⟩:∃m,m=ys.length:=⟨_,rfl⟩;have HM:=hI hm';rw[←hm'] at hm hlen;have C1':=hI C1;clear C1 ht hl hys hm';go_enter Tryz.func141,Tryz.ntmps141;go_wp2_with fail;refine C1'.out.mono ?_;rintro e w1 ⟨v,rfl,ho,L1⟩;have ho':Own w1 w.heap.size v ys:=ho.own;obtain⟨Av,cv,rfl,hh⟩:=ho'.holds HBY.out (by have:=HM.out;omega);rw[←HM.out];clear ho ho' hh C1';go_wp2;go_ret2;exact HQ.out _ _ rfl L1
theorem u2b(w:World)(cs:List Value)(a:z1a)(ka:a.ok)(ha:j1a w w.heap.size cs a) :
  Calls Tryz.prog 140 #[.agg cs.toArray] w (m5a w a):=by
 obtain⟨D1,D2,D3,X1,X2,X3,M1,M2,M3,rfl,hD,hX,hM⟩:=ha;have hl:=hD.len;have FA:Hid (∀(w:World) (g:Nat),Blk w g 34 (o0a (.slice D1 D2 D3) (.slice X1 X2 X3) (.slice M1 M2 M3) a)→w.cell? ⟨g,0,none⟩=some (.slice D1 D2 D3)):=λw g h=>h.at rfl
 have RG:Hid (∀(w:World) (g:Nat),Blk w g 34 (o0a (.slice D1 D2 D3) (.slice X1 X2 X3) (.slice M1 M2 M3) a)→Holds w w.heap.size (some ⟨g,1,none⟩) 16 16 a.guid):=λw g h=>U2b ka h
 have HDB:=hI ka.dial;have HGL:=hI ka.glen;obtain⟨cs,hcs⟩:∃c,c=o0a (.slice D1 D2 D3) (.slice X1 X2 X3) (.slice M1 M2 M3) a:=⟨_,rfl⟩;rw[←hcs] at FA RG⊢;clear hcs hX hM ka;by_cases hn:D2≤16;rotate_left
 ·have HQ:Hid (∀e w',e=.returned (.tuple #[.slice none 0 0,.int .i64 3])→Below w.heap.size w w'→m5a w a e w'):=by intro e w' he hb;unfold m5a;rw[hl,if_neg hn,if_neg hn];exact⟨_,he,P0a.nil _ _ _ _,hb⟩
  have hn':16<D2:=by omega
  clear hl hD;go_enter Tryz.func140,Tryz.ntmps140;go_wp2_with(first
   | ((with_reducible apply sN 1);refine g0a rfl _ (.tmp 0) rfl cs rfl ?_;intro g w1 hg1 hg2 K1 L1;have gd:=FA.out _ _ K1.out))
  go_ret2;exact HQ.out _ _ rfl L1.out
 have HQ:Hid (∀e w',(∃v,e=.returned (.tuple #[v,.int .i64 0])∧s5a w' w.heap.size v (le D2 2++B2a a.dial++a.guid)∧Below w.heap.size w w')→m5a w a e w'):=by intro e w' hh;unfold m5a r6a;rw[hl,if_pos hn,if_pos hn];exact hh
 have HDL:=hI hl;have HD:=hI hD;have HF:=hI hD.fit;have hz:IntKind.u64.wrap (D2:Int)=D2:=by rw[IntKind.wrap_u64];omega
 obtain⟨ds,hds⟩:∃d,d=a.dial:=⟨_,rfl⟩;obtain⟨gs,hgs⟩:∃d,d=a.guid:=⟨_,rfl⟩;rw[←hds] at HQ HDL HD HDB;rw[←hgs] at HQ RG HGL;clear hl hD hds hgs;go_enter Tryz.func140,Tryz.ntmps140;go_wp2_with(first
  | ((with_reducible apply sN 1);refine g0a rfl _ (.tmp 0) rfl cs rfl ?_;intro g w1 hg1 hg2 K1 L1;have gd:=FA.out _ _ K1.out))
 refine(q0b w1 (D2:Int) (by omega) (by omega)).mono ?_;rintro e w2 ⟨A',rfl,hf2,L2⟩;have gd2:=FA.out _ _ (K1.out.over L2);have HO2:=hI (hf2.ownB (n:=2) (by rw[w0a]) (by omega));have M2:=hI L2;have hs2:=L2.size;clear gd hf2 L2;go_wp2;go_loopw [4,19] (λv i wr=>∃j:Nat,i=.int .i64 j∧j≤D2∧Hid (s5a wr w1.heap.size v (le D2 2++B2a (ds.take j)))∧Hid (Below w1.heap.size w1 wr)) (λ_ i _=>D2-(intOf i).toNat)
 case atStart=>exact⟨0,rfl,Nat.zero_le _,(by show s5a _ _ _ _;simpa[B2a] using HO2.out),M2⟩
 case round=>
  obtain⟨j,rfl,hj,HO,HL⟩:=hrel;have hsr:=HL.out.size;by_cases hlt:j<D2
  ·have HDr:=HD.out.over (step L1.out HL.out);have hft:=HF.out;obtain⟨b,off,rfl,hb,hc⟩:=HDr.cells (by omega);obtain⟨x,hx⟩:∃x,ds[j]? = some x:=⟨_,List.getElem?_eq_getElem (by have:=HDL.out;omega)⟩;have gc:=hc j x hx;obtain⟨x0,x1⟩:=HDB.out x (List.mem_of_getElem? hx);have E1:Hid (le D2 2++B2a (ds.take (j+1))=le D2 2++B2a (ds.take j)++le x 2):=by
    show _=_
    rw[List.take_add_one,hx,Option.toList_some,V8a,List.append_assoc]
   have HLEN:Hid ((le (D2:Int) 2++B2a (ds.take j)).length+(le x 2).length≤140737488355328):=by
    show _≤_
    rw[List.length_append,w0a,w0a,o7a,List.length_take];omega
   have HXB:Hid (Bytes (le x 2)):=F0a _ _;have HXL:Hid ((le x 2).length=2):=w0a _ _;have hxz:IntKind.u64.wrap x=x:=by rw[IntKind.wrap_u64];omega
   obtain⟨P,hP⟩:∃P,P=le (D2:Int) 2++B2a (ds.take j):=⟨_,rfl⟩;rw[←hP] at E1 HLEN HO;have CN:Hid (∀w:World,Calls Tryz.prog 149 #[.int .u64 x,.int .i64 2] w λe w'=>∃A',e=.returned (.slice A' 2 2)∧C1a w' w.heap.size A' (le x 2)∧Below w.heap.size w w'):=λw=>q0b w x x0 x1
   obtain⟨lx,hlx⟩:∃P,P=le x 2:=⟨_,rfl⟩;rw[←hlx] at E1 HLEN HXB HXL CN;clear hc hx hP hlx HDr;go_wp2_with fail;refine(CN.out wr).mono ?_;rintro e w3 ⟨A3,rfl,hf3,L3⟩;have HH:=hI (hf3.holds HXL.out HXB.out (by omega));have HO3:=hI (HO.out.below L3);have M3:=hI (HL.out.trans (L3.mono hsr));have hs3:=M3.out.size;clear hf3 L3 HO CN gc;go_wp2_with(first
    | (at_builtin;refine E2a rfl (.tmp 23) (.tmp 26) rfl w1.heap.size _ P rfl HO3.out w3.heap.size A3 2 2 lx rfl HH.out HLEN.out hs3 ?_;intro v4 w4 ho4 hb4))
   have HO4:Hid (s5a w4 w1.heap.size v4 (le D2 2++B2a (ds.take (j+1)))):=by rw[E1.out];exact ho4.out
   have M4:=hI (M3.out.trans hb4);clear ho4 hb4 HH HO3 M3;go_wp2;go_roundw
   case rel=>exact⟨j+1,by go_num,hlt,HO4,M4⟩
   case measure=>simp[intOf];omega
  ·obtain rfl:j=D2:=by omega
   have HO5:Hid (s5a wr w1.heap.size u4 (le (j:Int) 2++B2a ds)):=by
    have h:=HO.out
    rwa [List.take_of_length_le (by have:=HDL.out;omega)] at h
   have HG:=hI (RG.out _ _ (K1.out.over HL.out));have HLEN:Hid ((le (j:Int) 2++B2a ds).length+gs.length≤140737488355328):=by
    show _≤_
    have h1:=HGL.out;have h2:=HDL.out;rw[List.length_append,w0a,o7a];omega
   have hs1:=L1.out.size;obtain⟨P,hP⟩:∃P,P=le (j:Int) 2++B2a ds:=⟨_,rfl⟩;rw[←hP] at HO5 HLEN HQ;clear HO hP;go_wp2_with(first
    | (at_builtin;refine E2a rfl (.tmp 29) (.tmp 31) rfl w1.heap.size _ P rfl HO5.out wr.heap.size (some ⟨g,1,none⟩) 16 16 gs rfl HG.out HLEN.out hsr ?_;intro v4 w4 ho4 hb4))
   go_ret2;exact HQ.out _ _ ⟨_,rfl,ho4.out.mono hs1,L1.out.trans ((HL.out.trans hb4).mono hs1)⟩
theorem D5a(w:World)(c:Int)(cs:List Value)(a:z1a)(hc:0≤c∧c≤65535)(ka:a.ok)(ha:j1a w w.heap.size cs a)(hu:a.user.size≤17592186044416∧a.share.size≤17592186044416)(hT:K7a w) :
  Calls Tryz.prog 103 #[.int .u16 c,.agg cs.toArray] w (u2a w c a):=by
 have HL:=hI (ha.len ka);have HO1:=hI ha.one;have ZH:=hI Q7a;have HZ:Hid ((o0a (.slice none 0 0) (.slice none 0 0) (.slice none 0 0) j0a).length=69):=P1a h0a;have HA:=hI ha;have HT:=hI hT;obtain⟨hu0,hu1⟩:=hu;have CB:Hid (∀w':World,Below w.heap.size w w'→Calls Tryz.prog 138 #[.int .u16 c,.agg cs.toArray] w' λe w2=>∃ds,e=.returned (.tuple #[.agg ds.toArray,.bool (W0a c)])∧j1a w2 w2.heap.size ds (if W0a c=true then g1a c a else j0a)∧Below w'.heap.size w' w2):=λw' hb=>l2b w' c cs a hc ka (ha.over hb)
 obtain⟨zs,hzs⟩:∃zs,zs=o0a (.slice none 0 0) (.slice none 0 0) (.slice none 0 0) j0a:=⟨_,rfl⟩;rw[←hzs] at ZH HZ;clear hzs;by_cases hk:W0a c=true;rotate_left
 ·have hk':W0a c=false:=by simpa using hk
  have HQ:Hid (∀e w',e=.returned (.tuple #[.slice none 0 0,.int .i64 2])→Below w.heap.size w w'→u2a w c a e w'):=by
   intro e w' he hb;have h2:v1a c a=2:=by unfold v1a;rw[if_neg (λh=>hk h.1)]
   unfold u2a u3a;rw[h2,if_neg (by decide)];exact⟨_,he,P0a.nil _ _ _ _,hb⟩
  rw[if_neg hk,hk'] at CB;have kb:=h0a;clear hk hk' HA ka ha;go_enter Tryz.func103,Tryz.ntmps103;go_wp2_with(first
   | ((with_reducible apply sN 3);refine g0a rfl _ (.tmp 1) rfl cs rfl ?_;intro g w1 hg1 hg2 K1 L1)
   | ((with_reducible apply sN 12);refine f0a rfl _ (.tmp 3) rfl g rfl _ cs K1 69 _ Tryz.underlying34 rfl p0a HL ?_))
  refine(CB.out w1 L1.out).mono ?_;rintro e w2 ⟨ds,rfl,hds,L2⟩;have HD:=hI hds;have HDL:=hI (hds.len kb);have HDO:=hI hds.one;have K2:=hI (K1.out.over L2);have M2:=hI (step L1.out L2);clear hds L2 K1;go_wp2_with(first
   | ((with_reducible apply sN 6);refine a0a rfl _ rfl zs _ ZH ?_;intro h w3 hg3 hg4 Z3 L3)
   | ((with_reducible apply sT 6);refine b0a rfl _ (.tmp 6) (.tmp 14) rfl h rfl _ zs ds rfl Z3 69 p0a HZ HDL HDO ?_;intro w4 X4 O4 hg5;have L4:=hI (c0a L3.out O4.out hg3);have M4:=hI (step M2.out L4.out);have K4:=hI (K2.out.over L4.out);have HD4:=hI (HD.out.over L4.out)))
  go_ret2;exact HQ.out _ _ rfl M4.out
 rw[if_pos hk,hk] at CB;have kb:=S4a (c:=c) ka;have CZ:Hid (∀(w':World) (ds:List Value),j1a w' w'.heap.size ds (g1a c a)→Calls Tryz.prog 139 #[.agg ds.toArray] w' λe w2=>e=.returned (.bool (decide (g1a c a=j0a)))∧Below w'.heap.size w' w2):=λw' ds hds=>j2b w' ds _ kb hds
 by_cases hz:g1a c a=j0a;rotate_left
 ·rw[decide_eq_false hz] at CZ;have HQ:Hid (∀e w',e=.returned (.tuple #[.slice none 0 0,.int .i64 2])→Below w.heap.size w w'→u2a w c a e w'):=by
   intro e w' he hb;have h2:v1a c a=2:=by unfold v1a;rw[if_neg (λh=>hz h.2)]
   unfold u2a u3a;rw[h2,if_neg (by decide)];exact⟨_,he,P0a.nil _ _ _ _,hb⟩
  obtain⟨b,hb⟩:∃b,b=g1a c a:=⟨_,rfl⟩;rw[←hb] at CB CZ kb;clear hk hz HA ka ha hb;go_enter Tryz.func103,Tryz.ntmps103;go_wp2_with(first
   | ((with_reducible apply sN 3);refine g0a rfl _ (.tmp 1) rfl cs rfl ?_;intro g w1 hg1 hg2 K1 L1)
   | ((with_reducible apply sN 12);refine f0a rfl _ (.tmp 3) rfl g rfl _ cs K1 69 _ Tryz.underlying34 rfl p0a HL ?_))
  refine(CB.out w1 L1.out).mono ?_;rintro e w2 ⟨ds,rfl,hds,L2⟩;have HD:=hI hds;have HDL:=hI (hds.len kb);have HDO:=hI hds.one;have K2:=hI (K1.out.over L2);have M2:=hI (step L1.out L2);clear hds L2 K1;go_wp2_with(first
   | ((with_reducible apply sN 6);refine a0a rfl _ rfl zs _ ZH ?_;intro h w3 hg3 hg4 Z3 L3)
   | ((with_reducible apply sT 6);refine b0a rfl _ (.tmp 6) (.tmp 14) rfl h rfl _ zs ds rfl Z3 69 p0a HZ HDL HDO ?_;intro w4 X4 O4 hg5;have L4:=hI (c0a L3.out O4.out hg3);have M4:=hI (step M2.out L4.out);have K4:=hI (K2.out.over L4.out);have HD4:=hI (HD.out.over L4.out))
   | ((with_reducible apply sN 19);refine r1a (by kernel_rfl) _ (.tmp 6) rfl h rfl _ ds X4 69 _ Tryz.underlying34 rfl p0a HDL ?_))
  refine(CZ.out w4 ds HD4.out).mono ?_;rintro e w5 ⟨rfl,L5⟩;have M5:=hI (step M4.out L5);have K5:=hI (K4.out.over L5);have hs5:=M5.out.size;clear L5 K4 HD4 HD CZ CB X4 O4 Z3 L3 L4 M4 M2 K2;go_wp2;go_ret2;exact HQ.out _ _ rfl M5.out
 rw[decide_eq_true hz] at CZ;by_cases h0:c=0
 ·have h2:v1a c a=if a.dial.length≤16 then 0 else 3:=by unfold v1a;rw[if_pos ⟨hk,hz⟩,if_pos h0]
  have HQ:Hid (∀e w',(∃v,e=.returned (.tuple #[v,.int .i64 (if a.dial.length≤16 then 0 else 3)])∧s5a w' w.heap.size v (if a.dial.length≤16 then r6a a else [])∧Below w.heap.size w w')→u2a w c a e w'):=by
   intro e w' hh;unfold u2a u3a;rw[h2,if_pos h0];by_cases hd:a.dial.length≤16
   ·rw[if_pos hd,if_pos hd] at hh;rw[if_pos hd,if_pos rfl];exact hh
   ·rw[if_neg hd,if_neg hd] at hh;rw[if_neg hd,if_neg (by decide)];exact hh
  have CO:Hid (∀w':World,Below w.heap.size w w'→Calls Tryz.prog 140 #[.agg cs.toArray] w' λe w2=>∃v,e=.returned (.tuple #[v,.int .i64 (if a.dial.length≤16 then 0 else 3)])∧s5a w2 w'.heap.size v (if a.dial.length≤16 then r6a a else [])∧Below w'.heap.size w' w2):=λw' hb=>u2b w' cs a ka (HA.out.over hb)
  obtain⟨er,her⟩:∃x:Int,x=if a.dial.length≤16 then 0 else 3:=⟨_,rfl⟩
  obtain⟨ys,hys⟩:∃x,x=if a.dial.length≤16 then r6a a else []:=⟨_,rfl⟩
  rw[←her,←hys] at HQ CO;have c0:(c==0)=true:=by simpa using h0
  obtain⟨b,hb⟩:∃b,b=g1a c a:=⟨_,rfl⟩;rw[←hb] at CB CZ kb;clear hk hz HA ka ha h2 her hys h0 hb;go_enter Tryz.func103,Tryz.ntmps103;go_wp2_with(first
   | ((with_reducible apply sN 3);refine g0a rfl _ (.tmp 1) rfl cs rfl ?_;intro g w1 hg1 hg2 K1 L1)
   | ((with_reducible apply sN 12);refine f0a rfl _ (.tmp 3) rfl g rfl _ cs K1 69 _ Tryz.underlying34 rfl p0a HL ?_))
  refine(CB.out w1 L1.out).mono ?_;rintro e w2 ⟨ds,rfl,hds,L2⟩;have HD:=hI hds;have HDL:=hI (hds.len kb);have HDO:=hI hds.one;have K2:=hI (K1.out.over L2);have M2:=hI (step L1.out L2);clear hds L2 K1;go_wp2_with(first
   | ((with_reducible apply sN 6);refine a0a rfl _ rfl zs _ ZH ?_;intro h w3 hg3 hg4 Z3 L3)
   | ((with_reducible apply sT 6);refine b0a rfl _ (.tmp 6) (.tmp 14) rfl h rfl _ zs ds rfl Z3 69 p0a HZ HDL HDO ?_;intro w4 X4 O4 hg5;have L4:=hI (c0a L3.out O4.out hg3);have M4:=hI (step M2.out L4.out);have K4:=hI (K2.out.over L4.out);have HD4:=hI (HD.out.over L4.out))
   | ((with_reducible apply sN 19);refine r1a (by kernel_rfl) _ (.tmp 6) rfl h rfl _ ds X4 69 _ Tryz.underlying34 rfl p0a HDL ?_))
  refine(CZ.out w4 ds HD4.out).mono ?_;rintro e w5 ⟨rfl,L5⟩;have M5:=hI (step M4.out L5);have K5:=hI (K4.out.over L5);have hs5:=M5.out.size;clear L5 K4 HD4 HD CZ CB X4 O4 Z3 L3 L4 M4 M2 K2;go_wp2_with(first
   | ((with_reducible apply sN 26);refine f0a rfl _ (.tmp 3) rfl g rfl _ cs K5 69 _ Tryz.underlying34 rfl p0a HL ?_))
  refine(CO.out w5 M5.out).mono ?_;rintro e w6 ⟨v,rfl,ho,L6⟩;have HO:=hI ho;have L6':=hI L6;clear ho L6;go_wp2;go_ret2;exact HQ.out _ _ ⟨_,rfl,HO.out.mono hs5,step M5.out L6'.out⟩
 have b0:(c==0)=false:=by simpa using h0
 have FA:Hid (∀(w:World) (g:Nat),Blk w g 34 cs→w.cell? ⟨g,49,none⟩=some (.string a.user)∧w.cell? ⟨g,50,none⟩=some (.string a.share)∧Holds w w.heap.size (some ⟨g,17,none⟩) 32 32 a.proof):=by intro w g h;obtain⟨D1,D2,D3,X1,X2,X3,M1,M2,M3,rfl,_⟩:=HA.out;exact⟨h.at (r0a ka 0),h.at (r0a ka 1),o2b ka h⟩
 by_cases h1:c=1
 ·have CT:Hid (∀w':World,Below w.heap.size w w'→Calls Tryz.prog 141 #[.string a.user] w' λe w2=>∃v,e=.returned (.tuple #[v,.int .i64 (B0a a.user.data.toList)])∧s5a w2 w'.heap.size v (N0a a.user.data.toList)∧Below w'.heap.size w' w2):=λw' hb=>V4a a.user w' hu0 (HT.out.below hb)
  have h2:v1a c a=B0a a.user.data.toList:=by unfold v1a;rw[if_pos ⟨hk,hz⟩,if_neg h0,if_pos h1]
  have c1:(c==1)=true:=by simpa using h1
  have HPB:=hI (S1a a.user.data.toList);have hpl:=c3a a.user.data.toList;by_cases hp:B0a a.user.data.toList=0
  ·have HQ:Hid (∀e w',(∃v,e=.returned (.tuple #[v,.int .i64 0])∧s5a w' w.heap.size v (a.proof++N0a a.user.data.toList)∧Below w.heap.size w w')→u2a w c a e w'):=by intro e w' hh;unfold u2a u3a;rw[h2,hp,if_pos rfl,if_neg h0,if_pos h1];exact hh
   rw[hp] at CT;obtain⟨ys,hys⟩:∃x,x=N0a a.user.data.toList:=⟨_,rfl⟩;rw[←hys] at HQ CT HPB hpl;obtain⟨tx,htx⟩:∃x,x=a.user:=⟨_,rfl⟩;obtain⟨px,hpx⟩:∃x,x=a.proof:=⟨_,rfl⟩;rw[←htx,←hpx] at FA;rw[←htx] at CT;rw[←hpx] at HQ;obtain⟨b,hb⟩:∃b,b=g1a c a:=⟨_,rfl⟩;rw[←hb] at CB CZ kb;clear hk hz HA ka ha h2 hys htx hpx h0 h1 hb hu0 hu1 hp;go_enter Tryz.func103,Tryz.ntmps103;go_wp2_with(first
    | ((with_reducible apply sN 3);refine g0a rfl _ (.tmp 1) rfl cs rfl ?_;intro g w1 hg1 hg2 K1 L1)
    | ((with_reducible apply sN 12);refine f0a rfl _ (.tmp 3) rfl g rfl _ cs K1 69 _ Tryz.underlying34 rfl p0a HL ?_))
   refine(CB.out w1 L1.out).mono ?_;rintro e w2 ⟨ds,rfl,hds,L2⟩;have HD:=hI hds;have HDL:=hI (hds.len kb);have HDO:=hI hds.one;have K2:=hI (K1.out.over L2);have M2:=hI (step L1.out L2);clear hds L2 K1;go_wp2_with(first
    | ((with_reducible apply sN 6);refine a0a rfl _ rfl zs _ ZH ?_;intro h w3 hg3 hg4 Z3 L3)
    | ((with_reducible apply sT 6);refine b0a rfl _ (.tmp 6) (.tmp 14) rfl h rfl _ zs ds rfl Z3 69 p0a HZ HDL HDO ?_;intro w4 X4 O4 hg5;have L4:=hI (c0a L3.out O4.out hg3);have M4:=hI (step M2.out L4.out);have K4:=hI (K2.out.over L4.out);have HD4:=hI (HD.out.over L4.out))
    | ((with_reducible apply sN 19);refine r1a (by kernel_rfl) _ (.tmp 6) rfl h rfl _ ds X4 69 _ Tryz.underlying34 rfl p0a HDL ?_))
   refine(CZ.out w4 ds HD4.out).mono ?_;rintro e w5 ⟨rfl,L5⟩;have M5:=hI (step M4.out L5);have K5:=hI (K4.out.over L5);have hs5:=M5.out.size;clear L5 K4 HD4 HD CZ CB X4 O4 Z3 L3 L4 M4 M2 K2;obtain⟨gd,_,_⟩:=FA.out _ _ K5.out;go_wp2_with fail;refine(CT.out w5 M5.out).mono ?_;rintro e w6 ⟨v,rfl,ho,L6⟩;obtain⟨Av,cv,rfl,hh⟩:=ho.holds8 HPB.out (by omega);have HH:=hI hh;obtain⟨_,_,hpr⟩:=FA.out _ _ (K5.out.over L6);have HPR:=hI hpr;have M6:=hI (step M5.out L6);obtain⟨m,hm⟩:∃m,m=ys.length:=⟨_,rfl⟩;rw[←hm] at HH hpl⊢;clear ho hh hpr L6 gd hm;go_wp2_with(first
    | ((with_reducible apply sN 44);refine G2a rfl 2 _ rfl [(some ⟨g,17,none⟩,32,32,px),(Av,m,cv,ys)] rfl (by kernel_rfl) (List.forall_mem_cons.2 ⟨HPR.out,List.forall_mem_cons.2 ⟨HH.out,λ_ h=>by cases h⟩⟩) ?_;intro g7 w7 P7 b7))
   refine(R2a _ g7 2 _ _ _ _ P7.out (by omega) (by show 0+32+m≤_;omega)).mono ?_;rintro e w8 ⟨v,rfl,ho,L8⟩;have HO:=hI ho;have L8':=hI L8;clear ho L8;go_wp2;go_ret2;have M7:=step M6.out b7.out;refine HQ.out _ _ ⟨_,rfl,?_,step M7 L8'.out⟩;have h9:=HO.out.mono (base':=w.heap.size) M7.size;simpa[Q3a,o1a] using h9
  ·have HQ:Hid (∀e w',e=.returned (.tuple #[.slice none 0 0,.int .i64 (B0a a.user.data.toList)])→Below w.heap.size w w'→u2a w c a e w'):=by intro e w' he hb;unfold u2a u3a;rw[h2,if_neg hp];exact⟨_,he,P0a.nil _ _ _ _,hb⟩
   have hne:(B0a a.user.data.toList != 0)=true:=by simpa using hp
   obtain⟨ys,hys⟩:∃x,x=N0a a.user.data.toList:=⟨_,rfl⟩;obtain⟨er,her⟩:∃x,x=B0a a.user.data.toList:=⟨_,rfl⟩;rw[←hys,←her] at CT;rw[←her] at HQ hne;rw[←hys] at HPB hpl;obtain⟨tx,htx⟩:∃x,x=a.user:=⟨_,rfl⟩;rw[←htx] at FA CT;obtain⟨b,hb⟩:∃b,b=g1a c a:=⟨_,rfl⟩;rw[←hb] at CB CZ kb;clear hk hz HA ka ha h2 hys her htx h0 h1 hb hu0 hu1 hp;go_enter Tryz.func103,Tryz.ntmps103;go_wp2_with(first
    | ((with_reducible apply sN 3);refine g0a rfl _ (.tmp 1) rfl cs rfl ?_;intro g w1 hg1 hg2 K1 L1)
    | ((with_reducible apply sN 12);refine f0a rfl _ (.tmp 3) rfl g rfl _ cs K1 69 _ Tryz.underlying34 rfl p0a HL ?_))
   refine(CB.out w1 L1.out).mono ?_;rintro e w2 ⟨ds,rfl,hds,L2⟩;have HD:=hI hds;have HDL:=hI (hds.len kb);have HDO:=hI hds.one;have K2:=hI (K1.out.over L2);have M2:=hI (step L1.out L2);clear hds L2 K1;go_wp2_with(first
    | ((with_reducible apply sN 6);refine a0a rfl _ rfl zs _ ZH ?_;intro h w3 hg3 hg4 Z3 L3)
    | ((with_reducible apply sT 6);refine b0a rfl _ (.tmp 6) (.tmp 14) rfl h rfl _ zs ds rfl Z3 69 p0a HZ HDL HDO ?_;intro w4 X4 O4 hg5;have L4:=hI (c0a L3.out O4.out hg3);have M4:=hI (step M2.out L4.out);have K4:=hI (K2.out.over L4.out);have HD4:=hI (HD.out.over L4.out))
    | ((with_reducible apply sN 19);refine r1a (by kernel_rfl) _ (.tmp 6) rfl h rfl _ ds X4 69 _ Tryz.underlying34 rfl p0a HDL ?_))
   refine(CZ.out w4 ds HD4.out).mono ?_;rintro e w5 ⟨rfl,L5⟩;have M5:=hI (step M4.out L5);have K5:=hI (K4.out.over L5);have hs5:=M5.out.size;clear L5 K4 HD4 HD CZ CB X4 O4 Z3 L3 L4 M4 M2 K2;obtain⟨gd,_,_⟩:=FA.out _ _ K5.out;go_wp2_with fail;refine(CT.out w5 M5.out).mono ?_;rintro e w6 ⟨v,rfl,ho,L6⟩;obtain⟨Av,cv,rfl⟩:=ho.own8.len;clear ho;go_wp2;go_ret2;exact HQ.out _ _ rfl (step M5.out L6)
 have b1:(c==1)=false:=by simpa using h1
 by_cases h3:c=3
 ·have CT:Hid (∀w':World,Below w.heap.size w w'→Calls Tryz.prog 141 #[.string a.share] w' λe w2=>∃v,e=.returned (.tuple #[v,.int .i64 (B0a a.share.data.toList)])∧s5a w2 w'.heap.size v (N0a a.share.data.toList)∧Below w'.heap.size w' w2):=λw' hb=>V4a a.share w' hu1 (HT.out.below hb)
  have h2:v1a c a=B0a a.share.data.toList:=by unfold v1a;rw[if_pos ⟨hk,hz⟩,if_neg h0,if_neg h1,if_pos h3]
  have c3:(c==3)=true:=by simpa using h3
  have HQ:Hid (∀e w',(∃v,e=.returned (.tuple #[v,.int .i64 (B0a a.share.data.toList)])∧s5a w' w.heap.size v (N0a a.share.data.toList)∧Below w.heap.size w w')→u2a w c a e w'):=by
   intro e w' hh;unfold u2a u3a;rw[h2,if_neg h0,if_neg h1,if_pos h3];by_cases hp:B0a a.share.data.toList=0
   ·rw[if_pos hp];exact hh
   ·rw[if_neg hp];unfold N0a at hh;rw[if_neg hp] at hh;exact hh
  obtain⟨er,her⟩:∃x,x=B0a a.share.data.toList:=⟨_,rfl⟩;obtain⟨ys,hys⟩:∃x,x=N0a a.share.data.toList:=⟨_,rfl⟩;rw[←her,←hys] at HQ CT;obtain⟨tx,htx⟩:∃x,x=a.share:=⟨_,rfl⟩;rw[←htx] at FA CT;obtain⟨b,hb⟩:∃b,b=g1a c a:=⟨_,rfl⟩;rw[←hb] at CB CZ kb;clear hk hz HA ka ha h2 her hys htx h0 h1 h3 hb hu0 hu1;have b1:(c==1)=false:=by have h:=c3;simp only[beq_iff_eq] at h;subst h;rfl
  go_enter Tryz.func103,Tryz.ntmps103;go_wp2_with(first
   | ((with_reducible apply sN 3);refine g0a rfl _ (.tmp 1) rfl cs rfl ?_;intro g w1 hg1 hg2 K1 L1)
   | ((with_reducible apply sN 12);refine f0a rfl _ (.tmp 3) rfl g rfl _ cs K1 69 _ Tryz.underlying34 rfl p0a HL ?_))
  refine(CB.out w1 L1.out).mono ?_;rintro e w2 ⟨ds,rfl,hds,L2⟩;have HD:=hI hds;have HDL:=hI (hds.len kb);have HDO:=hI hds.one;have K2:=hI (K1.out.over L2);have M2:=hI (step L1.out L2);clear hds L2 K1;go_wp2_with(first
   | ((with_reducible apply sN 6);refine a0a rfl _ rfl zs _ ZH ?_;intro h w3 hg3 hg4 Z3 L3)
   | ((with_reducible apply sT 6);refine b0a rfl _ (.tmp 6) (.tmp 14) rfl h rfl _ zs ds rfl Z3 69 p0a HZ HDL HDO ?_;intro w4 X4 O4 hg5;have L4:=hI (c0a L3.out O4.out hg3);have M4:=hI (step M2.out L4.out);have K4:=hI (K2.out.over L4.out);have HD4:=hI (HD.out.over L4.out))
   | ((with_reducible apply sN 19);refine r1a (by kernel_rfl) _ (.tmp 6) rfl h rfl _ ds X4 69 _ Tryz.underlying34 rfl p0a HDL ?_))
  refine(CZ.out w4 ds HD4.out).mono ?_;rintro e w5 ⟨rfl,L5⟩;have M5:=hI (step M4.out L5);have K5:=hI (K4.out.over L5);have hs5:=M5.out.size;clear L5 K4 HD4 HD CZ CB X4 O4 Z3 L3 L4 M4 M2 K2;obtain⟨_,gd,_⟩:=FA.out _ _ K5.out;go_wp2_with fail;refine(CT.out w5 M5.out).mono ?_;rintro e w6 ⟨v,rfl,ho,L6⟩;have HO:=hI ho;have L6':=hI L6;clear ho L6;go_wp2;go_ret2;exact HQ.out _ _ ⟨_,rfl,HO.out.mono hs5,step M5.out L6'.out⟩
 have b3:(c==3)=false:=by simpa using h3
 have h2:v1a c a=0:=by unfold v1a;rw[if_pos ⟨hk,hz⟩,if_neg h0,if_neg h1,if_neg h3]
 have HQ:Hid (∀e w',(∃v,e=.returned (.tuple #[v,.int .i64 0])∧s5a w' w.heap.size v (List.replicate 4 0)∧Below w.heap.size w w')→u2a w c a e w'):=by intro e w' hh;unfold u2a u3a;rw[h2,if_pos rfl,if_neg h0,if_neg h1,if_neg h3];exact hh
 obtain⟨b,hb⟩:∃b,b=g1a c a:=⟨_,rfl⟩;rw[←hb] at CB CZ kb;clear hk hz HA ka ha h2 h0 h1 h3 hb hu0 hu1;go_enter Tryz.func103,Tryz.ntmps103;go_wp2_with(first
  | ((with_reducible apply sN 3);refine g0a rfl _ (.tmp 1) rfl cs rfl ?_;intro g w1 hg1 hg2 K1 L1)
  | ((with_reducible apply sN 12);refine f0a rfl _ (.tmp 3) rfl g rfl _ cs K1 69 _ Tryz.underlying34 rfl p0a HL ?_))
 refine(CB.out w1 L1.out).mono ?_;rintro e w2 ⟨ds,rfl,hds,L2⟩;have HD:=hI hds;have HDL:=hI (hds.len kb);have HDO:=hI hds.one;have K2:=hI (K1.out.over L2);have M2:=hI (step L1.out L2);clear hds L2 K1;go_wp2_with(first
  | ((with_reducible apply sN 6);refine a0a rfl _ rfl zs _ ZH ?_;intro h w3 hg3 hg4 Z3 L3)
  | ((with_reducible apply sT 6);refine b0a rfl _ (.tmp 6) (.tmp 14) rfl h rfl _ zs ds rfl Z3 69 p0a HZ HDL HDO ?_;intro w4 X4 O4 hg5;have L4:=hI (c0a L3.out O4.out hg3);have M4:=hI (step M2.out L4.out);have K4:=hI (K2.out.over L4.out);have HD4:=hI (HD.out.over L4.out))
  | ((with_reducible apply sN 19);refine r1a (by kernel_rfl) _ (.tmp 6) rfl h rfl _ ds X4 69 _ Tryz.underlying34 rfl p0a HDL ?_))
 refine(CZ.out w4 ds HD4.out).mono ?_;rintro e w5 ⟨rfl,L5⟩;have M5:=hI (step M4.out L5);have K5:=hI (K4.out.over L5);have hs5:=M5.out.size;clear L5 K4 HD4 HD CZ CB X4 O4 Z3 L3 L4 M4 M2 K2;go_wp2_with(at_make;refine D1a _ rfl _ _ rfl _ _ 4 rfl rfl rfl rfl (by omega) ?_;intro w6 R6 L6);go_ret2;exact HQ.out _ _ ⟨_,rfl,l5a R6.out hs5 (by omega),step M5.out L6⟩
theorem E5a(w:World)(c:Int)(cs:List Value)(a:W1a)(hc:0≤c∧c≤65535)(ka:a.ok)(ha:w1a w w.heap.size cs a) :
  Calls Tryz.prog 105 #[.int .u16 c,.agg cs.toArray] w (j3a w c a):=by
 have HL:=hI (ha.len ka);have HO1:=hI ha.one;have ZH:=hI S7a;have HZ:Hid ((y0a (.slice none 0 0) (.slice none 0 0) s0a).length=20):=c2a G0a;have HA:=hI ha;have CB:Hid (∀w':World,Below w.heap.size w w'→Calls Tryz.prog 147 #[.int .u16 c,.agg cs.toArray] w' λe w2=>∃ds,e=.returned (.tuple #[.agg ds.toArray,.bool (W0a c)])∧w1a w2 w2.heap.size ds (if W0a c=true then u1a c a else s0a)∧Below w'.heap.size w' w2):=λw' hb=>m2b w' c cs a hc ka (ha.over hb)
 obtain⟨zs,hzs⟩:∃zs,zs=y0a (.slice none 0 0) (.slice none 0 0) s0a:=⟨_,rfl⟩;rw[←hzs] at ZH HZ;clear hzs;by_cases hk:W0a c=true;rotate_left
 ·have hk':W0a c=false:=by simpa using hk
  have HQ:Hid (∀e w',e=.returned (.tuple #[.slice none 0 0,.int .i64 2])→Below w.heap.size w w'→j3a w c a e w'):=by
   intro e w' he hb;have h2:M1a c a=2:=by unfold M1a;rw[if_neg (λh=>hk h.1)]
   unfold j3a c4a;rw[h2,if_neg (by decide)];exact⟨_,he,P0a.nil _ _ _ _,hb⟩
  rw[if_neg hk,hk'] at CB;have kb:=G0a;clear hk hk' HA ka ha;go_enter Tryz.func105,Tryz.ntmps105;go_wp2_with(first
   | ((with_reducible apply sN 3);refine g0a rfl _ (.tmp 1) rfl cs rfl ?_;intro g w1 hg1 hg2 K1 L1)
   | ((with_reducible apply sN 12);refine f0a rfl _ (.tmp 3) rfl g rfl _ cs K1 20 _ Tryz.underlying39 rfl t0a HL ?_))
  refine(CB.out w1 L1.out).mono ?_;rintro e w2 ⟨ds,rfl,hds,L2⟩;have HD:=hI hds;have HDL:=hI (hds.len kb);have HDO:=hI hds.one;have K2:=hI (K1.out.over L2);have M2:=hI (step L1.out L2);clear hds L2 K1;go_wp2_with(first
   | ((with_reducible apply sN 6);refine a0a rfl _ rfl zs _ ZH ?_;intro h w3 hg3 hg4 Z3 L3)
   | ((with_reducible apply sT 6);refine b0a rfl _ (.tmp 6) (.tmp 14) rfl h rfl _ zs ds rfl Z3 20 t0a HZ HDL HDO ?_;intro w4 X4 O4 hg5;have L4:=hI (c0a L3.out O4.out hg3);have M4:=hI (step M2.out L4.out);have K4:=hI (K2.out.over L4.out);have HD4:=hI (HD.out.over L4.out)))
  go_ret2;exact HQ.out _ _ rfl M4.out
 rw[if_pos hk,hk] at CB;have kb:=R8a (c:=c) ka;have CZ:Hid (∀(w':World) (ds:List Value),w1a w' w'.heap.size ds (u1a c a)→Calls Tryz.prog 148 #[.agg ds.toArray] w' λe w2=>e=.returned (.bool (decide (u1a c a=s0a)))∧Below w'.heap.size w' w2):=λw' ds hds=>k2b w' ds _ kb hds
 by_cases hz:u1a c a=s0a;rotate_left
 ·rw[decide_eq_false hz] at CZ;have HQ:Hid (∀e w',e=.returned (.tuple #[.slice none 0 0,.int .i64 2])→Below w.heap.size w w'→j3a w c a e w'):=by
   intro e w' he hb;have h2:M1a c a=2:=by unfold M1a;rw[if_neg (λh=>hz h.2.1)]
   unfold j3a c4a;rw[h2,if_neg (by decide)];exact⟨_,he,P0a.nil _ _ _ _,hb⟩
  obtain⟨b,hb⟩:∃b,b=u1a c a:=⟨_,rfl⟩;rw[←hb] at CB CZ kb;clear hk hz HA ka ha hb;go_enter Tryz.func105,Tryz.ntmps105;go_wp2_with(first
   | ((with_reducible apply sN 3);refine g0a rfl _ (.tmp 1) rfl cs rfl ?_;intro g w1 hg1 hg2 K1 L1)
   | ((with_reducible apply sN 12);refine f0a rfl _ (.tmp 3) rfl g rfl _ cs K1 20 _ Tryz.underlying39 rfl t0a HL ?_))
  refine(CB.out w1 L1.out).mono ?_;rintro e w2 ⟨ds,rfl,hds,L2⟩;have HD:=hI hds;have HDL:=hI (hds.len kb);have HDO:=hI hds.one;have K2:=hI (K1.out.over L2);have M2:=hI (step L1.out L2);clear hds L2 K1;go_wp2_with(first
   | ((with_reducible apply sN 6);refine a0a rfl _ rfl zs _ ZH ?_;intro h w3 hg3 hg4 Z3 L3)
   | ((with_reducible apply sT 6);refine b0a rfl _ (.tmp 6) (.tmp 14) rfl h rfl _ zs ds rfl Z3 20 t0a HZ HDL HDO ?_;intro w4 X4 O4 hg5;have L4:=hI (c0a L3.out O4.out hg3);have M4:=hI (step M2.out L4.out);have K4:=hI (K2.out.over L4.out);have HD4:=hI (HD.out.over L4.out))
   | ((with_reducible apply sN 19);refine r1a (by kernel_rfl) _ (.tmp 6) rfl h rfl _ ds X4 20 _ Tryz.underlying39 rfl t0a HDL ?_))
  refine(CZ.out w4 ds HD4.out).mono ?_;rintro e w5 ⟨rfl,L5⟩;have M5:=hI (step M4.out L5);have K5:=hI (K4.out.over L5);have hs5:=M5.out.size;clear L5 K4 HD4 HD CZ CB X4 O4 Z3 L3 L4 M4 M2 K2;go_wp2;go_ret2;exact HQ.out _ _ rfl M5.out
 rw[decide_eq_true hz] at CZ;by_cases h0:c=0;rotate_left
 ·have h2:M1a c a=0:=by unfold M1a;rw[if_pos ⟨hk,hz,λh=>absurd h h0⟩]
  have HQ:Hid (∀e w',(∃v,e=.returned (.tuple #[v,.int .i64 0])∧s5a w' w.heap.size v (List.replicate 4 0)∧Below w.heap.size w w')→j3a w c a e w'):=by intro e w' hh;unfold j3a c4a;rw[h2,if_pos rfl,if_neg h0];exact hh
  have b0:(c != 0)=true:=by simpa using h0
  obtain⟨b,hb⟩:∃b,b=u1a c a:=⟨_,rfl⟩;rw[←hb] at CB CZ kb;clear hk hz HA ka ha h2 h0 hb;go_enter Tryz.func105,Tryz.ntmps105;go_wp2_with(first
   | ((with_reducible apply sN 3);refine g0a rfl _ (.tmp 1) rfl cs rfl ?_;intro g w1 hg1 hg2 K1 L1)
   | ((with_reducible apply sN 12);refine f0a rfl _ (.tmp 3) rfl g rfl _ cs K1 20 _ Tryz.underlying39 rfl t0a HL ?_))
  refine(CB.out w1 L1.out).mono ?_;rintro e w2 ⟨ds,rfl,hds,L2⟩;have HD:=hI hds;have HDL:=hI (hds.len kb);have HDO:=hI hds.one;have K2:=hI (K1.out.over L2);have M2:=hI (step L1.out L2);clear hds L2 K1;go_wp2_with(first
   | ((with_reducible apply sN 6);refine a0a rfl _ rfl zs _ ZH ?_;intro h w3 hg3 hg4 Z3 L3)
   | ((with_reducible apply sT 6);refine b0a rfl _ (.tmp 6) (.tmp 14) rfl h rfl _ zs ds rfl Z3 20 t0a HZ HDL HDO ?_;intro w4 X4 O4 hg5;have L4:=hI (c0a L3.out O4.out hg3);have M4:=hI (step M2.out L4.out);have K4:=hI (K2.out.over L4.out);have HD4:=hI (HD.out.over L4.out))
   | ((with_reducible apply sN 19);refine r1a (by kernel_rfl) _ (.tmp 6) rfl h rfl _ ds X4 20 _ Tryz.underlying39 rfl t0a HDL ?_))
  refine(CZ.out w4 ds HD4.out).mono ?_;rintro e w5 ⟨rfl,L5⟩;have M5:=hI (step M4.out L5);have K5:=hI (K4.out.over L5);have hs5:=M5.out.size;clear L5 K4 HD4 HD CZ CB X4 O4 Z3 L3 L4 M4 M2 K2;go_wp2_with(at_make;refine D1a _ rfl _ _ rfl _ _ 4 rfl rfl rfl rfl (by omega) ?_;intro w6 R6 L6);go_ret2;exact HQ.out _ _ ⟨_,rfl,l5a R6.out hs5 (by omega),step M5.out L6⟩
 have b0:(c != 0)=false:=by simpa using h0
 have FA:Hid (∀(w:World) (g:Nat),Blk w g 39 cs→w.cell? ⟨g,0,none⟩=some (.int .u16 a.dia)∧w.cell? ⟨g,1,none⟩=some (.int .u64 a.siz)∧Holds w w.heap.size (some ⟨g,2,none⟩) 8 8 a.chal):=by intro w g h;obtain⟨X1,X2,X3,M1,M2,M3,rfl,_⟩:=HA.out;exact⟨h.at rfl,h.at rfl,V2b ka h⟩
 obtain⟨s0,s1⟩:=ka.siz;obtain⟨d0,d1⟩:=ka.dia;by_cases hs:a.siz<4294967296;rotate_left
 ·have h2:M1a c a=2:=by unfold M1a;rw[if_neg (λh=>hs (h.2.2 h0))]
  have HQ:Hid (∀e w',e=.returned (.tuple #[.slice none 0 0,.int .i64 2])→Below w.heap.size w w'→j3a w c a e w'):=by intro e w' he hb;unfold j3a c4a;rw[h2,if_neg (by decide)];exact⟨_,he,P0a.nil _ _ _ _,hb⟩
  have CP:Hid (∀w':World,Calls Tryz.prog 54 #[.int .u64 a.siz,.int .i64 4] w' λe w2=>∃A',e=.returned (.tuple #[.slice A' 0 0,.int .i64 2])∧Below w'.heap.size w' w2):=λw'=>by
   have h:=j7a w' a.siz 4 ⟨s0,s1⟩ (by omega);unfold C4a at h;have hp:a4a a.siz 4=false:=by unfold a4a;rw[show((4:Int).toNat)=4 from rfl,show(256:Int)^4=4294967296 from by decide,decide_eq_false hs];simp
   unfold J5a M4a at h;rw[if_neg (by rw[hp];decide),if_neg (by rw[hp];decide)] at h;exact h.mono λe w2 ⟨A',h1,_,h3⟩=>⟨A',h1,h3⟩
  obtain⟨sz,hsz⟩:∃x,x=a.siz:=⟨_,rfl⟩;rw[←hsz] at FA CP;obtain⟨b,hb⟩:∃b,b=u1a c a:=⟨_,rfl⟩;rw[←hb] at CB CZ kb;clear hk hz HA ka ha h2 h0 hb hs s0 s1 hsz;go_enter Tryz.func105,Tryz.ntmps105;go_wp2_with(first
   | ((with_reducible apply sN 3);refine g0a rfl _ (.tmp 1) rfl cs rfl ?_;intro g w1 hg1 hg2 K1 L1)
   | ((with_reducible apply sN 12);refine f0a rfl _ (.tmp 3) rfl g rfl _ cs K1 20 _ Tryz.underlying39 rfl t0a HL ?_))
  refine(CB.out w1 L1.out).mono ?_;rintro e w2 ⟨ds,rfl,hds,L2⟩;have HD:=hI hds;have HDL:=hI (hds.len kb);have HDO:=hI hds.one;have K2:=hI (K1.out.over L2);have M2:=hI (step L1.out L2);clear hds L2 K1;go_wp2_with(first
   | ((with_reducible apply sN 6);refine a0a rfl _ rfl zs _ ZH ?_;intro h w3 hg3 hg4 Z3 L3)
   | ((with_reducible apply sT 6);refine b0a rfl _ (.tmp 6) (.tmp 14) rfl h rfl _ zs ds rfl Z3 20 t0a HZ HDL HDO ?_;intro w4 X4 O4 hg5;have L4:=hI (c0a L3.out O4.out hg3);have M4:=hI (step M2.out L4.out);have K4:=hI (K2.out.over L4.out);have HD4:=hI (HD.out.over L4.out))
   | ((with_reducible apply sN 19);refine r1a (by kernel_rfl) _ (.tmp 6) rfl h rfl _ ds X4 20 _ Tryz.underlying39 rfl t0a HDL ?_))
  refine(CZ.out w4 ds HD4.out).mono ?_;rintro e w5 ⟨rfl,L5⟩;have M5:=hI (step M4.out L5);have K5:=hI (K4.out.over L5);have hs5:=M5.out.size;clear L5 K4 HD4 HD CZ CB X4 O4 Z3 L3 L4 M4 M2 K2;obtain⟨_,gd,_⟩:=FA.out _ _ K5.out;go_wp2_with fail;refine(CP.out w5).mono ?_;rintro e w6 ⟨A',rfl,L6⟩;go_wp2;go_ret2;exact HQ.out _ _ rfl (step M5.out L6)
 have h2:M1a c a=0:=by unfold M1a;rw[if_pos ⟨hk,hz,λ_=>hs⟩]
 have HQ:Hid (∀e w',(∃v,e=.returned (.tuple #[v,.int .i64 0])∧s5a w' w.heap.size v (le a.dia 2++List.replicate 2 0++le a.siz 4++a.chal)∧Below w.heap.size w w')→j3a w c a e w'):=by intro e w' hh;unfold j3a c4a;rw[h2,if_pos rfl,if_pos h0];exact hh
 have CP:Hid (∀w':World,Calls Tryz.prog 54 #[.int .u64 a.siz,.int .i64 4] w' λe w2=>∃A',e=.returned (.tuple #[.slice A' 4 4,.int .i64 0])∧C1a w2 w'.heap.size A' (le a.siz 4)∧Below w'.heap.size w' w2):=λw'=>by
  have h:=j7a w' a.siz 4 ⟨s0,s1⟩ (by omega);unfold C4a at h;have hp:a4a a.siz 4=true:=by unfold a4a;rw[show((4:Int).toNat)=4 from rfl,show(256:Int)^4=4294967296 from by decide,decide_eq_true hs];rfl
  unfold J5a M4a at h;rw[if_pos hp,if_pos hp,show((4:Int).toNat)=4 from rfl,w0a] at h;exact h
 have CD:Hid (∀w':World,Calls Tryz.prog 149 #[.int .u64 a.dia,.int .i64 2] w' λe w2=>∃A',e=.returned (.slice A' 2 2)∧C1a w2 w'.heap.size A' (le a.dia 2)∧Below w'.heap.size w' w2):=λw'=>q0b w' a.dia d0 d1
 have CC:Hid (∀(w:World) (gs m:Nat) (A:Nat→Option Addr) (n c:Nat→Nat) (X:Nat→List Int),f1a w gs m A n c X→m≤1000→q1b n m≤140737488355328→Calls Tryz.prog 35 #[.slice (some ⟨gs,0,none⟩) m m] w λe w'=>∃v,e=.returned v∧s5a w' w.heap.size v (Q3a X m)∧Below w.heap.size w w'):=R2a;have hdz:IntKind.u64.wrap a.dia=a.dia:=by rw[IntKind.wrap_u64];omega
 have HLS:Hid ((le a.siz 4).length=4):=w0a _ _;have HBS:Hid (Bytes (le a.siz 4)):=F0a _ _;have HLD:Hid ((le a.dia 2).length=2):=w0a _ _;have HBD:Hid (Bytes (le a.dia 2)):=F0a _ _;obtain⟨ls,hls⟩:∃x,x=le a.siz 4:=⟨_,rfl⟩;obtain⟨ld,hld⟩:∃x,x=le a.dia 2:=⟨_,rfl⟩;rw[←hls,←hld] at HQ;rw[←hls] at CP HLS HBS;rw[←hld] at CD HLD HBD;obtain⟨sz,hsz⟩:∃x,x=a.siz:=⟨_,rfl⟩;obtain⟨dz,hdz'⟩:∃x,x=a.dia:=⟨_,rfl⟩;obtain⟨ch,hch⟩:∃x,x=a.chal:=⟨_,rfl⟩;rw[←hsz,←hdz',←hch] at FA;rw[←hsz] at CP;rw[←hdz'] at CD hdz;rw[←hch] at HQ;obtain⟨b,hb⟩:∃b,b=u1a c a:=⟨_,rfl⟩;rw[←hb] at CB CZ kb;clear hk hz HA ka ha h2 h0 hb hs s0 s1 d0 d1 hsz hdz' hch hls hld;go_enter Tryz.func105,Tryz.ntmps105;go_wp2_with(first
  | ((with_reducible apply sN 3);refine g0a rfl _ (.tmp 1) rfl cs rfl ?_;intro g w1 hg1 hg2 K1 L1)
  | ((with_reducible apply sN 12);refine f0a rfl _ (.tmp 3) rfl g rfl _ cs K1 20 _ Tryz.underlying39 rfl t0a HL ?_))
 refine(CB.out w1 L1.out).mono ?_;rintro e w2 ⟨ds,rfl,hds,L2⟩;have HD:=hI hds;have HDL:=hI (hds.len kb);have HDO:=hI hds.one;have K2:=hI (K1.out.over L2);have M2:=hI (step L1.out L2);clear hds L2 K1;go_wp2_with(first
  | ((with_reducible apply sN 6);refine a0a rfl _ rfl zs _ ZH ?_;intro h w3 hg3 hg4 Z3 L3)
  | ((with_reducible apply sT 6);refine b0a rfl _ (.tmp 6) (.tmp 14) rfl h rfl _ zs ds rfl Z3 20 t0a HZ HDL HDO ?_;intro w4 X4 O4 hg5;have L4:=hI (c0a L3.out O4.out hg3);have M4:=hI (step M2.out L4.out);have K4:=hI (K2.out.over L4.out);have HD4:=hI (HD.out.over L4.out))
  | ((with_reducible apply sN 19);refine r1a (by kernel_rfl) _ (.tmp 6) rfl h rfl _ ds X4 20 _ Tryz.underlying39 rfl t0a HDL ?_))
 refine(CZ.out w4 ds HD4.out).mono ?_;rintro e w5 ⟨rfl,L5⟩;have M5:=hI (step M4.out L5);have K5:=hI (K4.out.over L5);have hs5:=M5.out.size;clear L5 K4 HD4 HD CZ CB X4 O4 Z3 L3 L4 M4 M2 K2;obtain⟨_,gd,_⟩:=FA.out _ _ K5.out;go_wp2_with fail;refine(CP.out w5).mono ?_;rintro e w6 ⟨A6,rfl,hf6,L6⟩;have K6:=hI (K5.out.over L6);have M6:=hI (step M5.out L6);have HF6:=hI (hf6.holds HLS.out HBS.out (by omega));clear hf6 L6 gd CP K5;go_upto_region 9 with fail
 refine wp_region_held (S:=λw'=>Blk w' g 39 cs) (by kernel_rfl) ?_;change wpAnyH _ _ _ _ _ _ _ _ w6.drew
 have S0:Hid (Blk w6.drew g 39 cs):=K6.out.drew;have b0:Hid (Below w.heap.size w w6.drew):=M6.out.drew;refine tK 0 _ rfl (A0a (by kernel_rfl) _ (.tmp 3) 0 rfl (.pointer (some ⟨g,0,none⟩)) (.pointer (some ⟨g,0,none⟩)) (by kernel_rfl) (i6a g)) S0.out ?_;refine tK 1 _ rfl (l0a (by kernel_rfl) _ (.tmp 35) rfl g 0 (by kernel_rfl) (.int .u16 dz) (λw h=>(FA.out w g h).1) _ Tryz.underlying22 rfl) S0.out ?_;refine tK 2 ((.int .u64 dz)) rfl (.inl ⟨by kernel_rfl,λw _=>by go_simp⟩) S0.out ?_;refine tK 5 _ rfl (v0a (by kernel_rfl) (.tmp 8) rfl (.slice A6 4 4) (by kernel_rfl)) S0.out ?_;refine tK 6 _ rfl (A0a (by kernel_rfl) _ (.tmp 3) 2 rfl (.pointer (some ⟨g,0,none⟩)) (.pointer (some ⟨g,2,none⟩)) (by kernel_rfl) (k6a g)) S0.out ?_;refine tK 7 ((.slice (some ⟨g,2,none⟩) 8 8)) rfl (.inl ⟨by kernel_rfl,λw _=>by go_simp⟩) S0.out ?_;refine k1a 3 4 _ _ (by kernel_rfl) rfl rfl (λK hK=>?_) (λK hK=>?_)
 ·go_simp;refine(CD.out _).mono ?_;rintro e v1 ⟨A3,rfl,hf3,L3⟩;have S1:=hI (S0.out.over L3);have b1:=hI (step b0.out L3);have HN1:=hI (hf3.holds HLD.out HBD.out (by omega));have HS1:=hI (HF6.out.drew.over L3);refine hK _ _ S1.out ?_;clear hK K hf3 L3;refine oN 4 _ rfl λK hK=>?_
  refine H0a rfl _ _ rfl 2 rfl rfl (by omega) ?_;intro v2 R2 b2';have S2:=hI (S1.out.over b2'.out);have b2:=hI (step b1.out b2'.out);have HN2:=hI (HN1.out.over b2'.out);have HS2:=hI (HS1.out.over b2'.out);have HZ2:Hid (Holds v2 v2.heap.size (some ⟨v1.heap.size,0,none⟩) 2 2 (List.replicate 2 0)):=C1a.holds (base:=0) (.inr ⟨_,rfl,Nat.zero_le _,R2.out⟩) rfl (Bytes.zeros 2) (by omega);refine hK _ _ S2.out ?_;clear hK K;refine n0a λa1 ha1=>?_
  refine oN 8 _ rfl λK hK=>?_
  refine i0a rfl _ _ 4 _ rfl Tryz.underlying99 [.slice A3 2 2,.slice (some ⟨v1.heap.size,0,none⟩) 2 2,.slice A6 4 4,.slice (some ⟨g,2,none⟩) 8 8] (by rw[ha1];kernel_rfl) ?_;intro g9 v3 q2 q3 Y3 b3';have S3:=hI (S2.out.over b3'.out);have b3:=hI (step b2.out b3'.out);obtain⟨_,_,hch⟩:=FA.out _ _ S3.out;have PP:Hid (f1a v3 g9 4 (x2a [(A3,2,2,ld),(some ⟨v1.heap.size,0,none⟩,2,2,List.replicate 2 0),(A6,4,4,ls),(some ⟨g,2,none⟩,8,8,ch)]) (y2a [(A3,2,2,ld),(some ⟨v1.heap.size,0,none⟩,2,2,List.replicate 2 0),(A6,4,4,ls),(some ⟨g,2,none⟩,8,8,ch)]) (z2a [(A3,2,2,ld),(some ⟨v1.heap.size,0,none⟩,2,2,List.replicate 2 0),(A6,4,4,ls),(some ⟨g,2,none⟩,8,8,ch)]) (o1a [(A3,2,2,ld),(some ⟨v1.heap.size,0,none⟩,2,2,List.replicate 2 0),(A6,4,4,ls),(some ⟨g,2,none⟩,8,8,ch)])):=f1a.of_blk [(A3,2,2,ld),(some ⟨v1.heap.size,0,none⟩,2,2,List.replicate 2 0),(A6,4,4,ls),(some ⟨g,2,none⟩,8,8,ch)] Y3.out (List.forall_mem_cons.2 ⟨HN2.out.over b3'.out,List.forall_mem_cons.2 ⟨HZ2.out.over b3'.out,List.forall_mem_cons.2 ⟨HS2.out.over b3'.out,List.forall_mem_cons.2 ⟨hch,λ_ h=>by cases h⟩⟩⟩⟩)
  refine hK _ _ S3.out ?_;clear hK K hch;rw[ha1];clear ha1 a1;refine oN 9 _ rfl λK hK=>?_
  go_simp;refine(CC.out v3 g9 4 _ _ _ _ PP.out (by omega) (by show 0+2+2+4+8≤_;omega)).mono ?_;rintro e v4 ⟨v,rfl,ho,L4⟩;have HOUT:=hI ho;have S4:=hI (S3.out.over L4);have b4:=hI (step b3.out L4);refine hK _ _ S4.out ?_;clear hK K ho L4;refine oN 10 _ rfl λK hK=>?_
  go_simp;refine hK _ _ S4.out ?_;clear hK K;refine oN 11 _ rfl λK hK=>?_
  go_simp;refine hK _ _ S4.out ?_;clear hK K;refine dN ?_;go_wp2;go_ret2;refine HQ.out _ _ ⟨_,rfl,?_,b4.out⟩;have h9:=HOUT.out.mono (base':=w.heap.size) b3.out.size;simpa[Q3a,o1a,List.append_assoc] using h9
 ·refine H0a rfl _ _ rfl 2 rfl rfl (by omega) ?_;intro v1 R1 b1';have S1:=hI (S0.out.over b1'.out);have b1:=hI (step b0.out b1'.out);have HS1:=hI (HF6.out.drew.over b1'.out);have HZ1:Hid (Holds v1 v1.heap.size (some ⟨w6.drew.heap.size,0,none⟩) 2 2 (List.replicate 2 0)):=C1a.holds (base:=0) (.inr ⟨_,rfl,Nat.zero_le _,R1.out⟩) rfl (Bytes.zeros 2) (by omega);refine hK _ _ S1.out ?_;clear hK K;refine oN 3 _ rfl λK hK=>?_
  go_simp;refine(CD.out _).mono ?_;rintro e v2 ⟨A3,rfl,hf3,L3⟩;have S2:=hI (S1.out.over L3);have b2:=hI (step b1.out L3);have HN2:=hI (hf3.holds HLD.out HBD.out (by omega));have HS2:=hI (HS1.out.over L3);have HZ2:=hI (HZ1.out.over L3);refine hK _ _ S2.out ?_;clear hK K hf3 L3;refine n0a λa1 ha1=>?_
  refine oN 8 _ rfl λK hK=>?_
  refine i0a rfl _ _ 4 _ rfl Tryz.underlying99 [.slice A3 2 2,.slice (some ⟨w6.drew.heap.size,0,none⟩) 2 2,.slice A6 4 4,.slice (some ⟨g,2,none⟩) 8 8] (by rw[ha1];kernel_rfl) ?_;intro g9 v3 q2 q3 Y3 b3';have S3:=hI (S2.out.over b3'.out);have b3:=hI (step b2.out b3'.out);obtain⟨_,_,hch⟩:=FA.out _ _ S3.out;have PP:Hid (f1a v3 g9 4 (x2a [(A3,2,2,ld),(some ⟨w6.drew.heap.size,0,none⟩,2,2,List.replicate 2 0),(A6,4,4,ls),(some ⟨g,2,none⟩,8,8,ch)]) (y2a [(A3,2,2,ld),(some ⟨w6.drew.heap.size,0,none⟩,2,2,List.replicate 2 0),(A6,4,4,ls),(some ⟨g,2,none⟩,8,8,ch)]) (z2a [(A3,2,2,ld),(some ⟨w6.drew.heap.size,0,none⟩,2,2,List.replicate 2 0),(A6,4,4,ls),(some ⟨g,2,none⟩,8,8,ch)]) (o1a [(A3,2,2,ld),(some ⟨w6.drew.heap.size,0,none⟩,2,2,List.replicate 2 0),(A6,4,4,ls),(some ⟨g,2,none⟩,8,8,ch)])):=f1a.of_blk [(A3,2,2,ld),(some ⟨w6.drew.heap.size,0,none⟩,2,2,List.replicate 2 0),(A6,4,4,ls),(some ⟨g,2,none⟩,8,8,ch)] Y3.out (List.forall_mem_cons.2 ⟨HN2.out.over b3'.out,List.forall_mem_cons.2 ⟨HZ2.out.over b3'.out,List.forall_mem_cons.2 ⟨HS2.out.over b3'.out,List.forall_mem_cons.2 ⟨hch,λ_ h=>by cases h⟩⟩⟩⟩)
  refine hK _ _ S3.out ?_;clear hK K hch;rw[ha1];clear ha1 a1;refine oN 9 _ rfl λK hK=>?_
  go_simp;refine(CC.out v3 g9 4 _ _ _ _ PP.out (by omega) (by show 0+2+2+4+8≤_;omega)).mono ?_;rintro e v4 ⟨v,rfl,ho,L4⟩;have HOUT:=hI ho;have S4:=hI (S3.out.over L4);have b4:=hI (step b3.out L4);refine hK _ _ S4.out ?_;clear hK K ho L4;refine oN 10 _ rfl λK hK=>?_
  go_simp;refine hK _ _ S4.out ?_;clear hK K;refine oN 11 _ rfl λK hK=>?_
  go_simp;refine hK _ _ S4.out ?_;clear hK K;refine dN ?_;go_wp2;go_ret2;refine HQ.out _ _ ⟨_,rfl,?_,b4.out⟩;have h9:=HOUT.out.mono (base':=w.heap.size) b3.out.size;simpa[Q3a,o1a,List.append_assoc] using h9
theorem C0b(w:World)(c:Int)(cs:List Value)(a:z1a)(hc:0≤c∧c≤65535)(ka:a.ok)(ha:j1a w w.heap.size cs a)(hu:a.user.size≤17592186044416∧a.share.size≤17592186044416)(hT:K7a w) :
  Calls Tryz.prog 103 #[.int .u16 c,.agg cs.toArray] w (U7b w c a):=(D5a w c cs a hc ka ha hu hT).mono λe w' ⟨v,h1,h2,h3⟩=>⟨v,h1,h2.own8,h3⟩
theorem D0b(w:World)(c:Int)(cs:List Value)(a:W1a)(hc:0≤c∧c≤65535)(ka:a.ok)(ha:w1a w w.heap.size cs a) :
  Calls Tryz.prog 105 #[.int .u16 c,.agg cs.toArray] w (V7b w c a):=(E5a w c cs a hc ka ha).mono λe w' ⟨v,h1,h2,h3⟩=>⟨v,h1,h2.own8,h3⟩
theorem D5b(xs:List Int)(p s:Nat):d1a (xs.drop p) 0 s=d1a xs p s:=by unfold d1a;rw[List.drop_zero]
theorem E0b(xs:List Int)(p:Nat):W9a (xs.drop p) 0=W9a xs (p:Int):=by unfold W9a;rw[Int.toNat_natCast];exact D5b xs p 2
theorem A6a(xs:List Int)(p:Nat)(m:Int)(hp:p≤xs.length):b2a (xs.drop p) 0 m=b2a xs (p:Int) m:=by
 unfold b2a;rw[E0b,List.length_drop];have e1:((xs.length-p:Nat):Int)-0=(xs.length:Int)-p:=by omega
 rw[if_neg (show ¬((0:Int)<0∨((xs.length-p:Nat):Int)<0) by omega),e1,if_neg (show ¬((p:Int)<0∨(xs.length:Int)<p) by omega)]
theorem F0b(xs:List Int)(p:Nat)(m:Int)(hp:p≤xs.length):Z1a (xs.drop p) 0 m=Z1a xs (p:Int) m:=by unfold Z1a;rw[A6a xs p m hp,E0b,Int.toNat_natCast,show Int.toNat 0=0 from rfl,Nat.zero_add,List.drop_drop]
theorem E5b(xs:List Int)(p:Nat)(hp:p≤xs.length):Y0a (xs.drop p) 0=Y0a xs (p:Int)∧R1a (xs.drop p) 0=R1a xs (p:Int)∧(Y0a xs (p:Int)=0→X0a (xs.drop p) 0+p=X0a xs (p:Int)):=by
 have e1:Y0a (xs.drop p) 0=Y0a xs (p:Int):=by unfold Y0a;rw[A6a xs p 512 hp,F0b xs p 512 hp]
 refine⟨e1,?_,?_⟩
 ·unfold R1a;rw[e1,F0b xs p 512 hp]
 ·intro h;unfold X0a;rw[e1,if_pos h,if_pos h];unfold H3a;rw[A6a xs p 512 hp,E0b];have hg:b2a xs (p:Int) 512=0:=by
   unfold Y0a at h;by_cases hg:b2a xs (p:Int) 512=0
   ·exact hg
   ·rw[if_neg hg] at h;exact absurd h hg
  rw[if_pos hg,if_pos hg];omega
def c8b(w:World)(g B:Nat)(xs:List Int)(q:List UInt8×Rd)(e:Ending)(w':World):Prop:=e=.returned (.string ⟨q.1.toArray⟩)∧PF w' g B xs q.2∧R0a g w w'
theorem I6b(w:World)(g B:Nat)(xs:List Int)(r:Rd)(hx:Bytes xs)(hP:PF w g B xs r) :
  Calls Tryz.prog 158 #[.pointer (some ⟨g,0,none⟩)] w (c8b w g B xs (I1a xs r)):=by
 have HP0:=hI hP;obtain⟨p,er⟩:=r;obtain⟨hp,hg,A,n,c,hB,hh⟩:=hP;change p≤xs.length at hp
 change Blk w g _ [.slice A n c,.int .i64 er] at hB
 change Holds w B A n c (xs.drop p) at hh
 have hl:xs.length-p=n:=by rw[←hh.len,List.length_drop]
 have hrm:=hh.room;have hft:=hh.fit;have hlt:=hB.lt;have c0:w.cell? ⟨g,0,none⟩=some (.slice A n c):=Blk.at hB rfl;have c1:w.cell? ⟨g,1,none⟩=some (.int .i64 er):=Blk.at hB rfl;by_cases he:er=0;rotate_left
 ·have HQ:Hid (∀e w',(e=.returned (.string .empty)∧PF w' g B xs ⟨p,er⟩∧R0a g w w')→c8b w g B xs (I1a xs ⟨p,er⟩) e w'):=by intro e w' h;unfold I1a;rw[if_neg he];exact h
  have hne:(er != 0)=true:=by simpa using he
  clear hB hh hl he hp;go_enter Tryz.func158,Tryz.ntmps158;go_wp2;go_ret;exact HQ.out _ _ ⟨rfl,HP0.out,R0a.refl g w⟩
 subst he;obtain⟨t1,t2,t3⟩:=E5b xs p hp;obtain⟨n0,n1⟩:=x3a (hx.drop p) 0 (Int.le_refl 0);have C1:=k7a w A n c (xs.drop p) 0 (hh.mono (by omega)) (by omega);unfold Y2a at C1;rw[t1,t2] at C1;rw[List.length_drop,hl] at n1;obtain⟨j,hj⟩:=Int.eq_ofNat_of_zero_le n0;rw[hj] at C1 n1 t3;have hjn:j≤n:=by omega
 have HQ:Hid (∀e w',(e=.returned (.string ⟨(R1a xs (p:Int)).toArray⟩)∧PF w' g B xs ⟨p+j,Y0a xs (p:Int)⟩∧R0a g w w')→c8b w g B xs (I1a xs ⟨p,0⟩) e w'):=by
  intro e w' h;unfold I1a;rw[if_pos rfl];have e2:(if Y0a xs (p:Int)=0 then (X0a xs (p:Int)).toNat else p)=p+j:=by
   by_cases h0:Y0a xs (p:Int)=0
   ·rw[if_pos h0,←t3 h0];omega
   ·rw[if_neg h0];have:(j:Int)=0:=by rw[←hj];unfold X0a;rw[t1,if_neg h0]
    omega
  show c8b w g B xs (_,⟨if Y0a xs ((p:Nat):Int)=0 then (X0a xs ((p:Nat):Int)).toNat else p,_⟩) e w'
  rw[e2];exact h
 have hd:(xs.drop p).drop j=xs.drop (p+j):=by rw[List.drop_drop]
 have hrst:=hh.rest (k:=j) hjn;rw[hd] at hrst;have HK:Hid (∀w1,Below w.heap.size w w1→w1.cell? ⟨g,0,none⟩=some (.slice A n c)∧w1.cell? ⟨g,1,none⟩=some (.int .i64 0)∧w1.frozen? ⟨g,0,none⟩=false∧w1.frozen? ⟨g,1,none⟩=false∧∀v,(w1.setCell ⟨g,0,none⟩ v).frozen? ⟨g,1,none⟩=false∧(w1.setCell ⟨g,0,none⟩ v).cell? ⟨g,1,none⟩=some (.int .i64 0)):=by intro w1 hb;have h1:=hB.over hb;exact⟨h1.at rfl,h1.at rfl,h1.frozen 0,h1.frozen 1,λv=>⟨(h1.set 0 v).frozen 1,(h1.set 0 v).at rfl⟩⟩
 obtain⟨tx,htx⟩:∃x,x=R1a xs (p:Int):=⟨_,rfl⟩;obtain⟨ex,hex⟩:∃x,x=Y0a xs (p:Int):=⟨_,rfl⟩;rw[←htx,←hex] at C1 HQ;have HB0:=hI hB;have HS:Hid (∀(w1:World) (u v:Value),Below w.heap.size w w1→R0a g w ((w1.setCell ⟨g,0,none⟩ u).setCell ⟨g,1,none⟩ v)):=λw1 u v hb=>((R0a.of_below hb g).setCell 0 u).setCell 1 v
 have C1':=hI C1;by_cases hcj:c=j
 ·rw[if_pos hcj] at hrst;subst hcj;have HPF:Hid (∀w1,Below w.heap.size w w1→PF ((w1.setCell ⟨g,0,none⟩ (.slice A 0 0)).setCell ⟨g,1,none⟩ (.int .i64 ex)) g B xs ⟨p+c,ex⟩):=by
   intro w1 hb;have hr2:Holds w B A 0 0 (xs.drop (p+c)):=by
    have h0:n-c=0:=by omega
    simpa[h0] using hrst
   exact⟨by show p+c≤_;omega,hg,_,_,_,Blk.set (Blk.set (hB.over hb) 0 _) 1 _,((hr2.below (hb.mono (by omega))).only (b1a w1 g 0 _) hg).only (b1a _ g 1 _) hg⟩
  clear C1 hB hh hl hp t1 t2 t3 n0 n1 hj htx hex hd hrst c1;go_enter Tryz.func158,Tryz.ntmps158;have c1:w.cell? ⟨g,1,none⟩=some (.int .i64 0):=HB0.out.at rfl;go_wp2_with fail;refine C1'.out.mono ?_;rintro e w1 ⟨rfl,hb⟩;have HPW:=hI (HPF.out w1 hb);have HSW:=hI (HS.out w1 (.slice A 0 0) (.int .i64 ex) hb);obtain⟨k0,k1,k2,k3,k4⟩:=HK.out w1 hb;obtain⟨k5,k6⟩:=k4 (.slice A 0 0);clear k4 hb HPF HK HS;go_wp2;go_ret;exact HQ.out _ _ ⟨rfl,HPW.out,HSW.out⟩
 ·rw[if_neg hcj] at hrst;have HPF:Hid (∀w1,Below w.heap.size w w1→PF ((w1.setCell ⟨g,0,none⟩ (.slice (A.map (·.add j)) (n-j) (c-j))).setCell ⟨g,1,none⟩ (.int .i64 ex)) g B xs ⟨p+j,ex⟩):=by intro w1 hb;exact⟨by show p+j≤_;omega,hg,_,_,_,Blk.set (Blk.set (hB.over hb) 0 _) 1 _,((hrst.below (hb.mono (by omega))).only (b1a w1 g 0 _) hg).only (b1a _ g 1 _) hg⟩
  clear C1 hB hh hl hp t1 t2 t3 n0 n1 hj htx hex hd hrst c1;go_enter Tryz.func158,Tryz.ntmps158;have c1:w.cell? ⟨g,1,none⟩=some (.int .i64 0):=HB0.out.at rfl;go_wp2_with fail;refine C1'.out.mono ?_;rintro e w1 ⟨rfl,hb⟩;have HPW:=hI (HPF.out w1 hb);have HSW:=hI (HS.out w1 (.slice (A.map (·.add j)) (n-j) (c-j)) (.int .i64 ex) hb);obtain⟨k0,k1,k2,k3,k4⟩:=HK.out w1 hb;obtain⟨k5,k6⟩:=k4 (.slice (A.map (·.add j)) (n-j) (c-j));clear k4 hb HPF HK HS;go_wp2;go_ret;exact HQ.out _ _ ⟨rfl,HPW.out,HSW.out⟩
def J6b(w:World)(g B:Nat)(xs:List Int)(q:List Int×Rd)(e:Ending)(w':World):Prop:=∃v,e=.returned v∧P0a .u8 5 w' w.heap.size v q.1∧PF w' g B xs q.2∧R0a g w w'
theorem Z8b(A:Option Addr)(k:Nat)(ys:List Int):Q3a (o1a [(A,k,k,ys)]) 1=ys:=by
 show[]++ys=ys
 rfl
theorem j3b(w:World)(g B:Nat)(xs:List Int)(r:Rd)(hx:Bytes xs)(hP:PF w g B xs r) :
  Calls Tryz.prog 159 #[.pointer (some ⟨g,0,none⟩)] w (J6b w g B xs (R3a xs r)):=by
 have hlt:=hP.lt;have hBg:=hP.2.1;have C1:=i3b w g B xs r 4 32768 hx hP (by decide) (by decide);obtain⟨m0,m1⟩:=W2a hx 4 32768 3 r (by decide) (by decide);unfold Y0b at C1;have hq:∀e w',J6b w g B xs (z0a xs (a1a xs 4 32768 3 r).1.toNat (a1a xs 4 32768 3 r).2) e w'→J6b w g B xs (R3a xs r) e w':=λ_ _ h=>h
 obtain⟨q,hqq⟩:∃q,q=a1a xs 4 32768 3 r:=⟨_,rfl⟩;rw[←hqq] at C1 m0 m1 hq;obtain⟨z,p⟩:=q;change 0≤z at m0
 change z≤32768 at m1
 obtain⟨m,rfl⟩:=Int.eq_ofNat_of_zero_le m0;change ∀e w',J6b w g B xs (z0a xs ((m:Int)).toNat p) e w'→_ at hq
 rw[Int.toNat_natCast] at hq;have hm:m≤32768:=by omega
 have CC:Hid (∀w,PF w g B xs p→Calls Tryz.prog 202 #[.pointer (some ⟨g,0,none⟩),.int .i64 (m:Int)] w (s7a w g B xs (z0a xs m p))):=λw h=>t2b w g B xs p m h (by omega)
 have hyl:(z0a xs m p).1.length≤m:=j5a;have HQ:Hid (∀e w',(∃v,e=.returned v∧P0a .u8 5 w' w.heap.size v (z0a xs m p).1∧PF w' g B xs (z0a xs m p).2∧R0a g w w')→J6b w g B xs (R3a xs r) e w'):=λe w' h=>hq e w' h
 obtain⟨d,hd⟩:∃d,d=z0a xs m p:=⟨_,rfl⟩;rw[←hd] at CC HQ hyl;obtain⟨ys,q⟩:=d;change ys.length≤m at hyl
 have C1':=hI C1;clear C1 hqq hq hd hP m0 m1;go_enter Tryz.func159,Tryz.ntmps159;go_wp2_with fail;refine C1'.out.mono ?_;rintro e w1 ⟨rfl,hP1,hO1⟩;have HP1:=hI hP1;have HO1:=hI hO1;clear hP1 hO1 C1';go_wp2_with fail;refine(CC.out w1 HP1.out).mono ?_;rintro e w2 ⟨A',k,rfl,hk,hH,hP2,hO2⟩;have HH:=hI hH;have HP2:=hI hP2;have HS2:Hid (R0a g w w2):=(R0a.of_only HO1.out).trans (R0a.of_only hO2);have HKY:Hid (k=ys.length):=hk;have hk3:k≤32768:=by rw[hk];exact Nat.le_trans hyl hm
 clear hH hP2 hO2 HO1 HP1 CC hk;have hsz:w.heap.size≤w2.heap.size:=HS2.out.size;have hB2:B≤w2.heap.size:=by omega
 go_wp2_with(first
  | ((with_reducible apply sN 7);refine G2a rfl 1 _ rfl [(A',k,k,ys)] rfl (by kernel_rfl) (λp hp=>by rw[List.mem_singleton.1 hp];exact HH.out.mono hB2) ?_;intro g3 w3 hP3 L3))
 have HCC:=hI (R2a w3 g3 1 _ _ _ _ hP3.out (by decide) (by show 0+k≤_;omega));have HP3:=hI (HP2.out.below L3.out);have HS3:=hI (HS2.out.trans (R0a.of_below L3.out g));have hsz3:=L3.out.size;clear hP3 L3 HH;go_wp2_with fail;refine HCC.out.mono ?_;rintro e w4 ⟨v,rfl,hv,L4⟩;rw[Z8b] at hv;have HV:=hI (P0a.mono hv (Nat.le_trans hsz hsz3));have HP4:=hI (HP3.out.below L4);have HS4:=hI (HS3.out.trans (R0a.of_below L4 g));clear hv L4 HCC HP3 HS3;go_wp2;go_ret;exact HQ.out _ _ ⟨_,rfl,HV.out,HP4.out,HS4.out⟩
theorem PF.belowAt{w w':World}{g B b:Nat}{xs:List Int}{r:Rd}(h:PF w g B xs r)(hb:Below b w w')(hg:g<b):PF w' g B xs r:=by obtain⟨h1,h2,A,n,c,hB,hx⟩:=h;exact⟨h1,h2,A,n,c,hB.below hb hg,hx.below (hb.mono (by omega))⟩
theorem c1a.oneLock{w:World}{g:Nat}{T:TypeId}{l:A2a}(h:Blk w g T (I0a l)):c1a I0a 4 w (g+1) (some ⟨g,0,none⟩) 1 1 [l]:=by
 refine⟨rfl,Nat.le_refl _,λhA=>(by cases hA),λ_=>⟨g,0,rfl,by omega,λi x hx j u hu=>?_⟩⟩;have hi:i=0:=by have:=(List.getElem?_eq_some_iff.1 hx).1;simpa using this
 subst hi;have hx2:l=x:=by simpa using hx
 subst hx2;rw[Nat.zero_mul,Nat.zero_add,Nat.zero_add,h.cell];exact hu
def k3b(w:World)(g B:Nat)(xs:List Int)(q:List A2a×Rd)(e:Ending)(w':World):Prop:=∃v,e=.returned v∧r5a I0a 4 122 w' w.heap.size v q.1∧PF w' g B xs q.2∧R0a g w w'
theorem F5b(w:World)(g B:Nat)(xs:List Int)(r:Rd)(hx:Bytes xs)(hP:PF w g B xs r) :
  Calls Tryz.prog 160 #[.pointer (some ⟨g,0,none⟩)] w (k3b w g B xs (w6a xs r)):=by
 have hlt:=hP.lt;have hBg:=hP.2.1;have C1:=i3b w g B xs r 2 16 hx hP (by decide) (by decide);obtain⟨m0,m1⟩:=W2a hx 2 16 3 r (by decide) (by decide);unfold Y0b at C1;have hq:∀e w',k3b w g B xs (Q1a xs (rdZ xs 2 (a1a xs 2 16 3 r).2) (a1a xs 2 16 3 r).1.toNat) e w'→k3b w g B xs (w6a xs r) e w':=λ_ _ h=>h
 obtain⟨q,hqq⟩:∃q,q=a1a xs 2 16 3 r:=⟨_,rfl⟩;rw[←hqq] at C1 m0 m1 hq;obtain⟨z,p⟩:=q;change 0≤z at m0
 change z≤16 at m1
 obtain⟨N,rfl⟩:=Int.eq_ofNat_of_zero_le m0;change ∀e w',k3b w g B xs (Q1a xs (rdZ xs 2 p) ((N:Int)).toNat) e w'→_ at hq
 rw[Int.toNat_natCast] at hq;have hN:N≤16:=by omega
 have CZ:Hid (∀(w:World) (r:Rd),PF w g B xs r→Calls Tryz.prog 157 #[.pointer (some ⟨g,0,none⟩),.int .i64 2] w λe w'=>e=.returned (.tuple #[])∧PF w' g B xs (rdZ xs 2 r)∧a2a g w w'):=λw r h=>C5a w g B xs r 2 hx h (by decide)
 have C8:Hid (∀(w:World) (r:Rd),PF w g B xs r→Calls Tryz.prog 156 #[.pointer (some ⟨g,0,none⟩)] w λe w'=>e=.returned (.int .u64 (rdN xs 8 r).1)∧PF w' g B xs (rdN xs 8 r).2∧a2a g w w'):=λw r h=>Z2a w g B xs r hx h
 have C2:Hid (∀(w:World) (r:Rd),PF w g B xs r→Calls Tryz.prog 204 #[.pointer (some ⟨g,0,none⟩)] w λe w'=>e=.returned (.int .u16 (rdN xs 2 r).1)∧PF w' g B xs (rdN xs 2 r).2∧a2a g w w'):=λw r h=>P4b w g B xs r hx h
 have HQ:Hid (∀e w',(∃v,e=.returned v∧r5a I0a 4 122 w' w.heap.size v (Q1a xs (rdZ xs 2 p) N).1∧PF w' g B xs (Q1a xs (rdZ xs 2 p) N).2∧R0a g w w')→k3b w g B xs (w6a xs r) e w'):=λe w' h=>hq e w' h
 obtain⟨qz,hqz⟩:∃q,q=rdZ xs 2 p:=⟨_,rfl⟩;rw[←hqz] at HQ;have HQZ:=hI hqz;have HST:Hid (∀j,(Q1a xs qz (j+1)).1=(Q1a xs qz j).1++[(⟨0,(rdN xs 8 (Q1a xs qz j).2).1,(rdN xs 8 (rdN xs 8 (Q1a xs qz j).2).2).1,(rdN xs 2 (rdN xs 8 (rdN xs 8 (Q1a xs qz j).2).2).2).1⟩:A2a)]∧(Q1a xs qz (j+1)).2=rdZ xs 2 (rdN xs 2 (rdN xs 8 (rdN xs 8 (Q1a xs qz j).2).2).2).2):=λj=>⟨rfl,rfl⟩
 have HLN:Hid (∀j,(Q1a xs qz j).1.length=j):=λj=>A0b j
 obtain⟨lk,hlk⟩:∃f,f=Q1a xs qz:=⟨_,rfl⟩;have H0:Hid (lk 0=([],qz)):=by show _=_;rw[hlk];rfl
 rw[←hlk] at HST HLN HQ;have BL:∀x y z:Int,Tryz.prog.built 122 [(1,.int .u64 x),(2,.int .u64 y),(3,.int .u16 z)]=some (I0a ⟨0,x,y,z⟩).toArray:=λx y z=>by kernel_rfl
 have BS:∀l:A2a,Tryz.prog.builtSlice 122 1 [(0,.agg (I0a l).toArray)]=some (I0a l).toArray:=λl=>by kernel_rfl
 have C1':=hI C1;clear C1 hqq hq hqz hlk hP m0 m1;go_enter Tryz.func160,Tryz.ntmps160;go_wp2_with fail;refine C1'.out.mono ?_;rintro e w1 ⟨rfl,hP1,hO1⟩;have HP1:=hI hP1;have HO1:=hI hO1;clear hP1 hO1 C1';go_wp2_with fail;refine(CZ.out w1 p HP1.out).mono ?_;rintro e w2 ⟨rfl,hP2,hO2⟩;rw[←HQZ.out] at hP2;have HP2:=hI hP2;have HS2:Hid (R0a g w w2):=(R0a.of_only HO1.out).trans (R0a.of_only hO2);clear hP2 hO2 HO1 HP1 HQZ;go_wp2;go_loopw [3,10] (λv i wr=>∃j:Nat,i=.int .i64 j∧j≤N∧Hid (r5a I0a 4 122 wr w.heap.size v (lk j).1)∧Hid (PF wr g B xs (lk j).2)∧Hid (R0a g w wr)) (λ_ i _=>N-(intOf i).toNat)
 case atStart=>exact⟨0,rfl,Nat.zero_le _,by rw[H0.out];exact r5a.nil _ _ _ _ _,by rw[H0.out];exact HP2,HS2⟩
 case round=>
  obtain⟨j,rfl,hj,HO,HP,HS⟩:=hrel;by_cases hlt2:j<N
  ·obtain⟨E1,E2⟩:=HST.out j;have hLn:=HLN.out j;have HE1:=hI E1;have HE2:=hI E2;obtain⟨r0,hr0⟩:∃r,r=(lk j).2:=⟨_,rfl⟩;rw[←hr0] at HP HE1 HE2;obtain⟨L,hL⟩:∃r,r=(lk j).1:=⟨_,rfl⟩;rw[←hL] at HO HE1 hLn;obtain⟨r1,hr1⟩:∃r,r=rdN xs 8 r0:=⟨_,rfl⟩;rw[←hr1] at HE1 HE2;have D1:=C8.out wr r0 HP.out;rw[←hr1] at D1;obtain⟨r2,hr2⟩:∃r,r=rdN xs 8 r1.2:=⟨_,rfl⟩;rw[←hr2] at HE1 HE2;have D2:=λw h=>C8.out w r1.2 h
   rw[←hr2] at D2;obtain⟨r3,hr3⟩:∃r,r=rdN xs 2 r2.2:=⟨_,rfl⟩;rw[←hr3] at HE1 HE2;have D3:=λw h=>C2.out w r2.2 h
   rw[←hr3] at D3;have D4:=λw h=>CZ.out w r3.2 h
   rw[←HE2.out] at D4;have D1':=hI D1;have D2':=hI D2;have D3':=hI D3;have D4':=hI D4;have hsz:=HS.out.size;clear E1 E2 hr0 hL hr1 hr2 hr3 D1 D2 D3 D4 HE2;go_wp2_with fail;refine D1'.out.mono ?_;rintro e v1 ⟨rfl,hP1,hO1⟩;have HPa:=hI hP1;have HSa:=hI (HS.out.trans (R0a.of_only hO1));have HOa:=hI (HO.out.only hO1 hlt);clear hP1 hO1 D1' HO HP;go_wp2_with fail;refine(D2'.out v1 HPa.out).mono ?_;rintro e v2 ⟨rfl,hP1,hO1⟩;have HPb:=hI hP1;have HSb:=hI (HSa.out.trans (R0a.of_only hO1));have HOb:=hI (HOa.out.only hO1 hlt);clear hP1 hO1 D2' HOa HPa HSa;go_wp2_with fail;refine(D3'.out v2 HPb.out).mono ?_;rintro e v3 ⟨rfl,hP1,hO1⟩;have HPc:=hI hP1;have HSc:=hI (HSb.out.trans (R0a.of_only hO1));have HOc:=hI (HOb.out.only hO1 hlt);clear hP1 hO1 D3' HOb HPb HSb;obtain⟨l,hl⟩:∃l:A2a,l=⟨0,r1.1,r2.1,r3.1⟩:=⟨_,rfl⟩;rw[←hl] at HE1;have BLl:=BL r1.1 r2.1 r3.1;rw[←hl] at BLl;have hszc:=HSc.out.size;clear hl;go_wp2_with(first
    | ((with_reducible apply sN 19);refine k0a rfl _ _ rfl (I0a l) (by refine Eq.trans ?_ BLl;kernel_rfl) ?_)
    | ((with_reducible apply sN 20);refine q1a rfl _ _ 1 _ rfl Tryz.underlying32 (I0a l) (by refine Eq.trans ?_ (BS l);kernel_rfl) ?_;intro gl v4 hgl1 hgl2 K4 L4;have HOd:=hI (HOc.out.below L4.out);have HPd:=hI (HPc.out.below L4.out);have HSd:=hI (HSc.out.trans (R0a.of_below L4.out g));have hszd:=HSd.out.size)
    | (at_builtin;refine m7a rfl (.tmp 12) (.tmp 20) I0a 4 (by omega) v5a O7a _ rfl 32 122 32 Tryz.underlying32 x6b rfl w.heap.size _ L rfl HOd.out (gl+1) _ 1 1 [l] rfl (c1a.oneLock K4.out) (by rw[hLn];show(j+1)*32≤_;omega) (by rw[hLn];show j+1≤_;omega) hszd ?_;intro u5 v5 HOe L5))
   have HPe:=hI (PF.belowAt HPd.out L5.out hlt);have HSe:=hI (R0a.thenBelow HSd.out L5.out);clear HOd HPd HSd HPc HSc HOc K4 L4 L5 BLl;refine(D4'.out v5 HPe.out).mono ?_;rintro e v6 ⟨rfl,hP1,hO1⟩;have HPf:=hI hP1;have HSf:=hI (HSe.out.trans (R0a.of_only hO1));have HOf:=hI (HOe.out.only hO1 hlt);rw[←HE1.out] at HOf;clear hP1 hO1 D4' HOe HPe HSe HE1;go_wp2;go_roundw
   case rel=>exact⟨j+1,by simp,by omega,HOf,HPf,HSf⟩
   case measure=>simp[intOf];omega
  ·obtain rfl:j=N:=by omega
   go_wp2;go_ret;exact HQ.out _ _ ⟨_,rfl,HO.out,HP.out,HS.out⟩
def d2a(w:World)(c:Int)(xs:List Int)(e:Ending)(w':World):Prop:=∃cs vx,e=.returned (.tuple #[.agg cs.toArray,.int .i64 (B5a c xs)])∧j1a w' w'.heap.size cs (x6a c xs)∧cs[61]? = some vx∧P0a .u8 5 w' w.heap.size vx (x6a c xs).data∧Below w.heap.size w w'∧(∀b off s n c,cs[62]? = some (.slice (some ⟨b,off,s⟩) n c)→w.heap.size≤b)
def J2a(w:World)(c:Int)(xs:List Int)(e:Ending)(w':World):Prop:=∃cs vx,e=.returned (.tuple #[.agg cs.toArray,.int .i64 (y6a c xs)])∧w1a w' w'.heap.size cs (z0b c xs)∧cs[15]? = some vx∧P0a .u8 5 w' w.heap.size vx (z0b c xs).data∧Below w.heap.size w w'
theorem P0a.onlyAt{k:IntKind}{e:TypeId}{w w':World}{base b:Nat}{v:Value}{xs:List Int}(h:P0a k e w base v xs)(hO:a2a b w w')(hb:b<base):P0a k e w' base v xs:=
 h.keep λi cs hi hc=>hO.rest i (by obtain⟨h1,_⟩:=h.own.block hi;omega)
theorem a9b{xs:List Int}{r:Rd}(h:M0a xs r=0):r.e=0:=D3a h
theorem Q9b{xs:List Int}{s:Nat}{r:Rd}(h:(rdN xs s r).2.e=0):r.e=0:=by
 by_cases he:r.e=0
 ·exact he
 ·rw[e3b he] at h;exact h
theorem x0c{xs:List Int}{m:Nat}{r:Rd}(h:(rdZ xs m r).e=0):r.e=0:=by
 by_cases he:r.e=0
 ·exact he
 ·rw[f3b he] at h;exact h
theorem R9b{xs:List Int}{m:Int}{r:Rd}(h:(x9a xs m r).2.e=0):r.e=0:=by
 by_cases he:r.e=0
 ·exact he
 ·rw[A5b he] at h;exact h
theorem K6b:(Tryz.prog.info? 165).map (λi=>(i.zero,i.size))=some (some (.agg ([.slice none 0 0,.int .i64 0]:List Value).toArray),2):=by kernel_rfl
theorem F4a:(Tryz.prog.info? 165).map (·.size)=some 2:=by kernel_rfl
theorem Q4b{xs:List Int}(h:M0a xs (s7 xs)=0):(s3 xs).1≤2∧(s6 xs).1≤2:=by have h7:(s6 xs).2.e=0:=x0c (a9b h);have h6:=g4b h7;have h5:(s4 xs).2.e=0:=Q9b (R9b h7);have h3:=g4b (Q9b h5);exact⟨by rw[show s3 xs=rdN xs 2 (s2 xs).2 from h3.2.2];exact h3.2.1,by rw[show s6 xs=rdN xs 2 (s5 xs).2 from h6.2.2];exact h6.2.1⟩
theorem s4a{w:World}{base:Nat}{v:Value}{xs:List Int}(h:P0a .u8 5 w base v xs):v.oneCell'=true:=by rcases h with⟨rfl,_⟩ | ⟨g,m,rfl,_⟩<;>rfl
theorem R4b{w:World}{base:Nat}{v:Value}{xs:List A2a}(h:r5a I0a 4 122 w base v xs):v.oneCell'=true:=by obtain⟨_,_,_,rfl,_⟩:=r5a.holds (by decide) v5a h;rfl
theorem h8a{xs:List Int}(hx:Bytes xs)(r:Rd):Bytes (R3a xs r).1∧(R3a xs r).1.length≤32768:=by
 obtain⟨m0,m1⟩:=W2a hx 4 32768 3 r (by decide) (by decide);refine⟨o2a hx _ _,?_⟩;have h:=j5a (xs:=xs) (m:=(a1a xs 4 32768 3 r).1.toNat) (r:=(a1a xs 4 32768 3 r).2);show(z0a xs (a1a xs 4 32768 3 r).1.toNat (a1a xs 4 32768 3 r).2).1.length≤_
 omega
theorem l3b(w:World)(c:Int)(A:Option Addr)(n k:Nat)(xs:List Int)(hc:0≤c∧c≤65535)(hx:Holds w w.heap.size A n k xs) :
  Calls Tryz.prog 108 #[.int .u16 c,.slice A n k] w (d2a w c xs):=by
 have hby:=hx.byte;have HX:=hI hx;have hmf:∀(fn:Fn) (first cap:Array Value) (w:World),(Instr.makeFunc fn first cap).run Tryz.prog w=.ok (.func fn first cap) w:=λ_ _ _ _=>rfl
 have ZH:=hI Q7a;have BZ:=R7a;have ZR:=hI K6b;have HZ:Hid ((o0a (.slice none 0 0) (.slice none 0 0) (.slice none 0 0) j0a).length=69):=P1a h0a;have HZ1:Hid (∀v∈o0a (.slice none 0 0) (.slice none 0 0) (.slice none 0 0) j0a,v.oneCell'=true):=(h2a w 0).one;have HZI:Hid (∀w':World,j1a w' w'.heap.size (o0a (.slice none 0 0) (.slice none 0 0) (.slice none 0 0) j0a) j0a):=λw'=>h2a w' _
 have HZD:Hid ((o0a (.slice none 0 0) (.slice none 0 0) (.slice none 0 0) j0a)[61]? = some (.slice none 0 0)):=rfl;have BR:Tryz.prog.built 165 [(0,.slice A n k)]=some ([.slice A n k,.int .i64 0]:List Value).toArray:=by kernel_rfl
 have HR0:Hid (([.slice none 0 0,.int .i64 0]:List Value).length=2):=rfl;have HR1:Hid (([.slice A n k,.int .i64 0]:List Value).length=2):=rfl;have HR2:Hid (∀v∈([.slice A n k,.int .i64 0]:List Value),v.oneCell'=true):=by
  intro v hv;rcases List.mem_cons.1 hv with rfl | hv
  ·rfl
  ·rw[List.mem_singleton.1 hv];rfl
 have HE:Hid (∀er,B5a c xs=er→er≠0→∀e w',e=.returned (.tuple #[.agg (o0a (.slice none 0 0) (.slice none 0 0) (.slice none 0 0) j0a).toArray,.int .i64 er])→Below w.heap.size w w'→d2a w c xs e w'):=by intro er h1 h2 e w' he hb;unfold d2a x6a;rw[h1,if_neg h2];exact⟨_,_,he,HZI.out w',HZD.out,P0a.nil _ _ _ _,hb,λb off s n c h=>by have h2:some (Value.slice none 0 0)=some (Value.slice (some ⟨b,off,s⟩) n c):=h;cases h2⟩
 obtain⟨zs,hzs⟩:∃zs,zs=o0a (.slice none 0 0) (.slice none 0 0) (.slice none 0 0) j0a:=⟨_,rfl⟩;have HZS:=hI hzs;rw[←hzs] at ZH BZ HZ HZ1 HE;clear hzs HZI HZD;by_cases hk:I2a c=true;rotate_left
 ·have HQ:=hI (HE.out 2 (by unfold B5a;rw[if_neg hk]) (by decide));have hk':c≠5∧c≠6∧c≠7∧c≠8∧c≠9∧c≠10:=by refine⟨?_,?_,?_,?_,?_,?_⟩<;>(rintro rfl;exact hk (by decide))
  obtain⟨h5,h6,h7,h8,h9,h10⟩:=hk';have b5:(c==5)=false:=by simpa using h5
  have b6:(c==6)=false:=by simpa using h6
  have b7:(c==7)=false:=by simpa using h7
  have b8:(c==8)=false:=by simpa using h8
  have b9:(c==9)=false:=by simpa using h9
  have b10:(c==10)=false:=by simpa using h10
  clear hk HE hx h5 h6 h7 h8 h9 h10;go_enter Tryz.func108,Tryz.ntmps108;go_wp2_with(first
   | ((with_reducible apply sN 4);refine a0a rfl _ rfl zs _ ZH ?_;intro h w1 hg1 hg2 Z1 L1)
   | ((with_reducible apply sN 6);refine a0a rfl _ rfl zs _ ZH ?_;intro a w2 hg3 hg4 K2 L02;have Z2:=hI (Z1.out.over L02.out);have L2:=hI (step L1.out L02.out);have hha:h≠a:=(by omega);have hwa:w.heap.size≤a:=(by have:=L1.out.size;omega);have hsz2:=L2.out.size)
   | ((with_reducible apply sN 13);refine k0a rfl _ _ rfl ([.slice A n k,.int .i64 0]:List Value) (by refine Eq.trans ?_ BR;kernel_rfl) ?_)
   | ((with_reducible apply sN 7);refine a0a rfl _ rfl ([.slice none 0 0,.int .i64 0]:List Value) _ ZR ?_;intro g w3 hg5 hg6 R3 L03;have K3:=hI (K2.out.over L03.out);have Z3:=hI (Z2.out.over L03.out);have L3:=hI (step L2.out L03.out);have hag:a≠g:=(by omega);have hhg:h≠g:=(by have:=Z2.out.lt;omega);have hwg:w.heap.size≤g:=(by omega))
   | ((with_reducible apply sT 7);refine b0a rfl _ (.tmp 7) (.tmp 13) rfl g rfl _ ([.slice none 0 0,.int .i64 0]:List Value) ([.slice A n k,.int .i64 0]:List Value) rfl R3 2 F4a HR0 HR1 HR2 ?_;intro w4 R4 O4 hg7;have K4:=hI (K3.out.only O4.out hag);have Z4:=hI (Z3.out.only O4.out hhg);have L4:=hI (c0a L3.out O4.out hwg))
   | ((with_reducible apply sN 18);refine x0a rfl _ rfl zs BZ ?_)
   | ((with_reducible apply sT 4);refine b0a rfl _ (.tmp 4) (.tmp 18) rfl h rfl _ zs zs rfl Z4 69 p0a HZ HZ HZ1 ?_;intro w10 K10 O10 hg10))
  refine bodyPost_ret (v:=.tuple #[.agg zs.toArray,.int .i64 2]) ?_ rfl (HQ.out _ _ rfl (c0a L4.out O10.out (by omega)));exact m0a rfl _ _ h _ _ (0,0) _ rfl K10.out Tryz.underlying34 rfl (by rw[p0a];have:=HZ.out;simp[this]) rfl
 have hcs:c=5∨(c=6∨c=7)∨c=8∨c=9∨c=10:=by unfold I2a at hk;simp at hk;omega
 rcases hcs with h5 | hgr | h8 | h9 | h10
 ·subst h5;have D1:Hid (∀(w':World) (g:Nat),PF w' g w.heap.size xs rd0→Calls Tryz.prog 155 #[.pointer (some ⟨g,0,none⟩)] w' λe w2=>e=.returned (.int .u32 (c1 xs).1)∧PF w2 g w.heap.size xs (c1 xs).2∧a2a g w' w2):=λw' g h=>k5a w' g w.heap.size xs _ hby h
  have D2:Hid (∀(w':World) (g:Nat),PF w' g w.heap.size xs (c1 xs).2→Calls Tryz.prog 155 #[.pointer (some ⟨g,0,none⟩)] w' λe w2=>e=.returned (.int .u32 (c2 xs).1)∧PF w2 g w.heap.size xs (c2 xs).2∧a2a g w' w2):=λw' g h=>k5a w' g w.heap.size xs _ hby h
  have D3:Hid (∀(w':World) (g:Nat),PF w' g w.heap.size xs (c2 xs).2→Calls Tryz.prog 155 #[.pointer (some ⟨g,0,none⟩)] w' λe w2=>e=.returned (.int .u32 (c3 xs).1)∧PF w2 g w.heap.size xs (c3 xs).2∧a2a g w' w2):=λw' g h=>k5a w' g w.heap.size xs _ hby h
  have D4:Hid (∀(w':World) (g:Nat),PF w' g w.heap.size xs (c3 xs).2→Calls Tryz.prog 155 #[.pointer (some ⟨g,0,none⟩)] w' λe w2=>e=.returned (.int .u32 (c4 xs).1)∧PF w2 g w.heap.size xs (c4 xs).2∧a2a g w' w2):=λw' g h=>k5a w' g w.heap.size xs _ hby h
  have D5:Hid (∀(w':World) (g:Nat),PF w' g w.heap.size xs (c4 xs).2→Calls Tryz.prog 154 #[.pointer (some ⟨g,0,none⟩)] w' λe w2=>e=.returned (.int .u8 (c5 xs).1)∧PF w2 g w.heap.size xs (c5 xs).2∧a2a g w' w2):=λw' g h=>F9a w' g w.heap.size xs _ hby h
  have D6:Hid (∀(w':World) (g:Nat),PF w' g w.heap.size xs (c5 xs).2→Calls Tryz.prog 154 #[.pointer (some ⟨g,0,none⟩)] w' λe w2=>e=.returned (.int .u8 (c6 xs).1)∧PF w2 g w.heap.size xs (c6 xs).2∧a2a g w' w2):=λw' g h=>F9a w' g w.heap.size xs _ hby h
  have D7:Hid (∀(w':World) (g:Nat),PF w' g w.heap.size xs (c6 xs).2→Calls Tryz.prog 157 #[.pointer (some ⟨g,0,none⟩),.int .i64 2] w' λe w2=>e=.returned (.tuple #[])∧PF w2 g w.heap.size xs (c7 xs)∧a2a g w' w2):=λw' g h=>C5a w' g w.heap.size xs _ 2 hby h (by decide)
  have D8:Hid (∀(w':World) (g:Nat),PF w' g w.heap.size xs (c7 xs)→Calls Tryz.prog 156 #[.pointer (some ⟨g,0,none⟩)] w' λe w2=>e=.returned (.int .u64 (c8 xs).1)∧PF w2 g w.heap.size xs (c8 xs).2∧a2a g w' w2):=λw' g h=>Z2a w' g w.heap.size xs _ hby h
  have D9:Hid (∀(w':World) (g:Nat),PF w' g w.heap.size xs (c8 xs).2→Calls Tryz.prog 158 #[.pointer (some ⟨g,0,none⟩)] w' λe w2=>e=.returned (.string ⟨(c9 xs).1.toArray⟩)∧PF w2 g w.heap.size xs (c9 xs).2∧R0a g w' w2):=λw' g h=>I6b w' g w.heap.size xs _ hby h
  have DE:Hid (∀(w':World) (g:Nat),PF w' g w.heap.size xs (c9 xs).2→Calls Tryz.prog 161 #[.pointer (some ⟨g,0,none⟩)] w' λe w2=>e=.returned (.int .i64 (M0a xs (c9 xs).2))∧w'=w2):=λw' g h=>r4a w' g w.heap.size xs _ h
  have hge:B5a 5 xs=M0a xs (c9 xs).2:=by unfold B5a;rw[if_pos hk];rfl
  have HQ:Hid (∀(cs:List Value) (vx:Value) (e:Ending) (w':World),M0a xs (c9 xs).2=0→e=.returned (.tuple #[.agg cs.toArray,.int .i64 0])→j1a w' w'.heap.size cs { j0a with acc:=(c1 xs).1,shr:=(c2 xs).1,way:=(c3 xs).1,opt:=(c4 xs).1,lev:=(c5 xs).1,dur:=(c6 xs).1,file:=(c8 xs).1,name:=⟨(c9 xs).1.toArray⟩ }→cs[61]? = some vx→P0a .u8 5 w' w.heap.size vx ({ j0a with acc:=(c1 xs).1,shr:=(c2 xs).1,way:=(c3 xs).1,opt:=(c4 xs).1,lev:=(c5 xs).1,dur:=(c6 xs).1,file:=(c8 xs).1,name:=⟨(c9 xs).1.toArray⟩ }).data→Below w.heap.size w w'→(∀b off s n c,cs[62]? = some (.slice (some ⟨b,off,s⟩) n c)→w.heap.size≤b)→d2a w 5 xs e w'):=by
   intro cs vx e w' h0 h1 h2 h3 h4 h5 h9;have ho:x6a 5 xs={ j0a with acc:=(c1 xs).1,shr:=(c2 xs).1,way:=(c3 xs).1,opt:=(c4 xs).1,lev:=(c5 xs).1,dur:=(c6 xs).1,file:=(c8 xs).1,name:=⟨(c9 xs).1.toArray⟩ }:=by unfold x6a;rw[hge,h0,if_pos rfl];rfl
   unfold d2a;rw[hge,h0,ho];exact⟨cs,vx,h1,h2,h3,h4,h5,h9⟩
  have HE':=hI (HE.out _ hge);obtain⟨er,her⟩:∃x,x=M0a xs (c9 xs).2:=⟨_,rfl⟩;rw[←her] at DE HQ HE';obtain⟨q1,hq1⟩:∃x,x=(c1 xs):=⟨_,rfl⟩;rw[←hq1] at D1 D2 HQ;obtain⟨q2,hq2⟩:∃x,x=(c2 xs):=⟨_,rfl⟩;rw[←hq2] at D2 D3 HQ;obtain⟨q3,hq3⟩:∃x,x=(c3 xs):=⟨_,rfl⟩;rw[←hq3] at D3 D4 HQ;obtain⟨q4,hq4⟩:∃x,x=(c4 xs):=⟨_,rfl⟩;rw[←hq4] at D4 D5 HQ;obtain⟨q5,hq5⟩:∃x,x=(c5 xs):=⟨_,rfl⟩;rw[←hq5] at D5 D6 HQ;obtain⟨q6,hq6⟩:∃x,x=(c6 xs):=⟨_,rfl⟩;rw[←hq6] at D6 D7 HQ;obtain⟨q7,hq7⟩:∃x,x=(c7 xs):=⟨_,rfl⟩;rw[←hq7] at D7 D8;obtain⟨q8,hq8⟩:∃x,x=(c8 xs):=⟨_,rfl⟩;rw[←hq8] at D8 D9 HQ;obtain⟨q9,hq9⟩:∃x,x=(c9 xs):=⟨_,rfl⟩;rw[←hq9] at D9 DE HQ;clear her hge HE hk hx hq1 hq2 hq3 hq4 hq5 hq6 hq7 hq8 hq9;go_enter Tryz.func108,Tryz.ntmps108;go_wp2_with(first
   | ((with_reducible apply sN 4);refine a0a rfl _ rfl zs _ ZH ?_;intro h w1 hg1 hg2 Z1 L1)
   | ((with_reducible apply sN 6);refine a0a rfl _ rfl zs _ ZH ?_;intro a w2 hg3 hg4 K2 L02;have Z2:=hI (Z1.out.over L02.out);have L2:=hI (step L1.out L02.out);have hha:h≠a:=(by omega);have hwa:w.heap.size≤a:=(by have:=L1.out.size;omega);have hsz2:=L2.out.size)
   | ((with_reducible apply sN 13);refine k0a rfl _ _ rfl ([.slice A n k,.int .i64 0]:List Value) (by refine Eq.trans ?_ BR;kernel_rfl) ?_)
   | ((with_reducible apply sN 7);refine a0a rfl _ rfl ([.slice none 0 0,.int .i64 0]:List Value) _ ZR ?_;intro g w3 hg5 hg6 R3 L03;have K3:=hI (K2.out.over L03.out);have Z3:=hI (Z2.out.over L03.out);have L3:=hI (step L2.out L03.out);have hag:a≠g:=(by omega);have hhg:h≠g:=(by have:=Z2.out.lt;omega);have hwg:w.heap.size≤g:=(by omega))
   | ((with_reducible apply sT 7);refine b0a rfl _ (.tmp 7) (.tmp 13) rfl g rfl _ ([.slice none 0 0,.int .i64 0]:List Value) ([.slice A n k,.int .i64 0]:List Value) rfl R3 2 F4a HR0 HR1 HR2 ?_;intro w4 R4 O4 hg7;have K4:=hI (K3.out.only O4.out hag);have Z4:=hI (Z3.out.only O4.out hhg);have L4:=hI (c0a L3.out O4.out hwg)))
  have P4:Hid (PF w4 g w.heap.size xs rd0):=⟨Nat.zero_le _,hwg,A,n,k,R4.out,HX.out.below L4.out⟩;clear R3 L03 K2 K3 Z1 Z2 Z3 L02 L1 L2 L3 R4 O4 HX;refine(D1.out w4 g P4.out).mono ?_;rintro e v1 ⟨rfl,hP,hO⟩;have hS:=R0a.of_only hO;have Pc1:=hI hP;have Zc1:=hI (Z4.out.save hS hhg);have Kc1:=hI (K4.out.save hS hag);have Lc1:=hI (L4.out.trans (hS.below hwg L4.out.size));clear hP hS P4 Z4 K4 L4 hO;go_wp2_with fail;refine(D2.out v1 g Pc1.out).mono ?_;rintro e v2 ⟨rfl,hP,hO⟩;have hS:=R0a.of_only hO;have Pc2:=hI hP;have Zc2:=hI (Zc1.out.save hS hhg);have Kc2:=hI (Kc1.out.save hS hag);have Lc2:=hI (Lc1.out.trans (hS.below hwg Lc1.out.size));clear hP hS Pc1 Zc1 Kc1 Lc1 hO;go_wp2_with fail;refine(D3.out v2 g Pc2.out).mono ?_;rintro e v3 ⟨rfl,hP,hO⟩;have hS:=R0a.of_only hO;have Pc3:=hI hP;have Zc3:=hI (Zc2.out.save hS hhg);have Kc3:=hI (Kc2.out.save hS hag);have Lc3:=hI (Lc2.out.trans (hS.below hwg Lc2.out.size));clear hP hS Pc2 Zc2 Kc2 Lc2 hO;go_wp2_with fail;refine(D4.out v3 g Pc3.out).mono ?_;rintro e v4 ⟨rfl,hP,hO⟩;have hS:=R0a.of_only hO;have Pc4:=hI hP;have Zc4:=hI (Zc3.out.save hS hhg);have Kc4:=hI (Kc3.out.save hS hag);have Lc4:=hI (Lc3.out.trans (hS.below hwg Lc3.out.size));clear hP hS Pc3 Zc3 Kc3 Lc3 hO;go_wp2_with(first
   | ((with_reducible apply sT 29);refine d0a rfl _ (.tmp 29) (.tmp 22) rfl a 51 rfl _ zs (.int .u32 q1.1) rfl Kc4 (hI (by have:=HZ.out;omega)) (by kernel_rfl) rfl ?_;intro x1 Ks1 Os1 hqs1;obtain⟨C1,hC1⟩:∃x,x=zs.set 51 (.int .u32 q1.1):=⟨_,rfl⟩;have HC1:=hI hC1;have HL1:Hid (C1.length=69):=(by rw[hC1,List.length_set];exact HZ.out);rw[←hC1] at Ks1;have Zs1:=hI (Zc4.out.only Os1.out hha);have Ps1:=hI (Pc4.out.only Os1.out (Ne.symm hag) hwa);have Ls1:=hI (c0a Lc4.out Os1.out hwa);clear hC1)
   | ((with_reducible apply sT 30);refine d0a rfl _ (.tmp 30) (.tmp 24) rfl a 52 rfl _ C1 (.int .u32 q2.1) rfl Ks1 (hI (by have:=HL1.out;omega)) (by kernel_rfl) rfl ?_;intro x2 Ks2 Os2 hqs2;obtain⟨C2,hC2⟩:∃x,x=C1.set 52 (.int .u32 q2.1):=⟨_,rfl⟩;have HC2:=hI hC2;have HL2:Hid (C2.length=69):=(by rw[hC2,List.length_set];exact HL1.out);rw[←hC2] at Ks2;have Zs2:=hI (Zs1.out.only Os2.out hha);have Ps2:=hI (Ps1.out.only Os2.out (Ne.symm hag) hwa);have Ls2:=hI (c0a Ls1.out Os2.out hwa);clear hC2)
   | ((with_reducible apply sT 31);refine d0a rfl _ (.tmp 31) (.tmp 26) rfl a 53 rfl _ C2 (.int .u32 q3.1) rfl Ks2 (hI (by have:=HL2.out;omega)) (by kernel_rfl) rfl ?_;intro x3 Ks3 Os3 hqs3;obtain⟨C3,hC3⟩:∃x,x=C2.set 53 (.int .u32 q3.1):=⟨_,rfl⟩;have HC3:=hI hC3;have HL3:Hid (C3.length=69):=(by rw[hC3,List.length_set];exact HL2.out);rw[←hC3] at Ks3;have Zs3:=hI (Zs2.out.only Os3.out hha);have Ps3:=hI (Ps2.out.only Os3.out (Ne.symm hag) hwa);have Ls3:=hI (c0a Ls2.out Os3.out hwa);clear hC3)
   | ((with_reducible apply sT 32);refine d0a rfl _ (.tmp 32) (.tmp 28) rfl a 54 rfl _ C3 (.int .u32 q4.1) rfl Ks3 (hI (by have:=HL3.out;omega)) (by kernel_rfl) rfl ?_;intro x4 Ks4 Os4 hqs4;obtain⟨C4,hC4⟩:∃x,x=C3.set 54 (.int .u32 q4.1):=⟨_,rfl⟩;have HC4:=hI hC4;have HL4:Hid (C4.length=69):=(by rw[hC4,List.length_set];exact HL3.out);rw[←hC4] at Ks4;have Zs4:=hI (Zs3.out.only Os4.out hha);have Ps4:=hI (Ps3.out.only Os4.out (Ne.symm hag) hwa);have Ls4:=hI (c0a Ls3.out Os4.out hwa);clear hC4))
  refine(D5.out x4 g Ps4.out).mono ?_;rintro e v5 ⟨rfl,hP,hO⟩;have hS:=R0a.of_only hO;have Pc5:=hI hP;have Zc5:=hI (Zs4.out.save hS hhg);have Kc5:=hI (Ks4.out.save hS hag);have Lc5:=hI (Ls4.out.trans (hS.below hwg Ls4.out.size));clear hP hS Ps4 Zs4 Ks4 Ls4 hO;go_wp2_with fail;refine(D6.out v5 g Pc5.out).mono ?_;rintro e v6 ⟨rfl,hP,hO⟩;have hS:=R0a.of_only hO;have Pc6:=hI hP;have Zc6:=hI (Zc5.out.save hS hhg);have Kc6:=hI (Kc5.out.save hS hag);have Lc6:=hI (Lc5.out.trans (hS.below hwg Lc5.out.size));clear hP hS Pc5 Zc5 Kc5 Lc5 hO;go_wp2_with(first
   | ((with_reducible apply sT 37);refine d0a rfl _ (.tmp 37) (.tmp 34) rfl a 55 rfl _ C4 (.int .u8 q5.1) rfl Kc6 (hI (by have:=HL4.out;omega)) (by kernel_rfl) rfl ?_;intro x5 Ks5 Os5 hqs5;obtain⟨C5,hC5⟩:∃x,x=C4.set 55 (.int .u8 q5.1):=⟨_,rfl⟩;have HC5:=hI hC5;have HL5:Hid (C5.length=69):=(by rw[hC5,List.length_set];exact HL4.out);rw[←hC5] at Ks5;have Zs5:=hI (Zc6.out.only Os5.out hha);have Ps5:=hI (Pc6.out.only Os5.out (Ne.symm hag) hwa);have Ls5:=hI (c0a Lc6.out Os5.out hwa);clear hC5)
   | ((with_reducible apply sT 38);refine d0a rfl _ (.tmp 38) (.tmp 36) rfl a 56 rfl _ C5 (.int .u8 q6.1) rfl Ks5 (hI (by have:=HL5.out;omega)) (by kernel_rfl) rfl ?_;intro x6 Ks6 Os6 hqs6;obtain⟨C6,hC6⟩:∃x,x=C5.set 56 (.int .u8 q6.1):=⟨_,rfl⟩;have HC6:=hI hC6;have HL6:Hid (C6.length=69):=(by rw[hC6,List.length_set];exact HL5.out);rw[←hC6] at Ks6;have Zs6:=hI (Zs5.out.only Os6.out hha);have Ps6:=hI (Ps5.out.only Os6.out (Ne.symm hag) hwa);have Ls6:=hI (c0a Ls5.out Os6.out hwa);clear hC6))
  refine(D7.out x6 g Ps6.out).mono ?_;rintro e v7 ⟨rfl,hP,hO⟩;have hS:=R0a.of_only hO;have Pc7:=hI hP;have Zc7:=hI (Zs6.out.save hS hhg);have Kc7:=hI (Ks6.out.save hS hag);have Lc7:=hI (Ls6.out.trans (hS.below hwg Ls6.out.size));clear hP hS Ps6 Zs6 Ks6 Ls6 hO;go_wp2_with fail;refine(D8.out v7 g Pc7.out).mono ?_;rintro e v8 ⟨rfl,hP,hO⟩;have hS:=R0a.of_only hO;have Pc8:=hI hP;have Zc8:=hI (Zc7.out.save hS hhg);have Kc8:=hI (Kc7.out.save hS hag);have Lc8:=hI (Lc7.out.trans (hS.below hwg Lc7.out.size));clear hP hS Pc7 Zc7 Kc7 Lc7 hO;go_wp2_with(first
   | ((with_reducible apply sT 42);refine d0a rfl _ (.tmp 42) (.tmp 41) rfl a 57 rfl _ C6 (.int .u64 q8.1) rfl Kc8 (hI (by have:=HL6.out;omega)) (by kernel_rfl) rfl ?_;intro x7 Ks7 Os7 hqs7;obtain⟨C7,hC7⟩:∃x,x=C6.set 57 (.int .u64 q8.1):=⟨_,rfl⟩;have HC7:=hI hC7;have HL7:Hid (C7.length=69):=(by rw[hC7,List.length_set];exact HL6.out);rw[←hC7] at Ks7;have Zs7:=hI (Zc8.out.only Os7.out hha);have Ps7:=hI (Pc8.out.only Os7.out (Ne.symm hag) hwa);have Ls7:=hI (c0a Lc8.out Os7.out hwa);clear hC7))
  refine(D9.out x7 g Ps7.out).mono ?_;rintro e v9 ⟨rfl,hP,hS⟩;have Pc9:=hI hP;have Zc9:=hI (Zs7.out.save hS hhg);have Kc9:=hI (Ks7.out.save hS hag);have Lc9:=hI (Ls7.out.trans (hS.below hwg Ls7.out.size));clear hP hS Ps7 Zs7 Ks7 Ls7;go_wp2_with(first
   | ((with_reducible apply sT 44);refine d0a rfl _ (.tmp 44) (.tmp 43) rfl a 58 rfl _ C7 (.string ⟨q9.1.toArray⟩) rfl Kc9 (hI (by have:=HL7.out;omega)) (by kernel_rfl) rfl ?_;intro x8 Ks8 Os8 hqs8;obtain⟨C8,hC8⟩:∃x,x=C7.set 58 (.string ⟨q9.1.toArray⟩):=⟨_,rfl⟩;have HC8:=hI hC8;have HL8:Hid (C8.length=69):=(by rw[hC8,List.length_set];exact HL7.out);rw[←hC8] at Ks8;have Zs8:=hI (Zc9.out.only Os8.out hha);have Ps8:=hI (Pc9.out.only Os8.out (Ne.symm hag) hwa);have Ls8:=hI (c0a Lc9.out Os8.out hwa);clear hC8))
  refine(DE.out x8 g Ps8.out).mono ?_;rintro e x8' ⟨rfl,rfl⟩;by_cases he:er=0;rotate_left
  ·have hne:(er != 0)=true:=by simpa using he
   have HN:=hI (HE'.out he);clear he HE' HQ;go_wp2_with(first
    | ((with_reducible apply sN 82);refine x0a rfl _ rfl zs BZ ?_)
    | ((with_reducible apply sT 4);refine b0a rfl _ (.tmp 4) (.tmp 82) rfl h rfl _ zs zs rfl Zs8 69 p0a HZ HZ HZ1 ?_;intro w10 K10 O10 hg10))
   refine bodyPost_ret (v:=.tuple #[.agg zs.toArray,.int .i64 er]) ?_ rfl (HN.out _ _ rfl (c0a Ls8.out O10.out (by omega)));exact m0a rfl _ _ h _ _ (0,0) _ rfl K10.out Tryz.underlying34 rfl (by rw[p0a];have:=HZ.out;simp[this]) rfl
  ·subst he;have HEQ:Hid (C8=o0a (.slice none 0 0) (.slice none 0 0) (.slice none 0 0) { j0a with acc:=q1.1,shr:=q2.1,way:=q3.1,opt:=q4.1,lev:=q5.1,dur:=q6.1,file:=q8.1,name:=⟨q9.1.toArray⟩ }):=by
    show _=_
    rw[HC8.out,HC7.out,HC6.out,HC5.out,HC4.out,HC3.out,HC2.out,HC1.out,HZS.out];rfl
   have H1C:Hid (∀v∈C8,v.oneCell'=true):=by
    show _
    rw[HEQ.out];exact B1a rfl rfl rfl
   go_wp2_with(first
    | ((with_reducible apply sN 84);refine f0a rfl _ (.tmp 6) rfl a rfl _ C8 Ks8 69 _ Tryz.underlying34 rfl p0a HL8 ?_)
    | ((with_reducible apply sT 4);refine b0a rfl _ (.tmp 4) (.tmp 84) rfl h rfl _ zs C8 rfl Zs8 69 p0a HZ HL8 H1C ?_;intro w10 K10 O10 hg10))
   refine bodyPost_ret (v:=.tuple #[.agg C8.toArray,.int .i64 0]) ?_ rfl ?_
   ·exact m0a rfl _ _ h _ _ (0,0) _ rfl K10.out Tryz.underlying34 rfl (by rw[p0a];have:=HL8.out;simp[this]) rfl
   ·have LF:Below w.heap.size w w10:=c0a Ls8.out O10.out (by omega);exact HQ.out C8 (.slice none 0 0) _ _ (by trivial) rfl ⟨none,0,0,none,0,0,none,0,0,by rw[HEQ.out],L1a.nil _ _ _,Holds.nil _ _,c1a.nil _ _ _ _⟩ (by rw[HEQ.out];rfl) (P0a.nil _ _ _ _) LF (λb off s n c h=>by rw[HEQ.out] at h;have h2:some (Value.slice none 0 0)=some (Value.slice (some ⟨b,off,s⟩) n c):=h;cases h2)
 ·have hge:B5a c xs=M0a xs (o1 xs).2:=by unfold B5a;rw[if_pos hk];rcases hgr with rfl | rfl<;>rfl
  have hgo:M0a xs (o1 xs).2=0→x6a c xs={ j0a with file:=(o1 xs).1 }:=λh0=>by unfold x6a;rw[hge,h0,if_pos rfl];rcases hgr with rfl | rfl<;>rfl
  obtain⟨cq,hcq⟩:∃x,x=c:=⟨_,rfl⟩;rw[show d2a w c xs=d2a w cq xs by rw[hcq]];rw[←hcq] at HE hk hge hgo;clear hcq hc;rcases hgr with rfl | rfl
  all_goals
   have D1:Hid (∀(w':World) (g:Nat),PF w' g w.heap.size xs rd0→Calls Tryz.prog 156 #[.pointer (some ⟨g,0,none⟩)] w' λe w2=>e=.returned (.int .u64 (o1 xs).1)∧PF w2 g w.heap.size xs (o1 xs).2∧a2a g w' w2):=λw' g h=>Z2a w' g w.heap.size xs _ hby h
   have DE:Hid (∀(w':World) (g:Nat),PF w' g w.heap.size xs (o1 xs).2→Calls Tryz.prog 161 #[.pointer (some ⟨g,0,none⟩)] w' λe w2=>e=.returned (.int .i64 (M0a xs (o1 xs).2))∧w'=w2):=λw' g h=>r4a w' g w.heap.size xs _ h
   have HQ:Hid (∀(cs:List Value) (vx:Value) (e:Ending) (w':World),M0a xs (o1 xs).2=0→e=.returned (.tuple #[.agg cs.toArray,.int .i64 0])→j1a w' w'.heap.size cs { j0a with file:=(o1 xs).1 }→cs[61]? = some vx→P0a .u8 5 w' w.heap.size vx ({ j0a with file:=(o1 xs).1 }).data→Below w.heap.size w w'→(∀b off s n c,cs[62]? = some (.slice (some ⟨b,off,s⟩) n c)→w.heap.size≤b)→d2a w cq xs e w'):=by intro cs vx e w' h0 h1 h2 h3 h4 h5 h9;have ho:=hgo h0;unfold d2a;rw[hge,h0,ho];exact⟨cs,vx,h1,h2,h3,h4,h5,h9⟩
   have HE':=hI (HE.out _ hge);obtain⟨er,her⟩:∃x,x=M0a xs (o1 xs).2:=⟨_,rfl⟩;rw[←her] at DE HQ HE';obtain⟨q1,hq1⟩:∃x,x=(o1 xs):=⟨_,rfl⟩;rw[←hq1] at D1 DE HQ;clear her hge HE hk hx hq1;go_enter Tryz.func108,Tryz.ntmps108;go_wp2_with(first
    | ((with_reducible apply sN 4);refine a0a rfl _ rfl zs _ ZH ?_;intro h w1 hg1 hg2 Z1 L1)
    | ((with_reducible apply sN 6);refine a0a rfl _ rfl zs _ ZH ?_;intro a w2 hg3 hg4 K2 L02;have Z2:=hI (Z1.out.over L02.out);have L2:=hI (step L1.out L02.out);have hha:h≠a:=(by omega);have hwa:w.heap.size≤a:=(by have:=L1.out.size;omega);have hsz2:=L2.out.size)
    | ((with_reducible apply sN 13);refine k0a rfl _ _ rfl ([.slice A n k,.int .i64 0]:List Value) (by refine Eq.trans ?_ BR;kernel_rfl) ?_)
    | ((with_reducible apply sN 7);refine a0a rfl _ rfl ([.slice none 0 0,.int .i64 0]:List Value) _ ZR ?_;intro g w3 hg5 hg6 R3 L03;have K3:=hI (K2.out.over L03.out);have Z3:=hI (Z2.out.over L03.out);have L3:=hI (step L2.out L03.out);have hag:a≠g:=(by omega);have hhg:h≠g:=(by have:=Z2.out.lt;omega);have hwg:w.heap.size≤g:=(by omega))
    | ((with_reducible apply sT 7);refine b0a rfl _ (.tmp 7) (.tmp 13) rfl g rfl _ ([.slice none 0 0,.int .i64 0]:List Value) ([.slice A n k,.int .i64 0]:List Value) rfl R3 2 F4a HR0 HR1 HR2 ?_;intro w4 R4 O4 hg7;have K4:=hI (K3.out.only O4.out hag);have Z4:=hI (Z3.out.only O4.out hhg);have L4:=hI (c0a L3.out O4.out hwg)))
   have P4:Hid (PF w4 g w.heap.size xs rd0):=⟨Nat.zero_le _,hwg,A,n,k,R4.out,HX.out.below L4.out⟩;clear R3 L03 K2 K3 Z1 Z2 Z3 L02 L1 L2 L3 R4 O4 HX;refine(D1.out w4 g P4.out).mono ?_;rintro e v1 ⟨rfl,hP,hO⟩;have hS:=R0a.of_only hO;have Pc1:=hI hP;have Zc1:=hI (Z4.out.save hS hhg);have Kc1:=hI (K4.out.save hS hag);have Lc1:=hI (L4.out.trans (hS.below hwg L4.out.size));clear hP hS P4 Z4 K4 L4 hO;go_wp2_with(first
    | ((with_reducible apply sT 50);refine d0a rfl _ (.tmp 50) (.tmp 49) rfl a 57 rfl _ zs (.int .u64 q1.1) rfl Kc1 (hI (by have:=HZ.out;omega)) (by kernel_rfl) rfl ?_;intro x1 Ks1 Os1 hqs1;obtain⟨C1,hC1⟩:∃x,x=zs.set 57 (.int .u64 q1.1):=⟨_,rfl⟩;have HC1:=hI hC1;have HL1:Hid (C1.length=69):=(by rw[hC1,List.length_set];exact HZ.out);rw[←hC1] at Ks1;have Zs1:=hI (Zc1.out.only Os1.out hha);have Ps1:=hI (Pc1.out.only Os1.out (Ne.symm hag) hwa);have Ls1:=hI (c0a Lc1.out Os1.out hwa);clear hC1))
   refine(DE.out x1 g Ps1.out).mono ?_;rintro e x1' ⟨rfl,rfl⟩;by_cases he:er=0;rotate_left
   ·have hne:(er != 0)=true:=by simpa using he
    have HN:=hI (HE'.out he);clear he HE' HQ;go_wp2_with(first
     | ((with_reducible apply sN 82);refine x0a rfl _ rfl zs BZ ?_)
     | ((with_reducible apply sT 4);refine b0a rfl _ (.tmp 4) (.tmp 82) rfl h rfl _ zs zs rfl Zs1 69 p0a HZ HZ HZ1 ?_;intro w10 K10 O10 hg10))
    refine bodyPost_ret (v:=.tuple #[.agg zs.toArray,.int .i64 er]) ?_ rfl (HN.out _ _ rfl (c0a Ls1.out O10.out (by omega)));exact m0a rfl _ _ h _ _ (0,0) _ rfl K10.out Tryz.underlying34 rfl (by rw[p0a];have:=HZ.out;simp[this]) rfl
   ·subst he;have HEQ:Hid (C1=o0a (.slice none 0 0) (.slice none 0 0) (.slice none 0 0) { j0a with file:=q1.1 }):=by
     show _=_
     rw[HC1.out,HZS.out];rfl
    have H1C:Hid (∀v∈C1,v.oneCell'=true):=by
     show _
     rw[HEQ.out];exact B1a rfl rfl rfl
    go_wp2_with(first
     | ((with_reducible apply sN 84);refine f0a rfl _ (.tmp 6) rfl a rfl _ C1 Ks1 69 _ Tryz.underlying34 rfl p0a HL1 ?_)
     | ((with_reducible apply sT 4);refine b0a rfl _ (.tmp 4) (.tmp 84) rfl h rfl _ zs C1 rfl Zs1 69 p0a HZ HL1 H1C ?_;intro w10 K10 O10 hg10))
    refine bodyPost_ret (v:=.tuple #[.agg C1.toArray,.int .i64 0]) ?_ rfl ?_
    ·exact m0a rfl _ _ h _ _ (0,0) _ rfl K10.out Tryz.underlying34 rfl (by rw[p0a];have:=HL1.out;simp[this]) rfl
    ·have LF:Below w.heap.size w w10:=c0a Ls1.out O10.out (by omega);exact HQ.out C1 (.slice none 0 0) _ _ (by trivial) rfl ⟨none,0,0,none,0,0,none,0,0,by rw[HEQ.out],L1a.nil _ _ _,Holds.nil _ _,c1a.nil _ _ _ _⟩ (by rw[HEQ.out];rfl) (P0a.nil _ _ _ _) LF (λb off s n c h=>by rw[HEQ.out] at h;have h2:some (Value.slice none 0 0)=some (Value.slice (some ⟨b,off,s⟩) n c):=h;cases h2)
 ·subst h8;have D1:Hid (∀(w':World) (g:Nat),PF w' g w.heap.size xs rd0→Calls Tryz.prog 156 #[.pointer (some ⟨g,0,none⟩)] w' λe w2=>e=.returned (.int .u64 (o1 xs).1)∧PF w2 g w.heap.size xs (o1 xs).2∧a2a g w' w2):=λw' g h=>Z2a w' g w.heap.size xs _ hby h
  have D2:Hid (∀(w':World) (g:Nat),PF w' g w.heap.size xs (o1 xs).2→Calls Tryz.prog 156 #[.pointer (some ⟨g,0,none⟩)] w' λe w2=>e=.returned (.int .u64 (o2 xs).1)∧PF w2 g w.heap.size xs (o2 xs).2∧a2a g w' w2):=λw' g h=>Z2a w' g w.heap.size xs _ hby h
  have D3:Hid (∀(w':World) (g:Nat),PF w' g w.heap.size xs (o2 xs).2→Calls Tryz.prog 155 #[.pointer (some ⟨g,0,none⟩)] w' λe w2=>e=.returned (.int .u32 (o3 xs).1)∧PF w2 g w.heap.size xs (o3 xs).2∧a2a g w' w2):=λw' g h=>k5a w' g w.heap.size xs _ hby h
  have DE:Hid (∀(w':World) (g:Nat),PF w' g w.heap.size xs (o3 xs).2→Calls Tryz.prog 161 #[.pointer (some ⟨g,0,none⟩)] w' λe w2=>e=.returned (.int .i64 (M0a xs (o3 xs).2))∧w'=w2):=λw' g h=>r4a w' g w.heap.size xs _ h
  have hge:B5a 8 xs=M0a xs (o3 xs).2:=by unfold B5a;rw[if_pos hk];rfl
  have HQ:Hid (∀(cs:List Value) (vx:Value) (e:Ending) (w':World),M0a xs (o3 xs).2=0→e=.returned (.tuple #[.agg cs.toArray,.int .i64 0])→j1a w' w'.heap.size cs { j0a with file:=(o1 xs).1,at_:=(o2 xs).1,n:=(o3 xs).1 }→cs[61]? = some vx→P0a .u8 5 w' w.heap.size vx ({ j0a with file:=(o1 xs).1,at_:=(o2 xs).1,n:=(o3 xs).1 }).data→Below w.heap.size w w'→(∀b off s n c,cs[62]? = some (.slice (some ⟨b,off,s⟩) n c)→w.heap.size≤b)→d2a w 8 xs e w'):=by
   intro cs vx e w' h0 h1 h2 h3 h4 h5 h9;have ho:x6a 8 xs={ j0a with file:=(o1 xs).1,at_:=(o2 xs).1,n:=(o3 xs).1 }:=by unfold x6a;rw[hge,h0,if_pos rfl];rfl
   unfold d2a;rw[hge,h0,ho];exact⟨cs,vx,h1,h2,h3,h4,h5,h9⟩
  have HE':=hI (HE.out _ hge);obtain⟨er,her⟩:∃x,x=M0a xs (o3 xs).2:=⟨_,rfl⟩;rw[←her] at DE HQ HE';obtain⟨q1,hq1⟩:∃x,x=(o1 xs):=⟨_,rfl⟩;rw[←hq1] at D1 D2 HQ;obtain⟨q2,hq2⟩:∃x,x=(o2 xs):=⟨_,rfl⟩;rw[←hq2] at D2 D3 HQ;obtain⟨q3,hq3⟩:∃x,x=(o3 xs):=⟨_,rfl⟩;rw[←hq3] at D3 DE HQ;clear her hge HE hk hx hq1 hq2 hq3;go_enter Tryz.func108,Tryz.ntmps108;go_wp2_with(first
   | ((with_reducible apply sN 4);refine a0a rfl _ rfl zs _ ZH ?_;intro h w1 hg1 hg2 Z1 L1)
   | ((with_reducible apply sN 6);refine a0a rfl _ rfl zs _ ZH ?_;intro a w2 hg3 hg4 K2 L02;have Z2:=hI (Z1.out.over L02.out);have L2:=hI (step L1.out L02.out);have hha:h≠a:=(by omega);have hwa:w.heap.size≤a:=(by have:=L1.out.size;omega);have hsz2:=L2.out.size)
   | ((with_reducible apply sN 13);refine k0a rfl _ _ rfl ([.slice A n k,.int .i64 0]:List Value) (by refine Eq.trans ?_ BR;kernel_rfl) ?_)
   | ((with_reducible apply sN 7);refine a0a rfl _ rfl ([.slice none 0 0,.int .i64 0]:List Value) _ ZR ?_;intro g w3 hg5 hg6 R3 L03;have K3:=hI (K2.out.over L03.out);have Z3:=hI (Z2.out.over L03.out);have L3:=hI (step L2.out L03.out);have hag:a≠g:=(by omega);have hhg:h≠g:=(by have:=Z2.out.lt;omega);have hwg:w.heap.size≤g:=(by omega))
   | ((with_reducible apply sT 7);refine b0a rfl _ (.tmp 7) (.tmp 13) rfl g rfl _ ([.slice none 0 0,.int .i64 0]:List Value) ([.slice A n k,.int .i64 0]:List Value) rfl R3 2 F4a HR0 HR1 HR2 ?_;intro w4 R4 O4 hg7;have K4:=hI (K3.out.only O4.out hag);have Z4:=hI (Z3.out.only O4.out hhg);have L4:=hI (c0a L3.out O4.out hwg)))
  have P4:Hid (PF w4 g w.heap.size xs rd0):=⟨Nat.zero_le _,hwg,A,n,k,R4.out,HX.out.below L4.out⟩;clear R3 L03 K2 K3 Z1 Z2 Z3 L02 L1 L2 L3 R4 O4 HX;refine(D1.out w4 g P4.out).mono ?_;rintro e v1 ⟨rfl,hP,hO⟩;have hS:=R0a.of_only hO;have Pc1:=hI hP;have Zc1:=hI (Z4.out.save hS hhg);have Kc1:=hI (K4.out.save hS hag);have Lc1:=hI (L4.out.trans (hS.below hwg L4.out.size));clear hP hS P4 Z4 K4 L4 hO;go_wp2_with fail;refine(D2.out v1 g Pc1.out).mono ?_;rintro e v2 ⟨rfl,hP,hO⟩;have hS:=R0a.of_only hO;have Pc2:=hI hP;have Zc2:=hI (Zc1.out.save hS hhg);have Kc2:=hI (Kc1.out.save hS hag);have Lc2:=hI (Lc1.out.trans (hS.below hwg Lc1.out.size));clear hP hS Pc1 Zc1 Kc1 Lc1 hO;go_wp2_with fail;refine(D3.out v2 g Pc2.out).mono ?_;rintro e v3 ⟨rfl,hP,hO⟩;have hS:=R0a.of_only hO;have Pc3:=hI hP;have Zc3:=hI (Zc2.out.save hS hhg);have Kc3:=hI (Kc2.out.save hS hag);have Lc3:=hI (Lc2.out.trans (hS.below hwg Lc2.out.size));clear hP hS Pc2 Zc2 Kc2 Lc2 hO;go_wp2_with(first
   | ((with_reducible apply sT 59);refine d0a rfl _ (.tmp 59) (.tmp 54) rfl a 57 rfl _ zs (.int .u64 q1.1) rfl Kc3 (hI (by have:=HZ.out;omega)) (by kernel_rfl) rfl ?_;intro x1 Ks1 Os1 hqs1;obtain⟨C1,hC1⟩:∃x,x=zs.set 57 (.int .u64 q1.1):=⟨_,rfl⟩;have HC1:=hI hC1;have HL1:Hid (C1.length=69):=(by rw[hC1,List.length_set];exact HZ.out);rw[←hC1] at Ks1;have Zs1:=hI (Zc3.out.only Os1.out hha);have Ps1:=hI (Pc3.out.only Os1.out (Ne.symm hag) hwa);have Ls1:=hI (c0a Lc3.out Os1.out hwa);clear hC1)
   | ((with_reducible apply sT 60);refine d0a rfl _ (.tmp 60) (.tmp 56) rfl a 59 rfl _ C1 (.int .u64 q2.1) rfl Ks1 (hI (by have:=HL1.out;omega)) (by kernel_rfl) rfl ?_;intro x2 Ks2 Os2 hqs2;obtain⟨C2,hC2⟩:∃x,x=C1.set 59 (.int .u64 q2.1):=⟨_,rfl⟩;have HC2:=hI hC2;have HL2:Hid (C2.length=69):=(by rw[hC2,List.length_set];exact HL1.out);rw[←hC2] at Ks2;have Zs2:=hI (Zs1.out.only Os2.out hha);have Ps2:=hI (Ps1.out.only Os2.out (Ne.symm hag) hwa);have Ls2:=hI (c0a Ls1.out Os2.out hwa);clear hC2)
   | ((with_reducible apply sT 61);refine d0a rfl _ (.tmp 61) (.tmp 58) rfl a 60 rfl _ C2 (.int .u32 q3.1) rfl Ks2 (hI (by have:=HL2.out;omega)) (by kernel_rfl) rfl ?_;intro x3 Ks3 Os3 hqs3;obtain⟨C3,hC3⟩:∃x,x=C2.set 60 (.int .u32 q3.1):=⟨_,rfl⟩;have HC3:=hI hC3;have HL3:Hid (C3.length=69):=(by rw[hC3,List.length_set];exact HL2.out);rw[←hC3] at Ks3;have Zs3:=hI (Zs2.out.only Os3.out hha);have Ps3:=hI (Ps2.out.only Os3.out (Ne.symm hag) hwa);have Ls3:=hI (c0a Ls2.out Os3.out hwa);clear hC3))
  refine(DE.out x3 g Ps3.out).mono ?_;rintro e x3' ⟨rfl,rfl⟩;by_cases he:er=0;rotate_left
  ·have hne:(er != 0)=true:=by simpa using he
   have HN:=hI (HE'.out he);clear he HE' HQ;go_wp2_with(first
    | ((with_reducible apply sN 82);refine x0a rfl _ rfl zs BZ ?_)
    | ((with_reducible apply sT 4);refine b0a rfl _ (.tmp 4) (.tmp 82) rfl h rfl _ zs zs rfl Zs3 69 p0a HZ HZ HZ1 ?_;intro w10 K10 O10 hg10))
   refine bodyPost_ret (v:=.tuple #[.agg zs.toArray,.int .i64 er]) ?_ rfl (HN.out _ _ rfl (c0a Ls3.out O10.out (by omega)));exact m0a rfl _ _ h _ _ (0,0) _ rfl K10.out Tryz.underlying34 rfl (by rw[p0a];have:=HZ.out;simp[this]) rfl
  ·subst he;have HEQ:Hid (C3=o0a (.slice none 0 0) (.slice none 0 0) (.slice none 0 0) { j0a with file:=q1.1,at_:=q2.1,n:=q3.1 }):=by
    show _=_
    rw[HC3.out,HC2.out,HC1.out,HZS.out];rfl
   have H1C:Hid (∀v∈C3,v.oneCell'=true):=by
    show _
    rw[HEQ.out];exact B1a rfl rfl rfl
   go_wp2_with(first
    | ((with_reducible apply sN 84);refine f0a rfl _ (.tmp 6) rfl a rfl _ C3 Ks3 69 _ Tryz.underlying34 rfl p0a HL3 ?_)
    | ((with_reducible apply sT 4);refine b0a rfl _ (.tmp 4) (.tmp 84) rfl h rfl _ zs C3 rfl Zs3 69 p0a HZ HL3 H1C ?_;intro w10 K10 O10 hg10))
   refine bodyPost_ret (v:=.tuple #[.agg C3.toArray,.int .i64 0]) ?_ rfl ?_
   ·exact m0a rfl _ _ h _ _ (0,0) _ rfl K10.out Tryz.underlying34 rfl (by rw[p0a];have:=HL3.out;simp[this]) rfl
   ·have LF:Below w.heap.size w w10:=c0a Ls3.out O10.out (by omega);exact HQ.out C3 (.slice none 0 0) _ _ (by trivial) rfl ⟨none,0,0,none,0,0,none,0,0,by rw[HEQ.out],L1a.nil _ _ _,Holds.nil _ _,c1a.nil _ _ _ _⟩ (by rw[HEQ.out];rfl) (P0a.nil _ _ _ _) LF (λb off s n c h=>by rw[HEQ.out] at h;have h2:some (Value.slice none 0 0)=some (Value.slice (some ⟨b,off,s⟩) n c):=h;cases h2)
 ·subst h9;have D1:Hid (∀(w':World) (g:Nat),PF w' g w.heap.size xs rd0→Calls Tryz.prog 156 #[.pointer (some ⟨g,0,none⟩)] w' λe w2=>e=.returned (.int .u64 (o1 xs).1)∧PF w2 g w.heap.size xs (o1 xs).2∧a2a g w' w2):=λw' g h=>Z2a w' g w.heap.size xs _ hby h
  have D2:Hid (∀(w':World) (g:Nat),PF w' g w.heap.size xs (o1 xs).2→Calls Tryz.prog 156 #[.pointer (some ⟨g,0,none⟩)] w' λe w2=>e=.returned (.int .u64 (o2 xs).1)∧PF w2 g w.heap.size xs (o2 xs).2∧a2a g w' w2):=λw' g h=>Z2a w' g w.heap.size xs _ hby h
  have D3:Hid (∀(w':World) (g:Nat),PF w' g w.heap.size xs (o2 xs).2→Calls Tryz.prog 159 #[.pointer (some ⟨g,0,none⟩)] w' λe w2=>∃v,e=.returned v∧P0a .u8 5 w2 w'.heap.size v (o4 xs).1∧PF w2 g w.heap.size xs (o4 xs).2∧R0a g w' w2):=λw' g h=>j3b w' g w.heap.size xs _ hby h
  have DE:Hid (∀(w':World) (g:Nat),PF w' g w.heap.size xs (o4 xs).2→Calls Tryz.prog 161 #[.pointer (some ⟨g,0,none⟩)] w' λe w2=>e=.returned (.int .i64 (M0a xs (o4 xs).2))∧w'=w2):=λw' g h=>r4a w' g w.heap.size xs _ h
  have hge:B5a 9 xs=M0a xs (o4 xs).2:=by unfold B5a;rw[if_pos hk];rfl
  have HQ:Hid (∀(cs:List Value) (vx:Value) (e:Ending) (w':World),M0a xs (o4 xs).2=0→e=.returned (.tuple #[.agg cs.toArray,.int .i64 0])→j1a w' w'.heap.size cs { j0a with file:=(o1 xs).1,at_:=(o2 xs).1,data:=(o4 xs).1 }→cs[61]? = some vx→P0a .u8 5 w' w.heap.size vx ({ j0a with file:=(o1 xs).1,at_:=(o2 xs).1,data:=(o4 xs).1 }).data→Below w.heap.size w w'→(∀b off s n c,cs[62]? = some (.slice (some ⟨b,off,s⟩) n c)→w.heap.size≤b)→d2a w 9 xs e w'):=by
   intro cs vx e w' h0 h1 h2 h3 h4 h5 h9;have ho:x6a 9 xs={ j0a with file:=(o1 xs).1,at_:=(o2 xs).1,data:=(o4 xs).1 }:=by unfold x6a;rw[hge,h0,if_pos rfl];rfl
   unfold d2a;rw[hge,h0,ho];exact⟨cs,vx,h1,h2,h3,h4,h5,h9⟩
  have HE':=hI (HE.out _ hge);have DL:Hid (Bytes (o4 xs).1∧(o4 xs).1.length≤32768):=h8a hby _;obtain⟨er,her⟩:∃x,x=M0a xs (o4 xs).2:=⟨_,rfl⟩;rw[←her] at DE HQ HE';obtain⟨q1,hq1⟩:∃x,x=(o1 xs):=⟨_,rfl⟩;rw[←hq1] at D1 D2 HQ;obtain⟨q2,hq2⟩:∃x,x=(o2 xs):=⟨_,rfl⟩;rw[←hq2] at D2 D3 HQ;obtain⟨q3,hq3⟩:∃x,x=(o4 xs):=⟨_,rfl⟩;rw[←hq3] at D3 DE HQ DL;clear her hge HE hk hx hq1 hq2 hq3;go_enter Tryz.func108,Tryz.ntmps108;go_wp2_with(first
   | ((with_reducible apply sN 4);refine a0a rfl _ rfl zs _ ZH ?_;intro h w1 hg1 hg2 Z1 L1)
   | ((with_reducible apply sN 6);refine a0a rfl _ rfl zs _ ZH ?_;intro a w2 hg3 hg4 K2 L02;have Z2:=hI (Z1.out.over L02.out);have L2:=hI (step L1.out L02.out);have hha:h≠a:=(by omega);have hwa:w.heap.size≤a:=(by have:=L1.out.size;omega);have hsz2:=L2.out.size)
   | ((with_reducible apply sN 13);refine k0a rfl _ _ rfl ([.slice A n k,.int .i64 0]:List Value) (by refine Eq.trans ?_ BR;kernel_rfl) ?_)
   | ((with_reducible apply sN 7);refine a0a rfl _ rfl ([.slice none 0 0,.int .i64 0]:List Value) _ ZR ?_;intro g w3 hg5 hg6 R3 L03;have K3:=hI (K2.out.over L03.out);have Z3:=hI (Z2.out.over L03.out);have L3:=hI (step L2.out L03.out);have hag:a≠g:=(by omega);have hhg:h≠g:=(by have:=Z2.out.lt;omega);have hwg:w.heap.size≤g:=(by omega))
   | ((with_reducible apply sT 7);refine b0a rfl _ (.tmp 7) (.tmp 13) rfl g rfl _ ([.slice none 0 0,.int .i64 0]:List Value) ([.slice A n k,.int .i64 0]:List Value) rfl R3 2 F4a HR0 HR1 HR2 ?_;intro w4 R4 O4 hg7;have K4:=hI (K3.out.only O4.out hag);have Z4:=hI (Z3.out.only O4.out hhg);have L4:=hI (c0a L3.out O4.out hwg)))
  have P4:Hid (PF w4 g w.heap.size xs rd0):=⟨Nat.zero_le _,hwg,A,n,k,R4.out,HX.out.below L4.out⟩;clear R3 L03 K2 K3 Z1 Z2 Z3 L02 L1 L2 L3 R4 O4 HX;refine(D1.out w4 g P4.out).mono ?_;rintro e v1 ⟨rfl,hP,hO⟩;have hS:=R0a.of_only hO;have Pc1:=hI hP;have Zc1:=hI (Z4.out.save hS hhg);have Kc1:=hI (K4.out.save hS hag);have Lc1:=hI (L4.out.trans (hS.below hwg L4.out.size));clear hP hS P4 Z4 K4 L4 hO;go_wp2_with fail;refine(D2.out v1 g Pc1.out).mono ?_;rintro e v2 ⟨rfl,hP,hO⟩;have hS:=R0a.of_only hO;have Pc2:=hI hP;have Zc2:=hI (Zc1.out.save hS hhg);have Kc2:=hI (Kc1.out.save hS hag);have Lc2:=hI (Lc1.out.trans (hS.below hwg Lc1.out.size));clear hP hS Pc1 Zc1 Kc1 Lc1 hO;go_wp2_with(first
   | ((with_reducible apply sT 68);refine d0a rfl _ (.tmp 68) (.tmp 65) rfl a 57 rfl _ zs (.int .u64 q1.1) rfl Kc2 (hI (by have:=HZ.out;omega)) (by kernel_rfl) rfl ?_;intro x1 Ks1 Os1 hqs1;obtain⟨C1,hC1⟩:∃x,x=zs.set 57 (.int .u64 q1.1):=⟨_,rfl⟩;have HC1:=hI hC1;have HL1:Hid (C1.length=69):=(by rw[hC1,List.length_set];exact HZ.out);rw[←hC1] at Ks1;have Zs1:=hI (Zc2.out.only Os1.out hha);have Ps1:=hI (Pc2.out.only Os1.out (Ne.symm hag) hwa);have Ls1:=hI (c0a Lc2.out Os1.out hwa);clear hC1)
   | ((with_reducible apply sT 69);refine d0a rfl _ (.tmp 69) (.tmp 67) rfl a 59 rfl _ C1 (.int .u64 q2.1) rfl Ks1 (hI (by have:=HL1.out;omega)) (by kernel_rfl) rfl ?_;intro x2 Ks2 Os2 hqs2;obtain⟨C2,hC2⟩:∃x,x=C1.set 59 (.int .u64 q2.1):=⟨_,rfl⟩;have HC2:=hI hC2;have HL2:Hid (C2.length=69):=(by rw[hC2,List.length_set];exact HL1.out);rw[←hC2] at Ks2;have Zs2:=hI (Zs1.out.only Os2.out hha);have Ps2:=hI (Ps1.out.only Os2.out (Ne.symm hag) hwa);have Ls2:=hI (c0a Ls1.out Os2.out hwa);clear hC2))
  refine(D3.out x2 g Ps2.out).mono ?_;rintro e v3 ⟨u3,rfl,hV,hP,hS⟩;have V3:=hI hV;have hbs3:a<x2.heap.size∧h<x2.heap.size∧w.heap.size≤x2.heap.size:=⟨Ks2.out.lt,Zs2.out.lt,Ls2.out.size⟩;obtain⟨b3,hb3⟩:∃x,x=x2.heap.size:=⟨_,rfl⟩;rw[←hb3] at V3 hbs3;obtain⟨hba3,hbh3,hbw3⟩:=hbs3;clear hV hb3;have Pc3:=hI hP;have Zc3:=hI (Zs2.out.save hS hhg);have Kc3:=hI (Ks2.out.save hS hag);have Lc3:=hI (Ls2.out.trans (hS.below hwg Ls2.out.size));clear hP hS Ps2 Zs2 Ks2 Ls2;go_wp2_with(first
   | ((with_reducible apply sT 71);refine d0a rfl _ (.tmp 71) (.tmp 70) rfl a 61 rfl _ C2 (u3) rfl Kc3 (hI (by have:=HL2.out;omega)) (by kernel_rfl) (s4a V3.out) ?_;intro x3 Ks3 Os3 hqs3;obtain⟨C3,hC3⟩:∃x,x=C2.set 61 (u3):=⟨_,rfl⟩;have HC3:=hI hC3;have HL3:Hid (C3.length=69):=(by rw[hC3,List.length_set];exact HL2.out);rw[←hC3] at Ks3;have Zs3:=hI (Zc3.out.only Os3.out hha);have Ps3:=hI (Pc3.out.only Os3.out (Ne.symm hag) hwa);have Ls3:=hI (c0a Lc3.out Os3.out hwa);have V3s3:=hI (V3.out.onlyAt Os3.out hba3);clear hC3))
  refine(DE.out x3 g Ps3.out).mono ?_;rintro e x3' ⟨rfl,rfl⟩;by_cases he:er=0;rotate_left
  ·have hne:(er != 0)=true:=by simpa using he
   have HN:=hI (HE'.out he);clear he HE' HQ;go_wp2_with(first
    | ((with_reducible apply sN 82);refine x0a rfl _ rfl zs BZ ?_)
    | ((with_reducible apply sT 4);refine b0a rfl _ (.tmp 4) (.tmp 82) rfl h rfl _ zs zs rfl Zs3 69 p0a HZ HZ HZ1 ?_;intro w10 K10 O10 hg10))
   refine bodyPost_ret (v:=.tuple #[.agg zs.toArray,.int .i64 er]) ?_ rfl (HN.out _ _ rfl (c0a Ls3.out O10.out (by omega)));exact m0a rfl _ _ h _ _ (0,0) _ rfl K10.out Tryz.underlying34 rfl (by rw[p0a];have:=HZ.out;simp[this]) rfl
  ·subst he;have HEQ:Hid (C3=o0a (.slice none 0 0) u3 (.slice none 0 0) { j0a with file:=q1.1,at_:=q2.1,data:=q3.1 }):=by
    show _=_
    rw[HC3.out,HC2.out,HC1.out,HZS.out];rfl
   have H1C:Hid (∀v∈C3,v.oneCell'=true):=by
    show _
    rw[HEQ.out];exact B1a rfl (s4a V3s3.out) rfl
   go_wp2_with(first
    | ((with_reducible apply sN 84);refine f0a rfl _ (.tmp 6) rfl a rfl _ C3 Ks3 69 _ Tryz.underlying34 rfl p0a HL3 ?_)
    | ((with_reducible apply sT 4);refine b0a rfl _ (.tmp 4) (.tmp 84) rfl h rfl _ zs C3 rfl Zs3 69 p0a HZ HL3 H1C ?_;intro w10 K10 O10 hg10))
   refine bodyPost_ret (v:=.tuple #[.agg C3.toArray,.int .i64 0]) ?_ rfl ?_
   ·exact m0a rfl _ _ h _ _ (0,0) _ rfl K10.out Tryz.underlying34 rfl (by rw[p0a];have:=HL3.out;simp[this]) rfl
   ·have LF:Below w.heap.size w w10:=c0a Ls3.out O10.out (by omega);have VF:=P0a.onlyAt V3s3.out O10.out hbh3;obtain⟨Ax,kx,hux,hHx⟩:=P0a.holds8 VF DL.out.1 (Nat.le_trans DL.out.2 (by decide));exact HQ.out C3 u3 _ _ (by trivial) rfl ⟨none,0,0,Ax,_,kx,none,0,0,by rw[HEQ.out,hux],L1a.nil _ _ _,hHx,c1a.nil _ _ _ _⟩ (by rw[HEQ.out];rfl) (VF.mono hbw3) LF (λb off s n c h=>by rw[HEQ.out] at h;have h2:some (Value.slice none 0 0)=some (Value.slice (some ⟨b,off,s⟩) n c):=h;cases h2)
 ·subst h10;have D1:Hid (∀(w':World) (g:Nat),PF w' g w.heap.size xs rd0→Calls Tryz.prog 156 #[.pointer (some ⟨g,0,none⟩)] w' λe w2=>e=.returned (.int .u64 (o1 xs).1)∧PF w2 g w.heap.size xs (o1 xs).2∧a2a g w' w2):=λw' g h=>Z2a w' g w.heap.size xs _ hby h
  have D2:Hid (∀(w':World) (g:Nat),PF w' g w.heap.size xs (o1 xs).2→Calls Tryz.prog 160 #[.pointer (some ⟨g,0,none⟩)] w' λe w2=>∃v,e=.returned v∧r5a I0a 4 122 w2 w'.heap.size v (o5 xs).1∧PF w2 g w.heap.size xs (o5 xs).2∧R0a g w' w2):=λw' g h=>F5b w' g w.heap.size xs _ hby h
  have DE:Hid (∀(w':World) (g:Nat),PF w' g w.heap.size xs (o5 xs).2→Calls Tryz.prog 161 #[.pointer (some ⟨g,0,none⟩)] w' λe w2=>e=.returned (.int .i64 (M0a xs (o5 xs).2))∧w'=w2):=λw' g h=>r4a w' g w.heap.size xs _ h
  have hge:B5a 10 xs=M0a xs (o5 xs).2:=by unfold B5a;rw[if_pos hk];rfl
  have HQ:Hid (∀(cs:List Value) (vx:Value) (e:Ending) (w':World),M0a xs (o5 xs).2=0→e=.returned (.tuple #[.agg cs.toArray,.int .i64 0])→j1a w' w'.heap.size cs { j0a with file:=(o1 xs).1,locks:=(o5 xs).1 }→cs[61]? = some vx→P0a .u8 5 w' w.heap.size vx ({ j0a with file:=(o1 xs).1,locks:=(o5 xs).1 }).data→Below w.heap.size w w'→(∀b off s n c,cs[62]? = some (.slice (some ⟨b,off,s⟩) n c)→w.heap.size≤b)→d2a w 10 xs e w'):=by
   intro cs vx e w' h0 h1 h2 h3 h4 h5 h9;have ho:x6a 10 xs={ j0a with file:=(o1 xs).1,locks:=(o5 xs).1 }:=by unfold x6a;rw[hge,h0,if_pos rfl];rfl
   unfold d2a;rw[hge,h0,ho];exact⟨cs,vx,h1,h2,h3,h4,h5,h9⟩
  have HE':=hI (HE.out _ hge);obtain⟨er,her⟩:∃x,x=M0a xs (o5 xs).2:=⟨_,rfl⟩;rw[←her] at DE HQ HE';obtain⟨q1,hq1⟩:∃x,x=(o1 xs):=⟨_,rfl⟩;rw[←hq1] at D1 D2 HQ;obtain⟨q2,hq2⟩:∃x,x=(o5 xs):=⟨_,rfl⟩;rw[←hq2] at D2 DE HQ;clear her hge HE hk hx hq1 hq2;go_enter Tryz.func108,Tryz.ntmps108;go_wp2_with(first
   | ((with_reducible apply sN 4);refine a0a rfl _ rfl zs _ ZH ?_;intro h w1 hg1 hg2 Z1 L1)
   | ((with_reducible apply sN 6);refine a0a rfl _ rfl zs _ ZH ?_;intro a w2 hg3 hg4 K2 L02;have Z2:=hI (Z1.out.over L02.out);have L2:=hI (step L1.out L02.out);have hha:h≠a:=(by omega);have hwa:w.heap.size≤a:=(by have:=L1.out.size;omega);have hsz2:=L2.out.size)
   | ((with_reducible apply sN 13);refine k0a rfl _ _ rfl ([.slice A n k,.int .i64 0]:List Value) (by refine Eq.trans ?_ BR;kernel_rfl) ?_)
   | ((with_reducible apply sN 7);refine a0a rfl _ rfl ([.slice none 0 0,.int .i64 0]:List Value) _ ZR ?_;intro g w3 hg5 hg6 R3 L03;have K3:=hI (K2.out.over L03.out);have Z3:=hI (Z2.out.over L03.out);have L3:=hI (step L2.out L03.out);have hag:a≠g:=(by omega);have hhg:h≠g:=(by have:=Z2.out.lt;omega);have hwg:w.heap.size≤g:=(by omega))
   | ((with_reducible apply sT 7);refine b0a rfl _ (.tmp 7) (.tmp 13) rfl g rfl _ ([.slice none 0 0,.int .i64 0]:List Value) ([.slice A n k,.int .i64 0]:List Value) rfl R3 2 F4a HR0 HR1 HR2 ?_;intro w4 R4 O4 hg7;have K4:=hI (K3.out.only O4.out hag);have Z4:=hI (Z3.out.only O4.out hhg);have L4:=hI (c0a L3.out O4.out hwg)))
  have P4:Hid (PF w4 g w.heap.size xs rd0):=⟨Nat.zero_le _,hwg,A,n,k,R4.out,HX.out.below L4.out⟩;clear R3 L03 K2 K3 Z1 Z2 Z3 L02 L1 L2 L3 R4 O4 HX;refine(D1.out w4 g P4.out).mono ?_;rintro e v1 ⟨rfl,hP,hO⟩;have hS:=R0a.of_only hO;have Pc1:=hI hP;have Zc1:=hI (Z4.out.save hS hhg);have Kc1:=hI (K4.out.save hS hag);have Lc1:=hI (L4.out.trans (hS.below hwg L4.out.size));clear hP hS P4 Z4 K4 L4 hO;go_wp2_with(first
   | ((with_reducible apply sT 76);refine d0a rfl _ (.tmp 76) (.tmp 75) rfl a 57 rfl _ zs (.int .u64 q1.1) rfl Kc1 (hI (by have:=HZ.out;omega)) (by kernel_rfl) rfl ?_;intro x1 Ks1 Os1 hqs1;obtain⟨C1,hC1⟩:∃x,x=zs.set 57 (.int .u64 q1.1):=⟨_,rfl⟩;have HC1:=hI hC1;have HL1:Hid (C1.length=69):=(by rw[hC1,List.length_set];exact HZ.out);rw[←hC1] at Ks1;have Zs1:=hI (Zc1.out.only Os1.out hha);have Ps1:=hI (Pc1.out.only Os1.out (Ne.symm hag) hwa);have Ls1:=hI (c0a Lc1.out Os1.out hwa);clear hC1))
  refine(D2.out x1 g Ps1.out).mono ?_;rintro e v2 ⟨u2,rfl,hV,hP,hS⟩;have V2:=hI hV;have hbs2:a<x1.heap.size∧h<x1.heap.size∧w.heap.size≤x1.heap.size:=⟨Ks1.out.lt,Zs1.out.lt,Ls1.out.size⟩;obtain⟨b2,hb2⟩:∃x,x=x1.heap.size:=⟨_,rfl⟩;rw[←hb2] at V2 hbs2;obtain⟨hba2,hbh2,hbw2⟩:=hbs2;clear hV hb2;have Pc2:=hI hP;have Zc2:=hI (Zs1.out.save hS hhg);have Kc2:=hI (Ks1.out.save hS hag);have Lc2:=hI (Ls1.out.trans (hS.below hwg Ls1.out.size));clear hP hS Ps1 Zs1 Ks1 Ls1;go_wp2_with(first
   | ((with_reducible apply sT 78);refine d0a rfl _ (.tmp 78) (.tmp 77) rfl a 62 rfl _ C1 (u2) rfl Kc2 (hI (by have:=HL1.out;omega)) (by kernel_rfl) (R4b V2.out) ?_;intro x2 Ks2 Os2 hqs2;obtain⟨C2,hC2⟩:∃x,x=C1.set 62 (u2):=⟨_,rfl⟩;have HC2:=hI hC2;have HL2:Hid (C2.length=69):=(by rw[hC2,List.length_set];exact HL1.out);rw[←hC2] at Ks2;have Zs2:=hI (Zc2.out.only Os2.out hha);have Ps2:=hI (Pc2.out.only Os2.out (Ne.symm hag) hwa);have Ls2:=hI (c0a Lc2.out Os2.out hwa);have V2s2:=hI (V2.out.only Os2.out hba2);clear hC2))
  refine(DE.out x2 g Ps2.out).mono ?_;rintro e x2' ⟨rfl,rfl⟩;by_cases he:er=0;rotate_left
  ·have hne:(er != 0)=true:=by simpa using he
   have HN:=hI (HE'.out he);clear he HE' HQ;go_wp2_with(first
    | ((with_reducible apply sN 82);refine x0a rfl _ rfl zs BZ ?_)
    | ((with_reducible apply sT 4);refine b0a rfl _ (.tmp 4) (.tmp 82) rfl h rfl _ zs zs rfl Zs2 69 p0a HZ HZ HZ1 ?_;intro w10 K10 O10 hg10))
   refine bodyPost_ret (v:=.tuple #[.agg zs.toArray,.int .i64 er]) ?_ rfl (HN.out _ _ rfl (c0a Ls2.out O10.out (by omega)));exact m0a rfl _ _ h _ _ (0,0) _ rfl K10.out Tryz.underlying34 rfl (by rw[p0a];have:=HZ.out;simp[this]) rfl
  ·subst he;have HEQ:Hid (C2=o0a (.slice none 0 0) (.slice none 0 0) u2 { j0a with file:=q1.1,locks:=q2.1 }):=by
    show _=_
    rw[HC2.out,HC1.out,HZS.out];rfl
   have H1C:Hid (∀v∈C2,v.oneCell'=true):=by
    show _
    rw[HEQ.out];exact B1a rfl rfl (R4b V2s2.out)
   go_wp2_with(first
    | ((with_reducible apply sN 84);refine f0a rfl _ (.tmp 6) rfl a rfl _ C2 Ks2 69 _ Tryz.underlying34 rfl p0a HL2 ?_)
    | ((with_reducible apply sT 4);refine b0a rfl _ (.tmp 4) (.tmp 84) rfl h rfl _ zs C2 rfl Zs2 69 p0a HZ HL2 H1C ?_;intro w10 K10 O10 hg10))
   refine bodyPost_ret (v:=.tuple #[.agg C2.toArray,.int .i64 0]) ?_ rfl ?_
   ·exact m0a rfl _ _ h _ _ (0,0) _ rfl K10.out Tryz.underlying34 rfl (by rw[p0a];have:=HL2.out;simp[this]) rfl
   ·have LF:Below w.heap.size w w10:=c0a Ls2.out O10.out (by omega);have VL:=r5a.only V2s2.out O10.out hbh2;obtain⟨Al,nl,kl,hul,hHl⟩:=r5a.holds (by decide) v5a VL;exact HQ.out C2 (.slice none 0 0) _ _ (by trivial) rfl ⟨none,0,0,none,0,0,Al,nl,kl,by rw[HEQ.out,hul],L1a.nil _ _ _,Holds.nil _ _,hHl⟩ (by rw[HEQ.out];rfl) (P0a.nil _ _ _ _) LF (λb off s n c h=>by rw[HEQ.out] at h;have h2:some u2=some (Value.slice (some ⟨b,off,s⟩) n c):=h;injection h2 with h2;exact Nat.le_trans hbw2 (World.ownsRow.lt VL b (by rw[h2];rfl)).1)
theorem j4b(w:World)(c:Int)(A:Option Addr)(n k:Nat)(xs:List Int)(hc:0≤c∧c≤65535)(hx:Holds w w.heap.size A n k xs) :
  Calls Tryz.prog 110 #[.int .u16 c,.slice A n k] w (J2a w c xs):=by
 have hby:=hx.byte;have HX:=hI hx;have hmf:∀(fn:Fn) (first cap:Array Value) (w:World),(Instr.makeFunc fn first cap).run Tryz.prog w=.ok (.func fn first cap) w:=λ_ _ _ _=>rfl
 have ZH:=hI S7a;have BZ:=T7a;have ZR:=hI K6b;have HZ:Hid ((y0a (.slice none 0 0) (.slice none 0 0) s0a).length=20):=c2a G0a;have HZ1:Hid (∀v∈y0a (.slice none 0 0) (.slice none 0 0) s0a,v.oneCell'=true):=(q2a w 0).one;have HZI:Hid (∀w':World,w1a w' w'.heap.size (y0a (.slice none 0 0) (.slice none 0 0) s0a) s0a):=λw'=>q2a w' _
 have HZD:Hid ((y0a (.slice none 0 0) (.slice none 0 0) s0a)[15]? = some (.slice none 0 0)):=rfl;have BR:Tryz.prog.built 165 [(0,.slice A n k)]=some ([.slice A n k,.int .i64 0]:List Value).toArray:=by kernel_rfl
 have HR0:Hid (([.slice none 0 0,.int .i64 0]:List Value).length=2):=rfl;have HR1:Hid (([.slice A n k,.int .i64 0]:List Value).length=2):=rfl;have HR2:Hid (∀v∈([.slice A n k,.int .i64 0]:List Value),v.oneCell'=true):=by
  intro v hv;rcases List.mem_cons.1 hv with rfl | hv
  ·rfl
  ·rw[List.mem_singleton.1 hv];rfl
 have HE:Hid (∀er,y6a c xs=er→er≠0→∀e w',e=.returned (.tuple #[.agg (y0a (.slice none 0 0) (.slice none 0 0) s0a).toArray,.int .i64 er])→Below w.heap.size w w'→J2a w c xs e w'):=by intro er h1 h2 e w' he hb;unfold J2a z0b;rw[h1,if_neg h2];exact⟨_,_,he,HZI.out w',HZD.out,P0a.nil _ _ _ _,hb⟩
 obtain⟨zs,hzs⟩:∃zs,zs=y0a (.slice none 0 0) (.slice none 0 0) s0a:=⟨_,rfl⟩;have HZS:=hI hzs;rw[←hzs] at ZH BZ HZ HZ1 HE;clear hzs HZI HZD;by_cases hk:I2a c=true;rotate_left
 ·have HQ:=hI (HE.out 2 (by unfold y6a;rw[if_neg hk]) (by decide));have hk':c≠5∧c≠6∧c≠7∧c≠8∧c≠9∧c≠10:=by refine⟨?_,?_,?_,?_,?_,?_⟩<;>(rintro rfl;exact hk (by decide))
  obtain⟨h5,h6,h7,h8,h9,h10⟩:=hk';have b5:(c==5)=false:=by simpa using h5
  have b6:(c==6)=false:=by simpa using h6
  have b7:(c==7)=false:=by simpa using h7
  have b8:(c==8)=false:=by simpa using h8
  have b9:(c==9)=false:=by simpa using h9
  have b10:(c==10)=false:=by simpa using h10
  clear hk HE hx h5 h6 h7 h8 h9 h10;go_enter Tryz.func110,Tryz.ntmps110;go_wp2_with(first
   | ((with_reducible apply sN 4);refine a0a rfl _ rfl zs _ ZH ?_;intro h w1 hg1 hg2 Z1 L1)
   | ((with_reducible apply sN 6);refine a0a rfl _ rfl zs _ ZH ?_;intro a w2 hg3 hg4 K2 L02;have Z2:=hI (Z1.out.over L02.out);have L2:=hI (step L1.out L02.out);have hha:h≠a:=(by omega);have hwa:w.heap.size≤a:=(by have:=L1.out.size;omega);have hsz2:=L2.out.size)
   | ((with_reducible apply sN 13);refine k0a rfl _ _ rfl ([.slice A n k,.int .i64 0]:List Value) (by refine Eq.trans ?_ BR;kernel_rfl) ?_)
   | ((with_reducible apply sN 7);refine a0a rfl _ rfl ([.slice none 0 0,.int .i64 0]:List Value) _ ZR ?_;intro g w3 hg5 hg6 R3 L03;have K3:=hI (K2.out.over L03.out);have Z3:=hI (Z2.out.over L03.out);have L3:=hI (step L2.out L03.out);have hag:a≠g:=(by omega);have hhg:h≠g:=(by have:=Z2.out.lt;omega);have hwg:w.heap.size≤g:=(by omega))
   | ((with_reducible apply sT 7);refine b0a rfl _ (.tmp 7) (.tmp 13) rfl g rfl _ ([.slice none 0 0,.int .i64 0]:List Value) ([.slice A n k,.int .i64 0]:List Value) rfl R3 2 F4a HR0 HR1 HR2 ?_;intro w4 R4 O4 hg7;have K4:=hI (K3.out.only O4.out hag);have Z4:=hI (Z3.out.only O4.out hhg);have L4:=hI (c0a L3.out O4.out hwg))
   | ((with_reducible apply sN 18);refine x0a rfl _ rfl zs BZ ?_)
   | ((with_reducible apply sT 4);refine b0a rfl _ (.tmp 4) (.tmp 18) rfl h rfl _ zs zs rfl Z4 20 t0a HZ HZ HZ1 ?_;intro w10 K10 O10 hg10))
  refine bodyPost_ret (v:=.tuple #[.agg zs.toArray,.int .i64 2]) ?_ rfl (HQ.out _ _ rfl (c0a L4.out O10.out (by omega)));exact m0a rfl _ _ h _ _ (0,0) _ rfl K10.out Tryz.underlying39 rfl (by rw[t0a];have:=HZ.out;simp[this]) rfl
 have hcs:c=5∨(c=6∨c=7∨c=10)∨c=8∨c=9:=by unfold I2a at hk;simp at hk;omega
 rcases hcs with h5 | hgr | h8 | h9
 ·subst h5;have D1:Hid (∀(w':World) (g:Nat),PF w' g w.heap.size xs rd0→Calls Tryz.prog 154 #[.pointer (some ⟨g,0,none⟩)] w' λe w2=>e=.returned (.int .u8 (s1 xs).1)∧PF w2 g w.heap.size xs (s1 xs).2∧a2a g w' w2):=λw' g h=>F9a w' g w.heap.size xs _ hby h
  have D2:Hid (∀(w':World) (g:Nat),PF w' g w.heap.size xs (s1 xs).2→Calls Tryz.prog 154 #[.pointer (some ⟨g,0,none⟩)] w' λe w2=>e=.returned (.int .u8 (s2 xs).1)∧PF w2 g w.heap.size xs (s2 xs).2∧a2a g w' w2):=λw' g h=>F9a w' g w.heap.size xs _ hby h
  have D3:Hid (∀(w':World) (g:Nat),PF w' g w.heap.size xs (s2 xs).2→Calls Tryz.prog 163 #[.pointer (some ⟨g,0,none⟩),.int .u16 2] w' λe w2=>e=.returned (.int .u16 (s3 xs).1)∧PF w2 g w.heap.size xs (s3 xs).2∧a2a g w' w2):=λw' g h=>H6b w' g w.heap.size xs _ 2 hby h (by decide)
  have D4:Hid (∀(w':World) (g:Nat),PF w' g w.heap.size xs (s3 xs).2→Calls Tryz.prog 156 #[.pointer (some ⟨g,0,none⟩)] w' λe w2=>e=.returned (.int .u64 (s4 xs).1)∧PF w2 g w.heap.size xs (s4 xs).2∧a2a g w' w2):=λw' g h=>Z2a w' g w.heap.size xs _ hby h
  have D5:Hid (∀(w':World) (g:Nat),PF w' g w.heap.size xs (s4 xs).2→Calls Tryz.prog 156 #[.pointer (some ⟨g,0,none⟩)] w' λe w2=>e=.returned (.int .u64 (s5 xs).1)∧PF w2 g w.heap.size xs (s5 xs).2∧a2a g w' w2):=λw' g h=>Z2a w' g w.heap.size xs _ hby h
  have D6:Hid (∀(w':World) (g:Nat),PF w' g w.heap.size xs (s5 xs).2→Calls Tryz.prog 163 #[.pointer (some ⟨g,0,none⟩),.int .u16 2] w' λe w2=>e=.returned (.int .u16 (s6 xs).1)∧PF w2 g w.heap.size xs (s6 xs).2∧a2a g w' w2):=λw' g h=>H6b w' g w.heap.size xs _ 2 hby h (by decide)
  have D7:Hid (∀(w':World) (g:Nat),PF w' g w.heap.size xs (s6 xs).2→Calls Tryz.prog 157 #[.pointer (some ⟨g,0,none⟩),.int .i64 2] w' λe w2=>e=.returned (.tuple #[])∧PF w2 g w.heap.size xs (s7 xs)∧a2a g w' w2):=λw' g h=>C5a w' g w.heap.size xs _ 2 hby h (by decide)
  have DE:Hid (∀(w':World) (g:Nat),PF w' g w.heap.size xs (s7 xs)→Calls Tryz.prog 161 #[.pointer (some ⟨g,0,none⟩)] w' λe w2=>e=.returned (.int .i64 (M0a xs (s7 xs)))∧w'=w2):=λw' g h=>r4a w' g w.heap.size xs _ h
  have hge:y6a 5 xs=M0a xs (s7 xs):=by unfold y6a;rw[if_pos hk];rfl
  have HQ:Hid (∀(cs:List Value) (vx:Value) (e:Ending) (w':World),M0a xs (s7 xs)=0→e=.returned (.tuple #[.agg cs.toArray,.int .i64 0])→w1a w' w'.heap.size cs { s0a with lev:=(s1 xs).1,dur:=(s2 xs).1,made:=(s3 xs).1,file:=(s4 xs).1,siz:=(s5 xs).1,kind:=(s6 xs).1 }→cs[15]? = some vx→P0a .u8 5 w' w.heap.size vx ({ s0a with lev:=(s1 xs).1,dur:=(s2 xs).1,made:=(s3 xs).1,file:=(s4 xs).1,siz:=(s5 xs).1,kind:=(s6 xs).1 }).data→Below w.heap.size w w'→J2a w 5 xs e w'):=by
   intro cs vx e w' h0 h1 h2 h3 h4 h5;have ho:z0b 5 xs={ s0a with lev:=(s1 xs).1,dur:=(s2 xs).1,made:=(s3 xs).1,file:=(s4 xs).1,siz:=(s5 xs).1,kind:=(s6 xs).1 }:=by unfold z0b;rw[hge,h0,if_pos rfl];rfl
   unfold J2a;rw[hge,h0,ho];exact⟨cs,vx,h1,h2,h3,h4,h5⟩
  have HE':=hI (HE.out _ hge);obtain⟨k6,hk6⟩:∃x,IntKind.u8.wrap (s6 xs).1=x:=⟨_,rfl⟩;have HK6:Hid (M0a xs (s7 xs)=0→k6=(s6 xs).1):=λh=>by
   have h2:=(Q4b h).2;have h0:=(f4b hby 2 (s5 xs).2).1;change 0≤(s6 xs).1 at h0
   rw[←hk6,IntKind.wrap_u8];omega
  obtain⟨er,her⟩:∃x,x=M0a xs (s7 xs):=⟨_,rfl⟩;rw[←her] at DE HQ HE' HK6;obtain⟨q1,hq1⟩:∃x,x=(s1 xs):=⟨_,rfl⟩;rw[←hq1] at D1 D2 HQ;obtain⟨q2,hq2⟩:∃x,x=(s2 xs):=⟨_,rfl⟩;rw[←hq2] at D2 D3 HQ;obtain⟨q3,hq3⟩:∃x,x=(s3 xs):=⟨_,rfl⟩;rw[←hq3] at D3 D4 HQ;obtain⟨q4,hq4⟩:∃x,x=(s4 xs):=⟨_,rfl⟩;rw[←hq4] at D4 D5 HQ;obtain⟨q5,hq5⟩:∃x,x=(s5 xs):=⟨_,rfl⟩;rw[←hq5] at D5 D6 HQ;obtain⟨q6,hq6⟩:∃x,x=(s6 xs):=⟨_,rfl⟩;rw[←hq6] at D6 D7 HQ HK6 hk6;obtain⟨q7,hq7⟩:∃x,x=(s7 xs):=⟨_,rfl⟩;rw[←hq7] at D7 DE;clear her hge HE hk hx hq1 hq2 hq3 hq4 hq5 hq6 hq7;go_enter Tryz.func110,Tryz.ntmps110;go_wp2_with(first
   | ((with_reducible apply sN 4);refine a0a rfl _ rfl zs _ ZH ?_;intro h w1 hg1 hg2 Z1 L1)
   | ((with_reducible apply sN 6);refine a0a rfl _ rfl zs _ ZH ?_;intro a w2 hg3 hg4 K2 L02;have Z2:=hI (Z1.out.over L02.out);have L2:=hI (step L1.out L02.out);have hha:h≠a:=(by omega);have hwa:w.heap.size≤a:=(by have:=L1.out.size;omega);have hsz2:=L2.out.size)
   | ((with_reducible apply sN 13);refine k0a rfl _ _ rfl ([.slice A n k,.int .i64 0]:List Value) (by refine Eq.trans ?_ BR;kernel_rfl) ?_)
   | ((with_reducible apply sN 7);refine a0a rfl _ rfl ([.slice none 0 0,.int .i64 0]:List Value) _ ZR ?_;intro g w3 hg5 hg6 R3 L03;have K3:=hI (K2.out.over L03.out);have Z3:=hI (Z2.out.over L03.out);have L3:=hI (step L2.out L03.out);have hag:a≠g:=(by omega);have hhg:h≠g:=(by have:=Z2.out.lt;omega);have hwg:w.heap.size≤g:=(by omega))
   | ((with_reducible apply sT 7);refine b0a rfl _ (.tmp 7) (.tmp 13) rfl g rfl _ ([.slice none 0 0,.int .i64 0]:List Value) ([.slice A n k,.int .i64 0]:List Value) rfl R3 2 F4a HR0 HR1 HR2 ?_;intro w4 R4 O4 hg7;have K4:=hI (K3.out.only O4.out hag);have Z4:=hI (Z3.out.only O4.out hhg);have L4:=hI (c0a L3.out O4.out hwg)))
  have P4:Hid (PF w4 g w.heap.size xs rd0):=⟨Nat.zero_le _,hwg,A,n,k,R4.out,HX.out.below L4.out⟩;clear R3 L03 K2 K3 Z1 Z2 Z3 L02 L1 L2 L3 R4 O4 HX;refine(D1.out w4 g P4.out).mono ?_;rintro e v1 ⟨rfl,hP,hO⟩;have hS:=R0a.of_only hO;have Pc1:=hI hP;have Zc1:=hI (Z4.out.save hS hhg);have Kc1:=hI (K4.out.save hS hag);have Lc1:=hI (L4.out.trans (hS.below hwg L4.out.size));clear hP hS P4 Z4 K4 L4 hO;go_wp2_with fail;refine(D2.out v1 g Pc1.out).mono ?_;rintro e v2 ⟨rfl,hP,hO⟩;have hS:=R0a.of_only hO;have Pc2:=hI hP;have Zc2:=hI (Zc1.out.save hS hhg);have Kc2:=hI (Kc1.out.save hS hag);have Lc2:=hI (Lc1.out.trans (hS.below hwg Lc1.out.size));clear hP hS Pc1 Zc1 Kc1 Lc1 hO;go_wp2_with(first
   | ((with_reducible apply sT 25);refine d0a rfl _ (.tmp 25) (.tmp 22) rfl a 10 rfl _ zs (.int .u8 q1.1) rfl Kc2 (hI (by have:=HZ.out;omega)) (by kernel_rfl) rfl ?_;intro x1 Ks1 Os1 hqs1;obtain⟨C1,hC1⟩:∃x,x=zs.set 10 (.int .u8 q1.1):=⟨_,rfl⟩;have HC1:=hI hC1;have HL1:Hid (C1.length=20):=(by rw[hC1,List.length_set];exact HZ.out);rw[←hC1] at Ks1;have Zs1:=hI (Zc2.out.only Os1.out hha);have Ps1:=hI (Pc2.out.only Os1.out (Ne.symm hag) hwa);have Ls1:=hI (c0a Lc2.out Os1.out hwa);clear hC1)
   | ((with_reducible apply sT 26);refine d0a rfl _ (.tmp 26) (.tmp 24) rfl a 11 rfl _ C1 (.int .u8 q2.1) rfl Ks1 (hI (by have:=HL1.out;omega)) (by kernel_rfl) rfl ?_;intro x2 Ks2 Os2 hqs2;obtain⟨C2,hC2⟩:∃x,x=C1.set 11 (.int .u8 q2.1):=⟨_,rfl⟩;have HC2:=hI hC2;have HL2:Hid (C2.length=20):=(by rw[hC2,List.length_set];exact HL1.out);rw[←hC2] at Ks2;have Zs2:=hI (Zs1.out.only Os2.out hha);have Ps2:=hI (Ps1.out.only Os2.out (Ne.symm hag) hwa);have Ls2:=hI (c0a Ls1.out Os2.out hwa);clear hC2))
  refine(D3.out x2 g Ps2.out).mono ?_;rintro e v3 ⟨rfl,hP,hO⟩;have hS:=R0a.of_only hO;have Pc3:=hI hP;have Zc3:=hI (Zs2.out.save hS hhg);have Kc3:=hI (Ks2.out.save hS hag);have Lc3:=hI (Ls2.out.trans (hS.below hwg Ls2.out.size));clear hP hS Ps2 Zs2 Ks2 Ls2 hO;go_wp2_with(first
   | ((with_reducible apply sT 29);refine d0a rfl _ (.tmp 29) (.tmp 28) rfl a 12 rfl _ C2 (.int .u16 q3.1) rfl Kc3 (hI (by have:=HL2.out;omega)) (by kernel_rfl) rfl ?_;intro x3 Ks3 Os3 hqs3;obtain⟨C3,hC3⟩:∃x,x=C2.set 12 (.int .u16 q3.1):=⟨_,rfl⟩;have HC3:=hI hC3;have HL3:Hid (C3.length=20):=(by rw[hC3,List.length_set];exact HL2.out);rw[←hC3] at Ks3;have Zs3:=hI (Zc3.out.only Os3.out hha);have Ps3:=hI (Pc3.out.only Os3.out (Ne.symm hag) hwa);have Ls3:=hI (c0a Lc3.out Os3.out hwa);clear hC3))
  refine(D4.out x3 g Ps3.out).mono ?_;rintro e v4 ⟨rfl,hP,hO⟩;have hS:=R0a.of_only hO;have Pc4:=hI hP;have Zc4:=hI (Zs3.out.save hS hhg);have Kc4:=hI (Ks3.out.save hS hag);have Lc4:=hI (Ls3.out.trans (hS.below hwg Ls3.out.size));clear hP hS Ps3 Zs3 Ks3 Ls3 hO;go_wp2_with fail;refine(D5.out v4 g Pc4.out).mono ?_;rintro e v5 ⟨rfl,hP,hO⟩;have hS:=R0a.of_only hO;have Pc5:=hI hP;have Zc5:=hI (Zc4.out.save hS hhg);have Kc5:=hI (Kc4.out.save hS hag);have Lc5:=hI (Lc4.out.trans (hS.below hwg Lc4.out.size));clear hP hS Pc4 Zc4 Kc4 Lc4 hO;go_wp2_with(first
   | ((with_reducible apply sT 34);refine d0a rfl _ (.tmp 34) (.tmp 31) rfl a 13 rfl _ C3 (.int .u64 q4.1) rfl Kc5 (hI (by have:=HL3.out;omega)) (by kernel_rfl) rfl ?_;intro x4 Ks4 Os4 hqs4;obtain⟨C4,hC4⟩:∃x,x=C3.set 13 (.int .u64 q4.1):=⟨_,rfl⟩;have HC4:=hI hC4;have HL4:Hid (C4.length=20):=(by rw[hC4,List.length_set];exact HL3.out);rw[←hC4] at Ks4;have Zs4:=hI (Zc5.out.only Os4.out hha);have Ps4:=hI (Pc5.out.only Os4.out (Ne.symm hag) hwa);have Ls4:=hI (c0a Lc5.out Os4.out hwa);clear hC4)
   | ((with_reducible apply sT 35);refine d0a rfl _ (.tmp 35) (.tmp 33) rfl a 1 rfl _ C4 (.int .u64 q5.1) rfl Ks4 (hI (by have:=HL4.out;omega)) (by kernel_rfl) rfl ?_;intro x5 Ks5 Os5 hqs5;obtain⟨C5,hC5⟩:∃x,x=C4.set 1 (.int .u64 q5.1):=⟨_,rfl⟩;have HC5:=hI hC5;have HL5:Hid (C5.length=20):=(by rw[hC5,List.length_set];exact HL4.out);rw[←hC5] at Ks5;have Zs5:=hI (Zs4.out.only Os5.out hha);have Ps5:=hI (Ps4.out.only Os5.out (Ne.symm hag) hwa);have Ls5:=hI (c0a Ls4.out Os5.out hwa);clear hC5))
  refine(D6.out x5 g Ps5.out).mono ?_;rintro e v6 ⟨rfl,hP,hO⟩;have hS:=R0a.of_only hO;have Pc6:=hI hP;have Zc6:=hI (Zs5.out.save hS hhg);have Kc6:=hI (Ks5.out.save hS hag);have Lc6:=hI (Ls5.out.trans (hS.below hwg Ls5.out.size));clear hP hS Ps5 Zs5 Ks5 Ls5 hO;go_wp2_with(first
   | ((with_reducible apply sT 39);refine d0a rfl _ (.tmp 39) (.tmp 38) rfl a 14 rfl _ C5 (.int .u8 k6) rfl Kc6 (hI (by have:=HL5.out;omega)) (by kernel_rfl) rfl ?_;intro x6 Ks6 Os6 hqs6;obtain⟨C6,hC6⟩:∃x,x=C5.set 14 (.int .u8 k6):=⟨_,rfl⟩;have HC6:=hI hC6;have HL6:Hid (C6.length=20):=(by rw[hC6,List.length_set];exact HL5.out);rw[←hC6] at Ks6;have Zs6:=hI (Zc6.out.only Os6.out hha);have Ps6:=hI (Pc6.out.only Os6.out (Ne.symm hag) hwa);have Ls6:=hI (c0a Lc6.out Os6.out hwa);clear hC6))
  refine(D7.out x6 g Ps6.out).mono ?_;rintro e v7 ⟨rfl,hP,hO⟩;have hS:=R0a.of_only hO;have Pc7:=hI hP;have Zc7:=hI (Zs6.out.save hS hhg);have Kc7:=hI (Ks6.out.save hS hag);have Lc7:=hI (Ls6.out.trans (hS.below hwg Ls6.out.size));clear hP hS Ps6 Zs6 Ks6 Ls6 hO;go_wp2_with fail;refine(DE.out v7 g Pc7.out).mono ?_;rintro e v7' ⟨rfl,rfl⟩;by_cases he:er=0;rotate_left
  ·have hne:(er != 0)=true:=by simpa using he
   have HN:=hI (HE'.out he);clear he HE' HQ;go_wp2_with(first
    | ((with_reducible apply sN 57);refine x0a rfl _ rfl zs BZ ?_)
    | ((with_reducible apply sT 4);refine b0a rfl _ (.tmp 4) (.tmp 57) rfl h rfl _ zs zs rfl Zc7 20 t0a HZ HZ HZ1 ?_;intro w10 K10 O10 hg10))
   refine bodyPost_ret (v:=.tuple #[.agg zs.toArray,.int .i64 er]) ?_ rfl (HN.out _ _ rfl (c0a Lc7.out O10.out (by omega)));exact m0a rfl _ _ h _ _ (0,0) _ rfl K10.out Tryz.underlying39 rfl (by rw[t0a];have:=HZ.out;simp[this]) rfl
  ·subst he;have HEQ:Hid (C6=y0a (.slice none 0 0) (.slice none 0 0) { s0a with lev:=q1.1,dur:=q2.1,made:=q3.1,file:=q4.1,siz:=q5.1,kind:=q6.1 }):=by
    show _=_
    rw[HC6.out,HC5.out,HC4.out,HC3.out,HC2.out,HC1.out,HZS.out];rw[HK6.out (by trivial)];rfl
   have H1C:Hid (∀v∈C6,v.oneCell'=true):=by
    show _
    rw[HEQ.out];exact F1a rfl rfl
   go_wp2_with(first
    | ((with_reducible apply sN 59);refine f0a rfl _ (.tmp 6) rfl a rfl _ C6 Kc7 20 _ Tryz.underlying39 rfl t0a HL6 ?_)
    | ((with_reducible apply sT 4);refine b0a rfl _ (.tmp 4) (.tmp 59) rfl h rfl _ zs C6 rfl Zc7 20 t0a HZ HL6 H1C ?_;intro w10 K10 O10 hg10))
   refine bodyPost_ret (v:=.tuple #[.agg C6.toArray,.int .i64 0]) ?_ rfl ?_
   ·exact m0a rfl _ _ h _ _ (0,0) _ rfl K10.out Tryz.underlying39 rfl (by rw[t0a];have:=HL6.out;simp[this]) rfl
   ·have LF:Below w.heap.size w w10:=c0a Lc7.out O10.out (by omega);exact HQ.out C6 (.slice none 0 0) _ _ (by trivial) rfl ⟨none,0,0,none,0,0,by rw[HEQ.out],Holds.nil _ _,c1a.nil _ _ _ _⟩ (by rw[HEQ.out];rfl) (P0a.nil _ _ _ _) LF
 ·have hge:y6a c xs=M0a xs (rdZ xs 4 rd0):=by unfold y6a;rw[if_pos hk];rcases hgr with rfl | rfl | rfl<;>rfl
  have hgo:M0a xs (rdZ xs 4 rd0)=0→z0b c xs=s0a:=λh0=>by unfold z0b;rw[hge,h0,if_pos rfl];rcases hgr with rfl | rfl | rfl<;>rfl
  obtain⟨cq,hcq⟩:∃x,x=c:=⟨_,rfl⟩;rw[show J2a w c xs=J2a w cq xs by rw[hcq]];rw[←hcq] at HE hk hge hgo;clear hcq hc;rcases hgr with rfl | rfl | rfl
  all_goals
   have D1:Hid (∀(w':World) (g:Nat),PF w' g w.heap.size xs rd0→Calls Tryz.prog 157 #[.pointer (some ⟨g,0,none⟩),.int .i64 4] w' λe w2=>e=.returned (.tuple #[])∧PF w2 g w.heap.size xs (rdZ xs 4 rd0)∧a2a g w' w2):=λw' g h=>C5a w' g w.heap.size xs _ 4 hby h (by decide)
   have DE:Hid (∀(w':World) (g:Nat),PF w' g w.heap.size xs (rdZ xs 4 rd0)→Calls Tryz.prog 161 #[.pointer (some ⟨g,0,none⟩)] w' λe w2=>e=.returned (.int .i64 (M0a xs (rdZ xs 4 rd0)))∧w'=w2):=λw' g h=>r4a w' g w.heap.size xs _ h
   have HQ:Hid (∀(cs:List Value) (vx:Value) (e:Ending) (w':World),M0a xs (rdZ xs 4 rd0)=0→e=.returned (.tuple #[.agg cs.toArray,.int .i64 0])→w1a w' w'.heap.size cs s0a→cs[15]? = some vx→P0a .u8 5 w' w.heap.size vx (s0a).data→Below w.heap.size w w'→J2a w cq xs e w'):=by intro cs vx e w' h0 h1 h2 h3 h4 h5;have ho:=hgo h0;unfold J2a;rw[hge,h0,ho];exact⟨cs,vx,h1,h2,h3,h4,h5⟩
   have HE':=hI (HE.out _ hge);obtain⟨er,her⟩:∃x,x=M0a xs (rdZ xs 4 rd0):=⟨_,rfl⟩;rw[←her] at DE HQ HE';obtain⟨q1,hq1⟩:∃x,x=(rdZ xs 4 rd0):=⟨_,rfl⟩;rw[←hq1] at D1 DE;clear her hge HE hk hx hq1;go_enter Tryz.func110,Tryz.ntmps110;go_wp2_with(first
    | ((with_reducible apply sN 4);refine a0a rfl _ rfl zs _ ZH ?_;intro h w1 hg1 hg2 Z1 L1)
    | ((with_reducible apply sN 6);refine a0a rfl _ rfl zs _ ZH ?_;intro a w2 hg3 hg4 K2 L02;have Z2:=hI (Z1.out.over L02.out);have L2:=hI (step L1.out L02.out);have hha:h≠a:=(by omega);have hwa:w.heap.size≤a:=(by have:=L1.out.size;omega);have hsz2:=L2.out.size)
    | ((with_reducible apply sN 13);refine k0a rfl _ _ rfl ([.slice A n k,.int .i64 0]:List Value) (by refine Eq.trans ?_ BR;kernel_rfl) ?_)
    | ((with_reducible apply sN 7);refine a0a rfl _ rfl ([.slice none 0 0,.int .i64 0]:List Value) _ ZR ?_;intro g w3 hg5 hg6 R3 L03;have K3:=hI (K2.out.over L03.out);have Z3:=hI (Z2.out.over L03.out);have L3:=hI (step L2.out L03.out);have hag:a≠g:=(by omega);have hhg:h≠g:=(by have:=Z2.out.lt;omega);have hwg:w.heap.size≤g:=(by omega))
    | ((with_reducible apply sT 7);refine b0a rfl _ (.tmp 7) (.tmp 13) rfl g rfl _ ([.slice none 0 0,.int .i64 0]:List Value) ([.slice A n k,.int .i64 0]:List Value) rfl R3 2 F4a HR0 HR1 HR2 ?_;intro w4 R4 O4 hg7;have K4:=hI (K3.out.only O4.out hag);have Z4:=hI (Z3.out.only O4.out hhg);have L4:=hI (c0a L3.out O4.out hwg)))
   have P4:Hid (PF w4 g w.heap.size xs rd0):=⟨Nat.zero_le _,hwg,A,n,k,R4.out,HX.out.below L4.out⟩;clear R3 L03 K2 K3 Z1 Z2 Z3 L02 L1 L2 L3 R4 O4 HX;refine(D1.out w4 g P4.out).mono ?_;rintro e v1 ⟨rfl,hP,hO⟩;have hS:=R0a.of_only hO;have Pc1:=hI hP;have Zc1:=hI (Z4.out.save hS hhg);have Kc1:=hI (K4.out.save hS hag);have Lc1:=hI (L4.out.trans (hS.below hwg L4.out.size));clear hP hS P4 Z4 K4 L4 hO;go_wp2_with fail;refine(DE.out v1 g Pc1.out).mono ?_;rintro e v1' ⟨rfl,rfl⟩;by_cases he:er=0;rotate_left
   ·have hne:(er != 0)=true:=by simpa using he
    have HN:=hI (HE'.out he);clear he HE' HQ;go_wp2_with(first
     | ((with_reducible apply sN 57);refine x0a rfl _ rfl zs BZ ?_)
     | ((with_reducible apply sT 4);refine b0a rfl _ (.tmp 4) (.tmp 57) rfl h rfl _ zs zs rfl Zc1 20 t0a HZ HZ HZ1 ?_;intro w10 K10 O10 hg10))
    refine bodyPost_ret (v:=.tuple #[.agg zs.toArray,.int .i64 er]) ?_ rfl (HN.out _ _ rfl (c0a Lc1.out O10.out (by omega)));exact m0a rfl _ _ h _ _ (0,0) _ rfl K10.out Tryz.underlying39 rfl (by rw[t0a];have:=HZ.out;simp[this]) rfl
   ·subst he;have HEQ:Hid (zs=y0a (.slice none 0 0) (.slice none 0 0) s0a):=by
     show _=_
     exact HZS.out
    have H1C:Hid (∀v∈zs,v.oneCell'=true):=by
     show _
     rw[HEQ.out];exact F1a rfl rfl
    go_wp2_with(first
     | ((with_reducible apply sN 59);refine f0a rfl _ (.tmp 6) rfl a rfl _ zs Kc1 20 _ Tryz.underlying39 rfl t0a HZ ?_)
     | ((with_reducible apply sT 4);refine b0a rfl _ (.tmp 4) (.tmp 59) rfl h rfl _ zs zs rfl Zc1 20 t0a HZ HZ H1C ?_;intro w10 K10 O10 hg10))
    refine bodyPost_ret (v:=.tuple #[.agg zs.toArray,.int .i64 0]) ?_ rfl ?_
    ·exact m0a rfl _ _ h _ _ (0,0) _ rfl K10.out Tryz.underlying39 rfl (by rw[t0a];have:=HZ.out;simp[this]) rfl
    ·have LF:Below w.heap.size w w10:=c0a Lc1.out O10.out (by omega);exact HQ.out zs (.slice none 0 0) _ _ (by trivial) rfl ⟨none,0,0,none,0,0,by rw[HEQ.out],Holds.nil _ _,c1a.nil _ _ _ _⟩ (by rw[HEQ.out];rfl) (P0a.nil _ _ _ _) LF
 ·subst h8;have D1:Hid (∀(w':World) (g:Nat),PF w' g w.heap.size xs rd0→Calls Tryz.prog 159 #[.pointer (some ⟨g,0,none⟩)] w' λe w2=>∃v,e=.returned v∧P0a .u8 5 w2 w'.heap.size v (s8 xs).1∧PF w2 g w.heap.size xs (s8 xs).2∧R0a g w' w2):=λw' g h=>j3b w' g w.heap.size xs _ hby h
  have DE:Hid (∀(w':World) (g:Nat),PF w' g w.heap.size xs (s8 xs).2→Calls Tryz.prog 161 #[.pointer (some ⟨g,0,none⟩)] w' λe w2=>e=.returned (.int .i64 (M0a xs (s8 xs).2))∧w'=w2):=λw' g h=>r4a w' g w.heap.size xs _ h
  have hge:y6a 8 xs=M0a xs (s8 xs).2:=by unfold y6a;rw[if_pos hk];rfl
  have HQ:Hid (∀(cs:List Value) (vx:Value) (e:Ending) (w':World),M0a xs (s8 xs).2=0→e=.returned (.tuple #[.agg cs.toArray,.int .i64 0])→w1a w' w'.heap.size cs { s0a with data:=(s8 xs).1 }→cs[15]? = some vx→P0a .u8 5 w' w.heap.size vx ({ s0a with data:=(s8 xs).1 }).data→Below w.heap.size w w'→J2a w 8 xs e w'):=by
   intro cs vx e w' h0 h1 h2 h3 h4 h5;have ho:z0b 8 xs={ s0a with data:=(s8 xs).1 }:=by unfold z0b;rw[hge,h0,if_pos rfl];rfl
   unfold J2a;rw[hge,h0,ho];exact⟨cs,vx,h1,h2,h3,h4,h5⟩
  have HE':=hI (HE.out _ hge);have DL:Hid (Bytes (s8 xs).1∧(s8 xs).1.length≤32768):=h8a hby _;obtain⟨er,her⟩:∃x,x=M0a xs (s8 xs).2:=⟨_,rfl⟩;rw[←her] at DE HQ HE';obtain⟨q1,hq1⟩:∃x,x=(s8 xs):=⟨_,rfl⟩;rw[←hq1] at D1 DE HQ DL;clear her hge HE hk hx hq1;go_enter Tryz.func110,Tryz.ntmps110;go_wp2_with(first
   | ((with_reducible apply sN 4);refine a0a rfl _ rfl zs _ ZH ?_;intro h w1 hg1 hg2 Z1 L1)
   | ((with_reducible apply sN 6);refine a0a rfl _ rfl zs _ ZH ?_;intro a w2 hg3 hg4 K2 L02;have Z2:=hI (Z1.out.over L02.out);have L2:=hI (step L1.out L02.out);have hha:h≠a:=(by omega);have hwa:w.heap.size≤a:=(by have:=L1.out.size;omega);have hsz2:=L2.out.size)
   | ((with_reducible apply sN 13);refine k0a rfl _ _ rfl ([.slice A n k,.int .i64 0]:List Value) (by refine Eq.trans ?_ BR;kernel_rfl) ?_)
   | ((with_reducible apply sN 7);refine a0a rfl _ rfl ([.slice none 0 0,.int .i64 0]:List Value) _ ZR ?_;intro g w3 hg5 hg6 R3 L03;have K3:=hI (K2.out.over L03.out);have Z3:=hI (Z2.out.over L03.out);have L3:=hI (step L2.out L03.out);have hag:a≠g:=(by omega);have hhg:h≠g:=(by have:=Z2.out.lt;omega);have hwg:w.heap.size≤g:=(by omega))
   | ((with_reducible apply sT 7);refine b0a rfl _ (.tmp 7) (.tmp 13) rfl g rfl _ ([.slice none 0 0,.int .i64 0]:List Value) ([.slice A n k,.int .i64 0]:List Value) rfl R3 2 F4a HR0 HR1 HR2 ?_;intro w4 R4 O4 hg7;have K4:=hI (K3.out.only O4.out hag);have Z4:=hI (Z3.out.only O4.out hhg);have L4:=hI (c0a L3.out O4.out hwg)))
  have P4:Hid (PF w4 g w.heap.size xs rd0):=⟨Nat.zero_le _,hwg,A,n,k,R4.out,HX.out.below L4.out⟩;clear R3 L03 K2 K3 Z1 Z2 Z3 L02 L1 L2 L3 R4 O4 HX;refine(D1.out w4 g P4.out).mono ?_;rintro e v1 ⟨u1,rfl,hV,hP,hS⟩;have V1:=hI hV;have hbs1:a<w4.heap.size∧h<w4.heap.size∧w.heap.size≤w4.heap.size:=⟨K4.out.lt,Z4.out.lt,L4.out.size⟩;obtain⟨b1,hb1⟩:∃x,x=w4.heap.size:=⟨_,rfl⟩;rw[←hb1] at V1 hbs1;obtain⟨hba1,hbh1,hbw1⟩:=hbs1;clear hV hb1;have Pc1:=hI hP;have Zc1:=hI (Z4.out.save hS hhg);have Kc1:=hI (K4.out.save hS hag);have Lc1:=hI (L4.out.trans (hS.below hwg L4.out.size));clear hP hS P4 Z4 K4 L4;go_wp2_with(first
   | ((with_reducible apply sT 44);refine d0a rfl _ (.tmp 44) (.tmp 43) rfl a 15 rfl _ zs (u1) rfl Kc1 (hI (by have:=HZ.out;omega)) (by kernel_rfl) (s4a V1.out) ?_;intro x1 Ks1 Os1 hqs1;obtain⟨C1,hC1⟩:∃x,x=zs.set 15 (u1):=⟨_,rfl⟩;have HC1:=hI hC1;have HL1:Hid (C1.length=20):=(by rw[hC1,List.length_set];exact HZ.out);rw[←hC1] at Ks1;have Zs1:=hI (Zc1.out.only Os1.out hha);have Ps1:=hI (Pc1.out.only Os1.out (Ne.symm hag) hwa);have Ls1:=hI (c0a Lc1.out Os1.out hwa);have V1s1:=hI (V1.out.onlyAt Os1.out hba1);clear hC1))
  refine(DE.out x1 g Ps1.out).mono ?_;rintro e x1' ⟨rfl,rfl⟩;by_cases he:er=0;rotate_left
  ·have hne:(er != 0)=true:=by simpa using he
   have HN:=hI (HE'.out he);clear he HE' HQ;go_wp2_with(first
    | ((with_reducible apply sN 57);refine x0a rfl _ rfl zs BZ ?_)
    | ((with_reducible apply sT 4);refine b0a rfl _ (.tmp 4) (.tmp 57) rfl h rfl _ zs zs rfl Zs1 20 t0a HZ HZ HZ1 ?_;intro w10 K10 O10 hg10))
   refine bodyPost_ret (v:=.tuple #[.agg zs.toArray,.int .i64 er]) ?_ rfl (HN.out _ _ rfl (c0a Ls1.out O10.out (by omega)));exact m0a rfl _ _ h _ _ (0,0) _ rfl K10.out Tryz.underlying39 rfl (by rw[t0a];have:=HZ.out;simp[this]) rfl
  ·subst he;have HEQ:Hid (C1=y0a u1 (.slice none 0 0) { s0a with data:=q1.1 }):=by
    show _=_
    rw[HC1.out,HZS.out];rfl
   have H1C:Hid (∀v∈C1,v.oneCell'=true):=by
    show _
    rw[HEQ.out];exact F1a (s4a V1s1.out) rfl
   go_wp2_with(first
    | ((with_reducible apply sN 59);refine f0a rfl _ (.tmp 6) rfl a rfl _ C1 Ks1 20 _ Tryz.underlying39 rfl t0a HL1 ?_)
    | ((with_reducible apply sT 4);refine b0a rfl _ (.tmp 4) (.tmp 59) rfl h rfl _ zs C1 rfl Zs1 20 t0a HZ HL1 H1C ?_;intro w10 K10 O10 hg10))
   refine bodyPost_ret (v:=.tuple #[.agg C1.toArray,.int .i64 0]) ?_ rfl ?_
   ·exact m0a rfl _ _ h _ _ (0,0) _ rfl K10.out Tryz.underlying39 rfl (by rw[t0a];have:=HL1.out;simp[this]) rfl
   ·have LF:Below w.heap.size w w10:=c0a Ls1.out O10.out (by omega);have VF:=P0a.onlyAt V1s1.out O10.out hbh1;obtain⟨Ax,kx,hux,hHx⟩:=P0a.holds8 VF DL.out.1 (Nat.le_trans DL.out.2 (by decide));exact HQ.out C1 u1 _ _ (by trivial) rfl ⟨Ax,_,kx,none,0,0,by rw[HEQ.out,hux],hHx,c1a.nil _ _ _ _⟩ (by rw[HEQ.out];rfl) (VF.mono hbw1) LF
 ·subst h9;have D1:Hid (∀(w':World) (g:Nat),PF w' g w.heap.size xs rd0→Calls Tryz.prog 155 #[.pointer (some ⟨g,0,none⟩)] w' λe w2=>e=.returned (.int .u32 (s9 xs).1)∧PF w2 g w.heap.size xs (s9 xs).2∧a2a g w' w2):=λw' g h=>k5a w' g w.heap.size xs _ hby h
  have DE:Hid (∀(w':World) (g:Nat),PF w' g w.heap.size xs (s9 xs).2→Calls Tryz.prog 161 #[.pointer (some ⟨g,0,none⟩)] w' λe w2=>e=.returned (.int .i64 (M0a xs (s9 xs).2))∧w'=w2):=λw' g h=>r4a w' g w.heap.size xs _ h
  have hge:y6a 9 xs=M0a xs (s9 xs).2:=by unfold y6a;rw[if_pos hk];rfl
  have HQ:Hid (∀(cs:List Value) (vx:Value) (e:Ending) (w':World),M0a xs (s9 xs).2=0→e=.returned (.tuple #[.agg cs.toArray,.int .i64 0])→w1a w' w'.heap.size cs { s0a with n:=(s9 xs).1 }→cs[15]? = some vx→P0a .u8 5 w' w.heap.size vx ({ s0a with n:=(s9 xs).1 }).data→Below w.heap.size w w'→J2a w 9 xs e w'):=by
   intro cs vx e w' h0 h1 h2 h3 h4 h5;have ho:z0b 9 xs={ s0a with n:=(s9 xs).1 }:=by unfold z0b;rw[hge,h0,if_pos rfl];rfl
   unfold J2a;rw[hge,h0,ho];exact⟨cs,vx,h1,h2,h3,h4,h5⟩
  have HE':=hI (HE.out _ hge);obtain⟨er,her⟩:∃x,x=M0a xs (s9 xs).2:=⟨_,rfl⟩;rw[←her] at DE HQ HE';obtain⟨q1,hq1⟩:∃x,x=(s9 xs):=⟨_,rfl⟩;rw[←hq1] at D1 DE HQ;clear her hge HE hk hx hq1;go_enter Tryz.func110,Tryz.ntmps110;go_wp2_with(first
   | ((with_reducible apply sN 4);refine a0a rfl _ rfl zs _ ZH ?_;intro h w1 hg1 hg2 Z1 L1)
   | ((with_reducible apply sN 6);refine a0a rfl _ rfl zs _ ZH ?_;intro a w2 hg3 hg4 K2 L02;have Z2:=hI (Z1.out.over L02.out);have L2:=hI (step L1.out L02.out);have hha:h≠a:=(by omega);have hwa:w.heap.size≤a:=(by have:=L1.out.size;omega);have hsz2:=L2.out.size)
   | ((with_reducible apply sN 13);refine k0a rfl _ _ rfl ([.slice A n k,.int .i64 0]:List Value) (by refine Eq.trans ?_ BR;kernel_rfl) ?_)
   | ((with_reducible apply sN 7);refine a0a rfl _ rfl ([.slice none 0 0,.int .i64 0]:List Value) _ ZR ?_;intro g w3 hg5 hg6 R3 L03;have K3:=hI (K2.out.over L03.out);have Z3:=hI (Z2.out.over L03.out);have L3:=hI (step L2.out L03.out);have hag:a≠g:=(by omega);have hhg:h≠g:=(by have:=Z2.out.lt;omega);have hwg:w.heap.size≤g:=(by omega))
   | ((with_reducible apply sT 7);refine b0a rfl _ (.tmp 7) (.tmp 13) rfl g rfl _ ([.slice none 0 0,.int .i64 0]:List Value) ([.slice A n k,.int .i64 0]:List Value) rfl R3 2 F4a HR0 HR1 HR2 ?_;intro w4 R4 O4 hg7;have K4:=hI (K3.out.only O4.out hag);have Z4:=hI (Z3.out.only O4.out hhg);have L4:=hI (c0a L3.out O4.out hwg)))
  have P4:Hid (PF w4 g w.heap.size xs rd0):=⟨Nat.zero_le _,hwg,A,n,k,R4.out,HX.out.below L4.out⟩;clear R3 L03 K2 K3 Z1 Z2 Z3 L02 L1 L2 L3 R4 O4 HX;refine(D1.out w4 g P4.out).mono ?_;rintro e v1 ⟨rfl,hP,hO⟩;have hS:=R0a.of_only hO;have Pc1:=hI hP;have Zc1:=hI (Z4.out.save hS hhg);have Kc1:=hI (K4.out.save hS hag);have Lc1:=hI (L4.out.trans (hS.below hwg L4.out.size));clear hP hS P4 Z4 K4 L4 hO;go_wp2_with(first
   | ((with_reducible apply sT 48);refine d0a rfl _ (.tmp 48) (.tmp 47) rfl a 16 rfl _ zs (.int .u32 q1.1) rfl Kc1 (hI (by have:=HZ.out;omega)) (by kernel_rfl) rfl ?_;intro x1 Ks1 Os1 hqs1;obtain⟨C1,hC1⟩:∃x,x=zs.set 16 (.int .u32 q1.1):=⟨_,rfl⟩;have HC1:=hI hC1;have HL1:Hid (C1.length=20):=(by rw[hC1,List.length_set];exact HZ.out);rw[←hC1] at Ks1;have Zs1:=hI (Zc1.out.only Os1.out hha);have Ps1:=hI (Pc1.out.only Os1.out (Ne.symm hag) hwa);have Ls1:=hI (c0a Lc1.out Os1.out hwa);clear hC1))
  refine(DE.out x1 g Ps1.out).mono ?_;rintro e x1' ⟨rfl,rfl⟩;by_cases he:er=0;rotate_left
  ·have hne:(er != 0)=true:=by simpa using he
   have HN:=hI (HE'.out he);clear he HE' HQ;go_wp2_with(first
    | ((with_reducible apply sN 57);refine x0a rfl _ rfl zs BZ ?_)
    | ((with_reducible apply sT 4);refine b0a rfl _ (.tmp 4) (.tmp 57) rfl h rfl _ zs zs rfl Zs1 20 t0a HZ HZ HZ1 ?_;intro w10 K10 O10 hg10))
   refine bodyPost_ret (v:=.tuple #[.agg zs.toArray,.int .i64 er]) ?_ rfl (HN.out _ _ rfl (c0a Ls1.out O10.out (by omega)));exact m0a rfl _ _ h _ _ (0,0) _ rfl K10.out Tryz.underlying39 rfl (by rw[t0a];have:=HZ.out;simp[this]) rfl
  ·subst he;have HEQ:Hid (C1=y0a (.slice none 0 0) (.slice none 0 0) { s0a with n:=q1.1 }):=by
    show _=_
    rw[HC1.out,HZS.out];rfl
   have H1C:Hid (∀v∈C1,v.oneCell'=true):=by
    show _
    rw[HEQ.out];exact F1a rfl rfl
   go_wp2_with(first
    | ((with_reducible apply sN 59);refine f0a rfl _ (.tmp 6) rfl a rfl _ C1 Ks1 20 _ Tryz.underlying39 rfl t0a HL1 ?_)
    | ((with_reducible apply sT 4);refine b0a rfl _ (.tmp 4) (.tmp 59) rfl h rfl _ zs C1 rfl Zs1 20 t0a HZ HL1 H1C ?_;intro w10 K10 O10 hg10))
   refine bodyPost_ret (v:=.tuple #[.agg C1.toArray,.int .i64 0]) ?_ rfl ?_
   ·exact m0a rfl _ _ h _ _ (0,0) _ rfl K10.out Tryz.underlying39 rfl (by rw[t0a];have:=HL1.out;simp[this]) rfl
   ·have LF:Below w.heap.size w w10:=c0a Ls1.out O10.out (by omega);exact HQ.out C1 (.slice none 0 0) _ _ (by trivial) rfl ⟨none,0,0,none,0,0,by rw[HEQ.out],Holds.nil _ _,c1a.nil _ _ _ _⟩ (by rw[HEQ.out];rfl) (P0a.nil _ _ _ _) LF
theorem Y8a(c:Int)(a:z1a):i1a c a=j0a↔a8b c a=a:=by
 obtain⟨a1,a2,a3,a4,a5,a6,a7,a8,a9,a10,a11,a12,a13,a14,a15,a16,a17,a18,a19,a20,a21,a22,a23⟩:=a;unfold i1a a8b;split
 ·simp only[j0a,z1a.mk.injEq];constructor<;>(intro h;obtain⟨h1,h2,h3,h4,h5,h6,h7,h8,h9,h10,h11,h12,h13,h14,h15,h16,h17,h18,h19,h20,h21,h22,h23⟩:=h;subst_vars;simp)
 ·split
  ·simp only[j0a,z1a.mk.injEq];constructor<;>(intro h;obtain⟨h1,h2,h3,h4,h5,h6,h7,h8,h9,h10,h11,h12,h13,h14,h15,h16,h17,h18,h19,h20,h21,h22,h23⟩:=h;subst_vars;simp)
  ·split
   ·simp only[j0a,z1a.mk.injEq];constructor<;>(intro h;obtain⟨h1,h2,h3,h4,h5,h6,h7,h8,h9,h10,h11,h12,h13,h14,h15,h16,h17,h18,h19,h20,h21,h22,h23⟩:=h;subst_vars;simp)
   ·split
    ·simp only[j0a,z1a.mk.injEq];constructor<;>(intro h;obtain⟨h1,h2,h3,h4,h5,h6,h7,h8,h9,h10,h11,h12,h13,h14,h15,h16,h17,h18,h19,h20,h21,h22,h23⟩:=h;subst_vars;simp)
    ·simp only[j0a,z1a.mk.injEq];constructor<;>(intro h;obtain⟨h1,h2,h3,h4,h5,h6,h7,h8,h9,h10,h11,h12,h13,h14,h15,h16,h17,h18,h19,h20,h21,h22,h23⟩:=h;subst_vars;simp)
theorem i8a(c:Int)(s:W1a):m1a c s=s0a↔N4b c s=s:=by
 obtain⟨a1,a2,a3,a4,a5,a6,a7,a8,a9,a10,a11,a12,a13⟩:=s;unfold m1a N4b;split
 ·simp only[s0a,W1a.mk.injEq];constructor<;>(intro h;obtain⟨h1,h2,h3,h4,h5,h6,h7,h8,h9,h10,h11,h12,h13⟩:=h;subst_vars;simp)
 ·split
  ·simp only[s0a,W1a.mk.injEq];constructor<;>(intro h;obtain⟨h1,h2,h3,h4,h5,h6,h7,h8,h9,h10,h11,h12,h13⟩:=h;subst_vars;simp)
  ·split
   ·simp only[s0a,W1a.mk.injEq];constructor<;>(intro h;obtain⟨h1,h2,h3,h4,h5,h6,h7,h8,h9,h10,h11,h12,h13⟩:=h;subst_vars;simp)
   ·exact eq_comm
theorem S4b{c:Int}{a:z1a}(h:r7a c a=0):I2a c=true∧a8b c a=a∧shut a.locks=true∧a.data.length≤32768∧a.locks.length≤16∧(c=5→B0a a.name.data.toList=0)∧e4b c a=e8a c a:=by
 have h0:=h;unfold r7a at h;by_cases h1:q7a c a=true
 ·rw[if_pos h1] at h;by_cases h2:a.data.length≤32768∧a.locks.length≤16
  ·rw[if_pos h2] at h;unfold q7a at h1;simp only[Bool.and_eq_true,decide_eq_true_eq] at h1;refine⟨h1.1,(Y8a c a).1 h1.2.1,h1.2.2,h2.1,h2.2,λh5=>by rw[if_pos h5] at h;exact h,by unfold e4b;rw[if_pos h0]⟩
  ·rw[if_neg h2] at h;exact absurd h (by decide)
 ·rw[if_neg h1] at h;exact absurd h (by decide)
theorem T4b{c:Int}{s:W1a}(h:V6a c s=0):I2a c=true∧N4b c s=s∧s.made≤2∧s.kind≤2∧s.data.length≤32768∧O4b c s=U4a c s:=by
 have h0:=h;unfold V6a at h;by_cases h1:i3a c s=true∧s.made≤2∧s.kind≤2
 ·rw[if_pos h1] at h;by_cases h2:s.data.length≤32768
  ·obtain⟨h3,h4,h5⟩:=h1;unfold i3a at h3;simp only[Bool.and_eq_true,decide_eq_true_eq] at h3;exact⟨h3.1,(i8a c s).1 h3.2,h4,h5,h2,by unfold O4b;rw[if_pos h0]⟩
  ·rw[if_neg h2] at h;exact absurd h (by decide)
 ·rw[if_neg h1] at h;exact absurd h (by decide)
theorem Z8a{c:Int}(h:I2a c=true):c=5∨c=6∨c=7∨c=8∨c=9∨c=10:=by unfold I2a at h;simp at h;omega
theorem L6b{c:Int}{a:z1a}(k:a.ok):Bytes (u3a c a):=by
 unfold u3a;split
 ·split
  ·exact((F0a _ _).append (n2b _)).append k.gbyte
  ·split
   ·exact k.pbyte.append (S1a _)
   ·split
    ·exact S1a _
    ·exact Bytes.zeros 4
 ·exact Bytes.nil
theorem b9b{c:Int}{a:z1a}(k:a.ok):(u3a c a).length≤70000:=by
 unfold u3a;split
 ·rename_i he;split
  ·rename_i h0;have hd:a.dial.length≤16:=by
    unfold v1a at he;by_cases hk:W0a c=true∧g1a c a=j0a
    ·rw[if_pos hk,if_pos h0] at he;by_cases hd:a.dial.length≤16
     ·exact hd
     ·rw[if_neg hd] at he;exact absurd he (by decide)
    ·rw[if_neg hk] at he;exact absurd he (by decide)
   unfold r6a;rw[List.length_append,List.length_append,w0a,o7a,k.glen];omega
  ·split
   ·have:=c3a a.user.data.toList;rw[List.length_append,k.plen];omega
   ·split
    ·have:=c3a a.share.data.toList;omega
    ·simp
 ·simp
theorem M6b{c:Int}{a:W1a}(k:a.ok):Bytes (c4a c a):=by
 unfold c4a;split
 ·split
  ·exact(((F0a _ _).append (Bytes.zeros 2)).append (F0a _ _)).append k.cbyte
  ·exact Bytes.zeros 4
 ·exact Bytes.nil
theorem c9b{c:Int}{a:W1a}(k:a.ok):(c4a c a).length≤70000:=by
 unfold c4a;split
 ·split
  ·simp only[List.length_append,w0a,List.length_replicate,k.clen];omega
  ·simp
 ·simp
theorem N6b(c:Int){xs:List Int}(hx:Bytes xs):(e2a c xs).ok:=by
 by_cases h:a3a c xs=0
 ·exact(a3b c hx h).2.2
 ·unfold e2a;rw[if_neg h];exact h0a
theorem O6b(c:Int){xs:List Int}(hx:Bytes xs):(K3a c xs).ok:=by
 by_cases h:j4a c xs=0
 ·exact(b3b c hx h).2.2
 ·unfold K3a;rw[if_neg h];exact G0a
theorem H8a(c:Int)(xs:List Int):(K3a c xs).data=[]∧(K3a c xs).ents=[]:=by
 unfold K3a;split
 ·unfold r2b;split<;>exact⟨rfl,rfl⟩
 ·exact⟨rfl,rfl⟩
theorem d9b(w:World)(B:Nat)(c:Int)(xs:List Int):w1a w B (y0a (.slice none 0 0) (.slice none 0 0) (K3a c xs)) (K3a c xs):=by
 obtain⟨h1,h2⟩:=H8a c xs;refine⟨none,0,0,none,0,0,rfl,?_,?_⟩
 ·rw[h1];exact Holds.nil _ _
 ·rw[h2];exact c1a.nil _ _ _ _
theorem z1b(c:Int)(xs:List Int):(e2a c xs).data=[]∧(e2a c xs).locks=[]:=by
 unfold e2a;split
 ·unfold U6a;split
  ·exact⟨rfl,rfl⟩
  ·split
   ·exact⟨rfl,rfl⟩
   ·split<;>exact⟨rfl,rfl⟩
 ·exact⟨rfl,rfl⟩
theorem k4b(rs:List Int):(rs.flatMap enc).length≤4*rs.length:=by
 induction rs with
 | nil=>exact Nat.le_refl _
 | cons r rs ih=>rw[List.flatMap_cons,List.length_append,List.length_cons];have:=N9b (r:=r);omega
theorem d8b(rs:List Int):rs.length≤t2a rs:=by
 induction rs with
 | nil=>exact Nat.le_refl _
 | cons r rs ih=>rw[t2a,List.length_cons];split<;>omega
theorem G5b{xs:List Int}(hx:Bytes xs):(T3a xs).length≤4*xs.length:=by
 unfold T3a;cases hg:F7b xs with
 | none=>exact Nat.zero_le _
 | some rs=>
  obtain⟨h1,h2⟩:=L2b hx hg;have h3:=z4a rs;rw[h2] at h3;have h4:=d8b rs;have h5:=k4b rs;show(rs.flatMap enc).length≤_
  omega
theorem I8a{xs:List Int}(hx:Bytes xs)(a:Int):(R1a xs a).length≤262140:=by
 unfold R1a;split
 ·have h1:=O2b hx a 512;have h2:=G5b (c6a hx a 512);omega
 ·exact Nat.zero_le _
theorem A1b{xs:List Int}(hx:Bytes xs)(r:Rd):(S0a xs r).1.length≤262140:=by
 unfold S0a;split
 ·exact I8a hx _
 ·exact Nat.zero_le _
theorem j8a(l:List UInt8):(⟨l.toArray⟩:ByteArray).size=l.length:=by simp[ByteArray.size]
theorem l4b(c:Int){xs:List Int}(hx:Bytes xs):(e2a c xs).user.size≤17592186044416∧(e2a c xs).share.size≤17592186044416:=by
 have z:j0a.user.size≤17592186044416∧j0a.share.size≤17592186044416:=by decide
 unfold e2a;split
 ·unfold U6a;split
  ·exact z
  ·split
   ·refine⟨?_,z.2⟩;show(⟨(S0a xs (z0a xs 32 rd0).2).1.toArray⟩:ByteArray).size≤_
    rw[j8a];have:=A1b hx (z0a xs 32 rd0).2;omega
   ·split
    ·refine⟨z.1,?_⟩;show(⟨(S0a xs rd0).1.toArray⟩:ByteArray).size≤_
     rw[j8a];have:=A1b hx rd0;omega
    ·exact z
 ·exact z
theorem e8b{c:Int}{a:z1a}(k:a.ok):Bytes (e4b c a):=by
 unfold e4b;split
 ·unfold e8a;split
  ·exact(F0a _ _).append ((F0a _ _).append ((F0a _ _).append ((F0a _ _).append ((F0a _ _).append ((F0a _ _).append ((Bytes.zeros 2).append ((F0a _ _).append (S1a _))))))))
  ·split
   ·exact(F0a _ _).append ((F0a _ _).append (F0a _ _))
   ·split
    ·exact(F0a _ _).append ((F0a _ _).append ((F0a _ _).append k.data))
    ·split
     ·exact(F0a _ _).append ((F0a _ _).append ((Bytes.zeros 2).append (z6a _)))
     ·exact F0a _ _
 ·exact Bytes.nil
theorem S9b{c:Int}{a:z1a}:(e4b c a).length≤70000:=by
 unfold e4b;split
 ·rename_i he;obtain⟨_,_,_,hd,hl,_,_⟩:=S4b he;unfold e8a;split
  ·have:=c3a a.name.data.toList;simp only[List.length_append,w0a,List.length_replicate];omega
  ·split
   ·simp only[List.length_append,w0a];omega
   ·split
    ·simp only[List.length_append,w0a];omega
    ·split
     ·simp only[List.length_append,w0a,List.length_replicate,G8a];omega
     ·simp only[w0a];omega
 ·simp
theorem f8b{c:Int}{a:W1a}(k:a.ok):Bytes (O4b c a):=by
 unfold O4b;split
 ·unfold U4a;split
  ·exact(F0a _ _).append ((F0a _ _).append ((F0a _ _).append ((F0a _ _).append ((F0a _ _).append ((F0a _ _).append (Bytes.zeros 2))))))
  ·split
   ·exact(F0a _ _).append k.data
   ·split
    ·exact F0a _ _
    ·exact Bytes.zeros 4
 ·exact Bytes.nil
theorem T9b{c:Int}{a:W1a}:(O4b c a).length≤70000:=by
 unfold O4b;split
 ·rename_i he;obtain⟨_,_,_,_,hd,_⟩:=T4b he;unfold U4a;split
  ·simp only[List.length_append,w0a,List.length_replicate];omega
  ·split
   ·simp only[List.length_append,w0a];omega
   ·split
    ·simp only[w0a];omega
    ·simp
 ·simp
theorem V1a{xs:List Int}{s:Nat}{r:Rd}(hx:Bytes xs)(h:(rdN xs s r).2.e=0):r.e=0∧xs.take (rdN xs s r).2.p=xs.take r.p++le (rdN xs s r).1 s:=by obtain⟨h1,h2,_,h4⟩:=v6a hx h;refine⟨h1,?_⟩;rw[show(rdN xs s r).2.p=r.p+s from by rw[h2]];exact h4
theorem n5a{xs:List Int}{m:Nat}{r:Rd}(h:(rdZ xs m r).e=0):r.e=0∧xs.take (rdZ xs m r).p=xs.take r.p++List.replicate m 0:=by obtain⟨h1,h2,_,h4⟩:=d8a h;refine⟨h1,?_⟩;rw[show(rdZ xs m r).p=r.p+m from by rw[h2]];exact h4
theorem P6b{xs:List Int}{most:Int}{r:Rd}(hx:Bytes xs)(h:(x9a xs most r).2.e=0):r.e=0∧(x9a xs most r).1≤most∧xs.take (x9a xs most r).2.p=xs.take r.p++le (x9a xs most r).1 2:=by obtain⟨h1,h2,h3⟩:=g4b h;rw[h3];exact⟨(V1a hx h1).1,h2,(V1a hx h1).2⟩
theorem o5a{xs:List Int}{s:Nat}{most er:Int}{r:Rd}(hx:Bytes xs)(hne:er≠0)(h:(a1a xs s most er r).2.e=0):r.e=0∧(a1a xs s most er r).1≤most∧xs.take (a1a xs s most er r).2.p=xs.take r.p++le (a1a xs s most er r).1 s:=by obtain⟨h1,h2,h3⟩:=D6b hne h;rw[h3];exact⟨(V1a hx h1).1,h2,(V1a hx h1).2⟩
theorem B6a{xs:List Int}{r:Rd}(hx:Bytes xs)(h:(I1a xs r).2.e=0):r.e=0∧B0a (I1a xs r).1=0∧xs.take (I1a xs r).2.p=xs.take r.p++N0a (I1a xs r).1:=by have h1:=C5b h;rw[←h1] at h⊢;obtain⟨t1,t2,_,t4⟩:=A5a hx h;exact⟨t1,t2,t4⟩
theorem m3b{xs:List Int}{r:Rd}(hx:Bytes xs)(h:(R3a xs r).2.e=0):r.e=0∧xs.take (R3a xs r).2.p=xs.take r.p++(le ((R3a xs r).1.length:Int) 4++(R3a xs r).1):=by obtain⟨h1,h2,_,h4,h5⟩:=f4a (show(z0a xs (a1a xs 4 32768 3 r).1.toNat (a1a xs 4 32768 3 r).2).2.e=0 from h);obtain⟨m1,m2,m3⟩:=o5a hx (by decide) h1;have m0:=W2a hx 4 32768 3 r ⟨by decide,by decide⟩ (by decide);refine⟨m1,?_⟩;rw[show(R3a xs r).2.p=(a1a xs 4 32768 3 r).2.p+(a1a xs 4 32768 3 r).1.toNat from by unfold R3a;rw[h2],h4,m3];rw[show((R3a xs r).1.length:Int)=(a1a xs 4 32768 3 r).1 from by unfold R3a;rw[h5];omega,List.append_assoc];rfl
theorem Q6b{xs:List Int}{r:Rd}(hx:Bytes xs)(h:(f8a xs r).2.e=0):r.e=0∧xs.take (f8a xs r).2.p=xs.take r.p++s2b (f8a xs r).1:=by
 have h':(rdZ xs 2 (rdN xs 2 (rdN xs 8 (rdN xs 8 r).2).2).2).e=0:=h;obtain⟨z1,z2⟩:=n5a h';obtain⟨a1,a2⟩:=V1a hx z1;obtain⟨b1,b2⟩:=V1a hx a1;obtain⟨d1,d2⟩:=V1a hx b1;refine⟨d1,?_⟩;show xs.take (rdZ xs 2 (rdN xs 2 (rdN xs 8 (rdN xs 8 r).2).2).2).p=_
 rw[z2,a2,b2,d2];show _=xs.take r.p++(le (rdN xs 8 r).1 8++(le (rdN xs 8 (rdN xs 8 r).2).1 8++(le (rdN xs 2 (rdN xs 8 (rdN xs 8 r).2).2).1 2++List.replicate 2 0)))
 simp only[List.append_assoc]
theorem B1b{xs:List Int}{r:Rd}(hx:Bytes xs):∀k,(Q1a xs r k).2.e=0→r.e=0∧xs.take (Q1a xs r k).2.p=xs.take r.p++w2a (Q1a xs r k).1
 | 0,h=>⟨h,by show xs.take r.p=xs.take r.p++[];rw[List.append_nil]⟩
 | k+1,h=>by
  have h':(f8a xs (Q1a xs r k).2).2.e=0:=h;obtain⟨l1,l2⟩:=Q6b hx h';obtain⟨i1,i2⟩:=B1b hx k l1;refine⟨i1,?_⟩;show xs.take (f8a xs (Q1a xs r k).2).2.p=xs.take r.p++w2a ((Q1a xs r k).1++[(f8a xs (Q1a xs r k).2).1])
  rw[l2,i2,B0b,List.append_assoc]
theorem g8b{xs:List Int}{r:Rd}(hx:Bytes xs)(h:(w6a xs r).2.e=0):r.e=0∧(w6a xs r).1.length≤16∧xs.take (w6a xs r).2.p=xs.take r.p++(le ((w6a xs r).1.length:Int) 2++(List.replicate 2 0++w2a (w6a xs r).1)):=by
 obtain⟨l1,l2⟩:=B1b hx _ (show(Q1a xs (rdZ xs 2 (a1a xs 2 16 3 r).2) (a1a xs 2 16 3 r).1.toNat).2.e=0 from h);obtain⟨z1,z2⟩:=n5a l1;obtain⟨m1,m2,m3⟩:=o5a hx (by decide) z1;have m0:=W2a hx 2 16 3 r ⟨by decide,by decide⟩ (by decide);have hl:((w6a xs r).1.length:Int)=(a1a xs 2 16 3 r).1:=by unfold w6a;rw[A0b];omega
 refine⟨m1,by omega,?_⟩;rw[hl];unfold w6a;rw[l2,z2,m3];simp only[List.append_assoc]
theorem U9b{xs:List Int}{r:Rd}(hx:Bytes xs):(∀l∈(w6a xs r).1,l.ok)∧shut (w6a xs r).1=true:=⟨B5b hx _ _,h3b _ _⟩
theorem b4{xs:List Int}(hx:Bytes xs)(r:Rd):0≤(rdN xs 4 r).1∧(rdN xs 4 r).1≤4294967295:=by have:=n4a hx 4 r 4294967296 (by decide) (by decide);exact⟨this.1,by omega⟩
theorem b1'{xs:List Int}(hx:Bytes xs)(r:Rd):0≤(rdN xs 1 r).1∧(rdN xs 1 r).1≤255:=by have:=n4a hx 1 r 256 (by decide) (by decide);exact⟨this.1,by omega⟩
theorem b8{xs:List Int}(hx:Bytes xs)(r:Rd):0≤(rdN xs 8 r).1∧(rdN xs 8 r).1≤18446744073709551615:=by have:=n4a hx 8 r 18446744073709551616 (by decide) (by decide);exact⟨this.1,by omega⟩
theorem whole{xs ys:List Int}{r:Rd}(h:xs.take r.p=ys)(h2:r.p=xs.length):ys=xs:=by rw[←h,h2,List.take_of_length_le (Nat.le_refl _)]
theorem m4b(c:Int){xs:List Int}(hx:Bytes xs)(h:B5a c xs=0):r7a c (x6a c xs)=0∧e4b c (x6a c xs)=xs∧(x6a c xs).ok:=by
 have e0:x6a c xs=(fgP c xs).1:=by unfold x6a;rw[if_pos h]
 unfold B5a at h;by_cases hk:I2a c=true;rotate_left
 ·rw[if_neg hk] at h;exact absurd h (by decide)
 rw[if_pos hk] at h;obtain⟨h1,h2⟩:=V3a h;rw[e0];have key:∀a:z1a,a8b c a=a→shut a.locks=true→a.data.length≤32768→a.locks.length≤16→(c=5→B0a a.name.data.toList=0)→a.ok→e8a c a=xs→r7a c a=0∧e4b c a=xs∧a.ok:=by
  intro a w1 w2 w3 w4 w5 w6 w7;have e:r7a c a=0:=by
   unfold r7a q7a;rw[hk,w2,(Y8a c a).2 w1];simp only[decide_true,Bool.and_self,if_true];rw[if_pos ⟨w3,w4⟩];split
   ·rename_i h5;exact w5 h5
   ·rfl
  exact⟨e,by unfold e4b;rw[if_pos e];exact w7,w6⟩
 have zd:=h0a;have hb:=h8a hx (o2 xs).2;have ho:=U9b (r:=(o1 xs).2) hx;unfold fgP at h1 h2⊢;rcases Z8a hk with k5 | k6 | k7 | k8 | k9 | k10
 ·subst k5;simp only[if_true] at h1 h2⊢;obtain⟨t1,t2,t3⟩:=B6a hx h1;obtain⟨u8,v8⟩:=V1a hx t1;obtain⟨u7,v7⟩:=n5a u8;obtain⟨u6,v6⟩:=V1a hx u7;obtain⟨u5,v5⟩:=V1a hx u6;obtain⟨u4,v4⟩:=V1a hx u5;obtain⟨u3,v3⟩:=V1a hx u4;obtain⟨u2,v2⟩:=V1a hx u3;obtain⟨u1,v1⟩:=V1a hx u2;refine key _ rfl rfl (Nat.zero_le _) (Nat.zero_le _) (λ_=>t2) ⟨zd.dial,zd.glen,zd.gbyte,zd.plen,zd.pbyte,b4 hx _,b4 hx _,b4 hx _,b4 hx _,b1' hx _,b1' hx _,b8 hx _,zd.at_,zd.n,zd.data,zd.locks,zd.most,zd.cls,zd.siz⟩ ?_;refine whole (r:=(c9 xs).2) ?_ h2;show xs.take (I1a xs (c8 xs).2).2.p=le (c1 xs).1 4++(le (c2 xs).1 4++(le (c3 xs).1 4++(le (c4 xs).1 4++(le (c5 xs).1 1++(le (c6 xs).1 1++(List.replicate 2 0++(le (c8 xs).1 8++N0a (I1a xs (c8 xs).2).1)))))))
  rw[t3];show xs.take (rdN xs 8 (c7 xs)).2.p++_=_
  rw[v8];show xs.take (rdZ xs 2 (c6 xs).2).p++_++_=_
  rw[v7];show xs.take (rdN xs 1 (c5 xs).2).2.p++_++_++_=_
  rw[v6];show xs.take (rdN xs 1 (c4 xs).2).2.p++_++_++_++_=_
  rw[v5];show xs.take (rdN xs 4 (c3 xs).2).2.p++_++_++_++_++_=_
  rw[v4];show xs.take (rdN xs 4 (c2 xs).2).2.p++_++_++_++_++_++_=_
  rw[v3];show xs.take (rdN xs 4 (c1 xs).2).2.p++_++_++_++_++_++_++_=_
  rw[v2];show xs.take (rdN xs 4 rd0).2.p++_++_++_++_++_++_++_++_=_
  rw[v1,show xs.take rd0.p=[] from rfl,List.nil_append];simp only[List.append_assoc];rfl
 ·subst k6;simp only[show ¬((6:Int)=5) by decide,show ¬((6:Int)=8) by decide,show ¬((6:Int)=9) by decide,show ¬((6:Int)=10) by decide,if_false] at h1 h2⊢;obtain⟨u1,v1⟩:=V1a hx h1;refine key _ rfl rfl (Nat.zero_le _) (Nat.zero_le _) (λh=>absurd h (by decide)) ⟨zd.dial,zd.glen,zd.gbyte,zd.plen,zd.pbyte,zd.acc,zd.shr,zd.way,zd.opt,zd.lev,zd.dur,b8 hx _,zd.at_,zd.n,zd.data,zd.locks,zd.most,zd.cls,zd.siz⟩ ?_;exact whole (r:=(o1 xs).2) v1 h2
 ·subst k7;simp only[show ¬((7:Int)=5) by decide,show ¬((7:Int)=8) by decide,show ¬((7:Int)=9) by decide,show ¬((7:Int)=10) by decide,if_false] at h1 h2⊢;obtain⟨u1,v1⟩:=V1a hx h1;refine key _ rfl rfl (Nat.zero_le _) (Nat.zero_le _) (λh=>absurd h (by decide)) ⟨zd.dial,zd.glen,zd.gbyte,zd.plen,zd.pbyte,zd.acc,zd.shr,zd.way,zd.opt,zd.lev,zd.dur,b8 hx _,zd.at_,zd.n,zd.data,zd.locks,zd.most,zd.cls,zd.siz⟩ ?_;exact whole (r:=(o1 xs).2) v1 h2
 ·subst k8;simp only[show ¬((8:Int)=5) by decide,if_true,if_false] at h1 h2⊢;obtain⟨u3,v3⟩:=V1a hx h1;obtain⟨u2,v2⟩:=V1a hx u3;obtain⟨u1,v1⟩:=V1a hx u2;refine key _ rfl rfl (Nat.zero_le _) (Nat.zero_le _) (λh=>absurd h (by decide)) ⟨zd.dial,zd.glen,zd.gbyte,zd.plen,zd.pbyte,zd.acc,zd.shr,zd.way,zd.opt,zd.lev,zd.dur,b8 hx _,b8 hx _,b4 hx _,zd.data,zd.locks,zd.most,zd.cls,zd.siz⟩ ?_;refine whole (r:=(o3 xs).2) ?_ h2;show xs.take (rdN xs 4 (o2 xs).2).2.p=le (o1 xs).1 8++(le (o2 xs).1 8++le (o3 xs).1 4)
  rw[v3];show xs.take (rdN xs 8 (o1 xs).2).2.p++_=_
  rw[v2];show xs.take (rdN xs 8 rd0).2.p++_++_=_
  rw[v1,show xs.take rd0.p=[] from rfl,List.nil_append];simp only[List.append_assoc];rfl
 ·subst k9;simp only[show ¬((9:Int)=5) by decide,show ¬((9:Int)=8) by decide,if_true,if_false] at h1 h2⊢;obtain⟨u3,v3⟩:=m3b hx h1;obtain⟨u2,v2⟩:=V1a hx u3;obtain⟨u1,v1⟩:=V1a hx u2;refine key _ rfl rfl hb.2 (Nat.zero_le _) (λh=>absurd h (by decide)) ⟨zd.dial,zd.glen,zd.gbyte,zd.plen,zd.pbyte,zd.acc,zd.shr,zd.way,zd.opt,zd.lev,zd.dur,b8 hx _,b8 hx _,zd.n,hb.1,zd.locks,zd.most,zd.cls,zd.siz⟩ ?_;refine whole (r:=(o4 xs).2) ?_ h2;show xs.take (R3a xs (o2 xs).2).2.p=le (o1 xs).1 8++(le (o2 xs).1 8++(le ((R3a xs (o2 xs).2).1.length:Int) 4++(R3a xs (o2 xs).2).1))
  rw[v3];show xs.take (rdN xs 8 (o1 xs).2).2.p++_=_
  rw[v2];show xs.take (rdN xs 8 rd0).2.p++_++_=_
  rw[v1,show xs.take rd0.p=[] from rfl,List.nil_append];simp only[List.append_assoc];rfl
 ·subst k10;simp only[show ¬((10:Int)=5) by decide,show ¬((10:Int)=8) by decide,show ¬((10:Int)=9) by decide,if_true,if_false] at h1 h2⊢;obtain⟨u3,v0,v3⟩:=g8b hx h1;obtain⟨u1,v1⟩:=V1a hx u3;refine key _ rfl ho.2 (Nat.zero_le _) v0 (λh=>absurd h (by decide)) ⟨zd.dial,zd.glen,zd.gbyte,zd.plen,zd.pbyte,zd.acc,zd.shr,zd.way,zd.opt,zd.lev,zd.dur,b8 hx _,zd.at_,zd.n,zd.data,ho.1,zd.most,zd.cls,zd.siz⟩ ?_;refine whole (r:=(o5 xs).2) ?_ h2;show xs.take (w6a xs (o1 xs).2).2.p=le (o1 xs).1 8++(le ((w6a xs (o1 xs).2).1.length:Int) 2++(List.replicate 2 0++w2a (w6a xs (o1 xs).2).1))
  rw[v3];show xs.take (rdN xs 8 rd0).2.p++_=_
  rw[v1,show xs.take rd0.p=[] from rfl,List.nil_append];rfl
theorem n4b(c:Int){xs:List Int}(hx:Bytes xs)(h:y6a c xs=0):V6a c (z0b c xs)=0∧O4b c (z0b c xs)=xs∧(z0b c xs).ok:=by
 have e0:z0b c xs=(sgP c xs).1:=by unfold z0b;rw[if_pos h]
 unfold y6a at h;by_cases hk:I2a c=true;rotate_left
 ·rw[if_neg hk] at h;exact absurd h (by decide)
 rw[if_pos hk] at h;have hend:=h;obtain⟨h1,h2⟩:=V3a h;rw[e0];have key:∀a:W1a,N4b c a=a→a.made≤2→a.kind≤2→a.data.length≤32768→a.ok→U4a c a=xs→V6a c a=0∧O4b c a=xs∧a.ok:=by
  intro a w1 w2 w3 w4 w6 w7;have e:V6a c a=0:=by unfold V6a i3a;rw[hk,(i8a c a).2 w1];rw[if_pos ⟨by simp,w2,w3⟩,if_pos w4]
  exact⟨e,by unfold O4b;rw[if_pos e];exact w7,w6⟩
 have zd:=G0a;have hb:=h8a hx rd0;unfold sgP at h1 h2 hend⊢;rcases Z8a hk with k5 | k6 | k7 | k8 | k9 | k10
 ·subst k5;simp only[if_true] at h1 h2 hend⊢;obtain⟨m1,m2⟩:=Q4b hend;obtain⟨u7,v7⟩:=n5a h1;obtain⟨u6,w6,v6⟩:=P6b hx u7;obtain⟨u5,v5⟩:=V1a hx u6;obtain⟨u4,v4⟩:=V1a hx u5;obtain⟨u3,w3,v3⟩:=P6b hx u4;obtain⟨u2,v2⟩:=V1a hx u3;obtain⟨u1,v1⟩:=V1a hx u2;have q3:=f4b hx 2 (s2 xs).2;have q6:=f4b hx 2 (s5 xs).2;refine key _ rfl m1 m2 (Nat.zero_le _) ⟨zd.dia,b8 hx _,zd.clen,zd.cbyte,b1' hx _,b1' hx _,q3,b8 hx _,⟨q6.1,by show(s6 xs).1≤255;omega⟩,zd.data,zd.n,zd.ents⟩ ?_;refine whole (r:=s7 xs) ?_ h2;show xs.take (rdZ xs 2 (s6 xs).2).p=le (s1 xs).1 1++(le (s2 xs).1 1++(le (s3 xs).1 2++(le (s4 xs).1 8++(le (s5 xs).1 8++(le (s6 xs).1 2++List.replicate 2 0)))))
  rw[v7];show xs.take (x9a xs 2 (s5 xs).2).2.p++_=_
  rw[v6];show xs.take (rdN xs 8 (s4 xs).2).2.p++_++_=_
  rw[v5];show xs.take (rdN xs 8 (s3 xs).2).2.p++_++_++_=_
  rw[v4];show xs.take (x9a xs 2 (s2 xs).2).2.p++_++_++_++_=_
  rw[v3];show xs.take (rdN xs 1 (s1 xs).2).2.p++_++_++_++_++_=_
  rw[v2];show xs.take (rdN xs 1 rd0).2.p++_++_++_++_++_++_=_
  rw[v1,show xs.take rd0.p=[] from rfl,List.nil_append];simp only[List.append_assoc];rfl
 ·subst k6;simp only[show ¬((6:Int)=5) by decide,show ¬((6:Int)=8) by decide,show ¬((6:Int)=9) by decide,if_false] at h1 h2⊢;obtain⟨u1,v1⟩:=n5a h1;exact key _ rfl (by decide) (by decide) (Nat.zero_le _) zd (whole (r:=rdZ xs 4 rd0) v1 h2)
 ·subst k7;simp only[show ¬((7:Int)=5) by decide,show ¬((7:Int)=8) by decide,show ¬((7:Int)=9) by decide,if_false] at h1 h2⊢;obtain⟨u1,v1⟩:=n5a h1;exact key _ rfl (by decide) (by decide) (Nat.zero_le _) zd (whole (r:=rdZ xs 4 rd0) v1 h2)
 ·subst k8;simp only[show ¬((8:Int)=5) by decide,if_true,if_false] at h1 h2⊢;obtain⟨u1,v1⟩:=m3b hx h1;refine key _ rfl (show(0:Int)≤2 by decide) (show(0:Int)≤2 by decide) hb.2 ⟨zd.dia,zd.siz,zd.clen,zd.cbyte,zd.lev,zd.dur,zd.made,zd.file,zd.kind,hb.1,zd.n,zd.ents⟩ ?_;exact whole (r:=(s8 xs).2) v1 h2
 ·subst k9;simp only[show ¬((9:Int)=5) by decide,show ¬((9:Int)=8) by decide,if_true,if_false] at h1 h2⊢;obtain⟨u1,v1⟩:=V1a hx h1;refine key _ rfl (show(0:Int)≤2 by decide) (show(0:Int)≤2 by decide) (Nat.zero_le _) ⟨zd.dia,zd.siz,zd.clen,zd.cbyte,zd.lev,zd.dur,zd.made,zd.file,zd.kind,zd.data,b4 hx _,zd.ents⟩ ?_;exact whole (r:=(s9 xs).2) v1 h2
 ·subst k10;simp only[show ¬((10:Int)=5) by decide,show ¬((10:Int)=8) by decide,show ¬((10:Int)=9) by decide,if_false] at h1 h2⊢;obtain⟨u1,v1⟩:=n5a h1;exact key _ rfl (by decide) (by decide) (Nat.zero_le _) zd (whole (r:=rdZ xs 4 rd0) v1 h2)
theorem e9b(c:Int){xs:List Int}(hx:Bytes xs):(x6a c xs).ok:=by
 by_cases h:B5a c xs=0
 ·exact(m4b c hx h).2.2
 ·unfold x6a;rw[if_neg h];exact h0a
theorem f9b(c:Int){xs:List Int}(hx:Bytes xs):(z0b c xs).ok:=by
 by_cases h:y6a c xs=0
 ·exact(n4b c hx h).2.2
 ·unfold z0b;rw[if_neg h];exact G0a
theorem H5b(c:Int){xs:List Int}(hx:Bytes xs):(x6a c xs).dial.length≤16∧(x6a c xs).data.length≤32768∧(x6a c xs).locks.length≤16∧(x6a c xs).name.size≤262140∧(x6a c xs).user.size≤0∧(x6a c xs).share.size≤0:=by
 have z:j0a.name.size≤262140∧j0a.user.size≤0∧j0a.share.size≤0:=by decide
 by_cases h:B5a c xs=0
 ·obtain⟨h1,_,_⟩:=m4b c hx h;obtain⟨_,_,_,hd,hl,_,_⟩:=S4b h1;refine⟨?_,hd,hl,?_⟩
  ·unfold x6a;rw[if_pos h];unfold fgP;(repeat' split);all_goals exact Nat.zero_le _
  ·unfold x6a;rw[if_pos h];unfold fgP;split
   ·refine⟨?_,z.2⟩;show(⟨(I1a xs (c8 xs).2).1.toArray⟩:ByteArray).size≤_
    rw[j8a];unfold I1a;split
    ·exact I8a hx _
    ·exact Nat.zero_le _
   ·(repeat' split);all_goals exact z
 ·unfold x6a;rw[if_neg h];exact⟨Nat.zero_le _,Nat.zero_le _,Nat.zero_le _,z⟩
theorem C1b(c:Int){xs:List Int}(hx:Bytes xs):(z0b c xs).data.length≤32768∧(z0b c xs).ents.length≤0:=by
 by_cases h:y6a c xs=0
 ·obtain⟨h1,_,_⟩:=n4b c hx h;obtain⟨_,_,_,_,hd,_⟩:=T4b h1;refine⟨hd,?_⟩;unfold z0b;rw[if_pos h];unfold sgP;(repeat' split);all_goals exact Nat.zero_le _
 ·unfold z0b;rw[if_neg h];exact⟨Nat.zero_le _,Nat.zero_le _⟩
def D0c(k:Nat)(r r':Rd):Prop:=(r'=r∧r.p≤k∧r.e=0)∨r'.e=4
theorem D0c.start(k:Nat):D0c k rd0 rd0:=.inl ⟨rfl,Nat.zero_le _,rfl⟩
end Go.Proofs.YtpodpmckdiijhaaGreatDoor
