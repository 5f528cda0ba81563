import Derived.Test.YtjpcifmeimcikaaGreatDoorSAF
import Derived.Test.YtjpcifmeimcikaaGreatDoorS0
set_option linter.all false
set_option maxHeartbeats 8000000
set_option maxRecDepth 100000
namespace Go.Proofs.YtjpcifmeimcikaaGreatDoor
open Go.Proofs.Tryz
open Go.RowKit
set_option maxRecDepth 100000
abbrev FRd(w:World)(xs:List Int)(f:FuncId)(ps:List Value)(u:Value)(r r':Rd):Prop:=∀(w':World) (g:Nat),PF w' g w.heap.size xs r->Calls prog f (.pointer (some ⟨g,0,none⟩)::ps).toArray w' λe w2=>e=.returned u/\PF w2 g w.heap.size xs r'/\s2a g w' w2
def o2a(w:World)(c:Int)(xs:List Int)(e:Ending)(w':World):Prop:=∃cs vx,e=.returned (.tuple #[.agg cs.toArray,.int .i64 (E5a c xs)])/\g1a w' w'.heap.size cs (o1b c xs)/\cs[61]? = some vx/\b1a .u8 5 w' w.heap.size vx (o1b c xs).data/\BW w w'/\(∀b off s n c,cs[62]? = some (.slice (some ⟨b,off,s⟩) n c)->w.heap.size<=b)
def d3a(w:World)(c:Int)(xs:List Int)(e:Ending)(w':World):Prop:=∃cs vx,e=.returned (.tuple #[.agg cs.toArray,.int .i64 (O5a c xs)])/\s1a w' w'.heap.size cs (p1b c xs)/\cs[15]? = some vx/\b1a .u8 5 w' w.heap.size vx (p1b c xs).data/\BW w w'
theorem b1a.onlyAt{k:IntKind}{e:TypeId}{w w':World}{base b:Nat}{v:Value}{xs:List Int}(h:b1a k e w base v xs)(hO:s2a b w w')(hb:b<base):b1a k e w' base v xs:=
 h.keep λi cs hi hc=>hO.rest i (by obtain⟨h1,_⟩:=h.own.block hi;omega)
theorem D4c{xs:List Int}{r:Rd}(h:Q0a xs r=0):r.e=0:=P3a h
theorem K5c{xs:List Int}{s:Nat}{r:Rd}(h:(rdN xs s r).2.e=0):r.e=0:=by
 by_cases he:r.e=0
 ·exact he
 ·rw[b6b he] at h;exact h
theorem G6c{xs:List Int}{m:Nat}{r:Rd}(h:(rdZ xs m r).e=0):r.e=0:=by
 by_cases he:r.e=0
 ·exact he
 ·rw[c6b he] at h;exact h
theorem L5c{xs:List Int}{m:Int}{r:Rd}(h:(p0b xs m r).2.e=0):r.e=0:=by
 by_cases he:r.e=0
 ·exact he
 ·rw[v9b he] at h;exact h
theorem z1c:(prog.info? 142).map (λi=>(i.zero,i.size))=some (some (.agg ([.slice none 0 0,.int .i64 0]:List Value).toArray),2):=by kernel_rfl
theorem U4b:(prog.info? 142).map (·.size)=some 2:=by kernel_rfl
theorem n8b{xs:List Int}(h:Q0a xs (s7 xs)=0):(s3 xs).1<=2/\(s6 xs).1<=2:=by have h7:(s6 xs).2.e=0:=G6c (D4c h);have h6:=x7b h7;have h5:(s4 xs).2.e=0:=K5c (L5c h7);have h3:=x7b (K5c h5);exact⟨by rw[show s3 xs=rdN xs 2 (s2 xs).2 from h3.2.2];exact h3.2.1,by rw[show s6 xs=rdN xs 2 (s5 xs).2 from h6.2.2];exact h6.2.1⟩
theorem n5a{w:World}{base:Nat}{v:Value}{xs:List Int}(h:b1a .u8 5 w base v xs):v.oneCell'=true:=by rcases h with⟨rfl,_⟩ | ⟨g,m,rfl,_⟩<;>rfl
theorem o8b{w:World}{base:Nat}{v:Value}{xs:List r2a}(h:F6a H0a 4 104 w base v xs):v.oneCell'=true:=by obtain⟨_,_,_,rfl,_⟩:=F6a.holds (by decide) i5a h;rfl
theorem I9a{xs:List Int}(hx:Bytes xs)(r:Rd):Bytes (k4a xs r).1/\(k4a xs r).1.length<=32768:=by
 obtain⟨m0,m1⟩:=o3a hx 4 32768 3 r (by decide) (by decide);refine⟨I2a hx _ _,?_⟩;have h:=t6a (xs:=xs) (m:=(a1a xs 4 32768 3 r).1.toNat) (r:=(a1a xs 4 32768 3 r).2);show(y0a xs (a1a xs 4 32768 3 r).1.toNat (a1a xs 4 32768 3 r).2).1.length<=_
 omega
theorem i6b(w:World)(c:Int)(A:Option Addr)(n k:Nat)(xs:List Int)(hc:0<=c/\c<=65535)(hx:Holds w w.heap.size A n k xs) :
  Calls prog 65 #[.int .u16 c,.slice A n k] w (o2a w c xs):=by
 have hby:=hx.byte;have HX:=hI hx;have hmf:∀(fn:Fn) (first cap:Array Value) (w:World),(Instr.makeFunc fn first cap).run prog w=.ok (.func fn first cap) w:=λ_ _ _ _=>rfl
 have ZH:=hI n8a;have BZ:=F7a;have ZR:=hI z1c;have HZ:Hid ((l0a (.slice none 0 0) (.slice none 0 0) (.slice none 0 0) i0a).length=69):=G1a h0a;have HZ1:Hid (∀v∈l0a (.slice none 0 0) (.slice none 0 0) (.slice none 0 0) i0a,v.oneCell'=true):=(V1a w 0).one;have HZI:Hid (∀w':World,g1a w' w'.heap.size (l0a (.slice none 0 0) (.slice none 0 0) (.slice none 0 0) i0a) i0a):=λw'=>V1a w' _
 have HZD:Hid ((l0a (.slice none 0 0) (.slice none 0 0) (.slice none 0 0) i0a)[61]? = some (.slice none 0 0)):=rfl;have BR:prog.built 142 [(0,.slice A n k)]=some ([.slice A n k,.int .i64 0]:List Value).toArray:=by kernel_rfl
 have HR0:Hid (([.slice none 0 0,.int .i64 0]:List Value).length=2):=rfl;have HR1:Hid (([.slice A n k,.int .i64 0]:List Value).length=2):=rfl;have HR2:Hid (∀v∈([.slice A n k,.int .i64 0]:List Value),v.oneCell'=true):=by
  intro v hv;rcases List.mem_cons.1 hv with rfl | hv
  ·rfl
  ·rw[List.mem_singleton.1 hv];rfl
 have HE:Hid (∀er,E5a c xs=er->er≠0->∀e w',e=.returned (.tuple #[.agg (l0a (.slice none 0 0) (.slice none 0 0) (.slice none 0 0) i0a).toArray,.int .i64 er])->BW w w'->o2a w c xs e w'):=by intro er h1 h2 e w' he hb;unfold o2a o1b;rw[h1,if_neg h2];exact⟨_,_,he,HZI.o w',HZD.o,b1a.nil _ _ _ _,hb,λb off s n c h=>by have h2:some (Value.slice none 0 0)=some (Value.slice (some ⟨b,off,s⟩) n c):=h;cases h2⟩
 obtain⟨zs,hzs⟩:=xX (l0a (.slice none 0 0) (.slice none 0 0) (.slice none 0 0) i0a);have HZS:=hI hzs;rw[<-hzs] at ZH BZ HZ HZ1 HE;clear hzs HZI HZD;by_cases hk:c3a c=true;rotate_left
 ·have HQ:=hI (HE.o 2 (by unfold E5a;rw[if_neg hk]) (by decide));have hk':c≠5/\c≠6/\c≠7/\c≠8/\c≠9/\c≠10:=by refine⟨?_,?_,?_,?_,?_,?_⟩<;>(rintro rfl;exact hk (by decide))
  obtain⟨h5,h6,h7,h8,h9,h10⟩:=hk';have b5:(c==5)=false:=bF h5
  have b6:(c==6)=false:=bF h6
  have b7:(c==7)=false:=bF h7
  have b8:(c==8)=false:=bF h8
  have b9:(c==9)=false:=bF h9
  have b10:(c==10)=false:=bF h10
  clear hk HE hx h5 h6 h7 h8 h9 h10;go_enter func65,ntmps65;go_wp2_with(first|(refine sN 4 ?_;refine b0a rfl _ rfl zs _ ZH ?_;intro h w1 hg1 hg2 Z1 L1)|(refine sN 6 ?_;refine b0a rfl _ rfl zs _ ZH ?_;intro a w2 hg3 hg4 K2 L02;have Z2:=hI (Z1.o.over L02.o);have L2:=hI (step L1.o L02.o);have hha:h≠a:=(by omega);have hwa:w.heap.size<=a:=(by have:=L1.o.size;omega);have hsz2:=L2.o.size)|(refine sN 13 ?_;refine v0a rfl _ _ rfl ([.slice A n k,.int .i64 0]:List Value) (by refine Eq.trans ?_ BR;kernel_rfl) ?_)|(refine sN 7 ?_;refine b0a rfl _ rfl ([.slice none 0 0,.int .i64 0]:List Value) _ ZR ?_;intro g w3 hg5 hg6 R3 L03;have K3:=hI (K2.o.over L03.o);have Z3:=hI (Z2.o.over L03.o);have L3:=hI (step L2.o L03.o);have hag:a≠g:=(by omega);have hhg:h≠g:=(by have:=Z2.o.lt;omega);have hwg:w.heap.size<=g:=(by omega))|(refine sT 7 ?_;refine a0a rfl _ (.tmp 7) (.tmp 13) rfl g rfl _ ([.slice none 0 0,.int .i64 0]:List Value) ([.slice A n k,.int .i64 0]:List Value) rfl R3 2 U4b HR0 HR1 HR2 ?_;intro w4 R4 O4 hg7;have K4:=hI (K3.o.only O4.o hag);have Z4:=hI (Z3.o.only O4.o hhg);have L4:=hI (c0a L3.o O4.o hwg))|(refine sN 18 ?_;refine r0a rfl _ rfl zs BZ ?_)|(refine sT 4 ?_;refine a0a rfl _ (.tmp 4) (.tmp 18) rfl h rfl _ zs zs rfl Z4 69 p0a HZ HZ HZ1 ?_;intro w10 K10 O10 hg10)|fail)
  refine bodyPost_ret (v:=.tuple #[.agg zs.toArray,.int .i64 2]) ?_ rfl (HQ.o _ _ rfl (c0a L4.o O10.o (by omega)));exact j0a rfl _ _ h _ _ (0,0) _ rfl K10.o underlying34 rfl (by rw[p0a];have:=HZ.o;simp[this]) rfl
 have hcs:c=5∨(c=6∨c=7)∨c=8∨c=9∨c=10:=by unfold c3a at hk;simp at hk;omega
 obtain⟨cq,hcq⟩:=xX c;rw[show o2a w c xs=o2a w cq xs by rw[hcq]];go_enter func65,ntmps65;go_upto_if 19 with(first|(refine sN 4 ?_;refine b0a rfl _ rfl zs _ ZH ?_;intro h w1 hg1 hg2 Z1 L1)|(refine sN 6 ?_;refine b0a rfl _ rfl zs _ ZH ?_;intro a w2 hg3 hg4 K2 L02;have Z2:=hI (Z1.o.over L02.o);have L2:=hI (step L1.o L02.o);have hha:h≠a:=(by omega);have hwa:w.heap.size<=a:=(by have:=L1.o.size;omega);have hsz2:=L2.o.size)|(refine sN 13 ?_;refine v0a rfl _ _ rfl ([.slice A n k,.int .i64 0]:List Value) (by refine Eq.trans ?_ BR;kernel_rfl) ?_)|(refine sN 7 ?_;refine b0a rfl _ rfl ([.slice none 0 0,.int .i64 0]:List Value) _ ZR ?_;intro g w3 hg5 hg6 R3 L03;have K3:=hI (K2.o.over L03.o);have Z3:=hI (Z2.o.over L03.o);have L3:=hI (step L2.o L03.o);have hag:a≠g:=(by omega);have hhg:h≠g:=(by have:=Z2.o.lt;omega);have hwg:w.heap.size<=g:=(by omega))|(refine sT 7 ?_;refine a0a rfl _ (.tmp 7) (.tmp 13) rfl g rfl _ ([.slice none 0 0,.int .i64 0]:List Value) ([.slice A n k,.int .i64 0]:List Value) rfl R3 2 U4b HR0 HR1 HR2 ?_;intro w4 R4 O4 hg7;have K4:=hI (K3.o.only O4.o hag);have Z4:=hI (Z3.o.only O4.o hhg);have L4:=hI (c0a L3.o O4.o hwg))|fail)
 have P4:Hid (PF w4 g w.heap.size xs rd0):=⟨Nat.zero_le _,hwg,A,n,k,R4.o,HX.o.below L4.o⟩;clear R3 L03 K2 K3 Z1 Z2 Z3 L02 L1 L2 L3 R4 O4 HX;rcases hcs with h5 | hgr | h8 | h9 | h10
 ·subst hcq;subst h5;have D1:Hid (FRd w xs 93 [] (.int .u32 (c1 xs).1) rd0 ((c1 xs).2)):=λw' g h=>v6a w' g w.heap.size xs _ hby h
  have D2:Hid (FRd w xs 93 [] (.int .u32 (c2 xs).1) ((c1 xs).2) ((c2 xs).2)):=λw' g h=>v6a w' g w.heap.size xs _ hby h
  have D3:Hid (FRd w xs 93 [] (.int .u32 (c3 xs).1) ((c2 xs).2) ((c3 xs).2)):=λw' g h=>v6a w' g w.heap.size xs _ hby h
  have D4:Hid (FRd w xs 93 [] (.int .u32 (c4 xs).1) ((c3 xs).2) ((c4 xs).2)):=λw' g h=>v6a w' g w.heap.size xs _ hby h
  have D5:Hid (FRd w xs 92 [] (.int .u8 (c5 xs).1) ((c4 xs).2) ((c5 xs).2)):=λw' g h=>y1b w' g w.heap.size xs _ hby h
  have D6:Hid (FRd w xs 92 [] (.int .u8 (c6 xs).1) ((c5 xs).2) ((c6 xs).2)):=λw' g h=>y1b w' g w.heap.size xs _ hby h
  have D7:Hid (FRd w xs 95 [.int .i64 2] (.tuple #[]) ((c6 xs).2) (c7 xs)):=λw' g h=>W6a w' g w.heap.size xs _ 2 hby h (by decide)
  have D8:Hid (FRd w xs 94 [] (.int .u64 (c8 xs).1) (c7 xs) ((c8 xs).2)):=λw' g h=>t3a w' g w.heap.size xs _ hby h
  have D9:Hid (∀(w':World) (g:Nat),PF w' g w.heap.size xs (c8 xs).2->Calls prog 96 #[.pointer (some ⟨g,0,none⟩)] w' λe w2=>e=.returned (.string ⟨(c9 xs).1.toArray⟩)/\PF w2 g w.heap.size xs (c9 xs).2/\W0a g w' w2):=λw' g h=>x1c w' g w.heap.size xs _ hby h
  have DE:=hI fun (w':World) (g:Nat) h=>m5a w' g w.heap.size xs (c9 xs).2 h
  have hge:E5a 5 xs=Q0a xs (c9 xs).2:=by unfold E5a;rw[if_pos hk];rfl
  have HQ:Hid (∀(cs:List Value) (vx:Value) (e:Ending) (w':World),Q0a xs (c9 xs).2=0->e=.returned (.tuple #[.agg cs.toArray,.int .i64 0])->g1a w' w'.heap.size cs { i0a with acc:=(c1 xs).1,shr:=(c2 xs).1,way:=(c3 xs).1,opt:=(c4 xs).1,lev:=(c5 xs).1,dur:=(c6 xs).1,file:=(c8 xs).1,name:=⟨(c9 xs).1.toArray⟩ }->cs[61]? = some vx->b1a .u8 5 w' w.heap.size vx ({ i0a with acc:=(c1 xs).1,shr:=(c2 xs).1,way:=(c3 xs).1,opt:=(c4 xs).1,lev:=(c5 xs).1,dur:=(c6 xs).1,file:=(c8 xs).1,name:=⟨(c9 xs).1.toArray⟩ }).data->BW w w'->(∀b off s n c,cs[62]? = some (.slice (some ⟨b,off,s⟩) n c)->w.heap.size<=b)->o2a w 5 xs e w'):=by
   intro cs vx e w' h0 h1 h2 h3 h4 h5 h9;have ho:o1b 5 xs={ i0a with acc:=(c1 xs).1,shr:=(c2 xs).1,way:=(c3 xs).1,opt:=(c4 xs).1,lev:=(c5 xs).1,dur:=(c6 xs).1,file:=(c8 xs).1,name:=⟨(c9 xs).1.toArray⟩ }:=by unfold o1b;rw[hge,h0,if_pos rfl];rfl
   unfold o2a;rw[hge,h0,ho];exact⟨cs,vx,h1,h2,h3,h4,h5,h9⟩
  have HE':=hI (HE.o _ hge);obtain⟨er,her⟩:=xX (Q0a xs (c9 xs).2);rw[<-her] at DE HQ HE';obtain⟨q1,hq1⟩:=xX (c1 xs);rw[<-hq1] at D1 D2 HQ;obtain⟨q2,hq2⟩:=xX (c2 xs);rw[<-hq2] at D2 D3 HQ;obtain⟨q3,hq3⟩:=xX (c3 xs);rw[<-hq3] at D3 D4 HQ;obtain⟨q4,hq4⟩:=xX (c4 xs);rw[<-hq4] at D4 D5 HQ;obtain⟨q5,hq5⟩:=xX (c5 xs);rw[<-hq5] at D5 D6 HQ;obtain⟨q6,hq6⟩:=xX (c6 xs);rw[<-hq6] at D6 D7 HQ;obtain⟨q7,hq7⟩:=xX (c7 xs);rw[<-hq7] at D7 D8;obtain⟨q8,hq8⟩:=xX (c8 xs);rw[<-hq8] at D8 D9 HQ;obtain⟨q9,hq9⟩:=xX (c9 xs);rw[<-hq9] at D9 DE HQ;clear her hge HE hk hx hq1 hq2 hq3 hq4 hq5 hq6 hq7 hq8 hq9;go_wp2_with fail;refine(D1.o w4 g P4.o).mono ?_;rintro e v1 ⟨rfl,hP,hO⟩;obtain⟨Pc1,Zc1,Kc1,Lc1⟩:=l2a hP (W0a.of_only hO) Z4 K4 L4 hhg hag hwg;clear hP P4 Z4 K4 L4 hO;go_wp2_with fail;refine(D2.o v1 g Pc1.o).mono ?_;rintro e v2 ⟨rfl,hP,hO⟩;obtain⟨Pc2,Zc2,Kc2,Lc2⟩:=l2a hP (W0a.of_only hO) Zc1 Kc1 Lc1 hhg hag hwg;clear hP Pc1 Zc1 Kc1 Lc1 hO;go_wp2_with fail;refine(D3.o v2 g Pc2.o).mono ?_;rintro e v3 ⟨rfl,hP,hO⟩;obtain⟨Pc3,Zc3,Kc3,Lc3⟩:=l2a hP (W0a.of_only hO) Zc2 Kc2 Lc2 hhg hag hwg;clear hP Pc2 Zc2 Kc2 Lc2 hO;go_wp2_with fail;refine(D4.o v3 g Pc3.o).mono ?_;rintro e v4 ⟨rfl,hP,hO⟩;obtain⟨Pc4,Zc4,Kc4,Lc4⟩:=l2a hP (W0a.of_only hO) Zc3 Kc3 Lc3 hhg hag hwg;clear hP Pc3 Zc3 Kc3 Lc3 hO;go_wp2_with(first|(refine sT 29 ?_;refine f0a rfl _ (.tmp 29) (.tmp 22) rfl a 51 rfl _ zs (.int .u32 q1.1) rfl Kc4 HZ (by decide) (by kernel_rfl) rfl ?_;intro x1 C1 HC1 HL1 Ks1 Os1 hqs1;obtain⟨Ps1,Zs1,Ls1⟩:=C2a (Pc4.o.only Os1.o (Ne.symm hag) hwa) Zc4 Lc4 Os1 hha hwa)|(refine sT 30 ?_;refine f0a rfl _ (.tmp 30) (.tmp 24) rfl a 52 rfl _ C1 (.int .u32 q2.1) rfl Ks1 HL1 (by decide) (by kernel_rfl) rfl ?_;intro x2 C2 HC2 HL2 Ks2 Os2 hqs2;obtain⟨Ps2,Zs2,Ls2⟩:=C2a (Ps1.o.only Os2.o (Ne.symm hag) hwa) Zs1 Ls1 Os2 hha hwa)|(refine sT 31 ?_;refine f0a rfl _ (.tmp 31) (.tmp 26) rfl a 53 rfl _ C2 (.int .u32 q3.1) rfl Ks2 HL2 (by decide) (by kernel_rfl) rfl ?_;intro x3 C3 HC3 HL3 Ks3 Os3 hqs3;obtain⟨Ps3,Zs3,Ls3⟩:=C2a (Ps2.o.only Os3.o (Ne.symm hag) hwa) Zs2 Ls2 Os3 hha hwa)|(refine sT 32 ?_;refine f0a rfl _ (.tmp 32) (.tmp 28) rfl a 54 rfl _ C3 (.int .u32 q4.1) rfl Ks3 HL3 (by decide) (by kernel_rfl) rfl ?_;intro x4 C4 HC4 HL4 Ks4 Os4 hqs4;obtain⟨Ps4,Zs4,Ls4⟩:=C2a (Ps3.o.only Os4.o (Ne.symm hag) hwa) Zs3 Ls3 Os4 hha hwa)|fail)
  refine(D5.o x4 g Ps4.o).mono ?_;rintro e v5 ⟨rfl,hP,hO⟩;obtain⟨Pc5,Zc5,Kc5,Lc5⟩:=l2a hP (W0a.of_only hO) Zs4 Ks4 Ls4 hhg hag hwg;clear hP Ps4 Zs4 Ks4 Ls4 hO;go_wp2_with fail;refine(D6.o v5 g Pc5.o).mono ?_;rintro e v6 ⟨rfl,hP,hO⟩;obtain⟨Pc6,Zc6,Kc6,Lc6⟩:=l2a hP (W0a.of_only hO) Zc5 Kc5 Lc5 hhg hag hwg;clear hP Pc5 Zc5 Kc5 Lc5 hO;go_wp2_with(first|(refine sT 37 ?_;refine f0a rfl _ (.tmp 37) (.tmp 34) rfl a 55 rfl _ C4 (.int .u8 q5.1) rfl Kc6 HL4 (by decide) (by kernel_rfl) rfl ?_;intro x5 C5 HC5 HL5 Ks5 Os5 hqs5;obtain⟨Ps5,Zs5,Ls5⟩:=C2a (Pc6.o.only Os5.o (Ne.symm hag) hwa) Zc6 Lc6 Os5 hha hwa)|(refine sT 38 ?_;refine f0a rfl _ (.tmp 38) (.tmp 36) rfl a 56 rfl _ C5 (.int .u8 q6.1) rfl Ks5 HL5 (by decide) (by kernel_rfl) rfl ?_;intro x6 C6 HC6 HL6 Ks6 Os6 hqs6;obtain⟨Ps6,Zs6,Ls6⟩:=C2a (Ps5.o.only Os6.o (Ne.symm hag) hwa) Zs5 Ls5 Os6 hha hwa)|fail)
  refine(D7.o x6 g Ps6.o).mono ?_;rintro e v7 ⟨rfl,hP,hO⟩;obtain⟨Pc7,Zc7,Kc7,Lc7⟩:=l2a hP (W0a.of_only hO) Zs6 Ks6 Ls6 hhg hag hwg;clear hP Ps6 Zs6 Ks6 Ls6 hO;go_wp2_with fail;refine(D8.o v7 g Pc7.o).mono ?_;rintro e v8 ⟨rfl,hP,hO⟩;obtain⟨Pc8,Zc8,Kc8,Lc8⟩:=l2a hP (W0a.of_only hO) Zc7 Kc7 Lc7 hhg hag hwg;clear hP Pc7 Zc7 Kc7 Lc7 hO;go_wp2_with(first|(refine sT 42 ?_;refine f0a rfl _ (.tmp 42) (.tmp 41) rfl a 57 rfl _ C6 (.int .u64 q8.1) rfl Kc8 HL6 (by decide) (by kernel_rfl) rfl ?_;intro x7 C7 HC7 HL7 Ks7 Os7 hqs7;obtain⟨Ps7,Zs7,Ls7⟩:=C2a (Pc8.o.only Os7.o (Ne.symm hag) hwa) Zc8 Lc8 Os7 hha hwa)|fail)
  refine(D9.o x7 g Ps7.o).mono ?_;rintro e v9 ⟨rfl,hP,hS⟩;obtain⟨Pc9,Zc9,Kc9,Lc9⟩:=l2a hP hS Zs7 Ks7 Ls7 hhg hag hwg;clear hP hS Ps7 Zs7 Ks7 Ls7;go_wp2_with(first|(refine sT 44 ?_;refine f0a rfl _ (.tmp 44) (.tmp 43) rfl a 58 rfl _ C7 (.string ⟨q9.1.toArray⟩) rfl Kc9 HL7 (by decide) (by kernel_rfl) rfl ?_;intro x8 C8 HC8 HL8 Ks8 Os8 hqs8;obtain⟨Ps8,Zs8,Ls8⟩:=C2a (Pc9.o.only Os8.o (Ne.symm hag) hwa) Zc9 Lc9 Os8 hha hwa)|fail)
  refine(DE.o x8 g Ps8.o).mono ?_;rintro e x8' ⟨rfl,rfl⟩;by_cases he:er=0;rotate_left
  ·have hne:(er != 0)=true:=by simpa using he
   have HN:=hI (HE'.o he);clear he HE' HQ;go_wp2_with(first|(refine sN 82 ?_;refine r0a rfl _ rfl zs BZ ?_)|(refine sT 4 ?_;refine a0a rfl _ (.tmp 4) (.tmp 82) rfl h rfl _ zs zs rfl Zs8 69 p0a HZ HZ HZ1 ?_;intro w10 K10 O10 hg10)|fail)
   refine bodyPost_ret (v:=.tuple #[.agg zs.toArray,.int .i64 er]) ?_ rfl (HN.o _ _ rfl (c0a Ls8.o O10.o (by omega)));exact j0a rfl _ _ h _ _ (0,0) _ rfl K10.o underlying34 rfl (by rw[p0a];have:=HZ.o;simp[this]) rfl
  ·subst he;have HEQ:Hid (C8=l0a (.slice none 0 0) (.slice none 0 0) (.slice none 0 0) { i0a with acc:=q1.1,shr:=q2.1,way:=q3.1,opt:=q4.1,lev:=q5.1,dur:=q6.1,file:=q8.1,name:=⟨q9.1.toArray⟩ }):=by
    show _=_
    rw[HC8.o,HC7.o,HC6.o,HC5.o,HC4.o,HC3.o,HC2.o,HC1.o,HZS.o];rfl
   have H1C:Hid (∀v∈C8,v.oneCell'=true):=by
    show _
    rw[HEQ.o];exact x1a rfl rfl rfl
   go_wp2_with(first|(refine sN 84 ?_;refine e0a rfl _ (.tmp 6) rfl a rfl _ C8 Ks8 69 _ underlying34 rfl p0a HL8 ?_)|(refine sT 4 ?_;refine a0a rfl _ (.tmp 4) (.tmp 84) rfl h rfl _ zs C8 rfl Zs8 69 p0a HZ HL8 H1C ?_;intro w10 K10 O10 hg10)|fail)
   refine bodyPost_ret (v:=.tuple #[.agg C8.toArray,.int .i64 0]) ?_ rfl ?_
   ·exact j0a rfl _ _ h _ _ (0,0) _ rfl K10.o underlying34 rfl (by rw[p0a];have:=HL8.o;simp[this]) rfl
   ·have LF:BW w w10:=c0a Ls8.o O10.o (by omega);exact HQ.o C8 (.slice none 0 0) _ _ (by trivial) rfl ⟨none,0,0,none,0,0,none,0,0,by rw[HEQ.o],J1a.nil _ _ _,Holds.nil _ _,c1a.nil _ _ _ _⟩ (by rw[HEQ.o];rfl) (b1a.nil _ _ _ _) LF (λb off s n c h=>by rw[HEQ.o] at h;have h2:some (Value.slice none 0 0)=some (Value.slice (some ⟨b,off,s⟩) n c):=h;cases h2)
 ·have hge:E5a c xs=Q0a xs (o1 xs).2:=by unfold E5a;rw[if_pos hk];rcases hgr with rfl | rfl<;>rfl
  have hgo:Q0a xs (o1 xs).2=0->o1b c xs={ i0a with file:=(o1 xs).1 }:=λh0=>by unfold o1b;rw[hge,h0,if_pos rfl];rcases hgr with rfl | rfl<;>rfl
  rw[<-hcq] at HE hk hge hgo;clear hcq hc;rcases hgr with rfl | rfl
  all_goals
   have D1:Hid (FRd w xs 94 [] (.int .u64 (o1 xs).1) rd0 ((o1 xs).2)):=λw' g h=>t3a w' g w.heap.size xs _ hby h
   have DE:=hI fun (w':World) (g:Nat) h=>m5a w' g w.heap.size xs (o1 xs).2 h
   have HQ:Hid (∀(cs:List Value) (vx:Value) (e:Ending) (w':World),Q0a xs (o1 xs).2=0->e=.returned (.tuple #[.agg cs.toArray,.int .i64 0])->g1a w' w'.heap.size cs { i0a with file:=(o1 xs).1 }->cs[61]? = some vx->b1a .u8 5 w' w.heap.size vx ({ i0a with file:=(o1 xs).1 }).data->BW w w'->(∀b off s n c,cs[62]? = some (.slice (some ⟨b,off,s⟩) n c)->w.heap.size<=b)->o2a w cq xs e w'):=by intro cs vx e w' h0 h1 h2 h3 h4 h5 h9;have ho:=hgo h0;unfold o2a;rw[hge,h0,ho];exact⟨cs,vx,h1,h2,h3,h4,h5,h9⟩
   have HE':=hI (HE.o _ hge);obtain⟨er,her⟩:=xX (Q0a xs (o1 xs).2);rw[<-her] at DE HQ HE';obtain⟨q1,hq1⟩:=xX (o1 xs);rw[<-hq1] at D1 DE HQ;clear her hge HE hk hx hq1;go_wp2_with fail;refine(D1.o w4 g P4.o).mono ?_;rintro e v1 ⟨rfl,hP,hO⟩;obtain⟨Pc1,Zc1,Kc1,Lc1⟩:=l2a hP (W0a.of_only hO) Z4 K4 L4 hhg hag hwg;clear hP P4 Z4 K4 L4 hO;go_wp2_with(first|(refine sT 50 ?_;refine f0a rfl _ (.tmp 50) (.tmp 49) rfl a 57 rfl _ zs (.int .u64 q1.1) rfl Kc1 HZ (by decide) (by kernel_rfl) rfl ?_;intro x1 C1 HC1 HL1 Ks1 Os1 hqs1;obtain⟨Ps1,Zs1,Ls1⟩:=C2a (Pc1.o.only Os1.o (Ne.symm hag) hwa) Zc1 Lc1 Os1 hha hwa)|fail)
   refine(DE.o x1 g Ps1.o).mono ?_;rintro e x1' ⟨rfl,rfl⟩;by_cases he:er=0;rotate_left
   ·have hne:(er != 0)=true:=by simpa using he
    have HN:=hI (HE'.o he);clear he HE' HQ;go_wp2_with(first|(refine sN 82 ?_;refine r0a rfl _ rfl zs BZ ?_)|(refine sT 4 ?_;refine a0a rfl _ (.tmp 4) (.tmp 82) rfl h rfl _ zs zs rfl Zs1 69 p0a HZ HZ HZ1 ?_;intro w10 K10 O10 hg10)|fail)
    refine bodyPost_ret (v:=.tuple #[.agg zs.toArray,.int .i64 er]) ?_ rfl (HN.o _ _ rfl (c0a Ls1.o O10.o (by omega)));exact j0a rfl _ _ h _ _ (0,0) _ rfl K10.o underlying34 rfl (by rw[p0a];have:=HZ.o;simp[this]) rfl
   ·subst he;have HEQ:Hid (C1=l0a (.slice none 0 0) (.slice none 0 0) (.slice none 0 0) { i0a with file:=q1.1 }):=by
     show _=_
     rw[HC1.o,HZS.o];rfl
    have H1C:Hid (∀v∈C1,v.oneCell'=true):=by
     show _
     rw[HEQ.o];exact x1a rfl rfl rfl
    go_wp2_with(first|(refine sN 84 ?_;refine e0a rfl _ (.tmp 6) rfl a rfl _ C1 Ks1 69 _ underlying34 rfl p0a HL1 ?_)|(refine sT 4 ?_;refine a0a rfl _ (.tmp 4) (.tmp 84) rfl h rfl _ zs C1 rfl Zs1 69 p0a HZ HL1 H1C ?_;intro w10 K10 O10 hg10)|fail)
    refine bodyPost_ret (v:=.tuple #[.agg C1.toArray,.int .i64 0]) ?_ rfl ?_
    ·exact j0a rfl _ _ h _ _ (0,0) _ rfl K10.o underlying34 rfl (by rw[p0a];have:=HL1.o;simp[this]) rfl
    ·have LF:BW w w10:=c0a Ls1.o O10.o (by omega);exact HQ.o C1 (.slice none 0 0) _ _ (by trivial) rfl ⟨none,0,0,none,0,0,none,0,0,by rw[HEQ.o],J1a.nil _ _ _,Holds.nil _ _,c1a.nil _ _ _ _⟩ (by rw[HEQ.o];rfl) (b1a.nil _ _ _ _) LF (λb off s n c h=>by rw[HEQ.o] at h;have h2:some (Value.slice none 0 0)=some (Value.slice (some ⟨b,off,s⟩) n c):=h;cases h2)
 ·subst hcq;subst h8;have D1:Hid (FRd w xs 94 [] (.int .u64 (o1 xs).1) rd0 ((o1 xs).2)):=λw' g h=>t3a w' g w.heap.size xs _ hby h
  have D2:Hid (FRd w xs 94 [] (.int .u64 (o2 xs).1) ((o1 xs).2) ((o2 xs).2)):=λw' g h=>t3a w' g w.heap.size xs _ hby h
  have D3:Hid (FRd w xs 93 [] (.int .u32 (o3 xs).1) ((o2 xs).2) ((o3 xs).2)):=λw' g h=>v6a w' g w.heap.size xs _ hby h
  have DE:=hI fun (w':World) (g:Nat) h=>m5a w' g w.heap.size xs (o3 xs).2 h
  have hge:E5a 8 xs=Q0a xs (o3 xs).2:=by unfold E5a;rw[if_pos hk];rfl
  have HQ:Hid (∀(cs:List Value) (vx:Value) (e:Ending) (w':World),Q0a xs (o3 xs).2=0->e=.returned (.tuple #[.agg cs.toArray,.int .i64 0])->g1a w' w'.heap.size cs { i0a with file:=(o1 xs).1,at_:=(o2 xs).1,n:=(o3 xs).1 }->cs[61]? = some vx->b1a .u8 5 w' w.heap.size vx ({ i0a with file:=(o1 xs).1,at_:=(o2 xs).1,n:=(o3 xs).1 }).data->BW w w'->(∀b off s n c,cs[62]? = some (.slice (some ⟨b,off,s⟩) n c)->w.heap.size<=b)->o2a w 8 xs e w'):=by
   intro cs vx e w' h0 h1 h2 h3 h4 h5 h9;have ho:o1b 8 xs={ i0a with file:=(o1 xs).1,at_:=(o2 xs).1,n:=(o3 xs).1 }:=by unfold o1b;rw[hge,h0,if_pos rfl];rfl
   unfold o2a;rw[hge,h0,ho];exact⟨cs,vx,h1,h2,h3,h4,h5,h9⟩
  have HE':=hI (HE.o _ hge);obtain⟨er,her⟩:=xX (Q0a xs (o3 xs).2);rw[<-her] at DE HQ HE';obtain⟨q1,hq1⟩:=xX (o1 xs);rw[<-hq1] at D1 D2 HQ;obtain⟨q2,hq2⟩:=xX (o2 xs);rw[<-hq2] at D2 D3 HQ;obtain⟨q3,hq3⟩:=xX (o3 xs);rw[<-hq3] at D3 DE HQ;clear her hge HE hk hx hq1 hq2 hq3;go_wp2_with fail;refine(D1.o w4 g P4.o).mono ?_;rintro e v1 ⟨rfl,hP,hO⟩;obtain⟨Pc1,Zc1,Kc1,Lc1⟩:=l2a hP (W0a.of_only hO) Z4 K4 L4 hhg hag hwg;clear hP P4 Z4 K4 L4 hO;go_wp2_with fail;refine(D2.o v1 g Pc1.o).mono ?_;rintro e v2 ⟨rfl,hP,hO⟩;obtain⟨Pc2,Zc2,Kc2,Lc2⟩:=l2a hP (W0a.of_only hO) Zc1 Kc1 Lc1 hhg hag hwg;clear hP Pc1 Zc1 Kc1 Lc1 hO;go_wp2_with fail;refine(D3.o v2 g Pc2.o).mono ?_;rintro e v3 ⟨rfl,hP,hO⟩;obtain⟨Pc3,Zc3,Kc3,Lc3⟩:=l2a hP (W0a.of_only hO) Zc2 Kc2 Lc2 hhg hag hwg;clear hP Pc2 Zc2 Kc2 Lc2 hO;go_wp2_with(first|(refine sT 59 ?_;refine f0a rfl _ (.tmp 59) (.tmp 54) rfl a 57 rfl _ zs (.int .u64 q1.1) rfl Kc3 HZ (by decide) (by kernel_rfl) rfl ?_;intro x1 C1 HC1 HL1 Ks1 Os1 hqs1;obtain⟨Ps1,Zs1,Ls1⟩:=C2a (Pc3.o.only Os1.o (Ne.symm hag) hwa) Zc3 Lc3 Os1 hha hwa)|(refine sT 60 ?_;refine f0a rfl _ (.tmp 60) (.tmp 56) rfl a 59 rfl _ C1 (.int .u64 q2.1) rfl Ks1 HL1 (by decide) (by kernel_rfl) rfl ?_;intro x2 C2 HC2 HL2 Ks2 Os2 hqs2;obtain⟨Ps2,Zs2,Ls2⟩:=C2a (Ps1.o.only Os2.o (Ne.symm hag) hwa) Zs1 Ls1 Os2 hha hwa)|(refine sT 61 ?_;refine f0a rfl _ (.tmp 61) (.tmp 58) rfl a 60 rfl _ C2 (.int .u32 q3.1) rfl Ks2 HL2 (by decide) (by kernel_rfl) rfl ?_;intro x3 C3 HC3 HL3 Ks3 Os3 hqs3;obtain⟨Ps3,Zs3,Ls3⟩:=C2a (Ps2.o.only Os3.o (Ne.symm hag) hwa) Zs2 Ls2 Os3 hha hwa)|fail)
  refine(DE.o x3 g Ps3.o).mono ?_;rintro e x3' ⟨rfl,rfl⟩;by_cases he:er=0;rotate_left
  ·have hne:(er != 0)=true:=by simpa using he
   have HN:=hI (HE'.o he);clear he HE' HQ;go_wp2_with(first|(refine sN 82 ?_;refine r0a rfl _ rfl zs BZ ?_)|(refine sT 4 ?_;refine a0a rfl _ (.tmp 4) (.tmp 82) rfl h rfl _ zs zs rfl Zs3 69 p0a HZ HZ HZ1 ?_;intro w10 K10 O10 hg10)|fail)
   refine bodyPost_ret (v:=.tuple #[.agg zs.toArray,.int .i64 er]) ?_ rfl (HN.o _ _ rfl (c0a Ls3.o O10.o (by omega)));exact j0a rfl _ _ h _ _ (0,0) _ rfl K10.o underlying34 rfl (by rw[p0a];have:=HZ.o;simp[this]) rfl
  ·subst he;have HEQ:Hid (C3=l0a (.slice none 0 0) (.slice none 0 0) (.slice none 0 0) { i0a with file:=q1.1,at_:=q2.1,n:=q3.1 }):=by
    show _=_
    rw[HC3.o,HC2.o,HC1.o,HZS.o];rfl
   have H1C:Hid (∀v∈C3,v.oneCell'=true):=by
    show _
    rw[HEQ.o];exact x1a rfl rfl rfl
   go_wp2_with(first|(refine sN 84 ?_;refine e0a rfl _ (.tmp 6) rfl a rfl _ C3 Ks3 69 _ underlying34 rfl p0a HL3 ?_)|(refine sT 4 ?_;refine a0a rfl _ (.tmp 4) (.tmp 84) rfl h rfl _ zs C3 rfl Zs3 69 p0a HZ HL3 H1C ?_;intro w10 K10 O10 hg10)|fail)
   refine bodyPost_ret (v:=.tuple #[.agg C3.toArray,.int .i64 0]) ?_ rfl ?_
   ·exact j0a rfl _ _ h _ _ (0,0) _ rfl K10.o underlying34 rfl (by rw[p0a];have:=HL3.o;simp[this]) rfl
   ·have LF:BW w w10:=c0a Ls3.o O10.o (by omega);exact HQ.o C3 (.slice none 0 0) _ _ (by trivial) rfl ⟨none,0,0,none,0,0,none,0,0,by rw[HEQ.o],J1a.nil _ _ _,Holds.nil _ _,c1a.nil _ _ _ _⟩ (by rw[HEQ.o];rfl) (b1a.nil _ _ _ _) LF (λb off s n c h=>by rw[HEQ.o] at h;have h2:some (Value.slice none 0 0)=some (Value.slice (some ⟨b,off,s⟩) n c):=h;cases h2)
 ·subst hcq;subst h9;have D1:Hid (FRd w xs 94 [] (.int .u64 (o1 xs).1) rd0 ((o1 xs).2)):=λw' g h=>t3a w' g w.heap.size xs _ hby h
  have D2:Hid (FRd w xs 94 [] (.int .u64 (o2 xs).1) ((o1 xs).2) ((o2 xs).2)):=λw' g h=>t3a w' g w.heap.size xs _ hby h
  have D3:Hid (∀(w':World) (g:Nat),PF w' g w.heap.size xs (o2 xs).2->Calls prog 97 #[.pointer (some ⟨g,0,none⟩)] w' λe w2=>∃v,e=.returned v/\b1a .u8 5 w2 w'.heap.size v (o4 xs).1/\PF w2 g w.heap.size xs (o4 xs).2/\W0a g w' w2):=λw' g h=>g6b w' g w.heap.size xs _ hby h
  have DE:=hI fun (w':World) (g:Nat) h=>m5a w' g w.heap.size xs (o4 xs).2 h
  have hge:E5a 9 xs=Q0a xs (o4 xs).2:=by unfold E5a;rw[if_pos hk];rfl
  have HQ:Hid (∀(cs:List Value) (vx:Value) (e:Ending) (w':World),Q0a xs (o4 xs).2=0->e=.returned (.tuple #[.agg cs.toArray,.int .i64 0])->g1a w' w'.heap.size cs { i0a with file:=(o1 xs).1,at_:=(o2 xs).1,data:=(o4 xs).1 }->cs[61]? = some vx->b1a .u8 5 w' w.heap.size vx ({ i0a with file:=(o1 xs).1,at_:=(o2 xs).1,data:=(o4 xs).1 }).data->BW w w'->(∀b off s n c,cs[62]? = some (.slice (some ⟨b,off,s⟩) n c)->w.heap.size<=b)->o2a w 9 xs e w'):=by
   intro cs vx e w' h0 h1 h2 h3 h4 h5 h9;have ho:o1b 9 xs={ i0a with file:=(o1 xs).1,at_:=(o2 xs).1,data:=(o4 xs).1 }:=by unfold o1b;rw[hge,h0,if_pos rfl];rfl
   unfold o2a;rw[hge,h0,ho];exact⟨cs,vx,h1,h2,h3,h4,h5,h9⟩
  have HE':=hI (HE.o _ hge);have DL:Hid (Bytes (o4 xs).1/\(o4 xs).1.length<=32768):=I9a hby _;obtain⟨er,her⟩:=xX (Q0a xs (o4 xs).2);rw[<-her] at DE HQ HE';obtain⟨q1,hq1⟩:=xX (o1 xs);rw[<-hq1] at D1 D2 HQ;obtain⟨q2,hq2⟩:=xX (o2 xs);rw[<-hq2] at D2 D3 HQ;obtain⟨q3,hq3⟩:=xX (o4 xs);rw[<-hq3] at D3 DE HQ DL;clear her hge HE hk hx hq1 hq2 hq3;go_wp2_with fail;refine(D1.o w4 g P4.o).mono ?_;rintro e v1 ⟨rfl,hP,hO⟩;obtain⟨Pc1,Zc1,Kc1,Lc1⟩:=l2a hP (W0a.of_only hO) Z4 K4 L4 hhg hag hwg;clear hP P4 Z4 K4 L4 hO;go_wp2_with fail;refine(D2.o v1 g Pc1.o).mono ?_;rintro e v2 ⟨rfl,hP,hO⟩;obtain⟨Pc2,Zc2,Kc2,Lc2⟩:=l2a hP (W0a.of_only hO) Zc1 Kc1 Lc1 hhg hag hwg;clear hP Pc1 Zc1 Kc1 Lc1 hO;go_wp2_with(first|(refine sT 68 ?_;refine f0a rfl _ (.tmp 68) (.tmp 65) rfl a 57 rfl _ zs (.int .u64 q1.1) rfl Kc2 HZ (by decide) (by kernel_rfl) rfl ?_;intro x1 C1 HC1 HL1 Ks1 Os1 hqs1;obtain⟨Ps1,Zs1,Ls1⟩:=C2a (Pc2.o.only Os1.o (Ne.symm hag) hwa) Zc2 Lc2 Os1 hha hwa)|(refine sT 69 ?_;refine f0a rfl _ (.tmp 69) (.tmp 67) rfl a 59 rfl _ C1 (.int .u64 q2.1) rfl Ks1 HL1 (by decide) (by kernel_rfl) rfl ?_;intro x2 C2 HC2 HL2 Ks2 Os2 hqs2;obtain⟨Ps2,Zs2,Ls2⟩:=C2a (Ps1.o.only Os2.o (Ne.symm hag) hwa) Zs1 Ls1 Os2 hha hwa)|fail)
  refine(D3.o x2 g Ps2.o).mono ?_;rintro e v3 ⟨u3,rfl,hV,hP,hS⟩;have V3:=hI hV;have hbs3:a<x2.heap.size/\h<x2.heap.size/\w.heap.size<=x2.heap.size:=⟨Ks2.o.lt,Zs2.o.lt,Ls2.o.size⟩;obtain⟨b3,hb3⟩:=xX x2.heap.size;rw[<-hb3] at V3 hbs3;obtain⟨hba3,hbh3,hbw3⟩:=hbs3;clear hV hb3;obtain⟨Pc3,Zc3,Kc3,Lc3⟩:=l2a hP hS Zs2 Ks2 Ls2 hhg hag hwg;clear hP hS Ps2 Zs2 Ks2 Ls2;go_wp2_with(first|(refine sT 71 ?_;refine x0a rfl _ (.tmp 71) (.tmp 70) rfl a 61 rfl _ C2 (u3) rfl Kc3 (hI (by have:=HL2.o;omega)) (by kernel_rfl) (n5a V3.o) ?_;intro x3 Ks3 Os3 hqs3;obtain⟨C3,hC3⟩:=xX (C2.set 61 (u3));have HC3:=hI hC3;have HL3:Hid (C3.length=69):=(by rw[hC3,List.length_set];exact HL2.o);rw[<-hC3] at Ks3;obtain⟨Ps3,Zs3,Ls3⟩:=C2a (Pc3.o.only Os3.o (Ne.symm hag) hwa) Zc3 Lc3 Os3 hha hwa;have V3s3:=hI (V3.o.onlyAt Os3.o hba3);clear hC3)|fail)
  refine(DE.o x3 g Ps3.o).mono ?_;rintro e x3' ⟨rfl,rfl⟩;by_cases he:er=0;rotate_left
  ·have hne:(er != 0)=true:=by simpa using he
   have HN:=hI (HE'.o he);clear he HE' HQ;go_wp2_with(first|(refine sN 82 ?_;refine r0a rfl _ rfl zs BZ ?_)|(refine sT 4 ?_;refine a0a rfl _ (.tmp 4) (.tmp 82) rfl h rfl _ zs zs rfl Zs3 69 p0a HZ HZ HZ1 ?_;intro w10 K10 O10 hg10)|fail)
   refine bodyPost_ret (v:=.tuple #[.agg zs.toArray,.int .i64 er]) ?_ rfl (HN.o _ _ rfl (c0a Ls3.o O10.o (by omega)));exact j0a rfl _ _ h _ _ (0,0) _ rfl K10.o underlying34 rfl (by rw[p0a];have:=HZ.o;simp[this]) rfl
  ·subst he;have HEQ:Hid (C3=l0a (.slice none 0 0) u3 (.slice none 0 0) { i0a with file:=q1.1,at_:=q2.1,data:=q3.1 }):=by
    show _=_
    rw[HC3.o,HC2.o,HC1.o,HZS.o];rfl
   have H1C:Hid (∀v∈C3,v.oneCell'=true):=by
    show _
    rw[HEQ.o];exact x1a rfl (n5a V3s3.o) rfl
   go_wp2_with(first|(refine sN 84 ?_;refine e0a rfl _ (.tmp 6) rfl a rfl _ C3 Ks3 69 _ underlying34 rfl p0a HL3 ?_)|(refine sT 4 ?_;refine a0a rfl _ (.tmp 4) (.tmp 84) rfl h rfl _ zs C3 rfl Zs3 69 p0a HZ HL3 H1C ?_;intro w10 K10 O10 hg10)|fail)
   refine bodyPost_ret (v:=.tuple #[.agg C3.toArray,.int .i64 0]) ?_ rfl ?_
   ·exact j0a rfl _ _ h _ _ (0,0) _ rfl K10.o underlying34 rfl (by rw[p0a];have:=HL3.o;simp[this]) rfl
   ·have LF:BW w w10:=c0a Ls3.o O10.o (by omega);have VF:=b1a.onlyAt V3s3.o O10.o hbh3;obtain⟨Ax,kx,hux,hHx⟩:=b1a.holds8 VF DL.o.1 (Nat.le_trans DL.o.2 (by decide));exact HQ.o C3 u3 _ _ (by trivial) rfl ⟨none,0,0,Ax,_,kx,none,0,0,by rw[HEQ.o,hux],J1a.nil _ _ _,hHx,c1a.nil _ _ _ _⟩ (by rw[HEQ.o];rfl) (VF.mono hbw3) LF (λb off s n c h=>by rw[HEQ.o] at h;have h2:some (Value.slice none 0 0)=some (Value.slice (some ⟨b,off,s⟩) n c):=h;cases h2)
 ·subst hcq;subst h10;have D1:Hid (FRd w xs 94 [] (.int .u64 (o1 xs).1) rd0 ((o1 xs).2)):=λw' g h=>t3a w' g w.heap.size xs _ hby h
  have D2:Hid (∀(w':World) (g:Nat),PF w' g w.heap.size xs (o1 xs).2->Calls prog 98 #[.pointer (some ⟨g,0,none⟩)] w' λe w2=>∃v,e=.returned v/\F6a H0a 4 104 w2 w'.heap.size v (o5 xs).1/\PF w2 g w.heap.size xs (o5 xs).2/\W0a g w' w2):=λw' g h=>A9b w' g w.heap.size xs _ hby h
  have DE:=hI fun (w':World) (g:Nat) h=>m5a w' g w.heap.size xs (o5 xs).2 h
  have hge:E5a 10 xs=Q0a xs (o5 xs).2:=by unfold E5a;rw[if_pos hk];rfl
  have HQ:Hid (∀(cs:List Value) (vx:Value) (e:Ending) (w':World),Q0a xs (o5 xs).2=0->e=.returned (.tuple #[.agg cs.toArray,.int .i64 0])->g1a w' w'.heap.size cs { i0a with file:=(o1 xs).1,locks:=(o5 xs).1 }->cs[61]? = some vx->b1a .u8 5 w' w.heap.size vx ({ i0a with file:=(o1 xs).1,locks:=(o5 xs).1 }).data->BW w w'->(∀b off s n c,cs[62]? = some (.slice (some ⟨b,off,s⟩) n c)->w.heap.size<=b)->o2a w 10 xs e w'):=by
   intro cs vx e w' h0 h1 h2 h3 h4 h5 h9;have ho:o1b 10 xs={ i0a with file:=(o1 xs).1,locks:=(o5 xs).1 }:=by unfold o1b;rw[hge,h0,if_pos rfl];rfl
   unfold o2a;rw[hge,h0,ho];exact⟨cs,vx,h1,h2,h3,h4,h5,h9⟩
  have HE':=hI (HE.o _ hge);obtain⟨er,her⟩:=xX (Q0a xs (o5 xs).2);rw[<-her] at DE HQ HE';obtain⟨q1,hq1⟩:=xX (o1 xs);rw[<-hq1] at D1 D2 HQ;obtain⟨q2,hq2⟩:=xX (o5 xs);rw[<-hq2] at D2 DE HQ;clear her hge HE hk hx hq1 hq2;go_wp2_with fail;refine(D1.o w4 g P4.o).mono ?_;rintro e v1 ⟨rfl,hP,hO⟩;obtain⟨Pc1,Zc1,Kc1,Lc1⟩:=l2a hP (W0a.of_only hO) Z4 K4 L4 hhg hag hwg;clear hP P4 Z4 K4 L4 hO;go_wp2_with(first|(refine sT 76 ?_;refine f0a rfl _ (.tmp 76) (.tmp 75) rfl a 57 rfl _ zs (.int .u64 q1.1) rfl Kc1 HZ (by decide) (by kernel_rfl) rfl ?_;intro x1 C1 HC1 HL1 Ks1 Os1 hqs1;obtain⟨Ps1,Zs1,Ls1⟩:=C2a (Pc1.o.only Os1.o (Ne.symm hag) hwa) Zc1 Lc1 Os1 hha hwa)|fail)
  refine(D2.o x1 g Ps1.o).mono ?_;rintro e v2 ⟨u2,rfl,hV,hP,hS⟩;have V2:=hI hV;have hbs2:a<x1.heap.size/\h<x1.heap.size/\w.heap.size<=x1.heap.size:=⟨Ks1.o.lt,Zs1.o.lt,Ls1.o.size⟩;obtain⟨b2,hb2⟩:=xX x1.heap.size;rw[<-hb2] at V2 hbs2;obtain⟨hba2,hbh2,hbw2⟩:=hbs2;clear hV hb2;obtain⟨Pc2,Zc2,Kc2,Lc2⟩:=l2a hP hS Zs1 Ks1 Ls1 hhg hag hwg;clear hP hS Ps1 Zs1 Ks1 Ls1;go_wp2_with(first|(refine sT 78 ?_;refine x0a rfl _ (.tmp 78) (.tmp 77) rfl a 62 rfl _ C1 (u2) rfl Kc2 (hI (by have:=HL1.o;omega)) (by kernel_rfl) (o8b V2.o) ?_;intro x2 Ks2 Os2 hqs2;obtain⟨C2,hC2⟩:=xX (C1.set 62 (u2));have HC2:=hI hC2;have HL2:Hid (C2.length=69):=(by rw[hC2,List.length_set];exact HL1.o);rw[<-hC2] at Ks2;obtain⟨Ps2,Zs2,Ls2⟩:=C2a (Pc2.o.only Os2.o (Ne.symm hag) hwa) Zc2 Lc2 Os2 hha hwa;have V2s2:=hI (V2.o.only Os2.o hba2);clear hC2)|fail)
  refine(DE.o x2 g Ps2.o).mono ?_;rintro e x2' ⟨rfl,rfl⟩;by_cases he:er=0;rotate_left
  ·have hne:(er != 0)=true:=by simpa using he
   have HN:=hI (HE'.o he);clear he HE' HQ;go_wp2_with(first|(refine sN 82 ?_;refine r0a rfl _ rfl zs BZ ?_)|(refine sT 4 ?_;refine a0a rfl _ (.tmp 4) (.tmp 82) rfl h rfl _ zs zs rfl Zs2 69 p0a HZ HZ HZ1 ?_;intro w10 K10 O10 hg10)|fail)
   refine bodyPost_ret (v:=.tuple #[.agg zs.toArray,.int .i64 er]) ?_ rfl (HN.o _ _ rfl (c0a Ls2.o O10.o (by omega)));exact j0a rfl _ _ h _ _ (0,0) _ rfl K10.o underlying34 rfl (by rw[p0a];have:=HZ.o;simp[this]) rfl
  ·subst he;have HEQ:Hid (C2=l0a (.slice none 0 0) (.slice none 0 0) u2 { i0a with file:=q1.1,locks:=q2.1 }):=by
    show _=_
    rw[HC2.o,HC1.o,HZS.o];rfl
   have H1C:Hid (∀v∈C2,v.oneCell'=true):=by
    show _
    rw[HEQ.o];exact x1a rfl rfl (o8b V2s2.o)
   go_wp2_with(first|(refine sN 84 ?_;refine e0a rfl _ (.tmp 6) rfl a rfl _ C2 Ks2 69 _ underlying34 rfl p0a HL2 ?_)|(refine sT 4 ?_;refine a0a rfl _ (.tmp 4) (.tmp 84) rfl h rfl _ zs C2 rfl Zs2 69 p0a HZ HL2 H1C ?_;intro w10 K10 O10 hg10)|fail)
   refine bodyPost_ret (v:=.tuple #[.agg C2.toArray,.int .i64 0]) ?_ rfl ?_
   ·exact j0a rfl _ _ h _ _ (0,0) _ rfl K10.o underlying34 rfl (by rw[p0a];have:=HL2.o;simp[this]) rfl
   ·have LF:BW w w10:=c0a Ls2.o O10.o (by omega);have VL:=F6a.only V2s2.o O10.o hbh2;obtain⟨Al,nl,kl,hul,hHl⟩:=F6a.holds (by decide) i5a VL;exact HQ.o C2 (.slice none 0 0) _ _ (by trivial) rfl ⟨none,0,0,none,0,0,Al,nl,kl,by rw[HEQ.o,hul],J1a.nil _ _ _,Holds.nil _ _,hHl⟩ (by rw[HEQ.o];rfl) (b1a.nil _ _ _ _) LF (λb off s n c h=>by rw[HEQ.o] at h;have h2:some u2=some (Value.slice (some ⟨b,off,s⟩) n c):=h;injection h2 with h2;exact Nat.le_trans hbw2 (World.ownsRow.lt VL b (by rw[h2];rfl)).1)
theorem A7b(w:World)(c:Int)(A:Option Addr)(n k:Nat)(xs:List Int)(hc:0<=c/\c<=65535)(hx:Holds w w.heap.size A n k xs) :
  Calls prog 67 #[.int .u16 c,.slice A n k] w (d3a w c xs):=by
 have hby:=hx.byte;have HX:=hI hx;have hmf:∀(fn:Fn) (first cap:Array Value) (w:World),(Instr.makeFunc fn first cap).run prog w=.ok (.func fn first cap) w:=λ_ _ _ _=>rfl
 have ZH:=hI q9a;have BZ:=r9a;have ZR:=hI z1c;have HZ:Hid ((u0a (.slice none 0 0) (.slice none 0 0) n0a).length=20):=m2a I0a;have HZ1:Hid (∀v∈u0a (.slice none 0 0) (.slice none 0 0) n0a,v.oneCell'=true):=(v2a w 0).one;have HZI:Hid (∀w':World,s1a w' w'.heap.size (u0a (.slice none 0 0) (.slice none 0 0) n0a) n0a):=λw'=>v2a w' _
 have HZD:Hid ((u0a (.slice none 0 0) (.slice none 0 0) n0a)[15]? = some (.slice none 0 0)):=rfl;have BR:prog.built 142 [(0,.slice A n k)]=some ([.slice A n k,.int .i64 0]:List Value).toArray:=by kernel_rfl
 have HR0:Hid (([.slice none 0 0,.int .i64 0]:List Value).length=2):=rfl;have HR1:Hid (([.slice A n k,.int .i64 0]:List Value).length=2):=rfl;have HR2:Hid (∀v∈([.slice A n k,.int .i64 0]:List Value),v.oneCell'=true):=by
  intro v hv;rcases List.mem_cons.1 hv with rfl | hv
  ·rfl
  ·rw[List.mem_singleton.1 hv];rfl
 have HE:Hid (∀er,O5a c xs=er->er≠0->∀e w',e=.returned (.tuple #[.agg (u0a (.slice none 0 0) (.slice none 0 0) n0a).toArray,.int .i64 er])->BW w w'->d3a w c xs e w'):=by intro er h1 h2 e w' he hb;unfold d3a p1b;rw[h1,if_neg h2];exact⟨_,_,he,HZI.o w',HZD.o,b1a.nil _ _ _ _,hb⟩
 obtain⟨zs,hzs⟩:=xX (u0a (.slice none 0 0) (.slice none 0 0) n0a);have HZS:=hI hzs;rw[<-hzs] at ZH BZ HZ HZ1 HE;clear hzs HZI HZD;by_cases hk:c3a c=true;rotate_left
 ·have HQ:=hI (HE.o 2 (by unfold O5a;rw[if_neg hk]) (by decide));have hk':c≠5/\c≠6/\c≠7/\c≠8/\c≠9/\c≠10:=by refine⟨?_,?_,?_,?_,?_,?_⟩<;>(rintro rfl;exact hk (by decide))
  obtain⟨h5,h6,h7,h8,h9,h10⟩:=hk';have b5:(c==5)=false:=bF h5
  have b6:(c==6)=false:=bF h6
  have b7:(c==7)=false:=bF h7
  have b8:(c==8)=false:=bF h8
  have b9:(c==9)=false:=bF h9
  have b10:(c==10)=false:=bF h10
  clear hk HE hx h5 h6 h7 h8 h9 h10;go_enter func67,ntmps67;go_wp2_with(first|(refine sN 4 ?_;refine b0a rfl _ rfl zs _ ZH ?_;intro h w1 hg1 hg2 Z1 L1)|(refine sN 6 ?_;refine b0a rfl _ rfl zs _ ZH ?_;intro a w2 hg3 hg4 K2 L02;have Z2:=hI (Z1.o.over L02.o);have L2:=hI (step L1.o L02.o);have hha:h≠a:=(by omega);have hwa:w.heap.size<=a:=(by have:=L1.o.size;omega);have hsz2:=L2.o.size)|(refine sN 13 ?_;refine v0a rfl _ _ rfl ([.slice A n k,.int .i64 0]:List Value) (by refine Eq.trans ?_ BR;kernel_rfl) ?_)|(refine sN 7 ?_;refine b0a rfl _ rfl ([.slice none 0 0,.int .i64 0]:List Value) _ ZR ?_;intro g w3 hg5 hg6 R3 L03;have K3:=hI (K2.o.over L03.o);have Z3:=hI (Z2.o.over L03.o);have L3:=hI (step L2.o L03.o);have hag:a≠g:=(by omega);have hhg:h≠g:=(by have:=Z2.o.lt;omega);have hwg:w.heap.size<=g:=(by omega))|(refine sT 7 ?_;refine a0a rfl _ (.tmp 7) (.tmp 13) rfl g rfl _ ([.slice none 0 0,.int .i64 0]:List Value) ([.slice A n k,.int .i64 0]:List Value) rfl R3 2 U4b HR0 HR1 HR2 ?_;intro w4 R4 O4 hg7;have K4:=hI (K3.o.only O4.o hag);have Z4:=hI (Z3.o.only O4.o hhg);have L4:=hI (c0a L3.o O4.o hwg))|(refine sN 18 ?_;refine r0a rfl _ rfl zs BZ ?_)|(refine sT 4 ?_;refine a0a rfl _ (.tmp 4) (.tmp 18) rfl h rfl _ zs zs rfl Z4 20 t0a HZ HZ HZ1 ?_;intro w10 K10 O10 hg10)|fail)
  refine bodyPost_ret (v:=.tuple #[.agg zs.toArray,.int .i64 2]) ?_ rfl (HQ.o _ _ rfl (c0a L4.o O10.o (by omega)));exact j0a rfl _ _ h _ _ (0,0) _ rfl K10.o underlying39 rfl (by rw[t0a];have:=HZ.o;simp[this]) rfl
 have hcs:c=5∨(c=6∨c=7∨c=10)∨c=8∨c=9:=by unfold c3a at hk;simp at hk;omega
 obtain⟨cq,hcq⟩:=xX c;rw[show d3a w c xs=d3a w cq xs by rw[hcq]];go_enter func67,ntmps67;go_upto_if 19 with(first|(refine sN 4 ?_;refine b0a rfl _ rfl zs _ ZH ?_;intro h w1 hg1 hg2 Z1 L1)|(refine sN 6 ?_;refine b0a rfl _ rfl zs _ ZH ?_;intro a w2 hg3 hg4 K2 L02;have Z2:=hI (Z1.o.over L02.o);have L2:=hI (step L1.o L02.o);have hha:h≠a:=(by omega);have hwa:w.heap.size<=a:=(by have:=L1.o.size;omega);have hsz2:=L2.o.size)|(refine sN 13 ?_;refine v0a rfl _ _ rfl ([.slice A n k,.int .i64 0]:List Value) (by refine Eq.trans ?_ BR;kernel_rfl) ?_)|(refine sN 7 ?_;refine b0a rfl _ rfl ([.slice none 0 0,.int .i64 0]:List Value) _ ZR ?_;intro g w3 hg5 hg6 R3 L03;have K3:=hI (K2.o.over L03.o);have Z3:=hI (Z2.o.over L03.o);have L3:=hI (step L2.o L03.o);have hag:a≠g:=(by omega);have hhg:h≠g:=(by have:=Z2.o.lt;omega);have hwg:w.heap.size<=g:=(by omega))|(refine sT 7 ?_;refine a0a rfl _ (.tmp 7) (.tmp 13) rfl g rfl _ ([.slice none 0 0,.int .i64 0]:List Value) ([.slice A n k,.int .i64 0]:List Value) rfl R3 2 U4b HR0 HR1 HR2 ?_;intro w4 R4 O4 hg7;have K4:=hI (K3.o.only O4.o hag);have Z4:=hI (Z3.o.only O4.o hhg);have L4:=hI (c0a L3.o O4.o hwg))|fail)
 have P4:Hid (PF w4 g w.heap.size xs rd0):=⟨Nat.zero_le _,hwg,A,n,k,R4.o,HX.o.below L4.o⟩;clear R3 L03 K2 K3 Z1 Z2 Z3 L02 L1 L2 L3 R4 O4 HX;rcases hcs with h5 | hgr | h8 | h9
 ·subst hcq;subst h5;have D1:Hid (FRd w xs 92 [] (.int .u8 (s1 xs).1) rd0 ((s1 xs).2)):=λw' g h=>y1b w' g w.heap.size xs _ hby h
  have D2:Hid (FRd w xs 92 [] (.int .u8 (s2 xs).1) ((s1 xs).2) ((s2 xs).2)):=λw' g h=>y1b w' g w.heap.size xs _ hby h
  have D3:Hid (FRd w xs 101 [.int .u16 2] (.int .u16 (s3 xs).1) ((s2 xs).2) ((s3 xs).2)):=λw' g h=>w1c w' g w.heap.size xs _ 2 hby h (by decide)
  have D4:Hid (FRd w xs 94 [] (.int .u64 (s4 xs).1) ((s3 xs).2) ((s4 xs).2)):=λw' g h=>t3a w' g w.heap.size xs _ hby h
  have D5:Hid (FRd w xs 94 [] (.int .u64 (s5 xs).1) ((s4 xs).2) ((s5 xs).2)):=λw' g h=>t3a w' g w.heap.size xs _ hby h
  have D6:Hid (FRd w xs 101 [.int .u16 2] (.int .u16 (s6 xs).1) ((s5 xs).2) ((s6 xs).2)):=λw' g h=>w1c w' g w.heap.size xs _ 2 hby h (by decide)
  have D7:Hid (FRd w xs 95 [.int .i64 2] (.tuple #[]) ((s6 xs).2) (s7 xs)):=λw' g h=>W6a w' g w.heap.size xs _ 2 hby h (by decide)
  have DE:=hI fun (w':World) (g:Nat) h=>m5a w' g w.heap.size xs (s7 xs) h
  have hge:O5a 5 xs=Q0a xs (s7 xs):=by unfold O5a;rw[if_pos hk];rfl
  have HQ:Hid (∀(cs:List Value) (vx:Value) (e:Ending) (w':World),Q0a xs (s7 xs)=0->e=.returned (.tuple #[.agg cs.toArray,.int .i64 0])->s1a w' w'.heap.size cs { n0a with lev:=(s1 xs).1,dur:=(s2 xs).1,made:=(s3 xs).1,file:=(s4 xs).1,siz:=(s5 xs).1,kind:=(s6 xs).1 }->cs[15]? = some vx->b1a .u8 5 w' w.heap.size vx ({ n0a with lev:=(s1 xs).1,dur:=(s2 xs).1,made:=(s3 xs).1,file:=(s4 xs).1,siz:=(s5 xs).1,kind:=(s6 xs).1 }).data->BW w w'->d3a w 5 xs e w'):=by
   intro cs vx e w' h0 h1 h2 h3 h4 h5;have ho:p1b 5 xs={ n0a with lev:=(s1 xs).1,dur:=(s2 xs).1,made:=(s3 xs).1,file:=(s4 xs).1,siz:=(s5 xs).1,kind:=(s6 xs).1 }:=by unfold p1b;rw[hge,h0,if_pos rfl];rfl
   unfold d3a;rw[hge,h0,ho];exact⟨cs,vx,h1,h2,h3,h4,h5⟩
  have HE':=hI (HE.o _ hge);obtain⟨k6,hk6⟩:∃x,IntKind.u8.wrap (s6 xs).1=x:=⟨_,rfl⟩;have HK6:Hid (Q0a xs (s7 xs)=0->k6=(s6 xs).1):=λh=>by
   have h2:=(n8b h).2;have h0:=(w7b hby 2 (s5 xs).2).1;change 0<=(s6 xs).1 at h0
   rw[<-hk6,IntKind.wrap_u8];omega
  obtain⟨er,her⟩:=xX (Q0a xs (s7 xs));rw[<-her] at DE HQ HE' HK6;obtain⟨q1,hq1⟩:=xX (s1 xs);rw[<-hq1] at D1 D2 HQ;obtain⟨q2,hq2⟩:=xX (s2 xs);rw[<-hq2] at D2 D3 HQ;obtain⟨q3,hq3⟩:=xX (s3 xs);rw[<-hq3] at D3 D4 HQ;obtain⟨q4,hq4⟩:=xX (s4 xs);rw[<-hq4] at D4 D5 HQ;obtain⟨q5,hq5⟩:=xX (s5 xs);rw[<-hq5] at D5 D6 HQ;obtain⟨q6,hq6⟩:=xX (s6 xs);rw[<-hq6] at D6 D7 HQ HK6 hk6;obtain⟨q7,hq7⟩:=xX (s7 xs);rw[<-hq7] at D7 DE;clear her hge HE hk hx hq1 hq2 hq3 hq4 hq5 hq6 hq7;go_wp2_with fail;refine(D1.o w4 g P4.o).mono ?_;rintro e v1 ⟨rfl,hP,hO⟩;obtain⟨Pc1,Zc1,Kc1,Lc1⟩:=l2a hP (W0a.of_only hO) Z4 K4 L4 hhg hag hwg;clear hP P4 Z4 K4 L4 hO;go_wp2_with fail;refine(D2.o v1 g Pc1.o).mono ?_;rintro e v2 ⟨rfl,hP,hO⟩;obtain⟨Pc2,Zc2,Kc2,Lc2⟩:=l2a hP (W0a.of_only hO) Zc1 Kc1 Lc1 hhg hag hwg;clear hP Pc1 Zc1 Kc1 Lc1 hO;go_wp2_with(first|(refine sT 25 ?_;refine f0a rfl _ (.tmp 25) (.tmp 22) rfl a 10 rfl _ zs (.int .u8 q1.1) rfl Kc2 HZ (by decide) (by kernel_rfl) rfl ?_;intro x1 C1 HC1 HL1 Ks1 Os1 hqs1;obtain⟨Ps1,Zs1,Ls1⟩:=C2a (Pc2.o.only Os1.o (Ne.symm hag) hwa) Zc2 Lc2 Os1 hha hwa)|(refine sT 26 ?_;refine f0a rfl _ (.tmp 26) (.tmp 24) rfl a 11 rfl _ C1 (.int .u8 q2.1) rfl Ks1 HL1 (by decide) (by kernel_rfl) rfl ?_;intro x2 C2 HC2 HL2 Ks2 Os2 hqs2;obtain⟨Ps2,Zs2,Ls2⟩:=C2a (Ps1.o.only Os2.o (Ne.symm hag) hwa) Zs1 Ls1 Os2 hha hwa)|fail)
  refine(D3.o x2 g Ps2.o).mono ?_;rintro e v3 ⟨rfl,hP,hO⟩;obtain⟨Pc3,Zc3,Kc3,Lc3⟩:=l2a hP (W0a.of_only hO) Zs2 Ks2 Ls2 hhg hag hwg;clear hP Ps2 Zs2 Ks2 Ls2 hO;go_wp2_with(first|(refine sT 29 ?_;refine f0a rfl _ (.tmp 29) (.tmp 28) rfl a 12 rfl _ C2 (.int .u16 q3.1) rfl Kc3 HL2 (by decide) (by kernel_rfl) rfl ?_;intro x3 C3 HC3 HL3 Ks3 Os3 hqs3;obtain⟨Ps3,Zs3,Ls3⟩:=C2a (Pc3.o.only Os3.o (Ne.symm hag) hwa) Zc3 Lc3 Os3 hha hwa)|fail)
  refine(D4.o x3 g Ps3.o).mono ?_;rintro e v4 ⟨rfl,hP,hO⟩;obtain⟨Pc4,Zc4,Kc4,Lc4⟩:=l2a hP (W0a.of_only hO) Zs3 Ks3 Ls3 hhg hag hwg;clear hP Ps3 Zs3 Ks3 Ls3 hO;go_wp2_with fail;refine(D5.o v4 g Pc4.o).mono ?_;rintro e v5 ⟨rfl,hP,hO⟩;obtain⟨Pc5,Zc5,Kc5,Lc5⟩:=l2a hP (W0a.of_only hO) Zc4 Kc4 Lc4 hhg hag hwg;clear hP Pc4 Zc4 Kc4 Lc4 hO;go_wp2_with(first|(refine sT 34 ?_;refine f0a rfl _ (.tmp 34) (.tmp 31) rfl a 13 rfl _ C3 (.int .u64 q4.1) rfl Kc5 HL3 (by decide) (by kernel_rfl) rfl ?_;intro x4 C4 HC4 HL4 Ks4 Os4 hqs4;obtain⟨Ps4,Zs4,Ls4⟩:=C2a (Pc5.o.only Os4.o (Ne.symm hag) hwa) Zc5 Lc5 Os4 hha hwa)|(refine sT 35 ?_;refine f0a rfl _ (.tmp 35) (.tmp 33) rfl a 1 rfl _ C4 (.int .u64 q5.1) rfl Ks4 HL4 (by decide) (by kernel_rfl) rfl ?_;intro x5 C5 HC5 HL5 Ks5 Os5 hqs5;obtain⟨Ps5,Zs5,Ls5⟩:=C2a (Ps4.o.only Os5.o (Ne.symm hag) hwa) Zs4 Ls4 Os5 hha hwa)|fail)
  refine(D6.o x5 g Ps5.o).mono ?_;rintro e v6 ⟨rfl,hP,hO⟩;obtain⟨Pc6,Zc6,Kc6,Lc6⟩:=l2a hP (W0a.of_only hO) Zs5 Ks5 Ls5 hhg hag hwg;clear hP Ps5 Zs5 Ks5 Ls5 hO;go_wp2_with(first|(refine sT 39 ?_;refine f0a rfl _ (.tmp 39) (.tmp 38) rfl a 14 rfl _ C5 (.int .u8 k6) rfl Kc6 HL5 (by decide) (by kernel_rfl) rfl ?_;intro x6 C6 HC6 HL6 Ks6 Os6 hqs6;obtain⟨Ps6,Zs6,Ls6⟩:=C2a (Pc6.o.only Os6.o (Ne.symm hag) hwa) Zc6 Lc6 Os6 hha hwa)|fail)
  refine(D7.o x6 g Ps6.o).mono ?_;rintro e v7 ⟨rfl,hP,hO⟩;obtain⟨Pc7,Zc7,Kc7,Lc7⟩:=l2a hP (W0a.of_only hO) Zs6 Ks6 Ls6 hhg hag hwg;clear hP Ps6 Zs6 Ks6 Ls6 hO;go_wp2_with fail;refine(DE.o v7 g Pc7.o).mono ?_;rintro e v7' ⟨rfl,rfl⟩;by_cases he:er=0;rotate_left
  ·have hne:(er != 0)=true:=by simpa using he
   have HN:=hI (HE'.o he);clear he HE' HQ;go_wp2_with(first|(refine sN 57 ?_;refine r0a rfl _ rfl zs BZ ?_)|(refine sT 4 ?_;refine a0a rfl _ (.tmp 4) (.tmp 57) rfl h rfl _ zs zs rfl Zc7 20 t0a HZ HZ HZ1 ?_;intro w10 K10 O10 hg10)|fail)
   refine bodyPost_ret (v:=.tuple #[.agg zs.toArray,.int .i64 er]) ?_ rfl (HN.o _ _ rfl (c0a Lc7.o O10.o (by omega)));exact j0a rfl _ _ h _ _ (0,0) _ rfl K10.o underlying39 rfl (by rw[t0a];have:=HZ.o;simp[this]) rfl
  ·subst he;have HEQ:Hid (C6=u0a (.slice none 0 0) (.slice none 0 0) { n0a with lev:=q1.1,dur:=q2.1,made:=q3.1,file:=q4.1,siz:=q5.1,kind:=q6.1 }):=by
    show _=_
    rw[HC6.o,HC5.o,HC4.o,HC3.o,HC2.o,HC1.o,HZS.o];rw[HK6.o (by trivial)];rfl
   have H1C:Hid (∀v∈C6,v.oneCell'=true):=by
    show _
    rw[HEQ.o];exact N1a rfl rfl
   go_wp2_with(first|(refine sN 59 ?_;refine e0a rfl _ (.tmp 6) rfl a rfl _ C6 Kc7 20 _ underlying39 rfl t0a HL6 ?_)|(refine sT 4 ?_;refine a0a rfl _ (.tmp 4) (.tmp 59) rfl h rfl _ zs C6 rfl Zc7 20 t0a HZ HL6 H1C ?_;intro w10 K10 O10 hg10)|fail)
   refine bodyPost_ret (v:=.tuple #[.agg C6.toArray,.int .i64 0]) ?_ rfl ?_
   ·exact j0a rfl _ _ h _ _ (0,0) _ rfl K10.o underlying39 rfl (by rw[t0a];have:=HL6.o;simp[this]) rfl
   ·have LF:BW w w10:=c0a Lc7.o O10.o (by omega);exact HQ.o C6 (.slice none 0 0) _ _ (by trivial) rfl ⟨none,0,0,none,0,0,by rw[HEQ.o],Holds.nil _ _,c1a.nil _ _ _ _⟩ (by rw[HEQ.o];rfl) (b1a.nil _ _ _ _) LF
 ·have hge:O5a c xs=Q0a xs (rdZ xs 4 rd0):=by unfold O5a;rw[if_pos hk];rcases hgr with rfl | rfl | rfl<;>rfl
  have hgo:Q0a xs (rdZ xs 4 rd0)=0->p1b c xs=n0a:=λh0=>by unfold p1b;rw[hge,h0,if_pos rfl];rcases hgr with rfl | rfl | rfl<;>rfl
  rw[<-hcq] at HE hk hge hgo;clear hcq hc;rcases hgr with rfl | rfl | rfl
  all_goals
   have D1:Hid (FRd w xs 95 [.int .i64 4] (.tuple #[]) rd0 (rdZ xs 4 rd0)):=λw' g h=>W6a w' g w.heap.size xs _ 4 hby h (by decide)
   have DE:=hI fun (w':World) (g:Nat) h=>m5a w' g w.heap.size xs (rdZ xs 4 rd0) h
   have HQ:Hid (∀(cs:List Value) (vx:Value) (e:Ending) (w':World),Q0a xs (rdZ xs 4 rd0)=0->e=.returned (.tuple #[.agg cs.toArray,.int .i64 0])->s1a w' w'.heap.size cs n0a->cs[15]? = some vx->b1a .u8 5 w' w.heap.size vx (n0a).data->BW w w'->d3a w cq xs e w'):=by intro cs vx e w' h0 h1 h2 h3 h4 h5;have ho:=hgo h0;unfold d3a;rw[hge,h0,ho];exact⟨cs,vx,h1,h2,h3,h4,h5⟩
   have HE':=hI (HE.o _ hge);obtain⟨er,her⟩:=xX (Q0a xs (rdZ xs 4 rd0));rw[<-her] at DE HQ HE';obtain⟨q1,hq1⟩:=xX (rdZ xs 4 rd0);rw[<-hq1] at D1 DE;clear her hge HE hk hx hq1;go_wp2_with fail;refine(D1.o w4 g P4.o).mono ?_;rintro e v1 ⟨rfl,hP,hO⟩;obtain⟨Pc1,Zc1,Kc1,Lc1⟩:=l2a hP (W0a.of_only hO) Z4 K4 L4 hhg hag hwg;clear hP P4 Z4 K4 L4 hO;go_wp2_with fail;refine(DE.o v1 g Pc1.o).mono ?_;rintro e v1' ⟨rfl,rfl⟩;by_cases he:er=0;rotate_left
   ·have hne:(er != 0)=true:=by simpa using he
    have HN:=hI (HE'.o he);clear he HE' HQ;go_wp2_with(first|(refine sN 57 ?_;refine r0a rfl _ rfl zs BZ ?_)|(refine sT 4 ?_;refine a0a rfl _ (.tmp 4) (.tmp 57) rfl h rfl _ zs zs rfl Zc1 20 t0a HZ HZ HZ1 ?_;intro w10 K10 O10 hg10)|fail)
    refine bodyPost_ret (v:=.tuple #[.agg zs.toArray,.int .i64 er]) ?_ rfl (HN.o _ _ rfl (c0a Lc1.o O10.o (by omega)));exact j0a rfl _ _ h _ _ (0,0) _ rfl K10.o underlying39 rfl (by rw[t0a];have:=HZ.o;simp[this]) rfl
   ·subst he;have HEQ:Hid (zs=u0a (.slice none 0 0) (.slice none 0 0) n0a):=by
     show _=_
     exact HZS.o
    have H1C:Hid (∀v∈zs,v.oneCell'=true):=by
     show _
     rw[HEQ.o];exact N1a rfl rfl
    go_wp2_with(first|(refine sN 59 ?_;refine e0a rfl _ (.tmp 6) rfl a rfl _ zs Kc1 20 _ underlying39 rfl t0a HZ ?_)|(refine sT 4 ?_;refine a0a rfl _ (.tmp 4) (.tmp 59) rfl h rfl _ zs zs rfl Zc1 20 t0a HZ HZ H1C ?_;intro w10 K10 O10 hg10)|fail)
    refine bodyPost_ret (v:=.tuple #[.agg zs.toArray,.int .i64 0]) ?_ rfl ?_
    ·exact j0a rfl _ _ h _ _ (0,0) _ rfl K10.o underlying39 rfl (by rw[t0a];have:=HZ.o;simp[this]) rfl
    ·have LF:BW w w10:=c0a Lc1.o O10.o (by omega);exact HQ.o zs (.slice none 0 0) _ _ (by trivial) rfl ⟨none,0,0,none,0,0,by rw[HEQ.o],Holds.nil _ _,c1a.nil _ _ _ _⟩ (by rw[HEQ.o];rfl) (b1a.nil _ _ _ _) LF
 ·subst hcq;subst h8;have D1:Hid (∀(w':World) (g:Nat),PF w' g w.heap.size xs rd0->Calls prog 97 #[.pointer (some ⟨g,0,none⟩)] w' λe w2=>∃v,e=.returned v/\b1a .u8 5 w2 w'.heap.size v (s8 xs).1/\PF w2 g w.heap.size xs (s8 xs).2/\W0a g w' w2):=λw' g h=>g6b w' g w.heap.size xs _ hby h
  have DE:=hI fun (w':World) (g:Nat) h=>m5a w' g w.heap.size xs (s8 xs).2 h
  have hge:O5a 8 xs=Q0a xs (s8 xs).2:=by unfold O5a;rw[if_pos hk];rfl
  have HQ:Hid (∀(cs:List Value) (vx:Value) (e:Ending) (w':World),Q0a xs (s8 xs).2=0->e=.returned (.tuple #[.agg cs.toArray,.int .i64 0])->s1a w' w'.heap.size cs { n0a with data:=(s8 xs).1 }->cs[15]? = some vx->b1a .u8 5 w' w.heap.size vx ({ n0a with data:=(s8 xs).1 }).data->BW w w'->d3a w 8 xs e w'):=by
   intro cs vx e w' h0 h1 h2 h3 h4 h5;have ho:p1b 8 xs={ n0a with data:=(s8 xs).1 }:=by unfold p1b;rw[hge,h0,if_pos rfl];rfl
   unfold d3a;rw[hge,h0,ho];exact⟨cs,vx,h1,h2,h3,h4,h5⟩
  have HE':=hI (HE.o _ hge);have DL:Hid (Bytes (s8 xs).1/\(s8 xs).1.length<=32768):=I9a hby _;obtain⟨er,her⟩:=xX (Q0a xs (s8 xs).2);rw[<-her] at DE HQ HE';obtain⟨q1,hq1⟩:=xX (s8 xs);rw[<-hq1] at D1 DE HQ DL;clear her hge HE hk hx hq1;go_wp2_with fail;refine(D1.o w4 g P4.o).mono ?_;rintro e v1 ⟨u1,rfl,hV,hP,hS⟩;have V1:=hI hV;have hbs1:a<w4.heap.size/\h<w4.heap.size/\w.heap.size<=w4.heap.size:=⟨K4.o.lt,Z4.o.lt,L4.o.size⟩;obtain⟨b1,hb1⟩:=xX w4.heap.size;rw[<-hb1] at V1 hbs1;obtain⟨hba1,hbh1,hbw1⟩:=hbs1;clear hV hb1;obtain⟨Pc1,Zc1,Kc1,Lc1⟩:=l2a hP hS Z4 K4 L4 hhg hag hwg;clear hP hS P4 Z4 K4 L4;go_wp2_with(first|(refine sT 44 ?_;refine x0a rfl _ (.tmp 44) (.tmp 43) rfl a 15 rfl _ zs (u1) rfl Kc1 (hI (by have:=HZ.o;omega)) (by kernel_rfl) (n5a V1.o) ?_;intro x1 Ks1 Os1 hqs1;obtain⟨C1,hC1⟩:=xX (zs.set 15 (u1));have HC1:=hI hC1;have HL1:Hid (C1.length=20):=(by rw[hC1,List.length_set];exact HZ.o);rw[<-hC1] at Ks1;obtain⟨Ps1,Zs1,Ls1⟩:=C2a (Pc1.o.only Os1.o (Ne.symm hag) hwa) Zc1 Lc1 Os1 hha hwa;have V1s1:=hI (V1.o.onlyAt Os1.o hba1);clear hC1)|fail)
  refine(DE.o x1 g Ps1.o).mono ?_;rintro e x1' ⟨rfl,rfl⟩;by_cases he:er=0;rotate_left
  ·have hne:(er != 0)=true:=by simpa using he
   have HN:=hI (HE'.o he);clear he HE' HQ;go_wp2_with(first|(refine sN 57 ?_;refine r0a rfl _ rfl zs BZ ?_)|(refine sT 4 ?_;refine a0a rfl _ (.tmp 4) (.tmp 57) rfl h rfl _ zs zs rfl Zs1 20 t0a HZ HZ HZ1 ?_;intro w10 K10 O10 hg10)|fail)
   refine bodyPost_ret (v:=.tuple #[.agg zs.toArray,.int .i64 er]) ?_ rfl (HN.o _ _ rfl (c0a Ls1.o O10.o (by omega)));exact j0a rfl _ _ h _ _ (0,0) _ rfl K10.o underlying39 rfl (by rw[t0a];have:=HZ.o;simp[this]) rfl
  ·subst he;have HEQ:Hid (C1=u0a u1 (.slice none 0 0) { n0a with data:=q1.1 }):=by
    show _=_
    rw[HC1.o,HZS.o];rfl
   have H1C:Hid (∀v∈C1,v.oneCell'=true):=by
    show _
    rw[HEQ.o];exact N1a (n5a V1s1.o) rfl
   go_wp2_with(first|(refine sN 59 ?_;refine e0a rfl _ (.tmp 6) rfl a rfl _ C1 Ks1 20 _ underlying39 rfl t0a HL1 ?_)|(refine sT 4 ?_;refine a0a rfl _ (.tmp 4) (.tmp 59) rfl h rfl _ zs C1 rfl Zs1 20 t0a HZ HL1 H1C ?_;intro w10 K10 O10 hg10)|fail)
   refine bodyPost_ret (v:=.tuple #[.agg C1.toArray,.int .i64 0]) ?_ rfl ?_
   ·exact j0a rfl _ _ h _ _ (0,0) _ rfl K10.o underlying39 rfl (by rw[t0a];have:=HL1.o;simp[this]) rfl
   ·have LF:BW w w10:=c0a Ls1.o O10.o (by omega);have VF:=b1a.onlyAt V1s1.o O10.o hbh1;obtain⟨Ax,kx,hux,hHx⟩:=b1a.holds8 VF DL.o.1 (Nat.le_trans DL.o.2 (by decide));exact HQ.o C1 u1 _ _ (by trivial) rfl ⟨Ax,_,kx,none,0,0,by rw[HEQ.o,hux],hHx,c1a.nil _ _ _ _⟩ (by rw[HEQ.o];rfl) (VF.mono hbw1) LF
 ·subst hcq;subst h9;have D1:Hid (FRd w xs 93 [] (.int .u32 (s9 xs).1) rd0 ((s9 xs).2)):=λw' g h=>v6a w' g w.heap.size xs _ hby h
  have DE:=hI fun (w':World) (g:Nat) h=>m5a w' g w.heap.size xs (s9 xs).2 h
  have hge:O5a 9 xs=Q0a xs (s9 xs).2:=by unfold O5a;rw[if_pos hk];rfl
  have HQ:Hid (∀(cs:List Value) (vx:Value) (e:Ending) (w':World),Q0a xs (s9 xs).2=0->e=.returned (.tuple #[.agg cs.toArray,.int .i64 0])->s1a w' w'.heap.size cs { n0a with n:=(s9 xs).1 }->cs[15]? = some vx->b1a .u8 5 w' w.heap.size vx ({ n0a with n:=(s9 xs).1 }).data->BW w w'->d3a w 9 xs e w'):=by
   intro cs vx e w' h0 h1 h2 h3 h4 h5;have ho:p1b 9 xs={ n0a with n:=(s9 xs).1 }:=by unfold p1b;rw[hge,h0,if_pos rfl];rfl
   unfold d3a;rw[hge,h0,ho];exact⟨cs,vx,h1,h2,h3,h4,h5⟩
  have HE':=hI (HE.o _ hge);obtain⟨er,her⟩:=xX (Q0a xs (s9 xs).2);rw[<-her] at DE HQ HE';obtain⟨q1,hq1⟩:=xX (s9 xs);rw[<-hq1] at D1 DE HQ;clear her hge HE hk hx hq1;go_wp2_with fail;refine(D1.o w4 g P4.o).mono ?_;rintro e v1 ⟨rfl,hP,hO⟩;obtain⟨Pc1,Zc1,Kc1,Lc1⟩:=l2a hP (W0a.of_only hO) Z4 K4 L4 hhg hag hwg;clear hP P4 Z4 K4 L4 hO;go_wp2_with(first|(refine sT 48 ?_;refine f0a rfl _ (.tmp 48) (.tmp 47) rfl a 16 rfl _ zs (.int .u32 q1.1) rfl Kc1 HZ (by decide) (by kernel_rfl) rfl ?_;intro x1 C1 HC1 HL1 Ks1 Os1 hqs1;obtain⟨Ps1,Zs1,Ls1⟩:=C2a (Pc1.o.only Os1.o (Ne.symm hag) hwa) Zc1 Lc1 Os1 hha hwa)|fail)
  refine(DE.o x1 g Ps1.o).mono ?_;rintro e x1' ⟨rfl,rfl⟩;by_cases he:er=0;rotate_left
  ·have hne:(er != 0)=true:=by simpa using he
   have HN:=hI (HE'.o he);clear he HE' HQ;go_wp2_with(first|(refine sN 57 ?_;refine r0a rfl _ rfl zs BZ ?_)|(refine sT 4 ?_;refine a0a rfl _ (.tmp 4) (.tmp 57) rfl h rfl _ zs zs rfl Zs1 20 t0a HZ HZ HZ1 ?_;intro w10 K10 O10 hg10)|fail)
   refine bodyPost_ret (v:=.tuple #[.agg zs.toArray,.int .i64 er]) ?_ rfl (HN.o _ _ rfl (c0a Ls1.o O10.o (by omega)));exact j0a rfl _ _ h _ _ (0,0) _ rfl K10.o underlying39 rfl (by rw[t0a];have:=HZ.o;simp[this]) rfl
  ·subst he;have HEQ:Hid (C1=u0a (.slice none 0 0) (.slice none 0 0) { n0a with n:=q1.1 }):=by
    show _=_
    rw[HC1.o,HZS.o];rfl
   have H1C:Hid (∀v∈C1,v.oneCell'=true):=by
    show _
    rw[HEQ.o];exact N1a rfl rfl
   go_wp2_with(first|(refine sN 59 ?_;refine e0a rfl _ (.tmp 6) rfl a rfl _ C1 Ks1 20 _ underlying39 rfl t0a HL1 ?_)|(refine sT 4 ?_;refine a0a rfl _ (.tmp 4) (.tmp 59) rfl h rfl _ zs C1 rfl Zs1 20 t0a HZ HL1 H1C ?_;intro w10 K10 O10 hg10)|fail)
   refine bodyPost_ret (v:=.tuple #[.agg C1.toArray,.int .i64 0]) ?_ rfl ?_
   ·exact j0a rfl _ _ h _ _ (0,0) _ rfl K10.o underlying39 rfl (by rw[t0a];have:=HL1.o;simp[this]) rfl
   ·have LF:BW w w10:=c0a Ls1.o O10.o (by omega);exact HQ.o C1 (.slice none 0 0) _ _ (by trivial) rfl ⟨none,0,0,none,0,0,by rw[HEQ.o],Holds.nil _ _,c1a.nil _ _ _ _⟩ (by rw[HEQ.o];rfl) (b1a.nil _ _ _ _) LF
theorem m1a{xs pre post:List Int}{v:Int}{s p:Nat}(M:Int)(hM:(256:Int)^s=M)(hx:xs=pre++(le v s++post))(hp:pre.length=p)(h0:0<=v)(h1:v<M):rdN xs s ⟨p,0⟩=(v,⟨p+s,0⟩):=by subst hx hp;exact Y5b pre post v s h0 (by rw[hM];exact h1)
theorem j6b(m:Nat):zeroOf (List.replicate m 0) 0 (m:Int)=true:=by
 have h0:R0a m 0 (m:Int)=0:=by unfold R0a;rw[if_neg (by omega),if_neg (by omega)]
 unfold zeroOf partOf;rw[List.length_replicate,h0,if_pos rfl,show Int.toNat 0=0 from rfl,List.drop_zero,Int.toNat_natCast,List.take_of_length_le (by simp)];simp
theorem F4a{xs pre post:List Int}{m p:Nat}(hx:xs=pre++(List.replicate m 0++post))(hp:pre.length=p):rdZ xs m ⟨p,0⟩=⟨p+m,0⟩:=by
 subst hx hp;have h:=R4a pre (List.replicate m 0) post m (by simp);unfold rdZ;rw[h];show(if (0:Int)=0 then (if zeroOf (List.replicate m 0) 0 (m:Int)=true then _ else _) else _)=_
 rw[if_pos rfl,if_pos (j6b m)]
theorem z6a{xs pre post:List Int}{l:List UInt8}{p:Nat}(hx:xs=pre++(C0a l++post))(hp:pre.length=p)(h:z0a l=0):M1a xs ⟨p,0⟩=(l,⟨p+(C0a l).length,0⟩):=by subst hx hp;have h1:=o0b pre post h;rw[x9b (by rw[h1]),h1]
theorem A6a{xs:List Int}{s:Nat}{most er:Int}{r:Rd}{v:Int}{q:Rd}(h:rdN xs s r=(v,q))(hv:v<=most):a1a xs s most er r=(v,q):=by unfold a1a;rw[h,if_neg (λh2=>by have h3:most<v:=h2.2;omega)]
theorem A1c{xs:List Int}{most:Int}{r:Rd}{v:Int}{q:Rd}(h:rdN xs 2 r=(v,q))(hv:v<=most):p0b xs most r=(v,q):=by unfold p0b;rw[h,if_neg (λh2=>by have h3:most<v:=h2.2;omega)]
theorem Q3b{xs pre post ys:List Int}{p:Nat}(hx:xs=pre++(le ys.length 4++(ys++post)))(hp:pre.length=p)(hl:ys.length<=32768):k4a xs ⟨p,0⟩=(ys,⟨p+4+ys.length,0⟩):=by
 have h1:=m1a (xs:=xs) (pre:=pre) (post:=ys++post) (v:=ys.length) (s:=4) (p:=p) 4294967296 (by decide) hx hp (by omega) (by omega);unfold k4a;rw[A6a h1 (by omega)];show y0a xs ((ys.length:Int)).toNat ⟨p+4,0⟩=_
 rw[Int.toNat_natCast];have h2:=R4a (pre++le ys.length 4) ys post ys.length rfl;rw[List.append_assoc,<-hx,List.length_append,g0a,hp] at h2;exact h2
theorem B9b{xs pre post:List Int}{l:r2a}{p:Nat}(hx:xs=pre++(n1b l++post))(hp:pre.length=p)(k:l.ok)(h0:l.op=0):D5a xs ⟨p,0⟩=(l,⟨p+20,0⟩):=by
 obtain⟨op,x,y,z⟩:=l;obtain⟨_,k1,k2,k3⟩:=k;change op=0 at h0
 subst h0;change 0<=x/\x<=_ at k1
 change 0<=y/\y<=_ at k2
 change 0<=z/\z<=_ at k3
 have hx1:xs=pre++(le x 8++(le y 8++(le z 2++(List.replicate 2 0++post)))):=by rw[hx];simp only[n1b,List.append_assoc]
 have e1:=m1a (xs:=xs) (p:=p) 18446744073709551616 (by decide) hx1 hp k1.1 (by omega);have hx2:xs=(pre++le x 8)++(le y 8++(le z 2++(List.replicate 2 0++post))):=by rw[hx1];simp only[List.append_assoc]
 have e2:=m1a (xs:=xs) (p:=p+8) 18446744073709551616 (by decide) hx2 (by rw[List.length_append,g0a,hp]) k2.1 (by omega);have hx3:xs=(pre++le x 8++le y 8)++(le z 2++(List.replicate 2 0++post)):=by rw[hx1];simp only[List.append_assoc]
 have e3:=m1a (xs:=xs) (p:=p+8+8) 65536 (by decide) hx3 (by rw[List.length_append,List.length_append,g0a,g0a,hp]) k3.1 (by omega);have hx4:xs=(pre++le x 8++le y 8++le z 2)++(List.replicate 2 0++post):=by rw[hx1];simp only[List.append_assoc]
 have e4:=F4a (xs:=xs) (m:=2) (p:=p+8+8+2) hx4 (by rw[List.length_append,List.length_append,List.length_append,g0a,g0a,g0a,hp]);unfold D5a;rw[e1];show((⟨0,x,(rdN xs 8 ⟨p+8,0⟩).1,(rdN xs 2 (rdN xs 8 ⟨p+8,0⟩).2).1⟩:r2a),rdZ xs 2 (rdN xs 2 (rdN xs 8 ⟨p+8,0⟩).2).2)=_
 rw[e2];show((⟨0,x,y,(rdN xs 2 ⟨p+8+8,0⟩).1⟩:r2a),rdZ xs 2 (rdN xs 2 ⟨p+8+8,0⟩).2)=_
 rw[e3];show((⟨0,x,y,z⟩:r2a),rdZ xs 2 ⟨p+8+8+2,0⟩)=_
 rw[e4]
theorem C9b(a b:List r2a):R1a (a++b)=R1a a++R1a b:=by
 induction a with
 | nil=>rfl
 | cons x r ih=>simp only[List.cons_append,R1a,ih,List.append_assoc]
theorem B7b{xs pre post:List Int}{ls:List r2a}{p:Nat}(hx:xs=pre++(R1a ls++post))(hp:pre.length=p)(k:∀l∈ls,l.ok)(h0:shut ls=true):∀j,j<=ls.length->z1a xs ⟨p,0⟩ j=(ls.take j,⟨p+20*j,0⟩):=by
 intro j
 induction j with
 | zero=>intro _;rfl
 | succ j ih=>
  intro hj;have ih:=ih (by omega);have hl:ls[j]? = some ls[j]:=List.getElem?_eq_getElem (by omega);have hsp:ls=ls.take j++(ls[j]::ls.drop (j+1)):=by rw[<-List.drop_eq_getElem_cons (by omega),List.take_append_drop]
  have hx2:xs=(pre++R1a (ls.take j))++(n1b ls[j]++(R1a (ls.drop (j+1))++post)):=by
   rw[hx]
   conv=>lhs;rw[hsp]
   rw[C9b];simp only[R1a,List.append_assoc]
  have hm:ls[j]∈ls:=List.getElem_mem (by omega);have ho:ls[j].op=0:=by have:=List.all_eq_true.1 h0 _ hm;simpa using this
  have e:=B9b (xs:=xs) (p:=p+20*j) hx2 (by rw[List.length_append,u6a,List.length_take,hp];omega) (k _ hm) ho;show((z1a xs ⟨p,0⟩ j).1++[(D5a xs (z1a xs ⟨p,0⟩ j).2).1],(D5a xs (z1a xs ⟨p,0⟩ j).2).2)=_
  rw[ih];show(ls.take j++[(D5a xs ⟨p+20*j,0⟩).1],(D5a xs ⟨p+20*j,0⟩).2)=_
  rw[e,List.take_add_one,hl];show(ls.take j++[ls[j]],(⟨p+20*j+20,0⟩:Rd))=_
  rw[show p+20*j+20=p+20*(j+1) from by omega];rfl
theorem J0b(c:Int)(a:l1a):j1a c a=i0a↔u9b c a=a:=by
 obtain⟨a1,a2,a3,a4,a5,a6,a7,a8,a9,a10,a11,a12,a13,a14,a15,a16,a17,a18,a19,a20,a21,a22,a23⟩:=a;unfold j1a u9b;split
 ·simp only[i0a,l1a.mk.injEq];constructor<;>(intro h;obtain⟨h1,h2,h3,h4,h5,h6,h7,h8,h9,h10,h11,h12,h13,h14,h15,h16,h17,h18,h19,h20,h21,h22,h23⟩:=h;subst_vars;simp)
 ·split
  ·simp only[i0a,l1a.mk.injEq];constructor<;>(intro h;obtain⟨h1,h2,h3,h4,h5,h6,h7,h8,h9,h10,h11,h12,h13,h14,h15,h16,h17,h18,h19,h20,h21,h22,h23⟩:=h;subst_vars;simp)
  ·split
   ·simp only[i0a,l1a.mk.injEq];constructor<;>(intro h;obtain⟨h1,h2,h3,h4,h5,h6,h7,h8,h9,h10,h11,h12,h13,h14,h15,h16,h17,h18,h19,h20,h21,h22,h23⟩:=h;subst_vars;simp)
   ·split
    ·simp only[i0a,l1a.mk.injEq];constructor<;>(intro h;obtain⟨h1,h2,h3,h4,h5,h6,h7,h8,h9,h10,h11,h12,h13,h14,h15,h16,h17,h18,h19,h20,h21,h22,h23⟩:=h;subst_vars;simp)
    ·simp only[i0a,l1a.mk.injEq];constructor<;>(intro h;obtain⟨h1,h2,h3,h4,h5,h6,h7,h8,h9,h10,h11,h12,h13,h14,h15,h16,h17,h18,h19,h20,h21,h22,h23⟩:=h;subst_vars;simp)
theorem J9a(c:Int)(s:O1a):k1a c s=n0a↔l8b c s=s:=by
 obtain⟨a1,a2,a3,a4,a5,a6,a7,a8,a9,a10,a11,a12,a13⟩:=s;unfold k1a l8b;split
 ·simp only[n0a,O1a.mk.injEq];constructor<;>(intro h;obtain⟨h1,h2,h3,h4,h5,h6,h7,h8,h9,h10,h11,h12,h13⟩:=h;subst_vars;simp)
 ·split
  ·simp only[n0a,O1a.mk.injEq];constructor<;>(intro h;obtain⟨h1,h2,h3,h4,h5,h6,h7,h8,h9,h10,h11,h12,h13⟩:=h;subst_vars;simp)
  ·split
   ·simp only[n0a,O1a.mk.injEq];constructor<;>(intro h;obtain⟨h1,h2,h3,h4,h5,h6,h7,h8,h9,h10,h11,h12,h13⟩:=h;subst_vars;simp)
   ·exact eq_comm
theorem z1b{c:Int}{a:l1a}(h:t7a c a=0):c3a c=true/\u9b c a=a/\shut a.locks=true/\a.data.length<=32768/\a.locks.length<=16/\(c=5->z0a a.name.data.toList=0)/\F2b c a=y4a c a:=by
 have h0:=h;unfold t7a at h;by_cases h1:U8a c a=true
 ·rw[if_pos h1] at h;by_cases h2:a.data.length<=32768/\a.locks.length<=16
  ·rw[if_pos h2] at h;unfold U8a at h1;simp only[Bool.and_eq_true,decide_eq_true_eq] at h1;refine⟨h1.1,(J0b c a).1 h1.2.1,h1.2.2,h2.1,h2.2,λh5=>by rw[if_pos h5] at h;exact h,by unfold F2b;rw[if_pos h0]⟩
  ·rw[if_neg h2] at h;exact absurd h (by decide)
 ·rw[if_neg h1] at h;exact absurd h (by decide)
theorem K9a{c:Int}{s:O1a}(h:V6a c s=0):c3a c=true/\l8b c s=s/\s.made<=2/\s.kind<=2/\s.data.length<=32768/\O3b c s=W2a c s:=by
 have h0:=h;unfold V6a at h;by_cases h1:E3a c s=true/\s.made<=2/\s.kind<=2
 ·rw[if_pos h1] at h;by_cases h2:s.data.length<=32768
  ·obtain⟨h3,h4,h5⟩:=h1;unfold E3a at h3;simp only[Bool.and_eq_true,decide_eq_true_eq] at h3;exact⟨h3.1,(J9a c s).1 h3.2,h4,h5,h2,by unfold O3b;rw[if_pos h0]⟩
  ·rw[if_neg h2] at h;exact absurd h (by decide)
 ·rw[if_neg h1] at h;exact absurd h (by decide)
theorem a6a{c:Int}(h:c3a c=true):c=5∨c=6∨c=7∨c=8∨c=9∨c=10:=by unfold c3a at h;simp at h;omega
theorem k6b(b:ByteArray):(⟨b.data.toList.toArray⟩:ByteArray)=b:=by cases b;simp
theorem M5c(c:Int)(a:l1a)(ka:a.ok)(he:t7a c a=0)(post:List Int):fgP c (F2b c a++post)=(a,⟨(F2b c a).length,0⟩):=by
 obtain⟨hk,hw,hs,hd,hl,ht,ho⟩:=z1b he;rw[ho];have b1:=ka.acc;have b2:=ka.shr;have b3:=ka.way;have b4:=ka.opt;have b5:=ka.lev;have b6:=ka.dur;have b7:=ka.file;have b8:=ka.at_;have b9:=ka.n
 rcases a6a hk with rfl | rfl | rfl | rfl | rfl | rfl
 ·have ht:=ht rfl;obtain⟨xs,hxs⟩:=xX (y4a 5 a++post);rw[<-hxs];have hx0:xs=le a.acc 4++(le a.shr 4++(le a.way 4++(le a.opt 4++(le a.lev 1++(le a.dur 1++(List.replicate 2 0++(le a.file 8++(C0a a.name.data.toList++post)))))))):=by rw[hxs];unfold y4a;rw[if_pos rfl];simp only[List.append_assoc]
  have e1:c1 xs=(a.acc,⟨4,0⟩):=m1a (pre:=[]) 4294967296 (by decide) (by rw[hx0];rfl) rfl b1.1 (by omega);have e2:c2 xs=(a.shr,⟨8,0⟩):=by unfold c2;rw[e1];exact m1a (pre:=le a.acc 4) 4294967296 (by decide) hx0 (by simp[g0a]) b2.1 (by omega)
  have e3:c3 xs=(a.way,⟨12,0⟩):=by unfold c3;rw[e2];exact m1a (pre:=le a.acc 4++le a.shr 4) 4294967296 (by decide) (by rw[hx0];simp only[List.append_assoc];rfl) (by simp[g0a]) b3.1 (by omega)
  have e4:c4 xs=(a.opt,⟨16,0⟩):=by unfold c4;rw[e3];exact m1a (pre:=le a.acc 4++le a.shr 4++le a.way 4) 4294967296 (by decide) (by rw[hx0];simp only[List.append_assoc];rfl) (by simp[g0a]) b4.1 (by omega)
  have e5:c5 xs=(a.lev,⟨17,0⟩):=by unfold c5;rw[e4];exact m1a (pre:=le a.acc 4++le a.shr 4++le a.way 4++le a.opt 4) 256 (by decide) (by rw[hx0];simp only[List.append_assoc];rfl) (by simp[g0a]) b5.1 (by omega)
  have e6:c6 xs=(a.dur,⟨18,0⟩):=by unfold c6;rw[e5];exact m1a (pre:=le a.acc 4++le a.shr 4++le a.way 4++le a.opt 4++le a.lev 1) 256 (by decide) (by rw[hx0];simp only[List.append_assoc];rfl) (by simp[g0a]) b6.1 (by omega)
  have e7:c7 xs=⟨20,0⟩:=by unfold c7;rw[e6];exact F4a (pre:=le a.acc 4++le a.shr 4++le a.way 4++le a.opt 4++le a.lev 1++le a.dur 1) (by rw[hx0];simp only[List.append_assoc];rfl) (by simp[g0a])
  have e8:c8 xs=(a.file,⟨28,0⟩):=by unfold c8;rw[e7];exact m1a (pre:=le a.acc 4++le a.shr 4++le a.way 4++le a.opt 4++le a.lev 1++le a.dur 1++List.replicate 2 0) 18446744073709551616 (by decide) (by rw[hx0];simp only[List.append_assoc];rfl) (by simp[g0a]) b7.1 (by omega)
  have e9:c9 xs=(a.name.data.toList,⟨28+(C0a a.name.data.toList).length,0⟩):=by unfold c9;rw[e8];exact z6a (pre:=le a.acc 4++le a.shr 4++le a.way 4++le a.opt 4++le a.lev 1++le a.dur 1++List.replicate 2 0++le a.file 8) (post:=post) (by rw[hx0];simp only[List.append_assoc]) (by simp[g0a]) ht
  have hlen:(y4a 5 a).length=28+(C0a a.name.data.toList).length:=by unfold y4a;rw[if_pos rfl];simp only[List.length_append,g0a,List.length_replicate];omega
  unfold fgP;rw[if_pos rfl,e1,e2,e3,e4,e5,e6,e8,e9,hlen];show(({ i0a with acc:=a.acc,shr:=a.shr,way:=a.way,opt:=a.opt,lev:=a.lev,dur:=a.dur,file:=a.file,name:=⟨a.name.data.toList.toArray⟩ }:l1a),_)=_
  rw[k6b]
  conv=>rhs;rw[<-hw]
  rfl
 ·obtain⟨xs,hxs⟩:=xX (y4a 6 a++post);rw[<-hxs];have e1:o1 xs=(a.file,⟨8,0⟩):=m1a (pre:=[]) (post:=post) 18446744073709551616 (by decide) hxs rfl b7.1 (by omega);unfold fgP;rw[if_neg (by decide),if_neg (by decide),if_neg (by decide),if_neg (by decide),e1]
  conv=>rhs;rw[<-hw]
  have hlen:(y4a 6 (u9b 6 a)).length=8:=by show(le a.file 8).length=8;exact g0a _ _
  rw[hlen];rfl
 ·obtain⟨xs,hxs⟩:=xX (y4a 7 a++post);rw[<-hxs];have e1:o1 xs=(a.file,⟨8,0⟩):=m1a (pre:=[]) (post:=post) 18446744073709551616 (by decide) hxs rfl b7.1 (by omega);unfold fgP;rw[if_neg (by decide),if_neg (by decide),if_neg (by decide),if_neg (by decide),e1]
  conv=>rhs;rw[<-hw]
  have hlen:(y4a 7 (u9b 7 a)).length=8:=by show(le a.file 8).length=8;exact g0a _ _
  rw[hlen];rfl
 ·obtain⟨xs,hxs⟩:=xX (y4a 8 a++post);rw[<-hxs];have hx0:xs=le a.file 8++(le a.at_ 8++(le a.n 4++post)):=by rw[hxs];show(le a.file 8++(le a.at_ 8++le a.n 4))++post=_;simp only[List.append_assoc]
  have e1:o1 xs=(a.file,⟨8,0⟩):=m1a (pre:=[]) 18446744073709551616 (by decide) hx0 rfl b7.1 (by omega);have e2:o2 xs=(a.at_,⟨16,0⟩):=by unfold o2;rw[e1];exact m1a (pre:=le a.file 8) 18446744073709551616 (by decide) hx0 (by simp[g0a]) b8.1 (by omega)
  have e3:o3 xs=(a.n,⟨20,0⟩):=by unfold o3;rw[e2];exact m1a (pre:=le a.file 8++le a.at_ 8) (post:=post) 4294967296 (by decide) (by rw[hx0];simp only[List.append_assoc]) (by simp[g0a]) b9.1 (by omega)
  have hlen:(y4a 8 a).length=20:=by show(le a.file 8++(le a.at_ 8++le a.n 4)).length=20;simp[g0a]
  unfold fgP;rw[if_neg (by decide),if_pos rfl,e1,e2,e3,hlen]
  conv=>rhs;rw[<-hw]
  rfl
 ·obtain⟨xs,hxs⟩:=xX (y4a 9 a++post);rw[<-hxs];have hx0:xs=le a.file 8++(le a.at_ 8++(le a.data.length 4++(a.data++post))):=by rw[hxs];show(le a.file 8++(le a.at_ 8++(le a.data.length 4++a.data)))++post=_;simp only[List.append_assoc]
  have e1:o1 xs=(a.file,⟨8,0⟩):=m1a (pre:=[]) 18446744073709551616 (by decide) hx0 rfl b7.1 (by omega);have e2:o2 xs=(a.at_,⟨16,0⟩):=by unfold o2;rw[e1];exact m1a (pre:=le a.file 8) 18446744073709551616 (by decide) hx0 (by simp[g0a]) b8.1 (by omega)
  have e3:o4 xs=(a.data,⟨20+a.data.length,0⟩):=by unfold o4;rw[e2];exact Q3b (pre:=le a.file 8++le a.at_ 8) (post:=post) (p:=16) (by rw[hx0];simp only[List.append_assoc]) (by simp[g0a]) hd
  have hlen:(y4a 9 a).length=20+a.data.length:=by show(le a.file 8++(le a.at_ 8++(le a.data.length 4++a.data))).length=_;simp only[List.length_append,g0a];omega
  unfold fgP;rw[if_neg (by decide),if_neg (by decide),if_pos rfl,e1,e2,e3,hlen]
  conv=>rhs;rw[<-hw]
  rfl
 ·obtain⟨xs,hxs⟩:=xX (y4a 10 a++post);rw[<-hxs];have hx0:xs=le a.file 8++(le a.locks.length 2++(List.replicate 2 0++(R1a a.locks++post))):=by rw[hxs];show(le a.file 8++(le a.locks.length 2++(List.replicate 2 0++R1a a.locks)))++post=_;simp only[List.append_assoc]
  have e1:o1 xs=(a.file,⟨8,0⟩):=m1a (pre:=[]) 18446744073709551616 (by decide) hx0 rfl b7.1 (by omega);have e2:rdN xs 2 ⟨8,0⟩=((a.locks.length:Int),⟨10,0⟩):=m1a (pre:=le a.file 8) 65536 (by decide) hx0 (by simp[g0a]) (by omega) (by omega);have e3:rdZ xs 2 ⟨10,0⟩=⟨12,0⟩:=F4a (pre:=le a.file 8++le a.locks.length 2) (post:=R1a a.locks++post) (by rw[hx0];simp only[List.append_assoc]) (by simp[g0a]);have e4:z1a xs ⟨12,0⟩ a.locks.length=(a.locks,⟨12+20*a.locks.length,0⟩):=by have h:=B7b (xs:=xs) (pre:=le a.file 8++le a.locks.length 2++List.replicate 2 0) (post:=post) (ls:=a.locks) (p:=12) (by rw[hx0];simp only[List.append_assoc]) (by simp[g0a]) ka.locks hs a.locks.length (Nat.le_refl _);rw[h,List.take_length]
  have e5:o5 xs=(a.locks,⟨12+20*a.locks.length,0⟩):=by
   unfold o5 u7a;rw[e1];show z1a xs (rdZ xs 2 (a1a xs 2 16 3 ⟨8,0⟩).2) (a1a xs 2 16 3 ⟨8,0⟩).1.toNat=_
   rw[A6a e2 (by omega)];show z1a xs (rdZ xs 2 ⟨10,0⟩) ((a.locks.length:Int)).toNat=_
   rw[Int.toNat_natCast,e3,e4]
  have hlen:(y4a 10 a).length=12+20*a.locks.length:=by show(le a.file 8++(le a.locks.length 2++(List.replicate 2 0++R1a a.locks))).length=_;simp only[List.length_append,g0a,List.length_replicate,u6a];omega
  unfold fgP;rw[if_neg (by decide),if_neg (by decide),if_neg (by decide),if_pos rfl,e1,e5,hlen]
  conv=>rhs;rw[<-hw]
  rfl
theorem E4c(c:Int)(a:l1a)(ka:a.ok)(he:t7a c a=0):E5a c (F2b c a)=0/\o1b c (F2b c a)=a:=by
 have h:=M5c c a ka he [];rw[List.append_nil] at h;have h0:E5a c (F2b c a)=0:=by unfold E5a;rw[if_pos (z1b he).1,h];unfold Q0a;rw[if_neg (λh2=>h2.2 rfl)]
 refine⟨h0,?_⟩;unfold o1b;rw[if_pos h0,h]
theorem F4c(c:Int)(a:l1a)(ka:a.ok)(he:t7a c a=0)(more:List Int)(hm:more≠[]):E5a c (F2b c a++more)=5:=by
 have h:=M5c c a ka he more;unfold E5a;rw[if_pos (z1b he).1,h];have hne:(F2b c a).length≠(F2b c a++more).length:=by
  rw[List.length_append];have:more.length≠0:=λh0=>hm (List.eq_nil_of_length_eq_zero h0)
  omega
 unfold Q0a;rw[if_pos ⟨rfl,hne⟩]
theorem N5c(c:Int)(s:O1a)(ks:s.ok)(he:V6a c s=0)(post:List Int):sgP c (O3b c s++post)=(s,⟨(O3b c s).length,0⟩):=by
 obtain⟨hk,hw,hm,hkd,hd,ho⟩:=K9a he;have b1:=ks.lev;have b2:=ks.dur;have b3:=ks.made;have b4:=ks.file;have b5:=ks.siz;have b6:=ks.kind;have b7:=ks.n
 rw[ho];rcases a6a hk with rfl | rfl | rfl | rfl | rfl | rfl
 ·obtain⟨xs,hxs⟩:=xX (W2a 5 s++post);rw[<-hxs];have hx0:xs=le s.lev 1++(le s.dur 1++(le s.made 2++(le s.file 8++(le s.siz 8++(le s.kind 2++(List.replicate 2 0++post)))))):=by rw[hxs];unfold W2a;rw[if_pos rfl];simp only[List.append_assoc]
  have e1:s1 xs=(s.lev,⟨1,0⟩):=m1a (pre:=[]) 256 (by decide) hx0 rfl b1.1 (by omega);have e2:s2 xs=(s.dur,⟨2,0⟩):=by unfold s2;rw[e1];exact m1a (pre:=le s.lev 1) 256 (by decide) hx0 (by simp[g0a]) b2.1 (by omega)
  have e3:s3 xs=(s.made,⟨4,0⟩):=by unfold s3;rw[e2];exact A1c (m1a (pre:=le s.lev 1++le s.dur 1) 65536 (by decide) (by rw[hx0];simp only[List.append_assoc];rfl) (by simp[g0a]) b3.1 (by omega)) hm
  have e4:s4 xs=(s.file,⟨12,0⟩):=by unfold s4;rw[e3];exact m1a (pre:=le s.lev 1++le s.dur 1++le s.made 2) 18446744073709551616 (by decide) (by rw[hx0];simp only[List.append_assoc];rfl) (by simp[g0a]) b4.1 (by omega)
  have e5:s5 xs=(s.siz,⟨20,0⟩):=by unfold s5;rw[e4];exact m1a (pre:=le s.lev 1++le s.dur 1++le s.made 2++le s.file 8) 18446744073709551616 (by decide) (by rw[hx0];simp only[List.append_assoc];rfl) (by simp[g0a]) b5.1 (by omega)
  have e6:s6 xs=(s.kind,⟨22,0⟩):=by unfold s6;rw[e5];exact A1c (m1a (pre:=le s.lev 1++le s.dur 1++le s.made 2++le s.file 8++le s.siz 8) 65536 (by decide) (by rw[hx0];simp only[List.append_assoc];rfl) (by simp[g0a]) b6.1 (by omega)) hkd
  have e7:s7 xs=⟨24,0⟩:=by unfold s7;rw[e6];exact F4a (pre:=le s.lev 1++le s.dur 1++le s.made 2++le s.file 8++le s.siz 8++le s.kind 2) (post:=post) (by rw[hx0];simp only[List.append_assoc]) (by simp[g0a])
  have hlen:(W2a 5 s).length=24:=by unfold W2a;rw[if_pos rfl];simp[g0a]
  unfold sgP;rw[if_pos rfl,e1,e2,e3,e4,e5,e6,e7,hlen]
  conv=>rhs;rw[<-hw]
  rfl
 ·have e:=F4a (xs:=W2a 6 s++post) (pre:=[]) (post:=post) (m:=4) (p:=0) (by show List.replicate 4 0++post=_;simp) rfl;unfold sgP;rw[if_neg (by decide),if_neg (by decide),if_neg (by decide)];show(n0a,rdZ (W2a 6 s++post) 4 ⟨0,0⟩)=_
  rw[e]
  conv=>rhs;rw[<-hw]
  rfl
 ·have e:=F4a (xs:=W2a 7 s++post) (pre:=[]) (post:=post) (m:=4) (p:=0) (by show List.replicate 4 0++post=_;simp) rfl;unfold sgP;rw[if_neg (by decide),if_neg (by decide),if_neg (by decide)];show(n0a,rdZ (W2a 7 s++post) 4 ⟨0,0⟩)=_
  rw[e]
  conv=>rhs;rw[<-hw]
  rfl
 ·have e1:s8 (W2a 8 s++post)=(s.data,⟨0+4+s.data.length,0⟩):=Q3b (pre:=[]) (post:=post) (by show le s.data.length 4++s.data++post=_;simp) rfl hd;have hlen:(W2a 8 s).length=0+4+s.data.length:=by show(le s.data.length 4++s.data).length=_;rw[List.length_append,g0a,Nat.zero_add]
  unfold sgP;rw[if_neg (by decide),if_pos rfl,e1,hlen]
  conv=>rhs;rw[<-hw]
  rfl
 ·have e1:s9 (W2a 9 s++post)=(s.n,⟨4,0⟩):=m1a (pre:=[]) (post:=post) 4294967296 (by decide) (by show le s.n 4++post=_;simp) rfl b7.1 (by omega);have hlen:(W2a 9 s).length=4:=g0a _ _;unfold sgP;rw[if_neg (by decide),if_neg (by decide),if_pos rfl,e1,hlen]
  conv=>rhs;rw[<-hw]
  rfl
 ·have e:=F4a (xs:=W2a 10 s++post) (pre:=[]) (post:=post) (m:=4) (p:=0) (by show List.replicate 4 0++post=_;simp) rfl;unfold sgP;rw[if_neg (by decide),if_neg (by decide),if_neg (by decide)];show(n0a,rdZ (W2a 10 s++post) 4 ⟨0,0⟩)=_
  rw[e]
  conv=>rhs;rw[<-hw]
  rfl
theorem G4c(c:Int)(s:O1a)(ks:s.ok)(he:V6a c s=0):O5a c (O3b c s)=0/\p1b c (O3b c s)=s:=by
 have h:=N5c c s ks he [];rw[List.append_nil] at h;have h0:O5a c (O3b c s)=0:=by unfold O5a;rw[if_pos (K9a he).1,h];unfold Q0a;rw[if_neg (λh2=>h2.2 rfl)]
 refine⟨h0,?_⟩;unfold p1b;rw[if_pos h0,h]
theorem H4c(c:Int)(s:O1a)(ks:s.ok)(he:V6a c s=0)(more:List Int)(hm:more≠[]):O5a c (O3b c s++more)=5:=by have h:=N5c c s ks he more;unfold O5a;rw[if_pos (K9a he).1,h];unfold Q0a;rw[if_pos ⟨rfl,by have:=List.length_pos_iff.2 hm;simp only[List.length_append];omega⟩]
theorem B1c{c:Int}{a:l1a}(k:a.ok):Bytes (S2a c a):=by
 unfold S2a;split
 ·split
  ·exact((F0a _ _).append (N4b _)).append k.gbyte
  ·split
   ·exact k.pbyte.append (e2a _)
   ·split
    ·exact e2a _
    ·exact Bytes.zeros 4
 ·exact Bytes.nil
theorem I4c{c:Int}{a:l1a}(k:a.ok):(S2a c a).length<=70000:=by
 unfold S2a;split
 ·rename_i he;split
  ·rename_i h0;have hd:a.dial.length<=16:=by
    unfold h1a at he;by_cases hk:S0a c=true/\i1a c a=i0a
    ·rw[if_pos hk,if_pos h0] at he;by_cases hd:a.dial.length<=16
     ·exact hd
     ·rw[if_neg hd] at he;exact absurd he (by decide)
    ·rw[if_neg hk] at he;exact absurd he (by decide)
   unfold B3a;rw[List.length_append,List.length_append,g0a,D4a,k.glen];omega
  ·split
   ·have:=v3a a.user.data.toList;rw[List.length_append,k.plen];omega
   ·split
    ·have:=v3a a.share.data.toList;omega
    ·simp
 ·simp
theorem C1c{c:Int}{a:O1a}(k:a.ok):Bytes (V2a c a):=by
 unfold V2a;split
 ·split
  ·exact(((F0a _ _).append (Bytes.zeros 2)).append (F0a _ _)).append k.cbyte
  ·exact Bytes.zeros 4
 ·exact Bytes.nil
theorem J4c{c:Int}{a:O1a}(k:a.ok):(V2a c a).length<=70000:=by
 unfold V2a;split
 ·split
  ·simp only[List.length_append,g0a,List.length_replicate,k.clen];omega
  ·simp
 ·simp
theorem D1c(c:Int){xs:List Int}(hx:Bytes xs):(N2a c xs).ok:=by
 by_cases h:A2a c xs=0
 ·exact(p1c c hx h).2.2
 ·unfold N2a;rw[if_neg h];exact h0a
theorem E1c(c:Int){xs:List Int}(hx:Bytes xs):(Y3a c xs).ok:=by
 by_cases h:D3a c xs=0
 ·exact(q1c c hx h).2.2
 ·unfold Y3a;rw[if_neg h];exact I0a
theorem R3b(c:Int)(xs:List Int):(Y3a c xs).data=[]/\(Y3a c xs).ents=[]:=by
 unfold Y3a;split
 ·unfold C9a;split<;>exact⟨rfl,rfl⟩
 ·exact⟨rfl,rfl⟩
theorem K4c(w:World)(B:Nat)(c:Int)(xs:List Int):s1a w B (u0a (.slice none 0 0) (.slice none 0 0) (Y3a c xs)) (Y3a c xs):=by
 obtain⟨h1,h2⟩:=R3b c xs;refine⟨none,0,0,none,0,0,rfl,?_,?_⟩
 ·rw[h1];exact Holds.nil _ _
 ·rw[h2];exact c1a.nil _ _ _ _
theorem D9b(c:Int)(xs:List Int):(N2a c xs).data=[]/\(N2a c xs).locks=[]:=by
 unfold N2a;split
 ·unfold T6a;split
  ·exact⟨rfl,rfl⟩
  ·split
   ·exact⟨rfl,rfl⟩
   ·split<;>exact⟨rfl,rfl⟩
 ·exact⟨rfl,rfl⟩
theorem C7b(rs:List Int):(rs.flatMap enc).length<=4*rs.length:=by
 induction rs with
 | nil=>exact Nat.le_refl _
 | cons r rs ih=>rw[List.flatMap_cons,List.length_append,List.length_cons];have:=C5c (r:=r);omega
theorem o3c(rs:List Int):rs.length<=M2a rs:=by
 induction rs with
 | nil=>exact Nat.le_refl _
 | cons r rs ih=>rw[M2a,List.length_cons];split<;>omega
theorem E9b{xs:List Int}(hx:Bytes xs):(e4a xs).length<=4*xs.length:=by
 unfold e4a;cases hg:S8b xs with
 | none=>exact Nat.zero_le _
 | some rs=>
  obtain⟨h1,h2⟩:=A5b hx hg;have h3:=w5a rs;rw[h2] at h3;have h4:=o3c rs;have h5:=C7b rs;show(rs.flatMap enc).length<=_
  omega
theorem F9b{xs:List Int}(hx:Bytes xs)(a:Int):(Y1a xs a).length<=262140:=by
 unfold Y1a;split
 ·have h1:=D5b hx a 512;have h2:=E9b (A7a hx a 512);omega
 ·exact Nat.zero_le _
theorem F1c(l:List UInt8):(⟨l.toArray⟩:ByteArray).size=l.length:=by simp[ByteArray.size]
theorem p3c{c:Int}{a:l1a}(k:a.ok):Bytes (F2b c a):=by
 unfold F2b;split
 ·unfold y4a;split
  ·exact(F0a _ _).append ((F0a _ _).append ((F0a _ _).append ((F0a _ _).append ((F0a _ _).append ((F0a _ _).append ((Bytes.zeros 2).append ((F0a _ _).append (e2a _))))))))
  ·split
   ·exact(F0a _ _).append ((F0a _ _).append (F0a _ _))
   ·split
    ·exact(F0a _ _).append ((F0a _ _).append ((F0a _ _).append k.data))
    ·split
     ·exact(F0a _ _).append ((F0a _ _).append ((Bytes.zeros 2).append (X7a _)))
     ·exact F0a _ _
 ·exact Bytes.nil
theorem O5c{c:Int}{a:l1a}:(F2b c a).length<=70000:=by
 unfold F2b;split
 ·rename_i he;obtain⟨_,_,_,hd,hl,_,_⟩:=z1b he;unfold y4a;split
  ·have:=v3a a.name.data.toList;simp only[List.length_append,g0a,List.length_replicate];omega
  ·split
   ·simp only[List.length_append,g0a];omega
   ·split
    ·simp only[List.length_append,g0a];omega
    ·split
     ·simp only[List.length_append,g0a,List.length_replicate,u6a];omega
     ·simp only[g0a];omega
 ·simp
theorem q3c{c:Int}{a:O1a}(k:a.ok):Bytes (O3b c a):=by
 unfold O3b;split
 ·unfold W2a;split
  ·exact(F0a _ _).append ((F0a _ _).append ((F0a _ _).append ((F0a _ _).append ((F0a _ _).append ((F0a _ _).append (Bytes.zeros 2))))))
  ·split
   ·exact(F0a _ _).append k.data
   ·split
    ·exact F0a _ _
    ·exact Bytes.zeros 4
 ·exact Bytes.nil
theorem P5c{c:Int}{a:O1a}:(O3b c a).length<=70000:=by
 unfold O3b;split
 ·rename_i he;obtain⟨_,_,_,_,hd,_⟩:=K9a he;unfold W2a;split
  ·simp only[List.length_append,g0a,List.length_replicate];omega
  ·split
   ·simp only[List.length_append,g0a];omega
   ·split
    ·simp only[g0a];omega
    ·simp
 ·simp
theorem i2a{xs:List Int}{s:Nat}{r:Rd}(hx:Bytes xs)(h:(rdN xs s r).2.e=0):r.e=0/\xs.take (rdN xs s r).2.p=xs.take r.p++le (rdN xs s r).1 s:=by obtain⟨h1,h2,_,h4⟩:=W7a hx h;refine⟨h1,?_⟩;rw[show(rdN xs s r).2.p=r.p+s from by rw[h2]];exact h4
theorem B6a{xs:List Int}{m:Nat}{r:Rd}(h:(rdZ xs m r).e=0):r.e=0/\xs.take (rdZ xs m r).p=xs.take r.p++List.replicate m 0:=by obtain⟨h1,h2,_,h4⟩:=G9a h;refine⟨h1,?_⟩;rw[show(rdZ xs m r).p=r.p+m from by rw[h2]];exact h4
theorem G1c{xs:List Int}{most:Int}{r:Rd}(hx:Bytes xs)(h:(p0b xs most r).2.e=0):r.e=0/\(p0b xs most r).1<=most/\xs.take (p0b xs most r).2.p=xs.take r.p++le (p0b xs most r).1 2:=by obtain⟨h1,h2,h3⟩:=x7b h;rw[h3];exact⟨(i2a hx h1).1,h2,(i2a hx h1).2⟩
theorem C6a{xs:List Int}{s:Nat}{most er:Int}{r:Rd}(hx:Bytes xs)(hne:er≠0)(h:(a1a xs s most er r).2.e=0):r.e=0/\(a1a xs s most er r).1<=most/\xs.take (a1a xs s most er r).2.p=xs.take r.p++le (a1a xs s most er r).1 s:=by obtain⟨h1,h2,h3⟩:=s1c hne h;rw[h3];exact⟨(i2a hx h1).1,h2,(i2a hx h1).2⟩
theorem Z7a{xs:List Int}{r:Rd}(hx:Bytes xs)(h:(M1a xs r).2.e=0):r.e=0/\z0a (M1a xs r).1=0/\xs.take (M1a xs r).2.p=xs.take r.p++C0a (M1a xs r).1:=by have h1:=P3b h;rw[<-h1] at h⊢;obtain⟨t1,t2,_,t4⟩:=U6a hx h;exact⟨t1,t2,t4⟩
theorem l6b{xs:List Int}{r:Rd}(hx:Bytes xs)(h:(k4a xs r).2.e=0):r.e=0/\xs.take (k4a xs r).2.p=xs.take r.p++(le ((k4a xs r).1.length:Int) 4++(k4a xs r).1):=by obtain⟨h1,h2,_,h4,h5⟩:=S4a (show(y0a xs (a1a xs 4 32768 3 r).1.toNat (a1a xs 4 32768 3 r).2).2.e=0 from h);obtain⟨m1,m2,m3⟩:=C6a hx (by decide) h1;have m0:=o3a hx 4 32768 3 r ⟨by decide,by decide⟩ (by decide);refine⟨m1,?_⟩;rw[show(k4a xs r).2.p=(a1a xs 4 32768 3 r).2.p+(a1a xs 4 32768 3 r).1.toNat from by unfold k4a;rw[h2],h4,m3];rw[show((k4a xs r).1.length:Int)=(a1a xs 4 32768 3 r).1 from by unfold k4a;rw[h5];omega,List.append_assoc];rfl
theorem H1c{xs:List Int}{r:Rd}(hx:Bytes xs)(h:(D5a xs r).2.e=0):r.e=0/\xs.take (D5a xs r).2.p=xs.take r.p++n1b (D5a xs r).1:=by
 have h':(rdZ xs 2 (rdN xs 2 (rdN xs 8 (rdN xs 8 r).2).2).2).e=0:=h;obtain⟨z1,z2⟩:=B6a h';obtain⟨a1,a2⟩:=i2a hx z1;obtain⟨b1,b2⟩:=i2a hx a1;obtain⟨d1,d2⟩:=i2a hx b1;refine⟨d1,?_⟩;show xs.take (rdZ xs 2 (rdN xs 2 (rdN xs 8 (rdN xs 8 r).2).2).2).p=_
 rw[z2,a2,b2,d2];show _=xs.take r.p++(le (rdN xs 8 r).1 8++(le (rdN xs 8 (rdN xs 8 r).2).1 8++(le (rdN xs 2 (rdN xs 8 (rdN xs 8 r).2).2).1 2++List.replicate 2 0)))
 simp only[List.append_assoc]
theorem S3b{xs:List Int}{r:Rd}(hx:Bytes xs):∀k,(z1a xs r k).2.e=0->r.e=0/\xs.take (z1a xs r k).2.p=xs.take r.p++R1a (z1a xs r k).1
 | 0,h=>⟨h,by show xs.take r.p=xs.take r.p++[];rw[List.append_nil]⟩
 | k+1,h=>by
  have h':(D5a xs (z1a xs r k).2).2.e=0:=h;obtain⟨l1,l2⟩:=H1c hx h';obtain⟨i1,i2⟩:=S3b hx k l1;refine⟨i1,?_⟩;show xs.take (D5a xs (z1a xs r k).2).2.p=xs.take r.p++R1a ((z1a xs r k).1++[(D5a xs (z1a xs r k).2).1])
  rw[l2,i2,H2b,List.append_assoc]
theorem r3c{xs:List Int}{r:Rd}(hx:Bytes xs)(h:(u7a xs r).2.e=0):r.e=0/\(u7a xs r).1.length<=16/\xs.take (u7a xs r).2.p=xs.take r.p++(le ((u7a xs r).1.length:Int) 2++(List.replicate 2 0++R1a (u7a xs r).1)):=by
 obtain⟨l1,l2⟩:=S3b hx _ (show(z1a xs (rdZ xs 2 (a1a xs 2 16 3 r).2) (a1a xs 2 16 3 r).1.toNat).2.e=0 from h);obtain⟨z1,z2⟩:=B6a l1;obtain⟨m1,m2,m3⟩:=C6a hx (by decide) z1;have m0:=o3a hx 2 16 3 r ⟨by decide,by decide⟩ (by decide);have hl:((u7a xs r).1.length:Int)=(a1a xs 2 16 3 r).1:=by unfold u7a;rw[G2b];omega
 refine⟨m1,by omega,?_⟩;rw[hl];unfold u7a;rw[l2,z2,m3];simp only[List.append_assoc]
theorem Q5c{xs:List Int}{r:Rd}(hx:Bytes xs):(∀l∈(u7a xs r).1,l.ok)/\shut (u7a xs r).1=true:=⟨w9b hx _ _,e6b _ _⟩
theorem b4{xs:List Int}(hx:Bytes xs)(r:Rd):0<=(rdN xs 4 r).1/\(rdN xs 4 r).1<=4294967295:=by have:=e5a hx 4 r 4294967296 (by decide) (by decide);exact⟨this.1,by omega⟩
theorem b1'{xs:List Int}(hx:Bytes xs)(r:Rd):0<=(rdN xs 1 r).1/\(rdN xs 1 r).1<=255:=by have:=e5a hx 1 r 256 (by decide) (by decide);exact⟨this.1,by omega⟩
theorem b8{xs:List Int}(hx:Bytes xs)(r:Rd):0<=(rdN xs 8 r).1/\(rdN xs 8 r).1<=18446744073709551615:=by have:=e5a hx 8 r 18446744073709551616 (by decide) (by decide);exact⟨this.1,by omega⟩
theorem whole{xs ys:List Int}{r:Rd}(h:xs.take r.p=ys)(h2:r.p=xs.length):ys=xs:=by rw[<-h,h2,List.take_of_length_le (Nat.le_refl _)]
theorem L4c(c:Int){xs:List Int}(hx:Bytes xs)(h:E5a c xs=0):t7a c (o1b c xs)=0/\F2b c (o1b c xs)=xs/\(o1b c xs).ok:=by
 have e0:o1b c xs=(fgP c xs).1:=by unfold o1b;rw[if_pos h]
 unfold E5a at h;by_cases hk:c3a c=true;rotate_left
 ·rw[if_neg hk] at h;exact absurd h (by decide)
 rw[if_pos hk] at h;obtain⟨h1,h2⟩:=E4a h;rw[e0];have key:∀a:l1a,u9b c a=a->shut a.locks=true->a.data.length<=32768->a.locks.length<=16->(c=5->z0a a.name.data.toList=0)->a.ok->y4a c a=xs->t7a c a=0/\F2b c a=xs/\a.ok:=by
  intro a w1 w2 w3 w4 w5 w6 w7;have e:t7a c a=0:=by
   unfold t7a U8a;rw[hk,w2,(J0b c a).2 w1];simp only[decide_true,Bool.and_self,if_true];rw[if_pos ⟨w3,w4⟩];split
   ·rename_i h5;exact w5 h5
   ·rfl
  exact⟨e,by unfold F2b;rw[if_pos e];exact w7,w6⟩
 have zd:=h0a;have hb:=I9a hx (o2 xs).2;have ho:=Q5c (r:=(o1 xs).2) hx;unfold fgP at h1 h2⊢;rcases a6a hk with k5 | k6 | k7 | k8 | k9 | k10
 ·subst k5;simp only[if_true] at h1 h2⊢;obtain⟨t1,t2,t3⟩:=Z7a hx h1;obtain⟨u8,v8⟩:=i2a hx t1;obtain⟨u7,v7⟩:=B6a u8;obtain⟨u6,v6⟩:=i2a hx u7;obtain⟨u5,v5⟩:=i2a hx u6;obtain⟨u4,v4⟩:=i2a hx u5;obtain⟨u3,v3⟩:=i2a hx u4;obtain⟨u2,v2⟩:=i2a hx u3;obtain⟨u1,v1⟩:=i2a hx u2;refine key _ rfl rfl (Nat.zero_le _) (Nat.zero_le _) (λ_=>t2) ⟨zd.dial,zd.glen,zd.gbyte,zd.plen,zd.pbyte,b4 hx _,b4 hx _,b4 hx _,b4 hx _,b1' hx _,b1' hx _,b8 hx _,zd.at_,zd.n,zd.data,zd.locks,zd.most,zd.cls,zd.siz⟩ ?_;refine whole (r:=(c9 xs).2) ?_ h2;show xs.take (M1a xs (c8 xs).2).2.p=le (c1 xs).1 4++(le (c2 xs).1 4++(le (c3 xs).1 4++(le (c4 xs).1 4++(le (c5 xs).1 1++(le (c6 xs).1 1++(List.replicate 2 0++(le (c8 xs).1 8++C0a (M1a xs (c8 xs).2).1)))))))
  rw[t3];show xs.take (rdN xs 8 (c7 xs)).2.p++_=_
  rw[v8];show xs.take (rdZ xs 2 (c6 xs).2).p++_++_=_
  rw[v7];show xs.take (rdN xs 1 (c5 xs).2).2.p++_++_++_=_
  rw[v6];show xs.take (rdN xs 1 (c4 xs).2).2.p++_++_++_++_=_
  rw[v5];show xs.take (rdN xs 4 (c3 xs).2).2.p++_++_++_++_++_=_
  rw[v4];show xs.take (rdN xs 4 (c2 xs).2).2.p++_++_++_++_++_++_=_
  rw[v3];show xs.take (rdN xs 4 (c1 xs).2).2.p++_++_++_++_++_++_++_=_
  rw[v2];show xs.take (rdN xs 4 rd0).2.p++_++_++_++_++_++_++_++_=_
  rw[v1,show xs.take rd0.p=[] from rfl,List.nil_append];simp only[List.append_assoc];rfl
 ·subst k6;simp only[show ¬((6:Int)=5) by decide,show ¬((6:Int)=8) by decide,show ¬((6:Int)=9) by decide,show ¬((6:Int)=10) by decide,if_false] at h1 h2⊢;obtain⟨u1,v1⟩:=i2a hx h1;refine key _ rfl rfl (Nat.zero_le _) (Nat.zero_le _) (λh=>absurd h (by decide)) ⟨zd.dial,zd.glen,zd.gbyte,zd.plen,zd.pbyte,zd.acc,zd.shr,zd.way,zd.opt,zd.lev,zd.dur,b8 hx _,zd.at_,zd.n,zd.data,zd.locks,zd.most,zd.cls,zd.siz⟩ ?_;exact whole (r:=(o1 xs).2) v1 h2
 ·subst k7;simp only[show ¬((7:Int)=5) by decide,show ¬((7:Int)=8) by decide,show ¬((7:Int)=9) by decide,show ¬((7:Int)=10) by decide,if_false] at h1 h2⊢;obtain⟨u1,v1⟩:=i2a hx h1;refine key _ rfl rfl (Nat.zero_le _) (Nat.zero_le _) (λh=>absurd h (by decide)) ⟨zd.dial,zd.glen,zd.gbyte,zd.plen,zd.pbyte,zd.acc,zd.shr,zd.way,zd.opt,zd.lev,zd.dur,b8 hx _,zd.at_,zd.n,zd.data,zd.locks,zd.most,zd.cls,zd.siz⟩ ?_;exact whole (r:=(o1 xs).2) v1 h2
 ·subst k8;simp only[show ¬((8:Int)=5) by decide,if_true,if_false] at h1 h2⊢;obtain⟨u3,v3⟩:=i2a hx h1;obtain⟨u2,v2⟩:=i2a hx u3;obtain⟨u1,v1⟩:=i2a hx u2;refine key _ rfl rfl (Nat.zero_le _) (Nat.zero_le _) (λh=>absurd h (by decide)) ⟨zd.dial,zd.glen,zd.gbyte,zd.plen,zd.pbyte,zd.acc,zd.shr,zd.way,zd.opt,zd.lev,zd.dur,b8 hx _,b8 hx _,b4 hx _,zd.data,zd.locks,zd.most,zd.cls,zd.siz⟩ ?_;refine whole (r:=(o3 xs).2) ?_ h2;show xs.take (rdN xs 4 (o2 xs).2).2.p=le (o1 xs).1 8++(le (o2 xs).1 8++le (o3 xs).1 4)
  rw[v3];show xs.take (rdN xs 8 (o1 xs).2).2.p++_=_
  rw[v2];show xs.take (rdN xs 8 rd0).2.p++_++_=_
  rw[v1,show xs.take rd0.p=[] from rfl,List.nil_append];simp only[List.append_assoc];rfl
 ·subst k9;simp only[show ¬((9:Int)=5) by decide,show ¬((9:Int)=8) by decide,if_true,if_false] at h1 h2⊢;obtain⟨u3,v3⟩:=l6b hx h1;obtain⟨u2,v2⟩:=i2a hx u3;obtain⟨u1,v1⟩:=i2a hx u2;refine key _ rfl rfl hb.2 (Nat.zero_le _) (λh=>absurd h (by decide)) ⟨zd.dial,zd.glen,zd.gbyte,zd.plen,zd.pbyte,zd.acc,zd.shr,zd.way,zd.opt,zd.lev,zd.dur,b8 hx _,b8 hx _,zd.n,hb.1,zd.locks,zd.most,zd.cls,zd.siz⟩ ?_;refine whole (r:=(o4 xs).2) ?_ h2;show xs.take (k4a xs (o2 xs).2).2.p=le (o1 xs).1 8++(le (o2 xs).1 8++(le ((k4a xs (o2 xs).2).1.length:Int) 4++(k4a xs (o2 xs).2).1))
  rw[v3];show xs.take (rdN xs 8 (o1 xs).2).2.p++_=_
  rw[v2];show xs.take (rdN xs 8 rd0).2.p++_++_=_
  rw[v1,show xs.take rd0.p=[] from rfl,List.nil_append];simp only[List.append_assoc];rfl
 ·subst k10;simp only[show ¬((10:Int)=5) by decide,show ¬((10:Int)=8) by decide,show ¬((10:Int)=9) by decide,if_true,if_false] at h1 h2⊢;obtain⟨u3,v0,v3⟩:=r3c hx h1;obtain⟨u1,v1⟩:=i2a hx u3;refine key _ rfl ho.2 (Nat.zero_le _) v0 (λh=>absurd h (by decide)) ⟨zd.dial,zd.glen,zd.gbyte,zd.plen,zd.pbyte,zd.acc,zd.shr,zd.way,zd.opt,zd.lev,zd.dur,b8 hx _,zd.at_,zd.n,zd.data,ho.1,zd.most,zd.cls,zd.siz⟩ ?_;refine whole (r:=(o5 xs).2) ?_ h2;show xs.take (u7a xs (o1 xs).2).2.p=le (o1 xs).1 8++(le ((u7a xs (o1 xs).2).1.length:Int) 2++(List.replicate 2 0++R1a (u7a xs (o1 xs).2).1))
  rw[v3];show xs.take (rdN xs 8 rd0).2.p++_=_
  rw[v1,show xs.take rd0.p=[] from rfl,List.nil_append];rfl
theorem I1c(c:Int){xs:List Int}(hx:Bytes xs)(h:O5a c xs=0):V6a c (p1b c xs)=0/\O3b c (p1b c xs)=xs/\(p1b c xs).ok:=by
 have e0:p1b c xs=(sgP c xs).1:=by unfold p1b;rw[if_pos h]
 unfold O5a at h;by_cases hk:c3a c=true;rotate_left
 ·rw[if_neg hk] at h;exact absurd h (by decide)
 rw[if_pos hk] at h;have hend:=h;obtain⟨h1,h2⟩:=E4a h;rw[e0];have key:∀a:O1a,l8b c a=a->a.made<=2->a.kind<=2->a.data.length<=32768->a.ok->W2a c a=xs->V6a c a=0/\O3b c a=xs/\a.ok:=by
  intro a w1 w2 w3 w4 w6 w7;have e:V6a c a=0:=by unfold V6a E3a;rw[hk,(J9a c a).2 w1];rw[if_pos ⟨by simp,w2,w3⟩,if_pos w4]
  exact⟨e,by unfold O3b;rw[if_pos e];exact w7,w6⟩
 have zd:=I0a;have hb:=I9a hx rd0;unfold sgP at h1 h2 hend⊢;rcases a6a hk with k5 | k6 | k7 | k8 | k9 | k10
 ·subst k5;simp only[if_true] at h1 h2 hend⊢;obtain⟨m1,m2⟩:=n8b hend;obtain⟨u7,v7⟩:=B6a h1;obtain⟨u6,w6,v6⟩:=G1c hx u7;obtain⟨u5,v5⟩:=i2a hx u6;obtain⟨u4,v4⟩:=i2a hx u5;obtain⟨u3,w3,v3⟩:=G1c hx u4;obtain⟨u2,v2⟩:=i2a hx u3;obtain⟨u1,v1⟩:=i2a hx u2;have q3:=w7b hx 2 (s2 xs).2;have q6:=w7b hx 2 (s5 xs).2;refine key _ rfl m1 m2 (Nat.zero_le _) ⟨zd.dia,b8 hx _,zd.clen,zd.cbyte,b1' hx _,b1' hx _,q3,b8 hx _,⟨q6.1,by show(s6 xs).1<=255;omega⟩,zd.data,zd.n,zd.ents⟩ ?_;refine whole (r:=s7 xs) ?_ h2;show xs.take (rdZ xs 2 (s6 xs).2).p=le (s1 xs).1 1++(le (s2 xs).1 1++(le (s3 xs).1 2++(le (s4 xs).1 8++(le (s5 xs).1 8++(le (s6 xs).1 2++List.replicate 2 0)))))
  rw[v7];show xs.take (p0b xs 2 (s5 xs).2).2.p++_=_
  rw[v6];show xs.take (rdN xs 8 (s4 xs).2).2.p++_++_=_
  rw[v5];show xs.take (rdN xs 8 (s3 xs).2).2.p++_++_++_=_
  rw[v4];show xs.take (p0b xs 2 (s2 xs).2).2.p++_++_++_++_=_
  rw[v3];show xs.take (rdN xs 1 (s1 xs).2).2.p++_++_++_++_++_=_
  rw[v2];show xs.take (rdN xs 1 rd0).2.p++_++_++_++_++_++_=_
  rw[v1,show xs.take rd0.p=[] from rfl,List.nil_append];simp only[List.append_assoc];rfl
 ·subst k6;simp only[show ¬((6:Int)=5) by decide,show ¬((6:Int)=8) by decide,show ¬((6:Int)=9) by decide,if_false] at h1 h2⊢;obtain⟨u1,v1⟩:=B6a h1;exact key _ rfl (by decide) (by decide) (Nat.zero_le _) zd (whole (r:=rdZ xs 4 rd0) v1 h2)
 ·subst k7;simp only[show ¬((7:Int)=5) by decide,show ¬((7:Int)=8) by decide,show ¬((7:Int)=9) by decide,if_false] at h1 h2⊢;obtain⟨u1,v1⟩:=B6a h1;exact key _ rfl (by decide) (by decide) (Nat.zero_le _) zd (whole (r:=rdZ xs 4 rd0) v1 h2)
 ·subst k8;simp only[show ¬((8:Int)=5) by decide,if_true,if_false] at h1 h2⊢;obtain⟨u1,v1⟩:=l6b hx h1;refine key _ rfl (show(0:Int)<=2 by decide) (show(0:Int)<=2 by decide) hb.2 ⟨zd.dia,zd.siz,zd.clen,zd.cbyte,zd.lev,zd.dur,zd.made,zd.file,zd.kind,hb.1,zd.n,zd.ents⟩ ?_;exact whole (r:=(s8 xs).2) v1 h2
 ·subst k9;simp only[show ¬((9:Int)=5) by decide,show ¬((9:Int)=8) by decide,if_true,if_false] at h1 h2⊢;obtain⟨u1,v1⟩:=i2a hx h1;refine key _ rfl (show(0:Int)<=2 by decide) (show(0:Int)<=2 by decide) (Nat.zero_le _) ⟨zd.dia,zd.siz,zd.clen,zd.cbyte,zd.lev,zd.dur,zd.made,zd.file,zd.kind,zd.data,b4 hx _,zd.ents⟩ ?_;exact whole (r:=(s9 xs).2) v1 h2
 ·subst k10;simp only[show ¬((10:Int)=5) by decide,show ¬((10:Int)=8) by decide,show ¬((10:Int)=9) by decide,if_false] at h1 h2⊢;obtain⟨u1,v1⟩:=B6a h1;exact key _ rfl (by decide) (by decide) (Nat.zero_le _) zd (whole (r:=rdZ xs 4 rd0) v1 h2)
theorem M4c(c:Int){xs:List Int}(hx:Bytes xs):(o1b c xs).ok:=by
 by_cases h:E5a c xs=0
 ·exact(L4c c hx h).2.2
 ·unfold o1b;rw[if_neg h];exact h0a
theorem N4c(c:Int){xs:List Int}(hx:Bytes xs):(p1b c xs).ok:=by
 by_cases h:O5a c xs=0
 ·exact(I1c c hx h).2.2
 ·unfold p1b;rw[if_neg h];exact I0a
theorem G9b(c:Int){xs:List Int}(hx:Bytes xs):(p1b c xs).data.length<=32768/\(p1b c xs).ents.length<=0:=by
 by_cases h:O5a c xs=0
 ·obtain⟨h1,_,_⟩:=I1c c hx h;obtain⟨_,_,_,_,hd,_⟩:=K9a h1;refine⟨hd,?_⟩;unfold p1b;rw[if_pos h];unfold sgP;repeat' split
  all_goals exact Nat.zero_le _
 ·unfold p1b;rw[if_neg h];exact⟨Nat.zero_le _,Nat.zero_le _⟩
def Q6c(k:Nat)(r r':Rd):Prop:=(r'=r/\r.p<=k/\r.e=0)∨r'.e=4
theorem Q6c.start(k:Nat):Q6c k rd0 rd0:=.inl ⟨rfl,Nat.zero_le _,rfl⟩
def J8a(c:Int):Bool:=decide (c=12)||(decide (c=14)||(decide (16<=c)&&decide (c<=18)))
def i6a(c:Int):Bool:=decide (c=14)||(decide (16<=c)&&decide (c<=18))
def e1a(b:Bool):Int:=if b=true then 1 else 0
def l7a(e:y1a):List Int:=le e.kind 2++(List.replicate 2 0++(le e.size 8++C0a e.name.data.toList))
def X0a:List y1a->List Int
 | []=>[]
 | e::r=>l7a e++X0a r
def w1a:List y1a->Int
 | []=>0
 | e::r=>if z0a e.name.data.toList=0 then w1a r else z0a e.name.data.toList
def G3a(e:y1a):Bool:=decide (e.kind<=2)&&(decide (0<=e.size)&&decide (e.size<=1048576))
def L9a(a:l1a):Bool:=decide (1<=a.cls)&&decide (a.cls<=3)
def F2a(c:Int)(a:l1a):l1a:=
 if c=14 then { a with file:=0,most:=0,pat:=.empty,aft:=.empty }
 else if c=16 then { a with file:=0 }
 else if c=17 then (if a.cls=1 then { a with siz:=0,file:=0,cls:=0 } else if a.cls=2 then { a with on:=false,file:=0,cls:=0 } else { a with on:=false,name:=.empty,file:=0,cls:=0 })
 else if c=18 then { a with file:=0,lev:=0 }
 else a
def o3b(c:Int)(a:l1a):l1a:=
 if c=14 then { i0a with file:=a.file,most:=a.most,pat:=a.pat,aft:=a.aft }
 else if c=16 then { i0a with file:=a.file }
 else if c=17 then (if a.cls=1 then { i0a with file:=a.file,cls:=a.cls,siz:=a.siz } else if a.cls=2 then { i0a with file:=a.file,cls:=a.cls,on:=a.on } else { i0a with file:=a.file,cls:=a.cls,on:=a.on,name:=a.name })
 else if c=18 then { i0a with file:=a.file,lev:=a.lev }
 else i0a
def s4a(c:Int)(a:l1a):Bool:=J8a c&&((!decide (c=17)||L9a a)&&decide (F2a c a=i0a))
def z4a(c:Int)(a:l1a):Int:=if s4a c a=true then (if c=14 then (if z0a a.pat.data.toList=0 then z0a a.aft.data.toList else z0a a.pat.data.toList) else if c=17/\a.cls=3 then z0a a.name.data.toList else 0) else 2
def H3a(c:Int)(a:l1a):List Int:=
 if c=14 then le a.file 8++(le a.most 2++(List.replicate 2 0++(C0a a.pat.data.toList++C0a a.aft.data.toList)))
 else if c=16 then le a.file 8
 else if c=17 then (if a.cls=1 then le a.file 8++(le a.cls 2++le a.siz 8) else if a.cls=2 then le a.file 8++(le a.cls 2++le (e1a a.on) 2) else le a.file 8++(le a.cls 2++(le (e1a a.on) 2++C0a a.name.data.toList)))
 else if c=18 then le a.file 8++(le a.lev 1++List.replicate 3 0)
 else List.replicate 4 0
def c0b(c:Int)(a:l1a):List Int:=if z4a c a=0 then H3a c a else []
def k3a(c:Int)(s:O1a):O1a:=
 if c=14 then { s with ents:=[],more:=false }
 else if c=16 then { s with siz:=0,kind:=0,gone:=false }
 else if c=18 then { s with file:=0,lev:=0 }
 else s
def p8b(c:Int)(s:O1a):O1a:=
 if c=14 then { n0a with ents:=s.ents,more:=s.more }
 else if c=16 then { n0a with siz:=s.siz,kind:=s.kind,gone:=s.gone }
 else if c=18 then { n0a with file:=s.file,lev:=s.lev }
 else n0a
def Z3a(c:Int)(s:O1a):Bool:=i6a c&&decide (k3a c s=n0a)
def c5a(c:Int)(s:O1a):Int:=if Z3a c s=true/\s.kind<=2/\s.ents.all G3a=true then (if s.ents.length<=64 then (if c=14 then w1a s.ents else 0) else 3) else 2
def p3a(c:Int)(s:O1a):List Int:=
 if c=14 then le s.ents.length 2++(le (e1a s.more) 2++X0a s.ents)
 else if c=16 then le s.siz 8++(le s.kind 2++le (e1a s.gone) 2)
 else if c=18 then le s.file 8++(le s.lev 1++List.replicate 3 0)
 else List.replicate 4 0
def M2b(c:Int)(s:O1a):List Int:=if c5a c s=0 then p3a c s else []
def rdT(xs:List Int)(r:Rd):Int×Rd:=a1a xs 2 1 5 r
def rdK(xs:List Int)(r:Rd):Int×Rd:=a1a xs 2 2 5 r
def q3a(e:Int)(r:Rd):Rd:=if r.e=0 then ⟨r.p,e⟩ else r
def e1(xs:List Int)(r:Rd):=rdK xs r
def e2(xs:List Int)(r:Rd):=rdZ xs 2 (e1 xs r).2
def e3(xs:List Int)(r:Rd):=a1a xs 8 1048576 5 (e2 xs r)
def e4(xs:List Int)(r:Rd):=M1a xs (e3 xs r).2
def t4a(xs:List Int)(r:Rd):y1a×Rd:=(⟨⟨(e4 xs r).1.toArray⟩,(e1 xs r).1,(e3 xs r).1⟩,(e4 xs r).2)
def W1a(xs:List Int)(r:Rd):Nat->List y1a×Rd
 | 0=>([],r)
 | k+1=>((W1a xs r k).1++[(t4a xs (W1a xs r k).2).1],(t4a xs (W1a xs r k).2).2)
def l1(xs:List Int):=rdN xs 8 rd0
def l2(xs:List Int):=rdN xs 2 (l1 xs).2
def l3(xs:List Int):=rdZ xs 2 (l2 xs).2
def l4(xs:List Int):=M1a xs (l3 xs)
def l5(xs:List Int):=M1a xs (l4 xs).2
def t3(xs:List Int):=rdN xs 8 (l2 xs).2
def t4(xs:List Int):=rdT xs (l2 xs).2
def t5(xs:List Int):=M1a xs (t4 xs).2
def k2(xs:List Int):=rdN xs 1 (l1 xs).2
def k3(xs:List Int):=rdZ xs 3 (k2 xs).2
def igP(c:Int)(xs:List Int):l1a×Rd:=
 if c=14 then ({ i0a with file:=(l1 xs).1,most:=(l2 xs).1,pat:=⟨(l4 xs).1.toArray⟩,aft:=⟨(l5 xs).1.toArray⟩ },(l5 xs).2)
 else if c=16 then ({ i0a with file:=(l1 xs).1 },(l1 xs).2)
 else if c=17 then (if (l2 xs).1=1 then ({ i0a with file:=(l1 xs).1,cls:=(l2 xs).1,siz:=(t3 xs).1 },(t3 xs).2)
  else if (l2 xs).1=2 then ({ i0a with file:=(l1 xs).1,cls:=(l2 xs).1,on:=(t4 xs).1 != 0 },(t4 xs).2)
  else if (l2 xs).1=3 then ({ i0a with file:=(l1 xs).1,cls:=(l2 xs).1,on:=(t4 xs).1 != 0,name:=⟨(t5 xs).1.toArray⟩ },(t5 xs).2)
  else ({ i0a with file:=(l1 xs).1,cls:=(l2 xs).1 },q3a 5 (l2 xs).2))
 else if c=18 then ({ i0a with file:=(l1 xs).1,lev:=(k2 xs).1 },k3 xs)
 else (i0a,rdZ xs 4 rd0)
def l4a(c:Int)(xs:List Int):Int:=if J8a c=true then Q0a xs (igP c xs).2 else 2
def m7a(c:Int)(xs:List Int):l1a:=if l4a c xs=0 then (igP c xs).1 else i0a
def m1(xs:List Int):=a1a xs 2 64 3 rd0
def m2(xs:List Int):=rdT xs (m1 xs).2
def m3(xs:List Int):=W1a xs (m2 xs).2 (m1 xs).1.toNat
def g2(xs:List Int):=rdK xs (l1 xs).2
def g3(xs:List Int):=rdT xs (g2 xs).2
def jgP(c:Int)(xs:List Int):O1a×Rd:=
 if c=14 then ({ n0a with ents:=(m3 xs).1,more:=(m2 xs).1 != 0 },(m3 xs).2)
 else if c=16 then ({ n0a with siz:=(l1 xs).1,kind:=(g2 xs).1,gone:=(g3 xs).1 != 0 },(g3 xs).2)
 else if c=18 then ({ n0a with file:=(l1 xs).1,lev:=(k2 xs).1 },k3 xs)
 else (n0a,rdZ xs 4 rd0)
def P5a(c:Int)(xs:List Int):Int:=if i6a c=true then Q0a xs (jgP c xs).2 else 2
def K0b(c:Int)(xs:List Int):O1a:=if P5a c xs=0 then (jgP c xs).1 else n0a
theorem T4a{c:Int}(h:J8a c=true):c=12∨c=14∨c=16∨c=17∨c=18:=by unfold J8a at h;simp at h;omega
theorem u4a{c:Int}(h:i6a c=true):c=14∨c=16∨c=17∨c=18:=by unfold i6a at h;simp at h;omega
theorem M9a(b:Bool):0<=e1a b/\e1a b<=1:=by cases b<;>decide
theorem N9a(b:Bool):(e1a b != 0)=b:=by cases b<;>rfl
theorem J1c{v:Int}(h0:0<=v)(h1:v<=1):e1a (v != 0)=v:=by rcases(show v=0∨v=1 from by omega) with rfl | rfl<;>rfl
theorem T3b{xs:List Int}{r:Rd}(k:Nat):(W1a xs r k).1.length=k:=by
 induction k with
 | zero=>rfl
 | succ k ih=>simp[W1a,ih]
theorem c4c{xs:List Int}(hx:Bytes xs)(r:Rd):0<=(rdT xs r).1/\(rdT xs r).1<=1:=o3a hx 2 1 5 r (by decide) (by decide)
theorem K1c{xs:List Int}(hx:Bytes xs)(r:Rd):0<=(rdK xs r).1/\(rdK xs r).1<=2:=o3a hx 2 2 5 r (by decide) (by decide)
theorem q8b{xs:List Int}(hx:Bytes xs)(r:Rd):(t4a xs r).1.ok/\G3a (t4a xs r).1=true:=by
 have h1:=K1c hx r;have h2:=o3a hx 8 1048576 5 (e2 xs r) (by decide) (by decide);refine⟨⟨?_,?_⟩,?_⟩
 ·show 0<=(rdK xs r).1/\(rdK xs r).1<=255;omega
 ·show -9223372036854775808<=(a1a xs 8 1048576 5 (e2 xs r)).1/\(a1a xs 8 1048576 5 (e2 xs r)).1<=9223372036854775807;omega
 ·unfold G3a;show(decide ((rdK xs r).1<=2)&&(decide (0<=(a1a xs 8 1048576 5 (e2 xs r)).1)&&decide ((a1a xs 8 1048576 5 (e2 xs r)).1<=1048576)))=true
  simp[h1.2,h2.1,h2.2]
theorem L1c{xs:List Int}(hx:Bytes xs)(r:Rd)(k:Nat):(∀l∈(W1a xs r k).1,l.ok)/\(W1a xs r k).1.all G3a=true:=by
 induction k with
 | zero=>exact⟨(λl h=>by cases h),rfl⟩
 | succ k ih=>
  refine⟨λl h=>?_,?_⟩
  ·rcases List.mem_append.1 h with h | h
   ·exact ih.1 l h
   ·rw[List.mem_singleton.1 h];exact(q8b hx _).1
  ·show((W1a xs r k).1++[(t4a xs (W1a xs r k).2).1]).all G3a=true
   rw[List.all_append,ih.2,List.all_cons,(q8b hx _).2];rfl
theorem b6a(a b:List y1a):X0a (a++b)=X0a a++X0a b:=by
 induction a with
 | nil=>rfl
 | cons x r ih=>simp only[List.cons_append,X0a,ih,List.append_assoc]
theorem N2b(a b:List y1a):w1a (a++b)=if w1a a=0 then w1a b else w1a a:=by
 induction a with
 | nil=>rfl
 | cons x r ih=>
  by_cases h:z0a x.name.data.toList=0
  ·have e1:w1a (x::r)=w1a r:=by show(if _ then _ else _)=_;rw[if_pos h]
   have e2:w1a (x::(r++b))=w1a (r++b):=by show(if _ then _ else _)=_;rw[if_pos h]
   rw[List.cons_append,e1,e2,ih]
  ·have e1:w1a (x::r)=z0a x.name.data.toList:=by show(if _ then _ else _)=_;rw[if_neg h]
   have e2:w1a (x::(r++b))=z0a x.name.data.toList:=by show(if _ then _ else _)=_;rw[if_neg h]
   rw[List.cons_append,e1,e2,if_neg h]
theorem m6b(e:y1a):Bytes (l7a e):=(F0a _ _).append ((Bytes.zeros 2).append ((F0a _ _).append (e2a _)))
theorem p3b(l:List y1a):Bytes (X0a l):=by
 induction l with
 | nil=>exact Bytes.nil
 | cons a r ih=>exact(m6b a).append ih
theorem M1c(e:y1a):(l7a e).length<=600:=by have:=v3a e.name.data.toList;unfold l7a;simp only[List.length_append,g0a,List.length_replicate];omega
theorem O2b(l:List y1a):(X0a l).length<=600*l.length:=by
 induction l with
 | nil=>exact Nat.le_refl _
 | cons a r ih=>have:=M1c a;simp only[X0a,List.length_append,List.length_cons];omega
structure W4a where
 h:Hd
 a:l1a
 s:O1a
structure W4a.ok (m:W4a):Prop where
 h:m.h.ok
 a:m.a.ok
 s:m.s.ok
def P2a(f:Int):Bool:=decide (f%2=1)
def u8a(h:Hd):Int:=if P2a h.fl=true/\h.st≠0 then 13 else h.cm
def pae(c:Int)(a:l1a):Int:=if S0a c=true then h1a c a else if c<=10 then t7a c a else z4a c a
def pao(c:Int)(a:l1a):List Int:=if S0a c=true then S2a c a else if c<=10 then F2b c a else c0b c a
def pse(c:Int)(s:O1a):Int:=if S0a c=true then q1a c s else if c<=10 then V6a c s else c5a c s
def pso(c:Int)(s:O1a):List Int:=if S0a c=true then V2a c s else if c<=10 then O3b c s else M2b c s
def gae(c:Int)(xs:List Int):Int:=if S0a c=true then A2a c xs else if c<=10 then E5a c xs else l4a c xs
def gao(c:Int)(xs:List Int):l1a:=if S0a c=true then N2a c xs else if c<=10 then o1b c xs else m7a c xs
def gse(c:Int)(xs:List Int):Int:=if S0a c=true then D3a c xs else if c<=10 then O5a c xs else P5a c xs
def gso(c:Int)(xs:List Int):O1a:=if S0a c=true then Y3a c xs else if c<=10 then p1b c xs else K0b c xs
def U3b(n:Nat):Nat:=(8-n%8)%8
def Q5a(m:W4a):Int:=if P2a m.h.fl=true then (if h1a 13 m.a=0 then pse (u8a m.h) m.s else 2) else (if q1a 13 m.s=0 then pae (u8a m.h) m.a else 2)
def R5a(m:W4a):List Int:=if Q5a m=0 then (if P2a m.h.fl=true then pso (u8a m.h) m.s else pao (u8a m.h) m.a) else []
def Q3a(m:W4a):Int:=if L8a m.h=true then Q5a m else 2
def a4a(h:Hd)(b:List Int):List Int:=if h.nx=0 then b else b++List.replicate (U3b b.length) 0
def G5a(m:W4a):List Int:=if Q3a m=0 then X4a m.h++a4a m.h (R5a m) else []
def U4a(h:Hd)(xs:List Int):Int:=if P2a h.fl=true then (if gse (u8a h) xs=2 then 5 else gse (u8a h) xs) else gae (u8a h) xs
def gbA(h:Hd)(xs:List Int):l1a:=if P2a h.fl=true then i0a else gao (u8a h) xs
def gbS(h:Hd)(xs:List Int):O1a:=if P2a h.fl=true then gso (u8a h) xs else n0a
def v7a(xs:List Int)(n:Nat):Bool:=decide (xs.drop (xs.length-n)=List.replicate n 0)
def I6b(h:Hd)(xs:List Int)(n:Nat):Bool:=v7a xs n&&(decide (U3b (xs.length-n)=n)&&decide (U4a h (xs.take (xs.length-n))=0))
def atN(h:Hd)(xs:List Int):Option Nat:=(List.range 8).find? (I6b h xs)
def q1b(h:Hd)(xs:List Int):Int:=if h.nx=0 then U4a h xs else if (atN h xs).isSome=true then 0 else if U4a h xs=0 then 5 else U4a h xs
def q3b(h:Hd)(xs:List Int):List Int:=if h.nx=0 then xs else xs.take (xs.length-(atN h xs).getD 0)
def O9a(xs:List Int):Int:=if b2a xs 0=0 then q1b (t1a xs 0) (xs.drop 64) else b2a xs 0
def D7b:W4a:=⟨Q1a,i0a,n0a⟩
def l5b(xs:List Int):W4a:=if O9a xs=0 then ⟨t1a xs 0,gbA (t1a xs 0) (q3b (t1a xs 0) (xs.drop 64)),gbS (t1a xs 0) (q3b (t1a xs 0) (xs.drop 64))⟩ else D7b
theorem R5c{a:l1a}:h1a 13 a=0↔a=i0a:=by
 have hb:i1a 13 a=a:=by unfold i1a;rw[if_neg (by decide),if_neg (by decide),if_neg (by decide)]
 unfold h1a;rw[hb];constructor
 ·intro h;by_cases hz:a=i0a
  ·exact hz
  ·rw[if_neg (λh2=>hz h2.2)] at h;exact absurd h (by decide)
 ·intro h;rw[if_pos ⟨by decide,h⟩,if_neg (by decide),if_neg (by decide),if_neg (by decide)]
theorem S5c{s:O1a}:q1a 13 s=0↔s=n0a:=by
 have hb:v1a 13 s=s:=by unfold v1a;rw[if_neg (by decide)]
 unfold q1a;rw[hb];constructor
 ·intro h;by_cases hz:s=n0a
  ·exact hz
  ·rw[if_neg (λh2=>hz h2.2.1)] at h;exact absurd h (by decide)
 ·intro h;rw[if_pos ⟨by decide,h,λh2=>absurd h2 (by decide)⟩]
theorem V4b(n:Nat):U3b n<8:=Nat.mod_lt _ (by decide)
theorem H9b(h:Hd)(b:List Int):(a4a h b).length<=b.length+7:=by
 unfold a4a;have:=V4b b.length;split
 ·omega
 ·simp only[List.length_append,List.length_replicate];omega
theorem N1c(x:Int)(h0:0<=x)(h1:x<=4294967295):(bits .and .u32 x 2 != 0)=r5a x:=by obtain⟨a,rfl⟩:=Int.eq_ofNat_of_zero_le h0;rw[show(2:Int)=((2:Nat):Int) from rfl,u32_and_nat a 2 (by omega) (by omega),show(2:Nat)=2^1 from rfl,nat_bit 1 a];unfold r5a;rw[Bool.eq_iff_iff,bne_iff_ne,decide_eq_true_iff];omega
theorem O1c(x:Int)(h0:0<=x)(h1:x<=4294967295):(bits .andNot .u32 x 15==0)=decide (x<16):=by
 obtain⟨a,rfl⟩:=Int.eq_ofNat_of_zero_le h0;rw[show(15:Int)=((15:Nat):Int) from rfl,u32_andNot_nat a 15 (by omega) (by omega)];have e1:(a &&& (4294967295-15))%2^4=0:=by rw[Nat.and_mod_two_pow];exact Nat.and_zero _
 have e2:(a &&& (4294967295-15))/2^4=a/16:=by rw[Nat.and_div_two_pow,show(4294967295-15)/2^4=2^28-1 from by decide,Nat.and_two_pow_sub_one_eq_mod];exact Nat.mod_eq_of_lt (by omega)
 rw[Bool.eq_iff_iff,beq_iff_eq,decide_eq_true_iff];omega
theorem E7b{c:Int}(h:known c=true):c=0∨c=1∨c=2∨c=3∨c=4∨c=5∨c=6∨c=7∨c=8∨c=9∨c=10∨c=12∨c=13∨c=14∨c=16∨c=17∨c=18:=by simpa[known,l4b] using h
theorem I9b{c:Int}(h:known c=false):∀x∈l4b,(c==x)=false:=by intro x hx;rw[beq_eq_false_iff_ne];rintro rfl;rw[show known c=true from List.contains_iff_mem.2 hx] at h;cases h
theorem P1c(w:World)(c:Int) :
  Calls prog 45 #[.int .u16 c] w λe w'=>e=.returned (.bool (known c))/\w=w':=by
 by_cases h:known c=true
 ·rcases E7b h with rfl | rfl | rfl | rfl | rfl | rfl | rfl | rfl | rfl | rfl | rfl | rfl | rfl | rfl | rfl | rfl | rfl<;>
  ·rw[h];clear h;go_enter func45,ntmps45;go_wp2;go_ret;exact⟨rfl,rfl⟩
 ·have h':known c=false:=by simpa using h
  have k:=I9b h';rw[h'];have b0:=k 0 (by decide);have b1:=k 1 (by decide);have b2:=k 2 (by decide);have b3:=k 3 (by decide);have b4:=k 4 (by decide);have b5:=k 5 (by decide);have b6:=k 6 (by decide);have b7:=k 7 (by decide);have b8:=k 8 (by decide);have b9:=k 9 (by decide);have b10:=k 10 (by decide);have b12:=k 12 (by decide);have b13:=k 13 (by decide);have b14:=k 14 (by decide);have b16:=k 16 (by decide);have b17:=k 17 (by decide);have b18:=k 18 (by decide);clear k h h';go_enter func45,ntmps45;go_wp2;go_ret;exact⟨rfl,rfl⟩
theorem W8a(w:World)(h:Hd)(k:h.ok) :
  Calls prog 75 #[hv h] w λe w'=>e=.returned (.bool (r5a h.fl))/\BW w w':=by
 have hb:=hI (N1c h.fl k.fl.1 k.fl.2);obtain⟨z,hz⟩:=xX (r5a h.fl);rw[<-hz] at hb⊢;have HB0:=hb.o;obtain⟨v,hvv⟩:=xX (hv h);have HV:=hI hvv;rw[<-hvv];clear hz k hb hvv;go_enter func75,ntmps75;go_wp2_with(refine sN 1 ?_;refine d0a rfl _ (.tmp 0) rfl (m0a h) HV.o ?_;intro g w1 hg1 hg2 B1 L1;have gc:=HB.c4 B1.o);go_ret;exact⟨rfl,L1.o⟩
theorem J9b(w:World)(h:Hd)(k:h.ok) :
  Calls prog 46 #[hv h] w λe w'=>e=.returned (hv (q7a h))/\BW w w':=by
 have C0:Hid (∀w:World,Calls prog 75 #[hv h] w λe w'=>e=.returned (.bool (r5a h.fl))/\BW w w'):=λw=>W8a w h k
 have HL:=hI (G0a k);have HK:=hI (G0a (m4b k));have HKO:=hI (g2a (q7a h));have HZ:=hI (G0a Y2a);have ZH:=hI C7a;have h8:r5a h.fl=true->(m0a h).set 8 (.int .u32 0)=m0a (q7a h):=λhi=>by unfold q7a;rw[if_pos hi];rfl
 have h7:r5a h.fl=false->(m0a h).set 7 (.int .u64 0)=m0a (q7a h):=λhi=>by unfold q7a;rw[if_neg (by rw[hi];decide)];rfl
 obtain⟨zs,hzs⟩:=xX (m0a Q1a);obtain⟨cs,hcs⟩:=xX (m0a h);obtain⟨ds,hds⟩:=xX (m0a (q7a h));unfold hv at C0⊢;rw[<-hcs] at C0 HL h7 h8⊢;rw[<-hds] at HK HKO h7 h8⊢;rw[<-hzs] at HZ ZH;clear hzs hcs hds k;by_cases hi:r5a h.fl=true
 ·rw[hi] at C0;have HE:=hI (h8 hi);clear hi h7 h8;go_enter func46,ntmps46;go_wp2_with(first|(refine sN 1 ?_;refine d0a rfl _ (.tmp 0) rfl cs rfl ?_;intro g w1 hg1 hg2 B1 L1)|(refine sN 2 ?_;refine b0a rfl _ rfl zs _ ZH ?_;intro g2 w2 hg3 hg4 B2 L2;have B12:=hI (B1.o.over L2.o);have L12:=hI (step L1.o L2.o))|(refine sN 3 ?_;refine e0a rfl _ (.tmp 1) rfl g rfl _ _ B12 26 _ underlying28 rfl K0a HL ?_)|fail)
  refine(C0.o _).mono ?_;rintro e w3 ⟨rfl,L3⟩;have B13:=hI (B12.o.over L3);have B23:=hI (B2.o.over L3);have L13:=hI (step L12.o L3);have hsz:=L2.o.size;have hne:g≠g2:=by omega
  clear B12 B2 L12 L3 C0 B1 L1 L2;go_wp2_with(first|(refine sT 5 ?_;refine x0a rfl _ (.tmp 5) _ rfl g 8 rfl _ cs (.int .u32 0) rfl B13 (by have:=HL.o;show 8<_;omega) (by kernel_rfl) rfl ?_;intro w4 B14 O4 hg5;rw[HE.o] at B14;have B24:=hI (B23.o.only O4.o (by omega)))|(refine sN 7 ?_;refine e0a rfl _ (.tmp 1) rfl g rfl _ ds B14 26 _ underlying28 rfl K0a HK ?_)|(refine sT 2 ?_;refine a0a rfl _ (.tmp 2) (.tmp 7) rfl g2 rfl _ zs ds rfl B24 26 K0a HZ HK HKO ?_;intro w5 B25 O5 hg6))
  refine bodyPost_ret (v:=.agg ds.toArray) ?_ rfl ⟨rfl,c0a (c0a L13.o O4.o (by omega)) O5.o (by omega)⟩;exact results_cell_row rfl _ _ g2 _ _ (0,0) _ rfl B25.o underlying28 rfl (by rw[K0a];have:=HK.o;simp[this])
 ·have hi':r5a h.fl=false:=by simpa using hi
  rw[hi'] at C0;have HE:=hI (h7 hi');clear hi hi' h7 h8;go_enter func46,ntmps46;go_wp2_with(first|(refine sN 1 ?_;refine d0a rfl _ (.tmp 0) rfl cs rfl ?_;intro g w1 hg1 hg2 B1 L1)|(refine sN 2 ?_;refine b0a rfl _ rfl zs _ ZH ?_;intro g2 w2 hg3 hg4 B2 L2;have B12:=hI (B1.o.over L2.o);have L12:=hI (step L1.o L2.o))|(refine sN 3 ?_;refine e0a rfl _ (.tmp 1) rfl g rfl _ _ B12 26 _ underlying28 rfl K0a HL ?_)|fail)
  refine(C0.o _).mono ?_;rintro e w3 ⟨rfl,L3⟩;have B13:=hI (B12.o.over L3);have B23:=hI (B2.o.over L3);have L13:=hI (step L12.o L3);have hsz:=L2.o.size;have hne:g≠g2:=by omega
  clear B12 B2 L12 L3 C0 B1 L1 L2;go_wp2_with(first|(refine sT 6 ?_;refine x0a rfl _ (.tmp 6) _ rfl g 7 rfl _ cs (.int .u64 0) rfl B13 (by have:=HL.o;show 7<_;omega) (by kernel_rfl) rfl ?_;intro w4 B14 O4 hg5;rw[HE.o] at B14;have B24:=hI (B23.o.only O4.o (by omega)))|(refine sN 7 ?_;refine e0a rfl _ (.tmp 1) rfl g rfl _ ds B14 26 _ underlying28 rfl K0a HK ?_)|(refine sT 2 ?_;refine a0a rfl _ (.tmp 2) (.tmp 7) rfl g2 rfl _ zs ds rfl B24 26 K0a HZ HK HKO ?_;intro w5 B25 O5 hg6))
  refine bodyPost_ret (v:=.agg ds.toArray) ?_ rfl ⟨rfl,c0a (c0a L13.o O4.o (by omega)) O5.o (by omega)⟩;exact results_cell_row rfl _ _ g2 _ _ (0,0) _ rfl B25.o underlying28 rfl (by rw[K0a];have:=HK.o;simp[this])
theorem P2b(w:World)(h:Hd)(k:h.ok) :
  Calls prog 55 #[hv h] w λe w'=>e=.returned (.int .u64 (aot h))/\BW w w':=by
 have C0:Hid (∀w:World,Calls prog 75 #[hv h] w λe w'=>e=.returned (.bool (r5a h.fl))/\BW w w'):=λw=>W8a w h k
 have HL:=hI (G0a k);obtain⟨t0,t1⟩:=k.tr;have e1:r5a h.fl=true->aot h=h.asy:=λhi=>by unfold aot;rw[if_pos hi]
 have e0:r5a h.fl=false->aot h=h.tr*4294967296:=λhi=>by unfold aot;rw[if_neg (by rw[hi];decide)]
 obtain⟨tr,htr⟩:=xX h.tr;obtain⟨asy,hasy⟩:=xX h.asy;obtain⟨cs,hcs⟩:=xX (m0a h);unfold hv at C0⊢;rw[<-hcs] at C0 HL⊢;rw[<-htr] at t0 t1 e0;rw[<-hasy] at e1;have HT:=hI htr;have HA:=hI hasy;have HC:=hI hcs;clear htr hasy hcs k;by_cases hi:r5a h.fl=true
 ·rw[hi] at C0;rw[e1 hi];clear hi e0 e1;go_enter func55,ntmps55;go_wp2_with(first|(refine sN 1 ?_;refine d0a rfl _ (.tmp 0) rfl cs rfl ?_;intro g w1 hg1 hg2 B1 L1)|(refine sN 3 ?_;refine e0a rfl _ (.tmp 1) rfl g rfl _ _ B1 26 _ underlying28 rfl K0a HL ?_)|fail)
  refine(C0.o _).mono ?_;rintro e w3 ⟨rfl,L3⟩;have gc:w3.cell? ⟨g,7,none⟩=some (.int .u64 asy):=by rw[HA.o];exact HB.c7 (HB.of HC.o (B1.o.over L3))
  go_wp2;go_ret;exact⟨rfl,step L1.o L3⟩
 ·have hi':r5a h.fl=false:=by simpa using hi
  rw[hi'] at C0;rw[e0 hi'];clear hi hi' e0 e1;go_enter func55,ntmps55;go_wp2_with(first|(refine sN 1 ?_;refine d0a rfl _ (.tmp 0) rfl cs rfl ?_;intro g w1 hg1 hg2 B1 L1)|(refine sN 3 ?_;refine e0a rfl _ (.tmp 1) rfl g rfl _ _ B1 26 _ underlying28 rfl K0a HL ?_)|fail)
  refine(C0.o _).mono ?_;rintro e w3 ⟨rfl,L3⟩;have gc:w3.cell? ⟨g,8,none⟩=some (.int .u32 tr):=by rw[HT.o];exact HB.c8 (HB.of HC.o (B1.o.over L3))
  go_wp2;go_ret;exact⟨rfl,step L1.o L3⟩
theorem W4b{xs pre post:List Int}{b:Bool}{p:Nat}(hx:xs=pre++(le (e1a b) 2++post))(hp:pre.length=p):rdT xs ⟨p,0⟩=(e1a b,⟨p+2,0⟩):=by obtain⟨h0,h1⟩:=M9a b;exact A6a (m1a 65536 (by decide) hx hp h0 (by omega)) h1
theorem Q1c{xs pre post:List Int}{v:Int}{p:Nat}(hx:xs=pre++(le v 2++post))(hp:pre.length=p)(h0:0<=v)(h1:v<=2):rdK xs ⟨p,0⟩=(v,⟨p+2,0⟩):=A6a (m1a 65536 (by decide) hx hp h0 (by omega)) h1
theorem R1c{xs pre post:List Int}{e:y1a}{p:Nat}(hx:xs=pre++(l7a e++post))(hp:pre.length=p)(k:e.ok)(ho:G3a e=true)(ht:z0a e.name.data.toList=0):t4a xs ⟨p,0⟩=(e,⟨p+(l7a e).length,0⟩):=by
 obtain⟨nm,kd,sz⟩:=e;have k1:=k.kind;change 0<=kd/\kd<=_ at k1
 change z0a nm.data.toList=0 at ht
 unfold G3a at ho;simp only[Bool.and_eq_true,decide_eq_true_eq] at ho;obtain⟨o1,o2,o3⟩:=ho;have hx1:xs=pre++(le kd 2++(List.replicate 2 0++(le sz 8++(C0a nm.data.toList++post)))):=by rw[hx];simp only[l7a,List.append_assoc]
 have q1:e1 xs ⟨p,0⟩=(kd,⟨p+2,0⟩):=Q1c hx1 hp k1.1 o1;have hx2:xs=(pre++le kd 2)++(List.replicate 2 0++(le sz 8++(C0a nm.data.toList++post))):=by rw[hx1];simp only[List.append_assoc]
 have q2:e2 xs ⟨p,0⟩=⟨p+2+2,0⟩:=by unfold e2;rw[q1];exact F4a hx2 (by rw[List.length_append,g0a,hp])
 have hx3:xs=(pre++le kd 2++List.replicate 2 0)++(le sz 8++(C0a nm.data.toList++post)):=by rw[hx1];simp only[List.append_assoc]
 have q3:e3 xs ⟨p,0⟩=(sz,⟨p+2+2+8,0⟩):=by unfold e3;rw[q2];exact A6a (m1a 18446744073709551616 (by decide) hx3 (by rw[List.length_append,List.length_append,g0a,List.length_replicate,hp]) o2 (by omega)) o3
 have hx4:xs=(pre++le kd 2++List.replicate 2 0++le sz 8)++(C0a nm.data.toList++post):=by rw[hx1];simp only[List.append_assoc]
 have q4:e4 xs ⟨p,0⟩=(nm.data.toList,⟨p+2+2+8+(C0a nm.data.toList).length,0⟩):=by unfold e4;rw[q3];exact z6a hx4 (by rw[List.length_append,List.length_append,List.length_append,g0a,g0a,List.length_replicate,hp]) ht
 have hl:(l7a ⟨nm,kd,sz⟩).length=2+2+8+(C0a nm.data.toList).length:=by
  show(le kd 2++(List.replicate 2 0++(le sz 8++C0a nm.data.toList))).length=_
  simp only[List.length_append,g0a,List.length_replicate];omega
 unfold t4a;rw[q1,q3,q4,hl];show((⟨⟨nm.data.toList.toArray⟩,kd,sz⟩:y1a),(⟨p+2+2+8+(C0a nm.data.toList).length,0⟩:Rd))=_
 rw[k6b,show p+(2+2+8+(C0a nm.data.toList).length)=p+2+2+8+(C0a nm.data.toList).length from by omega]
theorem F7b{l:List y1a}(h:w1a l=0):∀e∈l,z0a e.name.data.toList=0:=by
 induction l with
 | nil=>intro e he;cases he
 | cons x r ih=>
  unfold w1a at h;by_cases h1:z0a x.name.data.toList=0
  ·rw[if_pos h1] at h;intro e he;rcases List.mem_cons.1 he with rfl | he
   ·exact h1
   ·exact ih h e he
  ·rw[if_neg h1] at h;exact absurd h h1
theorem K9b{xs pre post:List Int}{ls:List y1a}{p:Nat}(hx:xs=pre++(X0a ls++post))(hp:pre.length=p)(k:∀l∈ls,l.ok)(h0:ls.all G3a=true)(ht:w1a ls=0):∀j,j<=ls.length->W1a xs ⟨p,0⟩ j=(ls.take j,⟨p+(X0a (ls.take j)).length,0⟩):=by
 intro j
 induction j with
 | zero=>intro _;rfl
 | succ j ih=>
  intro hj;have ih:=ih (by omega);have hl:ls[j]? = some ls[j]:=List.getElem?_eq_getElem (by omega);have hsp:ls=ls.take j++(ls[j]::ls.drop (j+1)):=by rw[<-List.drop_eq_getElem_cons (by omega),List.take_append_drop]
  have hx2:xs=(pre++X0a (ls.take j))++(l7a ls[j]++(X0a (ls.drop (j+1))++post)):=by
   rw[hx]
   conv=>lhs;rw[hsp]
   rw[b6a];simp only[X0a,List.append_assoc]
  have hm:ls[j]∈ls:=List.getElem_mem (by omega);have e:=R1c (xs:=xs) (p:=p+(X0a (ls.take j)).length) hx2 (by rw[List.length_append,hp]) (k _ hm) (List.all_eq_true.1 h0 _ hm) (F7b ht _ hm);show((W1a xs ⟨p,0⟩ j).1++[(t4a xs (W1a xs ⟨p,0⟩ j).2).1],(t4a xs (W1a xs ⟨p,0⟩ j).2).2)=_
  rw[ih];show(ls.take j++[(t4a xs ⟨p+(X0a (ls.take j)).length,0⟩).1],(t4a xs ⟨p+(X0a (ls.take j)).length,0⟩).2)=_
  rw[e,List.take_add_one,hl];show(ls.take j++[ls[j]],(⟨p+(X0a (ls.take j)).length+(l7a ls[j]).length,0⟩:Rd))=(ls.take j++[ls[j]],⟨p+(X0a (ls.take j++[ls[j]])).length,0⟩)
  rw[b6a,List.length_append];simp only[X0a,List.append_nil,Nat.add_assoc]
theorem L0b(c:Int)(a:l1a):F2a c a=i0a↔o3b c a=a:=by
 obtain⟨a1,a2,a3,a4,a5,a6,a7,a8,a9,a10,a11,a12,a13,a14,a15,a16,a17,a18,a19,a20,a21,a22,a23⟩:=a;unfold F2a o3b;split
 ·simp only[i0a,l1a.mk.injEq];constructor<;>(intro h;obtain⟨h1,h2,h3,h4,h5,h6,h7,h8,h9,h10,h11,h12,h13,h14,h15,h16,h17,h18,h19,h20,h21,h22,h23⟩:=h;subst_vars;simp)
 ·split
  ·simp only[i0a,l1a.mk.injEq];constructor<;>(intro h;obtain⟨h1,h2,h3,h4,h5,h6,h7,h8,h9,h10,h11,h12,h13,h14,h15,h16,h17,h18,h19,h20,h21,h22,h23⟩:=h;subst_vars;simp)
  ·split
   ·split
    ·simp only[i0a,l1a.mk.injEq];constructor<;>(intro h;obtain⟨h1,h2,h3,h4,h5,h6,h7,h8,h9,h10,h11,h12,h13,h14,h15,h16,h17,h18,h19,h20,h21,h22,h23⟩:=h;subst_vars;simp)
    ·split
     ·simp only[i0a,l1a.mk.injEq];constructor<;>(intro h;obtain⟨h1,h2,h3,h4,h5,h6,h7,h8,h9,h10,h11,h12,h13,h14,h15,h16,h17,h18,h19,h20,h21,h22,h23⟩:=h;subst_vars;simp)
     ·simp only[i0a,l1a.mk.injEq];constructor<;>(intro h;obtain⟨h1,h2,h3,h4,h5,h6,h7,h8,h9,h10,h11,h12,h13,h14,h15,h16,h17,h18,h19,h20,h21,h22,h23⟩:=h;subst_vars;simp)
   ·split
    ·simp only[i0a,l1a.mk.injEq];constructor<;>(intro h;obtain⟨h1,h2,h3,h4,h5,h6,h7,h8,h9,h10,h11,h12,h13,h14,h15,h16,h17,h18,h19,h20,h21,h22,h23⟩:=h;subst_vars;simp)
    ·exact eq_comm
theorem P9a(c:Int)(s:O1a):k3a c s=n0a↔p8b c s=s:=by
 obtain⟨a1,a2,a3,a4,a5,a6,a7,a8,a9,a10,a11,a12,a13⟩:=s;unfold k3a p8b;split
 ·simp only[n0a,O1a.mk.injEq];constructor<;>(intro h;obtain⟨h1,h2,h3,h4,h5,h6,h7,h8,h9,h10,h11,h12,h13⟩:=h;subst_vars;simp)
 ·split
  ·simp only[n0a,O1a.mk.injEq];constructor<;>(intro h;obtain⟨h1,h2,h3,h4,h5,h6,h7,h8,h9,h10,h11,h12,h13⟩:=h;subst_vars;simp)
  ·split
   ·simp only[n0a,O1a.mk.injEq];constructor<;>(intro h;obtain⟨h1,h2,h3,h4,h5,h6,h7,h8,h9,h10,h11,h12,h13⟩:=h;subst_vars;simp)
   ·exact eq_comm
theorem X4b{c:Int}{a:l1a}(h:z4a c a=0):J8a c=true/\o3b c a=a/\(c=17->1<=a.cls/\a.cls<=3)/\(c=14->z0a a.pat.data.toList=0/\z0a a.aft.data.toList=0)/\(c=17->a.cls=3->z0a a.name.data.toList=0)/\c0b c a=H3a c a:=by
 have h0:=h;unfold z4a at h;by_cases h1:s4a c a=true
 ·rw[if_pos h1] at h;unfold s4a at h1;simp only[Bool.and_eq_true,Bool.or_eq_true,Bool.not_eq_true',decide_eq_false_iff_not,decide_eq_true_eq,L9a] at h1;obtain⟨k1,k2,k3⟩:=h1;refine⟨k1,(L0b c a).1 k3,λhc=>?_,λhc=>?_,λhc hs=>?_,by unfold c0b;rw[if_pos h0]⟩
  ·rcases k2 with k2 | k2
   ·exact absurd hc k2
   ·exact k2
  ·rw[if_pos hc] at h;by_cases h2:z0a a.pat.data.toList=0
   ·rw[if_pos h2] at h;exact⟨h2,h⟩
   ·rw[if_neg h2] at h;exact absurd h h2
  ·rw[if_neg (by omega),if_pos ⟨hc,hs⟩] at h;exact h
 ·rw[if_neg h1] at h;exact absurd h (by decide)
theorem Q9a{c:Int}{s:O1a}(h:c5a c s=0):i6a c=true/\p8b c s=s/\s.kind<=2/\s.ents.all G3a=true/\s.ents.length<=64/\(c=14->w1a s.ents=0)/\M2b c s=p3a c s:=by
 have h0:=h;unfold c5a at h;by_cases h1:Z3a c s=true/\s.kind<=2/\s.ents.all G3a=true
 ·rw[if_pos h1] at h;by_cases h2:s.ents.length<=64
  ·rw[if_pos h2] at h;obtain⟨h3,h4,h5⟩:=h1;unfold Z3a at h3;simp only[Bool.and_eq_true,decide_eq_true_eq] at h3;exact⟨h3.1,(P9a c s).1 h3.2,h4,h5,h2,λhc=>by rw[if_pos hc] at h;exact h,by unfold M2b;rw[if_pos h0]⟩
  ·rw[if_neg h2] at h;exact absurd h (by decide)
 ·rw[if_neg h1] at h;exact absurd h (by decide)
theorem T5c(c:Int)(a:l1a)(ka:a.ok)(he:z4a c a=0)(post:List Int):igP c (c0b c a++post)=(a,⟨(c0b c a).length,0⟩):=by
 obtain⟨hk,hw,hcl,htl,htn,ho⟩:=X4b he;rw[ho];have b1:=ka.file;have b2:=ka.most;have b3:=ka.cls;have b4:=ka.siz;have b5:=ka.lev
 rcases T4a hk with rfl | rfl | rfl | rfl | rfl
 ·have e:=F4a (xs:=H3a 12 a++post) (pre:=[]) (post:=post) (m:=4) (p:=0) rfl rfl;unfold igP;rw[if_neg (by decide),if_neg (by decide),if_neg (by decide),if_neg (by decide)];show(i0a,rdZ (H3a 12 a++post) 4 ⟨0,0⟩)=_
  rw[e]
  conv=>rhs;rw[<-hw]
  rfl
 ·obtain⟨ht1,ht2⟩:=htl rfl;obtain⟨xs,hxs⟩:=xX (H3a 14 a++post);rw[<-hxs];have hx0:xs=le a.file 8++(le a.most 2++(List.replicate 2 0++(C0a a.pat.data.toList++(C0a a.aft.data.toList++post)))):=by rw[hxs];unfold H3a;rw[if_pos rfl];simp only[List.append_assoc]
  have e1:l1 xs=(a.file,⟨8,0⟩):=m1a (pre:=[]) 18446744073709551616 (by decide) hx0 rfl b1.1 (by omega);have e2:l2 xs=(a.most,⟨10,0⟩):=by unfold l2;rw[e1];exact m1a (pre:=le a.file 8) 65536 (by decide) hx0 (by simp[g0a]) b2.1 (by omega)
  have e3:l3 xs=⟨12,0⟩:=by unfold l3;rw[e2];exact F4a (pre:=le a.file 8++le a.most 2) (by rw[hx0];simp only[List.append_assoc];rfl) (by simp[g0a])
  have e4:l4 xs=(a.pat.data.toList,⟨12+(C0a a.pat.data.toList).length,0⟩):=by unfold l4;rw[e3];exact z6a (pre:=le a.file 8++le a.most 2++List.replicate 2 0) (by rw[hx0];simp only[List.append_assoc];rfl) (by simp[g0a]) ht1
  have e5:l5 xs=(a.aft.data.toList,⟨12+(C0a a.pat.data.toList).length+(C0a a.aft.data.toList).length,0⟩):=by unfold l5;rw[e4];exact z6a (pre:=le a.file 8++le a.most 2++List.replicate 2 0++C0a a.pat.data.toList) (post:=post) (by rw[hx0];simp only[List.append_assoc]) (by simp only[List.length_append,g0a,List.length_replicate]) ht2
  have hlen:(H3a 14 a).length=12+(C0a a.pat.data.toList).length+(C0a a.aft.data.toList).length:=by unfold H3a;rw[if_pos rfl];simp only[List.length_append,g0a,List.length_replicate];omega
  unfold igP;rw[if_pos rfl,e1,e2,e4,e5,hlen];show(({ i0a with file:=a.file,most:=a.most,pat:=⟨a.pat.data.toList.toArray⟩,aft:=⟨a.aft.data.toList.toArray⟩ }:l1a),_)=_
  rw[k6b,k6b]
  conv=>rhs;rw[<-hw]
  rfl
 ·obtain⟨xs,hxs⟩:=xX (H3a 16 a++post);rw[<-hxs];have e1:l1 xs=(a.file,⟨8,0⟩):=m1a (pre:=[]) (post:=post) 18446744073709551616 (by decide) hxs rfl b1.1 (by omega);unfold igP;rw[if_neg (by decide),if_pos rfl,e1];have hlen:(H3a 16 a).length=8:=by show(le a.file 8).length=8;exact g0a _ _
  rw[hlen]
  conv=>rhs;rw[<-hw]
  rfl
 ·obtain⟨hc0,hc1⟩:=hcl rfl;obtain⟨xs,hxs⟩:=xX (H3a 17 a++post);rw[<-hxs];have key:∀more:List Int,H3a 17 a=le a.file 8++(le a.cls 2++more)->l1 xs=(a.file,⟨8,0⟩)/\l2 xs=(a.cls,⟨10,0⟩)/\xs=(le a.file 8++le a.cls 2)++(more++post)/\(H3a 17 a).length=10+more.length:=by
   intro more hb;have hx0:xs=le a.file 8++(le a.cls 2++(more++post)):=by rw[hxs,hb];simp only[List.append_assoc]
   have e1:l1 xs=(a.file,⟨8,0⟩):=m1a (pre:=[]) 18446744073709551616 (by decide) hx0 rfl b1.1 (by omega);have e2:l2 xs=(a.cls,⟨10,0⟩):=by unfold l2;rw[e1];exact m1a (pre:=le a.file 8) 65536 (by decide) hx0 (by simp[g0a]) b3.1 (by omega)
   exact⟨e1,e2,by rw[hx0];simp only[List.append_assoc],by rw[hb];simp only[List.length_append,g0a];omega⟩
  have hpl:(le a.file 8++le a.cls 2).length=10:=by simp[g0a]
  unfold igP;rw[if_neg (by decide),if_neg (by decide),if_pos rfl];by_cases h1:a.cls=1
  ·obtain⟨e1,e2,hx1,hlen⟩:=key (le a.siz 8) (by unfold H3a;rw[if_neg (by decide),if_neg (by decide),if_pos rfl,if_pos h1]);have e3:t3 xs=(a.siz,⟨18,0⟩):=by unfold t3;rw[e2];exact m1a 18446744073709551616 (by decide) hx1 hpl b4.1 (by omega)
   rw[e1,e2,e3,hlen,g0a];unfold o3b at hw;rw[if_neg (by decide),if_neg (by decide),if_pos rfl,if_pos h1] at hw;show(if a.cls=1 then (({ i0a with file:=a.file,cls:=a.cls,siz:=a.siz }:l1a),(⟨18,0⟩:Rd)) else _)=_
   rw[if_pos h1,hw]
  ·by_cases h2:a.cls=2
   ·obtain⟨e1,e2,hx1,hlen⟩:=key (le (e1a a.on) 2) (by unfold H3a;rw[if_neg (by decide),if_neg (by decide),if_pos rfl,if_neg h1,if_pos h2]);have e3:t4 xs=(e1a a.on,⟨12,0⟩):=by unfold t4;rw[e2];exact W4b hx1 hpl
    rw[e1,e2,e3,hlen,g0a];unfold o3b at hw;rw[if_neg (by decide),if_neg (by decide),if_pos rfl,if_neg h1,if_pos h2] at hw;show(if a.cls=1 then _ else if a.cls=2 then (({ i0a with file:=a.file,cls:=a.cls,on:=e1a a.on != 0 }:l1a),(⟨12,0⟩:Rd)) else _)=_
    rw[if_neg h1,if_pos h2,N9a,hw]
   ·have h3:a.cls=3:=by omega
    have ht:=htn rfl h3;obtain⟨e1,e2,hx1,hlen⟩:=key (le (e1a a.on) 2++C0a a.name.data.toList) (by unfold H3a;rw[if_neg (by decide),if_neg (by decide),if_pos rfl,if_neg h1,if_neg h2]);rw[List.append_assoc] at hx1;have e3:t4 xs=(e1a a.on,⟨12,0⟩):=by unfold t4;rw[e2];exact W4b hx1 hpl
    have e4:t5 xs=(a.name.data.toList,⟨12+(C0a a.name.data.toList).length,0⟩):=by unfold t5;rw[e3];exact z6a (pre:=le a.file 8++le a.cls 2++le (e1a a.on) 2) (post:=post) (by rw[hx1];simp only[List.append_assoc]) (by simp[g0a]) ht
    have hlen2:10+(le (e1a a.on) 2++C0a a.name.data.toList).length=12+(C0a a.name.data.toList).length:=by rw[List.length_append,g0a];omega
    rw[e1,e2,e3,e4,hlen,hlen2];unfold o3b at hw;rw[if_neg (by decide),if_neg (by decide),if_pos rfl,if_neg h1,if_neg h2] at hw;show(if a.cls=1 then _ else if a.cls=2 then _ else if a.cls=3 then (({ i0a with file:=a.file,cls:=a.cls,on:=e1a a.on != 0,name:=⟨a.name.data.toList.toArray⟩ }:l1a),(⟨12+(C0a a.name.data.toList).length,0⟩:Rd)) else _)=_
    rw[if_neg h1,if_neg h2,if_pos h3,N9a,k6b,hw]
 ·obtain⟨xs,hxs⟩:=xX (H3a 18 a++post);rw[<-hxs];have hx0:xs=le a.file 8++(le a.lev 1++(List.replicate 3 0++post)):=by rw[hxs];show(le a.file 8++(le a.lev 1++List.replicate 3 0))++post=_;simp only[List.append_assoc]
  have e1:l1 xs=(a.file,⟨8,0⟩):=m1a (pre:=[]) 18446744073709551616 (by decide) hx0 rfl b1.1 (by omega);have e2:k2 xs=(a.lev,⟨9,0⟩):=by unfold k2;rw[e1];exact m1a (pre:=le a.file 8) 256 (by decide) hx0 (by simp[g0a]) b5.1 (by omega)
  have e3:k3 xs=⟨12,0⟩:=by unfold k3;rw[e2];exact F4a (pre:=le a.file 8++le a.lev 1) (post:=post) (by rw[hx0];simp only[List.append_assoc]) (by simp[g0a])
  have hlen:(H3a 18 a).length=12:=by show(le a.file 8++(le a.lev 1++List.replicate 3 0)).length=12;simp[g0a]
  unfold igP;rw[if_neg (by decide),if_neg (by decide),if_neg (by decide),if_pos rfl,e1,e2,e3,hlen]
  conv=>rhs;rw[<-hw]
  rfl
theorem O4c(c:Int)(a:l1a)(ka:a.ok)(he:z4a c a=0):l4a c (c0b c a)=0/\m7a c (c0b c a)=a:=by
 have h:=T5c c a ka he [];rw[List.append_nil] at h;have h0:l4a c (c0b c a)=0:=by unfold l4a;rw[if_pos (X4b he).1,h];unfold Q0a;rw[if_neg (λh2=>h2.2 rfl)]
 refine⟨h0,?_⟩;unfold m7a;rw[if_pos h0,h]
theorem P4c(c:Int)(a:l1a)(ka:a.ok)(he:z4a c a=0)(more:List Int)(hm:more≠[]):l4a c (c0b c a++more)=5:=by
 have h:=T5c c a ka he more;unfold l4a;rw[if_pos (X4b he).1,h];have hne:(c0b c a).length≠(c0b c a++more).length:=by
  rw[List.length_append];have:more.length≠0:=λh0=>hm (List.eq_nil_of_length_eq_zero h0)
  omega
 unfold Q0a;rw[if_pos ⟨rfl,hne⟩]
theorem U5c(c:Int)(s:O1a)(ks:s.ok)(he:c5a c s=0)(post:List Int):jgP c (M2b c s++post)=(s,⟨(M2b c s).length,0⟩):=by
 obtain⟨hk,hw,hkd,hes,hn,ht,ho⟩:=Q9a he;have b1:=ks.siz;have b2:=ks.kind;have b3:=ks.file;have b4:=ks.lev
 rw[ho];rcases u4a hk with rfl | rfl | rfl | rfl
 ·have ht:=ht rfl;obtain⟨xs,hxs⟩:=xX (p3a 14 s++post);rw[<-hxs];have hx0:xs=le s.ents.length 2++(le (e1a s.more) 2++(X0a s.ents++post)):=by rw[hxs];unfold p3a;rw[if_pos rfl];simp only[List.append_assoc]
  have e1:m1 xs=((s.ents.length:Int),⟨2,0⟩):=A6a (m1a (pre:=[]) 65536 (by decide) hx0 rfl (by omega) (by omega)) (by omega);have e2:m2 xs=(e1a s.more,⟨4,0⟩):=by unfold m2;rw[e1];exact W4b (pre:=le s.ents.length 2) hx0 (by simp[g0a])
  have e3:m3 xs=(s.ents,⟨4+(X0a s.ents).length,0⟩):=by
   unfold m3;rw[e1,e2];show W1a xs ⟨4,0⟩ ((s.ents.length:Int)).toNat=_
   rw[Int.toNat_natCast];have h:=K9b (xs:=xs) (pre:=le s.ents.length 2++le (e1a s.more) 2) (post:=post) (ls:=s.ents) (p:=4) (by rw[hx0];simp only[List.append_assoc]) (by simp[g0a]) ks.ents hes ht s.ents.length (Nat.le_refl _);rw[h,List.take_length]
  have hlen:(p3a 14 s).length=4+(X0a s.ents).length:=by unfold p3a;rw[if_pos rfl];simp only[List.length_append,g0a];omega
  unfold jgP;rw[if_pos rfl,e2,e3,hlen];show(({ n0a with ents:=s.ents,more:=e1a s.more != 0 }:O1a),_)=_
  rw[N9a]
  conv=>rhs;rw[<-hw]
  rfl
 ·obtain⟨xs,hxs⟩:=xX (p3a 16 s++post);rw[<-hxs];have hx0:xs=le s.siz 8++(le s.kind 2++(le (e1a s.gone) 2++post)):=by rw[hxs];unfold p3a;rw[if_neg (by decide),if_pos rfl];simp only[List.append_assoc]
  have e1:l1 xs=(s.siz,⟨8,0⟩):=m1a (pre:=[]) 18446744073709551616 (by decide) hx0 rfl b1.1 (by omega);have e2:g2 xs=(s.kind,⟨10,0⟩):=by unfold g2;rw[e1];exact Q1c (pre:=le s.siz 8) hx0 (by simp[g0a]) b2.1 hkd
  have e3:g3 xs=(e1a s.gone,⟨12,0⟩):=by unfold g3;rw[e2];exact W4b (pre:=le s.siz 8++le s.kind 2) (post:=post) (by rw[hx0];simp only[List.append_assoc]) (by simp[g0a])
  have hlen:(p3a 16 s).length=12:=by unfold p3a;rw[if_neg (by decide),if_pos rfl];simp[g0a]
  unfold jgP;rw[if_neg (by decide),if_pos rfl,e1,e2,e3,hlen];show(({ n0a with siz:=s.siz,kind:=s.kind,gone:=e1a s.gone != 0 }:O1a),_)=_
  rw[N9a]
  conv=>rhs;rw[<-hw]
  rfl
 ·have e:=F4a (xs:=p3a 17 s++post) (pre:=[]) (post:=post) (m:=4) (p:=0) (by show List.replicate 4 0++post=_;simp) rfl;unfold jgP;rw[if_neg (by decide),if_neg (by decide),if_neg (by decide)];show(n0a,rdZ (p3a 17 s++post) 4 ⟨0,0⟩)=_
  rw[e]
  conv=>rhs;rw[<-hw]
  rfl
 ·obtain⟨xs,hxs⟩:=xX (p3a 18 s++post);rw[<-hxs];have hx0:xs=le s.file 8++(le s.lev 1++(List.replicate 3 0++post)):=by rw[hxs];show le s.file 8++(le s.lev 1++List.replicate 3 0)++post=_;simp only[List.append_assoc]
  have e1:l1 xs=(s.file,⟨8,0⟩):=m1a (pre:=[]) 18446744073709551616 (by decide) hx0 rfl b3.1 (by omega);have e2:k2 xs=(s.lev,⟨9,0⟩):=by unfold k2;rw[e1];exact m1a (pre:=le s.file 8) 256 (by decide) hx0 (by simp[g0a]) b4.1 (by omega)
  have e3:k3 xs=⟨12,0⟩:=by unfold k3;rw[e2];exact F4a (pre:=le s.file 8++le s.lev 1) (post:=post) (by rw[hx0];simp only[List.append_assoc]) (by simp[g0a])
  have hlen:(p3a 18 s).length=12:=by show(le s.file 8++(le s.lev 1++List.replicate 3 0)).length=_;simp[g0a]
  unfold jgP;rw[if_neg (by decide),if_neg (by decide),if_pos rfl,e1,e2,e3,hlen]
  conv=>rhs;rw[<-hw]
  rfl
theorem Q4c(c:Int)(s:O1a)(ks:s.ok)(he:c5a c s=0):P5a c (M2b c s)=0/\K0b c (M2b c s)=s:=by
 have h:=U5c c s ks he [];rw[List.append_nil] at h;have h0:P5a c (M2b c s)=0:=by unfold P5a;rw[if_pos (Q9a he).1,h];unfold Q0a;rw[if_neg (λh2=>h2.2 rfl)]
 refine⟨h0,?_⟩;unfold K0b;rw[if_pos h0,h]
theorem R4c(c:Int)(s:O1a)(ks:s.ok)(he:c5a c s=0)(more:List Int)(hm:more≠[]):P5a c (M2b c s++more)=5:=by have h:=U5c c s ks he more;unfold P5a;rw[if_pos (Q9a he).1,h];unfold Q0a;rw[if_pos ⟨rfl,by have:=List.length_pos_iff.2 hm;simp only[List.length_append];omega⟩]
theorem s3c{c:Int}{a:l1a}(k:a.ok):Bytes (c0b c a):=by
 unfold c0b;split
 ·unfold H3a;split
  ·exact(F0a _ _).append ((F0a _ _).append ((Bytes.zeros 2).append ((e2a _).append (e2a _))))
  ·split
   ·exact F0a _ _
   ·split
    ·split
     ·exact(F0a _ _).append ((F0a _ _).append (F0a _ _))
     ·split
      ·exact(F0a _ _).append ((F0a _ _).append (F0a _ _))
      ·exact(F0a _ _).append ((F0a _ _).append ((F0a _ _).append (e2a _)))
    ·split
     ·exact(F0a _ _).append ((F0a _ _).append (Bytes.zeros 3))
     ·exact Bytes.zeros 4
 ·exact Bytes.nil
theorem V5c{c:Int}{a:l1a}:(c0b c a).length<=70000:=by
 have h1:=v3a a.pat.data.toList;have h2:=v3a a.aft.data.toList;have h3:=v3a a.name.data.toList;unfold c0b;split
 ·unfold H3a;repeat' split
  all_goals (simp only[List.length_append,g0a,List.length_replicate];omega)
 ·simp
theorem t3c{c:Int}{a:O1a}(k:a.ok):Bytes (M2b c a):=by
 unfold M2b;split
 ·unfold p3a;split
  ·exact(F0a _ _).append ((F0a _ _).append (p3b _))
  ·split
   ·exact(F0a _ _).append ((F0a _ _).append (F0a _ _))
   ·split
    ·exact(F0a _ _).append ((F0a _ _).append (Bytes.zeros 3))
    ·exact Bytes.zeros 4
 ·exact Bytes.nil
theorem W5c{c:Int}{a:O1a}:(M2b c a).length<=70000:=by
 unfold M2b;split
 ·rename_i he;obtain⟨_,_,_,_,hl,_,_⟩:=Q9a he;have h1:=O2b a.ents;unfold p3a;repeat' split
  all_goals (simp only[List.length_append,g0a,List.length_replicate];omega)
 ·simp
theorem v8a{xs:List Int}{r:Rd}(hx:Bytes xs)(h:(rdT xs r).2.e=0):r.e=0/\xs.take (rdT xs r).2.p=xs.take r.p++le (e1a ((rdT xs r).1 != 0)) 2:=by obtain⟨m1,m2,m3⟩:=C6a hx (by decide) (show(a1a xs 2 1 5 r).2.e=0 from h);obtain⟨q1,q2⟩:=c4c hx r;refine⟨m1,?_⟩;rw[J1c q1 q2];exact m3
theorem n6b{xs:List Int}{r:Rd}(hx:Bytes xs)(h:(rdK xs r).2.e=0):r.e=0/\xs.take (rdK xs r).2.p=xs.take r.p++le (rdK xs r).1 2:=by obtain⟨m1,m2,m3⟩:=C6a hx (by decide) (show(a1a xs 2 2 5 r).2.e=0 from h);exact⟨m1,m3⟩
theorem u3c{xs:List Int}{r:Rd}(hx:Bytes xs)(h:(t4a xs r).2.e=0):r.e=0/\z0a (t4a xs r).1.name.data.toList=0/\xs.take (t4a xs r).2.p=xs.take r.p++l7a (t4a xs r).1:=by
 obtain⟨t1,t2,t3⟩:=Z7a hx (show(M1a xs (e3 xs r).2).2.e=0 from h);obtain⟨a1,a2,a3⟩:=C6a hx (by decide) (show(a1a xs 8 1048576 5 (e2 xs r)).2.e=0 from t1);obtain⟨z1,z2⟩:=B6a (show(rdZ xs 2 (e1 xs r).2).e=0 from a1);obtain⟨d1,d2⟩:=n6b hx (show(rdK xs r).2.e=0 from z1);refine⟨d1,t2,?_⟩;show xs.take (M1a xs (e3 xs r).2).2.p=xs.take r.p++(le (rdK xs r).1 2++(List.replicate 2 0++(le (a1a xs 8 1048576 5 (e2 xs r)).1 8++C0a (M1a xs (e3 xs r).2).1)))
 rw[t3];show xs.take (a1a xs 8 1048576 5 (e2 xs r)).2.p++_=_
 rw[a3];show xs.take (rdZ xs 2 (e1 xs r).2).p++_++_=_
 rw[z2];show xs.take (rdK xs r).2.p++_++_++_=_
 rw[d2];simp only[List.append_assoc]
theorem o6b{xs:List Int}{r:Rd}(hx:Bytes xs):∀k,(W1a xs r k).2.e=0->r.e=0/\w1a (W1a xs r k).1=0/\xs.take (W1a xs r k).2.p=xs.take r.p++X0a (W1a xs r k).1
 | 0,h=>⟨h,rfl,by show xs.take r.p=xs.take r.p++[];rw[List.append_nil]⟩
 | k+1,h=>by
  have h':(t4a xs (W1a xs r k).2).2.e=0:=h;obtain⟨l1,l2,l3⟩:=u3c hx h';obtain⟨i1,i2,i3⟩:=o6b hx k l1;refine⟨i1,?_,?_⟩
  ·show w1a ((W1a xs r k).1++[(t4a xs (W1a xs r k).2).1])=0
   rw[N2b,if_pos i2];show(if z0a (t4a xs (W1a xs r k).2).1.name.data.toList=0 then w1a [] else _)=0
   rw[if_pos l2];rfl
  ·show xs.take (t4a xs (W1a xs r k).2).2.p=xs.take r.p++X0a ((W1a xs r k).1++[(t4a xs (W1a xs r k).2).1])
   rw[l3,i3,b6a,List.append_assoc];simp only[X0a,List.append_nil]
theorem b2'{xs:List Int}(hx:Bytes xs)(r:Rd):0<=(rdN xs 2 r).1/\(rdN xs 2 r).1<=65535:=by have:=e5a hx 2 r 65536 (by decide) (by decide);exact⟨this.1,by omega⟩
theorem S4c(c:Int){xs:List Int}(hx:Bytes xs)(h:l4a c xs=0):z4a c (m7a c xs)=0/\c0b c (m7a c xs)=xs/\(m7a c xs).ok:=by
 have e0:m7a c xs=(igP c xs).1:=by unfold m7a;rw[if_pos h]
 unfold l4a at h;by_cases hk:J8a c=true;rotate_left
 ·rw[if_neg hk] at h;exact absurd h (by decide)
 rw[if_pos hk] at h;obtain⟨h1,h2⟩:=E4a h;rw[e0];have key:∀a:l1a,o3b c a=a->(c=17->1<=a.cls/\a.cls<=3)->(c=14->z0a a.pat.data.toList=0/\z0a a.aft.data.toList=0)->(c=17->a.cls=3->z0a a.name.data.toList=0)->a.ok->H3a c a=xs->z4a c a=0/\c0b c a=xs/\a.ok:=by
  intro a w1 w2 w3 w4 w6 w7;have hn:s4a c a=true:=by
   unfold s4a L9a;rw[hk,(L0b c a).2 w1];by_cases h17:c=17
   ·obtain⟨q1,q2⟩:=w2 h17;simp[q1,q2]
   ·simp[h17]
  have e:z4a c a=0:=by
   unfold z4a;rw[if_pos hn];split
   ·rename_i h14;rw[if_pos (w3 h14).1];exact(w3 h14).2
   ·split
    ·rename_i h17;exact w4 h17.1 h17.2
    ·rfl
  exact⟨e,by unfold c0b;rw[if_pos e];exact w7,w6⟩
 have zd:=h0a;unfold igP at h1 h2⊢;rcases T4a hk with k | k | k | k | k
 ·subst k;simp only[show ¬((12:Int)=14) by decide,show ¬((12:Int)=16) by decide,show ¬((12:Int)=17) by decide,show ¬((12:Int)=18) by decide,if_false] at h1 h2⊢;obtain⟨u1,v1⟩:=B6a h1;exact key _ rfl (λh=>absurd h (by decide)) (λh=>absurd h (by decide)) (λh=>absurd h (by decide)) zd (whole (r:=rdZ xs 4 rd0) v1 h2)
 ·subst k;simp only[if_true] at h1 h2⊢;obtain⟨u5,w5,v5⟩:=Z7a hx h1;obtain⟨u4,w4,v4⟩:=Z7a hx u5;obtain⟨u3,v3⟩:=B6a u4;obtain⟨u2,v2⟩:=i2a hx u3;obtain⟨u1,v1⟩:=i2a hx u2;refine key _ rfl (λh=>absurd h (by decide)) (λ_=>⟨w4,w5⟩) (λh=>absurd h (by decide)) ⟨zd.dial,zd.glen,zd.gbyte,zd.plen,zd.pbyte,zd.acc,zd.shr,zd.way,zd.opt,zd.lev,zd.dur,b8 hx _,zd.at_,zd.n,zd.data,zd.locks,b2' hx _,zd.cls,zd.siz⟩ ?_;refine whole (r:=(l5 xs).2) ?_ h2;show xs.take (M1a xs (l4 xs).2).2.p=le (l1 xs).1 8++(le (l2 xs).1 2++(List.replicate 2 0++(C0a (M1a xs (l3 xs)).1++C0a (M1a xs (l4 xs).2).1)))
  rw[v5];show xs.take (M1a xs (l3 xs)).2.p++_=_
  rw[v4];show xs.take (rdZ xs 2 (l2 xs).2).p++_++_=_
  rw[v3];show xs.take (rdN xs 2 (l1 xs).2).2.p++_++_++_=_
  rw[v2];show xs.take (rdN xs 8 rd0).2.p++_++_++_++_=_
  rw[v1,show xs.take rd0.p=[] from rfl,List.nil_append];simp only[List.append_assoc];rfl
 ·subst k;simp only[show ¬((16:Int)=14) by decide,if_true,if_false] at h1 h2⊢;obtain⟨u1,v1⟩:=i2a hx h1;refine key _ rfl (λh=>absurd h (by decide)) (λh=>absurd h (by decide)) (λh=>absurd h (by decide)) ⟨zd.dial,zd.glen,zd.gbyte,zd.plen,zd.pbyte,zd.acc,zd.shr,zd.way,zd.opt,zd.lev,zd.dur,b8 hx _,zd.at_,zd.n,zd.data,zd.locks,zd.most,zd.cls,zd.siz⟩ ?_;exact whole (r:=(l1 xs).2) v1 h2
 ·subst k;simp only[show ¬((17:Int)=14) by decide,show ¬((17:Int)=16) by decide,if_true,if_false] at h1 h2⊢;have start:(l2 xs).2.e=0->xs.take (l2 xs).2.p=le (l1 xs).1 8++le (l2 xs).1 2:=by
   intro u;obtain⟨u2,v2⟩:=i2a hx u;obtain⟨u1,v1⟩:=i2a hx u2;show xs.take (rdN xs 2 (l1 xs).2).2.p=_
   rw[v2];show xs.take (rdN xs 8 rd0).2.p++_=_
   rw[v1,show xs.take rd0.p=[] from rfl,List.nil_append];rfl
  by_cases c1:(l2 xs).1=1
  ·simp only[if_pos c1] at h1 h2⊢;obtain⟨u3,v3⟩:=i2a hx h1;have v2:=start u3;refine key _ ?_ (λ_=>?_) (λh=>absurd h (by decide)) (λ_ h3=>?_) ⟨zd.dial,zd.glen,zd.gbyte,zd.plen,zd.pbyte,zd.acc,zd.shr,zd.way,zd.opt,zd.lev,zd.dur,b8 hx _,zd.at_,zd.n,zd.data,zd.locks,zd.most,b2' hx _,b8 hx _⟩ ?_
   ·unfold o3b;rw[if_neg (by decide),if_neg (by decide),if_pos rfl];show(if (l2 xs).1=1 then _ else _)=_
    rw[if_pos c1]
   ·show 1<=(l2 xs).1/\(l2 xs).1<=3
    omega
   ·have h4:(l2 xs).1=3:=h3;omega
   ·refine whole (r:=(t3 xs).2) ?_ h2;show xs.take (rdN xs 8 (l2 xs).2).2.p=if (l2 xs).1=1 then le (l1 xs).1 8++(le (l2 xs).1 2++le (rdN xs 8 (l2 xs).2).1 8) else _
    rw[if_pos c1,v3,v2];simp only[List.append_assoc]
  ·by_cases c2:(l2 xs).1=2
   ·simp only[if_neg c1,if_pos c2] at h1 h2⊢;obtain⟨u3,v3⟩:=v8a hx h1;have v2:=start u3;refine key _ ?_ (λ_=>?_) (λh=>absurd h (by decide)) (λ_ h3=>?_) ⟨zd.dial,zd.glen,zd.gbyte,zd.plen,zd.pbyte,zd.acc,zd.shr,zd.way,zd.opt,zd.lev,zd.dur,b8 hx _,zd.at_,zd.n,zd.data,zd.locks,zd.most,b2' hx _,zd.siz⟩ ?_
    ·unfold o3b;rw[if_neg (by decide),if_neg (by decide),if_pos rfl];show(if (l2 xs).1=1 then _ else if (l2 xs).1=2 then _ else _)=_
     rw[if_neg c1,if_pos c2]
    ·show 1<=(l2 xs).1/\(l2 xs).1<=3
     omega
    ·have h4:(l2 xs).1=3:=h3;omega
    ·refine whole (r:=(t4 xs).2) ?_ h2;show xs.take (rdT xs (l2 xs).2).2.p=if (l2 xs).1=1 then _ else if (l2 xs).1=2 then le (l1 xs).1 8++(le (l2 xs).1 2++le (e1a ((rdT xs (l2 xs).2).1 != 0)) 2) else _
     rw[if_neg c1,if_pos c2,v3,v2];simp only[List.append_assoc]
   ·by_cases c3:(l2 xs).1=3
    ·simp only[if_neg c1,if_neg c2,if_pos c3] at h1 h2⊢;obtain⟨u4,w4,v4⟩:=Z7a hx h1;obtain⟨u3,v3⟩:=v8a hx u4;have v2:=start u3;refine key _ ?_ (λ_=>?_) (λh=>absurd h (by decide)) (λ_ h3=>?_) ⟨zd.dial,zd.glen,zd.gbyte,zd.plen,zd.pbyte,zd.acc,zd.shr,zd.way,zd.opt,zd.lev,zd.dur,b8 hx _,zd.at_,zd.n,zd.data,zd.locks,zd.most,b2' hx _,zd.siz⟩ ?_
     ·unfold o3b;rw[if_neg (by decide),if_neg (by decide),if_pos rfl];show(if (l2 xs).1=1 then _ else if (l2 xs).1=2 then _ else _)=_
      rw[if_neg c1,if_neg c2]
     ·show 1<=(l2 xs).1/\(l2 xs).1<=3
      omega
     ·exact w4
     ·refine whole (r:=(t5 xs).2) ?_ h2;show xs.take (M1a xs (t4 xs).2).2.p=if (l2 xs).1=1 then _ else if (l2 xs).1=2 then _ else le (l1 xs).1 8++(le (l2 xs).1 2++(le (e1a ((rdT xs (l2 xs).2).1 != 0)) 2++C0a (M1a xs (t4 xs).2).1))
      rw[if_neg c1,if_neg c2,v4];show xs.take (rdT xs (l2 xs).2).2.p++_=_
      rw[v3,v2];simp only[List.append_assoc]
    ·simp only[if_neg c1,if_neg c2,if_neg c3] at h1 h2⊢;unfold q3a at h1;split at h1
     ·exact absurd h1 (show ¬(5:Int)=0 by decide)
     ·rename_i hne;exact absurd h1 hne
 ·subst k;simp only[show ¬((18:Int)=14) by decide,show ¬((18:Int)=16) by decide,show ¬((18:Int)=17) by decide,if_true,if_false] at h1 h2⊢;obtain⟨u3,v3⟩:=B6a h1;obtain⟨u2,v2⟩:=i2a hx u3;obtain⟨u1,v1⟩:=i2a hx u2;refine key _ rfl (λh=>absurd h (by decide)) (λh=>absurd h (by decide)) (λh=>absurd h (by decide)) ⟨zd.dial,zd.glen,zd.gbyte,zd.plen,zd.pbyte,zd.acc,zd.shr,zd.way,zd.opt,b1' hx _,zd.dur,b8 hx _,zd.at_,zd.n,zd.data,zd.locks,zd.most,zd.cls,zd.siz⟩ ?_;refine whole (r:=k3 xs) ?_ h2;show xs.take (rdZ xs 3 (k2 xs).2).p=le (l1 xs).1 8++(le (k2 xs).1 1++List.replicate 3 0)
  rw[v3];show xs.take (rdN xs 1 (l1 xs).2).2.p++_=_
  rw[v2];show xs.take (rdN xs 8 rd0).2.p++_++_=_
  rw[v1,show xs.take rd0.p=[] from rfl,List.nil_append];simp only[List.append_assoc];rfl
theorem S1c(c:Int){xs:List Int}(hx:Bytes xs)(h:P5a c xs=0):c5a c (K0b c xs)=0/\M2b c (K0b c xs)=xs/\(K0b c xs).ok:=by
 have e0:K0b c xs=(jgP c xs).1:=by unfold K0b;rw[if_pos h]
 unfold P5a at h;by_cases hk:i6a c=true;rotate_left
 ·rw[if_neg hk] at h;exact absurd h (by decide)
 rw[if_pos hk] at h;obtain⟨h1,h2⟩:=E4a h;rw[e0];have key:∀a:O1a,p8b c a=a->a.kind<=2->a.ents.all G3a=true->a.ents.length<=64->(c=14->w1a a.ents=0)->a.ok->p3a c a=xs->c5a c a=0/\M2b c a=xs/\a.ok:=by
  intro a w1 w2 w3 w4 w5 w6 w7;have hn:Z3a c a=true:=by unfold Z3a;rw[hk,(P9a c a).2 w1];simp
  have e:c5a c a=0:=by
   unfold c5a;rw[if_pos ⟨hn,w2,w3⟩,if_pos w4];split
   ·rename_i h14;exact w5 h14
   ·rfl
  exact⟨e,by unfold M2b;rw[if_pos e];exact w7,w6⟩
 have zd:=I0a;have m0:=o3a hx 2 64 3 rd0 ⟨by decide,by decide⟩ (by decide);have kk:=K1c hx (l1 xs).2;have ek:=L1c hx (m2 xs).2 (m1 xs).1.toNat;have el:=T3b (xs:=xs) (r:=(m2 xs).2) (m1 xs).1.toNat;unfold jgP at h1 h2⊢;rcases u4a hk with k | k | k | k
 ·subst k;simp only[if_true] at h1 h2⊢;obtain⟨u3,w3,v3⟩:=o6b hx _ (show(W1a xs (m2 xs).2 (m1 xs).1.toNat).2.e=0 from h1);obtain⟨u2,v2⟩:=v8a hx u3;obtain⟨u1,_,v1⟩:=C6a hx (by decide) u2;have hl:((W1a xs (m2 xs).2 (m1 xs).1.toNat).1.length:Int)=(m1 xs).1:=by
   rw[el];show((a1a xs 2 64 3 rd0).1.toNat:Int)=(a1a xs 2 64 3 rd0).1
   omega
  refine key _ rfl (show(0:Int)<=2 by decide) ek.2 ?_ (λ_=>w3) ⟨zd.dia,zd.siz,zd.clen,zd.cbyte,zd.lev,zd.dur,zd.made,zd.file,zd.kind,zd.data,zd.n,ek.1⟩ ?_
  ·show(W1a xs (m2 xs).2 (m1 xs).1.toNat).1.length<=64
   have:(m1 xs).1<=64:=m0.2;omega
  ·refine whole (r:=(m3 xs).2) ?_ h2;show xs.take (W1a xs (m2 xs).2 (m1 xs).1.toNat).2.p=le ((W1a xs (m2 xs).2 (m1 xs).1.toNat).1.length:Int) 2++(le (e1a ((rdT xs (m1 xs).2).1 != 0)) 2++X0a (W1a xs (m2 xs).2 (m1 xs).1.toNat).1)
   rw[v3,hl];show xs.take (rdT xs (m1 xs).2).2.p++_=_
   rw[v2];show xs.take (a1a xs 2 64 3 rd0).2.p++_++_=_
   rw[v1,show xs.take rd0.p=[] from rfl,List.nil_append];simp only[List.append_assoc];rfl
 ·subst k;simp only[show ¬((16:Int)=14) by decide,if_true,if_false] at h1 h2⊢;obtain⟨u3,v3⟩:=v8a hx h1;obtain⟨u2,v2⟩:=n6b hx u3;obtain⟨u1,v1⟩:=i2a hx u2;refine key _ rfl kk.2 rfl (Nat.zero_le _) (λ_=>rfl) ⟨zd.dia,b8 hx _,zd.clen,zd.cbyte,zd.lev,zd.dur,zd.made,zd.file,⟨kk.1,?_⟩,zd.data,zd.n,zd.ents⟩ ?_
  ·show(rdK xs (l1 xs).2).1<=255;omega
  ·refine whole (r:=(g3 xs).2) ?_ h2;show xs.take (rdT xs (g2 xs).2).2.p=le (l1 xs).1 8++(le (rdK xs (l1 xs).2).1 2++le (e1a ((rdT xs (g2 xs).2).1 != 0)) 2)
   rw[v3];show xs.take (rdK xs (l1 xs).2).2.p++_=_
   rw[v2];show xs.take (rdN xs 8 rd0).2.p++_++_=_
   rw[v1,show xs.take rd0.p=[] from rfl,List.nil_append];simp only[List.append_assoc];rfl
 ·subst k;simp only[show ¬((17:Int)=14) by decide,show ¬((17:Int)=16) by decide,show ¬((17:Int)=18) by decide,if_false] at h1 h2⊢;obtain⟨u1,v1⟩:=B6a h1;exact key _ rfl (by decide) rfl (Nat.zero_le _) (λ_=>rfl) zd (whole (r:=rdZ xs 4 rd0) v1 h2)
 ·subst k;simp only[show ¬((18:Int)=14) by decide,show ¬((18:Int)=16) by decide,if_true,if_false] at h1 h2⊢;obtain⟨u3,v3⟩:=B6a h1;obtain⟨u2,v2⟩:=i2a hx u3;obtain⟨u1,v1⟩:=i2a hx u2;refine key _ rfl (show(0:Int)<=2 by decide) rfl (Nat.zero_le _) (λ_=>rfl) ⟨zd.dia,zd.siz,zd.clen,zd.cbyte,b1' hx _,zd.dur,zd.made,b8 hx _,zd.kind,zd.data,zd.n,zd.ents⟩ ?_;refine whole (r:=k3 xs) ?_ h2;show xs.take (rdZ xs 3 (k2 xs).2).p=le (l1 xs).1 8++(le (k2 xs).1 1++List.replicate 3 0)
  rw[v3];show xs.take (rdN xs 1 (l1 xs).2).2.p++_=_
  rw[v2];show xs.take (rdN xs 8 rd0).2.p++_++_=_
  rw[v1,show xs.take rd0.p=[] from rfl,List.nil_append];simp only[List.append_assoc];rfl
theorem T4c(c:Int){xs:List Int}(hx:Bytes xs):(m7a c xs).ok:=by
 by_cases h:l4a c xs=0
 ·exact(S4c c hx h).2.2
 ·unfold m7a;rw[if_neg h];exact h0a
theorem U4c(c:Int){xs:List Int}(hx:Bytes xs):(K0b c xs).ok:=by
 by_cases h:P5a c xs=0
 ·exact(S1c c hx h).2.2
 ·unfold K0b;rw[if_neg h];exact I0a
theorem c6a{xs:List Int}(hx:Bytes xs)(r:Rd):(⟨(M1a xs r).1.toArray⟩:ByteArray).size<=262140:=by
 rw[F1c];unfold M1a;split
 ·exact F9b hx _
 ·exact Nat.zero_le _
theorem L9b(c:Int){xs:List Int}(hx:Bytes xs):(m7a c xs).dial.length<=0/\(m7a c xs).data.length<=0/\(m7a c xs).locks.length<=0/\(m7a c xs).name.size<=262140/\(m7a c xs).pat.size<=262140/\(m7a c xs).aft.size<=262140/\(m7a c xs).user.size<=0/\(m7a c xs).share.size<=0:=by
 have z:i0a.name.size<=262140/\i0a.pat.size<=262140/\i0a.aft.size<=262140/\i0a.user.size<=0/\i0a.share.size<=0:=by decide
 by_cases h:l4a c xs=0
 ·unfold m7a;rw[if_pos h];unfold igP;split
  ·exact⟨Nat.zero_le _,Nat.zero_le _,Nat.zero_le _,z.1,c6a hx _,c6a hx _,z.2.2.2⟩
  ·split
   ·exact⟨Nat.zero_le _,Nat.zero_le _,Nat.zero_le _,z⟩
   ·split
    ·split
     ·exact⟨Nat.zero_le _,Nat.zero_le _,Nat.zero_le _,z⟩
     ·split
      ·exact⟨Nat.zero_le _,Nat.zero_le _,Nat.zero_le _,z⟩
      ·split
       ·exact⟨Nat.zero_le _,Nat.zero_le _,Nat.zero_le _,c6a hx _,z.2⟩
       ·exact⟨Nat.zero_le _,Nat.zero_le _,Nat.zero_le _,z⟩
    ·split
     ·exact⟨Nat.zero_le _,Nat.zero_le _,Nat.zero_le _,z⟩
     ·exact⟨Nat.zero_le _,Nat.zero_le _,Nat.zero_le _,z⟩
 ·unfold m7a;rw[if_neg h];exact⟨Nat.zero_le _,Nat.zero_le _,Nat.zero_le _,z⟩
theorem p6b{xs:List Int}(hx:Bytes xs)(r:Rd)(k:Nat):∀e∈(W1a xs r k).1,e.name.size<=262140:=by
 induction k with
 | zero=>intro e h;cases h
 | succ k ih=>
  intro e h;rcases List.mem_append.1 h with h | h
  ·exact ih e h
  ·rw[List.mem_singleton.1 h];exact c6a hx _
theorem M9b(c:Int){xs:List Int}(hx:Bytes xs):(K0b c xs).data.length<=0/\(K0b c xs).ents.length<=64/\∀e∈(K0b c xs).ents,e.name.size<=262140:=by
 by_cases h:P5a c xs=0
 ·obtain⟨h1,_,_⟩:=S1c c hx h;obtain⟨_,_,_,_,hl,_⟩:=Q9a h1;refine⟨?_,hl,?_⟩
  ·unfold K0b;rw[if_pos h];unfold jgP;repeat' split
   all_goals exact Nat.zero_le _
  ·unfold K0b;rw[if_pos h];unfold jgP;split
   ·exact p6b hx _ _
   ·split
    ·intro e h;cases h
    ·split
     ·intro e h;cases h
     ·intro e h;cases h
 ·unfold K0b;rw[if_neg h];exact⟨Nat.zero_le _,Nat.zero_le _,λe h=>by cases h⟩
theorem V4c{c:Int}{a:l1a}(k:a.ok)(h:pae c a=0):gae c (pao c a)=0/\gao c (pao c a)=a:=by
 unfold gae gao pao;unfold pae at h;split
 ·rename_i h1;rw[if_pos h1] at h;exact k1c c a k h
 ·rename_i h1;rw[if_neg h1] at h;split
  ·rename_i h2;rw[if_pos h2] at h;exact E4c c a k h
  ·rename_i h2;rw[if_neg h2] at h;exact O4c c a k h
theorem W4c{c:Int}{a:l1a}(k:a.ok)(h:pae c a=0){more:List Int}(hm:more≠[]):gae c (pao c a++more)≠0:=by
 unfold gae pao;unfold pae at h;split
 ·rename_i h1;rw[if_pos h1] at h;rw[l1c c a k h more hm];decide
 ·rename_i h1;rw[if_neg h1] at h;split
  ·rename_i h2;rw[if_pos h2] at h;rw[F4c c a k h more hm];decide
  ·rename_i h2;rw[if_neg h2] at h;rw[P4c c a k h more hm];decide
theorem X4c{c:Int}{s:O1a}(k:s.ok)(h:pse c s=0):gse c (pso c s)=0/\gso c (pso c s)=s:=by
 unfold gse gso pso;unfold pse at h;split
 ·rename_i h1;rw[if_pos h1] at h;exact n1c c s k h
 ·rename_i h1;rw[if_neg h1] at h;split
  ·rename_i h2;rw[if_pos h2] at h;exact G4c c s k h
  ·rename_i h2;rw[if_neg h2] at h;exact Q4c c s k h
theorem Y4c{c:Int}{s:O1a}(k:s.ok)(h:pse c s=0){more:List Int}(hm:more≠[]):gse c (pso c s++more)≠0:=by
 unfold gse pso;unfold pse at h;split
 ·rename_i h1;rw[if_pos h1] at h;rw[o1c c s k h more hm];decide
 ·rename_i h1;rw[if_neg h1] at h;split
  ·rename_i h2;rw[if_pos h2] at h;rw[H4c c s k h more hm];decide
  ·rename_i h2;rw[if_neg h2] at h;rw[R4c c s k h more hm];decide
theorem r8b{m:W4a}(k:m.ok):Bytes (R5a m):=by
 unfold R5a pso pao;split
 ·split
  ·split
   ·exact C1c k.s
   ·split
    ·exact q3c k.s
    ·exact t3c k.s
  ·split
   ·exact B1c k.a
   ·split
    ·exact p3c k.a
    ·exact s3c k.a
 ·exact Bytes.zeros 0
theorem d4c{m:W4a}(k:m.ok):(R5a m).length<=70000:=by
 unfold R5a pso pao;split
 ·split
  ·split
   ·exact J4c k.s
   ·split
    ·exact P5c
    ·exact W5c
  ·split
   ·exact I4c k.a
   ·split
    ·exact O5c
    ·exact V5c
 ·exact Nat.zero_le _
theorem q6b{h:Hd}{b:List Int}(hb:Bytes b):Bytes (a4a h b):=by
 unfold a4a;split
 ·exact hb
 ·exact hb.append (Bytes.zeros _)
theorem Y4b{m:W4a}(k:m.ok):Bytes (G5a m):=by
 unfold G5a;split
 ·exact(k6a k.h.byte).append (q6b (r8b k))
 ·exact Bytes.zeros 0
theorem T1c{m:W4a}(k:m.ok):(G5a m).length<=70071:=by
 unfold G5a;split
 ·have h1:=H9b m.h (R5a m);have h2:=d4c k;have h3:=n4a k.h.len;simp only[List.length_append];omega
 ·exact Nat.zero_le _
theorem r6b{m:W4a}(k:m.ok)(he:Q5a m=0):U4a m.h (R5a m)=0/\gbA m.h (R5a m)=m.a/\gbS m.h (R5a m)=m.s:=by
 unfold U4a gbA gbS R5a;rw[if_pos he];unfold Q5a at he;by_cases hr:P2a m.h.fl=true
 ·rw[if_pos hr] at he;simp only[if_pos hr];by_cases ha:h1a 13 m.a=0
  ·rw[if_pos ha] at he;obtain⟨h1,h2⟩:=X4c k.s he;rw[h1];exact⟨by rw[if_neg (by decide)],(R5c.1 ha).symm,h2⟩
  ·rw[if_neg ha] at he;exact absurd he (by decide)
 ·rw[if_neg hr] at he;simp only[if_neg hr];by_cases hs:q1a 13 m.s=0
  ·rw[if_pos hs] at he;obtain⟨h1,h2⟩:=V4c k.a he;exact⟨h1,h2,(S5c.1 hs).symm⟩
  ·rw[if_neg hs] at he;exact absurd he (by decide)
theorem U1c{m:W4a}(k:m.ok)(he:Q5a m=0){more:List Int}(hm:more≠[]):U4a m.h (R5a m++more)≠0:=by
 unfold U4a R5a;rw[if_pos he];unfold Q5a at he;by_cases hr:P2a m.h.fl=true
 ·rw[if_pos hr] at he;simp only[if_pos hr];by_cases ha:h1a 13 m.a=0
  ·rw[if_pos ha] at he;have h1:=Y4c k.s he hm;split
   ·decide
   ·exact h1
  ·rw[if_neg ha] at he;exact absurd he (by decide)
 ·rw[if_neg hr] at he;simp only[if_neg hr];by_cases hs:q1a 13 m.s=0
  ·rw[if_pos hs] at he;exact W4c k.a he hm
  ·rw[if_neg hs] at he;exact absurd he (by decide)
theorem v3c(b:List Int)(p n:Nat)(h:n<=p):v7a (b++List.replicate p 0) n=true:=by unfold v7a;rw[decide_eq_true_iff,List.length_append,List.length_replicate,show b.length+p-n=b.length+(p-n) by omega,<-List.drop_drop,List.drop_left,List.drop_replicate,show p-(p-n)=n by omega]
theorem Z4b(b:List Int)(p n:Nat)(h:n<=p):(b++List.replicate p 0).take ((b++List.replicate p 0).length-n)=b++List.replicate (p-n) 0:=by rw[List.length_append,List.length_replicate,show b.length+p-n=b.length+(p-n) by omega,List.take_length_add_append,List.take_replicate,Nat.min_eq_left (by omega)]
theorem X5c{m:W4a}(k:m.ok)(he:Q5a m=0):atN m.h (R5a m++List.replicate (U3b (R5a m).length) 0)=some (U3b (R5a m).length):=by
 obtain⟨p,hp⟩:=xX (U3b (R5a m).length);have hp8:=V4b (R5a m).length;unfold atN;rw[<-hp] at hp8⊢;rw[List.find?_range_eq_some];refine⟨?_,List.mem_range.2 hp8,λn hn=>?_⟩
 ·unfold I6b;rw[v3c _ _ _ (Nat.le_refl _),Z4b _ _ _ (Nat.le_refl _),Nat.sub_self,List.replicate_zero,List.append_nil,(r6b k he).1,List.length_append,List.length_replicate,Nat.add_sub_cancel,<-hp];simp
 ·unfold I6b;rw[Z4b _ _ _ (by omega),show decide (U4a m.h (R5a m++List.replicate (p-n) 0)=0)=false from decide_eq_false (U1c k he (by intro h0;have:=congrArg List.length h0;simp at this;omega))]
  simp
theorem w3c{m:W4a}(k:m.ok)(he:Q3a m=0):O9a (G5a m)=0/\l5b (G5a m)=m:=by
 have hmay:L8a m.h=true:=by
  unfold Q3a at he;by_cases h:L8a m.h=true
  ·exact h
  ·rw[if_neg h] at he;exact absurd he (by decide)
 have hb:Q5a m=0:=by unfold Q3a at he;rwa [if_pos hmay] at he
 obtain⟨g1,g2⟩:=get_put k.h hmay [] (a4a m.h (R5a m));have hmp:G5a m=X4a m.h++a4a m.h (R5a m):=by unfold G5a;rw[if_pos he]
 simp only[List.nil_append,List.length_nil,Int.ofNat_zero] at g1 g2;rw[<-hmp] at g1 g2;have hd:(G5a m).drop 64=a4a m.h (R5a m):=by rw[hmp,List.drop_left' (n4a k.h.len)]
 obtain⟨b1,b2,b3⟩:=r6b k hb;have hc:q1b m.h (a4a m.h (R5a m))=0/\q3b m.h (a4a m.h (R5a m))=R5a m:=by
  unfold q1b q3b a4a;by_cases hn:m.h.nx=0
  ·simp only[if_pos hn];exact⟨b1,trivial⟩
  ·simp only[if_neg hn];rw[X5c k hb];refine⟨if_pos rfl,?_⟩;rw[Option.getD_some,Z4b _ _ _ (Nat.le_refl _),Nat.sub_self,List.replicate_zero,List.append_nil]
 have h1:O9a (G5a m)=0:=by unfold O9a;rw[if_pos g1,g2,hd,hc.1]
 refine⟨h1,?_⟩;unfold l5b;rw[if_pos h1,g2,hd,hc.2,b2,b3]
theorem Z4c{xs:List Int}{n:Nat}(h:v7a xs n=true):n<=xs.length/\xs=xs.take (xs.length-n)++List.replicate n 0:=by
 unfold v7a at h;rw[decide_eq_true_iff] at h;have hl:=congrArg List.length h;rw[List.length_drop,List.length_replicate] at hl;refine⟨by omega,?_⟩
 conv=>lhs;rw[<-List.take_append_drop (xs.length-n) xs]
 rw[h]
theorem n7a{w:World}{base n:Nat}{v:Value}{xs:List Int}(h0:0<n)(hn:n<=65536)(hown:b1a .u8 5 w base v xs)(hx:xs.length<=1000000)(hbase:base<=w.heap.size)(ty:TypeId) :
  ∃v' w',(Builtin.append_ #[31,3] ty #[v,.int .i64 (n:Int)]).run prog w=.ok v' w'/\b1a .u8 5 w' base v' (xs++List.replicate n 0)/\w.grownBy w' v.ownBlock:=by
 obtain⟨i0,hi,hz0,hz1,hz2⟩:=info_parts i3a;have hmax:maxLen=9223372036854775807:=rfl;have ht:prog.underlying 31=some (.slice 5):=underlying31;have htn:prog.underlying 3=some (.int .i64):=underlying3;have hw:IntKind.i64.wrap (n:Int)=n:=by rw[IntKind.wrap_i64];omega
 have hneg:¬((n:Int)<0):=by omega
 have h48i:¬(281474976710656<(n:Int)*(i0.bytes:Int)):=by rw[hz2];omega
 have hns:¬(n*i0.size=0):=by rw[hz1];omega
 have hn0:n≠0:=by omega
 have hOK:=hown.own;rcases hown with⟨rfl,rfl⟩ | ⟨g,z,rfl,hb,hz,hg⟩
 ·have hrun:=Lib.run_append_nil_zeros (P:=prog) w 31 3 ty 5 i0 (.int .u8 0) .i64 .i64 ht htn hi hz0 n h0 (by omega) (by omega) (by rw[hz2];omega);refine⟨_,_,hrun,?_,⟨rfl,rfl,rfl,by simp,λj hj _=>Below.heap_alloc w.drew _ j hj⟩⟩;have:=S5a .u8 5 w base (List.replicate n 0) 0 n (by simp) hbase (by omega);rw[K3a .u8 n,List.nil_append];simpa using this
 ·by_cases hroom:xs.length+n<=xs.length+z
  ·have hst:=run_storeCells_at prog g (xs.length*i0.size) 5 ((List.replicate n (0:Int)).map (Value.int .u8)) 0 _ w hg (by simp[hz1];omega) (by intro u hu;obtain⟨x,_,rfl⟩:=List.mem_map.1 hu;rfl);simp only[Nat.add_zero] at hst;have hzc:(Builtin.zeroCells (Value.int .u8 0).cells n).toList=(List.replicate n (0:Int)).map (Value.int .u8):=by rw[K3a];simp
   refine⟨.slice (some ⟨g,0,none⟩) (xs.length+n) (xs.length+z),w.setRow g ((xs++List.replicate n 0++List.replicate (z-n) 0).map (Value.int .u8)).toArray,?_,.inr ⟨g,z-n,by simp;omega,hb,by simp;omega,setRow_heap w g _ _ 5 _ hg⟩,?_⟩;rotate_left
   ·exact⟨rfl,rfl,rfl,by simp,λj _ hj=>setRow_other w g j _ (λe=>hj (by simp[Value.ownBlock,e]))⟩
   ·have e1:((xs++List.replicate z (0:Int)).map (Value.int .u8)).take (xs.length*i0.size)=xs.map (Value.int .u8):=by rw[hz1,Nat.mul_one,List.map_append,List.take_left' (by simp)]
    have e2:((xs++List.replicate z (0:Int)).map (Value.int .u8)).drop (xs.length*i0.size+((List.replicate n (0:Int)).map (Value.int .u8)).length)=(List.replicate (z-n) (0:Int)).map (Value.int .u8):=by rw[hz1,Nat.mul_one,List.length_map,List.length_replicate,<-List.drop_drop,List.map_append,List.drop_left' (by simp),<-List.map_drop,List.drop_replicate]
    rw[e1,e2,<-hzc] at hst;rw[List.map_append,List.map_append,<-hzc];have hroom2:n<=z:=by omega
    simp[Builtin.append_,run_underlying ht,run_underlying htn,sizeOf,typeInfo,zeroValue,hi,hz0,asInt,asIntOf,hw,hneg,hns,h48i,hroom2,Addr.add_lit,hst,hn0]
  ·have m0a:∀j y,(xs.map (Value.int .u8))[j]? = some y->w.cell? ((⟨g,0,none⟩:Addr).add j)=some y:=hOK.cells (g:=g) rfl;have hfit:=growslice_fits (need:=xs.length+n) (old:=xs.length+z) (bytes:=i0.bytes) (by omega) (by rw[hz2];omega);have h48':¬(281474976710656<Builtin.nextslicecap (xs.length+n) (xs.length+z)*i0.bytes):=by omega
   have h63':¬(9223372036854775807<((xs.length:Int)+(n:Int))):=by omega
   have hfo:=run_firstCells_some (P:=prog) w.drew i0.size xs.length ⟨g,0,none⟩ xs.length (xs.length+z) (xs.map (Value.int .u8)) (by simp[hz1]) (by simpa using m0a);have hnr:¬n<=z:=by omega
   have:=S5a .u8 5 w base (xs++List.replicate n 0) (xs.length+z) (xs.length+n) (by simp) hbase (by omega);refine⟨.slice (some ⟨w.heap.size,0,none⟩) (xs.length+n) (grownCap w (xs.length+n) (xs.length+z) 5),_,?_,this,?_⟩;rotate_left
   ·exact⟨rfl,rfl,rfl,by simp,λj hj _=>Below.heap_alloc w.drew _ j hj⟩
   ·simp[Builtin.append_,run_underlying ht,run_underlying htn,sizeOf,typeInfo,zeroValue,hi,hz0,asInt,asIntOf,hw,hneg,hns,h48i,h48',h63',hn0,Question.forced,hfo,newRow,grownCap,hnr,K3a]
    congr 2
    apply Array.ext';simp[List.append_assoc,List.replicate_append_replicate]
theorem X8a{w:World}{ops:Array Oper}{rest:List Oper}{o:Oper}{a:Act}{Q:Exit->Act->World->Prop}(hgd:o.guard=none)(s x:Operand)
(ho:o.op=.call { callee:=.builtin .append,args:=#[s,x],argTypes:=#[31,3] })
(base n:Nat)(v:Value)(xs:List Int)(hs:a.eval s=v)(hx:a.eval x=.int .i64 (n:Int))(hown:b1a .u8 5 w base v xs)(h0:0<n)(hn:n<=65536)(hlen:xs.length<=1000000)(hbase:base<=w.heap.size)
(h:∀v' w',Hid (b1a .u8 5 w' base v' (xs++List.replicate n 0))->Hid (Below base w w')->wpList prog ops Q rest (a.put o.dst v') w') :
  wpList prog ops Q (o::rest) a w:=by
 have hOK:=hown.own;obtain⟨v',w',hrun,h2,h3⟩:=n7a h0 hn hown hlen hbase o.type;exact Lib.wpList_append_run w hgd s x _ _ ho _ _ hs hx v' w' hrun (h v' w' h2 ((Below.refl _ _).grown h3 hbase (λk hk=>(World.ownsRow.lt hOK k hk).1)))
def D2a(s:Nat):List Int->List Int
 | []=>[]
 | x::r=>le x s++D2a s r
theorem N9b(s:Nat)(xs:List Int)(x:Int):D2a s (xs++[x])=D2a s xs++le x s:=by
 induction xs with
 | nil=>simp[D2a]
 | cons a r ih=>simp[D2a,ih,List.append_assoc]
theorem s6b(s:Nat)(xs:List Int):(D2a s xs).length=s*xs.length:=by
 induction xs with
 | nil=>rfl
 | cons a r ih=>simp only[D2a,List.length_append,g0a,ih,List.length_cons,Nat.mul_add,Nat.mul_one];omega
theorem G7b(s:Nat)(xs:List Int):Bytes (D2a s xs):=by
 induction xs with
 | nil=>exact Bytes.nil
 | cons a r ih=>exact(F0a _ _).append ih
def A1b(w:World)(s:Nat)(vs:List Int)(e:Ending)(w':World):Prop:=∃v,e=.returned v/\b1a .u8 5 w' w.heap.size v (D2a s vs)/\BW w w'
theorem Q2b(w:World)(gl m s:Nat)(vs:List Int)(hB:Blk w gl 25 (vs.map (Value.int .u64)))(hl:vs.length=m)(hm:m<=1000)(hs:u3a (s:Int)=true)(hv:∀x∈vs,0<=x/\x<256^s) :
  Calls prog 90 #[.int .i64 (s:Int),.slice (some ⟨gl,0,none⟩) m m] w (A1b w s vs):=by
 have hs8:1<=s/\s<=8:=by rcases S1a hs with h | h | h | h<;>omega
 obtain⟨hs1,hs8⟩:=hs8;have hgl:=hB.lt;have HBl:=hI hB;have HL:=hI hl;have hp8:(256:Int)^s<=18446744073709551616:=by
  rcases S1a hs with h | h | h | h
  ·obtain rfl:s=1:=by omega
   decide
  ·obtain rfl:s=2:=by omega
   decide
  ·obtain rfl:s=4:=by omega
   decide
  ·obtain rfl:s=8:=by omega
   decide
 have CP:Hid (∀(w:World) (x:Int),x∈vs->Calls prog 32 #[.int .u64 x,.int .i64 (s:Int)] w λe w'=>∃A',e=.returned (.tuple #[.slice A' s s,.int .i64 0])/\p2a w' w.heap.size A' (le x s)/\BW w w'):=λw x hx=>by
  obtain⟨h0,h1⟩:=hv x hx;have h:=P8a w x (s:Int) ⟨h0,by omega⟩ (by omega);unfold z5a at h;have hp:N4a x (s:Int)=true:=by unfold N4a;rw[hs,Int.toNat_natCast,decide_eq_true h1];rfl
  unfold e7a N5a at h;rw[if_pos hp,if_pos hp,Int.toNat_natCast,g0a] at h;exact h
 have HQ:Hid (∀e w',(∃v,e=.returned v/\b1a .u8 5 w' w.heap.size v (D2a s vs)/\BW w w')->A1b w s vs e w'):=λ_ _ h=>h
 have HLB:Hid (∀x:Int,(le x s).length=s/\Bytes (le x s)):=λx=>⟨g0a x s,F0a x s⟩
 have HNL:Hid (∀j,j<=m->(D2a s (vs.take j)).length<=8000):=λj hj=>by rw[s6b,List.length_take];have h1:s*min j vs.length<=8*1000:=Nat.mul_le_mul hs8 (by omega);omega
 have HST:Hid (∀(j:Nat) (x:Int),vs[j]? = some x->D2a s (vs.take (j+1))=D2a s (vs.take j)++le x s):=λj x hx=>by rw[List.take_add_one,hx,Option.toList_some,N9b]
 have HN:Hid (D2a s (vs.take m)=D2a s vs):=by show _=_;rw[<-hl,List.take_length]
 have H0:Hid (D2a s (vs.take 0)=[]):=by show _=_;rw[List.take_zero];rfl
 obtain⟨nb,hnb⟩:∃f:Nat->List Int,f=λj=>D2a s (vs.take j):=⟨_,rfl⟩
 have hnb2:∀j,D2a s (vs.take j)=nb j:=λj=>by rw[hnb]
 simp only[hnb2] at HNL HST HN H0;rw[<-HN.o] at HQ;obtain⟨lb,hlb⟩:∃f:Int->List Int,f=λx=>le x s:=⟨_,rfl⟩
 have hlb2:∀x,le x s=lb x:=λx=>by rw[hlb]
 simp only[hlb2] at CP HLB HST;have HMEM:Hid (∀(j:Nat) (x:Int),vs[j]? = some x->x∈vs):=λj x h=>List.mem_of_getElem? h
 have HGET:Hid (∀j,j<m->∃x,vs[j]? = some x):=λj hj=>⟨_,List.getElem?_eq_getElem (by omega)⟩
 have HCELL:Hid (∀(j:Nat) (x:Int),vs[j]? = some x->(vs.map (Value.int .u64))[j]? = some (.int .u64 x)):=λj x h=>by simp[h]
 clear hB hl hv hs hp8 hnb hnb2 hlb hlb2 HN;go_enter func90,ntmps90;go_wp2;go_loopw [5,12] (λv i wr=>∃j:Nat,i=.int .i64 j/\j<=m/\Hid (b1a .u8 5 wr w.heap.size v (nb j))/\Hid (BW w wr)) (λ_ i _=>m-(intOf i).toNat)
 case atStart=>exact⟨0,rfl,Nat.zero_le _,by rw[H0.o];exact b1a.nil _ _ _ _,Below.refl _ _⟩
 case round=>
  obtain⟨j,rfl,hj,HO,HB1⟩:=hrel;by_cases hlt2:j<m
  ·obtain⟨x,hx⟩:=HGET.o j hlt2;have HKl:=hI (HBl.o.over HB1.o);have hc:wr.cell? ⟨gl,j,none⟩=some (.int .u64 x):=(HKl.o.cell j).trans (HCELL.o j x hx);have HS:=hI (HST.o j x hx);have HM:=hI (HMEM.o j x hx);have hnl:=HNL.o j hj;have hsz:=HB1.o.size;clear hx;go_wp2_with fail;refine(CP.o wr x HM.o).mono ?_;rintro e v1 ⟨A',rfl,hf,L1⟩;have HH:=hI (hf.holds (HLB.o x).1 (HLB.o x).2 (by omega));have HO1:=hI (HO.o.below L1);have HB2:=hI (HB1.o.trans (L1.mono hsz));have hll:=(HLB.o x).1;have hsz1:=HB2.o.size;clear hf L1 hc HKl HO HB1;go_wp2_with(first|(at_builtin;refine X2a rfl (.tmp 22) (.tmp 23) rfl w.heap.size _ (nb j) rfl HO1.o v1.heap.size A' s s (lb x) rfl HH.o (by omega) hsz1 ?_;intro u5 v5 HO5 L5)|fail)
   rw[<-HS.o] at HO5;have HB5:=hI (HB2.o.trans L5);clear HO1 HB2 L5 HH HS;go_roundw
   case rel=>exact⟨j+1,by simp,by omega,HO5,HB5⟩
   case measure=>simp[intOf];omega
  ·obtain rfl:j=m:=by omega
   go_wp2;go_ret;exact HQ.o _ _ ⟨_,rfl,HO.o,HB1.o⟩
end Go.Proofs.YtjpcifmeimcikaaGreatDoor
