import Derived.StillTailTactics
import Derived.Lib.SlBytesConst
import Derived.Test.YtjpcifmeimcikaaGreatDoorSAC
import Derived.Test.YtjpcifmeimcikaaGreatDoorS0
set_option linter.all false
set_option maxHeartbeats 8000000
set_option maxRecDepth 100000
namespace Go.Proofs.YtjpcifmeimcikaaGreatDoor
open Go.Proofs.Tryz
set_option maxRecDepth 100000
open Go.RowKit
theorem Z1b(x:Int)(i j k:Nat):0<=B5c x i j k/\B5c x i j k<=4294967295:=A5c _ _ _
theorem L6a(w:World)(x:Int)(n:Nat)(h:0<=x/\x<=4294967295)(hn:n<=32) :
  Calls prog 157 #[.int .u32 x,.int .u64 n] w λe w'=>e=.returned (.int .u32 (rot x n))/\w=w':=by
 obtain⟨h0,h1⟩:=h;go_enter func157,ntmps157;go_wp2;go_ret;exact⟨rfl,rfl⟩
theorem F5b(w:World)(x:Int)(i j k:Nat)(h:0<=x/\x<=4294967295)(hi:i<=32)(hj:j<=32)(hk:k<=32) :
  Calls prog 153 #[.int .u32 x,.int .u64 i,.int .u64 j,.int .u64 k] w λe w'=>e=.returned (.int .u32 (B5c x i j k))/\w=w':=by
 have c1:=λw=>hI (L6a w x i h hi)
 have c2:=λw=>hI (L6a w x j h hj)
 have c3:=λw=>hI (L6a w x k h hk)
 obtain⟨h0,h1⟩:=h;go_enter func153,ntmps153;go_wp2_with fail;refine(c1 _).o.mono ?_;rintro e w' ⟨rfl,rfl⟩;go_wp2_with fail;refine(c2 _).o.mono ?_;rintro e w' ⟨rfl,rfl⟩;go_wp2_with fail;refine(c3 _).o.mono ?_;rintro e w' ⟨rfl,rfl⟩;go_wp2;go_ret;exact⟨rfl,rfl⟩
theorem Y3c:(prog.info? 201).map (λi=>(i.zero,i.size))=some (some (.agg ((List.replicate 64 (0:Int)).map (Value.int .u32)).toArray),64):=by kernel_rfl
theorem B3b:(prog.info? 201).map (·.size)=some 64:=by kernel_rfl
theorem r4c:prog.built 201 []=some ((List.replicate 64 (0:Int)).map (Value.int .u32)).toArray:=by kernel_rfl
theorem f8b:(prog.info? 116).map (·.size)=some 64:=by kernel_rfl
theorem Z3c:(prog.info? 5).map (·.size)=some 1:=by kernel_rfl
theorem J0c:(prog.info? 23).map (·.size)=some 1:=by kernel_rfl
theorem H6b(n:Nat):Hid ((List.replicate n (0:Int)).length=n):=by show _=_;rw[List.length_replicate]
theorem K0c(w:World)(xs:List Int)(hl:xs.length=64)(hx:Bytes xs) :
  Calls prog 152 #[.agg (xs.map (Value.int .u8)).toArray] w λe w'=>e=.returned (.agg ((g3b xs).map (Value.int .u32)).toArray)/\BW w w':=by
 have HL:=hI hl;obtain⟨Z,hZ⟩:∃Z:List Int,Z=List.replicate 64 0:=⟨_,rfl⟩;have HZ:=H6b 64;have hz1:=Y3c;have hz2:=r4c;rw[<-hZ] at HZ hz1 hz2;have HZ1:=hI hz1;have HZ2:=hI hz2;have HZe:=hI hZ;clear hl hZ hz1 hz2;go_enter func152,ntmps152;go_wp2_with(first|(refine V3a rfl _ (.tmp 0) rfl .u8 xs rfl ?_;intro g1 w1 e1 s1 A1 b1)|(refine sN 2 ?_;refine L0a rfl _ rfl .u32 Z 64 HZ1 ?_;intro g2 w2 e2 s2 A2 b2)|(refine sN 3 ?_;refine L0a rfl _ rfl .u32 Z 64 HZ1 ?_;intro g3 w3 e3 s3 A3 b3)|(refine J2a rfl _ rfl .u32 Z HZ2 ?_)|((with_reducible show wpList _ _ _ (⟨none,_,_,_,_,_⟩::_) _ _);refine M0a rfl _ (.tmp 3) (.tmp 11) rfl g3 rfl .u32 _ _ _ rfl A3 64 B3b HZ HZ ?_;intro w4 A4 o4 s4;have A14:=hI (((A1.o.over b2.o).over b3.o).only o4.o (by omega)))|(refine u1a rfl _ (.tmp 1) rfl g1 rfl .u8 _ xs A14 64 _ underlying116 f8b HL ?_)|fail)
 have A24:=hI (((A2.o.over b3.o)).only o4.o (by omega));have B4:Hid (BW w w4):=(step b1.o (step b2.o b3.o)).trans (o4.o.below (by omega));have l23:g2<g3:=by omega
 have lw3:w.heap.size<=g3:=by omega
 have lw2:w.heap.size<=g2:=by omega
 clear A1 A14 A2 A3 b1 b2 b3 o4 s1 s2 s3 e2 e3;go_loopw [13] (λi wr=>∃k:Nat,k<=64/\i=.int .i64 k/\Hid (Arr wr g3 .u32 201 (y3a xs k))/\Hid (s2a g3 w4 wr)) (λi _=>64-(intOf i).toNat)
 case atStart=>exact⟨0,by omega,rfl,by rw[q5b,<-HZe.o];exact A4,s2a.refl _ _⟩
 case round=>
  obtain⟨k,hk,rfl,hR,hO⟩:=hrel;by_cases hlt:k<64
  ·have hq:k/4<64:=by omega
   have gc:=hR.o.cell (i:=k/4) (by rw[N8a];exact hq);have gf:=hR.o.frozen (k/4);rw[p5b _ _ _ hq] at gc;have hws:=K8b xs hx k (by rw[HL.o];exact hlt);obtain⟨z,hz⟩:=xX (word (xs.take k) (k/4));have hb:=hx.getD k;obtain⟨y,hy⟩:=xX (xs.getD k 0);have hS:=hR.o.set (k/4) (z*256+y);rw[hz,hy,L6b xs k (by rw[HL.o];exact hlt),<-hz,<-hy] at hS;have HS:=hI hS;rw[<-hz] at gc hws;rw[<-hy] at hb;have e1:=p0c z y hws.1 hws.2 hb.1 hb.2;have HY:=hI hy;clear hz hS hy hR;obtain⟨hw0,hw1⟩:=hws;obtain⟨hb0,hb1⟩:=hb;go_wp2_with(first|(refine Y4a rfl _ (.tmp 12) (.tmp 13) rfl .u8 xs rfl 64 _ underlying116 underlying5 Z3c k rfl hlt HL ?_;rw[<-HY.o])|fail)
   go_roundw
   case rel=>exact⟨k+1,by omega,by go_num,HS,hO.o.setCell _ _⟩
   case measure=>simp[intOf];omega
  ·have hS:=hR.o;rw[show k=64 by omega,r5b xs HL.o] at hS;have hge:(64:Int)<=(k:Int):=by omega
   have HS:Hid (Arr wr g3 .u32 201 (c2a xs 0)):=hS;have A2r:=hI (A24.o.only hO.o (by omega));have Br:Hid (BW w wr):=B4.o.trans (hO.o.below (by omega));have s3:=hS.lt;clear hR hS hO A4 A24 B4 hlt s4;go_wp2_with fail;obtain⟨w5,hw5⟩:=xX wr;rw[<-hw5] at A2r Br s3 HS⊢;clear hw5;go_loopw [6] (λi wr=>∃t:Nat,16<=t/\t<=64/\i=.int .i64 t/\Hid (Arr wr g3 .u32 201 (c2a xs (t-16)))/\Hid (s2a g3 w5 wr)) (λi _=>64-(intOf i).toNat)
   case atStart=>exact⟨16,by omega,by omega,rfl,HS,s2a.refl _ _⟩
   case round=>
    obtain⟨t,ht,hk,rfl,hR,hO⟩:=hrel;have hlen:=hI (t5b xs (t-16) (by omega));by_cases hlt:t<64
    ·have g15:=hR.o.cell (i:=t-15) (by rw[hlen.o];omega);have g2':=hR.o.cell (i:=t-2) (by rw[hlen.o];omega);have g7:=hR.o.cell (i:=t-7) (by rw[hlen.o];omega);have g16:=hR.o.cell (i:=t-16) (by rw[hlen.o];omega);have hw:=J8b xs hx (t-16);have b15:=hw.getD (t-15);have b2:=hw.getD (t-2);obtain⟨x15,hx15⟩:=xX ((c2a xs (t-16)).getD (t-15) 0);obtain⟨x2,hx2⟩:=xX ((c2a xs (t-16)).getD (t-2) 0);obtain⟨x7,hx7⟩:=xX ((c2a xs (t-16)).getD (t-7) 0);obtain⟨x16,hx16⟩:=xX ((c2a xs (t-16)).getD (t-16) 0);rw[<-hx15] at g15 b15;rw[<-hx2] at g2' b2;rw[<-hx7] at g7;rw[<-hx16] at g16;have H15:=hI hx15;have H2:=hI hx2;have H7:=hI hx7;have H16:=hI hx16;clear hx15 hx2 hx7 hx16 hw;have gf:=hR.o.frozen t;have c7:=λw=>hI (L6a w x15 7 b15 (by omega))
     have c18:=λw=>hI (L6a w x15 18 b15 (by omega))
     have c17:=λw=>hI (L6a w x2 17 b2 (by omega))
     have c19:=λw=>hI (L6a w x2 19 b2 (by omega))
     obtain⟨b150,b151⟩:=b15;obtain⟨b20,b21⟩:=b2;have i15:IntKind.i64.wrap ((t:Int)-15)=(t:Int)-15:=IntWalk.i64_in _ (by omega);have i2:IntKind.i64.wrap ((t:Int)-2)=(t:Int)-2:=IntWalk.i64_in _ (by omega);have j15:0<=(t:Int)-15:=by omega
     have j2:0<=(t:Int)-2:=by omega
     have k15:(t:Int)-15<64:=by omega
     have k2:(t:Int)-2<64:=by omega
     have n15:((t:Int)-15).toNat=t-15:=by omega
     have n2:((t:Int)-2).toNat=t-2:=by omega
     go_wp2_with fail;go_quiet (fail);clear i15 i2 j15 j2 k15 k2 n15 n2 b150 b151 b20 b21;go_wp2_with fail;refine(c7 _).o.mono ?_;rintro e w' ⟨rfl,rfl⟩;go_wp2_with fail;refine(c18 _).o.mono ?_;rintro e w' ⟨rfl,rfl⟩;go_wp2_with fail;refine(c17 _).o.mono ?_;rintro e w' ⟨rfl,rfl⟩;go_wp2_with fail;refine(c19 _).o.mono ?_;rintro e w' ⟨rfl,rfl⟩;obtain⟨wx,hwx⟩:=xX (wr.drewN nq);have hRx:Hid (Arr wx g3 .u32 201 (c2a xs (t-16))):=by rw[hwx];exact hR.o.drewN nq
     have hOx:Hid (s2a g3 w5 wx):=by rw[hwx];exact hO.o.drewN nq
     rw[<-hwx];clear g7 g16 gf hR hO hwx;have g7:=hRx.o.cell (i:=t-7) (by rw[hlen.o];omega);have g16:=hRx.o.cell (i:=t-16) (by rw[hlen.o];omega);have g0:=hRx.o.cell (i:=t) (by rw[hlen.o];omega);have gf:=hRx.o.frozen t;rw[<-H7.o] at g7;rw[<-H16.o] at g16;obtain⟨x0,hx0⟩:=xX ((c2a xs (t-16)).getD t 0);rw[<-hx0] at g0;clear hx0;have i7:IntKind.i64.wrap ((t:Int)-7)=(t:Int)-7:=IntWalk.i64_in _ (by omega);have i16:IntKind.i64.wrap ((t:Int)-16)=(t:Int)-16:=IntWalk.i64_in _ (by omega);have j7:0<=(t:Int)-7:=by omega
     have j16:0<=(t:Int)-16:=by omega
     have k7:(t:Int)-7<64:=by omega
     have k16:(t:Int)-16<64:=by omega
     have n7:((t:Int)-7).toNat=t-7:=by omega
     have n16:((t:Int)-16).toNat=t-16:=by omega
     go_wp2_with fail;have m7:7<=(t:Int):=by omega
     have m16:16<=(t:Int):=by omega
     go_still_tail 15,(by kernel_rfl);change wpList _ _ _ _ _ wx.drew
     go_wp2_with fail;go_roundw
     case rel=>
      refine⟨t+1,by omega,by omega,by go_num,?_,(hOx.o.setCell _ _).drewN 1⟩;have hS:=hRx.o.set t (p4b (c2a xs (t-16)) t);have hq:=u5b xs (t-16) (by omega) (p4b (c2a xs (t-16)) t) (by rw[show 16+(t-16)=t by omega]);rw[show 16+(t-16)=t by omega] at hq;rw[hq] at hS;rw[show t+1-16=t-16+1 by omega];have e:∀a b c d:Int,(a+b+c+d)%4294967296=IntKind.u32.wrap (IntKind.u32.wrap (IntKind.u32.wrap (a+b)+c)+d):=by intro a b c d;simp only[IntKind.wrap_u32'];omega
      have hn:p4b (c2a xs (t-16)) t=(N6c x2+x7+M6c x15+x16)%4294967296:=by rw[e];unfold p4b;rw[<-H15.o,<-H2.o,<-H7.o,<-H16.o]
      rw[hn] at hS;exact hS.drew
     case measure=>simp[intOf];omega
    ·have hge2:(64:Int)<=(t:Int):=by omega
     have hS:=hR.o;rw[show t=64 by omega] at hS;have hF:Hid (Arr wr g3 .u32 201 (g3b xs)):=by
      have e:c2a xs 48=g3b xs:=by unfold c2a g3b;simp
      rw[<-e];exact hS
     have A2f:=hI (A2r.o.only hO.o (by omega));have Bf:Hid (BW w wr):=Br.o.trans (hO.o.below lw3);have HLs:=hI (s5b xs);obtain⟨Sc,hSc⟩:=xX (g3b xs);rw[<-hSc] at hF HLs;have HSc:=hI hSc;clear hS hR hO hSc;go_wp2_with(first|(refine sN 72 ?_;refine u1a rfl _ (.tmp 3) rfl g3 rfl .u32 _ Sc hF 64 _ underlying201 B3b HLs ?_)|((with_reducible show wpList _ _ _ (⟨none,_,_,_,_,_⟩::_) _ _);refine M0a rfl _ (.tmp 2) (.tmp 72) rfl g2 rfl .u32 _ _ _ rfl A2f 64 B3b HZ HLs ?_;intro w6 A6 o6 s6)|fail)
     rw[<-HSc.o];refine bodyPost_ret (v:=.agg (Sc.map (Value.int .u32)).toArray) ?_ rfl ⟨rfl,Bf.o.trans (o6.o.below (by omega))⟩;exact results_cell_row rfl _ _ g2 _ _ (0,0) _ rfl A6.o underlying201 rfl (by rw[B3b];have:=HLs.o;simp[this])
def KK:List Int:=[
 0x428a2f98,0x71374491,0xb5c0fbcf,0xe9b5dba5,0x3956c25b,0x59f111f1,0x923f82a4,0xab1c5ed5,
 0xd807aa98,0x12835b01,0x243185be,0x550c7dc3,0x72be5d74,0x80deb1fe,0x9bdc06a7,0xc19bf174,
 0xe49b69c1,0xefbe4786,0x0fc19dc6,0x240ca1cc,0x2de92c6f,0x4a7484aa,0x5cb0a9dc,0x76f988da,
 0x983e5152,0xa831c66d,0xb00327c8,0xbf597fc7,0xc6e00bf3,0xd5a79147,0x06ca6351,0x14292967,
 0x27b70a85,0x2e1b2138,0x4d2c6dfc,0x53380d13,0x650a7354,0x766a0abb,0x81c2c92e,0x92722c85,
 0xa2bfe8a1,0xa81a664b,0xc24b8b70,0xc76c51a3,0xd192e819,0xd6990624,0xf40e3585,0x106aa070,
 0x19a4c116,0x1e376c08,0x2748774c,0x34b0bcb5,0x391c0cb3,0x4ed8aa4a,0x5b9cca4f,0x682e6ff3,
 0x748f82ee,0x78a5636f,0x84c87814,0x8cc70208,0x90befffa,0xa4506ceb,0xbef9a3f7,0xc67178f2]
theorem W32.of_all{xs:List Int}(h:xs.all (λx=>decide (0<=x)&&decide (x<=4294967295))=true):W32 xs:=λx hx=>by have:=List.all_eq_true.1 h x hx;simpa using this
theorem a7c:W32 KK:=W32.of_all (by decide +kernel)
def z0b(w:World):Prop:=∀i,i<64->w.cell? ⟨0,i,none⟩=some (.int .u32 (KK.getD i 0))
theorem z0b.lt{w:World}(h:z0b w):0<w.heap.size:=by have:=World.block_lt_of_cell? w _ (h 0 (by omega));exact this
theorem z0b.below{w w':World}(h:z0b w)(hb:BW w w'):z0b w':=λi hi=>by have hl:=h.lt;rw[<-h i hi];exact hb.cell (p:=⟨0,i,none⟩) hl
theorem z0b.only{w w':World}{g:Nat}(h:z0b w)(hb:s2a g w w')(hg:0<g):z0b w':=λi hi=>by rw[<-h i hi];simp only[World.cell?];rw[hb.rest _ (by omega)]
theorem z0b.drewN{w:World}(h:z0b w)(n:Nat):z0b (w.drewN n):=h
structure St where
 a:Int
 b:Int
 c:Int
 d:Int
 e:Int
 f:Int
 g:Int
 h:Int
def St.list(s:St):List Int:=[s.a,s.b,s.c,s.d,s.e,s.f,s.g,s.h]
def St.of(l:List Int):St:=⟨l.getD 0 0,l.getD 1 0,l.getD 2 0,l.getD 3 0,l.getD 4 0,l.getD 5 0,l.getD 6 0,l.getD 7 0⟩
def ch(e f g:Int):Int:=bits .xor .u32 (bits .and .u32 e f) (bits .and .u32 (bits .xor .u32 IntKind.u32.max e) g)
def maj(a b c:Int):Int:=bits .xor .u32 (bits .xor .u32 (bits .and .u32 a b) (bits .and .u32 a c)) (bits .and .u32 b c)
def B6c(s:St)(k x:Int):Int:=(s.h+B5c s.e 6 11 25+ch s.e s.f s.g+k+x)%4294967296
def O6c(s:St):Int:=(B5c s.a 2 13 22+maj s.a s.b s.c)%4294967296
def G5b(k x:Int)(s:St):St:=⟨(B6c s k x+O6c s)%4294967296,s.a,s.b,s.c,(s.d+B6c s k x)%4294967296,s.e,s.f,s.g⟩
def D5c(K W:List Int)(s:St):Nat->St
 | 0=>s
 | t+1=>G5b (K.getD t 0) (W.getD t 0) (D5c K W s t)
def a9b(old new:List Int):List Int:=List.zipWith (λx y=>(x+y)%4294967296) old new
def M6a(state block:List Int):List Int:=a9b state (D5c KK (g3b block) (St.of state) 64).list
def St.W(s:St):Prop:=(0<=s.a/\s.a<=4294967295)/\(0<=s.b/\s.b<=4294967295)/\(0<=s.c/\s.c<=4294967295)/\(0<=s.d/\s.d<=4294967295)/\(0<=s.e/\s.e<=4294967295)/\(0<=s.f/\s.f<=4294967295)/\(0<=s.g/\s.g<=4294967295)/\(0<=s.h/\s.h<=4294967295)
theorem St.of_w{l:List Int}(h:W32 l):(St.of l).W:=⟨h.getD 0,h.getD 1,h.getD 2,h.getD 3,h.getD 4,h.getD 5,h.getD 6,h.getD 7⟩
theorem b3c{s:St}(h:s.W)(k x:Int):(G5b k x s).W:=by obtain⟨ha,hb,hc,hd,he,hf,hg,hh⟩:=h;refine⟨?_,ha,hb,hc,?_,he,hf,hg⟩<;>(simp only[G5b];omega)
theorem a4c{s:St}(h:s.W)(K W:List Int)(t:Nat):(D5c K W s t).W:=by
 induction t with
 | zero=>exact h
 | succ t ih=>exact b3c ih _ _
theorem E5c{s:St}(h:s.W):W32 s.list:=by obtain⟨ha,hb,hc,hd,he,hf,hg,hh⟩:=h;intro x hx;simp only[St.list,List.mem_cons,List.not_mem_nil,or_false] at hx;rcases hx with rfl | rfl | rfl | rfl | rfl | rfl | rfl | rfl<;>assumption
theorem r8a(l m:List Int)(h:l.length=8)(h':m.length=8):(a9b l m).length=8:=by simp[a9b,h,h']
theorem F5c(l m:List Int):W32 (a9b l m):=by intro x hx;obtain⟨i,hi,rfl⟩:=List.getElem_of_mem hx;simp only[a9b,List.getElem_zipWith];omega
theorem a2b(s b:List Int)(h:s.length=8):(M6a s b).length=8:=r8a _ _ h rfl
theorem L0c(s b:List Int):W32 (M6a s b):=F5c _ _
def o6a(old new:List Int)(i:Nat):List Int:=(a9b old new).take i++old.drop i
theorem b9b(l m:List Int)(h:l.length=8)(h':m.length=8)(i:Nat)(hi:i<=8):(o6a l m i).length=8:=by simp[o6a,r8a l m h h',h];omega
theorem c7b(l m:List Int)(h:l.length=8)(h':m.length=8)(i:Nat)(hi:i<8):(o6a l m i).getD i 0=l.getD i 0:=by
 have hl:((a9b l m).take i).length=i:=by simp[r8a l m h h'];omega
 unfold o6a;rw[List.getD_eq_getElem?_getD,List.getElem?_append_right (by omega),hl,Nat.sub_self,List.getElem?_drop,Nat.add_zero,<-List.getD_eq_getElem?_getD]
theorem c9b(l m:List Int)(h:l.length=8)(h':m.length=8)(i:Nat)(hi:i<8):(o6a l m i).set i ((l.getD i 0+m.getD i 0)%4294967296)=o6a l m (i+1):=by
 have hl:((a9b l m).take i).length=i:=by simp[r8a l m h h'];omega
 have hil:i<(a9b l m).length:=by rw[r8a l m h h'];exact hi
 unfold o6a;rw[List.set_append_right _ _ (by omega),hl,Nat.sub_self,List.drop_eq_getElem_cons (by omega),List.set_cons_zero,List.take_succ_eq_append_getElem hil,List.append_assoc];have e:(a9b l m)[i]=(l.getD i 0+m.getD i 0)%4294967296:=by
  have h1:i<l.length:=by omega
  have h2:i<m.length:=by omega
  simp[a9b,h1,h2]
 rw[e];rfl
theorem d7b(l m:List Int):o6a l m 0=l:=by simp[o6a]
theorem e7b(l m:List Int)(h:l.length=8)(h':m.length=8):o6a l m 8=a9b l m:=by unfold o6a;rw[List.take_of_length_le (by rw[r8a l m h h'];omega),List.drop_of_length_le (by omega),List.append_nil]
theorem d9b{P:Program}{f:FuncId}{args:Array Value}{w:World}{n:Nat}{v:Value}
(h:Calls P f args (w.drewN n) λe w'=>e=.returned v/\w.drewN n=w'):Calls P f args (w.drewN n) λe w''=>e=.returned v/\∃m,w''=w.drewN m:=h.mono λ_ _ ⟨he,hm⟩=>⟨he,n,hm.symm⟩
theorem M0c:(prog.info? 185).map (λi=>(i.zero,i.size))=some (some (.agg ((List.replicate 8 (0:Int)).map (Value.int .u32)).toArray),8):=by kernel_rfl
theorem G8a:(prog.info? 185).map (·.size)=some 8:=by kernel_rfl
theorem N0c(w:World)(st xs:List Int)(hs:st.length=8)(hsw:W32 st)(hl:xs.length=64)(hx:Bytes xs)(hK:z0b w) :
  Calls prog 148 #[.agg (st.map (Value.int .u32)).toArray,.agg (xs.map (Value.int .u8)).toArray] w
   λe w'=>e=.returned (.agg ((M6a st xs).map (Value.int .u32)).toArray)/\BW w w':=by
 have HL:=hI hl;have HS:=hI hs;obtain⟨Z,hZ⟩:∃Z:List Int,Z=List.replicate 64 0:=⟨_,rfl⟩;have HZ:=H6b 64;have hz1:=Y3c;rw[<-hZ] at HZ hz1;obtain⟨Y,hY⟩:∃Z:List Int,Z=List.replicate 8 0:=⟨_,rfl⟩;have HY:=H6b 8;have hy1:=M0c;rw[<-hY] at HY hy1;have HZ1:=hI hz1;have HY1:=hI hy1;have cw:=λw=>hI (K0c w xs hl hx)
 have hsl:=s5b xs;have hscw:=m4c xs hx;obtain⟨sc,hsc⟩:=xX (g3b xs);rw[<-hsc] at cw hsl hscw;have HSC:=hI hsc;have HSL:=hI hsl;have HK:=hI hK;clear hl hs hZ hz1 hY hy1 hsc hsl hK;go_enter func148,ntmps148;go_wp2_with(first|(refine sN 2 ?_;refine V3a rfl _ (.tmp 0) rfl .u32 st rfl ?_;intro g2 w2 e2 s2 A2 b2)|(refine sN 3 ?_;refine V3a rfl _ (.tmp 1) rfl .u8 xs rfl ?_;intro g3 w3 e3 s3 A3 b3)|(refine sN 4 ?_;refine L0a rfl _ rfl .u32 Y 8 HY1 ?_;intro g4 w4 e4 s4 A4 b4;have A34:=hI (A3.o.over b4.o))|(refine sN 20 ?_;refine u1a rfl _ (.tmp 3) rfl g3 rfl .u8 _ xs A34 64 _ underlying116 f8b HL ?_)|fail)
 refine(cw _).o.mono ?_;rintro e w5 ⟨rfl,b5⟩;have B5:=hI b5;clear b5;go_wp2_with(first|(refine sN 5 ?_;refine L0a rfl _ rfl .u32 Z 64 HZ1 ?_;intro g5 w6 e6 s6 A6 b6)|((with_reducible show wpList _ _ _ (⟨none,_,_,_,_,_⟩::_) _ _);refine M0a rfl _ (.tmp 5) (.tmp 21) rfl g5 rfl .u32 _ _ sc rfl A6 64 B3b HZ HSL ?_;intro w7 A7 o7 s7)|fail)
 have hsz2:=b3.o.size;have hsz3:=b4.o.size;have hsz4:=B5.o.size;have hsz5:=b6.o.size;have B07:Hid (BW w w7):=(step b2.o (step b3.o (step b4.o (step B5.o b6.o)))).trans (o7.o.below (by omega));have A27:=hI (((((A2.o.over b3.o).over b4.o).over B5.o).over b6.o).only o7.o (by omega));have A47:=hI (((A4.o.over B5.o).over b6.o).only o7.o (by omega));have HK7:=hI ((((((HK.o.below b2.o).below b3.o).below b4.o).below B5.o).below b6.o).only o7.o (by have:=HK.o.lt;omega));have l24:g2<g4:=by omega
 have lw2:w.heap.size<=g2:=by omega
 clear A2 b2 A3 b3 A4 b4 A34 B5 A6 b6 o7 hsz2 hsz3 hsz4 hsz5 s2 s3 s4 s6 e3 e4 e6;have k0:=A27.o.cell (i:=0) (by rw[HS.o];omega);have k1:=A27.o.cell (i:=1) (by rw[HS.o];omega);have k2:=A27.o.cell (i:=2) (by rw[HS.o];omega);have k3:=A27.o.cell (i:=3) (by rw[HS.o];omega);have k4:=A27.o.cell (i:=4) (by rw[HS.o];omega);have k5:=A27.o.cell (i:=5) (by rw[HS.o];omega);have k6:=A27.o.cell (i:=6) (by rw[HS.o];omega);have k7:=A27.o.cell (i:=7) (by rw[HS.o];omega);obtain⟨s0,hs0⟩:=xX (St.of st);have hsw0:=St.of_w hsw;rw[<-hs0] at hsw0;have e0:st.getD 0 0=s0.a:=by rw[hs0];rfl
 have e1:st.getD 1 0=s0.b:=by rw[hs0];rfl
 have e2':st.getD 2 0=s0.c:=by rw[hs0];rfl
 have e3:st.getD 3 0=s0.d:=by rw[hs0];rfl
 have e4:st.getD 4 0=s0.e:=by rw[hs0];rfl
 have e5:st.getD 5 0=s0.f:=by rw[hs0];rfl
 have e6:st.getD 6 0=s0.g:=by rw[hs0];rfl
 have e7:st.getD 7 0=s0.h:=by rw[hs0];rfl
 rw[e0] at k0;rw[e1] at k1;rw[e2'] at k2;rw[e3] at k3;rw[e4] at k4;rw[e5] at k5;rw[e6] at k6;rw[e7] at k7;have HS0:=hI hs0;clear e0 e1 e2' e3 e4 e5 e6 e7 hs0;go_quiet (fail);go_wp2_with(first|(refine sN 38 ?_;refine u1a rfl _ (.tmp 5) rfl g5 rfl .u32 _ sc (A7.o.drewN nq) 64 _ underlying201 B3b HSL ?_)|fail)
 clear k0 k1 k2 k3 k4 k5 k6 k7;go_loopw [6,7,8,9,10,11,12,13,39] (λsa sb sc' sd se sf sg sh i wr=>∃t:Nat,t<=64/\i=.int .i64 t/\(∃s:St,Hid (s=D5c KK sc s0 t)/\sa=.int .u32 s.a/\sb=.int .u32 s.b/\sc'=.int .u32 s.c/\sd=.int .u32 s.d/\se=.int .u32 s.e/\sf=.int .u32 s.f/\sg=.int .u32 s.g/\sh=.int .u32 s.h)/\∃n,wr=w7.drewN n)
  (λ_ _ _ _ _ _ _ _ i _=>64-(intOf i).toNat)
 case atStart=>exact⟨0,by omega,rfl,⟨s0,rfl,rfl,rfl,rfl,rfl,rfl,rfl,rfl,rfl⟩,_,rfl⟩
 case round=>
  obtain⟨t,ht,rfl,⟨s,hSt,rfl,rfl,rfl,rfl,rfl,rfl,rfl,rfl⟩,n,rfl⟩:=hrel;by_cases hlt:t<64
  ·have hw:=a4c hsw0 KK sc t;rw[<-hSt.o] at hw;obtain⟨a,b,c,d,e,f,g,h8⟩:=s;obtain⟨⟨a0,a1⟩,⟨b0,b1⟩,⟨c0,c1⟩,⟨d0,d1⟩,⟨e0,e1⟩,⟨f0,f1⟩,⟨g0,g1⟩,⟨h0,h1⟩⟩:=hw;have hsig:IntKind.u32.signed=false:=rfl;simp only at a0 a1 b0 b1 c0 c1 d0 d1 e0 e1 f0 f1 g0 g1 h0 h1;obtain⟨wq,hwq⟩:=xX (w7.drewN n);have gk:wq.cell? ⟨0,t,none⟩=some (.int .u32 (KK.getD t 0)):=by rw[hwq];exact HK7.o t hlt
   rw[<-hwq];have HWQ:=hI hwq;clear hwq;have hk:=a7c.getD t;obtain⟨kt,hkt⟩:=xX (KK.getD t 0);rw[<-hkt] at gk hk;have HKT:=hI hkt;have hx':=hscw.getD t;obtain⟨x,hxe⟩:=xX (sc.getD t 0);rw[<-hxe] at hx';have HXE:=hI hxe;obtain⟨hk0,hk1⟩:=hk;obtain⟨hx0,hx1⟩:=hx';clear hkt hxe;have re:=Z1b e 6 11 25;have ra:=Z1b a 2 13 22;obtain⟨re0,re1⟩:=re;obtain⟨ra0,ra1⟩:=ra;have ct:=λw=>hI (F5b w e 6 11 25 ⟨e0,e1⟩ (by omega) (by omega) (by omega))
   have ct2:=λw=>hI (F5b w a 2 13 22 ⟨a0,a1⟩ (by omega) (by omega) (by omega))
   go_wp2_with(first|(refine Y4a rfl _ (.tmp 38) (.tmp 39) rfl .u32 sc rfl 64 _ underlying201 underlying23 J0c t rfl hlt HSL ?_;rw[<-HXE.o])|fail)
   go_quiet ((go_at_call 153;exact d9b (ct _).o));go_wp2_with fail;refine(ct2 _).o.mono ?_;rintro ee w' ⟨rfl,rfl⟩;go_wp2_with fail;go_roundw
   case rel=>
    refine⟨t+1,by omega,by go_num,⟨G5b kt x ⟨a,b,c,d,e,f,g,h8⟩,?_,?_,rfl,rfl,rfl,?_,rfl,rfl,rfl⟩,n+nq,by rw[HWQ.o,World.drewN_drewN]⟩
    ·show _=_
     rw[hSt.o,HKT.o,HXE.o];rfl
    all_goals simp only[G5b,B6c,O6c,ch,maj]
   case measure=>simp[intOf];omega
  ·have hge:(64:Int)<=(t:Int):=by omega
   have hw:=a4c hsw0 KK sc t;rw[<-hSt.o] at hw;have hlw:=E5c hw;have hSt':Hid (s=D5c KK sc s0 64):=by show _=_;rw[hSt.o,show t=64 by omega]
   clear hSt hw;obtain⟨a,b,c,d,e,f,g,h⟩:=s;obtain⟨w8,hw8⟩:=xX (w7.drewN n);have A28:Hid (Arr w8 g2 .u32 185 (o6a st [a,b,c,d,e,f,g,h] 0)):=by rw[hw8,d7b];exact A27.o.drewN n
   have A48:Hid (Arr w8 g4 .u32 185 Y):=by rw[hw8];exact A47.o.drewN n
   have B08:Hid (BW w w8):=by rw[hw8];exact below_drewN B07.o n
   rw[<-hw8];clear hw8 A27 A47 HK7;go_wp2_with fail;obtain⟨new,hnew⟩:∃new:List Int,new=[a,b,c,d,e,f,g,h]:=⟨_,rfl⟩;have HN:=hI (show new.length=8 by rw[hnew];rfl);have HNe:=hI hnew;rw[<-hnew] at A28;clear hnew;go_loopw [98] (λi wr=>∃k:Nat,k<=8/\i=.int .i64 k/\Hid (Arr wr g2 .u32 185 (o6a st new k))/\Hid (s2a g2 w8 wr)) (λi _=>8-(intOf i).toNat)
   case atStart=>exact⟨0,by omega,rfl,A28,s2a.refl _ _⟩
   case round=>
    obtain⟨k,hk,rfl,hR,hO⟩:=hrel;by_cases hlt:k<8
    ·have hs8:=HS.o;have hn8:=HN.o;have gc:=hR.o.cell (i:=k) (by rw[b9b _ _ hs8 hn8 _ hk];omega);rw[c7b _ _ hs8 hn8 _ hlt] at gc;have gf:=hR.o.frozen k;have hS:=hR.o.set k ((st.getD k 0+new.getD k 0)%4294967296);rw[c9b _ _ hs8 hn8 _ hlt] at hS;have hb:=hsw.getD k;obtain⟨y,hy⟩:=xX (st.getD k 0);rw[<-hy] at gc hS hb;obtain⟨x,hx⟩:=xX (new.getD k 0);rw[<-hx] at hS;have hb':0<=x/\x<=4294967295:=by rw[hx,HNe.o];exact hlw.getD k
     have HX:=hI hx;have hSh:=hI hS;obtain⟨hb0,hb1⟩:=hb;obtain⟨hb2,hb3⟩:=hb';clear hs8 hn8 hS hx hy hR;go_wp2_with(first|(refine Y4a rfl _ (.tmp 97) (.tmp 98) rfl .u32 new (by rw[HNe.o];rfl) 8 _ underlying185 underlying23 J0c k rfl hlt HN ?_;rw[<-HX.o])|fail)
     go_roundw
     case rel=>exact⟨k+1,by omega,by go_num,hSh,hO.o.setCell _ _⟩
     case measure=>simp[intOf];omega
    ·have hge2:(8:Int)<=(k:Int):=by omega
     have hF:Hid (Arr wr g2 .u32 185 (M6a st xs)):=by
      have h0:=hR.o;rw[show k=8 by omega,e7b _ _ HS.o HN.o,HNe.o] at h0;have e:M6a st xs=a9b st [a,b,c,d,e,f,g,h]:=by unfold M6a;rw[<-HSC.o,<-HS0.o,<-hSt'.o];rfl
      rw[e];exact h0
     have A4f:=hI (A48.o.only hO.o (by omega));have Bf:Hid (BW w wr):=B08.o.trans (hO.o.below lw2);have HP:=hI (a2b st xs HS.o);obtain⟨p,hp⟩:=xX (M6a st xs);rw[<-hp] at hF HP;have HPe:=hI hp;clear hR hO hp;go_wp2_with(first|(refine sN 109 ?_;refine u1a rfl _ (.tmp 2) rfl g2 rfl .u32 _ p hF 8 _ underlying185 G8a HP ?_)|((with_reducible show wpList _ _ _ (⟨none,_,_,_,_,_⟩::_) _ _);refine M0a rfl _ (.tmp 4) (.tmp 109) rfl g4 rfl .u32 _ _ p rfl A4f 8 G8a HY HP ?_;intro w9 A9 o9 s9)|fail)
     rw[<-HPe.o];refine bodyPost_ret (v:=.agg (p.map (Value.int .u32)).toArray) ?_ rfl ⟨rfl,Bf.o.trans (o9.o.below (by omega))⟩;exact results_cell_row rfl _ _ g4 _ _ (0,0) _ rfl A9.o underlying185 rfl (by rw[G8a];have:=HP.o;simp[this])
theorem s9a(w:World){ops:Array Oper}{rest:List Oper}{o:Oper}{a:Act}{Q:Exit->Act->World->Prop}
(hg:o.guard=none)(k:IntKind)(l c:Operand)(hop:o.op=Op.makeSlice 31 l c)(L C:Int)(n:Nat)(hl:a.eval l=.int k L)(hc:a.eval c=.int k C)(hL:L=(n:Int))(hC:C=(n:Int))(hn:n<=281474976710656)
(hK:∀w',Hid (Row w' w.heap.size (List.replicate n 0))->BW w w'->wpList prog ops Q rest (a.put o.dst (.slice (some ⟨w.heap.size,0,none⟩) n n)) w') :
  wpList prog ops Q (o::rest) a w:=by
 obtain⟨i0,hi,hz0,hz1,hz2⟩:=info_parts i3a;refine wpList_make_full w hg l c 31 hop w.heap.size 5 i0 (.int .u8 0) 1 underlying31 hi hz0 hz1 k k L C n hl hc hL hC (by rw[hz2];omega) (by unfold maxLen;omega) (Nat.le_refl _) ?_;intro w' hown hgr;refine hK w' ?_ ((Below.refl _ _).grown hgr (Nat.le_refl _) (λk hk=>by cases hk));rcases hown.2 with⟨h0,_⟩ | ⟨g,cap,cur,hv,_,hh,_,_,hcs,htk⟩
 ·cases h0
 ·simp only[Value.slice.injEq,Option.some.injEq,Addr.mk.injEq,and_true,true_and] at hv;obtain⟨rfl,rfl⟩:=hv;show w'.heap[_]? = _
  rw[hh];have e:cur.toList=List.replicate n (.int .u8 0):=by have h1:cur.toList.take (n*1)=cur.toList:=List.take_of_length_le (by simp[hcs]);rw[<-h1,htk];rw[Nat.mul_one];exact toList_madeCells_one (.int .u8 0) n
  rw[List.map_replicate,<-e]
def j2a(n:Int):Nat:=((55-n)%64).toNat
def be8(m:Int):List Int:=(List.range 8).map λi=>m/2^(8*(7-i))%256
def w2a(n:Int):List Int:=if n<1152921504606846976 then 128::(List.replicate (j2a n) 0++be8 (8*n)) else []
theorem C3b(n:Int):j2a n<64:=by unfold j2a;omega
theorem b2b(m:Int):(be8 m).length=8:=by simp[be8]
theorem O0c(m:Int):Bytes (be8 m):=λx hx=>by obtain⟨j,_,rfl⟩:=List.mem_map.1 hx;omega
theorem l3b(n:Int):Bytes (w2a n):=by
 unfold w2a;split
 ·intro x hx;rcases List.mem_cons.1 hx with rfl | hx
  ·omega
  ·exact(Bytes.zeros _).append (O0c _) x hx
 ·exact Bytes.nil
theorem H7a(n:Int)(h:n<1152921504606846976):(w2a n).length=9+j2a n:=by unfold w2a;rw[if_pos h];simp[b2b];omega
theorem C4b(n:Int)(h:¬n<1152921504606846976):w2a n=[]:=by unfold w2a;rw[if_neg h]
def W5a(n:Int)(i:Nat):List Int:=128::(List.replicate (j2a n) 0++((be8 (8*n)).take i++List.replicate (8-i) 0))
theorem e9b(n:Int)(i:Nat)(hi:i<=8):(W5a n i).length=9+j2a n:=by simp[W5a,b2b];omega
theorem f7b(n:Int):(List.replicate (9+j2a n) (0:Int)).set 0 128=W5a n 0:=by unfold W5a;rw[show 9+j2a n=(j2a n+8)+1 by omega,List.replicate_succ,List.set_cons_zero,<-List.replicate_append_replicate];rfl
theorem g7b(n:Int)(h:n<1152921504606846976):W5a n 8=w2a n:=by unfold W5a w2a;rw[if_pos h,List.take_of_length_le (by rw[b2b];exact Nat.le_refl _)];simp
theorem f9b(n:Int)(i:Nat)(hi:i<8)(x:Int)(hx:x=8*n/2^(8*(7-i))%256):(W5a n i).set (1+j2a n+i) x=W5a n (i+1):=by
 have hl:((be8 (8*n)).take i).length=i:=by simp[b2b];omega
 have hil:i<(be8 (8*n)).length:=by rw[b2b];exact hi
 unfold W5a;rw[show 1+j2a n+i=(j2a n+i)+1 by omega,List.set_cons_succ,List.set_append_right _ _ (by simp),List.length_replicate,Nat.add_sub_cancel_left,r4b _ _ _ _ hl (by omega),List.take_succ_eq_append_getElem hil,
  show 8-i-1=8-(i+1) by omega]
 have e:(be8 (8*n))[i]=x:=by rw[hx];simp[be8]
 rw[e]
def m0b(w:World)(n:Int)(e:Ending)(w':World):Prop:=∃A',e=.returned (.slice A' (w2a n).length (w2a n).length)/\p2a w' w.heap.size A' (w2a n)/\BW w w'
theorem g9b(w:World)(n:Int)(hn:0<=n/\n<=18446744073709551615) :
  Calls prog 142 #[.int .u64 n] w (m0b w n):=by
 obtain⟨hn0,hn1⟩:=hn;by_cases hlt:n<1152921504606846976
 ·have hq:∀e w',(∃A',e=.returned (.slice A' (9+j2a n) (9+j2a n))/\p2a w' w.heap.size A' (w2a n)/\BW w w')->m0b w n e w':=by intro e w' hh;unfold m0b;rw[H7a n hlt];exact hh
  have HQ:=hI hq;have hz:=C3b n;have hnz:(IntKind.u64.wrap (55-n)).tmod 64=((j2a n:Nat):Int):=by rw[IntKind.wrap_u64,Int.tmod_eq_emod_of_nonneg (by omega)];unfold j2a;omega
  obtain⟨z,hze⟩:=xX (j2a n);rw[<-hze] at hz hnz;have HZ:=hI hze;clear hq hze;go_enter func142,ntmps142;have hx0:(List.replicate (9+z) (0:Int)).getD 0 0=0:=by rw[show 9+z=(8+z)+1 by omega,List.replicate_succ];rfl
  have HX0:=hI hx0;clear hx0;go_wp2_with(at_make;refine s9a _ rfl .u64 (.tmp 15) (.tmp 15) rfl _ _ (9+z) rfl rfl (by omega) (by omega) (by omega) ?_;intro w1 hrow hb1;have hc0:=hrow.o.cell (i:=0) (by rw[List.length_replicate];omega);rw[HX0.o] at hc0;have hf0:=hrow.o.frozen 0);have hS0:Hid (Row (w1.setCell ⟨w.heap.size,0,none⟩ (.int .u8 128)) w.heap.size (W5a n 0)):=by have h0:=hrow.o.set 0 128;rw[HZ.o,f7b] at h0;exact h0
  rw[show 9+z-(1+z)=8 by omega];have hlen8:Hid (∀i,i<=8->(W5a n i).length=9+z):=λi hi=>by rw[e9b n i hi,HZ.o]
  go_loopw [27,7] (λi _ wr=>∃k:Nat,k<=8/\i=.int .i64 k/\Hid (Row wr w.heap.size (W5a n k))/\BW w wr) (λi _ _=>8-(intOf i).toNat)
  case atStart=>exact⟨0,by omega,rfl,hS0,hb1.setCell (Nat.le_refl _) _⟩
  case round=>
   obtain⟨k,hk,rfl,hR,hb⟩:=hrel;by_cases hlt2:k<8
   ·have hc:=hR.o.cell (i:=1+z+k) (by rw[hlen8.o k hk];omega);have hf:=hR.o.frozen (1+z+k);obtain⟨old,hold⟩:=xX ((W5a n k).getD (1+z+k) 0);rw[<-hold] at hc;have e:=f9b n k hlt2 (8*n/2^(8*(7-k))%256) rfl;have hS:Hid (Row (wr.setCell ⟨w.heap.size,1+z+k,none⟩ (.int .u8 (8*n/2^(8*(7-k))%256))) w.heap.size (W5a n (k+1))):=by rw[<-e,HZ.o];exact hR.o.set _ _
    have en:(8*(7-(k:Int))).toNat=8*(7-k):=by omega
    clear e hold hR hc0 hf0;go_wp2_with fail;go_roundw
    case rel=>exact⟨k+1,by omega,by go_num,hS,hb.setCell (Nat.le_refl _) _⟩
    case measure=>simp[intOf];omega
   ·have hS:Hid (Row wr w.heap.size (w2a n)):=by have h0:=hR.o;rw[show k=8 by omega,g7b n hlt] at h0;exact h0
    have hge:(8:Int)<=(k:Int):=by omega
    clear hR hc0 hf0;go_wp2_with fail;go_ret;exact HQ.o _ _ ⟨_,by rw[HZ.o];rfl,.inr ⟨_,rfl,Nat.le_refl _,hS⟩,hb⟩
 ·have hq:∀e w',(∃A',e=.returned (.slice A' 0 0)/\p2a w' w.heap.size A' []/\BW w w')->m0b w n e w':=by intro e w' hh;unfold m0b;rw[C4b n hlt];exact hh
  have HQ:=hI hq;have hge:1152921504606846976<=n:=by omega
  clear hq hlt;go_enter func142,ntmps142;go_wp2_with fail;go_ret;exact HQ.o _ _ ⟨_,rfl,.inl ⟨rfl,rfl⟩,Below.refl _ _⟩
theorem H8a(k:IntKind)(n:Nat):(Builtin.zeroCells (Value.int k 0).cells n).size=n:=by simp[Builtin.zeroCells,Value.cells]
theorem c3c(w:World)(n:Nat)(h0:0<n)(h1:n<=281474976710656) :
  Calls prog 38 #[.slice none 0 0,.int .i64 n] w λe w'=>∃v,e=.returned v/\Own w' w.heap.size v []/\BW w w':=by
 obtain⟨i0,hi,hz0,hz1,hz2⟩:=info_parts i3a;have hrun:=λty=>Lib.run_append_nil_zeros (P:=prog) w 31 3 ty 5 i0 (.int .u8 0) .i64 .i64 underlying31 underlying3 hi hz0 n h0 (by omega) (by omega) (by rw[hz2];omega)
 have hge:=grownCap_ge w n 0 5;have hle:=grownCap_le_maxLen w n 0 5 (by rw[show maxLen=9223372036854775807 from rfl];omega);obtain⟨c,hc⟩:=xX (grownCap w n 0 5);rw[<-hc] at hrun hge hle;have hown:Own (w.drew.alloc (.cells (Builtin.zeroCells (Value.int .u8 0).cells n++Builtin.zeroCells (Value.int .u8 0).cells (c-n)) 5)) w.heap.size (.slice (some ⟨w.heap.size,0,none⟩) 0 c) []:=⟨by simp,.inr ⟨w.heap.size,c,_,rfl,Nat.le_refl _,heap_alloc_new w.drew _,Nat.zero_le _,hle,by rw[Array.size_append,H8a,H8a];omega,by simp⟩⟩
 have hbel:BW w (w.drew.alloc (.cells (Builtin.zeroCells (Value.int .u8 0).cells n++Builtin.zeroCells (Value.int .u8 0).cells (c-n)) 5)):=((Below.refl _ w).drew).alloc (Nat.le_refl _) _;obtain⟨w1,hw1⟩:=xX ((w.drew.alloc (.cells (Builtin.zeroCells (Value.int .u8 0).cells n++Builtin.zeroCells (Value.int .u8 0).cells (c-n)) 5)));rw[<-hw1] at hown hbel hrun;have HR:=hI hrun;have HO:=hI hown;have hcn:(n:Int)<=(c:Int):=by omega
 have hc63:c<=9223372036854775807:=hle;clear hrun hown hc hw1 hi hz0 hz1 hz2 hge hle;go_enter func38,ntmps38;go_wp2_with(first|(at_builtin;refine Lib.wpList_append_run _ rfl (.tmp 20) (.tmp 21) 31 3 rfl (.slice none 0 0) (.int .i64 n) rfl rfl _ w1 (HR.o _) ?_)|fail)
 go_ret;exact⟨_,rfl,HO.o,hbel⟩
theorem h9b(w:World)(gs:Nat)(A1 A2:Option Addr)(n1 c1 n2 c2:Nat)(xs ys:List Int)(hg:gs<w.heap.size)(k0:w.cell? ⟨gs,0,none⟩=some (.slice A1 n1 c1))(k1:w.cell? ⟨gs,1,none⟩=some (.slice A2 n2 c2))
(h1:Holds w w.heap.size A1 n1 c1 xs)(h2:Holds w w.heap.size A2 n2 c2 ys)(hn:0<n1+n2)(hb:n1+n2<=140737488355328) :
  Calls prog 18 #[.slice (some ⟨gs,0,none⟩) 2 2] w λe w'=>∃v,e=.returned v/\Own w' w.heap.size v (xs++ys)/\BW w w':=by
 have hl1:=hI h1.len;have hl2:=hI h2.len;have cg:=λw=>hI (c3c w (n1+n2) hn (by omega))
 have hb1:n1<=140737488355328:=by omega
 have hb2:n2<=140737488355328:=by omega
 obtain⟨S,hS⟩:∃S:Nat->Nat,S=λk=>if k=0 then 0 else if k=1 then n1 else n1+n2:=⟨_,rfl⟩
 have S0:S 0=0:=by rw[hS];rfl
 have S1:S 1=n1:=by rw[hS];rfl
 have S2:S 2=n1+n2:=by rw[hS];rfl
 obtain⟨C,hC⟩:∃C:Nat->List Int,C=λk=>if k=0 then [] else if k=1 then xs else xs++ys:=⟨_,rfl⟩
 have C0:C 0=[]:=by rw[hC];rfl
 have C1:C 1=xs:=by rw[hC];rfl
 have C2:C 2=xs++ys:=by rw[hC];rfl
 have HC0:=hI C0;have HC1:=hI C1;have HC2:=hI C2;clear hC C0 C1 C2;have HS0:=hI S0;have HS1:=hI S1;have HS2:=hI S2;clear hS S0 S1 S2;go_enter func18,ntmps18;go_wp2_with fail;go_loop [3,11] (λsz i=>∃k:Nat,k<=2/\i=.int .i64 k/\sz=.int .i64 (S k:Nat)) (λ_ i=>2-(intOf i).toNat)
 case atStart=>exact⟨0,by omega,rfl,by rw[HS0.o];rfl⟩
 case round=>
  obtain⟨k,hk,rfl,rfl⟩:=hrel;have hk3:k=0∨k=1∨k=2:=by omega
  rcases hk3 with rfl | rfl | rfl
  ·rw[HS0.o];go_wp2_with fail;go_round
   case rel=>exact⟨1,by omega,rfl,by rw[HS1.o]⟩
   case measure=>simp[intOf]
  ·rw[HS1.o];go_wp2_with fail;go_round
   case rel=>exact⟨2,by omega,rfl,by rw[HS2.o];rfl⟩
   case measure=>simp[intOf]
  ·rw[HS2.o];go_wp2_with fail;refine(cg _).o.mono ?_;rintro e w1 ⟨v1,rfl,ho1,hbel1⟩;have HO1:=hI ho1;have k0':w1.cell? ⟨gs,0,none⟩=some (.slice A1 n1 c1):=by rw[<-k0];exact hbel1.cell (p:=⟨gs,0,none⟩) hg
   have k1':w1.cell? ⟨gs,1,none⟩=some (.slice A2 n2 c2):=by rw[<-k1];exact hbel1.cell (p:=⟨gs,1,none⟩) hg
   clear ho1;go_wp2_with fail;have hbs1:=hbel1.size;go_loopw [6,27] (λv i wr=>∃k:Nat,k<=2/\i=.int .i64 k/\Hid (Own wr w.heap.size v (C k))/\BW w wr) (λ_ i _=>2-(intOf i).toNat)
   case atStart=>exact⟨0,by omega,rfl,by rw[HC0.o];exact HO1,hbel1⟩
   case round=>
    obtain⟨k,hk,rfl,hO,hbl⟩:=hrel;have q0:wr.cell? ⟨gs,0,none⟩=some (.slice A1 n1 c1):=by rw[<-k0];exact hbl.cell (p:=⟨gs,0,none⟩) hg
    have q1:wr.cell? ⟨gs,1,none⟩=some (.slice A2 n2 c2):=by rw[<-k1];exact hbl.cell (p:=⟨gs,1,none⟩) hg
    have hsz:=hI hbl.size;have hk3:k=0∨k=1∨k=2:=by omega
    rcases hk3 with rfl | rfl | rfl
    ·rw[HC0.o] at hO;go_wp2_with(first|(at_builtin;refine t5a rfl (.tmp 31) (.tmp 32) rfl w.heap.size _ _ rfl hO.o w.heap.size A1 n1 c1 xs rfl (h1.below hbl) (by rw[hl1.o];simp;omega) hsz.o ?_;intro v2 w2 ho2 hb2 _)|fail)
     go_roundw
     case rel=>exact⟨1,by omega,rfl,by rw[HC1.o];exact ho2,hbl.trans hb2⟩
     case measure=>simp[intOf]
    ·rw[HC1.o] at hO;go_wp2_with(first|(at_builtin;refine t5a rfl (.tmp 31) (.tmp 32) rfl w.heap.size _ _ rfl hO.o w.heap.size A2 n2 c2 ys rfl (h2.below hbl) (by rw[hl1.o,hl2.o];omega) hsz.o ?_;intro v2 w2 ho2 hb2 _)|fail)
     go_roundw
     case rel=>exact⟨2,by omega,rfl,by rw[HC2.o];exact ho2,hbl.trans hb2⟩
     case measure=>simp[intOf]
    ·rw[HC2.o] at hO;go_wp2_with fail;go_ret;exact⟨_,rfl,hO.o,hbl⟩
def E2a(st xs:List Int):Nat->List Int
 | 0=>st
 | m+1=>M6a (E2a st xs m) ((xs.drop (64*m)).take 64)
theorem A5a{st:List Int}(h:st.length=8)(xs:List Int)(m:Nat):(E2a st xs m).length=8:=by
 induction m with
 | zero=>exact h
 | succ m ih=>exact a2b _ _ ih
theorem c2b{st:List Int}(h:W32 st)(xs:List Int)(m:Nat):W32 (E2a st xs m):=by
 cases m with
 | zero=>exact h
 | succ m=>exact L0c _ _
theorem m3b(st xs ys:List Int)(m:Nat)(h:64*m<=xs.length):E2a st (xs++ys) m=E2a st xs m:=by
 induction m with
 | zero=>rfl
 | succ m ih=>simp only[E2a];rw[ih (by omega),List.drop_append_of_le_length (by omega),List.take_append_of_le_length (by rw[List.length_drop];omega)]
theorem n3b(st xs ys:List Int)(m k:Nat)(h:xs.length=64*m):E2a (E2a st xs m) ys k=E2a st (xs++ys) (m+k):=by
 induction k with
 | zero=>rw[Nat.add_zero,m3b _ _ _ _ (by omega)];rfl
 | succ k ih=>simp only[E2a,Nat.add_eq];rw[ih,show 64*(m+k)=xs.length+64*k by omega,List.drop_append,List.drop_of_length_le (l:=xs) (by omega),List.nil_append,show xs.length+64*k-xs.length=64*k by omega]
theorem d2b{w:World}{ops:Array Oper}{rest:List Oper}{o:Oper}{a:Act}{Q:Exit->Act->World->Prop}(hgd:o.guard=none)(d s:Operand)
(ho:o.op=.call { callee:=.builtin .copy,args:=#[d,s],argTypes:=#[31,31] })
(g m:Nat)(T:TypeId)(b off n c:Nat)(hd:a.eval d=.slice (some ⟨g,0,none⟩) m m)(hs:a.eval s=.slice (some ⟨b,off,none⟩) n c)
(cur ys:List Int)(hrow:Hid (Arr w g .u8 T cur))(hl:Hid (cur.length=m))(hy:Hid (ys.length=m))(hn:m<=n)(hc:Hid (∀i,i<m->w.cell? ⟨b,off+i,none⟩=some (.int .u8 (ys.getD i 0))))
(h:∀w',Hid (Arr w' g .u8 T ys)->Hid (Below g w w')->wpList prog ops Q rest (a.put o.dst (goInt m)) w') :
  wpList prog ops Q (o::rest) a w:=by
 have hl':=hl.o;have hy':=hy.o;obtain⟨i0,hi,hz0,hz1,hz2⟩:=info_parts i3a;refine wpList_copy_splice hgd d s 31 31 ho 5 underlying31 (by rw[hi];simp[hz1]) (some ⟨g,0,none⟩) (some ⟨b,off,none⟩) m m n c hd hs g 0 (cur.map (Value.int .u8)) T hrow.o (ys.map (Value.int .u8)) (by rw[List.length_map,hy'];exact(Nat.min_eq_right hn).symm) ?_ (by simp;omega)
  (by intro v hv;obtain⟨x,_,rfl⟩:=List.mem_map.1 hv;rfl) g w (Below.refl _ _) (Nat.le_refl _) ?_
 ·intro h0;refine⟨rfl,⟨b,off,none⟩,rfl,λj v hj=>?_⟩;have hjl:j<ys.length:=by
   by_cases hj':j<ys.length
   ·exact hj'
   ·rw[List.getElem?_eq_none (by simp;omega)] at hj;cases hj
  have e:(⟨b,off,none⟩:Addr).add j=⟨b,off+j,none⟩:=by
   by_cases hj0:j=0
   ·subst hj0;simp[Addr.add]
   ·simp[Addr.add,hj0]
  rw[e,hc.o j (by omega),<-hj];simp[hjl]
 ·intro w' hr hb;have e:(splice (cur.map (Value.int .u8)) 0 (ys.map (Value.int .u8)))=ys.map (Value.int .u8):=by simp[splice,hl',hy']
  have hr':=hr.o;rw[e] at hr';rw[List.length_map,hy'] at *;exact h w' hr' hb
theorem A0b(w:World)(st xs:List Int)(hs:st.length=8)(hsw:W32 st)(A:Option Addr)(n c q:Nat)(hq:n=64*q)(hn:n<=140737488355328)(h:Holds w w.heap.size A n c xs)(hK:z0b w) :
  Calls prog 140 #[.agg (st.map (Value.int .u32)).toArray,.slice A n c] w
   λe w'=>e=.returned (.agg ((E2a st xs q).map (Value.int .u32)).toArray)/\BW w w':=by
 have HL:=hI h.len;have hfit:=h.fit;have hby:=h.byte;have HS:=hI hs;have HQ:=hI hq;obtain⟨Z,hZ⟩:∃Z:List Int,Z=List.replicate 64 0:=⟨_,rfl⟩;have HZ:=H6b 64;have hz2:prog.built 116 []=some ((List.replicate 64 (0:Int)).map (Value.int .u8)).toArray:=by kernel_rfl
 have hz1:(prog.info? 116).map (λi=>(i.zero,i.size))=some (some (.agg ((List.replicate 64 (0:Int)).map (Value.int .u8)).toArray),64):=by kernel_rfl
 rw[<-hZ] at HZ hz1 hz2;obtain⟨Y,hY⟩:∃Z:List Int,Z=List.replicate 8 0:=⟨_,rfl⟩;have HY:=H6b 8;have hy1:=M0c;rw[<-hY] at HY hy1;have HZ1:=hI hz1;have HZ2:=hI hz2;have HY1:=hI hy1;have HK:=hI hK;have cp:=λw s b h1 h2 h3 h4 h5=>hI (N0c w s b h1 h2 h3 h4 h5)
 clear hs hZ hz1 hz2 hY hy1 hK hq;go_enter func140,ntmps140;go_wp2_with(first|(refine sN 2 ?_;refine V3a rfl _ (.tmp 0) rfl .u32 st rfl ?_;intro g2 w2 e2 s2 A2 b2)|(refine sN 4 ?_;refine L0a rfl _ rfl .u32 Y 8 HY1 ?_;intro g4 w4 e4 s4 A4 b4)|fail)
 have B4:Hid (BW w w4):=step b2.o b4.o;have A24:=hI (A2.o.over b4.o);have HK4:=hI ((HK.o.below b2.o).below b4.o);have lw2:w.heap.size<=g2:=e2;have l24:g2<g4:=by omega
 clear b2 b4 A2;go_loopw [5] (λi wr=>∃m:Nat,m<=q/\i=.int .i64 ((64*m:Nat):Int)/\Hid (Arr wr g2 .u32 185 (E2a st xs m))/\Hid (Arr wr g4 .u32 185 Y)/\Hid (BW w wr)) (λi _=>n-(intOf i).toNat)
 case atStart=>exact⟨0,by omega,rfl,A24,A4,B4⟩
 case round=>
  obtain⟨m,hm,rfl,hR,hR4,hB⟩:=hrel;by_cases hlt:m<q
  ·have hlt':64*m+64<=n:=by have:=HQ.o;omega
   obtain⟨b,off,rfl,hb,hc⟩:=h.cells (by omega);have hbl:Hid (b<w.heap.size):=hb;have hwr:=hB.o.size;have hc1:Hid (∀i,i<64->wr.cell? ⟨b,off+64*m+i,none⟩=some (.int .u8 (((xs.drop (64*m)).take 64).getD i 0))):=λi hi=>by
    have e:((xs.drop (64*m)).take 64).getD i 0=xs.getD (64*m+i) 0:=by simp[List.getD_eq_getElem?_getD,List.getElem?_drop,hi]
    rw[e,Nat.add_assoc,<-hc (64*m+i) (by omega)];exact hB.o.cell (p:=⟨b,off+(64*m+i),none⟩) hb
   have hlb:Hid (((xs.drop (64*m)).take 64).length=64):=by
    show _=_
    have:=HL.o;rw[List.length_take,List.length_drop];omega
   have hbb:=(hby.drop (64*m)).take 64;obtain⟨bl,hble⟩:=xX ((xs.drop (64*m)).take 64);rw[<-hble] at hc1 hlb hbb;have HBL:=hI hble;clear hc hb hble;go_wp2_with(first|(refine J2a rfl _ rfl .u8 Z HZ2 ?_)|(refine sN 6 ?_;refine L0a rfl _ rfl .u8 Z 64 HZ1 ?_;intro g6 w6 e6 s6 A6 b6)|((with_reducible show wpList _ _ _ (⟨none,_,_,_,_,_⟩::_) _ _);refine M0a rfl _ (.tmp 6) (.tmp 13) rfl g6 rfl .u8 _ _ Z rfl A6 64 f8b HZ HZ ?_;intro w7 A7 o7 s7)|fail)
   obtain⟨k,hk⟩:=xX (64*m);rw[<-hk] at hlt' hc1⊢;have HKm:=hI hk;clear hk;have hk1:(k:Int)<=(n:Int):=by omega
   have hk2:(0:Int)<=(k:Int):=by omega
   have hk3:k<c:=by omega
   have hk4:(k:Int)<=(c:Int):=by omega
   go_still_tail 4,(by kernel_rfl);change wpList _ _ _ _ _ w7.drew
   rw[if_neg (show ¬c=k by omega)];have l26:g2<g6:=by have:=hR.o.lt;omega
   have l46:g4<g6:=by have:=hR4.o.lt;omega
   have hwg:w.heap.size<=g6:=by omega
   have hc7:Hid (∀i,i<64->w7.drew.cell? ⟨b,off+k+i,none⟩=some (.int .u8 (bl.getD i 0))):=λi hi=>by have hb:=hbl.o;rw[<-hc1.o i hi];have h1:w7.cell? ⟨b,off+k+i,none⟩=w6.cell? ⟨b,off+k+i,none⟩:=(o7.o.below (B:=g6) (Nat.le_refl _)).cell (p:=⟨b,off+k+i,none⟩) (show b<g6 by omega);exact h1.trans (b6.o.cell (p:=⟨b,off+k+i,none⟩) (show b<wr.heap.size by omega))
   refine d2b rfl (.tmp 14) (.tmp 17) rfl g6 64 116 b (off+k) (n-k) (c-k) rfl rfl Z bl A7.o.drew HZ hlb (by omega) hc7 ?_;intro w8 A8 b8;have R8:Hid (Arr w8 g2 .u32 185 (E2a st xs m)):=(((hR.o.over b6.o).only o7.o (by omega)).drew).below b8.o l26;have R84:Hid (Arr w8 g4 .u32 185 Y):=(((hR4.o.over b6.o).only o7.o (by omega)).drew).below b8.o l46;have B8:Hid (BW w w8):=((hB.o.trans (b6.o.mono (by omega))).trans (o7.o.below hwg)).drew.trans (b8.o.mono hwg);have HK8:Hid (z0b w8):=HK.o.below B8.o;have hsl:=hI (A5a HS.o xs m);have hsw':=c2b hsw xs m;have hstep:M6a (E2a st xs m) bl=E2a st xs (m+1):=by rw[HBL.o];rfl
   have hslN:=hI (A5a HS.o xs (m+1));obtain⟨s1,hs1⟩:=xX (E2a st xs m);obtain⟨s2',hs2⟩:=xX (E2a st xs (m+1));rw[<-hs1] at R8 hsl hsw' hstep;rw[<-hs2] at hstep hslN;have cp1:=cp w8 s1 bl hsl.o hsw' hlb.o hbb HK8.o;rw[hstep] at cp1;have HS2:=hI hs2;clear hs1 hs2 hstep hR hR4 hB b6 o7 b8 A6 A7 hc1 hc7 s7 s6 e6 hk1 hk2 hk4;go_wp2_with(first|(refine sN 19 ?_;refine u1a rfl _ (.tmp 2) rfl g2 rfl .u32 _ s1 R8 8 _ underlying185 G8a hsl ?_)|(refine sN 20 ?_;refine u1a rfl _ (.tmp 6) rfl g6 rfl .u8 _ bl A8 64 _ underlying116 f8b hlb ?_)|fail)
   refine cp1.o.mono ?_;rintro e w9 ⟨rfl,b9⟩;have R9:Hid (Arr w9 g2 .u32 185 s1):=R8.o.over b9;have R94:Hid (Arr w9 g4 .u32 185 Y):=R84.o.over b9;have B9:Hid (BW w w9):=step B8.o b9;clear b9 R8 R84 B8 HK8 cp1;go_wp2_with(first|((with_reducible show wpList _ _ _ (⟨none,_,_,_,_,_⟩::_) _ _);refine M0a rfl _ (.tmp 2) (.tmp 21) rfl g2 rfl .u32 _ _ s2' rfl R9 8 G8a hsl hslN ?_;intro w10 A10 o10 s10)|fail)
   go_roundw
   case rel=>exact⟨m+1,by omega,by rw[show 64*(m+1)=k+64 by have:=HKm.o;omega];go_num,by rw[<-HS2.o];exact A10,R94.o.only o10.o (by omega),B9.o.trans (o10.o.below lw2)⟩
   case measure=>have:=HKm.o;simp[intOf];omega
  ·have hge:(n:Int)<=((64*m:Nat):Int):=by have:=HQ.o;omega
   have hF:Hid (Arr wr g2 .u32 185 (E2a st xs q)):=by
    have h0:=hR.o
    rwa [show m=q by omega] at h0
   have hsl:=hI (A5a HS.o xs q);obtain⟨s1,hs1⟩:=xX (E2a st xs q);rw[<-hs1] at hF hsl;have HS1:=hI hs1;obtain⟨k,hk⟩:=xX (64*m);rw[<-hk] at hge⊢;clear hR hs1 hk;go_wp2_with(first|(refine sN 22 ?_;refine u1a rfl _ (.tmp 2) rfl g2 rfl .u32 _ s1 hF 8 _ underlying185 G8a hsl ?_)|((with_reducible show wpList _ _ _ (⟨none,_,_,_,_,_⟩::_) _ _);refine M0a rfl _ (.tmp 4) (.tmp 22) rfl g4 rfl .u32 _ _ s1 rfl hR4 8 G8a HY hsl ?_;intro w9 A9 o9 s9)|fail)
   rw[<-HS1.o];refine bodyPost_ret (v:=.agg (s1.map (Value.int .u32)).toArray) ?_ rfl ⟨rfl,hB.o.trans (o9.o.below (by omega))⟩;exact results_cell_row rfl _ _ g4 _ _ (0,0) _ rfl A9.o underlying185 rfl (by rw[G8a];have:=hsl.o;simp[this])
theorem p6a:(prog.info? 30).map (·.size)=some 32:=by kernel_rfl
def H0:List Int:=[1779033703,3144134277,1013904242,2773480762,1359893119,2600822924,528734635,1541459225]
theorem P0c:H0.length=8:=rfl
theorem C6c:W32 H0:=W32.of_all (by decide)
theorem Q0c(w:World):Calls prog 141 #[] w λe w'=>e=.returned (.agg (H0.map (Value.int .u32)).toArray)/\BW w w':=by
 obtain⟨Y,hY⟩:∃Z:List Int,Z=List.replicate 8 0:=⟨_,rfl⟩;have HY:=H6b 8;have hy1:=M0c;rw[<-hY] at HY hy1;have HY1:=hI hy1;clear hy1 hY;go_enter func141,ntmps141;go_wp2_with(first|(refine sN 0 ?_;refine L0a rfl _ rfl .u32 Y 8 HY1 ?_;intro g4 w4 e4 s4 A4 b4)|((with_reducible show wpList _ _ _ (⟨none,_,_,_,_,_⟩::_) _ _);refine M0a rfl _ (.tmp 0) (.tmp 1) rfl g4 rfl .u32 _ _ H0 rfl A4 8 G8a HY rfl ?_;intro w9 A9 o9 s9)|fail)
 refine bodyPost_ret (v:=.agg (H0.map (Value.int .u32)).toArray) ?_ rfl ⟨rfl,b4.o.trans (o9.o.below e4)⟩;exact results_cell_row rfl _ _ g4 _ _ (0,0) _ rfl A9.o underlying185 rfl (by rw[G8a];rfl)
theorem G5c{W w1:World}(hb:BW W w1):(∀b o,b<W.heap.size->w1.cell? ⟨b,o,none⟩=W.cell? ⟨b,o,none⟩)/\(∀b o,b<W.heap.size->w1.frozen? ⟨b,o,none⟩=W.frozen? ⟨b,o,none⟩):=⟨λb o h=>hb.cell (p:=⟨b,o,none⟩) h,λb o h=>hb.frozen (p:=⟨b,o,none⟩) h⟩
theorem s4c(w:World)(g:Nat)(y0 y1 y2 y3 y4 y5 y6 y7:Int) :
  s2a g w ((((((((w.setCell ⟨g,0,none⟩ (.int .u32 y0)).setCell ⟨g,1,none⟩ (.int .u32 y1)).setCell ⟨g,2,none⟩ (.int .u32 y2)).setCell ⟨g,3,none⟩ (.int .u32 y3)).setCell ⟨g,4,none⟩ (.int .u32 y4)).setCell ⟨g,5,none⟩ (.int .u32 y5)).setCell ⟨g,6,none⟩ (.int .u32 y6)).setCell ⟨g,7,none⟩ (.int .u32 y7)):=
 ((((((((s2a.refl g w).setCell 0 _).setCell 1 _).setCell 2 _).setCell 3 _).setCell 4 _).setCell 5 _).setCell 6 _).setCell 7 _
theorem t4c{w:World}{g:Nat}{T:TypeId}{zs:List Int}(h:Arr w g .u32 T zs)(hz:zs.length=8)(y0 y1 y2 y3 y4 y5 y6 y7:Int) :
  Arr ((((((((w.setCell ⟨g,0,none⟩ (.int .u32 y0)).setCell ⟨g,1,none⟩ (.int .u32 y1)).setCell ⟨g,2,none⟩ (.int .u32 y2)).setCell ⟨g,3,none⟩ (.int .u32 y3)).setCell ⟨g,4,none⟩ (.int .u32 y4)).setCell ⟨g,5,none⟩ (.int .u32 y5)).setCell ⟨g,6,none⟩ (.int .u32 y6)).setCell ⟨g,7,none⟩ (.int .u32 y7)) g .u32 T [y0,y1,y2,y3,y4,y5,y6,y7]:=by
 match zs,hz with
 | [a,b,c,d,e,f,i,j],_=>exact(((((((h.set 0 y0).set 1 y1).set 2 y2).set 3 y3).set 4 y4).set 5 y5).set 6 y6).set 7 y7
theorem eight{l:List Int}(h:l.length=8):∃a b c d e f g i,l=[a,b,c,d,e,f,g,i]:=by
 match l,h with
 | [a,b,c,d,e,f,g,i],_=>exact⟨a,b,c,d,e,f,g,i,rfl⟩
def H5b(st:List Int):List Int:=(List.range 32).map λi=>st.getD (i/4) 0/2^(24-8*(i%4))%256
theorem q6a(st:List Int):(H5b st).length=32:=by simp[H5b]
theorem h7b(st:List Int):Bytes (H5b st):=λx hx=>by obtain⟨j,_,rfl⟩:=List.mem_map.1 hx;omega
def I7a(st:List Int)(k:Nat):List Int:=(H5b st).take k++List.replicate (32-k) 0
theorem i9b(st:List Int)(k:Nat)(h:k<=32):(I7a st k).length=32:=by simp[I7a,q6a];omega
theorem i7b(st:List Int):I7a st 0=List.replicate 32 0:=by simp[I7a]
theorem j7b(st:List Int):I7a st 32=H5b st:=by unfold I7a;rw[List.take_of_length_le (by rw[q6a];exact Nat.le_refl _)];simp
theorem j9b(st:List Int)(k:Nat)(h:k<32):(I7a st k).set k (st.getD (k/4) 0/2^(24-8*(k%4))%256)=I7a st (k+1):=by
 have hl:k<(H5b st).length:=by rw[q6a];exact h
 unfold I7a;rw[r4b _ _ _ _ (by simp[q6a];omega) (by omega),List.take_succ_eq_append_getElem hl,show 32-k-1=32-(k+1) by omega]
 congr 2
 simp[H5b]
def I5b(xs:List Int):List Int:=xs++w2a xs.length
def N6a(xs:List Int):List Int:=E2a H0 (I5b xs) ((I5b xs).length/64)
def sumOf(xs:List Int):List Int:=H5b (N6a xs)
theorem J5b(xs:List Int)(h:xs.length<=140737488355200):(I5b xs).length%64=0:=by have h1:=H7a xs.length (by omega);unfold I5b;rw[List.length_append,h1];unfold j2a;omega
theorem e2b(xs:List Int):(N6a xs).length=8:=A5a P0c _ _
theorem R0c(xs:List Int):W32 (N6a xs):=c2b C6c _ _
theorem D4b(xs:List Int)(h:xs.length<=140737488355200)(q:Nat)(hq:q=xs.length/64) :
  N6a xs=E2a (E2a H0 (xs.take (64*q)) q) (xs.drop (64*q)++w2a xs.length) ((xs.drop (64*q)++w2a xs.length).length/64):=by
 have h0:=J5b xs h;have hl:(xs.take (64*q)).length=64*q:=by rw[List.length_take];omega
 have e:xs.take (64*q)++(xs.drop (64*q)++w2a xs.length)=I5b xs:=by rw[<-List.append_assoc,List.take_append_drop];rfl
 rw[n3b _ _ _ _ _ hl,e];have e2:(I5b xs).length=64*q+(xs.drop (64*q)++w2a xs.length).length:=by rw[<-e,List.length_append,hl]
 unfold N6a;rw[e2]
 congr 1
 omega
theorem Holds.behind{w:World}{B:Nat}{A:Option Addr}{n c m:Nat}{xs:List Int}(h:Holds w B A n c xs)(hm:m<=n):Holds w B (if c=m then A else Option.map (λx=>x.add m) A) (n-m) (c-m) (xs.drop m):=by
 have hf:=h.fit;have hl:=h.len;by_cases hn:n-m=0
 ·rw[hn,show xs.drop m=[] from List.drop_of_length_le (by omega)];refine Holds.empty _ _ _ _ λhA=>?_
  by_cases hc:c=m
  ·omega
  ·rw[if_neg hc] at hA;have:A=none:=by cases A<;>simp_all
   have:=h.bare this;omega
 ·rw[if_neg (by omega)];have h1:=h.part (k:=m) (m:=n-m) (c':=c-m) (by omega) (by omega) (by omega)
  rwa [List.take_of_length_le (by rw[List.length_drop];omega)] at h1
theorem S0c(w:World)(A:Option Addr)(n c:Nat)(xs:List Int)(hn:n<=140737488355200)(h:Holds w w.heap.size A n c xs)(hK:z0b w) :
  Calls prog 125 #[.slice A n c] w
   λe w'=>e=.returned (.agg ((sumOf xs).map (Value.int .u8)).toArray)/\BW w w':=by
 have HL:=hI h.len;have hfit:=h.fit;have hby:=h.byte;have HK:=hI hK;have hz4:prog.built 30 []=some ((List.replicate 32 (0:Int)).map (Value.int .u8)).toArray:=by kernel_rfl
 have hz3:(prog.info? 30).map (λi=>(i.zero,i.size))=some (some (.agg ((List.replicate 32 (0:Int)).map (Value.int .u8)).toArray),32):=by kernel_rfl
 obtain⟨X,hX⟩:∃Z:List Int,Z=List.replicate 32 0:=⟨_,rfl⟩;have HX:=H6b 32;rw[<-hX] at HX hz3 hz4;have HX2:=hI hz4;have HXe:=hI hX;have HX1:=hI hz3;clear hK hz3 hz4 hX;obtain⟨q,hq⟩:=xX (n/64);obtain⟨m,hm⟩:=xX (64*q);have hm0:m<=n:=by omega
 have hm1:(n:Int)-(n:Int)%64=(m:Int):=by omega
 have hm2:n-m<64:=by omega
 have HMm:=hI hm;have HQq:=hI hq;clear hm hq;have hm3:(0:Int)<=(m:Int):=by omega
 have hm4:(m:Int)<=(c:Int):=by omega
 have cb:=λw=>hI (Q0c w)
 have hun:IntKind.u64.wrap (n:Int)=(n:Int):=by rw[IntKind.wrap_u64];omega
 have hr:=h.behind hm0;obtain⟨A3,hA3⟩:∃A3,(if c=m then A else Option.map (λx=>x.add m) A)=A3:=⟨_,rfl⟩;rw[hA3] at hr;have hsp:=D4b xs (by rw[HL.o];omega) q (by rw[HL.o];exact HQq.o);have hal:=J5b xs (by rw[HL.o];omega);have hal2:(I5b xs).length=n+(w2a xs.length).length:=by unfold I5b;rw[List.length_append,HL.o]
 have hbl:=H7a xs.length (by rw[HL.o];omega);have hnl:=C3b xs.length;have heb:=l3b xs.length;rw[<-HMm.o] at hsp;have cbh:=λw=>g9b w (xs.length:Int) (by have:=HL.o;omega)
 unfold m0b at cbh;obtain⟨E,hE⟩:=xX (w2a (xs.length:Int));rw[<-hE] at cbh hsp hal2 hbl heb;obtain⟨L,hL⟩:=xX E.length;rw[<-hL] at cbh hal2 hbl;rw[HL.o] at cbh;have HEL:=hI hL;have HEB:=hI heb;have CBH:=λw=>hI (cbh w)
 have hL9:9<=L:=by omega
 have hL72:L<=72:=by omega
 have hrl:(xs.drop m++E).length=n-m+L:=by rw[List.length_append,List.length_drop,HL.o,hL]
 have hrb:Bytes (xs.drop m++E):=(hby.drop m).append heb;obtain⟨R,hR⟩:=xX (xs.drop m++E);rw[<-hR] at hsp hrl hrb;have HRe:=hI hR;obtain⟨r,hr0⟩:=xX (n-m+L);rw[<-hr0] at hrl;have hr64:r=64*(R.length/64):=by have:=HMm.o;omega
 have hrle:r<=136:=by omega
 have HRL:=hI hrl;have HR64:=hI hr64;have HR0:=hI hr0;have HSP:=hI hsp;clear hsp hal hal2 hbl hnl heb cbh hE hL hrl hR hr0 hr64;have hh1:Holds w w.heap.size A m c (xs.take m):=⟨by have:=HL.o;rw[List.length_take];omega,by omega,by omega,hby.take m,h.bare,λh0=>by obtain⟨b,off,rfl,hb,hc⟩:=h.cells (by omega);exact⟨b,off,rfl,hb,λi hi=>by rw[hc i (by omega)];simp[List.getD_eq_getElem?_getD,hi]⟩⟩
 have cp:∀W,BW w W->Hid (Calls prog 140 #[.agg (H0.map (Value.int .u32)).toArray,.slice A m c] W
   λe w'=>e=.returned (.agg ((E2a H0 (xs.take m) q).map (Value.int .u32)).toArray)/\BW W w'):=λW hb=>
  A0b W H0 (xs.take m) P0c C6c A m c q HMm.o (by omega) ((hh1.below hb).mono hb.size) (HK.o.below hb)
 obtain⟨s1,hs1⟩:=xX (E2a H0 (xs.take m) q);have hl1:=A5a P0c (xs.take m) q;rw[<-hs1] at cp hl1;have HS1:=hI hs1;clear hs1;go_enter func125,ntmps125;go_wp2_with(first|(refine sN 2 ?_;refine L0a rfl _ rfl .u8 X 32 HX1 ?_;intro g2 w2 e2 s2 A2 b2)|fail)
 have B2:Hid (BW w w2):=b2;have hw2:=b2.o.size;clear b2;go_upto_region 2 with(fail)
 go_cut [4] (λs4 wx=>∃g4,s4=.pointer (some ⟨g4,0,none⟩)/\g2<g4/\Hid (Arr wx g4 .u32 185 s1)/\Hid (Arr wx g2 .u8 30 X)/\Hid (BW w wx))
 case first=>
  have HH0:Hid (H0=[1779033703,3144134277,1013904242,2773480762,1359893119,2600822924,528734635,1541459225]):=rfl;obtain⟨y0,y1,y2,y3,y4,y5,y6,y7,rfl⟩:=eight hl1;go_region_with (first|(go_at_call 141;go_loud (refine(cb _).o.mono ?_;rintro e w3 ⟨rfl,b3⟩;obtain⟨hc3,hf3⟩:=G5c b3;have hz3:=b3.size;simp at hz3;(try have hz3':w2.heap.size<w3.heap.size:=by omega)))|(go_at_call 140;(refine(cp _ (by first | exact B2.o.drew.trans (b3.mono hw2) | exact(B2.o.drew.trans (b3.mono hw2)).alloc (Nat.le_trans hw2 b3.size) _ | exact(B2.o.alloc hw2 _).drew.trans (b3.mono (Nat.le_trans hw2 (by simp))))).o.mono ?_;rintro e w4 ⟨rfl,b4⟩;obtain⟨hc4,hf4⟩:=G5c b4;have hz4:=b4.size)))
  all_goals go_wp2_with fail
  all_goals go_meet
  all_goals clear hc3 hf3 hc4 hf4
  ·have B4:BW w w4:=(B2.o.drew.trans (b3.mono hw2)).trans (b4.mono (by omega));have X4:Arr w4 g2 .u8 30 X:=(A2.o.drew.over b3).over b4;refine⟨_,rfl,by omega,Arr.new w4 .u32 185 [y0,y1,y2,y3,y4,y5,y6,y7],X4.over ((Below.refl _ _).alloc (Nat.le_refl _) _),B4.alloc B4.size _⟩
  ·simp at hz4;have B4:BW w w4:=((B2.o.drew.trans (b3.mono hw2)).alloc (Nat.le_trans hw2 b3.size) _).trans (b4.mono (by simp;omega));have X4:Arr w4 g2 .u8 30 X:=((A2.o.drew.over b3).over ((Below.refl _ _).alloc (Nat.le_refl _) _)).over b4;have Z4:Arr w4 w3.heap.size .u32 185 [0,0,0,0,0,0,0,0]:=(Arr.new w3 .u32 185 [0,0,0,0,0,0,0,0]).over b4;have o8:=s4c w4 w3.heap.size y0 y1 y2 y3 y4 y5 y6 y7;refine⟨_,rfl,by omega,t4c Z4 rfl _ _ _ _ _ _ _ _,X4.only o8 (by omega),B4.trans (o8.below (by omega))⟩
  ·have B4:BW w w4:=((B2.o.alloc hw2 _).drew.trans (b3.mono (Nat.le_trans hw2 (by simp)))).trans (b4.mono (by omega));have X4:Arr w4 g2 .u8 30 X:=(((A2.o.over ((Below.refl _ _).alloc (Nat.le_refl _) _)).drew).over b3).over b4;have Z4:Arr w4 w2.heap.size .u32 185 [0,0,0,0,0,0,0,0]:=((Arr.new w2 .u32 185 [0,0,0,0,0,0,0,0]).drew.over b3).over b4;have o8:=s4c w4 w2.heap.size y0 y1 y2 y3 y4 y5 y6 y7;refine⟨_,rfl,by omega,t4c Z4 rfl _ _ _ _ _ _ _ _,X4.only o8 (by omega),B4.trans (o8.below (by omega))⟩
 case rest=>
  obtain⟨g4,rfl,l24,A4,A2r,B4⟩:=hcut;go_upto_region 3 with(fail)
  go_cut [] (λwx=>Hid (Arr wx g4 .u32 185 (N6a xs))/\Hid (Arr wx g2 .u8 30 X)/\Hid (BW w wx))
  case first=>
   have hsw1:W32 s1:=by rw[HS1.o];exact c2b C6c _ _
   have cp2:∀W A6 c6,BW w W->Holds W W.heap.size A6 r c6 R->Hid (Calls prog 140 #[.agg (s1.map (Value.int .u32)).toArray,.slice A6 r c6] W
     λe w'=>e=.returned (.agg ((N6a xs).map (Value.int .u32)).toArray)/\BW W w'):=λW A6 c6 hb hh=>by
    rw[HSP.o,<-HS1.o];exact A0b W s1 R hl1 hsw1 A6 r c6 (R.length/64) HR64.o (by omega) hh (HK.o.below hb)
   have hls:=e2b xs;obtain⟨so,hso⟩:=xX (N6a xs);rw[<-hso] at cp2 hls;have HSO:=hI hso;clear hso cp;obtain⟨z0,z1,z2,z3,z4,z5,z6,z7,rfl⟩:=eight hls;obtain⟨y0,y1,y2,y3,y4,y5,y6,y7,rfl⟩:=eight hl1;have hg4:=A4.o.lt;have hwc:=B4.o.size;have k0:wc.cell? ⟨g4,0,none⟩=some (.int .u32 y0):=A4.o.cell (i:=0) (by show _<8;omega);have k1:wc.cell? ⟨g4,1,none⟩=some (.int .u32 y1):=A4.o.cell (i:=1) (by show _<8;omega);have k2:wc.cell? ⟨g4,2,none⟩=some (.int .u32 y2):=A4.o.cell (i:=2) (by show _<8;omega);have k3:wc.cell? ⟨g4,3,none⟩=some (.int .u32 y3):=A4.o.cell (i:=3) (by show _<8;omega);have k4:wc.cell? ⟨g4,4,none⟩=some (.int .u32 y4):=A4.o.cell (i:=4) (by show _<8;omega);have k5:wc.cell? ⟨g4,5,none⟩=some (.int .u32 y5):=A4.o.cell (i:=5) (by show _<8;omega);have k6:wc.cell? ⟨g4,6,none⟩=some (.int .u32 y6):=A4.o.cell (i:=6) (by show _<8;omega);have k7:wc.cell? ⟨g4,7,none⟩=some (.int .u32 y7):=A4.o.cell (i:=7) (by show _<8;omega);go_region_with (first|(go_at_call 142;go_loud (refine(CBH _).o.mono ?_;rintro e w5 ⟨A5,rfl,f5,b5⟩;have R5:Hid (Arr w5 g4 .u32 185 [y0,y1,y2,y3,y4,y5,y6,y7]):=A4.o.drew.over b5;have hfzw5:∀o,w5.frozen? ⟨g4,o,none⟩=false:=(λo=>R5.o.frozen o);have hclw50:w5.cell? ⟨g4,0,none⟩=some (.int .u32 y0):=R5.o.cell (i:=0) (show 0<8 by omega);have hclw51:w5.cell? ⟨g4,1,none⟩=some (.int .u32 y1):=R5.o.cell (i:=1) (show 1<8 by omega);have hclw52:w5.cell? ⟨g4,2,none⟩=some (.int .u32 y2):=R5.o.cell (i:=2) (show 2<8 by omega);have hclw53:w5.cell? ⟨g4,3,none⟩=some (.int .u32 y3):=R5.o.cell (i:=3) (show 3<8 by omega);have hclw54:w5.cell? ⟨g4,4,none⟩=some (.int .u32 y4):=R5.o.cell (i:=4) (show 4<8 by omega);have hclw55:w5.cell? ⟨g4,5,none⟩=some (.int .u32 y5):=R5.o.cell (i:=5) (show 5<8 by omega);have hclw56:w5.cell? ⟨g4,6,none⟩=some (.int .u32 y6):=R5.o.cell (i:=6) (show 6<8 by omega);have hclw57:w5.cell? ⟨g4,7,none⟩=some (.int .u32 y7):=R5.o.cell (i:=7) (show 7<8 by omega);have hq5:g4<w5.heap.size:=(by have:=b5.size;simp at this;omega);have hv5:wc.heap.size<=w5.heap.size:=b5.size;have B5:=hI (B4.o.drew.trans (b5.mono hwc));have F5:=hI (f5.holds HEL.o.symm HEB.o (by omega));clear f5))|(go_at_call 18;go_loud (refine(h9b _ w5.heap.size A3 A5 (n-m) (c-m) L L (xs.drop m) E (by simp) (by simp) (by simp) ((hr.below (B5.o.alloc B5.o.size _)).mono (by simp;omega)) ((F5.o.below ((Below.refl _ w5).alloc (Nat.le_refl _) _)).mono (by simp)) (by omega) (by omega)).mono ?_;rintro e w6 ⟨v6,rfl,o6,b6⟩;have R6:Hid (Arr w6 g4 .u32 185 [y0,y1,y2,y3,y4,y5,y6,y7]):=(R5.o.over ((Below.refl _ w5).alloc (Nat.le_refl _) _)).over b6;have hfzw6:∀o,w6.frozen? ⟨g4,o,none⟩=false:=(λo=>R6.o.frozen o);have hclw60:w6.cell? ⟨g4,0,none⟩=some (.int .u32 y0):=R6.o.cell (i:=0) (show 0<8 by omega);have hclw61:w6.cell? ⟨g4,1,none⟩=some (.int .u32 y1):=R6.o.cell (i:=1) (show 1<8 by omega);have hclw62:w6.cell? ⟨g4,2,none⟩=some (.int .u32 y2):=R6.o.cell (i:=2) (show 2<8 by omega);have hclw63:w6.cell? ⟨g4,3,none⟩=some (.int .u32 y3):=R6.o.cell (i:=3) (show 3<8 by omega);have hclw64:w6.cell? ⟨g4,4,none⟩=some (.int .u32 y4):=R6.o.cell (i:=4) (show 4<8 by omega);have hclw65:w6.cell? ⟨g4,5,none⟩=some (.int .u32 y5):=R6.o.cell (i:=5) (show 5<8 by omega);have hclw66:w6.cell? ⟨g4,6,none⟩=some (.int .u32 y6):=R6.o.cell (i:=6) (show 6<8 by omega);have hclw67:w6.cell? ⟨g4,7,none⟩=some (.int .u32 y7):=R6.o.cell (i:=7) (show 7<8 by omega);have B6:=hI ((B5.o.alloc B5.o.size _).trans (b6.mono (by simp;omega)));have hq6:g4<w6.heap.size:=(by have:=b6.size;simp at this;omega);obtain⟨A6,c6,rfl,hh6⟩:=o6.holds (by rw[<-HRe.o];exact hrb) (by rw[<-HRe.o,HRL.o];omega);rw[<-HRe.o,HRL.o] at hh6⊢;have HH6:=hI hh6;clear hh6 o6))|(go_at_call 140;go_loud (refine(cp2 _ A6 c6 B6.o HH6.o).o.mono ?_;rintro e w7 ⟨rfl,b7⟩;have R7:Hid (Arr w7 g4 .u32 185 [y0,y1,y2,y3,y4,y5,y6,y7]):=R6.o.over b7;have hfzw7:∀o,w7.frozen? ⟨g4,o,none⟩=false:=(λo=>R7.o.frozen o);have hclw70:w7.cell? ⟨g4,0,none⟩=some (.int .u32 y0):=R7.o.cell (i:=0) (show 0<8 by omega);have hclw71:w7.cell? ⟨g4,1,none⟩=some (.int .u32 y1):=R7.o.cell (i:=1) (show 1<8 by omega);have hclw72:w7.cell? ⟨g4,2,none⟩=some (.int .u32 y2):=R7.o.cell (i:=2) (show 2<8 by omega);have hclw73:w7.cell? ⟨g4,3,none⟩=some (.int .u32 y3):=R7.o.cell (i:=3) (show 3<8 by omega);have hclw74:w7.cell? ⟨g4,4,none⟩=some (.int .u32 y4):=R7.o.cell (i:=4) (show 4<8 by omega);have hclw75:w7.cell? ⟨g4,5,none⟩=some (.int .u32 y5):=R7.o.cell (i:=5) (show 5<8 by omega);have hclw76:w7.cell? ⟨g4,6,none⟩=some (.int .u32 y6):=R7.o.cell (i:=6) (show 6<8 by omega);have hclw77:w7.cell? ⟨g4,7,none⟩=some (.int .u32 y7):=R7.o.cell (i:=7) (show 7<8 by omega)))|fail)
   all_goals go_wp2_with fail
   all_goals go_meet
   all_goals
    have X7:Arr w7 g2 .u8 30 X:=(((A2r.o.drew.over b5).over ((Below.refl _ w5).alloc (Nat.le_refl _) _)).over b6).over b7;have o8:=s4c w7 g4 z0 z1 z2 z3 z4 z5 z6 z7;have hs6:=B6.o.size;exact⟨by rw[<-HSO.o];exact t4c R7.o rfl _ _ _ _ _ _ _ _,X7.only o8 (by omega),(B6.o.trans (b7.mono hs6)).trans (o8.below (by omega))⟩
  case rest=>
   obtain⟨A4',A2',B4'⟩:=hcut;have hls:=hI (e2b xs);obtain⟨so,hso⟩:=xX (N6a xs);have hsow:=R0c xs;rw[<-hso] at A4' hls hsow;have HSO:=hI hso;clear hso A4 A2r B4 A2 B2;have hg4':=A4'.lt;go_wp2_with(first|(refine J2a rfl _ rfl .u8 X HX2 ?_)|(refine sN 5 ?_;refine L0a rfl _ rfl .u8 X 32 HX1 ?_;intro g5 w6 e6 s6 A6 b6)|((with_reducible show wpList _ _ _ (⟨none,_,_,_,_,_⟩::_) _ _);refine M0a rfl _ (.tmp 5) (.tmp 29) rfl g5 rfl .u8 _ _ X rfl A6 32 p6a HX HX ?_;intro w7 A7 o7 s7)|fail)
   have hs6:=B4'.size;have A47:Hid (Arr w7 g4 .u32 185 so):=(A4'.over b6.o).only o7.o (by omega);have A27:Hid (Arr w7 g2 .u8 30 X):=(A2'.over b6.o).only o7.o (by omega);have B7:Hid (BW w w7):=(B4'.trans (b6.o.mono hs6)).trans (o7.o.below (by omega));have l45:g4<g5:=by omega
   have l25:g2<g5:=by omega
   have lw5:w.heap.size<=g5:=by omega
   clear A4' A2' B4' A6 b6 o7 s6 s7 hs6 hg4';go_loopw [30,6] (λi _ wr=>∃k:Nat,k<=32/\i=.int .i64 k/\Hid (Arr wr g5 .u8 30 (I7a so k))/\Hid (s2a g5 w7 wr)) (λi _ _=>32-(intOf i).toNat)
   case atStart=>exact⟨0,by omega,rfl,by rw[i7b,<-HXe.o];exact A7,s2a.refl _ _⟩
   case round=>
    obtain⟨k,hk,rfl,hR,hO⟩:=hrel;by_cases hlt:k<32
    ·have gc:=(A47.o.only hO.o (by omega)).cell (i:=k/4) (by rw[hls.o];omega);have hb:=hsow.getD (k/4);have hS:=hR.o.set k (so.getD (k/4) 0/2^(24-8*(k%4))%256);rw[j9b so k hlt] at hS;obtain⟨y,hy⟩:=xX (so.getD (k/4) 0);rw[<-hy] at gc hb hS;have gd:=hR.o.cell (i:=k) (by rw[i9b so k hk];exact hlt);obtain⟨old,hold⟩:=xX ((I7a so k).getD k 0);rw[<-hold] at gd;have gf:=hR.o.frozen k;have en:(24-8*((k:Int)%4)).toNat=24-8*(k%4):=by omega
     have hSh:=hI hS;obtain⟨hb0,hb1⟩:=hb;clear hy hold hS hR;go_wp2_with fail;go_roundw
     case rel=>exact⟨k+1,by omega,by go_num,hSh,hO.o.setCell _ _⟩
     case measure=>simp[intOf];omega
    ·have hge:(32:Int)<=(k:Int):=by omega
     have hF:Hid (Arr wr g5 .u8 30 (sumOf xs)):=by have h0:=hR.o;rw[show k=32 by omega,j7b,HSO.o] at h0;exact h0
     have A2f:=hI (A27.o.only hO.o (by omega));have Bf:Hid (BW w wr):=B7.o.trans (hO.o.below lw5);have HP:Hid ((sumOf xs).length=32):=q6a _;obtain⟨p,hp⟩:=xX (sumOf xs);rw[<-hp] at hF HP;have HPe:=hI hp;clear hR hO hp;go_wp2_with(first|(refine sN 46 ?_;refine u1a rfl _ (.tmp 5) rfl g5 rfl .u8 _ p hF 32 _ underlying30 p6a HP ?_)|((with_reducible show wpList _ _ _ (⟨none,_,_,_,_,_⟩::_) _ _);refine M0a rfl _ (.tmp 2) (.tmp 46) rfl g2 rfl .u8 _ _ p rfl A2f 32 p6a HX HP ?_;intro w14 A14 o14 s14)|fail)
     rw[<-HPe.o];refine bodyPost_ret (v:=.agg (p.map (Value.int .u8)).toArray) ?_ rfl ⟨rfl,Bf.o.trans (o14.o.below (by omega))⟩;exact results_cell_row rfl _ _ g2 _ _ (0,0) _ rfl A14.o underlying30 rfl (by rw[p6a];have:=HP.o;simp[this])
theorem wf8{x:Int}(h:(Lit.int .u8 x).wf=true):0<=x/\x<=255:=by simpa[Lit.wf,IntKind.min,IntKind.max,IntKind.signed,IntKind.bits] using h
theorem D6c(op:BinOp)(x y:Int):0<=bits op .u8 x y/\bits op .u8 x y<=255:=wf8 (wf_bits op .u8 x y)
def K5b(c:Int)(xs:List Int):List Int:=xs.map λy=>bits .xor .u8 y c
theorem O6a(c:Int)(xs:List Int):(K5b c xs).length=xs.length:=by simp[K5b]
theorem D3b(c:Int)(xs:List Int):Bytes (K5b c xs):=λx hx=>by obtain⟨j,_,rfl⟩:=List.mem_map.1 hx;exact D6c _ _ _
def x5c(l:List Int):List Int:=l++List.replicate (64-l.length) 0
def k5b(k:List Int):List Int:=x5c (if 64<k.length then sumOf k else k)
def d3c(k b:List Int):List Int:=sumOf (K5b 92 (k5b k)++sumOf (K5b 54 (k5b k)++b))
def t9a(m:List Int):List Int:=m.take 48++List.replicate 16 0++m.drop 64
def E4b(k m:List Int):List Int:=(d3c k (t9a m)).take 16
def s7a(k m:List Int):List Int:=m.take 48++E4b k m++m.drop 64
def f2b(k m:List Int):Bool:=decide ((m.drop 48).take 16=E4b k m)
theorem g8b(l:List Int)(h:l.length<=64):(x5c l).length=64:=by simp[x5c];omega
theorem E3b(l:List Int)(h:Bytes l):Bytes (x5c l):=h.append (Bytes.zeros _)
theorem r6a(xs:List Int):(sumOf xs).length=32:=q6a _
theorem P6a(xs:List Int):Bytes (sumOf xs):=h7b _
theorem h8b(k:List Int):(k5b k).length=64:=by
 unfold k5b;split
 ·exact g8b _ (by rw[r6a];omega)
 ·exact g8b _ (by omega)
theorem k9b(k:List Int)(h:Bytes k):Bytes (k5b k):=by
 unfold k5b;split
 ·exact E3b _ (P6a _)
 ·exact E3b _ h
theorem F4b(k b:List Int):(d3c k b).length=32:=r6a _
theorem l9b(k b:List Int):Bytes (d3c k b):=P6a _
theorem s8a(k m:List Int):(E4b k m).length=16:=by simp[E4b,F4b]
theorem F3b(k m:List Int):Bytes (E4b k m):=(l9b _ _).take _
theorem T0c(k m:List Int)(h:64<=m.length):(s7a k m).length=m.length:=by simp[s7a,s8a];omega
section
variable {k m:List Int}
theorem m9b(h:64<=m.length):(s7a k m).take 48=m.take 48:=by unfold s7a;rw[List.append_assoc,List.take_left' (by simp;omega)]
theorem n9b(h:64<=m.length):(s7a k m).drop 64=m.drop 64:=by unfold s7a;rw[List.drop_left' (by simp[s8a];omega)]
theorem U0c(h:64<=m.length):((s7a k m).drop 48).take 16=E4b k m:=by unfold s7a;rw[List.append_assoc,List.drop_left' (by simp;omega),List.take_left' (s8a _ _)]
theorem k7b(h:64<=m.length):t9a (s7a k m)=t9a m:=by unfold t9a;rw[m9b h,n9b h]
theorem V0c(h:64<=m.length):E4b k (s7a k m)=E4b k m:=by unfold E4b;rw[k7b h]
theorem L5b(h:64<=m.length):f2b k (s7a k m)=true:=by unfold f2b;rw[decide_eq_true_iff,U0c h,V0c h]
end
section
variable {w w':World} {g B:Nat} {k:IntKind} {T:TypeId} {xs:List Int}
theorem Arr.holds(h:Arr w g .u8 T xs){n:Nat}(hn:xs.length=n)(hx:Bytes xs)(hb:n<=281474976710656):Holds w w.heap.size (some ⟨g,0,none⟩) n n xs:=⟨hn,Nat.le_refl _,hb,hx,λhA=>(by cases hA),λ_=>⟨g,0,rfl,h.lt,λi hi=>by rw[Nat.zero_add];exact h.cell (by omega)⟩⟩
end
section
variable {P:Program} {ops:Array Oper} {rest:List Oper} {o:Oper} {a:Act} {w:World} {Q:Exit->Act->World->Prop}
theorem h7a{w:World}{T e:TypeId}{n:Nat}(k:IntKind)(b off:Nat)(xs:List Int)(hu:P.underlying T=some (.array n e))(hi:(P.info? T).map (·.size)=some n)(hn:xs.length=n)
(hc:∀i,i<n->w.cell? ⟨b,off+i,none⟩=some (.int k (xs.getD i 0))):(loadVar T ⟨b,off,none⟩).run P w=.ok (.agg (xs.map (Value.int k)).toArray) w:=by
 have hl:=run_loadCells_list (P:=P) (w:=w) ⟨b,off,none⟩ (xs.map (Value.int k)) (λj v hj=>by
  have hjl:j<xs.length:=by
   by_cases hj':j<xs.length
   ·exact hj'
   ·rw[List.getElem?_eq_none (by simp;omega)] at hj;cases hj
  have e1:(⟨b,off,none⟩:Addr).add j=⟨b,off+j,none⟩:=by
   by_cases hj0:j=0
   ·subst hj0;simp[Addr.add]
   ·simp[Addr.add,hj0]
  rw[e1,hc j (by omega),<-hj];simp[hjl])
 rw[List.length_map,hn] at hl;obtain⟨j,hj,hj1⟩:∃j,P.info? T=some j/\j.size=n:=by
  cases hq:P.info? T with
  | none=>simp[hq] at hi
  | some j=>exact⟨j,rfl,by simpa[hq] using hi⟩
 have hagg:(isAgg T).run P w=.ok true w:=by unfold isAgg;rw[Sem.run_bind,run_underlying hu w];rfl
 unfold loadVar;simp[Sem.run_bind,hagg,sizeOf,typeInfo,hj,hj1,hl]
theorem Z0b(hg:o.guard=none)(T:TypeId)(x:Operand)(ho:o.op=.load T x)(b off:Nat)(hx:a.eval x=.pointer (some ⟨b,off,none⟩))(k:IntKind)(xs:List Int)(n:Nat)(e:TypeId)
(hu:P.underlying T=some (.array n e))(hi:(P.info? T).map (·.size)=some n)(hn:Hid (xs.length=n))(hc:Hid (∀i,i<n->w.cell? ⟨b,off+i,none⟩=some (.int k (xs.getD i 0))))
(h:wpList P ops Q rest (a.put o.dst (.agg (xs.map (Value.int k)).toArray)) w):wpList P ops Q (o::rest) a w:=by
 refine wpList_plain hg λK hK=>?_
 unfold Oper.wp execOp;have hr:=h7a (P:=P) (w:=w) k b off xs hu hi hn.o hc.o;simp only[ho,hx,Instr.loadAt,Instr.sureAddr,Sem.run_bind,Sem.run_pure,Result.andThen_ok,hr];exact hK _ _ h
theorem l7b(hg:o.guard=none)(T:TypeId)(x:Operand)(ho:o.op=.sliceToArrayPointer T x)(n m c:Nat)(e:TypeId)(ad:Addr)(hx:a.eval x=.slice (some ad) m c)(hu:P.underlying T=some (.array n e))(hm:n<=m)
(h:wpList P ops Q rest (a.put o.dst (.pointer (some ad))) w):wpList P ops Q (o::rest) a w:=by
 refine wpList_plain hg λK hK=>?_
 unfold Oper.wp execOp;have hlt:¬m<n:=by omega
 simp only[ho,hx,Instr.arrayAt,Sem.run_bind,run_underlying hu,Sem.run_pure,Result.andThen_ok,hlt,if_false];exact hK _ _ h
theorem G4b{S:World->Prop}{op:Oper}(hw:Region.wanted op (yielded ops a.tmps)=true)(T:TypeId)(x:Operand)(ho:op.op=.sliceToArrayPointer T x)(n m c:Nat)(e:TypeId)(ad:Addr)(hx:a.eval x=.slice (some ad) m c)
(hu:P.underlying T=some (.array n e))(hm:n<=m):YieldsIf P ops S op (.pointer (some ad)) a:=
 .inl ⟨hw,λw _=>by
  have hlt:¬m<n:=by omega
  unfold execOp;simp only[ho,hx,Instr.arrayAt,Sem.run_bind,run_underlying hu,Sem.run_pure,Result.andThen_ok,hlt,if_false]⟩
theorem u9a{S:World->Prop}{op:Oper}(hw:Region.wanted op (yielded ops a.tmps)=true)(T:TypeId)(x:Operand)(ho:op.op=.load T x)(b off:Nat)(hx:a.eval x=.pointer (some ⟨b,off,none⟩))(k:IntKind)(xs:List Int)(n:Nat)(e:TypeId)
(hS:∀w,S w->∀i,i<n->w.cell? ⟨b,off+i,none⟩=some (.int k (xs.getD i 0)))(hu:P.underlying T=some (.array n e))(hi:(P.info? T).map (·.size)=some n)(hn:Hid (xs.length=n)):YieldsIf P ops S op (.agg (xs.map (Value.int k)).toArray) a:=
 .inl ⟨hw,λw hw'=>by have hr:=h7a (P:=P) (w:=w) k b off xs hu hi hn.o (hS w hw');unfold execOp;simp only[ho,hx,Instr.loadAt,Instr.sureAddr,Sem.run_bind,Sem.run_pure,Result.andThen_ok,hr]⟩
section
variable {K:Act->World->Prop} {E:Prop}
theorem J4a(hg:o.guard=none)(T:TypeId)(ho:o.op=.alloc T)(k:IntKind)(zs:List Int)(n:Nat)(hi:Hid ((P.info? T).map (λi=>(i.zero,i.size))=some (some (.agg (zs.map (Value.int k)).toArray),n)))
(h:∀g w',w.heap.size<=g->g<w'.heap.size->Hid (Arr w' g k T zs)->Hid (BW w w')->K (a.put o.dst (.pointer (some ⟨g,0,none⟩))) w') :
  if Region.wanted o (yielded ops a.tmps)=true then Oper.wp P o a w K Q else E:=by
 have hw:Region.wanted o (yielded ops a.tmps)=true:=by simp[Region.wanted,hg]
 rw[if_pos hw];unfold Oper.wp execOp;have hz:=(zero_of_info hi.o).1;simp only[ho,Sem.run_bind,Instr.alloc,hz,newVar,newRow,run_newObj_alloc,Sem.run_pure,Result.andThen_ok];exact h _ _ (Nat.le_refl _) (by simp) (Arr.new w k T _) ((Below.refl _ _).alloc (Nat.le_refl _) _)
theorem X3a(hg:o.guard=none)(T:TypeId)(x y:Operand)(ho:o.op=.store T x y)(g:Nat)(hx:a.eval x=.pointer (some ⟨g,0,none⟩))(k:IntKind)(T':TypeId)(xs ys:List Int)(hy:a.eval y=.agg (ys.map (Value.int k)).toArray)
(hA:Hid (Arr w g k T' xs))(n:Nat)(hi:(P.info? T).map (·.size)=some n)(hn:Hid (xs.length=n))(hm:Hid (ys.length=n))
(h:∀w',Hid (Arr w' g k T' ys)->Hid (s2a g w w')->g<w'.heap.size->K (a.put o.dst undef) w') :
  if Region.wanted o (yielded ops a.tmps)=true then Oper.wp P o a w K Q else E:=by
 have hw:Region.wanted o (yielded ops a.tmps)=true:=by simp[Region.wanted,hg]
 rw[if_pos hw];refine wp_store_row T x y ho g _ hx hy T' _ hA.o (by rw[hi];have:=hm.o;simp[this]) (by have:=hm.o;have:=hn.o;simp_all) ?_ (h _ ?_ ((s2a.refl g w).setRow _) (by rw[size_setRow];exact hA.o.lt))
 ·apply Array.all_eq_true_iff_forall_mem.2;intro v hv;have hv':v∈ys.map (Value.int k):=by simpa using hv
  obtain⟨z,_,rfl⟩:=List.mem_map.1 hv';rfl
 ·exact setRow_heap w g _ _ T' (0,0) hA.o
end
end
theorem i7a{w:World}{ops:Array Oper}{rest:List Oper}{o:Oper}{a:Act}{Q:Exit->Act->World->Prop}(hgd:o.guard=none)(d s:Operand)
(ho:o.op=.call { callee:=.builtin .copy,args:=#[d,s],argTypes:=#[31,31] })
(g:Nat)(T:TypeId)(dLen dCap n c:Nat)(A:Option Addr)(hd:a.eval d=.slice (some ⟨g,0,none⟩) dLen dCap)(hs:a.eval s=.slice A n c)
(cur xs:List Int)(B:Nat)(hrow:Hid (Arr w g .u8 T cur))(hx:Holds w B A n c xs)(hn:n<=dLen)(hfit:n<=cur.length)
(h:∀w',Hid (Arr w' g .u8 T (xs++cur.drop n))->Hid (Below g w w')->wpList prog ops Q rest (a.put o.dst (goInt n)) w') :
  wpList prog ops Q (o::rest) a w:=by
 have hl:=hx.len;obtain⟨i0,hi,hz0,hz1,hz2⟩:=info_parts i3a;refine wpList_copy_splice hgd d s 31 31 ho 5 underlying31 (by rw[hi];simp[hz1]) (some ⟨g,0,none⟩) A dLen dCap n c hd hs g 0 (cur.map (Value.int .u8)) T hrow.o (xs.map (Value.int .u8)) (by rw[List.length_map,hl];exact(Nat.min_eq_left hn).symm) ?_ (by simp;omega)
  (by intro v hv;obtain⟨x,_,rfl⟩:=List.mem_map.1 hv;rfl) g w (Below.refl _ _) (Nat.le_refl _) ?_
 ·intro h0;refine⟨rfl,?_⟩;obtain⟨b,off,rfl,_,hc⟩:=hx.cells (by simp at h0;omega);refine⟨⟨b,off,none⟩,rfl,λj v hj=>?_⟩;have hjl:j<xs.length:=by
   by_cases hj':j<xs.length
   ·exact hj'
   ·rw[List.getElem?_eq_none (by simp;omega)] at hj;cases hj
  have e:(⟨b,off,none⟩:Addr).add j=⟨b,off+j,none⟩:=by
   by_cases hj0:j=0
   ·subst hj0;simp[Addr.add]
   ·simp[Addr.add,hj0]
  rw[e,hc j (by omega),<-hj];simp[hjl]
 ·intro w' hr hb;have e:(splice (cur.map (Value.int .u8)) 0 (xs.map (Value.int .u8)))=(xs++cur.drop n).map (Value.int .u8):=by simp[splice,hl]
  have hr':=hr.o;rw[e] at hr';rw[List.length_map,hl] at *;exact h w' hr' hb
def flS(f:Int):Int:=if f/8%2=1 then f else f+8
def flH(h:Hd)(f:Int):Hd:={ h with fl:=f }
def sgH(h:Hd)(s:List Int):Hd:={ h with sg:=s }
theorem u4c(h:Hd)(sg:List Int):X4a (sgH h sg)=(X4a h).take 48++sg:=by have e:pre (sgH h sg) 11=pre h 11:=rfl;have h48:(pre h 11).length=48:=f6a h 11 (by omega);unfold X4a;rw[e,List.take_left' h48];rfl
theorem W0c{f:Int}(h0:0<=f)(h1:f<16):f=0∨f=1∨f=2∨f=3∨f=4∨f=5∨f=6∨f=7∨f=8∨f=9∨f=10∨f=11∨f=12∨f=13∨f=14∨f=15:=by omega
theorem M5b{f:Int}(h0:0<=f)(h1:f<16):0<=flS f/\flS f<16/\r5a (flS f)=r5a f/\flS f/8%2=1/\flS (flS f)=flS f/\flS f/4%2=f/4%2:=by rcases W0c h0 h1 with rfl | rfl | rfl | rfl | rfl | rfl | rfl | rfl | rfl | rfl | rfl | rfl | rfl | rfl | rfl | rfl<;>decide
theorem N5b{h:Hd}(hm:L8a h=true):known h.cm=true/\h.fl<16/\(if r5a h.fl=true then decide (h.tr=0) else decide (h.asy=0))=true:=by unfold L8a at hm;rw[Bool.and_eq_true,Bool.and_eq_true,decide_eq_true_eq] at hm;exact hm
theorem H5c{h:Hd}(k:h.ok){f:Int}(h0:0<=f)(h1:f<=4294967295):(flH h f).ok:=⟨k.ch,k.st,k.cm,k.cr,⟨h0,h1⟩,k.nx,k.id,k.asy,k.tr,k.se,k.len,k.byte⟩
theorem E6c{h:Hd}(k:h.ok){s:List Int}(hl:s.length=16)(hb:Bytes s):(sgH h s).ok:=⟨k.ch,k.st,k.cm,k.cr,k.fl,k.nx,k.id,k.asy,k.tr,k.se,hl,hb⟩
def nxt(r:List Int):Nat:=(t1a r 0).nx.toNat
theorem X0c{g:Hd}(k:g.ok)(hm:L8a g=true)(z:List Int):b2a (X4a g++z) 0=0/\t1a (X4a g++z) 0=g:=by have:=get_put k hm [] z;simpa using this
theorem J7a:(prog.info? 116).map (·.size)=some 64:=by kernel_rfl
theorem b4c:(prog.info? 116).map (λi=>(i.zero,i.size))=some (some (.agg ((List.replicate 64 (0:Int)).map (Value.int .u8)).toArray),64):=by kernel_rfl
theorem v4c:prog.built 116 []=some ((List.replicate 64 (0:Int)).map (Value.int .u8)).toArray:=by kernel_rfl
theorem Y0c:(prog.info? 30).map (λi=>(i.zero,i.size))=some (some (.agg ((List.replicate 32 (0:Int)).map (Value.int .u8)).toArray),32):=by kernel_rfl
theorem B0b:(prog.info? 26).map (·.size)=some 16:=by kernel_rfl
theorem Z0c:(prog.info? 26).map (λi=>(i.zero,i.size))=some (some (.agg ((List.replicate 16 (0:Int)).map (Value.int .u8)).toArray),16):=by kernel_rfl
theorem w4c:prog.built 26 []=some ((List.replicate 16 (0:Int)).map (Value.int .u8)).toArray:=by kernel_rfl
theorem e3c(w:World)(A:Option Addr)(n c:Nat)(xs:List Int)(hn:n<=140737488355200)(h:Holds w w.heap.size A n c xs)(hK:z0b w) :
  Calls prog 73 #[.slice A n c] w λe w'=>e=.returned (.agg ((k5b xs).map (Value.int .u8)).toArray)/\BW w w':=by
 have HL:=hI h.len;obtain⟨Z,hZ⟩:∃Z:List Int,Z=List.replicate 64 0:=⟨_,rfl⟩;have HZ:=H6b 64;have hz1:=b4c;have hz2:=v4c;rw[<-hZ] at HZ hz1 hz2;have HZ1:=hI hz1;have HZ2:=hI hz2;have HZe:=hI hZ;obtain⟨X,hX⟩:∃Z:List Int,Z=List.replicate 32 0:=⟨_,rfl⟩;have HX:=H6b 32;have hx1:=Y0c;rw[<-hX] at HX hx1;have HX1:=hI hx1;have HP:=hI (h8b xs);clear hz1 hz2 hZ hx1 hX;by_cases hlt:64<n
 ·have cs:=λw h hK=>hI (S0c w A n c xs hn h hK)
  have hk:k5b xs=sumOf xs++List.replicate 32 0:=by unfold k5b x5c;rw[if_pos (by rw[HL.o];exact hlt),r6a]
  have HSl:Hid ((sumOf xs).length=32):=r6a xs;have hsb:=P6a xs;obtain⟨s,hs⟩:=xX (sumOf xs);rw[<-hs] at cs hk HSl hsb;obtain⟨p,hp⟩:=xX (k5b xs);rw[<-hp] at hk HP⊢;have HKe:Hid (s++Z.drop 32=p):=by
   show _=_
   rw[hk,HZe.o,List.drop_replicate]
  clear hs hp hk;go_enter func73,ntmps73;go_wp2_with(first|(refine sN 2 ?_;refine L0a rfl _ rfl .u8 Z 64 HZ1 ?_;intro g2 w2 e2 s2 A2 b2)|fail)
  have h2:Holds w2 w2.heap.size A n c xs:=h.over b2.o;refine(cs _ h2 (hK.below b2.o)).o.mono ?_;rintro e w3 ⟨rfl,b3⟩;have A23:Hid (Arr w3 g2 .u8 116 Z):=A2.o.over b3;have B3:Hid (BW w w3):=step b2.o b3;have HF:Hid (∀w',BW w3 w'->w.heap.size<=w3.heap.size):=λ_ _=>B3.o.size
  clear h2 b3 b2 A2 s2;go_wp2_with(first|(refine sN 3 ?_;refine L0a rfl _ rfl .u8 X 32 HX1 ?_;intro g3 w4 e4 s4 A4 b4)|(refine sT 3 ?_;refine M0a rfl _ (.tmp 3) (.tmp 9) rfl g3 rfl .u8 _ _ s rfl A4 32 p6a HX HSl ?_;intro w5 A5 o5 s5)|(refine J2a rfl _ rfl .u8 Z HZ2 ?_)|(refine sN 4 ?_;refine L0a rfl _ rfl .u8 Z 64 HZ1 ?_;intro g4 w6 e6 s6 A6 b6)|(refine sT 4 ?_;refine M0a rfl _ (.tmp 4) (.tmp 11) rfl g4 rfl .u8 _ _ Z rfl A6 64 J7a HZ HZ ?_;intro w7 A7 o7 s7;have H7:=hI (((A5.o.holds HSl.o hsb (by omega)).below b6.o).below (o7.o.below e6)))|(refine sN 14 ?_;refine i7a rfl (.tmp 12) (.tmp 13) rfl g4 _ 64 64 32 32 _ rfl rfl Z s _ A7 H7.o (by omega) (by rw[HZ.o];omega) ?_;intro w8 A8 b8;rw[HKe.o] at A8;have A28:Hid (Arr w8 g2 .u8 116 Z):=(((((A23.o.over b4.o).only o5.o (by have:=A23.o.lt;omega)).over b6.o).only o7.o (by have:=A23.o.lt;omega)).below b8.o (by have:=A23.o.lt;omega)))|(refine sN 15 ?_;refine u1a rfl _ (.tmp 4) rfl g4 rfl .u8 _ p A8 64 _ underlying116 J7a HP ?_)|(refine sT 2 ?_;refine M0a rfl _ (.tmp 2) (.tmp 15) rfl g2 rfl .u8 _ _ p rfl A28 64 J7a HZ HP ?_;intro w9 A9 o9 s9)|fail)
  have hs3:=B3.o.size;have B9:BW w w9:=(((((B3.o.trans (b4.o.mono hs3)).trans (o5.o.below (by omega))).trans (b6.o.mono (by omega))).trans (o7.o.below (by omega))).trans (b8.o.mono (by omega))).trans (o9.o.below e2);refine bodyPost_ret (v:=.agg (p.map (Value.int .u8)).toArray) ?_ rfl ⟨rfl,B9⟩;exact results_cell_row rfl _ _ g2 _ _ (0,0) _ rfl A9.o underlying116 rfl (by rw[J7a];have:=HP.o;simp[this])
 ·have hk:k5b xs=xs++List.replicate (64-n) 0:=by unfold k5b x5c;rw[if_neg (by rw[HL.o];exact hlt),HL.o]
  obtain⟨p,hp⟩:=xX (k5b xs);rw[<-hp] at hk HP⊢;have HKe:Hid (xs++Z.drop n=p):=by
   show _=_
   rw[hk,HZe.o,List.drop_replicate]
  have hle:(n:Int)<=64:=by omega
  clear hp hk;go_enter func73,ntmps73;go_wp2_with(first|(refine sN 2 ?_;refine L0a rfl _ rfl .u8 Z 64 HZ1 ?_;intro g2 w2 e2 s2 A2 b2)|(refine J2a rfl _ rfl .u8 Z HZ2 ?_)|(refine sN 4 ?_;refine L0a rfl _ rfl .u8 Z 64 HZ1 ?_;intro g4 w6 e6 s6 A6 b6)|(refine sT 4 ?_;refine M0a rfl _ (.tmp 4) (.tmp 11) rfl g4 rfl .u8 _ _ Z rfl A6 64 J7a HZ HZ ?_;intro w7 A7 o7 s7;have H7:=hI (((h.over b2.o).below b6.o).below (o7.o.below e6)))|(refine sN 14 ?_;refine i7a rfl (.tmp 12) (.tmp 13) rfl g4 _ 64 64 n c _ rfl rfl Z xs _ A7 H7.o (by omega) (by rw[HZ.o];omega) ?_;intro w8 A8 b8;rw[HKe.o] at A8;have A28:Hid (Arr w8 g2 .u8 116 Z):=(((A2.o.over b6.o).only o7.o (by omega)).below b8.o (by omega)))|(refine sN 15 ?_;refine u1a rfl _ (.tmp 4) rfl g4 rfl .u8 _ p A8 64 _ underlying116 J7a HP ?_)|(refine sT 2 ?_;refine M0a rfl _ (.tmp 2) (.tmp 15) rfl g2 rfl .u8 _ _ p rfl A28 64 J7a HZ HP ?_;intro w9 A9 o9 s9)|fail)
  have hs2:=b2.o.size;have B9:BW w w9:=(((b2.o.trans (b6.o.mono hs2)).trans (o7.o.below (by omega))).trans (b8.o.mono (by omega))).trans (o9.o.below e2);refine bodyPost_ret (v:=.agg (p.map (Value.int .u8)).toArray) ?_ rfl ⟨rfl,B9⟩;exact results_cell_row rfl _ _ g2 _ _ (0,0) _ rfl A9.o underlying116 rfl (by rw[J7a];have:=HP.o;simp[this])
theorem i8b{w:World}{gs:Nat}{A1 A2:Option Addr}{n1 c1 n2 c2:Nat}{xs ys:List Int}(hg:gs<w.heap.size)(k0:w.cell? ⟨gs,0,none⟩=some (.slice A1 n1 c1))(k1:w.cell? ⟨gs,1,none⟩=some (.slice A2 n2 c2))
(h1:Holds w w.heap.size A1 n1 c1 xs)(h2:Holds w w.heap.size A2 n2 c2 ys) :
  W3a w gs 2 (λi=>if i=0 then A1 else A2) (λi=>if i=0 then n1 else n2) (λi=>if i=0 then c1 else c2) (λi=>if i=0 then xs else ys):=by
 refine⟨hg,λi hi=>?_,λi hi=>?_⟩
 ·have:i=0∨i=1:=by omega
  rcases this with rfl | rfl
  ·exact k0
  ·exact k1
 ·have:i=0∨i=1:=by omega
  rcases this with rfl | rfl
  ·exact h1
  ·exact h2
theorem a1c(w:World)(gs:Nat)(A1 A2:Option Addr)(n1 c1 n2 c2:Nat)(xs ys:List Int)(hP:W3a w gs 2 (λi=>if i=0 then A1 else A2) (λi=>if i=0 then n1 else n2) (λi=>if i=0 then c1 else c2) (λi=>if i=0 then xs else ys))
(hb:n1+n2<=140737488355200)(hK:z0b w) :
  Calls prog 74 #[.slice (some ⟨gs,0,none⟩) 2 2] w λe w'=>e=.returned (.agg ((sumOf (xs++ys)).map (Value.int .u8)).toArray)/\BW w w':=by
 have hc:=λw hP=>N1b w gs 2 (λi=>if i=0 then A1 else A2) (λi=>if i=0 then n1 else n2) (λi=>if i=0 then c1 else c2) (λi=>if i=0 then xs else ys) hP (by omega) (show x0b (λi=>if i=0 then n1 else n2) 2<=140737488355328 by show 0+n1+n2<=_;omega)
 have hl:(xs++ys).length=n1+n2:=by
  have h1:=(hP.holds 0 (by omega)).len;have h2:=(hP.holds 1 (by omega)).len;rw[List.length_append];show xs.length+ys.length=_
  simp only[if_true] at h1;simp only[show ¬(1=0) by omega,if_false] at h2;omega
 have hbb:Bytes (xs++ys):=(hP.holds 0 (by omega)).byte.append (hP.holds 1 (by omega)).byte;have hC:=λw hP=>hI (hc w hP)
 have he:v5a (λi=>if i=0 then xs else ys) 2=xs++ys:=rfl;rw[he] at hC;obtain⟨N,hN⟩:=xX (n1+n2);rw[<-hN] at hl hb;obtain⟨all,hall⟩:=xX (xs++ys);rw[<-hall] at hl hbb hC⊢;have HL:=hI hl;have cs:=λw A c h hK=>hI (S0c w A N c all hb h hK)
 have HSl:Hid ((sumOf all).length=32):=r6a all;obtain⟨s,hs⟩:=xX (sumOf all);rw[<-hs] at cs HSl⊢;obtain⟨X,hX⟩:∃Z:List Int,Z=List.replicate 32 0:=⟨_,rfl⟩;have HX:=H6b 32;have hx1:=Y0c;rw[<-hX] at HX hx1;have HX1:=hI hx1;clear hx1 hX hl he hc hs hN hall;go_enter func74,ntmps74;go_wp2_with(first|(refine sN 2 ?_;refine L0a rfl _ rfl .u8 X 32 HX1 ?_;intro g2 w2 e2 s2 A2 b2)|fail)
 refine(hC _ (hP.over b2.o)).o.mono ?_;rintro e w3 ⟨v3,rfl,o3,b3⟩;obtain⟨A3,c3,rfl,h3⟩:=o3.holds hbb (by rw[HL.o];omega);rw[HL.o] at h3⊢;have H3:=hI h3;have B3:Hid (BW w w3):=step b2.o b3;have A23:Hid (Arr w3 g2 .u8 30 X):=A2.o.over b3;clear o3 h3 b3 A2 b2;go_wp2_with fail;refine(cs _ _ _ H3.o (hK.below B3.o)).o.mono ?_;rintro e w4 ⟨rfl,b4⟩;have A24:Hid (Arr w4 g2 .u8 30 X):=A23.o.over b4;have B4:Hid (BW w w4):=step B3.o b4;clear A23 B3 b4 H3;go_wp2_with(first|(refine sT 2 ?_;refine M0a rfl _ (.tmp 2) (.tmp 5) rfl g2 rfl .u8 _ _ s rfl A24 32 p6a HX HSl ?_;intro w9 A9 o9 s9)|fail)
 refine bodyPost_ret (v:=.agg (s.map (Value.int .u8)).toArray) ?_ rfl ⟨rfl,B4.o.trans (o9.o.below e2)⟩;exact results_cell_row rfl _ _ g2 _ _ (0,0) _ rfl A9.o underlying30 rfl (by rw[p6a];have:=HSl.o;simp[this])
theorem b1c(w:World)(xs:List Int)(hl:xs.length=32) :
  Calls prog 41 #[.agg (xs.map (Value.int .u8)).toArray] w λe w'=>e=.returned (.agg ((xs.take 16).map (Value.int .u8)).toArray)/\BW w w':=by
 have HP:Hid ((xs.take 16).length=16):=by show _=_;rw[List.length_take];omega
 have HC:Hid (∀i,i<16->(xs.take 16).getD i 0=xs.getD i 0):=λi hi=>by simp[List.getD_eq_getElem?_getD,hi]
 obtain⟨p,hp⟩:=xX (xs.take 16);rw[<-hp] at HP HC⊢;have HL:=hI hl;obtain⟨X,hX⟩:∃Z:List Int,Z=List.replicate 16 0:=⟨_,rfl⟩;have HX:=H6b 16;have hx1:=Z0c;rw[<-hX] at HX hx1;have HX1:=hI hx1;clear hp hl hX hx1;go_enter func41,ntmps41;go_wp2_with(first|(refine sN 1 ?_;refine V3a rfl _ (.tmp 0) rfl .u8 xs rfl ?_;intro g1 w1 e1 s1 A1 b1)|(refine sN 2 ?_;refine L0a rfl _ rfl .u8 X 16 HX1 ?_;intro g2 w2 e2 s2 A2 b2)|(refine sN 4 ?_;refine l7b rfl _ (.tmp 3) rfl 16 16 32 _ ⟨g1,0,none⟩ rfl underlying26 (by omega) ?_)|(refine sN 5 ?_;refine Z0b rfl _ (.tmp 4) rfl g1 0 rfl .u8 p 16 _ underlying26 B0b HP (λi hi=>by rw[HC.o i hi,Nat.zero_add];exact(A1.o.over b2.o).cell (by rw[HL.o];omega)) ?_)|(refine sT 2 ?_;refine M0a rfl _ (.tmp 2) (.tmp 5) rfl g2 rfl .u8 _ _ p rfl A2 16 B0b HX HP ?_;intro w9 A9 o9 s9)|fail)
 refine bodyPost_ret (v:=.agg (p.map (Value.int .u8)).toArray) ?_ rfl ⟨rfl,(step b1.o b2.o).trans (o9.o.below (by omega))⟩;exact results_cell_row rfl _ _ g2 _ _ (0,0) _ rfl A9.o underlying26 rfl (by rw[B0b];have:=HP.o;simp[this])
def w1b(w:World)(b off n:Nat)(xs:List Int)(e:Ending)(w':World):Prop:=
 ∃A3,e=.returned (.tuple #[.slice (some ⟨b,off,none⟩) 48 48,.slice (some ⟨b,off+48,none⟩) 16 16,.slice A3 (n-64) (n-64)])/\w=w'/\
  ∀w1 B c,Holds w1 B (some ⟨b,off,none⟩) n c xs->Holds w1 B A3 (n-64) (n-64) (xs.drop 64)
theorem m7b(w:World)(b off n c:Nat)(xs:List Int)(hn:64<=n)(hc:n<=c)(hb:n<=281474976710656) :
  Calls prog 21 #[.slice (some ⟨b,off,none⟩) n c] w (w1b w b off n xs):=by
 by_cases h64:n=64
 ·subst h64;go_enter func21,ntmps21;go_wp2_with fail;go_ret3;refine⟨some ⟨b,off,none⟩,rfl,rfl,λw1 B c hh=>?_⟩;have:=hh.len;rw[show xs.drop 64=[] from List.drop_of_length_le (by omega)];exact Holds.empty _ _ _ _ λhA=>(by cases hA)
 ·have h1:¬((n:Int)=64):=by omega
  have h2:(64:Int)<=(n:Int):=by omega
  have h3:¬(n-64=0):=by omega
  go_enter func21,ntmps21;go_wp2_with fail;go_ret3;refine⟨some ⟨b,off+64,none⟩,rfl,rfl,λw1 B c hh=>?_⟩;have hl:=hh.len;have h4:=hh.cut (k:=64) (m:=n-64) (by omega) (by omega)
  rwa [List.take_of_length_le (by rw[List.length_drop];omega)] at h4
def s6a(c:Int)(K:List Int)(k:Nat):List Int:=(K5b c K).take k++K.drop k
theorem G3b(c:Int)(K:List Int)(k:Nat)(hk:k<=K.length):(s6a c K k).length=K.length:=by simp[s6a,O6a];omega
theorem g2b(c:Int)(K:List Int):s6a c K 0=K:=by simp[s6a]
theorem h2b(c:Int)(K:List Int)(k:Nat)(hk:K.length=k):s6a c K k=K5b c K:=by unfold s6a;rw[List.take_of_length_le (by rw[O6a];omega),List.drop_of_length_le (by omega),List.append_nil]
theorem o9b(c:Int)(K:List Int)(k:Nat)(hk:k<K.length):(s6a c K k).getD k 0=K.getD k 0:=by
 have hl:((K5b c K).take k).length=k:=by simp[O6a];omega
 unfold s6a;rw[List.getD_eq_getElem?_getD,List.getElem?_append_right (by omega),hl,Nat.sub_self,List.getElem?_drop,Nat.add_zero,List.getD_eq_getElem?_getD]
theorem H3b(c:Int)(K:List Int)(k:Nat)(hk:k<K.length):(s6a c K k).set k (bits .xor .u8 (K.getD k 0) c)=s6a c K (k+1):=by
 have hl:((K5b c K).take k).length=k:=by simp[O6a];omega
 have hx:k<(K5b c K).length:=by rw[O6a];exact hk
 unfold s6a;rw[List.set_append_right _ _ (by omega),hl,Nat.sub_self,List.drop_eq_getElem_cons hk,List.set_cons_zero,List.take_succ_eq_append_getElem hx,List.append_assoc]
 congr 2
 simp[K5b,hk]
theorem c1c(w:World)(A:Option Addr)(n c:Nat)(ks:List Int)(hn:n<=140737488355200)(h:Holds w w.heap.size A n c ks)(gs m:Nat)(PA:Nat->Option Addr)(pn pc:Nat->Nat)(PX:Nat->List Int)(hP:W3a w gs m PA pn pc PX)
(hm:m<=1000)(hb:x0b pn m<=140737488355100)(hK:z0b w) :
  Calls prog 42 #[.slice A n c,.slice (some ⟨gs,0,none⟩) m m] w λe w'=>e=.returned (.agg ((d3c ks (v5a PX m)).map (Value.int .u8)).toArray)/\BW w w':=by
 have cl:=λw h hK=>hI (e3c w A n c ks hn h hK)
 have cc:=λw hP=>hI (N1b w gs m PA pn pc PX hP hm (by omega))
 have cs:=λw gs A1 A2 n1 c1 n2 c2 xs ys hP hb hK=>hI (a1c w gs A1 A2 n1 c1 n2 c2 xs ys hP hb hK)
 have hXl:(v5a PX m).length=x0b pn m:=Z7b (λi hi=>(hP.holds i hi).len) (Nat.le_refl _);have hXb:Bytes (v5a PX m):=O8b (λi hi=>(hP.holds i hi).byte) (Nat.le_refl _);have HKl:Hid ((k5b ks).length=64):=h8b ks;have hKb:Bytes (k5b ks):=k9b ks h.byte;have hmac:d3c ks (v5a PX m)=sumOf (K5b 92 (k5b ks)++sumOf (K5b 54 (k5b ks)++v5a PX m)):=rfl;have HR:Hid ((d3c ks (v5a PX m)).length=32):=F4b _ _;obtain⟨R,hR⟩:=xX (d3c ks (v5a PX m));obtain⟨K,hKe⟩:=xX (k5b ks);obtain⟨Y,hY⟩:=xX (v5a PX m);obtain⟨N,hN⟩:=xX (x0b pn m);rw[<-hR] at hmac HR⊢;rw[<-hKe] at cl HKl hKb hmac;rw[<-hY] at cc hXl hXb hmac;rw[<-hN] at hXl hb;have HMAC:=hI hmac;have HYL:=hI hXl;have HT:=hI hK;have HPP:=hI hP;have HH:=hI h;obtain⟨X,hX⟩:∃Z:List Int,Z=List.replicate 32 0:=⟨_,rfl⟩;have HX:=H6b 32;have hx1:=Y0c;rw[<-hX] at HX hx1;have HX1:=hI hx1;obtain⟨Z,hZ⟩:∃Z:List Int,Z=List.replicate 64 0:=⟨_,rfl⟩;have HZ:=H6b 64;have hz1:=b4c;rw[<-hZ] at HZ hz1;have HZ1:=hI hz1;clear hR hKe hY hN hx1 hX hz1 hZ hmac hXl hK hP h;go_enter func42,ntmps42;go_wp2_with(first|(refine sN 4 ?_;refine L0a rfl _ rfl .u8 X 32 HX1 ?_;intro g4 w4 e4 s4 A4 b4)|fail)
 refine(cl _ (HH.o.over b4.o) (HT.o.below b4.o)).o.mono ?_;rintro e w5 ⟨rfl,b5⟩;have A45:Hid (Arr w5 g4 .u8 30 X):=A4.o.over b5;have B5:Hid (BW w w5):=step b4.o b5;have l45:=A45.o.lt;clear A4 b4 b5 s4 HH;go_wp2_with(first|(refine sN 5 ?_;refine L0a rfl _ rfl .u8 Z 64 HZ1 ?_;intro g5 w6 e6 s6 A6 b6)|(refine sT 5 ?_;refine M0a rfl _ (.tmp 5) (.tmp 10) rfl g5 rfl .u8 _ _ K rfl A6 64 J7a HZ HKl ?_;intro w7 A7 o7 s7)|(refine sN 11 ?_;refine u1a rfl _ (.tmp 5) rfl g5 rfl .u8 _ K A7 64 _ underlying116 J7a HKl ?_)|(refine sN 6 ?_;refine L0a rfl _ rfl .u8 Z 64 HZ1 ?_;intro g6 w8 e8 s8 A8 b8)|(refine sT 6 ?_;refine M0a rfl _ (.tmp 6) (.tmp 11) rfl g6 rfl .u8 _ _ K rfl A8 64 J7a HZ HKl ?_;intro w9 A9 o9 s9)|fail)
 have hs5:=B5.o.size;have l56:g5<g6:=by omega
 have A59:Hid (Arr w9 g5 .u8 116 K):=(A7.o.over b8.o).only o9.o (by omega);have A49:Hid (Arr w9 g4 .u8 30 X):=(((A45.o.over b6.o).only o7.o (by omega)).over b8.o).only o9.o (by omega);have B9:Hid (BW w w9):=(((B5.o.trans (b6.o.mono hs5)).trans (o7.o.below (by omega))).trans (b8.o.mono (by omega))).trans (o9.o.below (by omega));have l4:w.heap.size<=g4:=e4;have l4':g4<g5:=by omega
 clear A45 A6 A7 A8 b6 o7 b8 o9 s6 s7 s8 e6 e8 e4 hs5 B5;go_loopw [12,7] (λi _ wr=>∃k:Nat,k<=64/\i=.int .i64 k/\Hid (Arr wr g5 .u8 116 (s6a 54 K k))/\Hid (Arr wr g6 .u8 116 (s6a 92 K k))/\Hid (Below g5 w9 wr)) (λi _ _=>64-(intOf i).toNat)
 case atStart=>exact⟨0,by omega,rfl,by rw[g2b];exact A59,by rw[g2b];exact A9,Below.refl _ _⟩
 case round=>
  obtain⟨k,hk,rfl,hR5,hR6,hB⟩:=hrel;by_cases hlt:k<64
  ·have hkl:k<K.length:=by rw[HKl.o];exact hlt
   have gc:=hR5.o.cell (i:=k) (by rw[G3b _ _ _ (by omega)];exact hkl);have gd:=hR6.o.cell (i:=k) (by rw[G3b _ _ _ (by omega)];exact hkl);rw[o9b _ _ _ hkl] at gc gd;have gf:=hR5.o.frozen k;have gh:=hR6.o.frozen k;have S5:=hR5.o.set k (bits .xor .u8 (K.getD k 0) 54);rw[H3b _ _ _ hkl] at S5;have S6:=(hR6.o.setOther (show g6≠g5 by omega) k (.int .u8 (bits .xor .u8 (K.getD k 0) 54))).set k (bits .xor .u8 (K.getD k 0) 92);rw[H3b _ _ _ hkl] at S6;have S5':=S5.setOther (show g5≠g6 by omega) k (.int .u8 (bits .xor .u8 (K.getD k 0) 92));have hbk:=hKb.getD k;obtain⟨y,hy⟩:=xX (K.getD k 0);rw[<-hy] at gc gd S5' S6 hbk;have HS5:=hI S5';have HS6:=hI S6;have hB2:Hid (Below g5 w9 ((wr.setCell ⟨g5,k,none⟩ (.int .u8 (bits .xor .u8 y 54))).setCell ⟨g6,k,none⟩ (.int .u8 (bits .xor .u8 y 92)))):=(hB.o.setCell (Nat.le_refl _) _).setCell (show g5<=g6 by omega) _;obtain⟨hbk0,hbk1⟩:=hbk;have hne:¬g5=g6:=by omega
   have hne':¬g6=g5:=by omega
   clear hy S5 S5' S6 hR5 hR6 hB;go_wp2_with fail;go_roundw
   case rel=>exact⟨k+1,by omega,by go_num,HS5,HS6,hB2⟩
   case measure=>simp[intOf];omega
  ·obtain rfl:k=64:=by omega
   have hKX5:=h2b 54 K 64 HKl.o;have hKX6:=h2b 92 K 64 HKl.o;rw[hKX5] at hR5;rw[hKX6] at hR6;have HI:Hid ((K5b 54 K).length=64):=by show _=_;rw[O6a,HKl.o]
   have HO:Hid ((K5b 92 K).length=64):=by show _=_;rw[O6a,HKl.o]
   have hIb:=D3b 54 K;have hOb:=D3b 92 K;have HM1:=HMAC.o;obtain⟨inn,hinn⟩:=xX (K5b 54 K);obtain⟨out,hout⟩:=xX (K5b 92 K);rw[<-hinn] at hR5 HI hIb HM1;rw[<-hout] at hR6 HO hOb HM1;have HS1:Hid ((sumOf (inn++Y)).length=32):=r6a _;have hS1b:=P6a (inn++Y);have cs1:=λw gs A2 n2 c2 g=>cs w gs (some ⟨g,0,none⟩) A2 64 64 n2 c2 inn Y
   obtain⟨s1,hs1⟩:=xX (sumOf (inn++Y));rw[<-hs1] at HS1 hS1b cs1 HM1;have cs2:=λw gs A2 g=>cs w gs (some ⟨g,0,none⟩) A2 64 64 32 32 out s1
   rw[<-HM1] at cs2;have Br:Hid (BW w wr):=B9.o.trans (hB.o.mono (by omega));have A4r:Hid (Arr wr g4 .u8 30 X):=A49.o.below hB.o l4';obtain⟨wz,hwz⟩:=xX wr;rw[<-hwz] at Br A4r hR5 hR6⊢;have HM:=hI HM1;clear hinn hout hs1 HM1 hB A9 A59 A49 B9 hKX5 hKX6 hwz HMAC cs cl hlt hk;go_upto_region 9 with(fail)
   go_cut [8] (λs8 wx=>∃g8,s8=.pointer (some ⟨g8,0,none⟩)/\Hid (Arr wx g8 .u8 30 s1)/\Hid (Arr wx g6 .u8 116 out)/\Hid (Arr wx g4 .u8 30 X)/\Hid (BW w wx)/\g4<g8)
   case first=>
    have B0:Hid (BW w wz.drew):=Br.o.drew;have R40:Hid (Arr wz.drew g4 .u8 30 X):=A4r.o.drew;have R50:Hid (Arr wz.drew g5 .u8 116 inn):=hR5.o.drew;have R60:Hid (Arr wz.drew g6 .u8 116 out):=hR6.o.drew;refine wp_region_held (S:=λ_=>True) (by kernel_rfl) ?_;change wpAnyH _ _ _ _ _ _ _ _ wz.drew
    refine tK 0 (.slice (some ⟨g5,0,none⟩) 64 64) rfl (.inl ⟨rfl,λw _=>by go_simp⟩) trivial ?_;refine tK 1 (.slice (some ⟨gs,0,none⟩) m m) rfl (.inl ⟨rfl,λw _=>by go_simp⟩) trivial ?_;refine j8a 2 5 _ _ (by kernel_rfl) rfl rfl (λK hK=>?_) (λK hK=>?_)
    ·skip
     go_simp;refine(cc _ (HPP.o.over B0.o)).o.mono ?_;rintro e w1 ⟨_,rfl,o3,b2⟩;obtain⟨A5,c6,rfl,h4⟩:=o3.holds hXb (by rw[HYL.o];omega);rw[HYL.o] at h4⊢;refine hK _ _ trivial ?_;clear hK K;have R47:=hI (R40.o.over b2);have R58:=hI (R50.o.over b2);have R69:=hI (R60.o.over b2);have B10:=hI (step B0.o b2);have HY11:=hI h4;clear o3 h4 b2;refine j8a 3 5 _ _ (by kernel_rfl) rfl rfl (λK hK=>?_) (λK hK=>?_)
     ·skip
      go_simp;refine hK _ _ trivial ?_;clear hK K;have b12:BW w1 (w1.alloc (.cells #[.slice (some ⟨g5,0,none⟩) 64 64,.slice A5 N c6] 31)):=(Below.refl _ _).alloc (Nat.le_refl _) _;have R416:=hI (R47.o.over b12);have R517:=hI (R58.o.over b12);have R618:=hI (R69.o.over b12);have HY19:=hI (HY11.o.over b12);have B20:=hI (step B10.o b12);have PP15:=hI (i8b (gs:=w1.heap.size) (by simp) (by simp) (by simp) (R517.o.holds HI.o hIb (by omega)) HY19.o);obtain⟨w13,hu14⟩:=xX (w1.alloc (.cells #[.slice (some ⟨g5,0,none⟩) 64 64,.slice A5 N c6] 31));obtain⟨gp21,hu14g⟩:=xX w1.heap.size;rw[<-hu14] at R416 R517 R618 HY19 PP15 B20⊢;rw[<-hu14g] at PP15⊢;clear b12 hu14 hu14g;refine j8a 4 5 _ _ (by kernel_rfl) rfl rfl (λK hK=>?_) (λK hK=>?_)
      ·skip
       go_simp;refine(cs1 _ gp21 A5 N c6 g5 PP15.o (by omega) (HT.o.below B20.o)).o.mono ?_;rintro e w22 ⟨rfl,b23⟩;refine hK _ _ trivial ?_;clear hK K;have R424:=hI (R416.o.over b23);have R525:=hI (R517.o.over b23);have R626:=hI (R618.o.over b23);have HY27:=hI (HY19.o.over b23);have PP28:=hI (PP15.o.over b23);have B29:=hI (step B20.o b23);clear b23;refine oN 5 _ rfl λK hK=>?_
       refine J4a rfl _ rfl .u8 X 32 HX1 ?_;intro g8 w30 e33 s34 R832 b31;refine hK _ _ trivial ?_;clear hK K;have hlw:w.heap.size<=g8:=Nat.le_trans B29.o.size e33;have hl6:g6<g8:=Nat.lt_of_lt_of_le R626.o.lt e33;have hl4:g4<g8:=Nat.lt_of_lt_of_le R424.o.lt e33;have R435:=hI (R424.o.over b31.o);have R536:=hI (R525.o.over b31.o);have R637:=hI (R626.o.over b31.o);have HY38:=hI (HY27.o.over b31.o);have PP39:=hI (PP28.o.over b31.o);have B40:=hI (step B29.o b31.o);clear b31 e33 s34;refine oN 6 _ rfl λK hK=>?_
       refine X3a rfl _ (.tmp 8) (.tmp 30) rfl g8 rfl .u8 _ X s1 rfl R832 32 p6a HX HS1 ?_;intro w41 F842 o43 s44;refine hK _ _ trivial ?_;clear hK K;refine dN ?_;go_wp2_with fail;go_meet;exact⟨g8,rfl,F842.o,R637.o.only o43.o (by omega),R435.o.only o43.o (by omega),B40.o.trans (o43.o.below hlw),hl4⟩
      ·skip
       refine J4a rfl _ rfl .u8 X 32 HX1 ?_;intro g8 w45 e48 s49 R847 b46;refine hK _ _ trivial ?_;clear hK K;have hlw:w.heap.size<=g8:=Nat.le_trans B20.o.size e48;have hl6:g6<g8:=Nat.lt_of_lt_of_le R618.o.lt e48;have hl4:g4<g8:=Nat.lt_of_lt_of_le R416.o.lt e48;have R450:=hI (R416.o.over b46.o);have R551:=hI (R517.o.over b46.o);have R652:=hI (R618.o.over b46.o);have HY53:=hI (HY19.o.over b46.o);have PP54:=hI (PP15.o.over b46.o);have B55:=hI (step B20.o b46.o);clear b46 e48 s49;refine oN 4 _ rfl λK hK=>?_
       go_simp;refine(cs1 _ gp21 A5 N c6 g5 PP54.o (by omega) (HT.o.below B55.o)).o.mono ?_;rintro e w56 ⟨rfl,b57⟩;refine hK _ _ trivial ?_;clear hK K;have R458:=hI (R450.o.over b57);have R559:=hI (R551.o.over b57);have R660:=hI (R652.o.over b57);have R861:=hI (R847.o.over b57);have HY62:=hI (HY53.o.over b57);have PP63:=hI (PP54.o.over b57);have B64:=hI (step B55.o b57);clear b57;refine oN 6 _ rfl λK hK=>?_
       refine X3a rfl _ (.tmp 8) (.tmp 30) rfl g8 rfl .u8 _ X s1 rfl R861 32 p6a HX HS1 ?_;intro w65 F866 o67 s68;refine hK _ _ trivial ?_;clear hK K;refine dN ?_;go_wp2_with fail;go_meet;exact⟨g8,rfl,F866.o,R660.o.only o67.o (by omega),R458.o.only o67.o (by omega),B64.o.trans (o67.o.below hlw),hl4⟩
     ·skip
      refine J4a rfl _ rfl .u8 X 32 HX1 ?_;intro g8 w69 e72 s73 R871 b70;refine hK _ _ trivial ?_;clear hK K;have hlw:w.heap.size<=g8:=Nat.le_trans B10.o.size e72;have hl6:g6<g8:=Nat.lt_of_lt_of_le R69.o.lt e72;have hl4:g4<g8:=Nat.lt_of_lt_of_le R47.o.lt e72;have R474:=hI (R47.o.over b70.o);have R575:=hI (R58.o.over b70.o);have R676:=hI (R69.o.over b70.o);have HY77:=hI (HY11.o.over b70.o);have B78:=hI (step B10.o b70.o);clear b70 e72 s73;refine oN 3 _ rfl λK hK=>?_
      go_simp;refine hK _ _ trivial ?_;clear hK K;have b79:BW w69 (w69.alloc (.cells #[.slice (some ⟨g5,0,none⟩) 64 64,.slice A5 N c6] 31)):=(Below.refl _ _).alloc (Nat.le_refl _) _;have R483:=hI (R474.o.over b79);have R584:=hI (R575.o.over b79);have R685:=hI (R676.o.over b79);have R886:=hI (R871.o.over b79);have HY87:=hI (HY77.o.over b79);have B88:=hI (step B78.o b79);have PP82:=hI (i8b (gs:=w69.heap.size) (by simp) (by simp) (by simp) (R584.o.holds HI.o hIb (by omega)) HY87.o);obtain⟨w80,hu81⟩:=xX (w69.alloc (.cells #[.slice (some ⟨g5,0,none⟩) 64 64,.slice A5 N c6] 31));obtain⟨gp89,hu81g⟩:=xX w69.heap.size;rw[<-hu81] at R483 R584 R685 R886 HY87 PP82 B88⊢;rw[<-hu81g] at PP82⊢;clear b79 hu81 hu81g;refine oN 4 _ rfl λK hK=>?_
      go_simp;refine(cs1 _ gp89 A5 N c6 g5 PP82.o (by omega) (HT.o.below B88.o)).o.mono ?_;rintro e w90 ⟨rfl,b91⟩;refine hK _ _ trivial ?_;clear hK K;have R492:=hI (R483.o.over b91);have R593:=hI (R584.o.over b91);have R694:=hI (R685.o.over b91);have R895:=hI (R886.o.over b91);have HY96:=hI (HY87.o.over b91);have PP97:=hI (PP82.o.over b91);have B98:=hI (step B88.o b91);clear b91;refine oN 6 _ rfl λK hK=>?_
      refine X3a rfl _ (.tmp 8) (.tmp 30) rfl g8 rfl .u8 _ X s1 rfl R895 32 p6a HX HS1 ?_;intro w99 F8100 o101 s102;refine hK _ _ trivial ?_;clear hK K;refine dN ?_;go_wp2_with fail;go_meet;exact⟨g8,rfl,F8100.o,R694.o.only o101.o (by omega),R492.o.only o101.o (by omega),B98.o.trans (o101.o.below hlw),hl4⟩
    ·skip
     refine J4a rfl _ rfl .u8 X 32 HX1 ?_;intro g8 w103 e106 s107 R8105 b104;refine hK _ _ trivial ?_;clear hK K;have hlw:w.heap.size<=g8:=Nat.le_trans B0.o.size e106;have hl6:g6<g8:=Nat.lt_of_lt_of_le R60.o.lt e106;have hl4:g4<g8:=Nat.lt_of_lt_of_le R40.o.lt e106;have R4108:=hI (R40.o.over b104.o);have R5109:=hI (R50.o.over b104.o);have R6110:=hI (R60.o.over b104.o);have B111:=hI (step B0.o b104.o);clear b104 e106 s107;refine oN 2 _ rfl λK hK=>?_
     go_simp;refine(cc _ (HPP.o.over B111.o)).o.mono ?_;rintro e w112 ⟨_,rfl,o114,b113⟩;obtain⟨A116,c117,rfl,h115⟩:=o114.holds hXb (by rw[HYL.o];omega);rw[HYL.o] at h115⊢;refine hK _ _ trivial ?_;clear hK K;have R4118:=hI (R4108.o.over b113);have R5119:=hI (R5109.o.over b113);have R6120:=hI (R6110.o.over b113);have R8121:=hI (R8105.o.over b113);have B122:=hI (step B111.o b113);have HY123:=hI h115;clear o114 h115 b113;refine oN 3 _ rfl λK hK=>?_
     go_simp;refine hK _ _ trivial ?_;clear hK K;have b124:BW w112 (w112.alloc (.cells #[.slice (some ⟨g5,0,none⟩) 64 64,.slice A116 N c117] 31)):=(Below.refl _ _).alloc (Nat.le_refl _) _;have R4128:=hI (R4118.o.over b124);have R5129:=hI (R5119.o.over b124);have R6130:=hI (R6120.o.over b124);have R8131:=hI (R8121.o.over b124);have HY132:=hI (HY123.o.over b124);have B133:=hI (step B122.o b124);have PP127:=hI (i8b (gs:=w112.heap.size) (by simp) (by simp) (by simp) (R5129.o.holds HI.o hIb (by omega)) HY132.o);obtain⟨w125,hu126⟩:=xX (w112.alloc (.cells #[.slice (some ⟨g5,0,none⟩) 64 64,.slice A116 N c117] 31));obtain⟨gp134,hu126g⟩:=xX w112.heap.size;rw[<-hu126] at R4128 R5129 R6130 R8131 HY132 PP127 B133⊢;rw[<-hu126g] at PP127⊢;clear b124 hu126 hu126g;refine oN 4 _ rfl λK hK=>?_
     go_simp;refine(cs1 _ gp134 A116 N c117 g5 PP127.o (by omega) (HT.o.below B133.o)).o.mono ?_;rintro e w135 ⟨rfl,b136⟩;refine hK _ _ trivial ?_;clear hK K;have R4137:=hI (R4128.o.over b136);have R5138:=hI (R5129.o.over b136);have R6139:=hI (R6130.o.over b136);have R8140:=hI (R8131.o.over b136);have HY141:=hI (HY132.o.over b136);have PP142:=hI (PP127.o.over b136);have B143:=hI (step B133.o b136);clear b136;refine oN 6 _ rfl λK hK=>?_
     refine X3a rfl _ (.tmp 8) (.tmp 30) rfl g8 rfl .u8 _ X s1 rfl R8140 32 p6a HX HS1 ?_;intro w144 F8145 o146 s147;refine hK _ _ trivial ?_;clear hK K;refine dN ?_;go_wp2_with fail;go_meet;exact⟨g8,rfl,F8145.o,R6139.o.only o146.o (by omega),R4137.o.only o146.o (by omega),B143.o.trans (o146.o.below hlw),hl4⟩
   case rest=>
    obtain⟨g8,rfl,A8,A6,A4c,Bc,l48⟩:=hcut;go_upto_region 10 with(fail)
    refine wp_region_held (S:=λ_=>True) (by kernel_rfl) ?_;change wpAnyH _ _ _ _ _ _ _ _ wc.drew
    have B0:Hid (BW w wc.drew):=Bc.o.drew;have R40:Hid (Arr wc.drew g4 .u8 30 X):=A4c.o.drew;have R60:Hid (Arr wc.drew g6 .u8 116 out):=A6.o.drew;have R80:Hid (Arr wc.drew g8 .u8 30 s1):=A8.o.drew;obtain⟨wq,hwq⟩:=xX wc.drew;rw[<-hwq] at B0 R40 R60 R80⊢;clear hwq;refine tK 0 (.slice (some ⟨g6,0,none⟩) 64 64) rfl (.inl ⟨rfl,λw _=>by go_simp⟩) trivial ?_;refine tK 1 (.slice (some ⟨g8,0,none⟩) 32 32) rfl (.inl ⟨rfl,λw _=>by go_simp⟩) trivial ?_;refine oN 2 _ rfl λK hK=>?_
    go_simp;refine hK _ _ trivial ?_;clear hK K;have b1:BW wq (wq.alloc (.cells #[.slice (some ⟨g6,0,none⟩) 64 64,.slice (some ⟨g8,0,none⟩) 32 32] 31)):=(Below.refl _ _).alloc (Nat.le_refl _) _;have R41:=hI (R40.o.over b1);have R61:=hI (R60.o.over b1);have R81:=hI (R80.o.over b1);have B1:=hI (step B0.o b1);have PP:=hI (i8b (gs:=wq.heap.size) (by simp) (by simp) (by simp) (R61.o.holds HO.o hOb (by omega)) (R81.o.holds HS1.o hS1b (by omega)));obtain⟨w1,hw1⟩:=xX (wq.alloc (.cells #[.slice (some ⟨g6,0,none⟩) 64 64,.slice (some ⟨g8,0,none⟩) 32 32] 31));rw[<-hw1] at R41 R61 R81 B1 PP⊢;clear b1 hw1 R40 R60 R80 B0;refine oN 3 _ rfl λK hK=>?_
    go_simp;refine(cs2 _ _ _ g6 PP.o (by omega) (HT.o.below B1.o)).o.mono ?_;rintro e w2 ⟨rfl,b2⟩;refine hK _ _ trivial ?_;clear hK K;have R42:=hI (R41.o.over b2);have B2:=hI (step B1.o b2);clear b2 R41 R61 R81 B1 PP;refine oN 4 _ rfl λK hK=>?_
    refine X3a rfl _ (.tmp 4) (.tmp 34) rfl g4 rfl .u8 _ X R rfl R42 32 p6a HX HR ?_;intro w3 A3 o3 s3;refine hK _ _ trivial ?_;clear hK K;refine dN ?_;go_wp2_with fail;refine bodyPost_ret (v:=.agg (R.map (Value.int .u8)).toArray) ?_ rfl ⟨rfl,B2.o.trans (o3.o.below l4)⟩;exact results_cell_row rfl _ _ g4 _ _ (0,0) _ rfl A3.o underlying30 rfl (by rw[p6a];have:=HR.o;simp[this])
section
variable {ops:Array Oper} {rest:List Oper} {o:Oper} {a:Act} {w:World} {Q:Exit->Act->World->Prop}
end
theorem a1b{P:Program}{T e:TypeId}{n:Nat}{k:IntKind}(hu:P.underlying T=some (.array n e))(he:P.underlying e=some (.int k))(hs:(P.info? e).map (·.size)=some 1)(xs ys:List Int)(hl:xs.length=n)(hm:ys.length=n)(d:Nat)(w:World) :
  (Op.equalIn (d+2) T (.agg (xs.map (Value.int k)).toArray) (.agg (ys.map (Value.int k)).toArray)).run P w=.ok (decide (xs=ys)) w:=by
 obtain⟨j,hj,hj1⟩:∃j,P.info? e=some j/\j.size=1:=by
  cases hq:P.info? e with
  | none=>simp[hq] at hs
  | some j=>exact⟨j,rfl,by simpa[hq] using hs⟩
 have hc:P.cellsOf e=1:=by unfold Program.cellsOf;rw[hj];simpa using hj1
 rw[show d+2=(d+1)+1 from rfl,run_equalIn_array w (d+1) _ _ hu hj,hc];have key:∀is:List Nat,(∀i∈is,i<n)->(Op.eqItems (d+1) e 1 (xs.map (Value.int k)).toArray (ys.map (Value.int k)).toArray is).run P w=.ok (is.all λi=>xs.getD i 0==ys.getD i 0) w:=by
  intro is
  induction is with
  | nil=>intro _;simp[Op.eqItems]
  | cons i is ih=>
   intro hi;have hil:i<n:=hi i List.mem_cons_self;have hx:i<xs.length:=by omega
   have hy:i<ys.length:=by omega
   have hp:(part e (xs.map (Value.int k)).toArray (i*1)).run P w=.ok (.int k xs[i]) w:=by simp[part,isAgg,run_underlying he,hx]
   have hp2:(part e (ys.map (Value.int k)).toArray (i*1)).run P w=.ok (.int k ys[i]) w:=by simp[part,isAgg,run_underlying he,hy]
   simp only[Op.eqItems,Sem.run_bind,hp,hp2,Result.andThen_ok,run_equalIn_int w d e k k _ _ he];have e1:xs.getD i 0=xs[i]:=by simp[List.getD_eq_getElem?_getD,hx]
   have e2:ys.getD i 0=ys[i]:=by simp[List.getD_eq_getElem?_getD,hy]
   rw[List.all_cons,e1,e2];by_cases hq:xs[i]=ys[i]
   ·rw[hq];simp only[beq_self_eq_true,Bool.not_true,Bool.false_eq_true,if_false,Bool.true_and];exact ih λi h=>hi i (List.mem_cons_of_mem _ h)
   ·have hb:(xs[i]==ys[i])=false:=by simpa using hq
    simp[hb]
 rw[key _ λi h=>List.mem_range.1 h]
 congr 1
 by_cases hq:xs=ys
 ·subst hq;simp
 ·rw[decide_eq_false hq,List.all_eq_false];have hne:¬∀i,i<n->xs.getD i 0=ys.getD i 0:=λhall=>hq (by apply List.ext_getElem (by omega);intro i h1 h2;have:=hall i (by omega);simpa[List.getD_eq_getElem?_getD,h1,h2] using this)
  obtain⟨i,hi⟩:=Classical.not_forall.1 hne;obtain⟨hi1,hi2⟩:=Classical.not_imp.1 hi;exact⟨i,List.mem_range.2 hi1,by simpa using hi2⟩
theorem F6c(xs:List Int)(h:xs.length=32):(xs.take 16).length=16:=by rw[List.length_take];omega
section
variable {w:World} {B b off n c:Nat} {xs:List Int}
theorem Holds.pre(h:Holds w B (some ⟨b,off,none⟩) n c xs){k:Nat}(hk:k<=n)(h0:0<k):Holds w B (some ⟨b,off,none⟩) k k (xs.take k):=by
 obtain⟨b1,off1,e,hb,hc⟩:=h.cells (by omega);injection e with e
 injection e with e1 e2
 subst e1 e2;have hl:=h.len;refine⟨by simp;omega,Nat.le_refl _,by have:=h.room;omega,h.byte.take k,λhA=>(by cases hA),λ_=>⟨b,off,rfl,hb,λi hi=>?_⟩⟩;rw[hc i (by omega)];simp[List.getD_eq_getElem?_getD,hi]
theorem Holds.mid(h:Holds w B (some ⟨b,off,none⟩) n c xs){j k:Nat}(hk:j+k<=n)(h0:0<k)(hj:0<j):Holds w B (some ⟨b,off+j,none⟩) k k ((xs.drop j).take k):=by
 have h1:=h.cut hk h0;have e:(⟨b,off,none⟩:Addr).add j=⟨b,off+j,none⟩:=by
  have hj0:¬j=0:=by omega
  simp[Addr.add,hj0]
 rw[Option.map_some,e] at h1;exact h1
theorem Holds.some_of(h:Holds w B (some ⟨b,off,none⟩) n c xs)(h0:0<n):b<B/\∀i,i<n->w.cell? ⟨b,off+i,none⟩=some (.int .u8 (xs.getD i 0)):=by
 obtain⟨b1,off1,e,hb,hc⟩:=h.cells h0;injection e with e
 injection e with e1 e2
 subst e1 e2;exact⟨hb,hc⟩
end
theorem v9a(w:World)(A:Option Addr)(n c:Nat)(ks:List Int)(hn:n<=140737488355100)(h:Holds w w.heap.size A n c ks)(b off n2 c2:Nat)(ms:List Int)(h64:64<=n2)(hn2:n2<=140737488355100)
(h2:Holds w w.heap.size (some ⟨b,off,none⟩) n2 c2 ms)(hK:z0b w) :
  Calls prog 22 #[.slice A n c,.slice (some ⟨b,off,none⟩) n2 c2] w λe w'=>e=.returned (.agg ((E4b ks ms).map (Value.int .u8)).toArray)/\BW w w':=by
 obtain⟨Z,hZ⟩:∃Z:List Int,Z=List.replicate 16 0:=⟨_,rfl⟩;have HZ:=H6b 16;have hz1:=Z0c;have hz2:=w4c;have hZb:=Bytes.zeros 16;have hbl:t9a ms=ms.take 48++List.replicate 16 0++ms.drop 64:=rfl;rw[<-hZ] at HZ hz1 hz2 hZb hbl;have HZ1:=hI hz1;have HZ2:=hI hz2;have cc:=λw=>hI (m7b w b off n2 c2 ms h64 h2.fit (by omega))
 unfold w1b at cc;have cm:=λw A3 g5 h gs hP hK=>c1c w A n c ks (by omega) h gs 3 (U0b [(some ⟨b,off,none⟩,48,48,ms.take 48),(some ⟨g5,0,none⟩,16,16,Z),(A3,n2-64,n2-64,ms.drop 64)]) (e0b [(some ⟨b,off,none⟩,48,48,ms.take 48),(some ⟨g5,0,none⟩,16,16,Z),(A3,n2-64,n2-64,ms.drop 64)])
  (V0b [(some ⟨b,off,none⟩,48,48,ms.take 48),(some ⟨g5,0,none⟩,16,16,Z),(A3,n2-64,n2-64,ms.drop 64)]) (T3a [(some ⟨b,off,none⟩,48,48,ms.take 48),(some ⟨g5,0,none⟩,16,16,Z),(A3,n2-64,n2-64,ms.drop 64)]) hP (by omega) (show 0+48+16+(n2-64)<=_ by omega) hK
 have hcx:∀(g5:Nat) (A3:Option Addr),v5a (T3a [(some ⟨b,off,none⟩,48,48,ms.take 48),(some ⟨g5,0,none⟩,16,16,Z),(A3,n2-64,n2-64,ms.drop 64)]) 3=t9a ms:=λ_ _=>by rw[hbl];rfl
 simp only[hcx] at cm;have hml:=F4b ks (t9a ms);have hde:E4b ks ms=(d3c ks (t9a ms)).take 16:=rfl;obtain⟨M,hM⟩:=xX (d3c ks (t9a ms));rw[<-hM] at hml hde;simp only[<-hM] at cm;have CM:=λw A3 g5 h gs hP hK=>hI (cm w A3 g5 h gs hP hK)
 have csh:=λw=>hI (b1c w M hml)
 have HR:Hid ((M.take 16).length=16):=F6c M hml;obtain⟨R,hR⟩:=xX (M.take 16);rw[hde,<-hR];rw[<-hR] at csh HR;have HH:=hI h;have HH2:=hI h2;have HT:=hI hK;obtain⟨q,hq⟩:=xX (n2-64);rw[<-hq] at cc CM;clear hR hz1 hz2 hZ h h2 hK cm hM hml hde hcx hbl hq;go_enter func22,ntmps22;go_wp2_with(first|(refine sN 4 ?_;refine L0a rfl _ rfl .u8 Z 16 HZ1 ?_;intro g4 w4 e4 s4 A4 b4)|(refine J2a rfl _ rfl .u8 Z HZ2 ?_)|(refine sN 5 ?_;refine L0a rfl _ rfl .u8 Z 16 HZ1 ?_;intro g5 w5 e5 s5 A5 b5)|(refine sT 5 ?_;refine M0a rfl _ (.tmp 5) (.tmp 9) rfl g5 rfl .u8 _ _ Z rfl A5 16 B0b HZ HZ ?_;intro w6 A6 o6 s6)|fail)
 refine(cc _).o.mono ?_;rintro e w7 ⟨A3,rfl,rfl,hA3⟩;have hs4:=b4.o.size;have B6:Hid (BW w w6):=(step b4.o b5.o).trans (o6.o.below (by omega));have A46:Hid (Arr w6 g4 .u8 26 Z):=(A4.o.over b5.o).only o6.o (by omega);have H26:Hid (Holds w6 w6.heap.size (some ⟨b,off,none⟩) n2 c2 ms):=HH2.o.over B6.o;have H36:=hI (hA3 _ _ _ H26.o);have H16:=hI (H26.o.pre (k:=48) (by omega) (by omega));have lw4:w.heap.size<=g4:=e4;clear A4 A5 b4 b5 o6 hA3 HH2 H26 e4 s4 e5 s5;go_wp2_with(first|(refine sN 20 ?_;refine u2a rfl 3 _ rfl [(some ⟨b,off,none⟩,48,48,ms.take 48),(some ⟨g5,0,none⟩,16,16,Z),(A3,q,q,ms.drop 64)] rfl (by kernel_rfl) (List.forall_mem_cons.2 ⟨H16.o,List.forall_mem_cons.2 ⟨A6.o.holds (n:=16) HZ.o hZb (by omega),List.forall_mem_cons.2 ⟨H36.o,λ_ h=>by cases h⟩⟩⟩) ?_;intro g8 w8 P8 b8)|fail)
 have B8:Hid (BW w w8):=step B6.o b8.o;refine(CM _ A3 g5 (HH.o.over B8.o) g8 P8.o (HT.o.below B8.o)).o.mono ?_;rintro e w9 ⟨rfl,b9⟩;have A49:Hid (Arr w9 g4 .u8 26 Z):=(A46.o.over b8.o).over b9;have B9:Hid (BW w w9):=step B8.o b9;clear P8 b8 b9 B8 B6 A46 A6 H36 H16 HH s6;go_wp2_with fail;refine(csh _).o.mono ?_;rintro e w17 ⟨rfl,b17⟩;have A417:Hid (Arr w17 g4 .u8 26 Z):=A49.o.over b17;have B17:Hid (BW w w17):=step B9.o b17;clear b17 A49 B9;go_wp2_with(first|(refine sT 4 ?_;refine M0a rfl _ (.tmp 4) (.tmp 22) rfl g4 rfl .u8 _ _ R rfl A417 16 B0b HZ HR ?_;intro w19 A19 o19 s19)|fail)
 refine bodyPost_ret (v:=.agg (R.map (Value.int .u8)).toArray) ?_ rfl ⟨rfl,B17.o.trans (o19.o.below lw4)⟩;exact results_cell_row rfl _ _ g4 _ _ (0,0) _ rfl A19.o underlying26 rfl (by rw[B0b];have:=HR.o;simp[this])
def n0b(n:Nat):Int:=if n<64 then 2 else 0
def i2b(ks ms:List Int):List Int:=if ms.length<64 then [] else s7a ks ms
def k5a(ks ms:List Int):Int:=if ms.length<64 then 2 else if f2b ks ms=true then 0 else 6
def H4b(w:World)(ks ms:List Int)(e:Ending)(w':World):Prop:=∃v,e=.returned (.tuple #[v,.int .i64 (n0b ms.length)])/\Own w' w.heap.size v (i2b ks ms)/\BW w w'
def j2b(w:World)(ks ms:List Int)(e:Ending)(w':World):Prop:=∃v,e=.returned (.tuple #[v,.int .i64 (n0b ms.length)])/\b1a .u8 5 w' w.heap.size v (i2b ks ms)/\BW w w'
theorem d1c(w:World)(A:Option Addr)(n c:Nat)(ks:List Int)(hn:n<=140737488355100)(h:Holds w w.heap.size A n c ks)(A2:Option Addr)(n2 c2:Nat)(ms:List Int)(hn2:n2<=140737488355100)(h2:Holds w w.heap.size A2 n2 c2 ms)(hK:z0b w) :
  Calls prog 11 #[.slice A n c,.slice A2 n2 c2] w (j2b w ks ms):=by
 have HL2:=hI h2.len;by_cases hlt:n2<64
 ·have hq:∀e w',(e=.returned (.tuple #[.slice none 0 0,.int .i64 2])/\w=w')->j2b w ks ms e w':=by
   rintro e w' ⟨rfl,rfl⟩;refine⟨.slice none 0 0,?_,?_,Below.refl _ _⟩
   ·unfold n0b;rw[if_pos (by rw[HL2.o];exact hlt)]
   ·unfold i2b;rw[if_pos (by rw[HL2.o];exact hlt)];exact b1a.nil _ _ _ _
  have HQ:=hI hq;clear hq;go_enter func11,ntmps11;go_wp2_with fail;go_ret2;exact HQ.o _ _ ⟨rfl,rfl⟩
 ·obtain⟨b,off,rfl,hbb,hcc⟩:=h2.cells (by omega);clear hbb hcc;have hq:∀e w',(∃v,e=.returned (.tuple #[v,.int .i64 0])/\b1a .u8 5 w' w.heap.size v (ms.take 48++E4b ks ms++ms.drop 64)/\BW w w')->j2b w ks ms e w':=by
   rintro e w' ⟨v,rfl,ho,hb⟩;refine⟨v,?_,?_,hb⟩
   ·unfold n0b;rw[if_neg (by rw[HL2.o];exact hlt)]
   ·unfold i2b;rw[if_neg (by rw[HL2.o];exact hlt)];exact ho
  have HQ:=hI hq;have cg:=λw h h2 hK=>hI (v9a w A n c ks hn h b off n2 c2 ms (by omega) hn2 h2 hK)
  have HR:Hid ((E4b ks ms).length=16):=s8a _ _;have hRb:=F3b ks ms;obtain⟨R,hR⟩:=xX (E4b ks ms);rw[<-hR] at cg HR hRb HQ;have cc:=λw=>hI (m7b w b off n2 c2 ms (by omega) h2.fit (by omega))
  unfold w1b at cc;have cn:=λw A3 g5 gs hP=>L2a w gs 3 (U0b [(some ⟨b,off,none⟩,48,48,ms.take 48),(some ⟨g5,0,none⟩,16,16,R),(A3,n2-64,n2-64,ms.drop 64)]) (e0b [(some ⟨b,off,none⟩,48,48,ms.take 48),(some ⟨g5,0,none⟩,16,16,R),(A3,n2-64,n2-64,ms.drop 64)])
   (V0b [(some ⟨b,off,none⟩,48,48,ms.take 48),(some ⟨g5,0,none⟩,16,16,R),(A3,n2-64,n2-64,ms.drop 64)]) (T3a [(some ⟨b,off,none⟩,48,48,ms.take 48),(some ⟨g5,0,none⟩,16,16,R),(A3,n2-64,n2-64,ms.drop 64)]) hP (by omega) (show 0+48+16+(n2-64)<=_ by omega)
  have hcx:∀(g5:Nat) (A3:Option Addr),v5a (T3a [(some ⟨b,off,none⟩,48,48,ms.take 48),(some ⟨g5,0,none⟩,16,16,R),(A3,n2-64,n2-64,ms.drop 64)]) 3=ms.take 48++R++ms.drop 64:=λ_ _=>rfl
  simp only[hcx] at cn;obtain⟨F,hF⟩:=xX (ms.take 48++R++ms.drop 64);simp only[<-hF] at cn;rw[<-hF] at HQ;have CN:=λw A3 g5 gs hP=>hI (cn w A3 g5 gs hP)
  have HH:=hI h;have HH2:=hI h2;have HT:=hI hK;obtain⟨Z,hZ⟩:∃Z:List Int,Z=List.replicate 16 0:=⟨_,rfl⟩;have HZ:=H6b 16;have hz1:=Z0c;rw[<-hZ] at HZ hz1;have HZ1:=hI hz1;obtain⟨q,hq'⟩:=xX (n2-64);rw[<-hq'] at cc CN;have hge:(64:Int)<=(n2:Int):=by omega
  clear hq hR hcx cn hF h h2 hK hZ hz1 hq';go_enter func11,ntmps11;go_wp2_with fail;refine(cc _).o.mono ?_;rintro e w7 ⟨A3,rfl,rfl,hA3⟩;go_wp2_with fail;refine(cg _ HH.o HH2.o HT.o).o.mono ?_;rintro e w1 ⟨rfl,b1⟩;have B1:=hI b1;clear b1;go_wp2_with(first|(refine sN 9 ?_;refine L0a rfl _ rfl .u8 Z 16 HZ1 ?_;intro g5 w5 e5 s5 A5 b5)|(refine sT 9 ?_;refine M0a rfl _ (.tmp 9) (.tmp 21) rfl g5 rfl .u8 _ _ R rfl A5 16 B0b HZ HR ?_;intro w6 A6 o6 s6;have hs1:=B1.o.size;have B6:Hid (BW w w6):=(step B1.o b5.o).trans (o6.o.below (by omega));have H26:Hid (Holds w6 w6.heap.size (some ⟨b,off,none⟩) n2 c2 ms):=HH2.o.over B6.o;have H36:=hI (hA3 _ _ _ H26.o);have H16:=hI (H26.o.pre (k:=48) (by omega) (by omega)))|(refine sN 25 ?_;refine u2a rfl 3 _ rfl [(some ⟨b,off,none⟩,48,48,ms.take 48),(some ⟨g5,0,none⟩,16,16,R),(A3,q,q,ms.drop 64)] rfl (by kernel_rfl) (List.forall_mem_cons.2 ⟨H16.o,List.forall_mem_cons.2 ⟨A6.o.holds (n:=16) HR.o hRb (by omega),List.forall_mem_cons.2 ⟨H36.o,λ_ h=>by cases h⟩⟩⟩) ?_;intro g8 w8 P8 b8)|fail)
  have B8:Hid (BW w w8):=step B6.o b8.o;refine(CN _ A3 g5 g8 P8.o).o.mono ?_;rintro e w9 ⟨v9,rfl,o9,b9⟩;have O9:=hI (o9.mono B8.o.size);have B9:Hid (BW w w9):=step B8.o b9;clear o9 b9 P8 b8 B8;go_wp2_with fail;go_ret2;exact HQ.o _ _ ⟨_,rfl,O9.o,B9.o⟩
theorem f3c(w:World)(A:Option Addr)(n c:Nat)(ks:List Int)(hn:n<=140737488355100)(h:Holds w w.heap.size A n c ks)(A2:Option Addr)(n2 c2:Nat)(ms:List Int)(hn2:n2<=140737488355100)(h2:Holds w w.heap.size A2 n2 c2 ms)(hK:z0b w) :
  Calls prog 11 #[.slice A n c,.slice A2 n2 c2] w (H4b w ks ms):=
 (d1c w A n c ks hn h A2 n2 c2 ms hn2 h2 hK).mono λ_ _ ⟨v,h1,h2,h3⟩=>⟨v,h1,h2.own,h3⟩
theorem e1c(w:World)(A:Option Addr)(n c:Nat)(ks:List Int)(hn:n<=140737488355100)(h:Holds w w.heap.size A n c ks)(A2:Option Addr)(n2 c2:Nat)(ms:List Int)(hn2:n2<=140737488355100)(h2:Holds w w.heap.size A2 n2 c2 ms)(hK:z0b w) :
  Calls prog 13 #[.slice A n c,.slice A2 n2 c2] w λe w'=>e=.returned (.int .i64 (k5a ks ms))/\BW w w':=by
 have HL2:=hI h2.len;by_cases hlt:n2<64
 ·have he:k5a ks ms=2:=by unfold k5a;rw[if_pos (by rw[HL2.o];exact hlt)]
  rw[he];clear he;go_enter func13,ntmps13;go_wp2_with fail;go_ret;exact⟨rfl,Below.refl _ _⟩
 ·obtain⟨b,off,rfl,hbb,hcc⟩:=h2.cells (by omega);have he:k5a ks ms=if f2b ks ms=true then 0 else 6:=by unfold k5a;rw[if_neg (by rw[HL2.o];exact hlt)]
  have hse:f2b ks ms=decide ((ms.drop 48).take 16=E4b ks ms):=rfl;have hmid:=(h2.mid (j:=48) (k:=16) (by omega) (by omega) (by omega)).some_of (by omega);have cg:=λw h h2 hK=>hI (v9a w A n c ks hn h b off n2 c2 ms (by omega) hn2 h2 hK)
  have HR:Hid ((E4b ks ms).length=16):=s8a _ _;have HM:Hid (((ms.drop 48).take 16).length=16):=by have:=HL2.o;show _=_;rw[List.length_take,List.length_drop];omega
  obtain⟨R,hR⟩:=xX (E4b ks ms);obtain⟨M,hM⟩:=xX ((ms.drop 48).take 16);rw[<-hR] at cg HR hse;rw[<-hM] at HM hse hmid;rw[hse] at he;have q1:=λw=>a1b (P:=prog) underlying26 underlying5 Z3c M R HM.o HR.o 9998 w
  have qg:prog.eqGuardType prog.depth 26=false:=by kernel_rfl
  obtain⟨d,hd⟩:=xX (decide (M=R));rw[<-hd] at q1 he;rw[he];have cc:=λw=>hI (m7b w b off n2 c2 ms (by omega) h2.fit (by omega))
  unfold w1b at cc;have HH:=hI h;have HH2:=hI h2;have HT:=hI hK;have HMID:=hI hmid;have hge:(64:Int)<=(n2:Int):=by omega
  clear he hse hR hM hd h h2 hK hmid hcc;go_enter func13,ntmps13;go_wp2_with fail;refine(cc _).o.mono ?_;rintro e w7 ⟨A3,rfl,rfl,hA3⟩;clear hA3;go_upto_region 4 with(fail)
  refine wp_region_held (S:=λw'=>∀i,i<16->w'.cell? ⟨b,off+48+i,none⟩=some (.int .u8 (M.getD i 0))) (by kernel_rfl) ?_;change wpAnyH _ _ _ _ _ _ _ _ w.drew
  have B0:Hid (BW w w.drew):=(Below.refl _ w).drew;have S0:Hid (∀i,i<16->w.drew.cell? ⟨b,off+48+i,none⟩=some (.int .u8 (M.getD i 0))):=λi hi=>HMID.o.2 i hi
  refine tK 0 (.slice (some ⟨b,off+48,none⟩) 16 16) rfl (.inl ⟨rfl,λw _=>by go_simp⟩) S0.o ?_;refine tK 1 (.pointer (some ⟨b,off+48,none⟩)) rfl (G4b rfl _ (.tmp 17) rfl 16 16 16 _ _ rfl underlying26 (by omega)) S0.o ?_;refine tK 2 (.agg (M.map (Value.int .u8)).toArray) rfl (u9a rfl _ (.tmp 18) rfl b (off+48) rfl .u8 M 16 _ (λ_ h=>h) underlying26 B0b HM) S0.o ?_;refine tK 3 (.slice A n c) rfl (.inl ⟨rfl,λw _=>by go_simp⟩) S0.o ?_;refine tK 4 (.slice (some ⟨b,off,none⟩) n2 c2) rfl (.inl ⟨rfl,λw _=>by go_simp⟩) S0.o ?_;refine oN 5 _ rfl λK hK=>?_
  go_simp;refine(cg _ (HH.o.over B0.o) (HH2.o.over B0.o) (HT.o.below B0.o)).o.mono ?_;rintro e w1 ⟨rfl,b1⟩;have B1:=hI (step B0.o b1);have S1:Hid (∀i,i<16->w1.cell? ⟨b,off+48+i,none⟩=some (.int .u8 (M.getD i 0))):=λi hi=>by rw[<-HMID.o.2 i hi];exact B1.o.cell (p:=⟨b,off+48+i,none⟩) HMID.o.1
  refine hK _ _ S1.o ?_;clear hK K b1;refine oN 6 _ rfl λK hK=>?_
  go_simp;refine hK _ _ S1.o ?_;clear hK K;refine dN ?_;cases d
  ·go_wp2_with fail;go_ret;exact⟨rfl,B1.o⟩
  ·go_wp2_with fail;go_ret;exact⟨rfl,B1.o⟩
theorem I3b(ks ms:List Int)(h:64<=ms.length):i2b ks ms=s7a ks ms:=by unfold i2b;rw[if_neg (by omega)]
theorem f1c(ks ms:List Int)(h:64<=ms.length):(i2b ks ms).length=ms.length:=by rw[I3b _ _ h,T0c _ _ h]
theorem I4b(ks ms:List Int)(h:64<=ms.length):k5a ks (i2b ks ms)=0:=by unfold k5a;rw[if_neg (by rw[f1c _ _ h];omega),I3b _ _ h,if_pos (L5b h)]
end Go.Proofs.YtjpcifmeimcikaaGreatDoor
