import Derived.Test.YtjpcifmeimcikaaGreatDoorSAM
import Derived.Test.YtjpcifmeimcikaaGreatDoorS0
set_option linter.all false
set_option maxHeartbeats 8000000
set_option maxRecDepth 100000
namespace Go.Proofs.YtjpcifmeimcikaaGreatDoor
open Go.Proofs.Tryz
open Go.RowKit
set_option maxRecDepth 100000
theorem n5c{w:World}{ac:List Value}{a:l1a}(k:a.ok)(ha:g1a w w.heap.size ac a)(hu:a.user.size<=17592186044416/\a.share.size<=17592186044416)(hT:E8a w):B3c w 13 ac a:=by
 intro w' hb;show Calls prog 60 _ _ λe w2=>∃v,e=.returned (.tuple #[v,.int .i64 (h1a 13 a)])/\w6a w2 w'.heap.size v (S2a 13 a)/\BW w' w2
 exact X6a w' 13 ac a (by decide) k (ha.over hb) hu (hT.below hb)
theorem o5c{w:World}{sc:List Value}{s:O1a}(k:s.ok)(hs:s1a w w.heap.size sc s):C3c w 13 sc s:=by
 intro w' hb;show Calls prog 62 _ _ λe w2=>∃v,e=.returned (.tuple #[v,.int .i64 (q1a 13 s)])/\w6a w2 w'.heap.size v (V2a 13 s)/\BW w' w2
 exact Y6a w' 13 sc s (by decide) k (hs.over hb)
theorem p5c{w:World}{A:Option Addr}{n c:Nat}{xs:List Int}(hx:Holds w w.heap.size A n c xs):n2c w 13 A n c xs:=by
 intro w' hb;show Calls prog 61 _ _ λe w2=>∃cs,e=.returned (.tuple #[.agg cs.toArray,.int .i64 (A2a 13 xs)])/\GA w2 w'.heap.size cs (N2a 13 xs)/\BW w' w2
 refine(D6b w' A n c xs (hx.over hb)).mono ?_;rintro e w2 ⟨vd,h1,h2,h3,_⟩;have hz:N2a 13 xs=i0a:=by
  unfold N2a;split
  ·unfold T6a;rw[if_neg (by decide),if_neg (by decide),if_neg (by decide)]
  ·rfl
 rw[hz] at h1 h2⊢;exact⟨_,h1,⟨h0a,h2,⟨.inl rfl,.inl rfl,.inl rfl⟩,.slice none 0 0,rfl,b1a.nil _ _ _ _⟩,h3⟩
def m3a:W4a:=⟨{ Q1a with cm:=13,id:=1 },i0a,n0a⟩
def D2c:W4a:=⟨D8b { Q1a with cm:=13,id:=1 } 15,i0a,n0a⟩
def h8a:List Int:=X4a m3a.h++[0,0,0,0]
theorem d7a:m3a.h.ok:=⟨by decide,by decide,by decide,by decide,by decide,by decide,by decide,by decide,by decide,by decide,by decide,Bytes.zeros 16⟩
theorem I1b:m3a.ok:=⟨d7a,h0a,I0a⟩
theorem N3c:D2c.ok:=⟨U7b d7a 15,h0a,I0a⟩
theorem q5c:Q3a m3a=0/\G5a m3a=h8a/\R5a m3a=[0,0,0,0]:=by decide +kernel
theorem r5c:Q3a D2c=0/\(G5a D2c).length=68/\R5a D2c=[0,0,0,0]:=by decide +kernel
theorem v6c:b2a h8a 0=0/\t1a h8a 0=m3a.h/\O9a h8a=0:=by decide +kernel
theorem s5c:b2a (h8a++[0]) 0=0/\t1a (h8a++[0]) 0=m3a.h/\O9a (h8a++[0])=5:=by decide +kernel
theorem t5c:(l5b h8a).h=m3a.h/\(l5b h8a).a=i0a/\(l5b h8a).s=n0a:=by decide +kernel
theorem u5c:h8a.length=68:=by decide +kernel
theorem b3b:Bytes h8a:=(k6a d7a.byte).append (Bytes.of_all (by decide))
theorem E8b(w:World)(hT:E8a w)(m:W4a)(k:m.ok)(ha:m.a=i0a)(hs:m.s=n0a)(h13:u8a m.h=13)(hb:R5a m=[0,0,0,0]) :
  Calls prog 8 #[.agg (m0a m.h++(zac++zsc)).toArray] w (o7a w m):=by
 refine g4c w m zac zsc k s0b t0b (x1a rfl rfl rfl) (N1a rfl rfl) (by rw[hb];exact Bytes.zeros 4) (by rw[hb];decide) ?_;intro w' g hbl B;refine Y3b w' g m zac zsc k B (by rw[ha];exact V1a w' _) (by rw[hs];exact v2a w' _) (by rw[ha];decide) (hT.below hbl) (λ_=>?_) (λ_=>?_)
 ·rw[h13,ha];exact n5c h0a (V1a w' _) (by decide) (hT.below hbl)
 ·rw[h13,hs];exact o5c I0a (v2a w' _)
theorem F8b(w:World)(A:Option Addr)(n c:Nat)(xs:List Int)(hx:Holds w w.heap.size A n c xs)(hh:b2a xs 0=0->t1a xs 0=m3a.h) :
  Calls prog 9 #[.slice A n c] w (p7a w xs):=by
 refine h4c w A n c xs hx λh0=>?_
 rw[hh h0];intro w' g A' n' c' hb B hy;exact b4b w' g m3a.h zac zsc d7a B s0b t0b A' n' c' _ rfl (λ_=>p5c (hy.mono (Nat.le_of_lt B.lt))) (λh=>absurd h (by decide))
theorem O3c(w:World)(hT:E8a w):Calls prog 8 #[.agg (m0a m3a.h++(zac++zsc)).toArray] w λe w'=>(∃A c,e=.returned (.tuple #[.slice A 68 c,.int .i64 0])/\Holds w' w'.heap.size A 68 c h8a)/\BW w w':=by
 have h:=E8b w hT m3a I1b rfl rfl (by decide) q5c.2.2;unfold o7a at h;rw[q5c.1,q5c.2.1] at h;refine h.mono λe w' ⟨v,h1,h2,h3⟩=>?_
 obtain⟨A,c,rfl,hh⟩:=b1a.holds8 h2 b3b (by rw[u5c];decide);rw[u5c] at h1 hh;exact⟨⟨A,c,h1,hh⟩,h3⟩
theorem E2c(w:World)(hT:E8a w):Calls prog 8 #[.agg (m0a (D8b m3a.h 15)++(zac++zsc)).toArray] w λe w'=>(∃A c,e=.returned (.tuple #[.slice A 68 c,.int .i64 0]))/\BW w w':=by
 have h:=E8b w hT D2c N3c rfl rfl (by decide) r5c.2.2;unfold o7a at h;rw[r5c.1] at h;refine h.mono λe w' ⟨v,h1,h2,h3⟩=>?_
 obtain⟨A,c,rfl⟩:=h2.own8.len;rw[r5c.2.1] at h1;exact⟨⟨A,c,h1⟩,h3⟩
theorem P3c(w:World)(A:Option Addr)(c:Nat)(hx:Holds w w.heap.size A 68 c h8a):Calls prog 9 #[.slice A 68 c] w λe w'=>(∃cs:List Value,e=.returned (.tuple #[.agg cs.toArray,.int .i64 0])/\G4a w' w'.heap.size cs m3a)/\BW w w':=by have h:=F8b w A 68 c _ hx (λ_=>v6c.2.1);unfold p7a at h;rw[v6c.2.2,t5c.1,t5c.2.1,t5c.2.2] at h;exact h.mono λe w' ⟨ac,sc,h1,h2,h3,h4⟩=>⟨⟨_,h1,ac,sc,rfl,h2.2.1,h3.2.1⟩,h4⟩
theorem F2c(w:World)(A:Option Addr)(c:Nat)(hx:Holds w w.heap.size A 69 c (h8a++[0])):Calls prog 9 #[.slice A 69 c] w λe w'=>(∃cs:List Value,e=.returned (.tuple #[.agg cs.toArray,.int .i64 5])/\cs.length=115/\∀v∈cs,v.oneCell'=true)/\BW w w':=by
 have h:=F8b w A 69 c _ hx (λ_=>s5c.2.1);unfold p7a at h;rw[s5c.2.2] at h;refine h.mono λe w' ⟨ac,sc,h1,h2,h3,h4⟩=>⟨⟨_,h1,?_,?_⟩,h4⟩
 ·have hz:(l5b (h8a++[0])).h=Q1a:=by unfold l5b;rw[s5c.2.2,if_neg (by decide)];rfl
  rw[hz];simp only[List.length_append,G0a Y2a,h2.len,h3.len]
 ·intro v hv;rcases List.mem_append.1 hv with hv | hv
  ·exact g2a _ v hv
  ·rcases List.mem_append.1 hv with hv | hv
   ·exact h2.one v hv
   ·exact h3.one v hv
theorem v5c:prog.built 28 [(2,.int .u16 13),(6,.int .u64 1)]=some (m0a m3a.h).toArray:=by kernel_rfl
theorem w6c:(m0a (D8b m3a.h 15))[1]? = some (.int .u32 15)/\(m0a (D8b m3a.h 15))[6]? = some (.int .u64 1):=by
 constructor
 ·show some (Value.int .u32 (IntKind.u32.wrap 15))=_
  rw[show IntKind.u32.wrap 15=15 by decide]
 ·rfl
theorem Y9b(w:World)(hT:E8a w):Calls prog 4 #[] w λe w'=>e=.returned (.bool true)/\BW w w':=by
 have HT:=hI hT;have C1:=hI O3c;have C2:=hI P3c;have C3:=hI F2c;have C4:=hI E2c;have CA:Hid (∀w':World,Calls prog 10 #[hv m3a.h,.int .i64 15] w' λe w2=>e=.returned (hv (D8b m3a.h 15))/\BW w' w2):=λw'=>X9b w' _ d7a 15 (by decide)
 have CS:Hid (∀(w':World) cs,G4a w' w'.heap.size cs m3a->Calls prog 7 #[.agg cs.toArray,.agg (m0a m3a.h++(zac++zsc)).toArray] w' λe w2=>e=.returned (.bool true)/\BW w' w2):=λw' cs h=>by have h1:=E6b w' cs (m0a m3a.h++(zac++zsc)) m3a m3a I1b I1b h ⟨zac,zsc,rfl,V1a w' _,v2a w' _⟩ ⟨by decide,by decide⟩ ⟨by decide,by decide⟩;simpa using h1
 have B1:=v5c;have B2:=l2c x8a (G0a d7a);have B3:=l2c x8a (G0a (U7b d7a 15));have N1:=hI (G0a d7a);have N2:=hI (G0a (U7b d7a 15));have O2:=hI (g2a (D8b m3a.h 15));have A1:=hI w6c.1;have A6:=hI w6c.2;have ZM:=hI R9a;have HZ:=hI I3a;have ZH:=hI C7a;have HZH:=hI (G0a Y2a);have HLM:Hid (∀(w':World) cs,G4a w' w'.heap.size cs m3a->cs.length=115/\∀v∈cs,v.oneCell'=true):=λw' cs h=>⟨h.len I1b,h.one⟩
 have HM1:Hid ((m0a m3a.h++(zac++zsc)).length=115):=by
  show _=_
  simp only[List.length_append,N1.o,s0b,t0b]
 have HM2:Hid (∀v∈m0a m3a.h++(zac++zsc),v.oneCell'=true):=(show G4a w w.heap.size _ m3a from ⟨zac,zsc,rfl,V1a w _,v2a w _⟩).one;have RH:Hid (∀(w:World) g T,Blk w g T (m0a m3a.h++(zac++zsc))->w.rangeAt g 0 (m0a m3a.h)):=λw g T b=>T2b b
 change prog.built _ _=some (m0a m3a.h++(zac++zsc)).toArray at B2
 change prog.built _ _=some (m0a (D8b m3a.h 15)++(zac++zsc)).toArray at B3
 have HB:=hI b3b;have HBL:=hI u5c;unfold hv at CA;obtain⟨M1,hM1⟩:=xX (m0a m3a.h++(zac++zsc));rw[<-hM1] at C1 CS B2 HM1 HM2 RH;obtain⟨M2,hM2⟩:=xX (m0a (D8b m3a.h 15)++(zac++zsc));rw[<-hM2] at C4 B3;obtain⟨h1,hh1⟩:=xX (m0a m3a.h);rw[<-hh1] at CA B1 B2 N1 RH;obtain⟨h2,hh2⟩:=xX (m0a (D8b m3a.h 15));rw[<-hh2] at CA B3 N2 O2 A1 A6;obtain⟨bs,hbs⟩:=xX h8a;rw[<-hbs] at C1 C2 C3 HB HBL;obtain⟨em,hem⟩:=xX m3a;rw[<-hem] at C2 CS HLM;obtain⟨zm,hzm⟩:=xX E1a;rw[<-hzm] at ZM HZ;obtain⟨zh,hzh⟩:=xX (m0a Q1a);rw[<-hzh] at ZH HZH;clear hM1 hM2 hh1 hh2 hbs hem hzm hzh hT;go_enter func4,ntmps4;go_wp2_with(first|((with_reducible refine sN 11 ?_);refine v0a rfl _ _ rfl h1 (by refine Eq.trans ?_ B1;kernel_rfl) ?_)|((with_reducible refine sN 12 ?_);refine v0a rfl _ _ rfl M1 (by refine Eq.trans ?_ B2;kernel_rfl) ?_)|((with_reducible refine sN 1 ?_);refine b0a rfl _ rfl zm _ ZM ?_;intro g1 w1 hg1 hg2 Z1 L1)|((with_reducible refine sT 1 ?_);refine a0a rfl _ (.tmp 1) (.tmp 12) rfl g1 rfl _ zm M1 rfl Z1 115 r1a HZ HM1 HM2 ?_;intro w2 X2 P2 hg3;have M2':=hI (c0a L1.o P2.o hg1))|((with_reducible refine sN 14 ?_);refine e0a rfl _ (.tmp 1) rfl g1 rfl _ M1 X2 115 _ underlying41 rfl r1a HM1 ?_)|fail)
 refine(C1.o w2 (HT.o.below M2'.o)).mono ?_;rintro e w3 ⟨⟨A3,c3,rfl,hh3⟩,L3⟩;have H3:=hI hh3;have hc3:68<=c3:=hh3.fit;have hc4:(68:Int)<=(c3:Int):=by omega
 have X3:=hI (X2.o.over L3);have M3:=hI (step M2'.o L3);clear hh3 L3 C1 Z1 L1 P2 M2' X2;go_wp2_with fail;refine(C2.o w3 A3 c3 H3.o).mono ?_;rintro e w4 ⟨⟨cs,rfl,hcs⟩,L4⟩;have H4:=hI (H3.o.over L4);have X4:=hI (X3.o.over L4);have M4:=hI (step M3.o L4);have K4:=hI hcs;have KL:=hI (HLM.o _ _ hcs).1;have KO:=hI (HLM.o _ _ hcs).2;clear hcs L4 C2 H3 X3 M3;go_wp2_with(first|((with_reducible refine sN 4 ?_);refine b0a rfl _ rfl zm _ ZM ?_;intro g5 w5 hg5 hg6 Z5 L5;have M5:=hI (step M4.o L5.o))|((with_reducible refine sT 4 ?_);refine a0a rfl _ (.tmp 4) (.tmp 21) rfl g5 rfl _ zm cs rfl Z5 115 r1a HZ KL KO ?_;intro w6 X6 P6 hg7;have L6:=hI (c0a L5.o P6.o hg5);have M6:=hI (step M4.o L6.o);have H6:=hI (H4.o.over L6.o);have Y6:=hI (X4.o.over L6.o);have K6:=hI (K4.o.over L6.o))|((with_reducible refine sN 30 ?_);refine o1a rfl _ _ 1 _ rfl underlying31 ([.int .u8 0]:List Value) (by kernel_rfl) ?_;intro g7 w7 q3 q4 Y7 L7;have M7:=hI (step M6.o L7.o);have H7:=hI (H6.o.over L7.o);have X7:=hI (Y6.o.over L7.o);have K7:=hI (K6.o.over L7.o);have D7:=hI (X6.o.over L7.o);have HX7:Hid (Holds w7 w7.heap.size (some ⟨g7,0,none⟩) 1 1 [0]):=Holds.of_lit (xs:=[0]) Y7.o (Bytes.of_all (by decide)))|((with_reducible refine sN 31 ?_);refine a0b rfl (.tmp 29) (.tmp 30) rfl w7.heap.size A3 68 c3 bs rfl H7.o w7.heap.size (some ⟨g7,0,none⟩) 1 1 [0] rfl HX7.o (by decide) (by decide) ?_;intro u8 w8 O8 L8)|fail)
 obtain⟨A8,c8,rfl,hh8⟩:=O8.o.holds (HB.o.append (Bytes.of_all (by decide))) (by rw[List.length_append,HBL.o];decide);rw[List.length_append,HBL.o] at hh8⊢;have H8:=hI hh8;have M8:=hI (step M7.o L8);have X8:=hI (X7.o.over L8);have K8:=hI (K7.o.over L8);have D8:=hI (D7.o.over L8);clear hh8 L8 O8 M7 X7 K7 D7 H7 HX7 Y7 L7 M6 H6 Y6 K6 L6 X6 P6 Z5 L5 M5 M4 H4 X4 K4;go_wp2_with fail;refine(C3.o w8 A8 c8 H8.o).mono ?_;rintro e w9 ⟨⟨ds,rfl,hd1,hd2⟩,L9⟩;have DL:=hI hd1;have DO:=hI hd2;have M9:=hI (step M8.o L9);have X9:=hI (X8.o.over L9);have K9:=hI (K8.o.over L9);have D9:=hI (D8.o.over L9);clear hd1 hd2 L9 M8 X8 K8 D8 H8 C3;go_wp2_with(first|((with_reducible refine sN 6 ?_);refine b0a rfl _ rfl zm _ ZM ?_;intro g10 w10 hg10 hg11 Z10 L10)|((with_reducible refine sT 6 ?_);refine a0a rfl _ (.tmp 6) (.tmp 33) rfl g10 rfl _ zm ds rfl Z10 115 r1a HZ DL DO ?_;intro w11 X11 P11 hg12;have L11:=hI (c0a L10.o P11.o hg10);have M11:=hI (step M9.o L11.o);have Y11:=hI (X9.o.over L11.o);have K11:=hI (K9.o.over L11.o);have D11:=hI (D9.o.over L11.o))|((with_reducible refine sN 36 ?_);refine q0a rfl _ (.tmp 35) rfl g1 0 rfl h1 _ (hI (RH.o _ _ _ Y11.o)) underlying28 rfl 26 K0a N1 ?_)|fail)
 refine(CA.o w11).mono ?_;rintro e w12 ⟨rfl,L12⟩;have M12:=hI (step M11.o L12);have Y12:=hI (Y11.o.over L12);have K12:=hI (K11.o.over L12);have D12:=hI (D11.o.over L12);clear L12 M11 Y11 K11 D11 L11 X11 P11 Z10 L10 M9 X9 K9 D9 CA;go_wp2_with(first|((with_reducible refine sN 8 ?_);refine b0a rfl _ rfl zh _ ZH ?_;intro g13 w13 hg13 hg14 Z13 L13)|((with_reducible refine sT 8 ?_);refine a0a rfl _ (.tmp 8) (.tmp 37) rfl g13 rfl _ zh h2 rfl Z13 26 K0a HZH N2 O2 ?_;intro w14 X14 P14 hg15;have L14:=hI (c0a L13.o P14.o hg13);have M14:=hI (step M12.o L14.o);have Y14:=hI (Y12.o.over L14.o);have K14:=hI (K12.o.over L14.o);have D14:=hI (D12.o.over L14.o))|((with_reducible refine sN 39 ?_);refine e0a rfl _ (.tmp 8) rfl g13 rfl _ h2 X14 26 _ underlying28 rfl K0a N2 ?_)|((with_reducible refine sN 40 ?_);refine v0a rfl _ _ rfl M2 (by refine Eq.trans ?_ B3;kernel_rfl) ?_)|fail)
 refine(C4.o w14 (HT.o.below M14.o)).mono ?_;rintro e w15 ⟨⟨A15,c15,rfl⟩,L15⟩;have M15:=hI (step M14.o L15);have Y15:=hI (Y14.o.over L15);have K15:=hI (K14.o.over L15);have D15:=hI (D14.o.over L15);have X15:=hI (X14.o.over L15);clear L15 M14 Y14 K14 D14 X14 L14 P14 Z13 L13 M12 Y12 K12 D12 C4;go_wp2_with(first|((with_reducible refine sN 56 ?_);refine b4a (by kernel_rfl) _ (.tmp 4) rfl g5 rfl _ cs D15 115 _ underlying41 rfl r1a KL ?_)|((with_reducible refine sN 57 ?_);refine b4a (by kernel_rfl) _ (.tmp 1) rfl g1 rfl _ M1 Y15 115 _ underlying41 rfl r1a HM1 ?_)|fail)
 refine(CS.o w15 cs K15.o).mono ?_;rintro e w16 ⟨rfl,L16⟩;have M16:=hI (step M15.o L16);have d1:w16.cell? ⟨g13,1,none⟩=some (.int .u32 15):=(X15.o.over L16).at A1.o;have d2:w16.cell? ⟨g13,6,none⟩=some (.int .u64 1):=(X15.o.over L16).at A6.o;clear L16 M15 Y15 K15 D15 X15 CS;go_wp2;go_ret;exact⟨rfl,M16.o⟩
end Go.Proofs.YtjpcifmeimcikaaGreatDoor
