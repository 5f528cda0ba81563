import Derived.Shelf.Bytes.SlSearch0
import Derived.Shelf.Bytes.SlEqualAll
import Derived.Test.YtpodpmckdiijhaaGreatDoorZAH
import Derived.Test.YtpodpmckdiijhaaGreatDoorZAK
import Derived.Test.YtpodpmckdiijhaaGreatDoorS0
set_option linter.all false
set_option maxHeartbeats 8000000
set_option maxRecDepth 100000
namespace Go.Proofs.YtpodpmckdiijhaaGreatDoor
open Go.RowKit
set_option maxRecDepth 100000
theorem b5b:(Tryz.prog.info? 179).map (λi=>(i.zero,i.size))=some (some (.agg ([.slice none 0 0,.int .i64 0,.int .i64 0]:List Value).toArray),3):=by kernel_rfl
theorem N9a:(Tryz.prog.info? 179).map (·.size)=some 3:=by kernel_rfl
def T1a(w:World)(c:Int)(xs:List Int)(e:Ending)(w':World):Prop:=∃cs,e=.returned (.tuple #[.agg cs.toArray,.int .i64 (k4a c xs)])/\j1a w' w'.heap.size cs (Y5a c xs)/\cs[61]? = some (.slice none 0 0)/\Below w.heap.size w w'
theorem C4b(w:World)(c:Int)(A:Option Addr)(n k:Nat)(xs:List Int)(hc:0<=c/\c<=65535)(hx:Holds w w.heap.size A n k xs) :
  Calls Tryz.prog 112 #[.int .u16 c,.slice A n k] w (T1a w c xs):=by
 have hby:=hx.byte;have HX:=hI hx;have ZH:=hI Q7a;have BZ:=R7a;have ZR:=hI b5b;have HZ:Hid ((o0a (.slice none 0 0) (.slice none 0 0) (.slice none 0 0) j0a).length=69):=P1a h0a;have HZ1:Hid (∀v∈o0a (.slice none 0 0) (.slice none 0 0) (.slice none 0 0) j0a,v.oneCell'=true):=(h2a w 0).one;have HZI:Hid (∀w':World,j1a w' w'.heap.size (o0a (.slice none 0 0) (.slice none 0 0) (.slice none 0 0) j0a) j0a):=λw'=>h2a w' _
 have HZD:Hid ((o0a (.slice none 0 0) (.slice none 0 0) (.slice none 0 0) j0a)[61]? = some (.slice none 0 0)):=rfl;have BR:Tryz.prog.built 179 [(0,.slice A n k)]=some ([.slice A n k,.int .i64 0,.int .i64 0]:List Value).toArray:=by kernel_rfl
 have HR0:Hid (([.slice none 0 0,.int .i64 0,.int .i64 0]:List Value).length=3):=rfl;have HR1:Hid (([.slice A n k,.int .i64 0,.int .i64 0]:List Value).length=3):=rfl;have HR2:Hid (∀v∈([.slice A n k,.int .i64 0,.int .i64 0]:List Value),v.oneCell'=true):=by intro v hv;simp only[List.mem_cons,List.not_mem_nil,or_false] at hv;rcases hv with rfl | rfl | rfl<;>rfl
 have HE:Hid (∀er,k4a c xs=er->er≠0->∀e w',e=.returned (.tuple #[.agg (o0a (.slice none 0 0) (.slice none 0 0) (.slice none 0 0) j0a).toArray,.int .i64 er])->Below w.heap.size w w'->T1a w c xs e w'):=by intro er h1 h2 e w' he hb;unfold T1a Y5a;rw[h1,if_neg h2];exact⟨_,he,HZI.out w',HZD.out,hb⟩
 obtain⟨zs,hzs⟩:∃zs,zs=o0a (.slice none 0 0) (.slice none 0 0) (.slice none 0 0) j0a:=⟨_,rfl⟩;have HZS:=hI hzs;rw[<-hzs] at ZH BZ HZ HZ1 HE;clear hzs HZI HZD;by_cases hk:k8a c=true;rotate_left
 ·have HQ:=hI (HE.out 2 (by unfold k4a;rw[if_neg hk]) (by decide));have hk':c≠12/\c≠14/\c≠16/\c≠17/\c≠18:=by refine⟨?_,?_,?_,?_,?_⟩<;>(rintro rfl;exact hk (by decide))
  obtain⟨h12,h14,h16,h17,h18⟩:=hk';have b12:(c==12)=false:=by simpa using h12
  have b14:(c==14)=false:=by simpa using h14
  have b16:(c==16)=false:=by simpa using h16
  have b17:(c==17)=false:=by simpa using h17
  have b18:(c==18)=false:=by simpa using h18
  clear hk HE hx h12 h14 h16 h17 h18;go_enter Tryz.func112,Tryz.ntmps112;go_wp2_with(first
   | ((with_reducible refine sN 4 ?_);refine a0a rfl _ rfl zs _ ZH ?_;intro h w1 hg1 hg2 Z1 L1)
   | ((with_reducible refine sN 6 ?_);refine a0a rfl _ rfl zs _ ZH ?_;intro a w2 hg3 hg4 K2 L02;have Z2:=hI (Z1.out.over L02.out);have L2:=hI (step L1.out L02.out);have hha:h≠a:=(by omega);have hwa:w.heap.size<=a:=(by have:=L1.out.size;omega);have hsz2:=L2.out.size)
   | ((with_reducible refine sN 10 ?_);refine k0a rfl _ _ rfl ([.slice A n k,.int .i64 0,.int .i64 0]:List Value) (by refine Eq.trans ?_ BR;kernel_rfl) ?_)
   | ((with_reducible refine sN 7 ?_);refine a0a rfl _ rfl ([.slice none 0 0,.int .i64 0,.int .i64 0]:List Value) _ ZR ?_;intro g w3 hg5 hg6 R3 L03;have K3:=hI (K2.out.over L03.out);have Z3:=hI (Z2.out.over L03.out);have L3:=hI (step L2.out L03.out);have hag:a≠g:=(by omega);have hhg:h≠g:=(by have:=Z2.out.lt;omega);have hwg:w.heap.size<=g:=(by omega))
   | ((with_reducible refine sT 7 ?_);refine b0a rfl _ (.tmp 7) (.tmp 10) rfl g rfl _ ([.slice none 0 0,.int .i64 0,.int .i64 0]:List Value) ([.slice A n k,.int .i64 0,.int .i64 0]:List Value) rfl R3 3 N9a HR0 HR1 HR2 ?_;intro w4 R4 O4 hg7;have K4:=hI (K3.out.only O4.out hag);have Z4:=hI (Z3.out.only O4.out hhg);have L4:=hI (c0a L3.out O4.out hwg))
   | ((with_reducible refine sN 12 ?_);refine x0a rfl _ rfl zs BZ ?_)
   | ((with_reducible refine sT 4 ?_);refine b0a rfl _ (.tmp 4) (.tmp 12) rfl h rfl _ zs zs rfl Z4 69 p0a HZ HZ HZ1 ?_;intro w10 K10 O10 hg10)
   | fail)
  refine bodyPost_ret (v:=.tuple #[.agg zs.toArray,.int .i64 2]) ?_ rfl (HQ.out _ _ rfl (c0a L4.out O10.out (by omega)));exact m0a rfl _ _ h _ _ (0,0) _ rfl K10.out Tryz.underlying34 rfl (by rw[p0a];have:=HZ.out;simp[this]) rfl
 go_enter Tryz.func112,Tryz.ntmps112;go_upto_if 13 with(first
  | ((with_reducible refine sN 4 ?_);refine a0a rfl _ rfl zs _ ZH ?_;intro h w1 hg1 hg2 Z1 L1)
  | ((with_reducible refine sN 6 ?_);refine a0a rfl _ rfl zs _ ZH ?_;intro a w2 hg3 hg4 K2 L02;have Z2:=hI (Z1.out.over L02.out);have L2:=hI (step L1.out L02.out);have hha:h≠a:=(by omega);have hwa:w.heap.size<=a:=(by have:=L1.out.size;omega);have hsz2:=L2.out.size)
  | ((with_reducible refine sN 10 ?_);refine k0a rfl _ _ rfl ([.slice A n k,.int .i64 0,.int .i64 0]:List Value) (by refine Eq.trans ?_ BR;kernel_rfl) ?_)
  | ((with_reducible refine sN 7 ?_);refine a0a rfl _ rfl ([.slice none 0 0,.int .i64 0,.int .i64 0]:List Value) _ ZR ?_;intro g w3 hg5 hg6 R3 L03;have K3:=hI (K2.out.over L03.out);have Z3:=hI (Z2.out.over L03.out);have L3:=hI (step L2.out L03.out);have hag:a≠g:=(by omega);have hhg:h≠g:=(by have:=Z2.out.lt;omega);have hwg:w.heap.size<=g:=(by omega))
  | ((with_reducible refine sT 7 ?_);refine b0a rfl _ (.tmp 7) (.tmp 10) rfl g rfl _ ([.slice none 0 0,.int .i64 0,.int .i64 0]:List Value) ([.slice A n k,.int .i64 0,.int .i64 0]:List Value) rfl R3 3 N9a HR0 HR1 HR2 ?_;intro w4 R4 O4 hg7;have K4:=hI (K3.out.only O4.out hag);have Z4:=hI (Z3.out.only O4.out hhg);have L4:=hI (c0a L3.out O4.out hwg))
  | fail)
 have P4:Hid (PI w4 g w.heap.size A n k xs rd0):=⟨Nat.zero_le _,hwg,R4.out,HX.out.below L4.out⟩;clear R3 L03 K2 K3 Z1 Z2 Z3 L02 L1 L2 L3 R4 O4 HX;rcases W4a hk with h12 | h14 | h16 | h17 | h18
 subst h12;have D1:Hid (∀(w':World) (g:Nat),w.heap.size<=w'.heap.size->PI w' g w.heap.size A n k xs rd0->Calls Tryz.prog 174 #[.pointer (some ⟨g,0,none⟩),.int .i64 4] w' λe w2=>e=.returned (.tuple #[])/\PI w2 g w.heap.size A n k xs (rdZ xs 4 rd0)/\R0a g w' w2):=λw' g hs h=>g4a w' g _ A n k xs _ 4 h (by decide) hs
 have DE:Hid (∀(w':World) (g:Nat),PI w' g w.heap.size A n k xs (rdZ xs 4 rd0)->Calls Tryz.prog 179 #[.pointer (some ⟨g,0,none⟩)] w' λe w2=>e=.returned (.int .i64 (M0a xs (rdZ xs 4 rd0)))/\R0a g w' w2):=λw' g h=>X2a w' g _ A n k xs _ h
 have hgp:igP 12 xs=(j0a,(rdZ xs 4 rd0)):=by unfold igP;rw[if_neg (by decide),if_neg (by decide),if_neg (by decide),if_neg (by decide)]
 have hge:k4a 12 xs=M0a xs (rdZ xs 4 rd0):=by unfold k4a;rw[if_pos hk,hgp]
 have HQ:Hid (∀(cs:List Value) (e:Ending) (w':World),M0a xs (rdZ xs 4 rd0)=0->e=.returned (.tuple #[.agg cs.toArray,.int .i64 0])->j1a w' w'.heap.size cs j0a->cs[61]? = some (.slice none 0 0)->Below w.heap.size w w'->T1a w 12 xs e w'):=by
  intro cs e w' h0 h1 h2 h3 h5;have ho:Y5a 12 xs=j0a:=by unfold Y5a;rw[hge,h0,if_pos rfl,hgp]
  unfold T1a;rw[hge,h0,ho];exact⟨cs,h1,h2,h3,h5⟩
 have HE':=hI (HE.out _ hge);obtain⟨er,her⟩:∃x,x=M0a xs (rdZ xs 4 rd0):=⟨_,rfl⟩;rw[<-her] at DE HQ HE';obtain⟨q1,hq1⟩:∃x,x=(rdZ xs 4 rd0):=⟨_,rfl⟩;rw[<-hq1] at D1 DE;clear HE hk hx her hge hgp hq1;go_wp2_with fail;refine(D1.out w4 g L4.out.size P4.out).mono ?_;rintro e wz ⟨rfl,hP,hS⟩;have Pz:=hI hP;have Zz:=hI (Z4.out.save hS hhg);have Kz:=hI (K4.out.save hS hag);have Lz:=hI (L4.out.trans (hS.below hwg L4.out.size));clear hP hS P4 Z4 K4 L4;go_wp2_with fail;obtain⟨CF,hCF⟩:∃x,x=zs:=⟨_,rfl⟩;have HLF:Hid (CF.length=69):=by rw[hCF];exact HZ.out
 have HCF:=hI hCF;rw[<-hCF] at Kz;clear hCF;have HEQ:Hid (CF=o0a (.slice none 0 0) (.slice none 0 0) (.slice none 0 0) j0a):=by
  show _=_
  rw[HCF.out,HZS.out]
 rotate_left;subst h14;have D1:Hid (∀(w':World) (g:Nat),w.heap.size<=w'.heap.size->PI w' g w.heap.size A n k xs rd0->Calls Tryz.prog 172 #[.pointer (some ⟨g,0,none⟩)] w' λe w2=>e=.returned (.int .u64 (l1 xs).1)/\PI w2 g w.heap.size A n k xs (l1 xs).2/\R0a g w' w2):=λw' g hs h=>U2a w' g _ A n k xs _ hby h
 have D2:Hid (∀(w':World) (g:Nat),w.heap.size<=w'.heap.size->PI w' g w.heap.size A n k xs (l1 xs).2->Calls Tryz.prog 173 #[.pointer (some ⟨g,0,none⟩)] w' λe w2=>e=.returned (.int .u16 (l2 xs).1)/\PI w2 g w.heap.size A n k xs (l2 xs).2/\R0a g w' w2):=λw' g hs h=>G6a w' g _ A n k xs _ hby h
 have D3:Hid (∀(w':World) (g:Nat),w.heap.size<=w'.heap.size->PI w' g w.heap.size A n k xs (l2 xs).2->Calls Tryz.prog 174 #[.pointer (some ⟨g,0,none⟩),.int .i64 2] w' λe w2=>e=.returned (.tuple #[])/\PI w2 g w.heap.size A n k xs (l3 xs)/\R0a g w' w2):=λw' g hs h=>g4a w' g _ A n k xs _ 2 h (by decide) hs
 have D4:Hid (∀(w':World) (g:Nat),w.heap.size<=w'.heap.size->PI w' g w.heap.size A n k xs (l3 xs)->Calls Tryz.prog 175 #[.pointer (some ⟨g,0,none⟩)] w' λe w2=>e=.returned (.string ⟨(l4 xs).1.toArray⟩)/\PI w2 g w.heap.size A n k xs (l4 xs).2/\R0a g w' w2):=λw' g hs h=>T6a w' g _ A n k xs _ h hs
 have D5:Hid (∀(w':World) (g:Nat),w.heap.size<=w'.heap.size->PI w' g w.heap.size A n k xs (l4 xs).2->Calls Tryz.prog 175 #[.pointer (some ⟨g,0,none⟩)] w' λe w2=>e=.returned (.string ⟨(l5 xs).1.toArray⟩)/\PI w2 g w.heap.size A n k xs (l5 xs).2/\R0a g w' w2):=λw' g hs h=>T6a w' g _ A n k xs _ h hs
 have DE:Hid (∀(w':World) (g:Nat),PI w' g w.heap.size A n k xs (l5 xs).2->Calls Tryz.prog 179 #[.pointer (some ⟨g,0,none⟩)] w' λe w2=>e=.returned (.int .i64 (M0a xs (l5 xs).2))/\R0a g w' w2):=λw' g h=>X2a w' g _ A n k xs _ h
 have hgp:igP 14 xs=({ j0a with file:=(l1 xs).1,most:=(l2 xs).1,pat:=⟨(l4 xs).1.toArray⟩,aft:=⟨(l5 xs).1.toArray⟩ },(l5 xs).2):=by unfold igP;rw[if_pos rfl]
 have hge:k4a 14 xs=M0a xs (l5 xs).2:=by unfold k4a;rw[if_pos hk,hgp]
 have HQ:Hid (∀(cs:List Value) (e:Ending) (w':World),M0a xs (l5 xs).2=0->e=.returned (.tuple #[.agg cs.toArray,.int .i64 0])->j1a w' w'.heap.size cs { j0a with file:=(l1 xs).1,most:=(l2 xs).1,pat:=⟨(l4 xs).1.toArray⟩,aft:=⟨(l5 xs).1.toArray⟩ }->cs[61]? = some (.slice none 0 0)->Below w.heap.size w w'->T1a w 14 xs e w'):=by
  intro cs e w' h0 h1 h2 h3 h5;have ho:Y5a 14 xs={ j0a with file:=(l1 xs).1,most:=(l2 xs).1,pat:=⟨(l4 xs).1.toArray⟩,aft:=⟨(l5 xs).1.toArray⟩ }:=by unfold Y5a;rw[hge,h0,if_pos rfl,hgp]
  unfold T1a;rw[hge,h0,ho];exact⟨cs,h1,h2,h3,h5⟩
 have HE':=hI (HE.out _ hge);obtain⟨er,her⟩:∃x,x=M0a xs (l5 xs).2:=⟨_,rfl⟩;rw[<-her] at DE HQ HE';obtain⟨q1,hq1⟩:∃x,x=(l1 xs):=⟨_,rfl⟩;rw[<-hq1] at D1 D2 HQ;obtain⟨q2,hq2⟩:∃x,x=(l2 xs):=⟨_,rfl⟩;rw[<-hq2] at D2 D3 HQ;obtain⟨q3,hq3⟩:∃x,x=(l3 xs):=⟨_,rfl⟩;rw[<-hq3] at D3 D4;obtain⟨q4,hq4⟩:∃x,x=(l4 xs):=⟨_,rfl⟩;rw[<-hq4] at D4 D5 HQ;obtain⟨q5,hq5⟩:∃x,x=(l5 xs):=⟨_,rfl⟩;rw[<-hq5] at D5 DE HQ;clear HE hk hx her hge hgp hq1 hq2 hq3 hq4 hq5;go_wp2_with fail;refine(D1.out w4 g L4.out.size P4.out).mono ?_;rintro e v1 ⟨rfl,hP,hS⟩;have Pc1:=hI hP;have Zc1:=hI (Z4.out.save hS hhg);have Kc1:=hI (K4.out.save hS hag);have Lc1:=hI (L4.out.trans (hS.below hwg L4.out.size));clear hP hS P4 Z4 K4 L4;go_wp2_with fail;refine(D2.out v1 g Lc1.out.size Pc1.out).mono ?_;rintro e v2 ⟨rfl,hP,hS⟩;have Pc2:=hI hP;have Zc2:=hI (Zc1.out.save hS hhg);have Kc2:=hI (Kc1.out.save hS hag);have Lc2:=hI (Lc1.out.trans (hS.below hwg Lc1.out.size));clear hP hS Pc1 Zc1 Kc1 Lc1;go_wp2_with(first
  | ((with_reducible refine sT 17 ?_);refine d0a rfl _ (.tmp 17) (.tmp 15) rfl a 57 rfl _ zs (.int .u64 q1.1) rfl Kc2 (hI (by have:=HZ.out;omega)) (by kernel_rfl) rfl ?_;intro x1 Ks1 Os1 hqs1;obtain⟨C1,hC1⟩:∃x,x=zs.set 57 (.int .u64 q1.1):=⟨_,rfl⟩;have HC1:=hI hC1;have HL1:Hid (C1.length=69):=(by rw[hC1,List.length_set];exact HZ.out);rw[<-hC1] at Ks1;have Zs1:=hI (Zc2.out.only Os1.out hha);have Ps1:=hI (Pc2.out.only Os1.out (Ne.symm hag) hwa);have Ls1:=hI (c0a Lc2.out Os1.out hwa);clear hC1)
  | ((with_reducible refine sT 18 ?_);refine d0a rfl _ (.tmp 18) (.tmp 16) rfl a 63 rfl _ C1 (.int .u16 q2.1) rfl Ks1 (hI (by have:=HL1.out;omega)) (by kernel_rfl) rfl ?_;intro x2 Ks2 Os2 hqs2;obtain⟨C2,hC2⟩:∃x,x=C1.set 63 (.int .u16 q2.1):=⟨_,rfl⟩;have HC2:=hI hC2;have HL2:Hid (C2.length=69):=(by rw[hC2,List.length_set];exact HL1.out);rw[<-hC2] at Ks2;have Zs2:=hI (Zs1.out.only Os2.out hha);have Ps2:=hI (Ps1.out.only Os2.out (Ne.symm hag) hwa);have Ls2:=hI (c0a Ls1.out Os2.out hwa);clear hC2)
  | fail)
 refine(D3.out x2 g Ls2.out.size Ps2.out).mono ?_;rintro e v3 ⟨rfl,hP,hS⟩;have Pc3:=hI hP;have Zc3:=hI (Zs2.out.save hS hhg);have Kc3:=hI (Ks2.out.save hS hag);have Lc3:=hI (Ls2.out.trans (hS.below hwg Ls2.out.size));clear hP hS Ps2 Zs2 Ks2 Ls2;go_wp2_with fail;refine(D4.out v3 g Lc3.out.size Pc3.out).mono ?_;rintro e v4 ⟨rfl,hP,hS⟩;have Pc4:=hI hP;have Zc4:=hI (Zc3.out.save hS hhg);have Kc4:=hI (Kc3.out.save hS hag);have Lc4:=hI (Lc3.out.trans (hS.below hwg Lc3.out.size));clear hP hS Pc3 Zc3 Kc3 Lc3;go_wp2_with fail;refine(D5.out v4 g Lc4.out.size Pc4.out).mono ?_;rintro e v5 ⟨rfl,hP,hS⟩;have Pc5:=hI hP;have Zc5:=hI (Zc4.out.save hS hhg);have Kc5:=hI (Kc4.out.save hS hag);have Lc5:=hI (Lc4.out.trans (hS.below hwg Lc4.out.size));clear hP hS Pc4 Zc4 Kc4 Lc4;go_wp2_with(first
  | ((with_reducible refine sT 22 ?_);refine d0a rfl _ (.tmp 22) (.tmp 20) rfl a 64 rfl _ C2 (.string ⟨q4.1.toArray⟩) rfl Kc5 (hI (by have:=HL2.out;omega)) (by kernel_rfl) rfl ?_;intro x3 Ks3 Os3 hqs3;obtain⟨C3,hC3⟩:∃x,x=C2.set 64 (.string ⟨q4.1.toArray⟩):=⟨_,rfl⟩;have HC3:=hI hC3;have HL3:Hid (C3.length=69):=(by rw[hC3,List.length_set];exact HL2.out);rw[<-hC3] at Ks3;have Zs3:=hI (Zc5.out.only Os3.out hha);have Ps3:=hI (Pc5.out.only Os3.out (Ne.symm hag) hwa);have Ls3:=hI (c0a Lc5.out Os3.out hwa);clear hC3)
  | ((with_reducible refine sT 23 ?_);refine d0a rfl _ (.tmp 23) (.tmp 21) rfl a 65 rfl _ C3 (.string ⟨q5.1.toArray⟩) rfl Ks3 (hI (by have:=HL3.out;omega)) (by kernel_rfl) rfl ?_;intro wz Kz Oz hqz;obtain⟨CF,hCF⟩:∃x,x=C3.set 65 (.string ⟨q5.1.toArray⟩):=⟨_,rfl⟩;have HCF:=hI hCF;have HLF:Hid (CF.length=69):=(by rw[hCF,List.length_set];exact HL3.out);rw[<-hCF] at Kz;have Zz:=hI (Zs3.out.only Oz.out hha);have Pz:=hI (Ps3.out.only Oz.out (Ne.symm hag) hwa);have Lz:=hI (c0a Ls3.out Oz.out hwa);clear hCF)
  | fail)
 have HEQ:Hid (CF=o0a (.slice none 0 0) (.slice none 0 0) (.slice none 0 0) { j0a with file:=q1.1,most:=q2.1,pat:=⟨q4.1.toArray⟩,aft:=⟨q5.1.toArray⟩ }):=by
  show _=_
  rw[HCF.out,HC3.out,HC2.out,HC1.out,HZS.out];rfl
 rotate_left;subst h16;have D1:Hid (∀(w':World) (g:Nat),w.heap.size<=w'.heap.size->PI w' g w.heap.size A n k xs rd0->Calls Tryz.prog 172 #[.pointer (some ⟨g,0,none⟩)] w' λe w2=>e=.returned (.int .u64 (l1 xs).1)/\PI w2 g w.heap.size A n k xs (l1 xs).2/\R0a g w' w2):=λw' g hs h=>U2a w' g _ A n k xs _ hby h
 have DE:Hid (∀(w':World) (g:Nat),PI w' g w.heap.size A n k xs (l1 xs).2->Calls Tryz.prog 179 #[.pointer (some ⟨g,0,none⟩)] w' λe w2=>e=.returned (.int .i64 (M0a xs (l1 xs).2))/\R0a g w' w2):=λw' g h=>X2a w' g _ A n k xs _ h
 have hgp:igP 16 xs=({ j0a with file:=(l1 xs).1 },(l1 xs).2):=by unfold igP;rw[if_neg (by decide),if_pos rfl]
 have hge:k4a 16 xs=M0a xs (l1 xs).2:=by unfold k4a;rw[if_pos hk,hgp]
 have HQ:Hid (∀(cs:List Value) (e:Ending) (w':World),M0a xs (l1 xs).2=0->e=.returned (.tuple #[.agg cs.toArray,.int .i64 0])->j1a w' w'.heap.size cs { j0a with file:=(l1 xs).1 }->cs[61]? = some (.slice none 0 0)->Below w.heap.size w w'->T1a w 16 xs e w'):=by
  intro cs e w' h0 h1 h2 h3 h5;have ho:Y5a 16 xs={ j0a with file:=(l1 xs).1 }:=by unfold Y5a;rw[hge,h0,if_pos rfl,hgp]
  unfold T1a;rw[hge,h0,ho];exact⟨cs,h1,h2,h3,h5⟩
 have HE':=hI (HE.out _ hge);obtain⟨er,her⟩:∃x,x=M0a xs (l1 xs).2:=⟨_,rfl⟩;rw[<-her] at DE HQ HE';obtain⟨q1,hq1⟩:∃x,x=(l1 xs):=⟨_,rfl⟩;rw[<-hq1] at D1 DE HQ;clear HE hk hx her hge hgp hq1;go_wp2_with fail;refine(D1.out w4 g L4.out.size P4.out).mono ?_;rintro e v1 ⟨rfl,hP,hS⟩;have Pc1:=hI hP;have Zc1:=hI (Z4.out.save hS hhg);have Kc1:=hI (K4.out.save hS hag);have Lc1:=hI (L4.out.trans (hS.below hwg L4.out.size));clear hP hS P4 Z4 K4 L4;go_wp2_with(first
  | ((with_reducible refine sT 27 ?_);refine d0a rfl _ (.tmp 27) (.tmp 26) rfl a 57 rfl _ zs (.int .u64 q1.1) rfl Kc1 (hI (by have:=HZ.out;omega)) (by kernel_rfl) rfl ?_;intro wz Kz Oz hqz;obtain⟨CF,hCF⟩:∃x,x=zs.set 57 (.int .u64 q1.1):=⟨_,rfl⟩;have HCF:=hI hCF;have HLF:Hid (CF.length=69):=(by rw[hCF,List.length_set];exact HZ.out);rw[<-hCF] at Kz;have Zz:=hI (Zc1.out.only Oz.out hha);have Pz:=hI (Pc1.out.only Oz.out (Ne.symm hag) hwa);have Lz:=hI (c0a Lc1.out Oz.out hwa);clear hCF)
  | fail)
 have HEQ:Hid (CF=o0a (.slice none 0 0) (.slice none 0 0) (.slice none 0 0) { j0a with file:=q1.1 }):=by
  show _=_
  rw[HCF.out,HZS.out];rfl
 rotate_left;subst h17;by_cases c1:(l2 xs).1=1;have D1:Hid (∀(w':World) (g:Nat),w.heap.size<=w'.heap.size->PI w' g w.heap.size A n k xs rd0->Calls Tryz.prog 172 #[.pointer (some ⟨g,0,none⟩)] w' λe w2=>e=.returned (.int .u64 (l1 xs).1)/\PI w2 g w.heap.size A n k xs (l1 xs).2/\R0a g w' w2):=λw' g hs h=>U2a w' g _ A n k xs _ hby h
 have D2:Hid (∀(w':World) (g:Nat),w.heap.size<=w'.heap.size->PI w' g w.heap.size A n k xs (l1 xs).2->Calls Tryz.prog 173 #[.pointer (some ⟨g,0,none⟩)] w' λe w2=>e=.returned (.int .u16 (l2 xs).1)/\PI w2 g w.heap.size A n k xs (l2 xs).2/\R0a g w' w2):=λw' g hs h=>G6a w' g _ A n k xs _ hby h
 have D3:Hid (∀(w':World) (g:Nat),w.heap.size<=w'.heap.size->PI w' g w.heap.size A n k xs (l2 xs).2->Calls Tryz.prog 172 #[.pointer (some ⟨g,0,none⟩)] w' λe w2=>e=.returned (.int .u64 (t3 xs).1)/\PI w2 g w.heap.size A n k xs (t3 xs).2/\R0a g w' w2):=λw' g hs h=>U2a w' g _ A n k xs _ hby h
 have DE:Hid (∀(w':World) (g:Nat),PI w' g w.heap.size A n k xs (t3 xs).2->Calls Tryz.prog 179 #[.pointer (some ⟨g,0,none⟩)] w' λe w2=>e=.returned (.int .i64 (M0a xs (t3 xs).2))/\R0a g w' w2):=λw' g h=>X2a w' g _ A n k xs _ h
 have hgp:igP 17 xs=({ j0a with file:=(l1 xs).1,cls:=(l2 xs).1,siz:=(t3 xs).1 },(t3 xs).2):=by unfold igP;rw[if_neg (by decide),if_neg (by decide),if_pos rfl,if_pos c1]
 have hge:k4a 17 xs=M0a xs (t3 xs).2:=by unfold k4a;rw[if_pos hk,hgp]
 have HQ:Hid (∀(cs:List Value) (e:Ending) (w':World),M0a xs (t3 xs).2=0->e=.returned (.tuple #[.agg cs.toArray,.int .i64 0])->j1a w' w'.heap.size cs { j0a with file:=(l1 xs).1,cls:=(l2 xs).1,siz:=(t3 xs).1 }->cs[61]? = some (.slice none 0 0)->Below w.heap.size w w'->T1a w 17 xs e w'):=by
  intro cs e w' h0 h1 h2 h3 h5;have ho:Y5a 17 xs={ j0a with file:=(l1 xs).1,cls:=(l2 xs).1,siz:=(t3 xs).1 }:=by unfold Y5a;rw[hge,h0,if_pos rfl,hgp]
  unfold T1a;rw[hge,h0,ho];exact⟨cs,h1,h2,h3,h5⟩
 have HE':=hI (HE.out _ hge);obtain⟨er,her⟩:∃x,x=M0a xs (t3 xs).2:=⟨_,rfl⟩;rw[<-her] at DE HQ HE';have cf1:((l2 xs).1==1)=true:=by simpa using c1
 clear c1;obtain⟨q1,hq1⟩:∃x,x=(l1 xs):=⟨_,rfl⟩;rw[<-hq1] at D1 D2 HQ;obtain⟨q2,hq2⟩:∃x,x=(l2 xs):=⟨_,rfl⟩;rw[<-hq2] at D2 D3 HQ cf1;obtain⟨q3,hq3⟩:∃x,x=(t3 xs):=⟨_,rfl⟩;rw[<-hq3] at D3 DE HQ;clear HE hk hx her hge hgp hq1 hq2 hq3;go_wp2_with fail;refine(D1.out w4 g L4.out.size P4.out).mono ?_;rintro e v1 ⟨rfl,hP,hS⟩;have Pc1:=hI hP;have Zc1:=hI (Z4.out.save hS hhg);have Kc1:=hI (K4.out.save hS hag);have Lc1:=hI (L4.out.trans (hS.below hwg L4.out.size));clear hP hS P4 Z4 K4 L4;go_wp2_with fail;refine(D2.out v1 g Lc1.out.size Pc1.out).mono ?_;rintro e v2 ⟨rfl,hP,hS⟩;have Pc2:=hI hP;have Zc2:=hI (Zc1.out.save hS hhg);have Kc2:=hI (Kc1.out.save hS hag);have Lc2:=hI (Lc1.out.trans (hS.below hwg Lc1.out.size));clear hP hS Pc1 Zc1 Kc1 Lc1;go_wp2_with(first
  | ((with_reducible refine sT 32 ?_);refine d0a rfl _ (.tmp 32) (.tmp 30) rfl a 57 rfl _ zs (.int .u64 q1.1) rfl Kc2 (hI (by have:=HZ.out;omega)) (by kernel_rfl) rfl ?_;intro x1 Ks1 Os1 hqs1;obtain⟨C1,hC1⟩:∃x,x=zs.set 57 (.int .u64 q1.1):=⟨_,rfl⟩;have HC1:=hI hC1;have HL1:Hid (C1.length=69):=(by rw[hC1,List.length_set];exact HZ.out);rw[<-hC1] at Ks1;have Zs1:=hI (Zc2.out.only Os1.out hha);have Ps1:=hI (Pc2.out.only Os1.out (Ne.symm hag) hwa);have Ls1:=hI (c0a Lc2.out Os1.out hwa);clear hC1)
  | ((with_reducible refine sT 33 ?_);refine d0a rfl _ (.tmp 33) (.tmp 31) rfl a 66 rfl _ C1 (.int .u16 q2.1) rfl Ks1 (hI (by have:=HL1.out;omega)) (by kernel_rfl) rfl ?_;intro x2 Ks2 Os2 hqs2;obtain⟨C2,hC2⟩:∃x,x=C1.set 66 (.int .u16 q2.1):=⟨_,rfl⟩;have HC2:=hI hC2;have HL2:Hid (C2.length=69):=(by rw[hC2,List.length_set];exact HL1.out);rw[<-hC2] at Ks2;have Zs2:=hI (Zs1.out.only Os2.out hha);have Ps2:=hI (Ps1.out.only Os2.out (Ne.symm hag) hwa);have Ls2:=hI (c0a Ls1.out Os2.out hwa);have hcl:x2.cell? ⟨a,66,none⟩=some (.int .u16 q2.1):=(Ks2.out.at (by rw[hC2];exact List.getElem?_set_self (by have:=HL1.out;omega)));clear hC2)
  | fail)
 refine(D3.out x2 g Ls2.out.size Ps2.out).mono ?_;rintro e v3 ⟨rfl,hP,hS⟩;have Pc3:=hI hP;have Zc3:=hI (Zs2.out.save hS hhg);have Kc3:=hI (Ks2.out.save hS hag);have Lc3:=hI (Ls2.out.trans (hS.below hwg Ls2.out.size));clear hP hS Ps2 Zs2 Ks2 Ls2;go_wp2_with(first
  | ((with_reducible refine sT 40 ?_);refine d0a rfl _ (.tmp 40) (.tmp 39) rfl a 67 rfl _ C2 (.int .u64 q3.1) rfl Kc3 (hI (by have:=HL2.out;omega)) (by kernel_rfl) rfl ?_;intro wz Kz Oz hqz;obtain⟨CF,hCF⟩:∃x,x=C2.set 67 (.int .u64 q3.1):=⟨_,rfl⟩;have HCF:=hI hCF;have HLF:Hid (CF.length=69):=(by rw[hCF,List.length_set];exact HL2.out);rw[<-hCF] at Kz;have Zz:=hI (Zc3.out.only Oz.out hha);have Pz:=hI (Pc3.out.only Oz.out (Ne.symm hag) hwa);have Lz:=hI (c0a Lc3.out Oz.out hwa);clear hCF)
  | fail)
 have HEQ:Hid (CF=o0a (.slice none 0 0) (.slice none 0 0) (.slice none 0 0) { j0a with file:=q1.1,cls:=q2.1,siz:=q3.1 }):=by
  show _=_
  rw[HCF.out,HC2.out,HC1.out,HZS.out];rfl
 rotate_left;by_cases c2:(l2 xs).1=2;have D1:Hid (∀(w':World) (g:Nat),w.heap.size<=w'.heap.size->PI w' g w.heap.size A n k xs rd0->Calls Tryz.prog 172 #[.pointer (some ⟨g,0,none⟩)] w' λe w2=>e=.returned (.int .u64 (l1 xs).1)/\PI w2 g w.heap.size A n k xs (l1 xs).2/\R0a g w' w2):=λw' g hs h=>U2a w' g _ A n k xs _ hby h
 have D2:Hid (∀(w':World) (g:Nat),w.heap.size<=w'.heap.size->PI w' g w.heap.size A n k xs (l1 xs).2->Calls Tryz.prog 173 #[.pointer (some ⟨g,0,none⟩)] w' λe w2=>e=.returned (.int .u16 (l2 xs).1)/\PI w2 g w.heap.size A n k xs (l2 xs).2/\R0a g w' w2):=λw' g hs h=>G6a w' g _ A n k xs _ hby h
 have D3:Hid (∀(w':World) (g:Nat),w.heap.size<=w'.heap.size->PI w' g w.heap.size A n k xs (l2 xs).2->Calls Tryz.prog 176 #[.pointer (some ⟨g,0,none⟩)] w' λe w2=>e=.returned (.bool ((t4 xs).1 != 0))/\PI w2 g w.heap.size A n k xs (t4 xs).2/\R0a g w' w2):=λw' g hs h=>H5a w' g _ A n k xs _ hby h
 have DE:Hid (∀(w':World) (g:Nat),PI w' g w.heap.size A n k xs (t4 xs).2->Calls Tryz.prog 179 #[.pointer (some ⟨g,0,none⟩)] w' λe w2=>e=.returned (.int .i64 (M0a xs (t4 xs).2))/\R0a g w' w2):=λw' g h=>X2a w' g _ A n k xs _ h
 have hgp:igP 17 xs=({ j0a with file:=(l1 xs).1,cls:=(l2 xs).1,on:=((t4 xs).1 != 0) },(t4 xs).2):=by unfold igP;rw[if_neg (by decide),if_neg (by decide),if_pos rfl,if_neg c1,if_pos c2]
 have hge:k4a 17 xs=M0a xs (t4 xs).2:=by unfold k4a;rw[if_pos hk,hgp]
 have HQ:Hid (∀(cs:List Value) (e:Ending) (w':World),M0a xs (t4 xs).2=0->e=.returned (.tuple #[.agg cs.toArray,.int .i64 0])->j1a w' w'.heap.size cs { j0a with file:=(l1 xs).1,cls:=(l2 xs).1,on:=((t4 xs).1 != 0) }->cs[61]? = some (.slice none 0 0)->Below w.heap.size w w'->T1a w 17 xs e w'):=by
  intro cs e w' h0 h1 h2 h3 h5;have ho:Y5a 17 xs={ j0a with file:=(l1 xs).1,cls:=(l2 xs).1,on:=((t4 xs).1 != 0) }:=by unfold Y5a;rw[hge,h0,if_pos rfl,hgp]
  unfold T1a;rw[hge,h0,ho];exact⟨cs,h1,h2,h3,h5⟩
 have HE':=hI (HE.out _ hge);obtain⟨er,her⟩:∃x,x=M0a xs (t4 xs).2:=⟨_,rfl⟩;rw[<-her] at DE HQ HE';have cf1:((l2 xs).1==1)=false:=by simpa using c1
 have cf2:((l2 xs).1==2)=true:=by simpa using c2
 clear c1 c2;obtain⟨q1,hq1⟩:∃x,x=(l1 xs):=⟨_,rfl⟩;rw[<-hq1] at D1 D2 HQ;obtain⟨q2,hq2⟩:∃x,x=(l2 xs):=⟨_,rfl⟩;rw[<-hq2] at D2 D3 HQ cf1 cf2;obtain⟨tb,htb⟩:∃x,x=((t4 xs).1 != 0):=⟨_,rfl⟩;rw[<-htb] at D3 HQ;obtain⟨q3,hq3⟩:∃x,x=(t4 xs).2:=⟨_,rfl⟩;rw[<-hq3] at D3 DE;clear HE hk hx her hge hgp hq1 hq2 htb hq3;go_wp2_with fail;refine(D1.out w4 g L4.out.size P4.out).mono ?_;rintro e v1 ⟨rfl,hP,hS⟩;have Pc1:=hI hP;have Zc1:=hI (Z4.out.save hS hhg);have Kc1:=hI (K4.out.save hS hag);have Lc1:=hI (L4.out.trans (hS.below hwg L4.out.size));clear hP hS P4 Z4 K4 L4;go_wp2_with fail;refine(D2.out v1 g Lc1.out.size Pc1.out).mono ?_;rintro e v2 ⟨rfl,hP,hS⟩;have Pc2:=hI hP;have Zc2:=hI (Zc1.out.save hS hhg);have Kc2:=hI (Kc1.out.save hS hag);have Lc2:=hI (Lc1.out.trans (hS.below hwg Lc1.out.size));clear hP hS Pc1 Zc1 Kc1 Lc1;go_wp2_with(first
  | ((with_reducible refine sT 32 ?_);refine d0a rfl _ (.tmp 32) (.tmp 30) rfl a 57 rfl _ zs (.int .u64 q1.1) rfl Kc2 (hI (by have:=HZ.out;omega)) (by kernel_rfl) rfl ?_;intro x1 Ks1 Os1 hqs1;obtain⟨C1,hC1⟩:∃x,x=zs.set 57 (.int .u64 q1.1):=⟨_,rfl⟩;have HC1:=hI hC1;have HL1:Hid (C1.length=69):=(by rw[hC1,List.length_set];exact HZ.out);rw[<-hC1] at Ks1;have Zs1:=hI (Zc2.out.only Os1.out hha);have Ps1:=hI (Pc2.out.only Os1.out (Ne.symm hag) hwa);have Ls1:=hI (c0a Lc2.out Os1.out hwa);clear hC1)
  | ((with_reducible refine sT 33 ?_);refine d0a rfl _ (.tmp 33) (.tmp 31) rfl a 66 rfl _ C1 (.int .u16 q2.1) rfl Ks1 (hI (by have:=HL1.out;omega)) (by kernel_rfl) rfl ?_;intro x2 Ks2 Os2 hqs2;obtain⟨C2,hC2⟩:∃x,x=C1.set 66 (.int .u16 q2.1):=⟨_,rfl⟩;have HC2:=hI hC2;have HL2:Hid (C2.length=69):=(by rw[hC2,List.length_set];exact HL1.out);rw[<-hC2] at Ks2;have Zs2:=hI (Zs1.out.only Os2.out hha);have Ps2:=hI (Ps1.out.only Os2.out (Ne.symm hag) hwa);have Ls2:=hI (c0a Ls1.out Os2.out hwa);have hcl:x2.cell? ⟨a,66,none⟩=some (.int .u16 q2.1):=(Ks2.out.at (by rw[hC2];exact List.getElem?_set_self (by have:=HL1.out;omega)));clear hC2)
  | fail)
 refine(D3.out x2 g Ls2.out.size Ps2.out).mono ?_;rintro e v3 ⟨rfl,hP,hS⟩;have Pc3:=hI hP;have Zc3:=hI (Zs2.out.save hS hhg);have Kc3:=hI (Ks2.out.save hS hag);have Lc3:=hI (Ls2.out.trans (hS.below hwg Ls2.out.size));clear hP hS Ps2 Zs2 Ks2 Ls2;go_wp2_with(first
  | ((with_reducible refine sT 44 ?_);refine d0a rfl _ (.tmp 44) (.tmp 43) rfl a 68 rfl _ C2 (.bool tb) rfl Kc3 (hI (by have:=HL2.out;omega)) (by kernel_rfl) rfl ?_;intro wz Kz Oz hqz;obtain⟨CF,hCF⟩:∃x,x=C2.set 68 (.bool tb):=⟨_,rfl⟩;have HCF:=hI hCF;have HLF:Hid (CF.length=69):=(by rw[hCF,List.length_set];exact HL2.out);rw[<-hCF] at Kz;have Zz:=hI (Zc3.out.only Oz.out hha);have Pz:=hI (Pc3.out.only Oz.out (Ne.symm hag) hwa);have Lz:=hI (c0a Lc3.out Oz.out hwa);clear hCF)
  | fail)
 have HEQ:Hid (CF=o0a (.slice none 0 0) (.slice none 0 0) (.slice none 0 0) { j0a with file:=q1.1,cls:=q2.1,on:=tb }):=by
  show _=_
  rw[HCF.out,HC2.out,HC1.out,HZS.out];rfl
 rotate_left;by_cases c3:(l2 xs).1=3;have D1:Hid (∀(w':World) (g:Nat),w.heap.size<=w'.heap.size->PI w' g w.heap.size A n k xs rd0->Calls Tryz.prog 172 #[.pointer (some ⟨g,0,none⟩)] w' λe w2=>e=.returned (.int .u64 (l1 xs).1)/\PI w2 g w.heap.size A n k xs (l1 xs).2/\R0a g w' w2):=λw' g hs h=>U2a w' g _ A n k xs _ hby h
 have D2:Hid (∀(w':World) (g:Nat),w.heap.size<=w'.heap.size->PI w' g w.heap.size A n k xs (l1 xs).2->Calls Tryz.prog 173 #[.pointer (some ⟨g,0,none⟩)] w' λe w2=>e=.returned (.int .u16 (l2 xs).1)/\PI w2 g w.heap.size A n k xs (l2 xs).2/\R0a g w' w2):=λw' g hs h=>G6a w' g _ A n k xs _ hby h
 have D3:Hid (∀(w':World) (g:Nat),w.heap.size<=w'.heap.size->PI w' g w.heap.size A n k xs (l2 xs).2->Calls Tryz.prog 176 #[.pointer (some ⟨g,0,none⟩)] w' λe w2=>e=.returned (.bool ((t4 xs).1 != 0))/\PI w2 g w.heap.size A n k xs (t4 xs).2/\R0a g w' w2):=λw' g hs h=>H5a w' g _ A n k xs _ hby h
 have D4:Hid (∀(w':World) (g:Nat),w.heap.size<=w'.heap.size->PI w' g w.heap.size A n k xs (t4 xs).2->Calls Tryz.prog 175 #[.pointer (some ⟨g,0,none⟩)] w' λe w2=>e=.returned (.string ⟨(t5 xs).1.toArray⟩)/\PI w2 g w.heap.size A n k xs (t5 xs).2/\R0a g w' w2):=λw' g hs h=>T6a w' g _ A n k xs _ h hs
 have DE:Hid (∀(w':World) (g:Nat),PI w' g w.heap.size A n k xs (t5 xs).2->Calls Tryz.prog 179 #[.pointer (some ⟨g,0,none⟩)] w' λe w2=>e=.returned (.int .i64 (M0a xs (t5 xs).2))/\R0a g w' w2):=λw' g h=>X2a w' g _ A n k xs _ h
 have hgp:igP 17 xs=({ j0a with file:=(l1 xs).1,cls:=(l2 xs).1,on:=((t4 xs).1 != 0),name:=⟨(t5 xs).1.toArray⟩ },(t5 xs).2):=by unfold igP;rw[if_neg (by decide),if_neg (by decide),if_pos rfl,if_neg c1,if_neg c2,if_pos c3]
 have hge:k4a 17 xs=M0a xs (t5 xs).2:=by unfold k4a;rw[if_pos hk,hgp]
 have HQ:Hid (∀(cs:List Value) (e:Ending) (w':World),M0a xs (t5 xs).2=0->e=.returned (.tuple #[.agg cs.toArray,.int .i64 0])->j1a w' w'.heap.size cs { j0a with file:=(l1 xs).1,cls:=(l2 xs).1,on:=((t4 xs).1 != 0),name:=⟨(t5 xs).1.toArray⟩ }->cs[61]? = some (.slice none 0 0)->Below w.heap.size w w'->T1a w 17 xs e w'):=by
  intro cs e w' h0 h1 h2 h3 h5;have ho:Y5a 17 xs={ j0a with file:=(l1 xs).1,cls:=(l2 xs).1,on:=((t4 xs).1 != 0),name:=⟨(t5 xs).1.toArray⟩ }:=by unfold Y5a;rw[hge,h0,if_pos rfl,hgp]
  unfold T1a;rw[hge,h0,ho];exact⟨cs,h1,h2,h3,h5⟩
 have HE':=hI (HE.out _ hge);obtain⟨er,her⟩:∃x,x=M0a xs (t5 xs).2:=⟨_,rfl⟩;rw[<-her] at DE HQ HE';have cf1:((l2 xs).1==1)=false:=by simpa using c1
 have cf2:((l2 xs).1==2)=false:=by simpa using c2
 have cf3:((l2 xs).1==3)=true:=by simpa using c3
 clear c1 c2 c3;obtain⟨q1,hq1⟩:∃x,x=(l1 xs):=⟨_,rfl⟩;rw[<-hq1] at D1 D2 HQ;obtain⟨q2,hq2⟩:∃x,x=(l2 xs):=⟨_,rfl⟩;rw[<-hq2] at D2 D3 HQ cf1 cf2 cf3;obtain⟨tb,htb⟩:∃x,x=((t4 xs).1 != 0):=⟨_,rfl⟩;rw[<-htb] at D3 HQ;obtain⟨q3,hq3⟩:∃x,x=(t4 xs).2:=⟨_,rfl⟩;rw[<-hq3] at D3 D4;obtain⟨q4,hq4⟩:∃x,x=(t5 xs):=⟨_,rfl⟩;rw[<-hq4] at D4 DE HQ;clear HE hk hx her hge hgp hq1 hq2 htb hq3 hq4;go_wp2_with fail;refine(D1.out w4 g L4.out.size P4.out).mono ?_;rintro e v1 ⟨rfl,hP,hS⟩;have Pc1:=hI hP;have Zc1:=hI (Z4.out.save hS hhg);have Kc1:=hI (K4.out.save hS hag);have Lc1:=hI (L4.out.trans (hS.below hwg L4.out.size));clear hP hS P4 Z4 K4 L4;go_wp2_with fail;refine(D2.out v1 g Lc1.out.size Pc1.out).mono ?_;rintro e v2 ⟨rfl,hP,hS⟩;have Pc2:=hI hP;have Zc2:=hI (Zc1.out.save hS hhg);have Kc2:=hI (Kc1.out.save hS hag);have Lc2:=hI (Lc1.out.trans (hS.below hwg Lc1.out.size));clear hP hS Pc1 Zc1 Kc1 Lc1;go_wp2_with(first
  | ((with_reducible refine sT 32 ?_);refine d0a rfl _ (.tmp 32) (.tmp 30) rfl a 57 rfl _ zs (.int .u64 q1.1) rfl Kc2 (hI (by have:=HZ.out;omega)) (by kernel_rfl) rfl ?_;intro x1 Ks1 Os1 hqs1;obtain⟨C1,hC1⟩:∃x,x=zs.set 57 (.int .u64 q1.1):=⟨_,rfl⟩;have HC1:=hI hC1;have HL1:Hid (C1.length=69):=(by rw[hC1,List.length_set];exact HZ.out);rw[<-hC1] at Ks1;have Zs1:=hI (Zc2.out.only Os1.out hha);have Ps1:=hI (Pc2.out.only Os1.out (Ne.symm hag) hwa);have Ls1:=hI (c0a Lc2.out Os1.out hwa);clear hC1)
  | ((with_reducible refine sT 33 ?_);refine d0a rfl _ (.tmp 33) (.tmp 31) rfl a 66 rfl _ C1 (.int .u16 q2.1) rfl Ks1 (hI (by have:=HL1.out;omega)) (by kernel_rfl) rfl ?_;intro x2 Ks2 Os2 hqs2;obtain⟨C2,hC2⟩:∃x,x=C1.set 66 (.int .u16 q2.1):=⟨_,rfl⟩;have HC2:=hI hC2;have HL2:Hid (C2.length=69):=(by rw[hC2,List.length_set];exact HL1.out);rw[<-hC2] at Ks2;have Zs2:=hI (Zs1.out.only Os2.out hha);have Ps2:=hI (Ps1.out.only Os2.out (Ne.symm hag) hwa);have Ls2:=hI (c0a Ls1.out Os2.out hwa);have hcl:x2.cell? ⟨a,66,none⟩=some (.int .u16 q2.1):=(Ks2.out.at (by rw[hC2];exact List.getElem?_set_self (by have:=HL1.out;omega)));clear hC2)
  | fail)
 refine(D3.out x2 g Ls2.out.size Ps2.out).mono ?_;rintro e v3 ⟨rfl,hP,hS⟩;have Pc3:=hI hP;have Zc3:=hI (Zs2.out.save hS hhg);have Kc3:=hI (Ks2.out.save hS hag);have Lc3:=hI (Ls2.out.trans (hS.below hwg Ls2.out.size));clear hP hS Ps2 Zs2 Ks2 Ls2;go_wp2_with(first
  | ((with_reducible refine sT 48 ?_);refine d0a rfl _ (.tmp 48) (.tmp 47) rfl a 68 rfl _ C2 (.bool tb) rfl Kc3 (hI (by have:=HL2.out;omega)) (by kernel_rfl) rfl ?_;intro x3 Ks3 Os3 hqs3;obtain⟨C3,hC3⟩:∃x,x=C2.set 68 (.bool tb):=⟨_,rfl⟩;have HC3:=hI hC3;have HL3:Hid (C3.length=69):=(by rw[hC3,List.length_set];exact HL2.out);rw[<-hC3] at Ks3;have Zs3:=hI (Zc3.out.only Os3.out hha);have Ps3:=hI (Pc3.out.only Os3.out (Ne.symm hag) hwa);have Ls3:=hI (c0a Lc3.out Os3.out hwa);clear hC3)
  | fail)
 refine(D4.out x3 g Ls3.out.size Ps3.out).mono ?_;rintro e v4 ⟨rfl,hP,hS⟩;have Pc4:=hI hP;have Zc4:=hI (Zs3.out.save hS hhg);have Kc4:=hI (Ks3.out.save hS hag);have Lc4:=hI (Ls3.out.trans (hS.below hwg Ls3.out.size));clear hP hS Ps3 Zs3 Ks3 Ls3;go_wp2_with(first
  | ((with_reducible refine sT 50 ?_);refine d0a rfl _ (.tmp 50) (.tmp 49) rfl a 58 rfl _ C3 (.string ⟨q4.1.toArray⟩) rfl Kc4 (hI (by have:=HL3.out;omega)) (by kernel_rfl) rfl ?_;intro wz Kz Oz hqz;obtain⟨CF,hCF⟩:∃x,x=C3.set 58 (.string ⟨q4.1.toArray⟩):=⟨_,rfl⟩;have HCF:=hI hCF;have HLF:Hid (CF.length=69):=(by rw[hCF,List.length_set];exact HL3.out);rw[<-hCF] at Kz;have Zz:=hI (Zc4.out.only Oz.out hha);have Pz:=hI (Pc4.out.only Oz.out (Ne.symm hag) hwa);have Lz:=hI (c0a Lc4.out Oz.out hwa);clear hCF)
  | fail)
 have HEQ:Hid (CF=o0a (.slice none 0 0) (.slice none 0 0) (.slice none 0 0) { j0a with file:=q1.1,cls:=q2.1,on:=tb,name:=⟨q4.1.toArray⟩ }):=by
  show _=_
  rw[HCF.out,HC3.out,HC2.out,HC1.out,HZS.out];rfl
 rotate_left;have D1:Hid (∀(w':World) (g:Nat),w.heap.size<=w'.heap.size->PI w' g w.heap.size A n k xs rd0->Calls Tryz.prog 172 #[.pointer (some ⟨g,0,none⟩)] w' λe w2=>e=.returned (.int .u64 (l1 xs).1)/\PI w2 g w.heap.size A n k xs (l1 xs).2/\R0a g w' w2):=λw' g hs h=>U2a w' g _ A n k xs _ hby h
 have D2:Hid (∀(w':World) (g:Nat),w.heap.size<=w'.heap.size->PI w' g w.heap.size A n k xs (l1 xs).2->Calls Tryz.prog 173 #[.pointer (some ⟨g,0,none⟩)] w' λe w2=>e=.returned (.int .u16 (l2 xs).1)/\PI w2 g w.heap.size A n k xs (l2 xs).2/\R0a g w' w2):=λw' g hs h=>G6a w' g _ A n k xs _ hby h
 have D3:Hid (∀(w':World) (g:Nat),w.heap.size<=w'.heap.size->PI w' g w.heap.size A n k xs (l2 xs).2->Calls Tryz.prog 177 #[.pointer (some ⟨g,0,none⟩),.int .i64 5] w' λe w2=>e=.returned (.tuple #[])/\PI w2 g w.heap.size A n k xs (N2a 5 (l2 xs).2)/\R0a g w' w2):=λw' g hs h=>y4a w' g _ A n k xs _ 5 h
 have DE:Hid (∀(w':World) (g:Nat),PI w' g w.heap.size A n k xs (N2a 5 (l2 xs).2)->Calls Tryz.prog 179 #[.pointer (some ⟨g,0,none⟩)] w' λe w2=>e=.returned (.int .i64 (M0a xs (N2a 5 (l2 xs).2)))/\R0a g w' w2):=λw' g h=>X2a w' g _ A n k xs _ h
 have hgp:igP 17 xs=({ j0a with file:=(l1 xs).1,cls:=(l2 xs).1 },(N2a 5 (l2 xs).2)):=by unfold igP;rw[if_neg (by decide),if_neg (by decide),if_pos rfl,if_neg c1,if_neg c2,if_neg c3]
 have hge:k4a 17 xs=M0a xs (N2a 5 (l2 xs).2):=by unfold k4a;rw[if_pos hk,hgp]
 have HQ:Hid (∀(cs:List Value) (e:Ending) (w':World),M0a xs (N2a 5 (l2 xs).2)=0->e=.returned (.tuple #[.agg cs.toArray,.int .i64 0])->j1a w' w'.heap.size cs { j0a with file:=(l1 xs).1,cls:=(l2 xs).1 }->cs[61]? = some (.slice none 0 0)->Below w.heap.size w w'->T1a w 17 xs e w'):=by
  intro cs e w' h0 h1 h2 h3 h5;have ho:Y5a 17 xs={ j0a with file:=(l1 xs).1,cls:=(l2 xs).1 }:=by unfold Y5a;rw[hge,h0,if_pos rfl,hgp]
  unfold T1a;rw[hge,h0,ho];exact⟨cs,h1,h2,h3,h5⟩
 have HE':=hI (HE.out _ hge);obtain⟨er,her⟩:∃x,x=M0a xs (N2a 5 (l2 xs).2):=⟨_,rfl⟩;rw[<-her] at DE HQ HE';have cf1:((l2 xs).1==1)=false:=by simpa using c1
 have cf2:((l2 xs).1==2)=false:=by simpa using c2
 have cf3:((l2 xs).1==3)=false:=by simpa using c3
 clear c1 c2 c3;obtain⟨q1,hq1⟩:∃x,x=(l1 xs):=⟨_,rfl⟩;rw[<-hq1] at D1 D2 HQ;obtain⟨q2,hq2⟩:∃x,x=(l2 xs):=⟨_,rfl⟩;rw[<-hq2] at D2 D3 DE HQ cf1 cf2 cf3;obtain⟨q3,hq3⟩:∃x,x=(N2a 5 q2.2):=⟨_,rfl⟩;rw[<-hq3] at D3 DE;clear HE hk hx her hge hgp hq1 hq2 hq3;go_wp2_with fail;refine(D1.out w4 g L4.out.size P4.out).mono ?_;rintro e v1 ⟨rfl,hP,hS⟩;have Pc1:=hI hP;have Zc1:=hI (Z4.out.save hS hhg);have Kc1:=hI (K4.out.save hS hag);have Lc1:=hI (L4.out.trans (hS.below hwg L4.out.size));clear hP hS P4 Z4 K4 L4;go_wp2_with fail;refine(D2.out v1 g Lc1.out.size Pc1.out).mono ?_;rintro e v2 ⟨rfl,hP,hS⟩;have Pc2:=hI hP;have Zc2:=hI (Zc1.out.save hS hhg);have Kc2:=hI (Kc1.out.save hS hag);have Lc2:=hI (Lc1.out.trans (hS.below hwg Lc1.out.size));clear hP hS Pc1 Zc1 Kc1 Lc1;go_wp2_with(first
  | ((with_reducible refine sT 32 ?_);refine d0a rfl _ (.tmp 32) (.tmp 30) rfl a 57 rfl _ zs (.int .u64 q1.1) rfl Kc2 (hI (by have:=HZ.out;omega)) (by kernel_rfl) rfl ?_;intro x1 Ks1 Os1 hqs1;obtain⟨C1,hC1⟩:∃x,x=zs.set 57 (.int .u64 q1.1):=⟨_,rfl⟩;have HC1:=hI hC1;have HL1:Hid (C1.length=69):=(by rw[hC1,List.length_set];exact HZ.out);rw[<-hC1] at Ks1;have Zs1:=hI (Zc2.out.only Os1.out hha);have Ps1:=hI (Pc2.out.only Os1.out (Ne.symm hag) hwa);have Ls1:=hI (c0a Lc2.out Os1.out hwa);clear hC1)
  | ((with_reducible refine sT 33 ?_);refine d0a rfl _ (.tmp 33) (.tmp 31) rfl a 66 rfl _ C1 (.int .u16 q2.1) rfl Ks1 (hI (by have:=HL1.out;omega)) (by kernel_rfl) rfl ?_;intro x2 Ks2 Os2 hqs2;obtain⟨C2,hC2⟩:∃x,x=C1.set 66 (.int .u16 q2.1):=⟨_,rfl⟩;have HC2:=hI hC2;have HL2:Hid (C2.length=69):=(by rw[hC2,List.length_set];exact HL1.out);rw[<-hC2] at Ks2;have Zs2:=hI (Zs1.out.only Os2.out hha);have Ps2:=hI (Ps1.out.only Os2.out (Ne.symm hag) hwa);have Ls2:=hI (c0a Ls1.out Os2.out hwa);have hcl:x2.cell? ⟨a,66,none⟩=some (.int .u16 q2.1):=(Ks2.out.at (by rw[hC2];exact List.getElem?_set_self (by have:=HL1.out;omega)));clear hC2)
  | fail)
 refine(D3.out x2 g Ls2.out.size Ps2.out).mono ?_;rintro e wz ⟨rfl,hP,hS⟩;have Pz:=hI hP;have Zz:=hI (Zs2.out.save hS hhg);have Kz:=hI (Ks2.out.save hS hag);have Lz:=hI (Ls2.out.trans (hS.below hwg Ls2.out.size));clear hP hS Ps2 Zs2 Ks2 Ls2;go_wp2_with fail;obtain⟨CF,hCF⟩:∃x,x=C2:=⟨_,rfl⟩;have HLF:Hid (CF.length=69):=by rw[hCF];exact HL2.out
 have HCF:=hI hCF;rw[<-hCF] at Kz;clear hCF;have HEQ:Hid (CF=o0a (.slice none 0 0) (.slice none 0 0) (.slice none 0 0) { j0a with file:=q1.1,cls:=q2.1 }):=by
  show _=_
  rw[HCF.out,HC2.out,HC1.out,HZS.out];rfl
 rotate_left;subst h18;have D1:Hid (∀(w':World) (g:Nat),w.heap.size<=w'.heap.size->PI w' g w.heap.size A n k xs rd0->Calls Tryz.prog 178 #[.pointer (some ⟨g,0,none⟩)] w' λe w2=>e=.returned (.tuple #[.int .u64 (l1 xs).1,.int .u8 (k2 xs).1])/\PI w2 g w.heap.size A n k xs (k3 xs)/\R0a g w' w2):=λw' g hs h=>U0b w' g _ A n k xs _ hby h hs
 have DE:Hid (∀(w':World) (g:Nat),PI w' g w.heap.size A n k xs (k3 xs)->Calls Tryz.prog 179 #[.pointer (some ⟨g,0,none⟩)] w' λe w2=>e=.returned (.int .i64 (M0a xs (k3 xs)))/\R0a g w' w2):=λw' g h=>X2a w' g _ A n k xs _ h
 have hgp:igP 18 xs=({ j0a with file:=(l1 xs).1,lev:=(k2 xs).1 },(k3 xs)):=by unfold igP;rw[if_neg (by decide),if_neg (by decide),if_neg (by decide),if_pos rfl]
 have hge:k4a 18 xs=M0a xs (k3 xs):=by unfold k4a;rw[if_pos hk,hgp]
 have HQ:Hid (∀(cs:List Value) (e:Ending) (w':World),M0a xs (k3 xs)=0->e=.returned (.tuple #[.agg cs.toArray,.int .i64 0])->j1a w' w'.heap.size cs { j0a with file:=(l1 xs).1,lev:=(k2 xs).1 }->cs[61]? = some (.slice none 0 0)->Below w.heap.size w w'->T1a w 18 xs e w'):=by
  intro cs e w' h0 h1 h2 h3 h5;have ho:Y5a 18 xs={ j0a with file:=(l1 xs).1,lev:=(k2 xs).1 }:=by unfold Y5a;rw[hge,h0,if_pos rfl,hgp]
  unfold T1a;rw[hge,h0,ho];exact⟨cs,h1,h2,h3,h5⟩
 have HE':=hI (HE.out _ hge);obtain⟨er,her⟩:∃x,x=M0a xs (k3 xs):=⟨_,rfl⟩;rw[<-her] at DE HQ HE';obtain⟨q1,hq1⟩:∃x,x=(l1 xs).1:=⟨_,rfl⟩;rw[<-hq1] at D1 HQ;obtain⟨q2,hq2⟩:∃x,x=(k2 xs).1:=⟨_,rfl⟩;rw[<-hq2] at D1 HQ;obtain⟨q3,hq3⟩:∃x,x=(k3 xs):=⟨_,rfl⟩;rw[<-hq3] at D1 DE;clear HE hk hx her hge hgp hq1 hq2 hq3;go_wp2_with fail;refine(D1.out w4 g L4.out.size P4.out).mono ?_;rintro e v1 ⟨rfl,hP,hS⟩;have Pc1:=hI hP;have Zc1:=hI (Z4.out.save hS hhg);have Kc1:=hI (K4.out.save hS hag);have Lc1:=hI (L4.out.trans (hS.below hwg L4.out.size));clear hP hS P4 Z4 K4 L4;go_wp2_with(first
  | ((with_reducible refine sT 57 ?_);refine d0a rfl _ (.tmp 57) (.tmp 55) rfl a 57 rfl _ zs (.int .u64 q1) rfl Kc1 (hI (by have:=HZ.out;omega)) (by kernel_rfl) rfl ?_;intro x1 Ks1 Os1 hqs1;obtain⟨C1,hC1⟩:∃x,x=zs.set 57 (.int .u64 q1):=⟨_,rfl⟩;have HC1:=hI hC1;have HL1:Hid (C1.length=69):=(by rw[hC1,List.length_set];exact HZ.out);rw[<-hC1] at Ks1;have Zs1:=hI (Zc1.out.only Os1.out hha);have Ps1:=hI (Pc1.out.only Os1.out (Ne.symm hag) hwa);have Ls1:=hI (c0a Lc1.out Os1.out hwa);clear hC1)
  | ((with_reducible refine sT 58 ?_);refine d0a rfl _ (.tmp 58) (.tmp 56) rfl a 55 rfl _ C1 (.int .u8 q2) rfl Ks1 (hI (by have:=HL1.out;omega)) (by kernel_rfl) rfl ?_;intro wz Kz Oz hqz;obtain⟨CF,hCF⟩:∃x,x=C1.set 55 (.int .u8 q2):=⟨_,rfl⟩;have HCF:=hI hCF;have HLF:Hid (CF.length=69):=(by rw[hCF,List.length_set];exact HL1.out);rw[<-hCF] at Kz;have Zz:=hI (Zs1.out.only Oz.out hha);have Pz:=hI (Ps1.out.only Oz.out (Ne.symm hag) hwa);have Lz:=hI (c0a Ls1.out Oz.out hwa);clear hCF)
  | fail)
 have HEQ:Hid (CF=o0a (.slice none 0 0) (.slice none 0 0) (.slice none 0 0) { j0a with file:=q1,lev:=q2 }):=by
  show _=_
  rw[HCF.out,HC1.out,HZS.out];rfl
 rotate_left;all_goals
  refine(DE.out wz g Pz.out).mono ?_;rintro e ve ⟨rfl,hS⟩;have ZE:=hI (Zz.out.save hS hhg);have KE:=hI (Kz.out.save hS hag);have LE:=hI (Lz.out.trans (hS.below hwg Lz.out.size));clear hS Pz Zz Kz Lz;by_cases he:er=0;rotate_left
  ·have hne:(er != 0)=true:=by simpa using he
   have HN:=hI (HE'.out he);clear he HE' HQ;go_wp2_with(first
    | ((with_reducible refine sN 65 ?_);refine x0a rfl _ rfl zs BZ ?_)
    | ((with_reducible refine sT 4 ?_);refine b0a rfl _ (.tmp 4) (.tmp 65) rfl h rfl _ zs zs rfl ZE 69 p0a HZ HZ HZ1 ?_;intro w10 K10 O10 hg10)
    | fail)
   refine bodyPost_ret (v:=.tuple #[.agg zs.toArray,.int .i64 er]) ?_ rfl (HN.out _ _ rfl (c0a LE.out O10.out (by omega)));exact m0a rfl _ _ h _ _ (0,0) _ rfl K10.out Tryz.underlying34 rfl (by rw[p0a];have:=HZ.out;simp[this]) rfl
  ·subst he;have H1C:Hid (∀v∈CF,v.oneCell'=true):=by
    show _
    rw[HEQ.out];exact B1a rfl rfl rfl
   go_wp2_with(first
    | ((with_reducible refine sN 67 ?_);refine f0a rfl _ (.tmp 6) rfl a rfl _ CF KE 69 _ Tryz.underlying34 rfl p0a HLF ?_)
    | ((with_reducible refine sT 4 ?_);refine b0a rfl _ (.tmp 4) (.tmp 67) rfl h rfl _ zs CF rfl ZE 69 p0a HZ HLF H1C ?_;intro w10 K10 O10 hg10)
    | fail)
   refine bodyPost_ret (v:=.tuple #[.agg CF.toArray,.int .i64 0]) ?_ rfl ?_
   ·exact m0a rfl _ _ h _ _ (0,0) _ rfl K10.out Tryz.underlying34 rfl (by rw[p0a];have:=HLF.out;simp[this]) rfl
   ·have LF:Below w.heap.size w w10:=c0a LE.out O10.out (by omega);exact HQ.out CF _ _ (by trivial) rfl ⟨none,0,0,none,0,0,none,0,0,by rw[HEQ.out],L1a.nil _ _ _,Holds.nil _ _,c1a.nil _ _ _ _⟩ (by rw[HEQ.out];rfl) LF
theorem x7b(g:Nat)(w:World):(Instr.fieldAt 39 (.pointer (some ⟨g,0,none⟩)) 10).run Tryz.prog w=.ok (.pointer (some ⟨g,17,none⟩)) w:=by go_simp
def K2a(w:World)(c:Int)(xs:List Int)(e:Ending)(w':World):Prop:=∃cs,e=.returned (.tuple #[.agg cs.toArray,.int .i64 (C6a c xs)])/\w1a w' w'.heap.size cs (G9a c xs)/\cs[15]? = some (.slice none 0 0)/\Below w.heap.size w w'/\(∀b off s n c,cs[17]? = some (.slice (some ⟨b,off,s⟩) n c)->w.heap.size<=b)
theorem B3b(w:World)(c:Int)(A:Option Addr)(n k:Nat)(xs:List Int)(hc:0<=c/\c<=65535)(hx:Holds w w.heap.size A n k xs) :
  Calls Tryz.prog 114 #[.int .u16 c,.slice A n k] w (K2a w c xs):=by
 have hby:=hx.byte;have HX:=hI hx;have ZH:=hI S7a;have BZ:=T7a;have ZR:=hI b5b;have HZ:Hid ((y0a (.slice none 0 0) (.slice none 0 0) s0a).length=20):=c2a G0a;have HZ1:Hid (∀v∈y0a (.slice none 0 0) (.slice none 0 0) s0a,v.oneCell'=true):=(q2a w 0).one;have HZI:Hid (∀w':World,w1a w' w'.heap.size (y0a (.slice none 0 0) (.slice none 0 0) s0a) s0a):=λw'=>q2a w' _
 have HZD:Hid ((y0a (.slice none 0 0) (.slice none 0 0) s0a)[15]? = some (.slice none 0 0)):=rfl;have BR:Tryz.prog.built 179 [(0,.slice A n k)]=some ([.slice A n k,.int .i64 0,.int .i64 0]:List Value).toArray:=by kernel_rfl
 have HR0:Hid (([.slice none 0 0,.int .i64 0,.int .i64 0]:List Value).length=3):=rfl;have HR1:Hid (([.slice A n k,.int .i64 0,.int .i64 0]:List Value).length=3):=rfl;have HR2:Hid (∀v∈([.slice A n k,.int .i64 0,.int .i64 0]:List Value),v.oneCell'=true):=by intro v hv;simp only[List.mem_cons,List.not_mem_nil,or_false] at hv;rcases hv with rfl | rfl | rfl<;>rfl
 have HE:Hid (∀er,C6a c xs=er->er≠0->∀e w',e=.returned (.tuple #[.agg (y0a (.slice none 0 0) (.slice none 0 0) s0a).toArray,.int .i64 er])->Below w.heap.size w w'->K2a w c xs e w'):=by intro er h1 h2 e w' he hb;unfold K2a G9a;rw[h1,if_neg h2];exact⟨_,he,HZI.out w',HZD.out,hb,λb off s n c h=>by have h2:some (Value.slice none 0 0)=some (Value.slice (some ⟨b,off,s⟩) n c):=h;cases h2⟩
 obtain⟨zs,hzs⟩:∃zs,zs=y0a (.slice none 0 0) (.slice none 0 0) s0a:=⟨_,rfl⟩;have HZS:=hI hzs;rw[<-hzs] at ZH BZ HZ HZ1 HE;clear hzs HZI HZD;by_cases hk:f5a c=true;rotate_left
 ·have HQ:=hI (HE.out 2 (by unfold C6a;rw[if_neg hk]) (by decide));have hk':c≠14/\c≠16/\c≠17/\c≠18:=by refine⟨?_,?_,?_,?_⟩<;>(rintro rfl;exact hk (by decide))
  obtain⟨h14,h16,h17,h18⟩:=hk';have b14:(c==14)=false:=by simpa using h14
  have b16:(c==16)=false:=by simpa using h16
  have b17:(c==17)=false:=by simpa using h17
  have b18:(c==18)=false:=by simpa using h18
  clear hk HE hx h14 h16 h17 h18;go_enter Tryz.func114,Tryz.ntmps114;go_wp2_with(first
   | ((with_reducible refine sN 4 ?_);refine a0a rfl _ rfl zs _ ZH ?_;intro h w1 hg1 hg2 Z1 L1)
   | ((with_reducible refine sN 6 ?_);refine a0a rfl _ rfl zs _ ZH ?_;intro a w2 hg3 hg4 K2 L02;have Z2:=hI (Z1.out.over L02.out);have L2:=hI (step L1.out L02.out);have hha:h≠a:=(by omega);have hwa:w.heap.size<=a:=(by have:=L1.out.size;omega);have hsz2:=L2.out.size)
   | ((with_reducible refine sN 11 ?_);refine k0a rfl _ _ rfl ([.slice A n k,.int .i64 0,.int .i64 0]:List Value) (by refine Eq.trans ?_ BR;kernel_rfl) ?_)
   | ((with_reducible refine sN 7 ?_);refine a0a rfl _ rfl ([.slice none 0 0,.int .i64 0,.int .i64 0]:List Value) _ ZR ?_;intro g w3 hg5 hg6 R3 L03;have K3:=hI (K2.out.over L03.out);have Z3:=hI (Z2.out.over L03.out);have L3:=hI (step L2.out L03.out);have hag:a≠g:=(by omega);have hhg:h≠g:=(by have:=Z2.out.lt;omega);have hwg:w.heap.size<=g:=(by omega))
   | ((with_reducible refine sT 7 ?_);refine b0a rfl _ (.tmp 7) (.tmp 11) rfl g rfl _ ([.slice none 0 0,.int .i64 0,.int .i64 0]:List Value) ([.slice A n k,.int .i64 0,.int .i64 0]:List Value) rfl R3 3 N9a HR0 HR1 HR2 ?_;intro w4 R4 O4 hg7;have K4:=hI (K3.out.only O4.out hag);have Z4:=hI (Z3.out.only O4.out hhg);have L4:=hI (c0a L3.out O4.out hwg))
   | ((with_reducible refine sN 13 ?_);refine x0a rfl _ rfl zs BZ ?_)
   | ((with_reducible refine sT 4 ?_);refine b0a rfl _ (.tmp 4) (.tmp 13) rfl h rfl _ zs zs rfl Z4 20 t0a HZ HZ HZ1 ?_;intro w10 K10 O10 hg10)
   | fail)
  refine bodyPost_ret (v:=.tuple #[.agg zs.toArray,.int .i64 2]) ?_ rfl (HQ.out _ _ rfl (c0a L4.out O10.out (by omega)));exact m0a rfl _ _ h _ _ (0,0) _ rfl K10.out Tryz.underlying39 rfl (by rw[t0a];have:=HZ.out;simp[this]) rfl
 go_enter Tryz.func114,Tryz.ntmps114;go_upto_if 14 with(first
  | ((with_reducible refine sN 4 ?_);refine a0a rfl _ rfl zs _ ZH ?_;intro h w1 hg1 hg2 Z1 L1)
  | ((with_reducible refine sN 6 ?_);refine a0a rfl _ rfl zs _ ZH ?_;intro a w2 hg3 hg4 K2 L02;have Z2:=hI (Z1.out.over L02.out);have L2:=hI (step L1.out L02.out);have hha:h≠a:=(by omega);have hwa:w.heap.size<=a:=(by have:=L1.out.size;omega);have hsz2:=L2.out.size)
  | ((with_reducible refine sN 11 ?_);refine k0a rfl _ _ rfl ([.slice A n k,.int .i64 0,.int .i64 0]:List Value) (by refine Eq.trans ?_ BR;kernel_rfl) ?_)
  | ((with_reducible refine sN 7 ?_);refine a0a rfl _ rfl ([.slice none 0 0,.int .i64 0,.int .i64 0]:List Value) _ ZR ?_;intro g w3 hg5 hg6 R3 L03;have K3:=hI (K2.out.over L03.out);have Z3:=hI (Z2.out.over L03.out);have L3:=hI (step L2.out L03.out);have hag:a≠g:=(by omega);have hhg:h≠g:=(by have:=Z2.out.lt;omega);have hwg:w.heap.size<=g:=(by omega))
  | ((with_reducible refine sT 7 ?_);refine b0a rfl _ (.tmp 7) (.tmp 11) rfl g rfl _ ([.slice none 0 0,.int .i64 0,.int .i64 0]:List Value) ([.slice A n k,.int .i64 0,.int .i64 0]:List Value) rfl R3 3 N9a HR0 HR1 HR2 ?_;intro w4 R4 O4 hg7;have K4:=hI (K3.out.only O4.out hag);have Z4:=hI (Z3.out.only O4.out hhg);have L4:=hI (c0a L3.out O4.out hwg))
  | fail)
 have P4:Hid (PI w4 g w.heap.size A n k xs rd0):=⟨Nat.zero_le _,hwg,R4.out,HX.out.below L4.out⟩;clear R3 L03 K2 K3 Z1 Z2 Z3 L02 L1 L2 L3 R4 O4 HX;rcases t4a hk with h14 | h16 | h17 | h18
 ·subst h14;have D1:Hid (∀(w':World) (g:Nat),w.heap.size<=w'.heap.size->PI w' g w.heap.size A n k xs rd0->Calls Tryz.prog 184 #[.pointer (some ⟨g,0,none⟩),.int .u64 64,.int .i64 2,.int .i64 3] w' λe w2=>e=.returned (.int .u64 (m1 xs).1)/\PI w2 g w.heap.size A n k xs (m1 xs).2/\R0a g w' w2):=λw' g hs h=>M9a w' g _ A n k xs _ 2 64 3 h (by decide) (by decide)
  have D2:Hid (∀(w':World) (g:Nat),w.heap.size<=w'.heap.size->PI w' g w.heap.size A n k xs (m1 xs).2->Calls Tryz.prog 176 #[.pointer (some ⟨g,0,none⟩)] w' λe w2=>e=.returned (.bool ((m2 xs).1 != 0))/\PI w2 g w.heap.size A n k xs (m2 xs).2/\R0a g w' w2):=λw' g hs h=>H5a w' g _ A n k xs _ hby h
  have DE:Hid (∀(w':World) (g:Nat),PI w' g w.heap.size A n k xs (m3 xs).2->Calls Tryz.prog 179 #[.pointer (some ⟨g,0,none⟩)] w' λe w2=>e=.returned (.int .i64 (M0a xs (m3 xs).2))/\R0a g w' w2):=λw' g h=>X2a w' g _ A n k xs _ h
  have hgp:jgP 14 xs=({ s0a with ents:=(m3 xs).1,more:=((m2 xs).1 != 0) },(m3 xs).2):=by unfold jgP;rw[if_pos rfl]
  have hge:C6a 14 xs=M0a xs (m3 xs).2:=by unfold C6a;rw[if_pos hk,hgp]
  have HQ:Hid (∀(cs:List Value) (e:Ending) (w':World),M0a xs (m3 xs).2=0->e=.returned (.tuple #[.agg cs.toArray,.int .i64 0])->w1a w' w'.heap.size cs { s0a with ents:=(m3 xs).1,more:=((m2 xs).1 != 0) }->cs[15]? = some (.slice none 0 0)->Below w.heap.size w w'->(∀b off s n c,cs[17]? = some (.slice (some ⟨b,off,s⟩) n c)->w.heap.size<=b)->K2a w 14 xs e w'):=by
   intro cs e w' h0 h1 h2 h3 h5 h9;have ho:G9a 14 xs={ s0a with ents:=(m3 xs).1,more:=((m2 xs).1 != 0) }:=by unfold G9a;rw[hge,h0,if_pos rfl,hgp]
   unfold K2a;rw[hge,h0,ho];exact⟨cs,h1,h2,h3,h5,h9⟩
  have HE':=hI (HE.out _ hge);obtain⟨er,her⟩:∃x,x=M0a xs (m3 xs).2:=⟨_,rfl⟩;rw[<-her] at DE HQ HE';obtain⟨N,hN⟩:∃N:Nat,(m1 xs).1=(N:Int):=⟨(m1 xs).1.toNat,by have:=(W2a hby 2 64 3 rd0 ⟨by decide,by decide⟩ (by decide)).1;show(a1a xs 2 64 3 rd0).1=_;change (0:Int)<=(a1a xs 2 64 3 rd0).1 at this;show(a1a xs 2 64 3 rd0).1=((a1a xs 2 64 3 rd0).1.toNat:Int);omega⟩;have hN64:N<=64:=by have h1:=(W2a hby 2 64 3 rd0 ⟨by decide,by decide⟩ (by decide)).2;change (m1 xs).1<=64 at h1;omega
  have HM3:Hid (m3 xs=f2a xs (m2 xs).2 N):=by show _=_;unfold m3;rw[hN,Int.toNat_natCast]
  rw[hN] at D1;have HSTP:Hid (∀j,(f2a xs (m2 xs).2 (j+1)).1=(f2a xs (m2 xs).2 j).1++[(H4a xs (f2a xs (m2 xs).2 j).2).1]/\(f2a xs (m2 xs).2 (j+1)).2=(H4a xs (f2a xs (m2 xs).2 j).2).2):=λj=>⟨rfl,rfl⟩
  have HLN:Hid (∀j,(f2a xs (m2 xs).2 j).1.length=j):=λj=>E1b j
  have CEN:Hid (∀(w':World) (r:Rd) {g:Nat},w.heap.size<=w'.heap.size->PI w' g w.heap.size A n k xs r->Calls Tryz.prog 185 #[.pointer (some ⟨g,0,none⟩)] w' λe w2=>e=.returned (.agg (C0a (H4a xs r).1).toArray)/\PI w2 g w.heap.size A n k xs (H4a xs r).2/\R0a g w' w2):=λw' r g hs h=>B4b w' g _ A n k xs r hby h hs
  have BL:∀l:H1a,Tryz.prog.builtSlice 126 1 [(0,.agg (C0a l).toArray)]=some (C0a l).toArray:=λl=>by kernel_rfl
  obtain⟨ents,hents⟩:∃f,f=f2a xs (m2 xs).2:=⟨_,rfl⟩;have HE0:Hid (ents 0=([],(m2 xs).2)):=by show _=_;rw[hents];rfl
  rw[<-hents] at HM3 HSTP HLN;clear hents;obtain⟨tb,htb⟩:∃x,x=((m2 xs).1 != 0):=⟨_,rfl⟩;rw[<-htb] at D2 HQ;obtain⟨q2,hq2⟩:∃x,x=(m2 xs).2:=⟨_,rfl⟩;rw[<-hq2] at D2 HE0;obtain⟨q1,hq1⟩:∃x,x=(m1 xs).2:=⟨_,rfl⟩;rw[<-hq1] at D1 D2;clear HE hk hx her hge hgp htb hq2 hq1;go_wp2_with fail;refine(D1.out w4 g L4.out.size P4.out).mono ?_;rintro e v1 ⟨rfl,hP,hS⟩;have Pc1:=hI hP;have Zc1:=hI (Z4.out.save hS hhg);have Kc1:=hI (K4.out.save hS hag);have Lc1:=hI (L4.out.trans (hS.below hwg L4.out.size));clear hP hS P4 Z4 K4 L4;go_wp2_with fail;refine(D2.out v1 g Lc1.out.size Pc1.out).mono ?_;rintro e v2 ⟨rfl,hP,hS⟩;have Pc2:=hI hP;have Zc2:=hI (Zc1.out.save hS hhg);have Kc2:=hI (Kc1.out.save hS hag);have Lc2:=hI (Lc1.out.trans (hS.below hwg Lc1.out.size));clear hP hS Pc1 Zc1 Kc1 Lc1;go_wp2_with(first
   | ((with_reducible refine sT 18 ?_);refine d0a rfl _ (.tmp 18) (.tmp 17) rfl a 18 rfl _ zs (.bool tb) rfl Kc2 (hI (by have:=HZ.out;omega)) (by kernel_rfl) rfl ?_;intro x1 Ks1 Os1 hqs1;obtain⟨C1,hC1⟩:∃x,x=zs.set 18 (.bool tb):=⟨_,rfl⟩;have HC1:=hI hC1;have HL1:Hid (C1.length=20):=(by rw[hC1,List.length_set];exact HZ.out);rw[<-hC1] at Ks1;have Zs1:=hI (Zc2.out.only Os1.out hha);have Ps1:=hI (Pc2.out.only Os1.out (Ne.symm hag) hwa);have Ls1:=hI (c0a Lc2.out Os1.out hwa);clear hC1)
   | fail)
  go_wp2;have HC17:Hid (∀u:Value,(C1.set 17 u)[17]? = some u):=λu=>List.getElem?_set_self (by have:=HL1.out;omega)
  have hgs:a<x1.heap.size/\h<x1.heap.size/\g<x1.heap.size:=⟨Ks1.out.lt,Zs1.out.lt,Ps1.out.lt⟩;have hwv:=Ls1.out.size;obtain⟨bb,hbb⟩:∃x,x=x1.heap.size:=⟨_,rfl⟩;rw[<-hbb] at hgs hwv;have hbs:bb<=x1.heap.size:=by omega
  obtain⟨hab,hhb,hgb⟩:=hgs;clear hbb;have H0:Hid (Blk x1 a 39 (C1.set 17 (.slice none 0 0))):=by
   have e0:C1.set 17 (.slice none 0 0)=C1:=by rw[HC1.out,HZS.out];rfl
   rw[e0];exact Ks1.out
  go_loopw [20] (λi wr=>∃j:Nat,i=.int .u64 j/\j<=N/\bb<=wr.heap.size/\∃u,Hid (Blk wr a 39 (C1.set 17 u))/\Hid (r5a C0a 3 126 wr bb u (ents j).1)/\Hid (PI wr g w.heap.size A n k xs (ents j).2)/\Hid (Blk wr h 39 zs)/\Hid (Below w.heap.size w wr)) (λi _=>N-(intOf i).toNat)
  case atStart=>exact⟨0,rfl,Nat.zero_le _,hbs,.slice none 0 0,H0,(by rw[HE0.out];exact r5a.nil _ _ _ _ _),(by rw[HE0.out];exact Ps1),Zs1,Ls1⟩
  case round=>
   obtain⟨j,rfl,hj,hbr,u,HK,HO,HP,HZr,HLr⟩:=hrel;by_cases hlt:j<N
   ·have CE:=hI (CEN.out wr.drew (ents j).2 (show w.heap.size<=wr.heap.size from HLr.out.size) HP.out.drew);have hLn:=HLN.out j;obtain⟨s1,s2⟩:=HSTP.out j;obtain⟨L0,hL0⟩:∃l,l=(ents j).1:=⟨_,rfl⟩;rw[<-hL0] at HO hLn s1;obtain⟨en,hen⟩:∃l,l=H4a xs (ents j).2:=⟨_,rfl⟩;rw[<-hen] at CE s1 s2;have S1E:=hI s1;have S2E:=hI s2
    obtain⟨lv,hlv⟩:∃l,l=en.1:=⟨_,rfl⟩;rw[<-hlv] at CE S1E;have BLv:=BL lv;clear s1 s2 hL0 hen hlv HP;go_wp2;go_upto_region 10 with fail
    refine s6a 6 (λw'=>w'.cell? ⟨a,17,none⟩=some u) (by kernel_rfl) ?_;change e4a _ _ _ _ _ _ _ _ _ wr.drew
    have S0:Hid (wr.drew.cell? ⟨a,17,none⟩=some u):=(HK.out.at (HC17.out u));have b0:Hid (Below w.heap.size w wr.drew):=(HLr.out.trans ((F2a wr 1).mono HLr.out.size));refine k2a (i:=0) (v:=_) rfl (by kernel_rfl) (by kernel_rfl) (by kernel_rfl) (λ_ _ _ h=>h) rfl (by kernel_rfl) (by kernel_rfl) (by decide) (A0a (by kernel_rfl) _ (.tmp 6) 10 rfl (.pointer (some ⟨a,0,none⟩)) (.pointer (some ⟨a,17,none⟩)) (by kernel_rfl) (x7b a)) S0.out ?_;refine k2a (i:=1) (v:=_) rfl (by kernel_rfl) (by kernel_rfl) (by kernel_rfl) (λ_ _ _ h=>h) rfl (by kernel_rfl) (by kernel_rfl) (by decide) (l0a (by kernel_rfl) _ (.tmp 22) rfl a 17 (by kernel_rfl) u (λw h=>h) _ Tryz.underlying37 rfl) S0.out ?_;refine C2a 2 _ (by kernel_rfl) rfl λK hK=>?_
    go_simp;refine(CE.out).mono ?_;rintro e v1 ⟨rfl,hP1,hS0⟩;have S1:Hid (v1.cell? ⟨a,17,none⟩=some u):=((HK.out.save ((o3a g wr 1).trans hS0) hag).at (HC17.out u));have b1:Hid (Below w.heap.size w v1):=(HLr.out.trans (((o3a g wr 1).trans hS0).below hwg HLr.out.size));have hS1:R0a g wr v1:=(o3a g wr 1).trans hS0;have HK1:=hI (HK.out.save hS1 hag);have HZ1r:=hI (HZr.out.save hS1 hhg);have HP1:=hI hP1;have hS1s:wr.heap.size<=v1.heap.size:=hS1.size;have HO1:Hid (r5a C0a 3 126 v1 bb u L0):=HO.out.keep λi cs hi hc=>hS1.rest i (Array.getElem?_eq_some_iff.1 hc).1 (by have:=(World.ownsRow.lt HO.out i hi).1;omega)
    refine hK _ _ (λ_=>S1.out) ?_;clear hK K;clear hP1 hS0 hS1;refine M2a λa1 ha1=>?_
    refine C2a 3 _ (by kernel_rfl) rfl λK hK=>?_
    refine i0a rfl _ _ 1 _ rfl Tryz.underlying37 (C0a lv) (by rw[ha1];refine Eq.trans ?_ BLv;kernel_rfl) ?_;intro g2 v2 q2 q3 Y2 b2;have HK2:=hI (HK1.out.over b2.out);have HO2:=hI (HO1.out.below b2.out);have HP2:=hI (HP1.out.below b2.out);have HZ2:=hI (HZ1r.out.over b2.out);have HL2:=hI (b1.out.trans (b2.out.mono b1.out.size));have hb2:bb<=v2.heap.size:=by have:=b2.out.size;omega
    refine hK _ _ (λ_=>HK2.out.at (HC17.out u)) ?_;clear hK K;refine M2a λa2 ha2=>?_
    try rw[ha1] at ha2
    have e2_23:a2.eval (.tmp 23)=u:=by rw[ha2];kernel_rfl
    have e2_25:a2.eval (.tmp 25)=.slice (some ⟨g2,0,none⟩) 1 1:=by rw[ha2];kernel_rfl
    refine C2a 4 _ (by kernel_rfl) rfl λK hK=>?_
    refine O8a rfl (.tmp 23) (.tmp 25) rfl bb u L0 g2 lv e2_23 e2_25 HO2.out Y2 (by omega) hb2 ?_;intro u3 v3 HO3 b3;have HK3:=hI (HK2.out.below b3.out hab);have HP3:=hI (HP2.out.belowAt b3.out hgb);have HZ3:=hI (HZ2.out.below b3.out hhb);have HL3:=hI (HL2.out.trans (b3.out.mono hwv));have hb3:bb<=v3.heap.size:=by have:=b3.out.size;omega
    have OU:=a5b HO3.out;refine hK _ _ (λ_=>HK3.out.at (HC17.out u)) ?_;clear hK K;refine M2a λa3 ha3=>?_
    try rw[ha2] at ha3
    have S3:Hid (v3.cell? ⟨a,17,none⟩=some u):=HK3.out.at (HC17.out u);rw[ha3];refine C2a 5 _ (by kernel_rfl) rfl λK hK=>?_
    go_simp;refine hK _ _ (λ_=>S3.out) ?_;clear hK K;refine M2a λa4 ha4=>?_
    try rw[ha3] at ha4
    have e4_27:a4.eval (.tmp 27)=.pointer (some ⟨a,17,none⟩):=by rw[ha4];kernel_rfl
    have e4_26:a4.eval (.tmp 26)=u3:=by rw[ha4];kernel_rfl
    refine C2a 6 _ (by kernel_rfl) rfl λK hK=>?_
    refine c7a rfl 37 (.tmp 27) (.tmp 26) (by kernel_rfl) a 17 e4_27 _ _ u3 e4_26 HK3 (by show 17<(C1.set 17 u).length;rw[List.length_set];have:=HL1.out;omega) (by kernel_rfl) OU ?_;intro v4 X4 O4 q4;refine hK _ _ (λh=>Bool.noConfusion (show true=false from h)) ?_;clear hK K;change e4a _ _ _ _ _ _ _ _ a4 v4
    rw[ha4];refine s0b (by kernel_rfl) ?_ _;have HK4:Hid (Blk v4 a 39 (C1.set 17 u3)):=by have h4:=X4.out;rw[List.set_set] at h4;exact h4
    have HO4:Hid (r5a C0a 3 126 v4 bb u3 (ents (j+1)).1):=by rw[S1E.out];exact HO3.out.only O4.out hab
    have HP4:Hid (PI v4 g w.heap.size A n k xs (ents (j+1)).2):=by rw[S2E.out];exact HP3.out.only O4.out (Ne.symm hag) hwa
    have HZ4:=hI (HZ3.out.only O4.out hha);have HL4:=hI (c0a HL3.out O4.out hwa);have hb4:bb<=v4.heap.size:=by have:=O4.out.size;omega
    clear X4 O4 HK3 HP3 HZ3 HL3 HO3 S1E S2E;go_wp2;go_roundw
    case rel=>exact⟨j+1,by go_num,hlt,hb4,u3,HK4,HO4,HP4,HZ4,HL4⟩
    case measure=>simp[intOf];omega
   ·obtain rfl:j=N:=by omega
    obtain⟨uF,huF⟩:∃x,x=u:=⟨_,rfl⟩;obtain⟨C9,hC9⟩:∃x,x=C1.set 17 uF:=⟨_,rfl⟩;have HC9:=hI hC9;have HL9:Hid (C9.length=20):=by rw[hC9,List.length_set];exact HL1.out
    rw[<-huF] at HK HO;rw[<-hC9] at HK;rw[<-HM3.out] at HP;have HOF:Hid (r5a C0a 3 126 wr bb uF (m3 xs).1):=by rw[HM3.out];exact HO.out
    clear hC9 huF;go_wp2_with fail;refine(DE.out wr g HP.out).mono ?_;rintro e ve ⟨rfl,hS⟩;have ZE:=hI (HZr.out.save hS hhg);have KE:=hI (HK.out.save hS hag);have LE:=hI (HLr.out.trans (hS.below hwg HLr.out.size));have OE:=hI (HOF.out.keep λi cs hi hc=>hS.rest i (Array.getElem?_eq_some_iff.1 hc).1 (by have:=(World.ownsRow.lt HOF.out i hi).1;omega));clear hS HP HZr HK HLr;by_cases he:er=0;rotate_left
    ·have hne:(er != 0)=true:=by simpa using he
     have HN:=hI (HE'.out he);clear he HE' HQ;go_wp2_with(first
      | ((with_reducible refine sN 51 ?_);refine x0a rfl _ rfl zs BZ ?_)
      | ((with_reducible refine sT 4 ?_);refine b0a rfl _ (.tmp 4) (.tmp 51) rfl h rfl _ zs zs rfl ZE 20 t0a HZ HZ HZ1 ?_;intro w10 K10 O10 hg10)
      | fail)
     refine bodyPost_ret (v:=.tuple #[.agg zs.toArray,.int .i64 er]) ?_ rfl (HN.out _ _ rfl (c0a LE.out O10.out (by omega)));exact m0a rfl _ _ h _ _ (0,0) _ rfl K10.out Tryz.underlying39 rfl (by rw[t0a];have:=HZ.out;simp[this]) rfl
    ·subst he;have HEQ:Hid (C9=y0a (.slice none 0 0) uF { s0a with ents:=(m3 xs).1,more:=tb }):=by
      show _=_
      rw[HC9.out,HC1.out,HZS.out];rfl
     have H1C:Hid (∀v∈C9,v.oneCell'=true):=by
      show _
      rw[HEQ.out];exact F1a rfl (a5b OE.out)
     go_wp2_with(first
      | ((with_reducible refine sN 53 ?_);refine f0a rfl _ (.tmp 6) rfl a rfl _ C9 KE 20 _ Tryz.underlying39 rfl t0a HL9 ?_)
      | ((with_reducible refine sT 4 ?_);refine b0a rfl _ (.tmp 4) (.tmp 53) rfl h rfl _ zs C9 rfl ZE 20 t0a HZ HL9 H1C ?_;intro w10 K10 O10 hg10)
      | fail)
     refine bodyPost_ret (v:=.tuple #[.agg C9.toArray,.int .i64 0]) ?_ rfl ?_
     ·exact m0a rfl _ _ h _ _ (0,0) _ rfl K10.out Tryz.underlying39 rfl (by rw[t0a];have:=HL9.out;simp[this]) rfl
     ·have LF:Below w.heap.size w w10:=c0a LE.out O10.out (by omega);have VF:=r5a.only OE.out O10.out (by omega);obtain⟨Al,nl,kl,hul,hHl⟩:=r5a.holds (by decide) d5a VF;exact HQ.out C9 _ _ (by trivial) rfl ⟨none,0,0,Al,nl,kl,by rw[HEQ.out,hul],Holds.nil _ _,hHl⟩ (by rw[HEQ.out];rfl) LF (λb off s n c h=>by rw[HEQ.out] at h;have h2:some uF=some (Value.slice (some ⟨b,off,s⟩) n c):=h;injection h2 with h2;exact Nat.le_trans (by omega) (World.ownsRow.lt VF b (by rw[h2];rfl)).1)
 subst h16;have D1:Hid (∀(w':World) (g:Nat),w.heap.size<=w'.heap.size->PI w' g w.heap.size A n k xs rd0->Calls Tryz.prog 172 #[.pointer (some ⟨g,0,none⟩)] w' λe w2=>e=.returned (.int .u64 (l1 xs).1)/\PI w2 g w.heap.size A n k xs (l1 xs).2/\R0a g w' w2):=λw' g hs h=>U2a w' g _ A n k xs _ hby h
 have D2:Hid (∀(w':World) (g:Nat),w.heap.size<=w'.heap.size->PI w' g w.heap.size A n k xs (l1 xs).2->Calls Tryz.prog 186 #[.pointer (some ⟨g,0,none⟩)] w' λe w2=>e=.returned (.int .u8 (g2 xs).1)/\PI w2 g w.heap.size A n k xs (g2 xs).2/\R0a g w' w2):=λw' g hs h=>S1b w' g _ A n k xs _ hby h
 have D3:Hid (∀(w':World) (g:Nat),w.heap.size<=w'.heap.size->PI w' g w.heap.size A n k xs (g2 xs).2->Calls Tryz.prog 176 #[.pointer (some ⟨g,0,none⟩)] w' λe w2=>e=.returned (.bool ((g3 xs).1 != 0))/\PI w2 g w.heap.size A n k xs (g3 xs).2/\R0a g w' w2):=λw' g hs h=>H5a w' g _ A n k xs _ hby h
 have DE:Hid (∀(w':World) (g:Nat),PI w' g w.heap.size A n k xs (g3 xs).2->Calls Tryz.prog 179 #[.pointer (some ⟨g,0,none⟩)] w' λe w2=>e=.returned (.int .i64 (M0a xs (g3 xs).2))/\R0a g w' w2):=λw' g h=>X2a w' g _ A n k xs _ h
 have hgp:jgP 16 xs=({ s0a with siz:=(l1 xs).1,kind:=(g2 xs).1,gone:=((g3 xs).1 != 0) },(g3 xs).2):=by unfold jgP;rw[if_neg (by decide),if_pos rfl]
 have hge:C6a 16 xs=M0a xs (g3 xs).2:=by unfold C6a;rw[if_pos hk,hgp]
 have HQ:Hid (∀(cs:List Value) (e:Ending) (w':World),M0a xs (g3 xs).2=0->e=.returned (.tuple #[.agg cs.toArray,.int .i64 0])->w1a w' w'.heap.size cs { s0a with siz:=(l1 xs).1,kind:=(g2 xs).1,gone:=((g3 xs).1 != 0) }->cs[15]? = some (.slice none 0 0)->Below w.heap.size w w'->(∀b off s n c,cs[17]? = some (.slice (some ⟨b,off,s⟩) n c)->w.heap.size<=b)->K2a w 16 xs e w'):=by
  intro cs e w' h0 h1 h2 h3 h5 h9;have ho:G9a 16 xs={ s0a with siz:=(l1 xs).1,kind:=(g2 xs).1,gone:=((g3 xs).1 != 0) }:=by unfold G9a;rw[hge,h0,if_pos rfl,hgp]
  unfold K2a;rw[hge,h0,ho];exact⟨cs,h1,h2,h3,h5,h9⟩
 have HE':=hI (HE.out _ hge);obtain⟨er,her⟩:∃x,x=M0a xs (g3 xs).2:=⟨_,rfl⟩;rw[<-her] at DE HQ HE';obtain⟨q1,hq1⟩:∃x,x=(l1 xs):=⟨_,rfl⟩;rw[<-hq1] at D1 D2 HQ;obtain⟨q2,hq2⟩:∃x,x=(g2 xs):=⟨_,rfl⟩;rw[<-hq2] at D2 D3 HQ;obtain⟨tb,htb⟩:∃x,x=((g3 xs).1 != 0):=⟨_,rfl⟩;rw[<-htb] at D3 HQ;obtain⟨q3,hq3⟩:∃x,x=(g3 xs).2:=⟨_,rfl⟩;rw[<-hq3] at D3 DE;clear HE hk hx her hge hgp hq1 hq2 htb hq3;go_wp2_with fail;refine(D1.out w4 g L4.out.size P4.out).mono ?_;rintro e v1 ⟨rfl,hP,hS⟩;have Pc1:=hI hP;have Zc1:=hI (Z4.out.save hS hhg);have Kc1:=hI (K4.out.save hS hag);have Lc1:=hI (L4.out.trans (hS.below hwg L4.out.size));clear hP hS P4 Z4 K4 L4;go_wp2_with fail;refine(D2.out v1 g Lc1.out.size Pc1.out).mono ?_;rintro e v2 ⟨rfl,hP,hS⟩;have Pc2:=hI hP;have Zc2:=hI (Zc1.out.save hS hhg);have Kc2:=hI (Kc1.out.save hS hag);have Lc2:=hI (Lc1.out.trans (hS.below hwg Lc1.out.size));clear hP hS Pc1 Zc1 Kc1 Lc1;go_wp2_with fail;refine(D3.out v2 g Lc2.out.size Pc2.out).mono ?_;rintro e v3 ⟨rfl,hP,hS⟩;have Pc3:=hI hP;have Zc3:=hI (Zc2.out.save hS hhg);have Kc3:=hI (Kc2.out.save hS hag);have Lc3:=hI (Lc2.out.trans (hS.below hwg Lc2.out.size));clear hP hS Pc2 Zc2 Kc2 Lc2;go_wp2_with(first
  | ((with_reducible refine sT 34 ?_);refine d0a rfl _ (.tmp 34) (.tmp 31) rfl a 1 rfl _ zs (.int .u64 q1.1) rfl Kc3 (hI (by have:=HZ.out;omega)) (by kernel_rfl) rfl ?_;intro x1 Ks1 Os1 hqs1;obtain⟨C1,hC1⟩:∃x,x=zs.set 1 (.int .u64 q1.1):=⟨_,rfl⟩;have HC1:=hI hC1;have HL1:Hid (C1.length=20):=(by rw[hC1,List.length_set];exact HZ.out);rw[<-hC1] at Ks1;have Zs1:=hI (Zc3.out.only Os1.out hha);have Ps1:=hI (Pc3.out.only Os1.out (Ne.symm hag) hwa);have Ls1:=hI (c0a Lc3.out Os1.out hwa);clear hC1)
  | ((with_reducible refine sT 35 ?_);refine d0a rfl _ (.tmp 35) (.tmp 32) rfl a 14 rfl _ C1 (.int .u8 q2.1) rfl Ks1 (hI (by have:=HL1.out;omega)) (by kernel_rfl) rfl ?_;intro x2 Ks2 Os2 hqs2;obtain⟨C2,hC2⟩:∃x,x=C1.set 14 (.int .u8 q2.1):=⟨_,rfl⟩;have HC2:=hI hC2;have HL2:Hid (C2.length=20):=(by rw[hC2,List.length_set];exact HL1.out);rw[<-hC2] at Ks2;have Zs2:=hI (Zs1.out.only Os2.out hha);have Ps2:=hI (Ps1.out.only Os2.out (Ne.symm hag) hwa);have Ls2:=hI (c0a Ls1.out Os2.out hwa);clear hC2)
  | ((with_reducible refine sT 36 ?_);refine d0a rfl _ (.tmp 36) (.tmp 33) rfl a 19 rfl _ C2 (.bool tb) rfl Ks2 (hI (by have:=HL2.out;omega)) (by kernel_rfl) rfl ?_;intro wz Kz Oz hqz;obtain⟨CF,hCF⟩:∃x,x=C2.set 19 (.bool tb):=⟨_,rfl⟩;have HCF:=hI hCF;have HLF:Hid (CF.length=20):=(by rw[hCF,List.length_set];exact HL2.out);rw[<-hCF] at Kz;have Zz:=hI (Zs2.out.only Oz.out hha);have Pz:=hI (Ps2.out.only Oz.out (Ne.symm hag) hwa);have Lz:=hI (c0a Ls2.out Oz.out hwa);clear hCF)
  | fail)
 have HEQ:Hid (CF=y0a (.slice none 0 0) (.slice none 0 0) { s0a with siz:=q1.1,kind:=q2.1,gone:=tb }):=by
  show _=_
  rw[HCF.out,HC2.out,HC1.out,HZS.out];rfl
 rotate_left;subst h17;have D1:Hid (∀(w':World) (g:Nat),w.heap.size<=w'.heap.size->PI w' g w.heap.size A n k xs rd0->Calls Tryz.prog 174 #[.pointer (some ⟨g,0,none⟩),.int .i64 4] w' λe w2=>e=.returned (.tuple #[])/\PI w2 g w.heap.size A n k xs (rdZ xs 4 rd0)/\R0a g w' w2):=λw' g hs h=>g4a w' g _ A n k xs _ 4 h (by decide) hs
 have DE:Hid (∀(w':World) (g:Nat),PI w' g w.heap.size A n k xs (rdZ xs 4 rd0)->Calls Tryz.prog 179 #[.pointer (some ⟨g,0,none⟩)] w' λe w2=>e=.returned (.int .i64 (M0a xs (rdZ xs 4 rd0)))/\R0a g w' w2):=λw' g h=>X2a w' g _ A n k xs _ h
 have hgp:jgP 17 xs=(s0a,(rdZ xs 4 rd0)):=by unfold jgP;rw[if_neg (by decide),if_neg (by decide),if_neg (by decide)]
 have hge:C6a 17 xs=M0a xs (rdZ xs 4 rd0):=by unfold C6a;rw[if_pos hk,hgp]
 have HQ:Hid (∀(cs:List Value) (e:Ending) (w':World),M0a xs (rdZ xs 4 rd0)=0->e=.returned (.tuple #[.agg cs.toArray,.int .i64 0])->w1a w' w'.heap.size cs s0a->cs[15]? = some (.slice none 0 0)->Below w.heap.size w w'->(∀b off s n c,cs[17]? = some (.slice (some ⟨b,off,s⟩) n c)->w.heap.size<=b)->K2a w 17 xs e w'):=by
  intro cs e w' h0 h1 h2 h3 h5 h9;have ho:G9a 17 xs=s0a:=by unfold G9a;rw[hge,h0,if_pos rfl,hgp]
  unfold K2a;rw[hge,h0,ho];exact⟨cs,h1,h2,h3,h5,h9⟩
 have HE':=hI (HE.out _ hge);obtain⟨er,her⟩:∃x,x=M0a xs (rdZ xs 4 rd0):=⟨_,rfl⟩;rw[<-her] at DE HQ HE';obtain⟨q1,hq1⟩:∃x,x=(rdZ xs 4 rd0):=⟨_,rfl⟩;rw[<-hq1] at D1 DE;clear HE hk hx her hge hgp hq1;go_wp2_with fail;refine(D1.out w4 g L4.out.size P4.out).mono ?_;rintro e wz ⟨rfl,hP,hS⟩;have Pz:=hI hP;have Zz:=hI (Z4.out.save hS hhg);have Kz:=hI (K4.out.save hS hag);have Lz:=hI (L4.out.trans (hS.below hwg L4.out.size));clear hP hS P4 Z4 K4 L4;go_wp2_with fail;obtain⟨CF,hCF⟩:∃x,x=zs:=⟨_,rfl⟩;have HLF:Hid (CF.length=20):=by rw[hCF];exact HZ.out
 have HCF:=hI hCF;rw[<-hCF] at Kz;clear hCF;have HEQ:Hid (CF=y0a (.slice none 0 0) (.slice none 0 0) s0a):=by
  show _=_
  rw[HCF.out,HZS.out]
 rotate_left;subst h18;have D1:Hid (∀(w':World) (g:Nat),w.heap.size<=w'.heap.size->PI w' g w.heap.size A n k xs rd0->Calls Tryz.prog 178 #[.pointer (some ⟨g,0,none⟩)] w' λe w2=>e=.returned (.tuple #[.int .u64 (l1 xs).1,.int .u8 (k2 xs).1])/\PI w2 g w.heap.size A n k xs (k3 xs)/\R0a g w' w2):=λw' g hs h=>U0b w' g _ A n k xs _ hby h hs
 have DE:Hid (∀(w':World) (g:Nat),PI w' g w.heap.size A n k xs (k3 xs)->Calls Tryz.prog 179 #[.pointer (some ⟨g,0,none⟩)] w' λe w2=>e=.returned (.int .i64 (M0a xs (k3 xs)))/\R0a g w' w2):=λw' g h=>X2a w' g _ A n k xs _ h
 have hgp:jgP 18 xs=({ s0a with file:=(l1 xs).1,lev:=(k2 xs).1 },(k3 xs)):=by unfold jgP;rw[if_neg (by decide),if_neg (by decide),if_pos rfl]
 have hge:C6a 18 xs=M0a xs (k3 xs):=by unfold C6a;rw[if_pos hk,hgp]
 have HQ:Hid (∀(cs:List Value) (e:Ending) (w':World),M0a xs (k3 xs)=0->e=.returned (.tuple #[.agg cs.toArray,.int .i64 0])->w1a w' w'.heap.size cs { s0a with file:=(l1 xs).1,lev:=(k2 xs).1 }->cs[15]? = some (.slice none 0 0)->Below w.heap.size w w'->(∀b off s n c,cs[17]? = some (.slice (some ⟨b,off,s⟩) n c)->w.heap.size<=b)->K2a w 18 xs e w'):=by
  intro cs e w' h0 h1 h2 h3 h5 h9;have ho:G9a 18 xs={ s0a with file:=(l1 xs).1,lev:=(k2 xs).1 }:=by unfold G9a;rw[hge,h0,if_pos rfl,hgp]
  unfold K2a;rw[hge,h0,ho];exact⟨cs,h1,h2,h3,h5,h9⟩
 have HE':=hI (HE.out _ hge);obtain⟨er,her⟩:∃x,x=M0a xs (k3 xs):=⟨_,rfl⟩;rw[<-her] at DE HQ HE';obtain⟨q1,hq1⟩:∃x,x=(l1 xs).1:=⟨_,rfl⟩;rw[<-hq1] at D1 HQ;obtain⟨q2,hq2⟩:∃x,x=(k2 xs).1:=⟨_,rfl⟩;rw[<-hq2] at D1 HQ;obtain⟨q3,hq3⟩:∃x,x=(k3 xs):=⟨_,rfl⟩;rw[<-hq3] at D1 DE;clear HE hk hx her hge hgp hq1 hq2 hq3;go_wp2_with fail;refine(D1.out w4 g L4.out.size P4.out).mono ?_;rintro e v1 ⟨rfl,hP,hS⟩;have Pc1:=hI hP;have Zc1:=hI (Z4.out.save hS hhg);have Kc1:=hI (K4.out.save hS hag);have Lc1:=hI (L4.out.trans (hS.below hwg L4.out.size));clear hP hS P4 Z4 K4 L4;go_wp2_with(first
  | ((with_reducible refine sT 46 ?_);refine d0a rfl _ (.tmp 46) (.tmp 44) rfl a 13 rfl _ zs (.int .u64 q1) rfl Kc1 (hI (by have:=HZ.out;omega)) (by kernel_rfl) rfl ?_;intro x1 Ks1 Os1 hqs1;obtain⟨C1,hC1⟩:∃x,x=zs.set 13 (.int .u64 q1):=⟨_,rfl⟩;have HC1:=hI hC1;have HL1:Hid (C1.length=20):=(by rw[hC1,List.length_set];exact HZ.out);rw[<-hC1] at Ks1;have Zs1:=hI (Zc1.out.only Os1.out hha);have Ps1:=hI (Pc1.out.only Os1.out (Ne.symm hag) hwa);have Ls1:=hI (c0a Lc1.out Os1.out hwa);clear hC1)
  | ((with_reducible refine sT 47 ?_);refine d0a rfl _ (.tmp 47) (.tmp 45) rfl a 10 rfl _ C1 (.int .u8 q2) rfl Ks1 (hI (by have:=HL1.out;omega)) (by kernel_rfl) rfl ?_;intro wz Kz Oz hqz;obtain⟨CF,hCF⟩:∃x,x=C1.set 10 (.int .u8 q2):=⟨_,rfl⟩;have HCF:=hI hCF;have HLF:Hid (CF.length=20):=(by rw[hCF,List.length_set];exact HL1.out);rw[<-hCF] at Kz;have Zz:=hI (Zs1.out.only Oz.out hha);have Pz:=hI (Ps1.out.only Oz.out (Ne.symm hag) hwa);have Lz:=hI (c0a Ls1.out Oz.out hwa);clear hCF)
  | fail)
 have HEQ:Hid (CF=y0a (.slice none 0 0) (.slice none 0 0) { s0a with file:=q1,lev:=q2 }):=by
  show _=_
  rw[HCF.out,HC1.out,HZS.out];rfl
 rotate_left;all_goals
  refine(DE.out wz g Pz.out).mono ?_;rintro e ve ⟨rfl,hS⟩;have ZE:=hI (Zz.out.save hS hhg);have KE:=hI (Kz.out.save hS hag);have LE:=hI (Lz.out.trans (hS.below hwg Lz.out.size));clear hS Pz Zz Kz Lz;by_cases he:er=0;rotate_left
  ·have hne:(er != 0)=true:=by simpa using he
   have HN:=hI (HE'.out he);clear he HE' HQ;go_wp2_with(first
    | ((with_reducible refine sN 51 ?_);refine x0a rfl _ rfl zs BZ ?_)
    | ((with_reducible refine sT 4 ?_);refine b0a rfl _ (.tmp 4) (.tmp 51) rfl h rfl _ zs zs rfl ZE 20 t0a HZ HZ HZ1 ?_;intro w10 K10 O10 hg10)
    | fail)
   refine bodyPost_ret (v:=.tuple #[.agg zs.toArray,.int .i64 er]) ?_ rfl (HN.out _ _ rfl (c0a LE.out O10.out (by omega)));exact m0a rfl _ _ h _ _ (0,0) _ rfl K10.out Tryz.underlying39 rfl (by rw[t0a];have:=HZ.out;simp[this]) rfl
  ·subst he;have H1C:Hid (∀v∈CF,v.oneCell'=true):=by
    show _
    rw[HEQ.out];exact F1a rfl rfl
   go_wp2_with(first
    | ((with_reducible refine sN 53 ?_);refine f0a rfl _ (.tmp 6) rfl a rfl _ CF KE 20 _ Tryz.underlying39 rfl t0a HLF ?_)
    | ((with_reducible refine sT 4 ?_);refine b0a rfl _ (.tmp 4) (.tmp 53) rfl h rfl _ zs CF rfl ZE 20 t0a HZ HLF H1C ?_;intro w10 K10 O10 hg10)
    | fail)
   refine bodyPost_ret (v:=.tuple #[.agg CF.toArray,.int .i64 0]) ?_ rfl ?_
   ·exact m0a rfl _ _ h _ _ (0,0) _ rfl K10.out Tryz.underlying39 rfl (by rw[t0a];have:=HLF.out;simp[this]) rfl
   ·have LF:Below w.heap.size w w10:=c0a LE.out O10.out (by omega);exact HQ.out CF _ _ (by trivial) rfl ⟨none,0,0,none,0,0,by rw[HEQ.out],Holds.nil _ _,c1a.nil _ _ _ _⟩ (by rw[HEQ.out];rfl) LF (λb off s n c h=>by rw[HEQ.out] at h;have h2:some (Value.slice none 0 0)=some (Value.slice (some ⟨b,off,s⟩) n c):=h;cases h2)
structure K9b (a:z1a):Prop where
 u:a.user.size<=17592186044416/\a.share.size<=17592186044416
 n:a.name.size<=17592186044416/\a.pat.size<=17592186044416/\a.aft.size<=17592186044416
 l:a.locks.length<=4398046511104
def Q8b(s:W1a):Prop:=s.ents.length<=4398046511104/\∀e∈s.ents,e.name.size<=17592186044416
theorem y7b{w:World}{c:Int}{ac:List Value}{a:z1a}(hc:0<=c/\c<=65535)(k:a.ok)(ha:j1a w w.heap.size ac a)(hf:K9b a)(hT:K7a w):m8b w c ac a:=by
 intro w' hb;unfold fPA pae pao;split
 ·exact D5a w' c ac a hc k (ha.over hb) hf.u (hT.below hb)
 ·split
  ·exact x4b w' c ac a hc k (ha.over hb) hf.u hf.n.1 hf.l (hT.below hb)
  ·exact z4b w' c ac a hc k (ha.over hb) hf.u hf.n (hT.below hb)
theorem z7b{w:World}{c:Int}{sc:List Value}{s:W1a}(hc:0<=c/\c<=65535)(k:s.ok)(hs:w1a w w.heap.size sc s)(hf:Q8b s)(hT:K7a w):n8b w c sc s:=by
 intro w' hb;unfold fPS pse pso;split
 ·exact E5a w' c sc s hc k (hs.over hb)
 ·split
  ·exact y4b w' c sc s hc k (hs.over hb)
  ·exact A4b w' c sc s hc k (hs.over hb) hf (hT.below hb)
theorem A7b{w:World}{base:Nat}{v:Value}{xs:List Int}(h:s5a w base v xs):UpV base (some v):=λb off s n c e=>by
 injection e with e
 exact(h.own.block (i:=b) (by rw[e];rfl)).1
theorem K4a{α:Type}{l:List α}(h:l.length<=0):l=[]:=List.eq_nil_of_length_eq_zero (by omega)
theorem B7b(c:Int)(xs:List Int):(x6a c xs).dial=[]:=by
 unfold x6a;split
 ·unfold fgP;split
  ·rfl
  ·split
   ·rfl
   ·split
    ·rfl
    ·split<;>rfl
 ·rfl
theorem C3b{w:World}{c:Int}{A:Option Addr}{n k:Nat}{xs:List Int}(hc:0<=c/\c<=65535)(hx:Holds w w.heap.size A n k xs):r7b w c A n k xs:=by
 intro w' hb;have hby:=hx.byte;unfold fGA gae gao;split
 ·refine(y0b w' c A n k xs hc (hx.over hb)).mono ?_;rintro e w2 ⟨vd,h1,h2,h3,h4⟩;obtain⟨n1,n2⟩:=z1b c xs;have hok:=N6b c hby;refine⟨_,h1,⟨hok,h2,⟨.inr λb off s n c e=>?_,.inl n1,.inl n2⟩,.slice none 0 0,r0a hok 12,by rw[n1];exact P0a.nil _ _ _ _⟩,h3⟩;injection e with e
  exact h4 b off s n c e
 ·split
  ·refine(l3b w' c A n k xs hc (hx.over hb)).mono ?_;rintro e w2 ⟨cs,vx,h1,h2,h3,h4,h5,h6⟩;exact⟨cs,h1,⟨e9b c hby,h2,⟨.inl (B7b c xs),.inr (by rw[h3];exact A7b h4),.inr h6⟩,vx,h3,h4⟩,h5⟩
  ·refine(C4b w' c A n k xs hc (hx.over hb)).mono ?_;rintro e w2 ⟨cs,h1,h2,h3,h4⟩;obtain⟨q1,q2,q3,_⟩:=N1b c hby;exact⟨cs,h1,⟨n9b c hby,h2,⟨.inl (K4a q1),.inl (K4a q2),.inl (K4a q3)⟩,.slice none 0 0,h3,by rw[K4a q2];exact P0a.nil _ _ _ _⟩,h4⟩
theorem D3b{w:World}{c:Int}{A:Option Addr}{n k:Nat}{xs:List Int}(hc:0<=c/\c<=65535)(hx:Holds w w.heap.size A n k xs):o8b w c A n k xs:=by
 intro w' hb;have hby:=hx.byte;unfold fGS gse gso;split
 ·refine(y5b w' c A n k xs hc (hx.over hb)).mono ?_;rintro e w2 ⟨h1,h3⟩;obtain⟨n1,n2⟩:=H8a c xs;have hok:=O6b c hby;exact⟨_,h1,⟨hok,d9b w2 _ c xs,⟨.inl n1,.inl n2⟩,.slice none 0 0,D0a hok 5,by rw[n1];exact P0a.nil _ _ _ _⟩,h3⟩
 ·split
  ·refine(j4b w' c A n k xs hc (hx.over hb)).mono ?_;rintro e w2 ⟨cs,vx,h1,h2,h3,h4,h5⟩;exact⟨cs,h1,⟨f9b c hby,h2,⟨.inr (by rw[h3];exact A7b h4),.inl (K4a (C1b c hby).2)⟩,vx,h3,h4⟩,h5⟩
  ·refine(B3b w' c A n k xs hc (hx.over hb)).mono ?_;rintro e w2 ⟨cs,h1,h2,h3,h4,h5⟩;have q1:=K4a (O1b c hby).1;exact⟨cs,h1,⟨o9b c hby,h2,⟨.inl q1,.inr h5⟩,.slice none 0 0,h3,by rw[q1];exact P0a.nil _ _ _ _⟩,h4⟩
theorem u8b(w:World)(m:y9a)(cs:List Value)(k:m.ok)(hm:W5a w w.heap.size cs m)(fa:K9b m.a)(fs:Q8b m.s)(hT:K7a w) :
  Calls Tryz.prog 12 #[.agg cs.toArray] w (Q5a w m):=by
 obtain⟨ac,sc,rfl,ha,hs⟩:=hm;refine N8b w m ac sc k (ha.len k.a) (hs.len k.s) ha.one hs.one (s8b k) (s0c k) ?_;intro w' g hb B;exact J1b w' g m ac sc k B (ha.over hb) (hs.over hb) fa.u (hT.below hb) (λ_=>y7b (E6a k.h) k.a (ha.over hb) fa (hT.below hb)) (λ_=>z7b (E6a k.h) k.s (hs.over hb) fs (hT.below hb))
end Go.Proofs.YtpodpmckdiijhaaGreatDoor
namespace Go.Proofs
open Go.Shelf
def Tryz.laysnb142_ren:Go.Shelf.Ren:=⟨fun | 142=>77 | 117=>125 | 115=>75 | n=>n,fun | 37=>31 | 4=>4 | 3=>3 | 9=>9 | 5=>5 | n=>n,fun | n=>n⟩
theorem Tryz.laysnb142:Go.Proofs.Lays.nb142 Tryz.prog Tryz.laysnb142_ren:={
 mixed:=by kernel_rfl
 f115:=Tryz.func75.trans (congrArg some (by kernel_rfl))
 f117:=Tryz.func125.trans (congrArg some (by kernel_rfl))
 f142:=Tryz.func77.trans (congrArg some (by kernel_rfl))
 t3:=Tryz.underlying3
 a3:=Tryz.isAgg3
 z3:=Tryz.sizeOf3
 v3:=Tryz.zeroValue3
 t4:=Tryz.underlying4
 a4:=Tryz.isAgg4
 z4:=Tryz.sizeOf4
 v4:=Tryz.zeroValue4
 t9:=Tryz.underlying9
 a9:=Tryz.isAgg9
 z9:=Tryz.sizeOf9
 v9:=Tryz.zeroValue9
 t37:=Tryz.underlying31
 a37:=Tryz.isAgg31
 z37:=Tryz.sizeOf31
 v37:=Tryz.zeroValue31
 t5:=Tryz.underlying5
 a5:=Tryz.isAgg5
 z5:=Tryz.sizeOf5
 v5:=Tryz.zeroValue5 }
theorem Tryz.bytes_CutSuffix_all(p1 p2:Option Addr)(n c m d:Nat)(xs ys:List Int)(w:World)(hx:xs.length=n)(hy:ys.length=m)(hnc:n<=c)(hbig:n<=9223372036854775807)(h1:Lib.BytesIn w p1 n xs)(h2:Lib.BytesIn w p2 m ys) :
  Calls Tryz.prog 77 #[.slice p1 n c,.slice p2 m d] w λe w'=>e=.returned (.tuple #[Lib.trimSuffixV p1 n c xs ys,.bool (Lib.hasSuffix (Lib.bytesOf xs) (Lib.bytesOf ys))])/\w'=w:=Any.bytes_CutSuffix_all Tryz.laysnb142 p1 p2 n c m d xs ys w hx hy hnc hbig h1 h2
end Go.Proofs
namespace Go.Proofs.YtpodpmckdiijhaaGreatDoor
open Go.RowKit
set_option maxRecDepth 100000
theorem H6a{xs:List Int}(hx:Bytes xs)(m:Nat):Lib.hasSuffix (Lib.bytesOf xs) (Lib.bytesOf (List.replicate m 0))=W6a xs m:=by
 have e0:Lib.bytesOf (List.replicate m 0)=List.replicate m (0:UInt8):=by unfold Lib.bytesOf;rw[List.map_replicate];rfl
 unfold Lib.hasSuffix W6a;rw[e0,Bool.eq_iff_iff,List.isSuffixOf_iff_suffix,List.suffix_iff_eq_drop,decide_eq_true_iff,List.length_replicate];have e1:(Lib.bytesOf xs).drop ((Lib.bytesOf xs).length-m)=(xs.drop (xs.length-m)).map (λn=>UInt8.ofNat n.toNat):=by unfold Lib.bytesOf;rw[List.length_map,List.map_drop]
 rw[e1];constructor
 ·intro h;have h2:=h.symm;rw[List.eq_replicate_iff] at h2⊢;refine⟨by simpa using h2.1,λb hb=>?_⟩;have h3:=h2.2 _ (List.mem_map.2 ⟨b,hb,rfl⟩);have h4:=hx b (List.mem_of_mem_drop hb);have h5:=congrArg UInt8.toNat h3;simp at h5;omega
 ·intro h;rw[h,List.map_replicate];rfl
theorem c5b{w:World}{B:Nat}{A:Option Addr}{n c:Nat}{xs:List Int}(h:Holds w B A n c xs):Lib.BytesIn w A n xs:=λh0=>by obtain⟨b,o,h1,_,h3⟩:=h.cells h0;exact⟨b,o,h1,h3⟩
theorem v8b(w:World)(B B':Nat)(A Z:Option Addr)(n c m d:Nat)(xs:List Int)(hx:Holds w B A n c xs)(hz:Holds w B' Z m d (List.replicate m 0)) :
  Calls Tryz.prog 77 #[.slice A n c,.slice Z m d] w λe w'=>e=.returned (.tuple #[.slice A (if W6a xs m=true then n-m else n) c,.bool (W6a xs m)])/\w=w':=by
 have hl:=hx.len;have hrm:=hx.room;refine(Tryz.bytes_CutSuffix_all A Z n c m d xs (List.replicate m 0) w hl (by simp) hx.fit (by omega) (c5b hx) (c5b hz)).mono ?_;rintro e w' ⟨rfl,rfl⟩;rw[H6a hx.byte]
 suffices key:Lib.trimSuffixV A n c xs (List.replicate m 0)=.slice A (if W6a xs m=true then n-m else n) c by rw[key];exact⟨rfl,rfl⟩
 cases m with
 | zero=>
  have:Lib.trimSuffixV A n c xs (List.replicate 0 0)=.slice A n c:=by unfold Lib.trimSuffixV;rcases A with _ | ⟨b,o,_ | s⟩<;>rfl
  rw[this];simp
 | succ m=>
  by_cases h0:0<n
  ·obtain⟨b,o,rfl,_,_⟩:=hx.cells h0;show Lib.bytesTrimSuffix b o n c xs (List.replicate (m+1) 0)=_
   unfold Lib.bytesTrimSuffix;rw[H6a hx.byte,List.length_replicate];by_cases he:W6a xs (m+1)=true
   ·rw[if_pos he,if_pos he];rfl
   ·rw[if_neg he,if_neg he]
  ·obtain rfl:n=0:=by omega
   have hnil:xs=[]:=List.eq_nil_of_length_eq_zero hl;have he:W6a xs (m+1)=false:=by rw[hnil];unfold W6a;simp
   rw[he];unfold Lib.trimSuffixV;rcases A with _ | ⟨b,o,s⟩
   ·rfl
   ·rcases s with _ | s
    ·show Lib.bytesTrimSuffix b o 0 c xs (List.replicate (m+1) 0)=_
     unfold Lib.bytesTrimSuffix;rw[H6a hx.byte,he];rfl
    ·rfl
def z7:List Value:=List.replicate 7 (.int .u8 0)
theorem w9b:(Tryz.prog.info? 107).map (λi=>(i.zero,i.size))=some (some (.agg z7.toArray),7):=by kernel_rfl
theorem x9b:(Tryz.prog.info? 107).map (·.size)=some 7:=by kernel_rfl
theorem w8b:Tryz.prog.built 107 []=some z7.toArray:=by kernel_rfl
theorem x8b{w:World}{g:Nat}{T:TypeId}(B:Blk w g T z7){m:Nat}(hm:m<=7):Holds w w.heap.size (some ⟨g,0,none⟩) m 7 (List.replicate m 0):=
 ⟨by simp,hm,by omega,Bytes.zeros m,λh=>(by cases h),λ_=>⟨g,0,rfl,B.lt,λi hi=>by
  rw[Nat.zero_add,B.cell];have h7:i<7:=by omega
  rw[show z7=List.replicate 7 (Value.int .u8 0) from rfl,List.getElem?_replicate,if_pos h7,List.getD_eq_getElem?_getD,List.getElem?_replicate,if_pos hi];rfl⟩⟩
theorem T5b{w:World}{B n c:Nat}{A:Option Addr}{xs:List Int}(h:Holds w B A n c xs){k:Nat}(hk:k<=n):Holds w B A k c (xs.take k):=
 ⟨by rw[List.length_take,h.len];omega,Nat.le_trans hk h.fit,Nat.le_trans hk h.room,h.byte.take k,h.bare,λh0=>by obtain⟨b,off,h1,h2,h3⟩:=h.cells (by omega);refine⟨b,off,h1,h2,λi hi=>?_⟩;rw[h3 i (by omega)];simp[List.getD_eq_getElem?_getD,List.getElem?_take,hi]⟩
theorem y8b{h:Hd}{xs:List Int}{n:Nat}(h8:n<8)(ht:o4b h xs n=true)(hp:∀j,j<n->o4b h xs j=false):atN h xs=some n:=by unfold atN;rw[List.find?_range_eq_some];exact⟨ht,List.mem_range.2 h8,λj hj=>by rw[hp j hj];rfl⟩
theorem z8b{h:Hd}{xs:List Int}(hp:∀j,j<8->o4b h xs j=false):atN h xs=none:=by unfold atN;rw[List.find?_eq_none];intro j hj;rw[hp j (List.mem_range.1 hj)];decide
theorem U5b(w:World)(g:Nat)(h:Hd)(ac sc:List Value)(k:h.ok)(B:Blk w g 65 (q0a h++(ac++sc)))(l1:ac.length=69)(l2:sc.length=20)(A:Option Addr)(n c:Nat)(xs:List Int)(hx:Holds w g A n c xs)(hn:h.nx≠0) :
  Calls Tryz.prog 42 #[.pointer (some ⟨g,0,none⟩),.slice A n c] w (h9a w g h ac sc xs):=by
 have gl:=B.lt;have hl:=hx.len;have hrm:=hx.room;have hft:=hx.fit;have hbare:=hx.bare;have CG:Hid (∀(w':World) ac' sc' m ys,Blk w' g 65 (q0a h++(ac'++sc'))->ac'.length=69->sc'.length=20->Holds w' g A m c ys->Calls Tryz.prog 76 #[.pointer (some ⟨g,0,none⟩),.slice A m c] w' (K1b w' g h ac' sc' ys)):=λw' ac' sc' m ys b q1 q2 hy=>L1b w' g h ac' sc' k b q1 q2 A m c ys (λ_=>C3b (E6a k) (hy.mono (Nat.le_of_lt b.lt))) (λ_=>D3b (E6a k) (hy.mono (Nat.le_of_lt b.lt)))
 unfold K1b at CG;have CK:Hid (∀(w':World) Z m d,Holds w' w'.heap.size Z m d (List.replicate m 0)->Holds w' g A n c xs->Calls Tryz.prog 77 #[.slice A n c,.slice Z m d] w' λe w2=>e=.returned (.tuple #[.slice A (if W6a xs m=true then n-m else n) c,.bool (W6a xs m)])/\w'=w2):=λw' Z m d h1 h2=>v8b w' g _ A Z n c m d xs h2 h1
 have CM:Hid (∀(w:World) A n c,n<=281474976710656->Calls Tryz.prog 36 #[.slice A n c] w λe w'=>e=.returned (.int .i64 (p3b n:Nat))/\w=w'):=λw A n c h=>N0b w A n c h
 have RN:Hid (∀(w':World) ac' sc',Blk w' g 65 (q0a h++(ac'++sc'))->w'.cell? ⟨g,5,none⟩=some (.int .u32 h.nx)):=λw' ac' sc' b=>Blk.cell b 5
 have hnz:(h.nx==0)=false:=by simpa using hn
 obtain⟨nx,hnx⟩:∃x,x=h.nx:=⟨_,rfl⟩;rw[<-hnx] at RN hnz;have ZH:=hI w9b;have BZ:=w8b;have HZ:Hid (z7.length=7):=rfl;have HZO:Hid (∀v∈z7,v.oneCell'=true):=by intro v hv;rw[List.eq_of_mem_replicate hv];rfl
 have HZH:Hid (∀(w':World) g6,Blk w' g6 107 z7->∀m,m<=7->Holds w' w'.heap.size (some ⟨g6,0,none⟩) m 7 (List.replicate m 0)):=λw' g6 b m hm=>x8b b hm
 obtain⟨zs,hzs⟩:∃x,x=z7:=⟨_,rfl⟩;rw[<-hzs] at ZH BZ HZ HZO HZH;have HT:Hid (∀m,o4b h xs m=(W6a xs m&&(decide (p3b (n-m)=m)&&decide (u4a h (xs.take (n-m))=0)))):=λm=>by unfold o4b;rw[hl]
 have HY:Hid (∀m ac' sc' ac2 sc2 e (w1 w2:World),m<8->o4b h xs m=true->(∀j,j<m->o4b h xs j=false)->e=.returned (.int .i64 0)->Blk w2 g 65 (q0a h++(ac2++sc2))->R0a g w w2->w.heap.size<=w1.heap.size->(e3a h.fl=true->ac'=ac)->(e3a h.fl=false->sc'=sc)->p0c w1 w2 h ac' sc' ac2 sc2 (xs.take (n-m))->h9a w g h ac sc xs e w2):=by
  intro m ac' sc' ac2 sc2 e w1 w2 h8 ht hp he hb hs hsz r1 r2 hg;have hat:=y8b h8 ht hp;have e1:J0b h xs=0:=by unfold J0b;rw[if_neg hn,hat];rfl
  have e2:V5a h xs=xs.take (n-m):=by unfold V5a;rw[if_neg hn,hat,Option.getD_some,hl]
  refine⟨ac2,sc2,by rw[e1];exact he,hb,hs,λ_=>?_⟩;rw[e2];refine⟨λhr=>?_,λhr=>?_⟩
  ·obtain⟨q1,q2⟩:=hg.1 hr;exact⟨q1.trans (r1 hr),q2.mono hsz⟩
  ·obtain⟨q1,q2⟩:=hg.2 hr;exact⟨q1.trans (r2 hr),q2.mono hsz⟩
 have HN:Hid (∀ac2 sc2 e (w2:World),(∀j,j<8->o4b h xs j=false)->e=.returned (.int .i64 (if u4a h xs=0 then 5 else u4a h xs))->Blk w2 g 65 (q0a h++(ac2++sc2))->R0a g w w2->h9a w g h ac sc xs e w2):=by
  intro ac2 sc2 e w2 hp he hb hs;have e1:J0b h xs=if u4a h xs=0 then 5 else u4a h xs:=by unfold J0b;rw[if_neg hn,z8b hp];rfl
  refine⟨ac2,sc2,by rw[e1];exact he,hb,hs,λh0=>?_⟩;rw[e1] at h0;split at h0
  ·exact absurd h0 (by decide)
  ·rename_i h2;exact absurd h0 h2
 have C1:=hI (CG.out w ac sc n xs B l1 l2 hx);obtain⟨er,her⟩:∃x,x=u4a h xs:=⟨_,rfl⟩;rw[<-her] at C1 HN;have HX:=hI hx;clear her hzs hnx hn B hx;go_enter Tryz.func42,Tryz.ntmps42;go_wp2_with fail;refine C1.out.mono ?_;rintro e w1 ⟨ac1,sc1,rfl,hb1,q1,q2,hs1,hg1⟩;have gn:=RN.out _ _ _ hb1;have r1:e3a h.fl=true->ac1=ac:=λhr=>(hg1.1 hr).1
 have r2:e3a h.fl=false->sc1=sc:=λhr=>(hg1.2 hr).1
 have B1:=hI hb1;have S1:=hI hs1;have R1:=hI r1;have R2:=hI r2;have hs1z:=hs1.size;clear hb1 hs1 hg1 r1 r2 C1;go_wp2_with(first
  | ((with_reducible refine sN 20 ?_);refine x0a rfl _ rfl zs BZ ?_)
  | ((with_reducible refine sN 6 ?_);refine a0a rfl _ rfl zs _ ZH ?_;intro g6 w2 hg6 hg7 Z2 L2;have B2:=hI (B1.out.over L2.out);have S2:=hI (S1.out.trans (R0a.of_below L2.out g)))
  | ((with_reducible refine sT 6 ?_);refine b0a rfl _ (.tmp 6) (.tmp 20) rfl g6 rfl _ zs zs rfl Z2 7 x9b HZ HZ HZO ?_;intro w3 Z3 O3 hg8;have hne:g≠g6:=(by omega);have B3:=hI (B2.out.only O3.out hne);have hw6:w.heap.size<=g6:=(by omega);have S3:Hid (R0a g w w3):=⟨by rw[O3.out.os];exact S2.out.os,by rw[O3.out.tape];exact S2.out.tape,by rw[O3.out.output];exact S2.out.output,Nat.le_trans S2.out.size (Nat.le_of_eq O3.out.size.symm),λj hj hg=>(O3.out.rest j (by omega)).trans (S2.out.rest j hj hg)⟩)
  | fail)
 clear B1 B2 S1 S2 Z2 L2 O3;go_loopw [21] (λi wr=>∃m:Nat,m<=8/\i=.int .i64 m/\∃ac' sc',Hid (Blk wr g 65 (q0a h++(ac'++sc')))/\Hid (ac'.length=69)/\Hid (sc'.length=20)/\Hid (Blk wr g6 107 zs)/\Hid (R0a g w wr)/\Hid (e3a h.fl=true->ac'=ac)/\Hid (e3a h.fl=false->sc'=sc)/\Hid (∀j,j<m->o4b h xs j=false)) (λi _=>8-(intOf i).toNat)
 case atStart=>exact⟨0,by omega,rfl,ac1,sc1,B3,q1,q2,Z3,S3,R1,R2,λj hj=>absurd hj (by omega)⟩
 case round=>
  clear B3 Z3 S3 R1 R2 q1 q2;obtain⟨m,hm8,rfl,ac',sc',BB,Q1,Q2,ZZ,SS,R1,R2,PP⟩:=hrel;by_cases hlt:m<8;rotate_left
  ·obtain rfl:m=8:=by omega
   by_cases h0:er=0
   ·have HNN:=hI (λe w2 (he:e=.returned (.int .i64 5)) hb hs=>HN.out ac' sc' e w2 PP.out (by rw[if_pos h0];exact he) hb hs);subst h0;go_wp2_with fail;go_ret;exact HNN.out _ _ rfl BB.out SS.out
   ·have hne0:(er==0)=false:=by simpa using h0
    have HNN:=hI (λe w2 (he:e=.returned (.int .i64 er)) hb hs=>HN.out ac' sc' e w2 PP.out (by rw[if_neg h0];exact he) hb hs);clear h0;go_wp2_with fail;go_ret;exact HNN.out _ _ rfl BB.out SS.out
  have HZm:=HZH.out wr g6 ZZ.out m (by omega);have hwr:=SS.out.size;have HXr:Holds wr g A n c xs:=HX.out.below (SS.out.below (Nat.le_refl g) (Nat.le_of_lt gl));have CKm:=hI (CK.out wr _ m 7 HZm HXr);have hm7:(m:Int)<=7:=by omega
  by_cases hez:W6a xs m=true;rotate_left
  ·have hez':W6a xs m=false:=by simpa using hez
   have PN:Hid (∀j,j<m+1->o4b h xs j=false):=λj hj=>by
    by_cases hjm:j=m
    ·subst hjm;rw[HT.out,hez'];rfl
    ·exact PP.out j (by omega)
   rw[hez'] at CKm;clear hez hez' HZm HXr CK;go_wp2_with fail;refine CKm.out.mono ?_;rintro e w4 ⟨rfl,rfl⟩;go_wp2_with fail;go_roundw
   case rel=>exact⟨m+1,by omega,by go_num,ac',sc',BB,Q1,Q2,ZZ,SS,R1,R2,PN⟩
   case measure=>simp[intOf];omega
  have hmn:m<=n:=by have:=(u7b hez).1;omega
  have CMm:=hI (CM.out wr A (n-m) c (by omega));rw[hez] at CKm;by_cases hpm:p3b (n-m)=m;rotate_left
  ·have hpi:(((p3b (n-m):Nat):Int)==(m:Int))=false:=by rw[beq_eq_false_iff_ne];omega
   have PN:Hid (∀j,j<m+1->o4b h xs j=false):=λj hj=>by
    by_cases hjm:j=m
    ·subst hjm;rw[HT.out,hez,show decide (p3b (n-j)=j)=false from decide_eq_false hpm];rfl
    ·exact PP.out j (by omega)
   obtain⟨p,hp⟩:∃x,x=p3b (n-m):=⟨_,rfl⟩;rw[<-hp] at CMm hpi;clear hez HZm HXr CK hpm hp;go_wp2_with fail;refine CKm.out.mono ?_;rintro e w4 ⟨rfl,rfl⟩;go_wp2_with fail;refine CMm.out.mono ?_;rintro e w4 ⟨rfl,rfl⟩;go_wp2_with fail;go_roundw
   case rel=>exact⟨m+1,by omega,by go_num,ac',sc',BB,Q1,Q2,ZZ,SS,R1,R2,PN⟩
   case measure=>simp[intOf];omega
  rw[hpm] at CMm;have C2:=hI (CG.out wr ac' sc' (n-m) (xs.take (n-m)) BB.out Q1.out Q2.out (T5b HXr (by omega)));have TM:Hid (∀b,decide (u4a h (xs.take (n-m))=0)=b->o4b h xs m=b):=λb hb=>by rw[HT.out,hez,show decide (p3b (n-m)=m)=true from decide_eq_true hpm,hb];rfl
  obtain⟨e2,he2⟩:∃x,x=u4a h (xs.take (n-m)):=⟨_,rfl⟩;rw[<-he2] at C2 TM;clear hez HZm HXr CK hpm he2;by_cases h0:e2=0
  ·subst h0;have TT:=hI (TM.out true (by simp));go_wp2_with fail;refine CKm.out.mono ?_;rintro e w4 ⟨rfl,rfl⟩;go_wp2_with fail;refine CMm.out.mono ?_;rintro e w4 ⟨rfl,rfl⟩;go_wp2_with fail;refine C2.out.mono ?_;rintro e w5 ⟨ac2,sc2,rfl,hb2,_,_,hs2,hg2⟩;have HF:=hI (HY.out m ac' sc' ac2 sc2 _ wr w5 hlt TT.out PP.out rfl hb2 (SS.out.trans hs2) hwr R1.out R2.out hg2);clear hb2 hs2 hg2;go_wp2_with fail;go_ret;exact HF.out
  ·have TT:=hI (TM.out false (decide_eq_false h0));have hne2:(e2==0)=false:=by simpa using h0
   have PN:Hid (∀j,j<m+1->o4b h xs j=false):=λj hj=>by
    by_cases hjm:j=m
    ·subst hjm;exact TT.out
    ·exact PP.out j (by omega)
   clear h0;go_wp2_with fail;refine CKm.out.mono ?_;rintro e w4 ⟨rfl,rfl⟩;go_wp2_with fail;refine CMm.out.mono ?_;rintro e w4 ⟨rfl,rfl⟩;go_wp2_with fail;refine C2.out.mono ?_;rintro e w5 ⟨ac2,sc2,rfl,hb2,q1,q2,hs2,hg2⟩;have B5:=hI hb2;have Q15:=hI q1;have Q25:=hI q2;have S5:=hI (SS.out.trans hs2);have Z5:=hI (ZZ.out.save hs2 (by omega));have R15:Hid (e3a h.fl=true->ac2=ac):=λhr=>((hg2.1 hr).1).trans (R1.out hr)
   have R25:Hid (e3a h.fl=false->sc2=sc):=λhr=>((hg2.2 hr).1).trans (R2.out hr)
   clear hb2 q1 q2 hs2 hg2;go_wp2_with fail;go_roundw
   case rel=>exact⟨m+1,by omega,by go_num,ac2,sc2,B5,Q15,Q25,Z5,S5,R15,R25,PN⟩
   case measure=>simp[intOf];omega
theorem A8b(w:World)(A:Option Addr)(n c:Nat)(xs:List Int)(hx:Holds w w.heap.size A n c xs):Calls Tryz.prog 18 #[.slice A n c] w (e7a w xs):=by
 refine O8b w A n c xs hx λh0=>?_
 intro w' g A' n' c' hb B hy;have k:=P9a xs 0 hx.byte;by_cases hn:(Y1a xs 0).nx=0
 ·exact M1b w' g _ zac zsc k B L8a M8a A' n' c' _ hn (λ_=>C3b (E6a k) (hy.mono (Nat.le_of_lt B.lt))) (λ_=>D3b (E6a k) (hy.mono (Nat.le_of_lt B.lt)))
 ·exact U5b w' g _ zac zsc k B L8a M8a A' n' c' _ hy hn
theorem T1b{w:World}{B:Nat}{ad:Addr}{n c:Nat}{xs:List Int}(hr:Holds w B (some ad) n c xs):∀j u,(xs.map (Value.int .u8))[j]? = some u->w.cell? (ad.add j)=some u:=by
 have hl:=hr.len;intro j u hj;have hjl:j<xs.length:=by
  by_cases hj':j<xs.length
  ·exact hj'
  ·rw[List.getElem?_eq_none (by simp;omega)] at hj;cases hj
 obtain⟨b,off,he,_,hcl⟩:=hr.cells (by omega);obtain rfl:=Option.some.inj he;have e:(⟨b,off,none⟩:Addr).add j=⟨b,off+j,none⟩:=by
  by_cases hj0:j=0
  ·subst hj0;simp[Addr.add]
  ·simp[Addr.add,hj0]
 rw[e,hcl j (by omega),<-hj];simp[hjl]
theorem t8a{w:World}{ops:Array Oper}{rest:List Oper}{o:Oper}{a:Act}{Q:Exit->Act->World->Prop}(hgd:o.guard=none)(s x:Operand)
(ho:o.op=.call { callee:=.builtin .append,args:=#[s,x],argTypes:=#[31,31] })
(B:Nat)(A:Option Addr)(n c:Nat)(xs:List Int)(hs:a.eval s=.slice A n n)(hX:Holds w B A n c xs)(B':Nat)(A':Option Addr)(m c':Nat)(ys:List Int)(hx:a.eval x=.slice A' m c')
(hY:Holds w B' A' m c' ys)(hm:0<m)(hlen:n+m<=140737488355328)
(h:∀v' w',Hid (Own w' w.heap.size v' (xs++ys))->Below w.heap.size w w'->wpList Tryz.prog ops Q rest (a.put o.dst v') w') :
  wpList Tryz.prog ops Q (o::rest) a w:=by
 obtain⟨i0,hi,hz0,hz1,hz2⟩:=info_parts G3a;have hl:=hX.len;have hl':=hY.len;rcases A' with _ | ad
 ·exact absurd (hY.bare rfl) (by have:=hY.fit;omega)
 refine wpList_append_grows w hgd s x 31 ho 5 i0 (.int .u8 0) 1 1 Tryz.underlying31 hi hz0 hz1 hz2 rfl (by omega) A n n (xs.map (Value.int .u8)) hs (λhA=>?_) (by simp[hl]) (λb hb=>?_)
  ad m c' (ys.map (Value.int .u8)) hx (by simp[hl']) (T1b hY) (by intro v hv;obtain⟨x,_,rfl⟩:=List.mem_map.1 hv;rfl) (by omega) (by unfold maxLen;omega) (by omega) ?_
 ·have:=hX.bare hA;have:=hX.fit;exact⟨by omega,by omega⟩
 ·subst hb;exact T1b hX
 ·intro v' w' h1 h2;refine h v' w' ?_ ((Below.refl _ _).grown h2 (Nat.le_refl _) (λk hk=>by cases hk));show w'.ownsRow w.heap.size 5 1 v' (xs++ys).length ((xs++ys).map (Value.int .u8))
  rw[List.map_append,List.length_append,hl,hl'];exact h1
def d5b(h:Hd)(s:Int):Hd:=⟨h.ch,IntKind.u32.wrap s,h.cm,0,if h.fl/4%2=1 then 5 else 1,0,h.id,0,if t5a h.fl=true then 0 else h.tr,h.se,List.replicate 16 0⟩
theorem D4b{h:Hd}(k:h.ok)(s:Int):(d5b h s).ok:=by
 refine⟨k.ch,?_,k.cm,(by decide:(0:Int)<=0/\(0:Int)<=65535),?_,(by decide:(0:Int)<=0/\(0:Int)<=4294967295),k.id,(by decide:(0:Int)<=0/\(0:Int)<=18446744073709551615),?_,k.se,by simp[d5b],Bytes.zeros 16⟩
 ·show 0<=IntKind.u32.wrap s/\IntKind.u32.wrap s<=4294967295
  have e:IntKind.u32.wrap s=s%4294967296:=by unfold IntKind.wrap;rfl
  rw[e];omega
 ·show 0<=(if h.fl/4%2=1 then (5:Int) else 1)/\(if h.fl/4%2=1 then (5:Int) else 1)<=4294967295
  split<;>omega
 ·show 0<=(if t5a h.fl=true then 0 else h.tr)/\(if t5a h.fl=true then 0 else h.tr)<=4294967295
  split
  ·decide
  ·exact k.tr
theorem D8b(x:Int)(h0:0<=x)(h1:x<=4294967295):bits .or .u32 1 (bits .and .u32 x 4)=if x/4%2=1 then 5 else 1:=by
 obtain⟨a,rfl⟩:=Int.eq_ofNat_of_zero_le h0;have e:(bits .and .u32 (a:Int) 4)=((a &&& 4:Nat):Int):=by rw[show(4:Int)=((4:Nat):Int) from rfl,u32_and_nat a 4 (by omega) (by omega)]
 rw[e];have h2:a &&& 4=if a/4%2=1 then 4 else 0:=by
  have ht:a.testBit 2=decide (a/4%2=1):=by rw[Nat.testBit_eq_decide_div_mod_eq]
  apply Nat.eq_of_testBit_eq;intro i;rw[Nat.testBit_and,show(4:Nat)=2^2 from rfl,Nat.testBit_two_pow];by_cases hi:2=i
  ·subst hi;rw[ht];by_cases h:a/4%2=1
   ·rw[if_pos h,decide_eq_true h];decide
   ·rw[if_neg h,decide_eq_false h];decide
  ·rw[decide_eq_false hi,Bool.and_false];split
   ·rw[Nat.testBit_two_pow,decide_eq_false hi]
   ·exact(Nat.zero_testBit i).symm
 rw[h2];by_cases h:a/4%2=1
 ·rw[if_pos h,if_pos (by omega)];decide
 ·rw[if_neg h,if_neg (by omega)];decide
theorem V5b(w:World)(h:Hd)(k:h.ok)(s:Int)(hs:-9223372036854775808<=s/\s<=9223372036854775807) :
  Calls Tryz.prog 25 #[hv h,.int .i64 s] w λe w'=>e=.returned (hv (d5b h s))/\Below w.heap.size w w':=by
 have HL:=hI (O0a k);have ZH:=hI D8a;have HZ:=hI (O0a g3a);have hfr:=D8b h.fl k.fl.1 k.fl.2;have hfa:=W6b h.fl k.fl.1 k.fl.2;have FC:Hid (∀(w:World) (g:Nat),Blk w g 28 (q0a h)->w.cell? ⟨g,0,none⟩=some (.int .u16 h.ch)/\w.cell? ⟨g,2,none⟩=some (.int .u16 h.cm)/\w.cell? ⟨g,4,none⟩=some (.int .u32 h.fl)/\w.cell? ⟨g,6,none⟩=some (.int .u64 h.id)/\w.cell? ⟨g,8,none⟩=some (.int .u32 h.tr)/\w.cell? ⟨g,9,none⟩=some (.int .u64 h.se)):=λw g B=>⟨HB.c0 B,HB.c2 B,HB.c4 B,HB.c6 B,HB.c8 B,HB.c9 B⟩
 obtain⟨st,hst⟩:∃x,x=IntKind.u32.wrap s:=⟨_,rfl⟩;obtain⟨fr,hfre⟩:∃x:Int,x=if h.fl/4%2=1 then 5 else 1:=⟨_,rfl⟩
 rw[<-hfre] at hfr;obtain⟨za,hza⟩:∃x,x=t5a h.fl:=⟨_,rfl⟩;rw[<-hza] at hfa;have e1:q0a (d5b h s)=q0a ⟨h.ch,st,h.cm,0,fr,0,h.id,0,if za=true then 0 else h.tr,h.se,List.replicate 16 0⟩:=by unfold d5b;rw[hst,hfre,hza]
 have BL:Tryz.prog.built 28 [(0,.int .u16 h.ch),(1,.int .u32 st),(2,.int .u16 h.cm),(4,.int .u32 fr),(6,.int .u64 h.id),(8,.int .u32 h.tr),(9,.int .u64 h.se)]=some (q0a ⟨h.ch,st,h.cm,0,fr,0,h.id,0,h.tr,h.se,List.replicate 16 0⟩).toArray:=by kernel_rfl
 have HX:Hid ((q0a ⟨h.ch,st,h.cm,0,fr,0,h.id,0,h.tr,h.se,List.replicate 16 0⟩).length=26):=rfl;have HXO:=hI (p2a ⟨h.ch,st,h.cm,0,fr,0,h.id,0,h.tr,h.se,List.replicate 16 0⟩);have HY:Hid ((q0a ⟨h.ch,st,h.cm,0,fr,0,h.id,0,0,h.se,List.replicate 16 0⟩).length=26):=rfl;have HYO:=hI (p2a ⟨h.ch,st,h.cm,0,fr,0,h.id,0,0,h.se,List.replicate 16 0⟩);have HS:Hid ((q0a ⟨h.ch,st,h.cm,0,fr,0,h.id,0,h.tr,h.se,List.replicate 16 0⟩).set 8 (.int .u32 0)=q0a ⟨h.ch,st,h.cm,0,fr,0,h.id,0,0,h.se,List.replicate 16 0⟩):=rfl;unfold hv;rw[e1];obtain⟨cs,hcs⟩:∃cs,cs=q0a h:=⟨_,rfl⟩;rw[<-hcs] at HL FC⊢;obtain⟨zs,hzs⟩:∃zs,zs=q0a X1a:=⟨_,rfl⟩;rw[<-hzs] at ZH HZ;obtain⟨xs,hxs⟩:∃x,x=q0a ⟨h.ch,st,h.cm,0,fr,0,h.id,0,h.tr,h.se,List.replicate 16 0⟩:=⟨_,rfl⟩;rw[<-hxs] at BL HX HXO HS;obtain⟨ys,hys⟩:∃x,x=q0a ⟨h.ch,st,h.cm,0,fr,0,h.id,0,0,h.se,List.replicate 16 0⟩:=⟨_,rfl⟩;rw[<-hys] at HY HYO HS;have e2:q0a ⟨h.ch,st,h.cm,0,fr,0,h.id,0,if za=true then 0 else h.tr,h.se,List.replicate 16 0⟩=if za=true then ys else xs:=by rw[hys,hxs];cases za<;>rfl
 rw[e2];obtain⟨ch,hch⟩:∃x,x=h.ch:=⟨_,rfl⟩;obtain⟨cm,hcm⟩:∃x,x=h.cm:=⟨_,rfl⟩;obtain⟨fl,hfl⟩:∃x,x=h.fl:=⟨_,rfl⟩;obtain⟨id,hid⟩:∃x,x=h.id:=⟨_,rfl⟩;obtain⟨tr,htr⟩:∃x,x=h.tr:=⟨_,rfl⟩;obtain⟨se,hse⟩:∃x,x=h.se:=⟨_,rfl⟩;rw[<-hch,<-hcm,<-hid,<-htr,<-hse] at BL;rw[<-hch,<-hcm,<-hfl,<-hid,<-htr,<-hse] at FC;rw[<-hfl] at hfr hfa;have hst':IntKind.u32.wrap s=st:=hst.symm;have hstm:s%4294967296=st:=by rw[<-hst'];rfl
 clear e1 e2 hxs hys hcs hzs hza hfre hch hcm hfl hid htr hse k hst;cases za
 ·rw[if_neg (by decide)];go_enter Tryz.func25,Tryz.ntmps25;go_wp2_with(first
   | ((with_reducible refine sN 2 ?_);refine g0a rfl _ (.tmp 0) rfl cs rfl ?_;intro g w1 hg1 hg2 B1 L1;obtain⟨c0,c2,c4,c6,c8,c9⟩:=FC.out _ _ B1.out)
   | ((with_reducible refine sN 4 ?_);refine a0a rfl _ rfl zs _ ZH ?_;intro g0 w2 hg3 hg4 Z2 L2;have B2:=hI (B1.out.over L2.out);have M2:=hI (step L1.out L2.out);obtain⟨d0,d2,d4,d6,d8,d9⟩:=FC.out _ _ B2.out)
   | ((with_reducible refine sN 22 ?_);refine k0a rfl _ _ rfl xs (by refine Eq.trans (congrArg (Tryz.prog.built 28) ?_) BL;kernel_rfl) ?_)
   | ((with_reducible refine sN 5 ?_);refine a0a rfl _ rfl zs _ ZH ?_;intro g5 w3 hg5 hg6 X3 L3;have Z3:=hI (Z2.out.over L3.out);have B3:=hI (B2.out.over L3.out);have M3:=hI (step M2.out L3.out);have hgw:=L1.out.size)
   | ((with_reducible refine sT 5 ?_);refine b0a rfl _ (.tmp 5) (.tmp 22) rfl g5 rfl _ zs xs rfl X3 26 L0a HZ HX HXO ?_;intro w4 X4 O4 hg7;have Z4:=hI (Z3.out.only O4.out (by have:=Z2.out.lt;omega));have B4:=hI (B3.out.only O4.out (by have:=B2.out.lt;omega));obtain⟨k0,k2,k4,k6,k8,k9⟩:=FC.out _ _ B4.out;have M4:=hI (c0a M3.out O4.out (by have:=L2.out.size;omega)))
   | ((with_reducible refine sN 28 ?_);refine f0a rfl _ (.tmp 5) rfl g5 rfl _ xs X4 26 _ Tryz.underlying28 rfl L0a HX ?_)
   | ((with_reducible refine sT 4 ?_);refine b0a rfl _ (.tmp 4) (.tmp 28) rfl g0 rfl _ zs xs rfl Z4 26 L0a HZ HX HXO ?_;intro w5 X5 O5 hg8;clear c0 c2 c4 c6 c8 c9 d0 d2 d4 d6 d8 d9 k0 k2 k4 k6 k8 k9 hfr hfa hst' hstm FC)
   | fail)
  refine bodyPost_ret (v:=.agg xs.toArray) ?_ rfl ⟨rfl,c0a M4.out O5.out (by omega)⟩;exact results_cell_row rfl _ _ g0 _ _ (0,0) _ rfl X5.out Tryz.underlying28 rfl (by rw[L0a];have:=HX.out;simp[this])
 ·rw[if_pos rfl];go_enter Tryz.func25,Tryz.ntmps25;go_wp2_with(first
   | ((with_reducible refine sN 2 ?_);refine g0a rfl _ (.tmp 0) rfl cs rfl ?_;intro g w1 hg1 hg2 B1 L1;obtain⟨c0,c2,c4,c6,c8,c9⟩:=FC.out _ _ B1.out)
   | ((with_reducible refine sN 4 ?_);refine a0a rfl _ rfl zs _ ZH ?_;intro g0 w2 hg3 hg4 Z2 L2;have B2:=hI (B1.out.over L2.out);have M2:=hI (step L1.out L2.out);obtain⟨d0,d2,d4,d6,d8,d9⟩:=FC.out _ _ B2.out)
   | ((with_reducible refine sN 22 ?_);refine k0a rfl _ _ rfl xs (by refine Eq.trans (congrArg (Tryz.prog.built 28) ?_) BL;kernel_rfl) ?_)
   | ((with_reducible refine sN 5 ?_);refine a0a rfl _ rfl zs _ ZH ?_;intro g5 w3 hg5 hg6 X3 L3;have Z3:=hI (Z2.out.over L3.out);have B3:=hI (B2.out.over L3.out);have M3:=hI (step M2.out L3.out);have hgw:=L1.out.size)
   | ((with_reducible refine sT 5 ?_);refine b0a rfl _ (.tmp 5) (.tmp 22) rfl g5 rfl _ zs xs rfl X3 26 L0a HZ HX HXO ?_;intro w4 X4 O4 hg7;have Z4:=hI (Z3.out.only O4.out (by have:=Z2.out.lt;omega));have B4:=hI (B3.out.only O4.out (by have:=B2.out.lt;omega));obtain⟨k0,k2,k4,k6,k8,k9⟩:=FC.out _ _ B4.out;have M4:=hI (c0a M3.out O4.out (by have:=L2.out.size;omega)))
   | ((with_reducible refine sT 27 ?_);refine d0a rfl _ (.tmp 27) _ rfl g5 8 rfl _ xs (.int .u32 0) rfl X4 (hI (by have:=HX.out;omega)) (by kernel_rfl) rfl ?_;intro w6 X6 O6 hg9;rw[HS.out] at X6;have Z6:=hI (Z4.out.only O6.out (by have:=Z2.out.lt;omega));have M6:=hI (c0a M4.out O6.out (by have:=L2.out.size;omega)))
   | ((with_reducible refine sN 28 ?_);refine f0a rfl _ (.tmp 5) rfl g5 rfl _ ys X6 26 _ Tryz.underlying28 rfl L0a HY ?_)
   | ((with_reducible refine sT 4 ?_);refine b0a rfl _ (.tmp 4) (.tmp 28) rfl g0 rfl _ zs ys rfl Z6 26 L0a HZ HY HYO ?_;intro w5 X5 O5 hg8;clear c0 c2 c4 c6 c8 c9 d0 d2 d4 d6 d8 d9 k0 k2 k4 k6 k8 k9 hfr hfa hst' hstm FC)
   | fail)
  refine bodyPost_ret (v:=.agg ys.toArray) ?_ rfl ⟨rfl,c0a M6.out O5.out (by omega)⟩;exact results_cell_row rfl _ _ g0 _ _ (0,0) _ rfl X5.out Tryz.underlying28 rfl (by rw[L0a];have:=HY.out;simp[this])
def R8b(m:y9a):Prop:=(m.a.dial.length<=281474976710656/\m.a.data.length<=281474976710656/\m.a.locks.length<=281474976710656)/\m.s.data.length<=281474976710656/\m.s.ents.length<=281474976710656
theorem E3b(w:World)(cs ds:List Value)(a b:y9a)(ka:a.ok)(kb:b.ok)(ha:W5a w w.heap.size cs a)(hb:W5a w w.heap.size ds b)(la:R8b a)(lb:R8b b) :
  Calls Tryz.prog 15 #[.agg cs.toArray,.agg ds.toArray] w λe w'=>e=.returned (.bool (decide (a.h=b.h)&&(decide (a.a=b.a)&&decide (a.s=b.s))))/\Below w.heap.size w w':=by
 have HLA:=hI (ha.len ka);have HLB:=hI (hb.len kb);obtain⟨ac,sc,rfl,ha1,ha2⟩:=ha;obtain⟨bc,tc,rfl,hb1,hb2⟩:=hb;have N1:=hI (O0a ka.h);have N2:=hI (O0a kb.h);have N3:=hI (ha1.len ka.a);have N4:=hI (hb1.len kb.a);have N5:=hI (ha2.len ka.s);have N6:=hI (hb2.len kb.s);have q0:∀w:World,(Op.equalIn 10000 28 (.agg (q0a a.h).toArray) (.agg (q0a b.h).toArray)).run Tryz.prog w=.ok (decide (a.h=b.h)) w:=λw=>b7a a.h b.h ka.h kb.h w
 have qg:=W4b;have CA:Hid (∀w':World,Below w.heap.size w w'->Calls Tryz.prog 38 #[.agg ac.toArray,.agg bc.toArray] w' λe w2=>e=.returned (.bool (decide (a.a=b.a)))/\Below w'.heap.size w' w2):=λw' h=>B8b w' ac bc a.a b.a ka.a kb.a (ha1.over h) (hb1.over h) la.1 lb.1
 have CS:Hid (∀w':World,Below w.heap.size w w'->Calls Tryz.prog 39 #[.agg sc.toArray,.agg tc.toArray] w' λe w2=>e=.returned (.bool (decide (a.s=b.s)))/\Below w'.heap.size w' w2):=λw' h=>C8b w' sc tc a.s b.s ka.s kb.s (ha2.over h) (hb2.over h) la.2 lb.2
 have RA1:Hid (∀(w:World) g T,Blk w g T (q0a a.h++(ac++sc))->w.rangeAt g 0 (q0a a.h)):=λw g T b=>M0b b
 have RA2:Hid (∀(w:World) g T,Blk w g T (q0a a.h++(ac++sc))->w.rangeAt g 26 ac):=λw g T b=>x7a b N1.out
 have RA3:Hid (∀(w:World) g T,Blk w g T (q0a a.h++(ac++sc))->w.rangeAt g 95 sc):=λw g T b=>y7a b N1.out N3.out
 have RB1:Hid (∀(w:World) g T,Blk w g T (q0a b.h++(bc++tc))->w.rangeAt g 0 (q0a b.h)):=λw g T b=>M0b b
 have RB2:Hid (∀(w:World) g T,Blk w g T (q0a b.h++(bc++tc))->w.rangeAt g 26 bc):=λw g T b=>x7a b N2.out
 have RB3:Hid (∀(w:World) g T,Blk w g T (q0a b.h++(bc++tc))->w.rangeAt g 95 tc):=λw g T b=>y7a b N2.out N4.out
 have F1:∀(g:Nat) (w:World),(Instr.fieldAt 41 (.pointer (some ⟨g,0,none⟩)) 1).run Tryz.prog w=.ok (.pointer (some ⟨g,26,none⟩)) w:=λg w=>by go_simp
 have F2:∀(g:Nat) (w:World),(Instr.fieldAt 41 (.pointer (some ⟨g,0,none⟩)) 2).run Tryz.prog w=.ok (.pointer (some ⟨g,95,none⟩)) w:=λg w=>by go_simp
 obtain⟨z1,hz1⟩:∃x,x=decide (a.h=b.h):=⟨_,rfl⟩;obtain⟨z2,hz2⟩:∃x,x=decide (a.a=b.a):=⟨_,rfl⟩;obtain⟨z3,hz3⟩:∃x,x=decide (a.s=b.s):=⟨_,rfl⟩;rw[<-hz1] at q0⊢;rw[<-hz2] at CA⊢;rw[<-hz3] at CS⊢;obtain⟨ca,hca⟩:∃x,x=q0a a.h++(ac++sc):=⟨_,rfl⟩;rw[<-hca] at HLA RA1 RA2 RA3⊢;obtain⟨cb,hcb⟩:∃x,x=q0a b.h++(bc++tc):=⟨_,rfl⟩;rw[<-hcb] at HLB RB1 RB2 RB3⊢;obtain⟨hA,hhA⟩:∃x,x=q0a a.h:=⟨_,rfl⟩;rw[<-hhA] at q0 N1 RA1;obtain⟨hB,hhB⟩:∃x,x=q0a b.h:=⟨_,rfl⟩;rw[<-hhB] at q0 N2 RB1;clear hz1 hz2 hz3 hca hcb hhA hhB ha1 ha2 hb1 hb2 ka kb la lb;cases z1
 ·show Calls _ _ _ _ λe w'=>e=.returned (.bool false)/\_
  go_enter Tryz.func15,Tryz.ntmps15;go_wp2_with(first
   | ((with_reducible refine sN 2 ?_);refine g0a rfl _ (.tmp 0) rfl ca rfl ?_;intro g w1 hg1 hg2 B1 L1)
   | ((with_reducible refine sN 3 ?_);refine g0a rfl _ (.tmp 1) rfl cb rfl ?_;intro g2 w2 hg3 hg4 D2 L2;have B2:=hI (B1.out.over L2.out);have M2:=hI (step L1.out L2.out))
   | ((with_reducible refine sN 6 ?_);refine u0a rfl _ (.tmp 5) rfl g 0 rfl hA _ (hI (RA1.out _ _ _ B2.out)) Tryz.underlying28 rfl 26 L0a N1 ?_)
   | ((with_reducible refine sN 8 ?_);refine u0a rfl _ (.tmp 7) rfl g2 0 rfl hB _ (hI (RB1.out _ _ _ D2.out)) Tryz.underlying28 rfl 26 L0a N2 ?_)
   | fail)
  go_ret;exact⟨rfl,M2.out⟩
 ·cases z2
  ·show Calls _ _ _ _ λe w'=>e=.returned (.bool false)/\_
   go_enter Tryz.func15,Tryz.ntmps15;go_wp2_with(first
    | ((with_reducible refine sN 2 ?_);refine g0a rfl _ (.tmp 0) rfl ca rfl ?_;intro g w1 hg1 hg2 B1 L1)
    | ((with_reducible refine sN 3 ?_);refine g0a rfl _ (.tmp 1) rfl cb rfl ?_;intro g2 w2 hg3 hg4 D2 L2;have B2:=hI (B1.out.over L2.out);have M2:=hI (step L1.out L2.out))
    | ((with_reducible refine sN 6 ?_);refine u0a rfl _ (.tmp 5) rfl g 0 rfl hA _ (hI (RA1.out _ _ _ B2.out)) Tryz.underlying28 rfl 26 L0a N1 ?_)
    | ((with_reducible refine sN 8 ?_);refine u0a rfl _ (.tmp 7) rfl g2 0 rfl hB _ (hI (RB1.out _ _ _ D2.out)) Tryz.underlying28 rfl 26 L0a N2 ?_)
    | ((with_reducible refine sN 11 ?_);refine V0a (by kernel_rfl) _ (.tmp 2) 1 rfl _ _ rfl (F1 g) ?_)
    | ((with_reducible refine sN 12 ?_);refine E0a (by kernel_rfl) _ (.tmp 11) rfl g 26 rfl ac _ (hI (RA2.out _ _ _ B2.out)) Tryz.underlying34 rfl 69 p0a N3 ?_)
    | ((with_reducible refine sN 13 ?_);refine V0a (by kernel_rfl) _ (.tmp 3) 1 rfl _ _ rfl (F1 g2) ?_)
    | ((with_reducible refine sN 14 ?_);refine E0a (by kernel_rfl) _ (.tmp 13) rfl g2 26 rfl bc _ (hI (RB2.out _ _ _ D2.out)) Tryz.underlying34 rfl 69 p0a N4 ?_)
    | fail)
   refine(CA.out w2 M2.out).mono ?_;rintro e w3 ⟨rfl,L3⟩;have B3:=hI (B2.out.over L3);have D3:=hI (D2.out.over L3);have M3:=hI (step M2.out L3);clear L3 CA B2 D2 M2 B1 L1 L2;go_wp2_with(first
    | fail)
   go_ret;exact⟨rfl,M3.out⟩
  ·show Calls _ _ _ _ λe w'=>e=.returned (.bool z3)/\_
   go_enter Tryz.func15,Tryz.ntmps15;go_wp2_with(first
    | ((with_reducible refine sN 2 ?_);refine g0a rfl _ (.tmp 0) rfl ca rfl ?_;intro g w1 hg1 hg2 B1 L1)
    | ((with_reducible refine sN 3 ?_);refine g0a rfl _ (.tmp 1) rfl cb rfl ?_;intro g2 w2 hg3 hg4 D2 L2;have B2:=hI (B1.out.over L2.out);have M2:=hI (step L1.out L2.out))
    | ((with_reducible refine sN 6 ?_);refine u0a rfl _ (.tmp 5) rfl g 0 rfl hA _ (hI (RA1.out _ _ _ B2.out)) Tryz.underlying28 rfl 26 L0a N1 ?_)
    | ((with_reducible refine sN 8 ?_);refine u0a rfl _ (.tmp 7) rfl g2 0 rfl hB _ (hI (RB1.out _ _ _ D2.out)) Tryz.underlying28 rfl 26 L0a N2 ?_)
    | ((with_reducible refine sN 11 ?_);refine V0a (by kernel_rfl) _ (.tmp 2) 1 rfl _ _ rfl (F1 g) ?_)
    | ((with_reducible refine sN 12 ?_);refine E0a (by kernel_rfl) _ (.tmp 11) rfl g 26 rfl ac _ (hI (RA2.out _ _ _ B2.out)) Tryz.underlying34 rfl 69 p0a N3 ?_)
    | ((with_reducible refine sN 13 ?_);refine V0a (by kernel_rfl) _ (.tmp 3) 1 rfl _ _ rfl (F1 g2) ?_)
    | ((with_reducible refine sN 14 ?_);refine E0a (by kernel_rfl) _ (.tmp 13) rfl g2 26 rfl bc _ (hI (RB2.out _ _ _ D2.out)) Tryz.underlying34 rfl 69 p0a N4 ?_)
    | fail)
   refine(CA.out w2 M2.out).mono ?_;rintro e w3 ⟨rfl,L3⟩;have B3:=hI (B2.out.over L3);have D3:=hI (D2.out.over L3);have M3:=hI (step M2.out L3);clear L3 CA B2 D2 M2 B1 L1 L2;go_wp2_with(first
    | ((with_reducible refine sN 18 ?_);refine V0a (by kernel_rfl) _ (.tmp 2) 2 rfl _ _ rfl (F2 g) ?_)
    | ((with_reducible refine sN 19 ?_);refine E0a (by kernel_rfl) _ (.tmp 18) rfl g 95 rfl sc _ (hI (RA3.out _ _ _ B3.out)) Tryz.underlying39 rfl 20 t0a N5 ?_)
    | ((with_reducible refine sN 20 ?_);refine V0a (by kernel_rfl) _ (.tmp 3) 2 rfl _ _ rfl (F2 g2) ?_)
    | ((with_reducible refine sN 21 ?_);refine E0a (by kernel_rfl) _ (.tmp 20) rfl g2 95 rfl tc _ (hI (RB3.out _ _ _ D3.out)) Tryz.underlying39 rfl 20 t0a N6 ?_)
    | fail)
   refine(CS.out w3 M3.out).mono ?_;rintro e w4 ⟨rfl,L4⟩;go_wp2_with fail;go_ret;exact⟨rfl,step M3.out L4⟩
theorem y9b{w:World}{ac:List Value}{a:z1a}(k:a.ok)(ha:j1a w w.heap.size ac a)(hu:a.user.size<=17592186044416/\a.share.size<=17592186044416)(hT:K7a w):m8b w 13 ac a:=by
 intro w' hb;show Calls Tryz.prog 103 _ _ λe w2=>∃v,e=.returned (.tuple #[v,.int .i64 (v1a 13 a)])/\s5a w2 w'.heap.size v (u3a 13 a)/\Below w'.heap.size w' w2
 exact D5a w' 13 ac a (by decide) k (ha.over hb) hu (hT.below hb)
theorem z9b{w:World}{sc:List Value}{s:W1a}(k:s.ok)(hs:w1a w w.heap.size sc s):n8b w 13 sc s:=by
 intro w' hb;show Calls Tryz.prog 105 _ _ λe w2=>∃v,e=.returned (.tuple #[v,.int .i64 (M1a 13 s)])/\s5a w2 w'.heap.size v (c4a 13 s)/\Below w'.heap.size w' w2
 exact E5a w' 13 sc s (by decide) k (hs.over hb)
theorem A9b{w:World}{A:Option Addr}{n c:Nat}{xs:List Int}(hx:Holds w w.heap.size A n c xs):r7b w 13 A n c xs:=by
 intro w' hb;show Calls Tryz.prog 104 _ _ λe w2=>∃cs,e=.returned (.tuple #[.agg cs.toArray,.int .i64 (a3a 13 xs)])/\GA w2 w'.heap.size cs (e2a 13 xs)/\Below w'.heap.size w' w2
 refine(x5b w' 13 A n c xs (by decide) (hx.over hb)).mono ?_;rintro e w2 ⟨vd,h1,h2,h3⟩;have hz:e2a 13 xs=j0a:=by
  unfold e2a;split
  ·unfold U6a;rw[if_neg (by decide),if_neg (by decide),if_neg (by decide)]
  ·rfl
 rw[hz] at h1 h2⊢;exact⟨_,h1,⟨h0a,h2,⟨.inl rfl,.inl rfl,.inl rfl⟩,.slice none 0 0,rfl,P0a.nil _ _ _ _⟩,h3⟩
def V2a:y9a:=⟨{ X1a with cm:=13,id:=1 },j0a,s0a⟩
def C7b:y9a:=⟨d5b { X1a with cm:=13,id:=1 } 15,j0a,s0a⟩
def I6a:List Int:=X0b V2a.h++[0,0,0,0]
theorem I5a:V2a.h.ok:=⟨by decide,by decide,by decide,by decide,by decide,by decide,by decide,by decide,by decide,by decide,by decide,Bytes.zeros 16⟩
theorem O9a:V2a.ok:=⟨I5a,h0a,G0a⟩
theorem E8b:C7b.ok:=⟨D4b I5a 15,h0a,G0a⟩
theorem B9b:z9a V2a=0/\g9b V2a=I6a/\g1b V2a=[0,0,0,0]:=by decide +kernel
theorem C9b:z9a C7b=0/\(g9b C7b).length=68/\g1b C7b=[0,0,0,0]:=by decide +kernel
theorem v0c:m2a I6a 0=0/\Y1a I6a 0=V2a.h/\u7a I6a=0:=by decide +kernel
theorem D9b:m2a (I6a++[0]) 0=0/\Y1a (I6a++[0]) 0=V2a.h/\u7a (I6a++[0])=5:=by decide +kernel
theorem E9b:(v7a I6a).h=V2a.h/\(v7a I6a).a=j0a/\(v7a I6a).s=s0a:=by decide +kernel
theorem F9b:I6a.length=68:=by decide +kernel
theorem V0b:Bytes I6a:=(v8a I5a.byte).append (Bytes.of_all (by decide))
theorem e5b(w:World)(hT:K7a w)(m:y9a)(k:m.ok)(ha:m.a=j0a)(hs:m.s=s0a)(h13:P5a m.h=13)(hb:g1b m=[0,0,0,0]) :
  Calls Tryz.prog 12 #[.agg (q0a m.h++(zac++zsc)).toArray] w (Q5a w m):=by
 refine N8b w m zac zsc k L8a M8a (B1a rfl rfl rfl) (F1a rfl rfl) (by rw[hb];exact Bytes.zeros 4) (by rw[hb];decide) ?_;intro w' g hbl B;refine J1b w' g m zac zsc k B (by rw[ha];exact h2a w' _) (by rw[hs];exact q2a w' _) (by rw[ha];decide) (hT.below hbl) (λ_=>?_) (λ_=>?_)
 ·rw[h13,ha];exact y9b h0a (h2a w' _) (by decide) (hT.below hbl)
 ·rw[h13,hs];exact z9b G0a (q2a w' _)
theorem f5b(w:World)(A:Option Addr)(n c:Nat)(xs:List Int)(hx:Holds w w.heap.size A n c xs)(hh:m2a xs 0=0->Y1a xs 0=V2a.h) :
  Calls Tryz.prog 18 #[.slice A n c] w (e7a w xs):=by
 refine O8b w A n c xs hx λh0=>?_
 rw[hh h0];intro w' g A' n' c' hb B hy;exact M1b w' g V2a.h zac zsc I5a B L8a M8a A' n' c' _ rfl (λ_=>A9b (hy.mono (Nat.le_of_lt B.lt))) (λh=>absurd h (by decide))
theorem F8b(w:World)(hT:K7a w):Calls Tryz.prog 12 #[.agg (q0a V2a.h++(zac++zsc)).toArray] w λe w'=>(∃A c,e=.returned (.tuple #[.slice A 68 c,.int .i64 0])/\Holds w' w'.heap.size A 68 c I6a)/\Below w.heap.size w w':=by
 have h:=e5b w hT V2a O9a rfl rfl (by decide) B9b.2.2;unfold Q5a at h;rw[B9b.1,B9b.2.1] at h;refine h.mono λe w' ⟨v,h1,h2,h3⟩=>?_
 obtain⟨A,c,rfl,hh⟩:=P0a.holds8 h2 V0b (by rw[F9b];decide);rw[F9b] at h1 hh;exact⟨⟨A,c,h1,hh⟩,h3⟩
theorem D7b(w:World)(hT:K7a w):Calls Tryz.prog 12 #[.agg (q0a (d5b V2a.h 15)++(zac++zsc)).toArray] w λe w'=>(∃A c,e=.returned (.tuple #[.slice A 68 c,.int .i64 0]))/\Below w.heap.size w w':=by
 have h:=e5b w hT C7b E8b rfl rfl (by decide) C9b.2.2;unfold Q5a at h;rw[C9b.1] at h;refine h.mono λe w' ⟨v,h1,h2,h3⟩=>?_
 obtain⟨A,c,rfl⟩:=h2.own8.len;rw[C9b.2.1] at h1;exact⟨⟨A,c,h1⟩,h3⟩
theorem G8b(w:World)(A:Option Addr)(c:Nat)(hx:Holds w w.heap.size A 68 c I6a):Calls Tryz.prog 18 #[.slice A 68 c] w λe w'=>(∃cs:List Value,e=.returned (.tuple #[.agg cs.toArray,.int .i64 0])/\W5a w' w'.heap.size cs V2a)/\Below w.heap.size w w':=by have h:=f5b w A 68 c _ hx (λ_=>v0c.2.1);unfold e7a at h;rw[v0c.2.2,E9b.1,E9b.2.1,E9b.2.2] at h;exact h.mono λe w' ⟨ac,sc,h1,h2,h3,h4⟩=>⟨⟨_,h1,ac,sc,rfl,h2.2.1,h3.2.1⟩,h4⟩
theorem E7b(w:World)(A:Option Addr)(c:Nat)(hx:Holds w w.heap.size A 69 c (I6a++[0])):Calls Tryz.prog 18 #[.slice A 69 c] w λe w'=>(∃cs:List Value,e=.returned (.tuple #[.agg cs.toArray,.int .i64 5])/\cs.length=115/\∀v∈cs,v.oneCell'=true)/\Below w.heap.size w w':=by
 have h:=f5b w A 69 c _ hx (λ_=>D9b.2.1);unfold e7a at h;rw[D9b.2.2] at h;refine h.mono λe w' ⟨ac,sc,h1,h2,h3,h4⟩=>⟨⟨_,h1,?_,?_⟩,h4⟩
 ·have hz:(v7a (I6a++[0])).h=X1a:=by unfold v7a;rw[D9b.2.2,if_neg (by decide)];rfl
  rw[hz];simp only[List.length_append,O0a g3a,h2.len,h3.len]
 ·intro v hv;rcases List.mem_append.1 hv with hv | hv
  ·exact p2a _ v hv
  ·rcases List.mem_append.1 hv with hv | hv
   ·exact h2.one v hv
   ·exact h3.one v hv
theorem G9b:Tryz.prog.built 28 [(2,.int .u16 13),(6,.int .u64 1)]=some (q0a V2a.h).toArray:=by kernel_rfl
theorem w0c:(q0a (d5b V2a.h 15))[1]? = some (.int .u32 15)/\(q0a (d5b V2a.h 15))[6]? = some (.int .u64 1):=by
 constructor
 ·show some (Value.int .u32 (IntKind.u32.wrap 15))=_
  rw[show IntKind.u32.wrap 15=15 by decide]
 ·rfl
theorem W5b(w:World)(hT:K7a w):Calls Tryz.prog 16 #[] w λe w'=>e=.returned (.bool true)/\Below w.heap.size w w':=by
 have HT:=hI hT;have C1:=hI F8b;have C2:=hI G8b;have C3:=hI E7b;have C4:=hI D7b;have CA:Hid (∀w':World,Calls Tryz.prog 25 #[hv V2a.h,.int .i64 15] w' λe w2=>e=.returned (hv (d5b V2a.h 15))/\Below w'.heap.size w' w2):=λw'=>V5b w' _ I5a 15 (by decide)
 have CS:Hid (∀(w':World) cs,W5a w' w'.heap.size cs V2a->Calls Tryz.prog 15 #[.agg cs.toArray,.agg (q0a V2a.h++(zac++zsc)).toArray] w' λe w2=>e=.returned (.bool true)/\Below w'.heap.size w' w2):=λw' cs h=>by have h1:=E3b w' cs (q0a V2a.h++(zac++zsc)) V2a V2a O9a O9a h ⟨zac,zsc,rfl,h2a w' _,q2a w' _⟩ ⟨by decide,by decide⟩ ⟨by decide,by decide⟩;simpa using h1
 have B1:=G9b;have B2:=Z6b Q6a (O0a I5a);have B3:=Z6b Q6a (O0a (D4b I5a 15));have N1:=hI (O0a I5a);have N2:=hI (O0a (D4b I5a 15));have O2:=hI (p2a (d5b V2a.h 15));have A1:=hI w0c.1;have A6:=hI w0c.2;have ZM:=hI v2b;have HZ:=hI X3a;have ZH:=hI D8a;have HZH:=hI (O0a g3a);have HLM:Hid (∀(w':World) cs,W5a w' w'.heap.size cs V2a->cs.length=115/\∀v∈cs,v.oneCell'=true):=λw' cs h=>⟨h.len O9a,h.one⟩
 have HM1:Hid ((q0a V2a.h++(zac++zsc)).length=115):=by
  show _=_
  simp only[List.length_append,N1.out,L8a,M8a]
 have HM2:Hid (∀v∈q0a V2a.h++(zac++zsc),v.oneCell'=true):=(show W5a w w.heap.size _ V2a from ⟨zac,zsc,rfl,h2a w _,q2a w _⟩).one;have RH:Hid (∀(w:World) g T,Blk w g T (q0a V2a.h++(zac++zsc))->w.rangeAt g 0 (q0a V2a.h)):=λw g T b=>M0b b
 change Tryz.prog.built _ _=some (q0a V2a.h++(zac++zsc)).toArray at B2
 change Tryz.prog.built _ _=some (q0a (d5b V2a.h 15)++(zac++zsc)).toArray at B3
 have HB:=hI V0b;have HBL:=hI F9b;unfold hv at CA;obtain⟨M1,hM1⟩:∃x,x=q0a V2a.h++(zac++zsc):=⟨_,rfl⟩;rw[<-hM1] at C1 CS B2 HM1 HM2 RH;obtain⟨M2,hM2⟩:∃x,x=q0a (d5b V2a.h 15)++(zac++zsc):=⟨_,rfl⟩;rw[<-hM2] at C4 B3;obtain⟨h1,hh1⟩:∃x,x=q0a V2a.h:=⟨_,rfl⟩;rw[<-hh1] at CA B1 B2 N1 RH;obtain⟨h2,hh2⟩:∃x,x=q0a (d5b V2a.h 15):=⟨_,rfl⟩;rw[<-hh2] at CA B3 N2 O2 A1 A6;obtain⟨bs,hbs⟩:∃x,x=I6a:=⟨_,rfl⟩;rw[<-hbs] at C1 C2 C3 HB HBL;obtain⟨em,hem⟩:∃x,x=V2a:=⟨_,rfl⟩;rw[<-hem] at C2 CS HLM;obtain⟨zm,hzm⟩:∃x,x=E1a:=⟨_,rfl⟩;rw[<-hzm] at ZM HZ;obtain⟨zh,hzh⟩:∃x,x=q0a X1a:=⟨_,rfl⟩;rw[<-hzh] at ZH HZH;clear hM1 hM2 hh1 hh2 hbs hem hzm hzh hT;go_enter Tryz.func16,Tryz.ntmps16;go_wp2_with(first
  | ((with_reducible refine sN 11 ?_);refine k0a rfl _ _ rfl h1 (by refine Eq.trans ?_ B1;kernel_rfl) ?_)
  | ((with_reducible refine sN 12 ?_);refine k0a rfl _ _ rfl M1 (by refine Eq.trans ?_ B2;kernel_rfl) ?_)
  | ((with_reducible refine sN 1 ?_);refine a0a rfl _ rfl zm _ ZM ?_;intro g1 w1 hg1 hg2 Z1 L1)
  | ((with_reducible refine sT 1 ?_);refine b0a rfl _ (.tmp 1) (.tmp 12) rfl g1 rfl _ zm M1 rfl Z1 115 i2a HZ HM1 HM2 ?_;intro w2 X2 P2 hg3;have M2':=hI (c0a L1.out P2.out hg1))
  | ((with_reducible refine sN 14 ?_);refine f0a rfl _ (.tmp 1) rfl g1 rfl _ M1 X2 115 _ Tryz.underlying41 rfl i2a HM1 ?_)
  | fail)
 refine(C1.out w2 (HT.out.below M2'.out)).mono ?_;rintro e w3 ⟨⟨A3,c3,rfl,hh3⟩,L3⟩;have H3:=hI hh3;have hc3:68<=c3:=hh3.fit;have hc4:(68:Int)<=(c3:Int):=by omega
 have X3:=hI (X2.out.over L3);have M3:=hI (step M2'.out L3);clear hh3 L3 C1 Z1 L1 P2 M2' X2;go_wp2_with fail;refine(C2.out w3 A3 c3 H3.out).mono ?_;rintro e w4 ⟨⟨cs,rfl,hcs⟩,L4⟩;have H4:=hI (H3.out.over L4);have X4:=hI (X3.out.over L4);have M4:=hI (step M3.out L4);have K4:=hI hcs;have KL:=hI (HLM.out _ _ hcs).1;have KO:=hI (HLM.out _ _ hcs).2;clear hcs L4 C2 H3 X3 M3;go_wp2_with(first
  | ((with_reducible refine sN 4 ?_);refine a0a rfl _ rfl zm _ ZM ?_;intro g5 w5 hg5 hg6 Z5 L5;have M5:=hI (step M4.out L5.out))
  | ((with_reducible refine sT 4 ?_);refine b0a rfl _ (.tmp 4) (.tmp 21) rfl g5 rfl _ zm cs rfl Z5 115 i2a HZ KL KO ?_;intro w6 X6 P6 hg7;have L6:=hI (c0a L5.out P6.out hg5);have M6:=hI (step M4.out L6.out);have H6:=hI (H4.out.over L6.out);have Y6:=hI (X4.out.over L6.out);have K6:=hI (K4.out.over L6.out))
  | ((with_reducible refine sN 30 ?_);refine q1a rfl _ _ 1 _ rfl Tryz.underlying31 ([.int .u8 0]:List Value) (by kernel_rfl) ?_;intro g7 w7 q3 q4 Y7 L7;have M7:=hI (step M6.out L7.out);have H7:=hI (H6.out.over L7.out);have X7:=hI (Y6.out.over L7.out);have K7:=hI (K6.out.over L7.out);have D7:=hI (X6.out.over L7.out);have HX7:Hid (Holds w7 w7.heap.size (some ⟨g7,0,none⟩) 1 1 [0]):=Holds.of_lit (xs:=[0]) Y7.out (Bytes.of_all (by decide)))
  | ((with_reducible refine sN 31 ?_);refine t8a rfl (.tmp 29) (.tmp 30) rfl w7.heap.size A3 68 c3 bs rfl H7.out w7.heap.size (some ⟨g7,0,none⟩) 1 1 [0] rfl HX7.out (by decide) (by decide) ?_;intro u8 w8 O8 L8)
  | fail)
 obtain⟨A8,c8,rfl,hh8⟩:=O8.out.holds (HB.out.append (Bytes.of_all (by decide))) (by rw[List.length_append,HBL.out];decide);rw[List.length_append,HBL.out] at hh8⊢;have H8:=hI hh8;have M8:=hI (step M7.out L8);have X8:=hI (X7.out.over L8);have K8:=hI (K7.out.over L8);have D8:=hI (D7.out.over L8);clear hh8 L8 O8 M7 X7 K7 D7 H7 HX7 Y7 L7 M6 H6 Y6 K6 L6 X6 P6 Z5 L5 M5 M4 H4 X4 K4;go_wp2_with fail;refine(C3.out w8 A8 c8 H8.out).mono ?_;rintro e w9 ⟨⟨ds,rfl,hd1,hd2⟩,L9⟩;have DL:=hI hd1;have DO:=hI hd2;have M9:=hI (step M8.out L9);have X9:=hI (X8.out.over L9);have K9:=hI (K8.out.over L9);have D9:=hI (D8.out.over L9);clear hd1 hd2 L9 M8 X8 K8 D8 H8 C3;go_wp2_with(first
  | ((with_reducible refine sN 6 ?_);refine a0a rfl _ rfl zm _ ZM ?_;intro g10 w10 hg10 hg11 Z10 L10)
  | ((with_reducible refine sT 6 ?_);refine b0a rfl _ (.tmp 6) (.tmp 33) rfl g10 rfl _ zm ds rfl Z10 115 i2a HZ DL DO ?_;intro w11 X11 P11 hg12;have L11:=hI (c0a L10.out P11.out hg10);have M11:=hI (step M9.out L11.out);have Y11:=hI (X9.out.over L11.out);have K11:=hI (K9.out.over L11.out);have D11:=hI (D9.out.over L11.out))
  | ((with_reducible refine sN 36 ?_);refine u0a rfl _ (.tmp 35) rfl g1 0 rfl h1 _ (hI (RH.out _ _ _ Y11.out)) Tryz.underlying28 rfl 26 L0a N1 ?_)
  | fail)
 refine(CA.out w11).mono ?_;rintro e w12 ⟨rfl,L12⟩;have M12:=hI (step M11.out L12);have Y12:=hI (Y11.out.over L12);have K12:=hI (K11.out.over L12);have D12:=hI (D11.out.over L12);clear L12 M11 Y11 K11 D11 L11 X11 P11 Z10 L10 M9 X9 K9 D9 CA;go_wp2_with(first
  | ((with_reducible refine sN 8 ?_);refine a0a rfl _ rfl zh _ ZH ?_;intro g13 w13 hg13 hg14 Z13 L13)
  | ((with_reducible refine sT 8 ?_);refine b0a rfl _ (.tmp 8) (.tmp 37) rfl g13 rfl _ zh h2 rfl Z13 26 L0a HZH N2 O2 ?_;intro w14 X14 P14 hg15;have L14:=hI (c0a L13.out P14.out hg13);have M14:=hI (step M12.out L14.out);have Y14:=hI (Y12.out.over L14.out);have K14:=hI (K12.out.over L14.out);have D14:=hI (D12.out.over L14.out))
  | ((with_reducible refine sN 39 ?_);refine f0a rfl _ (.tmp 8) rfl g13 rfl _ h2 X14 26 _ Tryz.underlying28 rfl L0a N2 ?_)
  | ((with_reducible refine sN 40 ?_);refine k0a rfl _ _ rfl M2 (by refine Eq.trans ?_ B3;kernel_rfl) ?_)
  | fail)
 refine(C4.out w14 (HT.out.below M14.out)).mono ?_;rintro e w15 ⟨⟨A15,c15,rfl⟩,L15⟩;have M15:=hI (step M14.out L15);have Y15:=hI (Y14.out.over L15);have K15:=hI (K14.out.over L15);have D15:=hI (D14.out.over L15);have X15:=hI (X14.out.over L15);clear L15 M14 Y14 K14 D14 X14 L14 P14 Z13 L13 M12 Y12 K12 D12 C4;go_wp2_with(first
  | ((with_reducible refine sN 56 ?_);refine r1a (by kernel_rfl) _ (.tmp 4) rfl g5 rfl _ cs D15 115 _ Tryz.underlying41 rfl i2a KL ?_)
  | ((with_reducible refine sN 57 ?_);refine r1a (by kernel_rfl) _ (.tmp 1) rfl g1 rfl _ M1 Y15 115 _ Tryz.underlying41 rfl i2a HM1 ?_)
  | fail)
 refine(CS.out w15 cs K15.out).mono ?_;rintro e w16 ⟨rfl,L16⟩;have M16:=hI (step M15.out L16);have d1:w16.cell? ⟨g13,1,none⟩=some (.int .u32 15):=(X15.out.over L16).at A1.out;have d2:w16.cell? ⟨g13,6,none⟩=some (.int .u64 1):=(X15.out.over L16).at A6.out;clear L16 M15 Y15 K15 D15 X15 CS;go_wp2;go_ret;exact⟨rfl,M16.out⟩
theorem H9b(c:Int){xs:List Int}(hx:Bytes xs):K9b (gao c xs):=by
 unfold gao;have z:(ByteArray.empty).size<=17592186044416:=by decide
 split
 ·have h1:=l4b c hx;refine⟨h1,?_,by rw[(z1b c xs).2];decide⟩;have hn:(e2a c xs).name=.empty/\(e2a c xs).pat=.empty/\(e2a c xs).aft=.empty:=by
   unfold e2a U6a;split
   ·split
    ·exact⟨rfl,rfl,rfl⟩
    ·split
     ·exact⟨rfl,rfl,rfl⟩
     ·split<;>exact⟨rfl,rfl,rfl⟩
   ·exact⟨rfl,rfl,rfl⟩
  rw[hn.1,hn.2.1,hn.2.2];exact⟨z,z,z⟩
 ·split
  ·obtain⟨_,_,h3,h4,h5,h6⟩:=H5b c hx;have hn:(x6a c xs).pat=.empty/\(x6a c xs).aft=.empty:=by
    unfold x6a fgP;split
    ·split
     ·exact⟨rfl,rfl⟩
     ·split
      ·exact⟨rfl,rfl⟩
      ·split
       ·exact⟨rfl,rfl⟩
       ·split<;>exact⟨rfl,rfl⟩
    ·exact⟨rfl,rfl⟩
   exact⟨⟨by omega,by omega⟩,⟨by omega,by rw[hn.1];exact z,by rw[hn.2];exact z⟩,by omega⟩
  ·obtain⟨_,_,h3,h4,h5,h6,h7,h8⟩:=N1b c hx;exact⟨⟨by omega,by omega⟩,⟨by omega,by omega,by omega⟩,by omega⟩
theorem I9b(c:Int){xs:List Int}(hx:Bytes xs):Q8b (gso c xs):=by
 unfold gso;split
 ·have h1:=(H8a c xs).2;unfold Q8b;rw[h1];exact⟨by decide,λ_ h=>by cases h⟩
 ·split
  ·have h1:=K4a (C1b c hx).2;unfold Q8b;rw[h1];exact⟨by decide,λ_ h=>by cases h⟩
  ·obtain⟨_,h2,h3⟩:=O1b c hx;exact⟨by omega,λe he=>by have:=h3 e he;omega⟩
theorem E4b{h:Hd}{xs:List Int}(hx:Bytes xs):Bytes (V5a h xs):=by
 unfold V5a;split
 ·exact hx
 ·exact hx.take _
theorem H8b{xs:List Int}(hx:Bytes xs):K9b (v7a xs).a/\Q8b (v7a xs).s:=by
 have za:K9b j0a:=⟨by decide,by decide,by decide⟩;have zs:Q8b s0a:=⟨by decide,λ_ h=>by cases h⟩;unfold v7a;split
 ·show K9b (gbA _ _)/\Q8b (gbS _ _)
  have hy:=E4b (h:=Y1a xs 0) (hx.drop 64);unfold gbA gbS;split
  ·exact⟨za,I9b _ hy⟩
  ·exact⟨H9b _ hy,zs⟩
 ·exact⟨za,zs⟩
theorem J9b{xs:List Int}(h:¬u7a xs=0):v7a xs=l4a:=by unfold v7a;rw[if_neg h]
theorem P8a:l4a.ok:=⟨g3a,h0a,G0a⟩
theorem walk_MsgOnce(W:World)(hT:K7a W)(A0:Option Addr)(n0 c0:Nat)(z0:List Int)(l0:n0<=c0)(r0:c0<=140737488351232)(h0:Holds W W.heap.size A0 c0 c0 z0) :
  Calls Tryz.prog 8 #[.slice A0 n0 c0] W λe W'=>e=.returned (.bool true)/\Below W.heap.size W W':=by
 have HT:=hI hT;have h:=h0.head l0;obtain⟨xs,hxs⟩:∃xs,xs=z0.take n0:=⟨_,rfl⟩;rw[<-hxs] at h;have HX:=hI h;have hby:=h.byte;have CG:=hI (A8b W A0 n0 c0 xs h);unfold e7a at CG;have CL:Hid (∀w:World,Below W.heap.size W w->Calls Tryz.prog 16 #[] w λe w'=>e=.returned (.bool true)/\Below w.heap.size w w'):=λw hb=>W5b w (hT.below hb)
 have ZM:=hI v2b;have HZ:=hI X3a;have BZ:=H1b;obtain⟨fa,fs⟩:=H8b hby;by_cases he:u7a xs=0
 ·obtain⟨p1,p2,p3⟩:=t8b hby he;have CP:Hid (∀(w:World) cs,W5a w w.heap.size cs (v7a xs)->Below W.heap.size W w->Calls Tryz.prog 12 #[.agg cs.toArray] w λe w'=>∃v,e=.returned (.tuple #[v,.int .i64 0])/\s5a w' w.heap.size v xs/\Below w.heap.size w w'):=λw cs hm hb=>by have h1:=u8b w (v7a xs) cs p3 hm fa fs (hT.below hb);unfold Q5a at h1;rw[p1,p2] at h1;exact h1
  have HM:Hid (∀(w:World) lo ac sc,GA w lo ac (v7a xs).a->GS w lo sc (v7a xs).s->W5a w w.heap.size (q0a (v7a xs).h++(ac++sc)) (v7a xs)/\(q0a (v7a xs).h++(ac++sc)).length=115/\∀v∈q0a (v7a xs).h++(ac++sc),v.oneCell'=true):=λw lo ac sc ha hs=>by have hm:W5a w w.heap.size (q0a (v7a xs).h++(ac++sc)) (v7a xs):=⟨ac,sc,rfl,ha.2.1,hs.2.1⟩;exact⟨hm,hm.len p3,hm.one⟩
  have CS:Hid (∀(w:World) (A A':Option Addr) (n c n' c':Nat),Holds w w.heap.size A n c xs->Holds w w.heap.size A' n' c' xs->Calls Tryz.prog 14 #[.slice A n c,.slice A' n' c'] w λe w'=>e=.returned (.bool true)/\∃k,w.drewN k=w'):=λw A A' n c n' c' h1 h2=>by
   have h3:=g2b w _ _ _ _ _ _ _ _ xs xs h1 h2
   rwa [decide_eq_true rfl] at h3
  have hln:=h.len;have hrm:=h.room;rw[he] at CG;obtain⟨mm,hmm⟩:∃x,x=v7a xs:=⟨_,rfl⟩;rw[<-hmm] at CG CP HM;obtain⟨zm,hzm⟩:∃x,x=E1a:=⟨_,rfl⟩;rw[<-hzm] at ZM HZ BZ;have HB:=hI hby;clear he p1 p2 p3 fa fs hmm hzm hT h hxs h0 r0 hby;go_enter Tryz.func8,Tryz.ntmps8;go_wp2_with fail;refine CG.out.mono ?_;rintro e w1 ⟨ac,sc,rfl,ha,hs,L1⟩;obtain⟨hm1,hm2,hm3⟩:=HM.out w1 _ ac sc ha hs;obtain⟨cs,hcs⟩:∃x,x=q0a mm.h++(ac++sc):=⟨_,rfl⟩;rw[<-hcs] at hm1 hm2 hm3⊢;have HM1:=hI hm1;have HM2:=hI hm2;have HM3:=hI hm3;have M1:=hI L1;clear ha hs L1 hm1 hm2 hm3 hcs CG HM;go_wp2_with(first
   | ((with_reducible refine sN 3 ?_);refine a0a rfl _ rfl zm _ ZM ?_;intro g w2 hg1 hg2 Z2 L2)
   | ((with_reducible refine sT 3 ?_);refine b0a rfl _ (.tmp 3) (.tmp 10) rfl g rfl _ zm cs rfl Z2 115 i2a HZ HM2 HM3 ?_;intro w3 X3 O3 hg3;have L3:=hI (c0a L2.out O3.out hg1);have M3:=hI (step M1.out L3.out);have K3:=hI (HM1.out.over L3.out))
   | ((with_reducible refine sN 21 ?_);refine f0a rfl _ (.tmp 3) rfl g rfl _ cs X3 115 _ Tryz.underlying41 rfl i2a HM2 ?_)
   | fail)
  refine(CP.out w3 cs K3.out M3.out).mono ?_;rintro e w4 ⟨v,rfl,ho,L4⟩;have M4:=hI (step M3.out L4);obtain⟨A5,c5,rfl,hh5⟩:=P0a.holds8 ho HB.out (by omega);have H5:=hI hh5;rw[hln] at H5⊢;clear hh5 ho L4 X3 O3 L3 Z2 L2 K3 CP;go_wp2_with fail;refine(CS.out w4 A5 A0 n0 c5 n0 c0 H5.out (HX.out.over M4.out)).mono ?_;rintro e w5 ⟨rfl,kk,rfl⟩;have M5:=hI (below_drewN M4.out kk);go_wp2_with fail;refine(CL.out _ M5.out).mono ?_;rintro e w6 ⟨rfl,L6⟩;go_wp2;go_ret;exact⟨rfl,step M5.out L6⟩
 ·have hne:(u7a xs != 0)=true:=by simpa using he
  rw[J9b he] at CG;have CS:Hid (∀(w:World) ac sc,GA w W.heap.size ac j0a->GS w W.heap.size sc s0a->Calls Tryz.prog 15 #[.agg (q0a l4a.h++(ac++sc)).toArray,.agg E1a.toArray] w λe w'=>e=.returned (.bool true)/\Below w.heap.size w w'):=λw ac sc ha hs=>by have h1:=E3b w (q0a l4a.h++(ac++sc)) E1a l4a l4a P8a P8a ⟨ac,sc,rfl,ha.2.1,hs.2.1⟩ ⟨_,_,rfl,h2a w _,q2a w _⟩ ⟨by decide,by decide⟩ ⟨by decide,by decide⟩;simpa using h1
  have HM:Hid (∀(w:World) lo ac sc,GA w lo ac j0a->GS w lo sc s0a->(q0a l4a.h++(ac++sc)).length=115/\∀v∈q0a l4a.h++(ac++sc),v.oneCell'=true):=λw lo ac sc ha hs=>by have hm:W5a w w.heap.size (q0a l4a.h++(ac++sc)) l4a:=⟨ac,sc,rfl,ha.2.1,hs.2.1⟩;exact⟨hm.len P8a,hm.one⟩
  obtain⟨er,her⟩:∃x,x=u7a xs:=⟨_,rfl⟩;rw[<-her] at CG hne;obtain⟨zm,hzm⟩:∃x,x=E1a:=⟨_,rfl⟩;rw[<-hzm] at ZM HZ BZ CS;obtain⟨zh,hzh⟩:∃x,x=q0a l4a.h:=⟨_,rfl⟩;rw[<-hzh] at CG CS HM;change Hid (Calls _ _ _ _ λe w'=>∃ac sc,_/\GA w' W.heap.size ac j0a/\GS w' W.heap.size sc s0a/\_) at CG
  clear her he hzm hzh fa fs h hxs h0 r0 hby HX hT;go_enter Tryz.func8,Tryz.ntmps8;go_wp2_with fail;refine CG.out.mono ?_;rintro e w1 ⟨ac,sc,rfl,ha,hs,L1⟩;have HA:=hI ha;have HS:=hI hs;obtain⟨hm2,hm3⟩:=HM.out w1 _ ac sc ha hs;have HM2:=hI hm2;have HM3:=hI hm3;have M1:=hI L1;have CS2:Hid (∀w:World,Below w1.heap.size w1 w->Calls Tryz.prog 15 #[.agg (zh++(ac++sc)).toArray,.agg zm.toArray] w λe w'=>e=.returned (.bool true)/\Below w.heap.size w w'):=λw hb=>CS.out w ac sc (ha.over hb) (hs.over hb)
  obtain⟨cs,hcs⟩:∃x,x=zh++(ac++sc):=⟨_,rfl⟩;rw[<-hcs] at HM2 HM3 CS2⊢;clear ha hs L1 hm2 hm3 hcs CG HM CS HA HS;go_wp2_with(first
   | ((with_reducible refine sN 3 ?_);refine a0a rfl _ rfl zm _ ZM ?_;intro g w2 hg1 hg2 Z2 L2)
   | ((with_reducible refine sT 3 ?_);refine b0a rfl _ (.tmp 3) (.tmp 10) rfl g rfl _ zm cs rfl Z2 115 i2a HZ HM2 HM3 ?_;intro w3 X3 O3 hg3;have L3:=hI (c0a L2.out O3.out hg1);have M3:=hI (step M1.out L3.out))
   | ((with_reducible refine sN 14 ?_);refine f0a rfl _ (.tmp 3) rfl g rfl _ cs X3 115 _ Tryz.underlying41 rfl i2a HM2 ?_)
   | ((with_reducible refine sN 15 ?_);refine x0a rfl _ rfl zm BZ ?_)
   | fail)
  refine(CS2.out w3 L3.out).mono ?_;rintro e w4 ⟨rfl,L4⟩;have M4:=hI (step M3.out L4);go_wp2_with fail;refine(CL.out _ M4.out).mono ?_;rintro e w6 ⟨rfl,L6⟩;go_wp2;go_ret;exact⟨rfl,step M4.out L6⟩
end Go.Proofs.YtpodpmckdiijhaaGreatDoor
