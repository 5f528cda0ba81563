import Derived.Lib.LaidU8T
import Derived.Deep.DeepHandedRow
import Derived.Test.YtgfflnjggnadpaaGreatDoorZAG
import Derived.Test.YtgfflnjggnadpaaGreatDoorZAH
import Derived.Test.YtgfflnjggnadpaaGreatDoorS0
set_option linter.all false
set_option maxHeartbeats 8000000
set_option maxRecDepth 100000
namespace Go.Proofs.YtgfflnjggnadpaaGreatDoor
open Go.RowKit
set_option maxRecDepth 100000
theorem c6b:(Tryz.prog.info? 166).map (λi=>(i.zero,i.size))=some (some (.agg ([.slice none 0 0,.int .i64 0,.int .i64 0]:List Value).toArray),3):=by kernel_rfl
theorem F0b:(Tryz.prog.info? 166).map (·.size)=some 3:=by kernel_rfl
def c2a(w:World)(c:Int)(xs:List Int)(e:Ending)(w':World):Prop:=∃cs,e=.returned (.tuple #[.agg cs.toArray,.int .i64 (Y3a c xs)])/\f1a w' w'.heap.size cs (F6a c xs)/\cs[61]? = some (.slice none 0 0)/\Below w.heap.size w w'
theorem z5b(w:World)(c:Int)(A:Option Addr)(n k:Nat)(xs:List Int)(hc:0<=c/\c<=65535)(hx:Holds w w.heap.size A n k xs) :
  Calls Tryz.prog 89 #[.int .u16 c,.slice A n k] w (c2a w c xs):=by
 have hby:=hx.byte;have HX:=hI hx;have ZH:=hI H7a;have BZ:=B8a;have ZR:=hI c6b;have HZ:Hid ((j0a (.slice none 0 0) (.slice none 0 0) (.slice none 0 0) i0a).length=69):=I1a h0a;have HZ1:Hid (∀v∈j0a (.slice none 0 0) (.slice none 0 0) (.slice none 0 0) i0a,v.oneCell'=true):=(w2a w 0).one;have HZI:Hid (∀w':World,f1a w' w'.heap.size (j0a (.slice none 0 0) (.slice none 0 0) (.slice none 0 0) i0a) i0a):=λw'=>w2a w' _
 have HZD:Hid ((j0a (.slice none 0 0) (.slice none 0 0) (.slice none 0 0) i0a)[61]? = some (.slice none 0 0)):=rfl;have BR:Tryz.prog.built 166 [(0,.slice A n k)]=some ([.slice A n k,.int .i64 0,.int .i64 0]:List Value).toArray:=by kernel_rfl
 have HR0:Hid (([.slice none 0 0,.int .i64 0,.int .i64 0]:List Value).length=3):=rfl;have HR1:Hid (([.slice A n k,.int .i64 0,.int .i64 0]:List Value).length=3):=rfl;have HR2:Hid (∀v∈([.slice A n k,.int .i64 0,.int .i64 0]:List Value),v.oneCell'=true):=by intro v hv;simp only[List.mem_cons,List.not_mem_nil,or_false] at hv;rcases hv with rfl | rfl | rfl<;>rfl
 have HE:Hid (∀er,Y3a c xs=er->er≠0->∀e w',e=.returned (.tuple #[.agg (j0a (.slice none 0 0) (.slice none 0 0) (.slice none 0 0) i0a).toArray,.int .i64 er])->Below w.heap.size w w'->c2a w c xs e w'):=by intro er h1 h2 e w' he hb;unfold c2a F6a;rw[h1,if_neg h2];exact⟨_,he,HZI.out w',HZD.out,hb⟩
 obtain⟨zs,hzs⟩:∃zs,zs=j0a (.slice none 0 0) (.slice none 0 0) (.slice none 0 0) i0a:=⟨_,rfl⟩;have HZS:=hI hzs;rw[<-hzs] at ZH BZ HZ HZ1 HE;clear hzs HZI HZD;by_cases hk:Z7a c=true;rotate_left
 ·have HQ:=hI (HE.out 2 (by unfold Y3a;rw[if_neg hk]) (by decide));have hk':c≠12/\c≠14/\c≠16/\c≠17/\c≠18:=by refine⟨?_,?_,?_,?_,?_⟩<;>(rintro rfl;exact hk (by decide))
  obtain⟨h12,h14,h16,h17,h18⟩:=hk';have b12:(c==12)=false:=by simpa using h12
  have b14:(c==14)=false:=by simpa using h14
  have b16:(c==16)=false:=by simpa using h16
  have b17:(c==17)=false:=by simpa using h17
  have b18:(c==18)=false:=by simpa using h18
  clear hk HE hx h12 h14 h16 h17 h18;go_enter Tryz.func89,Tryz.ntmps89;go_wp2_with(first
   | ((with_reducible refine sN 4 ?_);refine a0a rfl _ rfl zs _ ZH ?_;intro h w1 hg1 hg2 Z1 L1)
   | ((with_reducible refine sN 6 ?_);refine a0a rfl _ rfl zs _ ZH ?_;intro a w2 hg3 hg4 K2 L02;have Z2:=hI (Z1.out.over L02.out);have L2:=hI (step L1.out L02.out);have hha:h≠a:=(by omega);have hwa:w.heap.size<=a:=(by have:=L1.out.size;omega);have hsz2:=L2.out.size)
   | ((with_reducible refine sN 10 ?_);refine k0a rfl _ _ rfl ([.slice A n k,.int .i64 0,.int .i64 0]:List Value) (by refine Eq.trans ?_ BR;kernel_rfl) ?_)
   | ((with_reducible refine sN 7 ?_);refine a0a rfl _ rfl ([.slice none 0 0,.int .i64 0,.int .i64 0]:List Value) _ ZR ?_;intro g w3 hg5 hg6 R3 L03;have K3:=hI (K2.out.over L03.out);have Z3:=hI (Z2.out.over L03.out);have L3:=hI (step L2.out L03.out);have hag:a≠g:=(by omega);have hhg:h≠g:=(by have:=Z2.out.lt;omega);have hwg:w.heap.size<=g:=(by omega))
   | ((with_reducible refine sT 7 ?_);refine b0a rfl _ (.tmp 7) (.tmp 10) rfl g rfl _ ([.slice none 0 0,.int .i64 0,.int .i64 0]:List Value) ([.slice A n k,.int .i64 0,.int .i64 0]:List Value) rfl R3 3 F0b HR0 HR1 HR2 ?_;intro w4 R4 O4 hg7;have K4:=hI (K3.out.only O4.out hag);have Z4:=hI (Z3.out.only O4.out hhg);have L4:=hI (c0a L3.out O4.out hwg))
   | ((with_reducible refine sN 12 ?_);refine x0a rfl _ rfl zs BZ ?_)
   | ((with_reducible refine sT 4 ?_);refine b0a rfl _ (.tmp 4) (.tmp 12) rfl h rfl _ zs zs rfl Z4 69 n0a HZ HZ HZ1 ?_;intro w10 K10 O10 hg10)
   | fail)
  refine bodyPost_ret (v:=.tuple #[.agg zs.toArray,.int .i64 2]) ?_ rfl (HQ.out _ _ rfl (c0a L4.out O10.out (by omega)));exact m0a rfl _ _ h _ _ (0,0) _ rfl K10.out Tryz.underlying34 rfl (by rw[n0a];have:=HZ.out;simp[this]) rfl
 go_enter Tryz.func89,Tryz.ntmps89;go_upto_if 13 with(first
  | ((with_reducible refine sN 4 ?_);refine a0a rfl _ rfl zs _ ZH ?_;intro h w1 hg1 hg2 Z1 L1)
  | ((with_reducible refine sN 6 ?_);refine a0a rfl _ rfl zs _ ZH ?_;intro a w2 hg3 hg4 K2 L02;have Z2:=hI (Z1.out.over L02.out);have L2:=hI (step L1.out L02.out);have hha:h≠a:=(by omega);have hwa:w.heap.size<=a:=(by have:=L1.out.size;omega);have hsz2:=L2.out.size)
  | ((with_reducible refine sN 10 ?_);refine k0a rfl _ _ rfl ([.slice A n k,.int .i64 0,.int .i64 0]:List Value) (by refine Eq.trans ?_ BR;kernel_rfl) ?_)
  | ((with_reducible refine sN 7 ?_);refine a0a rfl _ rfl ([.slice none 0 0,.int .i64 0,.int .i64 0]:List Value) _ ZR ?_;intro g w3 hg5 hg6 R3 L03;have K3:=hI (K2.out.over L03.out);have Z3:=hI (Z2.out.over L03.out);have L3:=hI (step L2.out L03.out);have hag:a≠g:=(by omega);have hhg:h≠g:=(by have:=Z2.out.lt;omega);have hwg:w.heap.size<=g:=(by omega))
  | ((with_reducible refine sT 7 ?_);refine b0a rfl _ (.tmp 7) (.tmp 10) rfl g rfl _ ([.slice none 0 0,.int .i64 0,.int .i64 0]:List Value) ([.slice A n k,.int .i64 0,.int .i64 0]:List Value) rfl R3 3 F0b HR0 HR1 HR2 ?_;intro w4 R4 O4 hg7;have K4:=hI (K3.out.only O4.out hag);have Z4:=hI (Z3.out.only O4.out hhg);have L4:=hI (c0a L3.out O4.out hwg))
  | fail)
 have P4:Hid (PI w4 g w.heap.size A n k xs rd0):=⟨Nat.zero_le _,hwg,R4.out,HX.out.below L4.out⟩;clear R3 L03 K2 K3 Z1 Z2 Z3 L02 L1 L2 L3 R4 O4 HX;rcases F4a hk with h12 | h14 | h16 | h17 | h18
 subst h12;have D1:Hid (∀(w':World) (g:Nat),w.heap.size<=w'.heap.size->PI w' g w.heap.size A n k xs rd0->Calls Tryz.prog 143 #[.pointer (some ⟨g,0,none⟩),.int .i64 4] w' λe w2=>e=.returned (.tuple #[])/\PI w2 g w.heap.size A n k xs (rdZ xs 4 rd0)/\Q0a g w' w2):=λw' g hs h=>H4a w' g _ A n k xs _ 4 h (by decide) hs
 have DE:Hid (∀(w':World) (g:Nat),PI w' g w.heap.size A n k xs (rdZ xs 4 rd0)->Calls Tryz.prog 148 #[.pointer (some ⟨g,0,none⟩)] w' λe w2=>e=.returned (.int .i64 (H0a xs (rdZ xs 4 rd0)))/\Q0a g w' w2):=λw' g h=>f3a w' g _ A n k xs _ h
 have hgp:igP 12 xs=(i0a,(rdZ xs 4 rd0)):=by unfold igP;rw[if_neg (by decide),if_neg (by decide),if_neg (by decide),if_neg (by decide)]
 have hge:Y3a 12 xs=H0a xs (rdZ xs 4 rd0):=by unfold Y3a;rw[if_pos hk,hgp]
 have HQ:Hid (∀(cs:List Value) (e:Ending) (w':World),H0a xs (rdZ xs 4 rd0)=0->e=.returned (.tuple #[.agg cs.toArray,.int .i64 0])->f1a w' w'.heap.size cs i0a->cs[61]? = some (.slice none 0 0)->Below w.heap.size w w'->c2a w 12 xs e w'):=by
  intro cs e w' h0 h1 h2 h3 h5;have ho:F6a 12 xs=i0a:=by unfold F6a;rw[hge,h0,if_pos rfl,hgp]
  unfold c2a;rw[hge,h0,ho];exact⟨cs,h1,h2,h3,h5⟩
 have HE':=hI (HE.out _ hge);obtain⟨er,her⟩:∃x,x=H0a xs (rdZ xs 4 rd0):=⟨_,rfl⟩;rw[<-her] at DE HQ HE';obtain⟨q1,hq1⟩:∃x,x=(rdZ xs 4 rd0):=⟨_,rfl⟩;rw[<-hq1] at D1 DE;clear HE hk hx her hge hgp hq1;go_wp2_with fail;refine(D1.out w4 g L4.out.size P4.out).mono ?_;rintro e wz ⟨rfl,hP,hS⟩;have Pz:=hI hP;have Zz:=hI (Z4.out.save hS hhg);have Kz:=hI (K4.out.save hS hag);have Lz:=hI (L4.out.trans (hS.below hwg L4.out.size));clear hP hS P4 Z4 K4 L4;go_wp2_with fail;obtain⟨CF,hCF⟩:∃x,x=zs:=⟨_,rfl⟩;have HLF:Hid (CF.length=69):=by rw[hCF];exact HZ.out
 have HCF:=hI hCF;rw[<-hCF] at Kz;clear hCF;have HEQ:Hid (CF=j0a (.slice none 0 0) (.slice none 0 0) (.slice none 0 0) i0a):=by
  show _=_
  rw[HCF.out,HZS.out]
 rotate_left;subst h14;have D1:Hid (∀(w':World) (g:Nat),w.heap.size<=w'.heap.size->PI w' g w.heap.size A n k xs rd0->Calls Tryz.prog 141 #[.pointer (some ⟨g,0,none⟩)] w' λe w2=>e=.returned (.int .u64 (l1 xs).1)/\PI w2 g w.heap.size A n k xs (l1 xs).2/\Q0a g w' w2):=λw' g hs h=>b3a w' g _ A n k xs _ hby h
 have D2:Hid (∀(w':World) (g:Nat),w.heap.size<=w'.heap.size->PI w' g w.heap.size A n k xs (l1 xs).2->Calls Tryz.prog 142 #[.pointer (some ⟨g,0,none⟩)] w' λe w2=>e=.returned (.int .u16 (l2 xs).1)/\PI w2 g w.heap.size A n k xs (l2 xs).2/\Q0a g w' w2):=λw' g hs h=>w7a w' g _ A n k xs _ hby h
 have D3:Hid (∀(w':World) (g:Nat),w.heap.size<=w'.heap.size->PI w' g w.heap.size A n k xs (l2 xs).2->Calls Tryz.prog 143 #[.pointer (some ⟨g,0,none⟩),.int .i64 2] w' λe w2=>e=.returned (.tuple #[])/\PI w2 g w.heap.size A n k xs (l3 xs)/\Q0a g w' w2):=λw' g hs h=>H4a w' g _ A n k xs _ 2 h (by decide) hs
 have D4:Hid (∀(w':World) (g:Nat),w.heap.size<=w'.heap.size->PI w' g w.heap.size A n k xs (l3 xs)->Calls Tryz.prog 144 #[.pointer (some ⟨g,0,none⟩)] w' λe w2=>e=.returned (.string ⟨(l4 xs).1.toArray⟩)/\PI w2 g w.heap.size A n k xs (l4 xs).2/\Q0a g w' w2):=λw' g hs h=>Q7a w' g _ A n k xs _ h hs
 have D5:Hid (∀(w':World) (g:Nat),w.heap.size<=w'.heap.size->PI w' g w.heap.size A n k xs (l4 xs).2->Calls Tryz.prog 144 #[.pointer (some ⟨g,0,none⟩)] w' λe w2=>e=.returned (.string ⟨(l5 xs).1.toArray⟩)/\PI w2 g w.heap.size A n k xs (l5 xs).2/\Q0a g w' w2):=λw' g hs h=>Q7a w' g _ A n k xs _ h hs
 have DE:Hid (∀(w':World) (g:Nat),PI w' g w.heap.size A n k xs (l5 xs).2->Calls Tryz.prog 148 #[.pointer (some ⟨g,0,none⟩)] w' λe w2=>e=.returned (.int .i64 (H0a xs (l5 xs).2))/\Q0a g w' w2):=λw' g h=>f3a w' g _ A n k xs _ h
 have hgp:igP 14 xs=({ i0a with file:=(l1 xs).1,most:=(l2 xs).1,pat:=⟨(l4 xs).1.toArray⟩,aft:=⟨(l5 xs).1.toArray⟩ },(l5 xs).2):=by unfold igP;rw[if_pos rfl]
 have hge:Y3a 14 xs=H0a xs (l5 xs).2:=by unfold Y3a;rw[if_pos hk,hgp]
 have HQ:Hid (∀(cs:List Value) (e:Ending) (w':World),H0a xs (l5 xs).2=0->e=.returned (.tuple #[.agg cs.toArray,.int .i64 0])->f1a w' w'.heap.size cs { i0a with file:=(l1 xs).1,most:=(l2 xs).1,pat:=⟨(l4 xs).1.toArray⟩,aft:=⟨(l5 xs).1.toArray⟩ }->cs[61]? = some (.slice none 0 0)->Below w.heap.size w w'->c2a w 14 xs e w'):=by
  intro cs e w' h0 h1 h2 h3 h5;have ho:F6a 14 xs={ i0a with file:=(l1 xs).1,most:=(l2 xs).1,pat:=⟨(l4 xs).1.toArray⟩,aft:=⟨(l5 xs).1.toArray⟩ }:=by unfold F6a;rw[hge,h0,if_pos rfl,hgp]
  unfold c2a;rw[hge,h0,ho];exact⟨cs,h1,h2,h3,h5⟩
 have HE':=hI (HE.out _ hge);obtain⟨er,her⟩:∃x,x=H0a xs (l5 xs).2:=⟨_,rfl⟩;rw[<-her] at DE HQ HE';obtain⟨q1,hq1⟩:∃x,x=(l1 xs):=⟨_,rfl⟩;rw[<-hq1] at D1 D2 HQ;obtain⟨q2,hq2⟩:∃x,x=(l2 xs):=⟨_,rfl⟩;rw[<-hq2] at D2 D3 HQ;obtain⟨q3,hq3⟩:∃x,x=(l3 xs):=⟨_,rfl⟩;rw[<-hq3] at D3 D4;obtain⟨q4,hq4⟩:∃x,x=(l4 xs):=⟨_,rfl⟩;rw[<-hq4] at D4 D5 HQ;obtain⟨q5,hq5⟩:∃x,x=(l5 xs):=⟨_,rfl⟩;rw[<-hq5] at D5 DE HQ;clear HE hk hx her hge hgp hq1 hq2 hq3 hq4 hq5;go_wp2_with fail;refine(D1.out w4 g L4.out.size P4.out).mono ?_;rintro e v1 ⟨rfl,hP,hS⟩;have Pc1:=hI hP;have Zc1:=hI (Z4.out.save hS hhg);have Kc1:=hI (K4.out.save hS hag);have Lc1:=hI (L4.out.trans (hS.below hwg L4.out.size));clear hP hS P4 Z4 K4 L4;go_wp2_with fail;refine(D2.out v1 g Lc1.out.size Pc1.out).mono ?_;rintro e v2 ⟨rfl,hP,hS⟩;have Pc2:=hI hP;have Zc2:=hI (Zc1.out.save hS hhg);have Kc2:=hI (Kc1.out.save hS hag);have Lc2:=hI (Lc1.out.trans (hS.below hwg Lc1.out.size));clear hP hS Pc1 Zc1 Kc1 Lc1;go_wp2_with(first
  | ((with_reducible refine sT 17 ?_);refine d0a rfl _ (.tmp 17) (.tmp 15) rfl a 57 rfl _ zs (.int .u64 q1.1) rfl Kc2 (hI (by have:=HZ.out;omega)) (by kernel_rfl) rfl ?_;intro x1 Ks1 Os1 hqs1;obtain⟨C1,hC1⟩:∃x,x=zs.set 57 (.int .u64 q1.1):=⟨_,rfl⟩;have HC1:=hI hC1;have HL1:Hid (C1.length=69):=(by rw[hC1,List.length_set];exact HZ.out);rw[<-hC1] at Ks1;have Zs1:=hI (Zc2.out.only Os1.out hha);have Ps1:=hI (Pc2.out.only Os1.out (Ne.symm hag) hwa);have Ls1:=hI (c0a Lc2.out Os1.out hwa);clear hC1)
  | ((with_reducible refine sT 18 ?_);refine d0a rfl _ (.tmp 18) (.tmp 16) rfl a 63 rfl _ C1 (.int .u16 q2.1) rfl Ks1 (hI (by have:=HL1.out;omega)) (by kernel_rfl) rfl ?_;intro x2 Ks2 Os2 hqs2;obtain⟨C2,hC2⟩:∃x,x=C1.set 63 (.int .u16 q2.1):=⟨_,rfl⟩;have HC2:=hI hC2;have HL2:Hid (C2.length=69):=(by rw[hC2,List.length_set];exact HL1.out);rw[<-hC2] at Ks2;have Zs2:=hI (Zs1.out.only Os2.out hha);have Ps2:=hI (Ps1.out.only Os2.out (Ne.symm hag) hwa);have Ls2:=hI (c0a Ls1.out Os2.out hwa);clear hC2)
  | fail)
 refine(D3.out x2 g Ls2.out.size Ps2.out).mono ?_;rintro e v3 ⟨rfl,hP,hS⟩;have Pc3:=hI hP;have Zc3:=hI (Zs2.out.save hS hhg);have Kc3:=hI (Ks2.out.save hS hag);have Lc3:=hI (Ls2.out.trans (hS.below hwg Ls2.out.size));clear hP hS Ps2 Zs2 Ks2 Ls2;go_wp2_with fail;refine(D4.out v3 g Lc3.out.size Pc3.out).mono ?_;rintro e v4 ⟨rfl,hP,hS⟩;have Pc4:=hI hP;have Zc4:=hI (Zc3.out.save hS hhg);have Kc4:=hI (Kc3.out.save hS hag);have Lc4:=hI (Lc3.out.trans (hS.below hwg Lc3.out.size));clear hP hS Pc3 Zc3 Kc3 Lc3;go_wp2_with fail;refine(D5.out v4 g Lc4.out.size Pc4.out).mono ?_;rintro e v5 ⟨rfl,hP,hS⟩;have Pc5:=hI hP;have Zc5:=hI (Zc4.out.save hS hhg);have Kc5:=hI (Kc4.out.save hS hag);have Lc5:=hI (Lc4.out.trans (hS.below hwg Lc4.out.size));clear hP hS Pc4 Zc4 Kc4 Lc4;go_wp2_with(first
  | ((with_reducible refine sT 22 ?_);refine d0a rfl _ (.tmp 22) (.tmp 20) rfl a 64 rfl _ C2 (.string ⟨q4.1.toArray⟩) rfl Kc5 (hI (by have:=HL2.out;omega)) (by kernel_rfl) rfl ?_;intro x3 Ks3 Os3 hqs3;obtain⟨C3,hC3⟩:∃x,x=C2.set 64 (.string ⟨q4.1.toArray⟩):=⟨_,rfl⟩;have HC3:=hI hC3;have HL3:Hid (C3.length=69):=(by rw[hC3,List.length_set];exact HL2.out);rw[<-hC3] at Ks3;have Zs3:=hI (Zc5.out.only Os3.out hha);have Ps3:=hI (Pc5.out.only Os3.out (Ne.symm hag) hwa);have Ls3:=hI (c0a Lc5.out Os3.out hwa);clear hC3)
  | ((with_reducible refine sT 23 ?_);refine d0a rfl _ (.tmp 23) (.tmp 21) rfl a 65 rfl _ C3 (.string ⟨q5.1.toArray⟩) rfl Ks3 (hI (by have:=HL3.out;omega)) (by kernel_rfl) rfl ?_;intro wz Kz Oz hqz;obtain⟨CF,hCF⟩:∃x,x=C3.set 65 (.string ⟨q5.1.toArray⟩):=⟨_,rfl⟩;have HCF:=hI hCF;have HLF:Hid (CF.length=69):=(by rw[hCF,List.length_set];exact HL3.out);rw[<-hCF] at Kz;have Zz:=hI (Zs3.out.only Oz.out hha);have Pz:=hI (Ps3.out.only Oz.out (Ne.symm hag) hwa);have Lz:=hI (c0a Ls3.out Oz.out hwa);clear hCF)
  | fail)
 have HEQ:Hid (CF=j0a (.slice none 0 0) (.slice none 0 0) (.slice none 0 0) { i0a with file:=q1.1,most:=q2.1,pat:=⟨q4.1.toArray⟩,aft:=⟨q5.1.toArray⟩ }):=by
  show _=_
  rw[HCF.out,HC3.out,HC2.out,HC1.out,HZS.out];rfl
 rotate_left;subst h16;have D1:Hid (∀(w':World) (g:Nat),w.heap.size<=w'.heap.size->PI w' g w.heap.size A n k xs rd0->Calls Tryz.prog 141 #[.pointer (some ⟨g,0,none⟩)] w' λe w2=>e=.returned (.int .u64 (l1 xs).1)/\PI w2 g w.heap.size A n k xs (l1 xs).2/\Q0a g w' w2):=λw' g hs h=>b3a w' g _ A n k xs _ hby h
 have DE:Hid (∀(w':World) (g:Nat),PI w' g w.heap.size A n k xs (l1 xs).2->Calls Tryz.prog 148 #[.pointer (some ⟨g,0,none⟩)] w' λe w2=>e=.returned (.int .i64 (H0a xs (l1 xs).2))/\Q0a g w' w2):=λw' g h=>f3a w' g _ A n k xs _ h
 have hgp:igP 16 xs=({ i0a with file:=(l1 xs).1 },(l1 xs).2):=by unfold igP;rw[if_neg (by decide),if_pos rfl]
 have hge:Y3a 16 xs=H0a xs (l1 xs).2:=by unfold Y3a;rw[if_pos hk,hgp]
 have HQ:Hid (∀(cs:List Value) (e:Ending) (w':World),H0a xs (l1 xs).2=0->e=.returned (.tuple #[.agg cs.toArray,.int .i64 0])->f1a w' w'.heap.size cs { i0a with file:=(l1 xs).1 }->cs[61]? = some (.slice none 0 0)->Below w.heap.size w w'->c2a w 16 xs e w'):=by
  intro cs e w' h0 h1 h2 h3 h5;have ho:F6a 16 xs={ i0a with file:=(l1 xs).1 }:=by unfold F6a;rw[hge,h0,if_pos rfl,hgp]
  unfold c2a;rw[hge,h0,ho];exact⟨cs,h1,h2,h3,h5⟩
 have HE':=hI (HE.out _ hge);obtain⟨er,her⟩:∃x,x=H0a xs (l1 xs).2:=⟨_,rfl⟩;rw[<-her] at DE HQ HE';obtain⟨q1,hq1⟩:∃x,x=(l1 xs):=⟨_,rfl⟩;rw[<-hq1] at D1 DE HQ;clear HE hk hx her hge hgp hq1;go_wp2_with fail;refine(D1.out w4 g L4.out.size P4.out).mono ?_;rintro e v1 ⟨rfl,hP,hS⟩;have Pc1:=hI hP;have Zc1:=hI (Z4.out.save hS hhg);have Kc1:=hI (K4.out.save hS hag);have Lc1:=hI (L4.out.trans (hS.below hwg L4.out.size));clear hP hS P4 Z4 K4 L4;go_wp2_with(first
  | ((with_reducible refine sT 27 ?_);refine d0a rfl _ (.tmp 27) (.tmp 26) rfl a 57 rfl _ zs (.int .u64 q1.1) rfl Kc1 (hI (by have:=HZ.out;omega)) (by kernel_rfl) rfl ?_;intro wz Kz Oz hqz;obtain⟨CF,hCF⟩:∃x,x=zs.set 57 (.int .u64 q1.1):=⟨_,rfl⟩;have HCF:=hI hCF;have HLF:Hid (CF.length=69):=(by rw[hCF,List.length_set];exact HZ.out);rw[<-hCF] at Kz;have Zz:=hI (Zc1.out.only Oz.out hha);have Pz:=hI (Pc1.out.only Oz.out (Ne.symm hag) hwa);have Lz:=hI (c0a Lc1.out Oz.out hwa);clear hCF)
  | fail)
 have HEQ:Hid (CF=j0a (.slice none 0 0) (.slice none 0 0) (.slice none 0 0) { i0a with file:=q1.1 }):=by
  show _=_
  rw[HCF.out,HZS.out];rfl
 rotate_left;subst h17;by_cases c1:(l2 xs).1=1;have D1:Hid (∀(w':World) (g:Nat),w.heap.size<=w'.heap.size->PI w' g w.heap.size A n k xs rd0->Calls Tryz.prog 141 #[.pointer (some ⟨g,0,none⟩)] w' λe w2=>e=.returned (.int .u64 (l1 xs).1)/\PI w2 g w.heap.size A n k xs (l1 xs).2/\Q0a g w' w2):=λw' g hs h=>b3a w' g _ A n k xs _ hby h
 have D2:Hid (∀(w':World) (g:Nat),w.heap.size<=w'.heap.size->PI w' g w.heap.size A n k xs (l1 xs).2->Calls Tryz.prog 142 #[.pointer (some ⟨g,0,none⟩)] w' λe w2=>e=.returned (.int .u16 (l2 xs).1)/\PI w2 g w.heap.size A n k xs (l2 xs).2/\Q0a g w' w2):=λw' g hs h=>w7a w' g _ A n k xs _ hby h
 have D3:Hid (∀(w':World) (g:Nat),w.heap.size<=w'.heap.size->PI w' g w.heap.size A n k xs (l2 xs).2->Calls Tryz.prog 141 #[.pointer (some ⟨g,0,none⟩)] w' λe w2=>e=.returned (.int .u64 (t3 xs).1)/\PI w2 g w.heap.size A n k xs (t3 xs).2/\Q0a g w' w2):=λw' g hs h=>b3a w' g _ A n k xs _ hby h
 have DE:Hid (∀(w':World) (g:Nat),PI w' g w.heap.size A n k xs (t3 xs).2->Calls Tryz.prog 148 #[.pointer (some ⟨g,0,none⟩)] w' λe w2=>e=.returned (.int .i64 (H0a xs (t3 xs).2))/\Q0a g w' w2):=λw' g h=>f3a w' g _ A n k xs _ h
 have hgp:igP 17 xs=({ i0a with file:=(l1 xs).1,cls:=(l2 xs).1,siz:=(t3 xs).1 },(t3 xs).2):=by unfold igP;rw[if_neg (by decide),if_neg (by decide),if_pos rfl,if_pos c1]
 have hge:Y3a 17 xs=H0a xs (t3 xs).2:=by unfold Y3a;rw[if_pos hk,hgp]
 have HQ:Hid (∀(cs:List Value) (e:Ending) (w':World),H0a xs (t3 xs).2=0->e=.returned (.tuple #[.agg cs.toArray,.int .i64 0])->f1a w' w'.heap.size cs { i0a with file:=(l1 xs).1,cls:=(l2 xs).1,siz:=(t3 xs).1 }->cs[61]? = some (.slice none 0 0)->Below w.heap.size w w'->c2a w 17 xs e w'):=by
  intro cs e w' h0 h1 h2 h3 h5;have ho:F6a 17 xs={ i0a with file:=(l1 xs).1,cls:=(l2 xs).1,siz:=(t3 xs).1 }:=by unfold F6a;rw[hge,h0,if_pos rfl,hgp]
  unfold c2a;rw[hge,h0,ho];exact⟨cs,h1,h2,h3,h5⟩
 have HE':=hI (HE.out _ hge);obtain⟨er,her⟩:∃x,x=H0a xs (t3 xs).2:=⟨_,rfl⟩;rw[<-her] at DE HQ HE';have cf1:((l2 xs).1==1)=true:=by simpa using c1
 clear c1;obtain⟨q1,hq1⟩:∃x,x=(l1 xs):=⟨_,rfl⟩;rw[<-hq1] at D1 D2 HQ;obtain⟨q2,hq2⟩:∃x,x=(l2 xs):=⟨_,rfl⟩;rw[<-hq2] at D2 D3 HQ cf1;obtain⟨q3,hq3⟩:∃x,x=(t3 xs):=⟨_,rfl⟩;rw[<-hq3] at D3 DE HQ;clear HE hk hx her hge hgp hq1 hq2 hq3;go_wp2_with fail;refine(D1.out w4 g L4.out.size P4.out).mono ?_;rintro e v1 ⟨rfl,hP,hS⟩;have Pc1:=hI hP;have Zc1:=hI (Z4.out.save hS hhg);have Kc1:=hI (K4.out.save hS hag);have Lc1:=hI (L4.out.trans (hS.below hwg L4.out.size));clear hP hS P4 Z4 K4 L4;go_wp2_with fail;refine(D2.out v1 g Lc1.out.size Pc1.out).mono ?_;rintro e v2 ⟨rfl,hP,hS⟩;have Pc2:=hI hP;have Zc2:=hI (Zc1.out.save hS hhg);have Kc2:=hI (Kc1.out.save hS hag);have Lc2:=hI (Lc1.out.trans (hS.below hwg Lc1.out.size));clear hP hS Pc1 Zc1 Kc1 Lc1;go_wp2_with(first
  | ((with_reducible refine sT 32 ?_);refine d0a rfl _ (.tmp 32) (.tmp 30) rfl a 57 rfl _ zs (.int .u64 q1.1) rfl Kc2 (hI (by have:=HZ.out;omega)) (by kernel_rfl) rfl ?_;intro x1 Ks1 Os1 hqs1;obtain⟨C1,hC1⟩:∃x,x=zs.set 57 (.int .u64 q1.1):=⟨_,rfl⟩;have HC1:=hI hC1;have HL1:Hid (C1.length=69):=(by rw[hC1,List.length_set];exact HZ.out);rw[<-hC1] at Ks1;have Zs1:=hI (Zc2.out.only Os1.out hha);have Ps1:=hI (Pc2.out.only Os1.out (Ne.symm hag) hwa);have Ls1:=hI (c0a Lc2.out Os1.out hwa);clear hC1)
  | ((with_reducible refine sT 33 ?_);refine d0a rfl _ (.tmp 33) (.tmp 31) rfl a 66 rfl _ C1 (.int .u16 q2.1) rfl Ks1 (hI (by have:=HL1.out;omega)) (by kernel_rfl) rfl ?_;intro x2 Ks2 Os2 hqs2;obtain⟨C2,hC2⟩:∃x,x=C1.set 66 (.int .u16 q2.1):=⟨_,rfl⟩;have HC2:=hI hC2;have HL2:Hid (C2.length=69):=(by rw[hC2,List.length_set];exact HL1.out);rw[<-hC2] at Ks2;have Zs2:=hI (Zs1.out.only Os2.out hha);have Ps2:=hI (Ps1.out.only Os2.out (Ne.symm hag) hwa);have Ls2:=hI (c0a Ls1.out Os2.out hwa);have hcl:x2.cell? ⟨a,66,none⟩=some (.int .u16 q2.1):=(Ks2.out.at (by rw[hC2];exact List.getElem?_set_self (by have:=HL1.out;omega)));clear hC2)
  | fail)
 refine(D3.out x2 g Ls2.out.size Ps2.out).mono ?_;rintro e v3 ⟨rfl,hP,hS⟩;have Pc3:=hI hP;have Zc3:=hI (Zs2.out.save hS hhg);have Kc3:=hI (Ks2.out.save hS hag);have Lc3:=hI (Ls2.out.trans (hS.below hwg Ls2.out.size));clear hP hS Ps2 Zs2 Ks2 Ls2;go_wp2_with(first
  | ((with_reducible refine sT 40 ?_);refine d0a rfl _ (.tmp 40) (.tmp 39) rfl a 67 rfl _ C2 (.int .u64 q3.1) rfl Kc3 (hI (by have:=HL2.out;omega)) (by kernel_rfl) rfl ?_;intro wz Kz Oz hqz;obtain⟨CF,hCF⟩:∃x,x=C2.set 67 (.int .u64 q3.1):=⟨_,rfl⟩;have HCF:=hI hCF;have HLF:Hid (CF.length=69):=(by rw[hCF,List.length_set];exact HL2.out);rw[<-hCF] at Kz;have Zz:=hI (Zc3.out.only Oz.out hha);have Pz:=hI (Pc3.out.only Oz.out (Ne.symm hag) hwa);have Lz:=hI (c0a Lc3.out Oz.out hwa);clear hCF)
  | fail)
 have HEQ:Hid (CF=j0a (.slice none 0 0) (.slice none 0 0) (.slice none 0 0) { i0a with file:=q1.1,cls:=q2.1,siz:=q3.1 }):=by
  show _=_
  rw[HCF.out,HC2.out,HC1.out,HZS.out];rfl
 rotate_left;by_cases c2:(l2 xs).1=2;have D1:Hid (∀(w':World) (g:Nat),w.heap.size<=w'.heap.size->PI w' g w.heap.size A n k xs rd0->Calls Tryz.prog 141 #[.pointer (some ⟨g,0,none⟩)] w' λe w2=>e=.returned (.int .u64 (l1 xs).1)/\PI w2 g w.heap.size A n k xs (l1 xs).2/\Q0a g w' w2):=λw' g hs h=>b3a w' g _ A n k xs _ hby h
 have D2:Hid (∀(w':World) (g:Nat),w.heap.size<=w'.heap.size->PI w' g w.heap.size A n k xs (l1 xs).2->Calls Tryz.prog 142 #[.pointer (some ⟨g,0,none⟩)] w' λe w2=>e=.returned (.int .u16 (l2 xs).1)/\PI w2 g w.heap.size A n k xs (l2 xs).2/\Q0a g w' w2):=λw' g hs h=>w7a w' g _ A n k xs _ hby h
 have D3:Hid (∀(w':World) (g:Nat),w.heap.size<=w'.heap.size->PI w' g w.heap.size A n k xs (l2 xs).2->Calls Tryz.prog 145 #[.pointer (some ⟨g,0,none⟩)] w' λe w2=>e=.returned (.bool ((t4 xs).1 != 0))/\PI w2 g w.heap.size A n k xs (t4 xs).2/\Q0a g w' w2):=λw' g hs h=>x6a w' g _ A n k xs _ hby h
 have DE:Hid (∀(w':World) (g:Nat),PI w' g w.heap.size A n k xs (t4 xs).2->Calls Tryz.prog 148 #[.pointer (some ⟨g,0,none⟩)] w' λe w2=>e=.returned (.int .i64 (H0a xs (t4 xs).2))/\Q0a g w' w2):=λw' g h=>f3a w' g _ A n k xs _ h
 have hgp:igP 17 xs=({ i0a with file:=(l1 xs).1,cls:=(l2 xs).1,on:=((t4 xs).1 != 0) },(t4 xs).2):=by unfold igP;rw[if_neg (by decide),if_neg (by decide),if_pos rfl,if_neg c1,if_pos c2]
 have hge:Y3a 17 xs=H0a xs (t4 xs).2:=by unfold Y3a;rw[if_pos hk,hgp]
 have HQ:Hid (∀(cs:List Value) (e:Ending) (w':World),H0a xs (t4 xs).2=0->e=.returned (.tuple #[.agg cs.toArray,.int .i64 0])->f1a w' w'.heap.size cs { i0a with file:=(l1 xs).1,cls:=(l2 xs).1,on:=((t4 xs).1 != 0) }->cs[61]? = some (.slice none 0 0)->Below w.heap.size w w'->c2a w 17 xs e w'):=by
  intro cs e w' h0 h1 h2 h3 h5;have ho:F6a 17 xs={ i0a with file:=(l1 xs).1,cls:=(l2 xs).1,on:=((t4 xs).1 != 0) }:=by unfold F6a;rw[hge,h0,if_pos rfl,hgp]
  unfold c2a;rw[hge,h0,ho];exact⟨cs,h1,h2,h3,h5⟩
 have HE':=hI (HE.out _ hge);obtain⟨er,her⟩:∃x,x=H0a xs (t4 xs).2:=⟨_,rfl⟩;rw[<-her] at DE HQ HE';have cf1:((l2 xs).1==1)=false:=by simpa using c1
 have cf2:((l2 xs).1==2)=true:=by simpa using c2
 clear c1 c2;obtain⟨q1,hq1⟩:∃x,x=(l1 xs):=⟨_,rfl⟩;rw[<-hq1] at D1 D2 HQ;obtain⟨q2,hq2⟩:∃x,x=(l2 xs):=⟨_,rfl⟩;rw[<-hq2] at D2 D3 HQ cf1 cf2;obtain⟨tb,htb⟩:∃x,x=((t4 xs).1 != 0):=⟨_,rfl⟩;rw[<-htb] at D3 HQ;obtain⟨q3,hq3⟩:∃x,x=(t4 xs).2:=⟨_,rfl⟩;rw[<-hq3] at D3 DE;clear HE hk hx her hge hgp hq1 hq2 htb hq3;go_wp2_with fail;refine(D1.out w4 g L4.out.size P4.out).mono ?_;rintro e v1 ⟨rfl,hP,hS⟩;have Pc1:=hI hP;have Zc1:=hI (Z4.out.save hS hhg);have Kc1:=hI (K4.out.save hS hag);have Lc1:=hI (L4.out.trans (hS.below hwg L4.out.size));clear hP hS P4 Z4 K4 L4;go_wp2_with fail;refine(D2.out v1 g Lc1.out.size Pc1.out).mono ?_;rintro e v2 ⟨rfl,hP,hS⟩;have Pc2:=hI hP;have Zc2:=hI (Zc1.out.save hS hhg);have Kc2:=hI (Kc1.out.save hS hag);have Lc2:=hI (Lc1.out.trans (hS.below hwg Lc1.out.size));clear hP hS Pc1 Zc1 Kc1 Lc1;go_wp2_with(first
  | ((with_reducible refine sT 32 ?_);refine d0a rfl _ (.tmp 32) (.tmp 30) rfl a 57 rfl _ zs (.int .u64 q1.1) rfl Kc2 (hI (by have:=HZ.out;omega)) (by kernel_rfl) rfl ?_;intro x1 Ks1 Os1 hqs1;obtain⟨C1,hC1⟩:∃x,x=zs.set 57 (.int .u64 q1.1):=⟨_,rfl⟩;have HC1:=hI hC1;have HL1:Hid (C1.length=69):=(by rw[hC1,List.length_set];exact HZ.out);rw[<-hC1] at Ks1;have Zs1:=hI (Zc2.out.only Os1.out hha);have Ps1:=hI (Pc2.out.only Os1.out (Ne.symm hag) hwa);have Ls1:=hI (c0a Lc2.out Os1.out hwa);clear hC1)
  | ((with_reducible refine sT 33 ?_);refine d0a rfl _ (.tmp 33) (.tmp 31) rfl a 66 rfl _ C1 (.int .u16 q2.1) rfl Ks1 (hI (by have:=HL1.out;omega)) (by kernel_rfl) rfl ?_;intro x2 Ks2 Os2 hqs2;obtain⟨C2,hC2⟩:∃x,x=C1.set 66 (.int .u16 q2.1):=⟨_,rfl⟩;have HC2:=hI hC2;have HL2:Hid (C2.length=69):=(by rw[hC2,List.length_set];exact HL1.out);rw[<-hC2] at Ks2;have Zs2:=hI (Zs1.out.only Os2.out hha);have Ps2:=hI (Ps1.out.only Os2.out (Ne.symm hag) hwa);have Ls2:=hI (c0a Ls1.out Os2.out hwa);have hcl:x2.cell? ⟨a,66,none⟩=some (.int .u16 q2.1):=(Ks2.out.at (by rw[hC2];exact List.getElem?_set_self (by have:=HL1.out;omega)));clear hC2)
  | fail)
 refine(D3.out x2 g Ls2.out.size Ps2.out).mono ?_;rintro e v3 ⟨rfl,hP,hS⟩;have Pc3:=hI hP;have Zc3:=hI (Zs2.out.save hS hhg);have Kc3:=hI (Ks2.out.save hS hag);have Lc3:=hI (Ls2.out.trans (hS.below hwg Ls2.out.size));clear hP hS Ps2 Zs2 Ks2 Ls2;go_wp2_with(first
  | ((with_reducible refine sT 44 ?_);refine d0a rfl _ (.tmp 44) (.tmp 43) rfl a 68 rfl _ C2 (.bool tb) rfl Kc3 (hI (by have:=HL2.out;omega)) (by kernel_rfl) rfl ?_;intro wz Kz Oz hqz;obtain⟨CF,hCF⟩:∃x,x=C2.set 68 (.bool tb):=⟨_,rfl⟩;have HCF:=hI hCF;have HLF:Hid (CF.length=69):=(by rw[hCF,List.length_set];exact HL2.out);rw[<-hCF] at Kz;have Zz:=hI (Zc3.out.only Oz.out hha);have Pz:=hI (Pc3.out.only Oz.out (Ne.symm hag) hwa);have Lz:=hI (c0a Lc3.out Oz.out hwa);clear hCF)
  | fail)
 have HEQ:Hid (CF=j0a (.slice none 0 0) (.slice none 0 0) (.slice none 0 0) { i0a with file:=q1.1,cls:=q2.1,on:=tb }):=by
  show _=_
  rw[HCF.out,HC2.out,HC1.out,HZS.out];rfl
 rotate_left;by_cases c3:(l2 xs).1=3;have D1:Hid (∀(w':World) (g:Nat),w.heap.size<=w'.heap.size->PI w' g w.heap.size A n k xs rd0->Calls Tryz.prog 141 #[.pointer (some ⟨g,0,none⟩)] w' λe w2=>e=.returned (.int .u64 (l1 xs).1)/\PI w2 g w.heap.size A n k xs (l1 xs).2/\Q0a g w' w2):=λw' g hs h=>b3a w' g _ A n k xs _ hby h
 have D2:Hid (∀(w':World) (g:Nat),w.heap.size<=w'.heap.size->PI w' g w.heap.size A n k xs (l1 xs).2->Calls Tryz.prog 142 #[.pointer (some ⟨g,0,none⟩)] w' λe w2=>e=.returned (.int .u16 (l2 xs).1)/\PI w2 g w.heap.size A n k xs (l2 xs).2/\Q0a g w' w2):=λw' g hs h=>w7a w' g _ A n k xs _ hby h
 have D3:Hid (∀(w':World) (g:Nat),w.heap.size<=w'.heap.size->PI w' g w.heap.size A n k xs (l2 xs).2->Calls Tryz.prog 145 #[.pointer (some ⟨g,0,none⟩)] w' λe w2=>e=.returned (.bool ((t4 xs).1 != 0))/\PI w2 g w.heap.size A n k xs (t4 xs).2/\Q0a g w' w2):=λw' g hs h=>x6a w' g _ A n k xs _ hby h
 have D4:Hid (∀(w':World) (g:Nat),w.heap.size<=w'.heap.size->PI w' g w.heap.size A n k xs (t4 xs).2->Calls Tryz.prog 144 #[.pointer (some ⟨g,0,none⟩)] w' λe w2=>e=.returned (.string ⟨(t5 xs).1.toArray⟩)/\PI w2 g w.heap.size A n k xs (t5 xs).2/\Q0a g w' w2):=λw' g hs h=>Q7a w' g _ A n k xs _ h hs
 have DE:Hid (∀(w':World) (g:Nat),PI w' g w.heap.size A n k xs (t5 xs).2->Calls Tryz.prog 148 #[.pointer (some ⟨g,0,none⟩)] w' λe w2=>e=.returned (.int .i64 (H0a xs (t5 xs).2))/\Q0a g w' w2):=λw' g h=>f3a w' g _ A n k xs _ h
 have hgp:igP 17 xs=({ i0a with file:=(l1 xs).1,cls:=(l2 xs).1,on:=((t4 xs).1 != 0),name:=⟨(t5 xs).1.toArray⟩ },(t5 xs).2):=by unfold igP;rw[if_neg (by decide),if_neg (by decide),if_pos rfl,if_neg c1,if_neg c2,if_pos c3]
 have hge:Y3a 17 xs=H0a xs (t5 xs).2:=by unfold Y3a;rw[if_pos hk,hgp]
 have HQ:Hid (∀(cs:List Value) (e:Ending) (w':World),H0a xs (t5 xs).2=0->e=.returned (.tuple #[.agg cs.toArray,.int .i64 0])->f1a w' w'.heap.size cs { i0a with file:=(l1 xs).1,cls:=(l2 xs).1,on:=((t4 xs).1 != 0),name:=⟨(t5 xs).1.toArray⟩ }->cs[61]? = some (.slice none 0 0)->Below w.heap.size w w'->c2a w 17 xs e w'):=by
  intro cs e w' h0 h1 h2 h3 h5;have ho:F6a 17 xs={ i0a with file:=(l1 xs).1,cls:=(l2 xs).1,on:=((t4 xs).1 != 0),name:=⟨(t5 xs).1.toArray⟩ }:=by unfold F6a;rw[hge,h0,if_pos rfl,hgp]
  unfold c2a;rw[hge,h0,ho];exact⟨cs,h1,h2,h3,h5⟩
 have HE':=hI (HE.out _ hge);obtain⟨er,her⟩:∃x,x=H0a xs (t5 xs).2:=⟨_,rfl⟩;rw[<-her] at DE HQ HE';have cf1:((l2 xs).1==1)=false:=by simpa using c1
 have cf2:((l2 xs).1==2)=false:=by simpa using c2
 have cf3:((l2 xs).1==3)=true:=by simpa using c3
 clear c1 c2 c3;obtain⟨q1,hq1⟩:∃x,x=(l1 xs):=⟨_,rfl⟩;rw[<-hq1] at D1 D2 HQ;obtain⟨q2,hq2⟩:∃x,x=(l2 xs):=⟨_,rfl⟩;rw[<-hq2] at D2 D3 HQ cf1 cf2 cf3;obtain⟨tb,htb⟩:∃x,x=((t4 xs).1 != 0):=⟨_,rfl⟩;rw[<-htb] at D3 HQ;obtain⟨q3,hq3⟩:∃x,x=(t4 xs).2:=⟨_,rfl⟩;rw[<-hq3] at D3 D4;obtain⟨q4,hq4⟩:∃x,x=(t5 xs):=⟨_,rfl⟩;rw[<-hq4] at D4 DE HQ;clear HE hk hx her hge hgp hq1 hq2 htb hq3 hq4;go_wp2_with fail;refine(D1.out w4 g L4.out.size P4.out).mono ?_;rintro e v1 ⟨rfl,hP,hS⟩;have Pc1:=hI hP;have Zc1:=hI (Z4.out.save hS hhg);have Kc1:=hI (K4.out.save hS hag);have Lc1:=hI (L4.out.trans (hS.below hwg L4.out.size));clear hP hS P4 Z4 K4 L4;go_wp2_with fail;refine(D2.out v1 g Lc1.out.size Pc1.out).mono ?_;rintro e v2 ⟨rfl,hP,hS⟩;have Pc2:=hI hP;have Zc2:=hI (Zc1.out.save hS hhg);have Kc2:=hI (Kc1.out.save hS hag);have Lc2:=hI (Lc1.out.trans (hS.below hwg Lc1.out.size));clear hP hS Pc1 Zc1 Kc1 Lc1;go_wp2_with(first
  | ((with_reducible refine sT 32 ?_);refine d0a rfl _ (.tmp 32) (.tmp 30) rfl a 57 rfl _ zs (.int .u64 q1.1) rfl Kc2 (hI (by have:=HZ.out;omega)) (by kernel_rfl) rfl ?_;intro x1 Ks1 Os1 hqs1;obtain⟨C1,hC1⟩:∃x,x=zs.set 57 (.int .u64 q1.1):=⟨_,rfl⟩;have HC1:=hI hC1;have HL1:Hid (C1.length=69):=(by rw[hC1,List.length_set];exact HZ.out);rw[<-hC1] at Ks1;have Zs1:=hI (Zc2.out.only Os1.out hha);have Ps1:=hI (Pc2.out.only Os1.out (Ne.symm hag) hwa);have Ls1:=hI (c0a Lc2.out Os1.out hwa);clear hC1)
  | ((with_reducible refine sT 33 ?_);refine d0a rfl _ (.tmp 33) (.tmp 31) rfl a 66 rfl _ C1 (.int .u16 q2.1) rfl Ks1 (hI (by have:=HL1.out;omega)) (by kernel_rfl) rfl ?_;intro x2 Ks2 Os2 hqs2;obtain⟨C2,hC2⟩:∃x,x=C1.set 66 (.int .u16 q2.1):=⟨_,rfl⟩;have HC2:=hI hC2;have HL2:Hid (C2.length=69):=(by rw[hC2,List.length_set];exact HL1.out);rw[<-hC2] at Ks2;have Zs2:=hI (Zs1.out.only Os2.out hha);have Ps2:=hI (Ps1.out.only Os2.out (Ne.symm hag) hwa);have Ls2:=hI (c0a Ls1.out Os2.out hwa);have hcl:x2.cell? ⟨a,66,none⟩=some (.int .u16 q2.1):=(Ks2.out.at (by rw[hC2];exact List.getElem?_set_self (by have:=HL1.out;omega)));clear hC2)
  | fail)
 refine(D3.out x2 g Ls2.out.size Ps2.out).mono ?_;rintro e v3 ⟨rfl,hP,hS⟩;have Pc3:=hI hP;have Zc3:=hI (Zs2.out.save hS hhg);have Kc3:=hI (Ks2.out.save hS hag);have Lc3:=hI (Ls2.out.trans (hS.below hwg Ls2.out.size));clear hP hS Ps2 Zs2 Ks2 Ls2;go_wp2_with(first
  | ((with_reducible refine sT 48 ?_);refine d0a rfl _ (.tmp 48) (.tmp 47) rfl a 68 rfl _ C2 (.bool tb) rfl Kc3 (hI (by have:=HL2.out;omega)) (by kernel_rfl) rfl ?_;intro x3 Ks3 Os3 hqs3;obtain⟨C3,hC3⟩:∃x,x=C2.set 68 (.bool tb):=⟨_,rfl⟩;have HC3:=hI hC3;have HL3:Hid (C3.length=69):=(by rw[hC3,List.length_set];exact HL2.out);rw[<-hC3] at Ks3;have Zs3:=hI (Zc3.out.only Os3.out hha);have Ps3:=hI (Pc3.out.only Os3.out (Ne.symm hag) hwa);have Ls3:=hI (c0a Lc3.out Os3.out hwa);clear hC3)
  | fail)
 refine(D4.out x3 g Ls3.out.size Ps3.out).mono ?_;rintro e v4 ⟨rfl,hP,hS⟩;have Pc4:=hI hP;have Zc4:=hI (Zs3.out.save hS hhg);have Kc4:=hI (Ks3.out.save hS hag);have Lc4:=hI (Ls3.out.trans (hS.below hwg Ls3.out.size));clear hP hS Ps3 Zs3 Ks3 Ls3;go_wp2_with(first
  | ((with_reducible refine sT 50 ?_);refine d0a rfl _ (.tmp 50) (.tmp 49) rfl a 58 rfl _ C3 (.string ⟨q4.1.toArray⟩) rfl Kc4 (hI (by have:=HL3.out;omega)) (by kernel_rfl) rfl ?_;intro wz Kz Oz hqz;obtain⟨CF,hCF⟩:∃x,x=C3.set 58 (.string ⟨q4.1.toArray⟩):=⟨_,rfl⟩;have HCF:=hI hCF;have HLF:Hid (CF.length=69):=(by rw[hCF,List.length_set];exact HL3.out);rw[<-hCF] at Kz;have Zz:=hI (Zc4.out.only Oz.out hha);have Pz:=hI (Pc4.out.only Oz.out (Ne.symm hag) hwa);have Lz:=hI (c0a Lc4.out Oz.out hwa);clear hCF)
  | fail)
 have HEQ:Hid (CF=j0a (.slice none 0 0) (.slice none 0 0) (.slice none 0 0) { i0a with file:=q1.1,cls:=q2.1,on:=tb,name:=⟨q4.1.toArray⟩ }):=by
  show _=_
  rw[HCF.out,HC3.out,HC2.out,HC1.out,HZS.out];rfl
 rotate_left;have D1:Hid (∀(w':World) (g:Nat),w.heap.size<=w'.heap.size->PI w' g w.heap.size A n k xs rd0->Calls Tryz.prog 141 #[.pointer (some ⟨g,0,none⟩)] w' λe w2=>e=.returned (.int .u64 (l1 xs).1)/\PI w2 g w.heap.size A n k xs (l1 xs).2/\Q0a g w' w2):=λw' g hs h=>b3a w' g _ A n k xs _ hby h
 have D2:Hid (∀(w':World) (g:Nat),w.heap.size<=w'.heap.size->PI w' g w.heap.size A n k xs (l1 xs).2->Calls Tryz.prog 142 #[.pointer (some ⟨g,0,none⟩)] w' λe w2=>e=.returned (.int .u16 (l2 xs).1)/\PI w2 g w.heap.size A n k xs (l2 xs).2/\Q0a g w' w2):=λw' g hs h=>w7a w' g _ A n k xs _ hby h
 have D3:Hid (∀(w':World) (g:Nat),w.heap.size<=w'.heap.size->PI w' g w.heap.size A n k xs (l2 xs).2->Calls Tryz.prog 146 #[.pointer (some ⟨g,0,none⟩),.int .i64 5] w' λe w2=>e=.returned (.tuple #[])/\PI w2 g w.heap.size A n k xs (V2a 5 (l2 xs).2)/\Q0a g w' w2):=λw' g hs h=>a5a w' g _ A n k xs _ 5 h
 have DE:Hid (∀(w':World) (g:Nat),PI w' g w.heap.size A n k xs (V2a 5 (l2 xs).2)->Calls Tryz.prog 148 #[.pointer (some ⟨g,0,none⟩)] w' λe w2=>e=.returned (.int .i64 (H0a xs (V2a 5 (l2 xs).2)))/\Q0a g w' w2):=λw' g h=>f3a w' g _ A n k xs _ h
 have hgp:igP 17 xs=({ i0a with file:=(l1 xs).1,cls:=(l2 xs).1 },(V2a 5 (l2 xs).2)):=by unfold igP;rw[if_neg (by decide),if_neg (by decide),if_pos rfl,if_neg c1,if_neg c2,if_neg c3]
 have hge:Y3a 17 xs=H0a xs (V2a 5 (l2 xs).2):=by unfold Y3a;rw[if_pos hk,hgp]
 have HQ:Hid (∀(cs:List Value) (e:Ending) (w':World),H0a xs (V2a 5 (l2 xs).2)=0->e=.returned (.tuple #[.agg cs.toArray,.int .i64 0])->f1a w' w'.heap.size cs { i0a with file:=(l1 xs).1,cls:=(l2 xs).1 }->cs[61]? = some (.slice none 0 0)->Below w.heap.size w w'->c2a w 17 xs e w'):=by
  intro cs e w' h0 h1 h2 h3 h5;have ho:F6a 17 xs={ i0a with file:=(l1 xs).1,cls:=(l2 xs).1 }:=by unfold F6a;rw[hge,h0,if_pos rfl,hgp]
  unfold c2a;rw[hge,h0,ho];exact⟨cs,h1,h2,h3,h5⟩
 have HE':=hI (HE.out _ hge);obtain⟨er,her⟩:∃x,x=H0a xs (V2a 5 (l2 xs).2):=⟨_,rfl⟩;rw[<-her] at DE HQ HE';have cf1:((l2 xs).1==1)=false:=by simpa using c1
 have cf2:((l2 xs).1==2)=false:=by simpa using c2
 have cf3:((l2 xs).1==3)=false:=by simpa using c3
 clear c1 c2 c3;obtain⟨q1,hq1⟩:∃x,x=(l1 xs):=⟨_,rfl⟩;rw[<-hq1] at D1 D2 HQ;obtain⟨q2,hq2⟩:∃x,x=(l2 xs):=⟨_,rfl⟩;rw[<-hq2] at D2 D3 DE HQ cf1 cf2 cf3;obtain⟨q3,hq3⟩:∃x,x=(V2a 5 q2.2):=⟨_,rfl⟩;rw[<-hq3] at D3 DE;clear HE hk hx her hge hgp hq1 hq2 hq3;go_wp2_with fail;refine(D1.out w4 g L4.out.size P4.out).mono ?_;rintro e v1 ⟨rfl,hP,hS⟩;have Pc1:=hI hP;have Zc1:=hI (Z4.out.save hS hhg);have Kc1:=hI (K4.out.save hS hag);have Lc1:=hI (L4.out.trans (hS.below hwg L4.out.size));clear hP hS P4 Z4 K4 L4;go_wp2_with fail;refine(D2.out v1 g Lc1.out.size Pc1.out).mono ?_;rintro e v2 ⟨rfl,hP,hS⟩;have Pc2:=hI hP;have Zc2:=hI (Zc1.out.save hS hhg);have Kc2:=hI (Kc1.out.save hS hag);have Lc2:=hI (Lc1.out.trans (hS.below hwg Lc1.out.size));clear hP hS Pc1 Zc1 Kc1 Lc1;go_wp2_with(first
  | ((with_reducible refine sT 32 ?_);refine d0a rfl _ (.tmp 32) (.tmp 30) rfl a 57 rfl _ zs (.int .u64 q1.1) rfl Kc2 (hI (by have:=HZ.out;omega)) (by kernel_rfl) rfl ?_;intro x1 Ks1 Os1 hqs1;obtain⟨C1,hC1⟩:∃x,x=zs.set 57 (.int .u64 q1.1):=⟨_,rfl⟩;have HC1:=hI hC1;have HL1:Hid (C1.length=69):=(by rw[hC1,List.length_set];exact HZ.out);rw[<-hC1] at Ks1;have Zs1:=hI (Zc2.out.only Os1.out hha);have Ps1:=hI (Pc2.out.only Os1.out (Ne.symm hag) hwa);have Ls1:=hI (c0a Lc2.out Os1.out hwa);clear hC1)
  | ((with_reducible refine sT 33 ?_);refine d0a rfl _ (.tmp 33) (.tmp 31) rfl a 66 rfl _ C1 (.int .u16 q2.1) rfl Ks1 (hI (by have:=HL1.out;omega)) (by kernel_rfl) rfl ?_;intro x2 Ks2 Os2 hqs2;obtain⟨C2,hC2⟩:∃x,x=C1.set 66 (.int .u16 q2.1):=⟨_,rfl⟩;have HC2:=hI hC2;have HL2:Hid (C2.length=69):=(by rw[hC2,List.length_set];exact HL1.out);rw[<-hC2] at Ks2;have Zs2:=hI (Zs1.out.only Os2.out hha);have Ps2:=hI (Ps1.out.only Os2.out (Ne.symm hag) hwa);have Ls2:=hI (c0a Ls1.out Os2.out hwa);have hcl:x2.cell? ⟨a,66,none⟩=some (.int .u16 q2.1):=(Ks2.out.at (by rw[hC2];exact List.getElem?_set_self (by have:=HL1.out;omega)));clear hC2)
  | fail)
 refine(D3.out x2 g Ls2.out.size Ps2.out).mono ?_;rintro e wz ⟨rfl,hP,hS⟩;have Pz:=hI hP;have Zz:=hI (Zs2.out.save hS hhg);have Kz:=hI (Ks2.out.save hS hag);have Lz:=hI (Ls2.out.trans (hS.below hwg Ls2.out.size));clear hP hS Ps2 Zs2 Ks2 Ls2;go_wp2_with fail;obtain⟨CF,hCF⟩:∃x,x=C2:=⟨_,rfl⟩;have HLF:Hid (CF.length=69):=by rw[hCF];exact HL2.out
 have HCF:=hI hCF;rw[<-hCF] at Kz;clear hCF;have HEQ:Hid (CF=j0a (.slice none 0 0) (.slice none 0 0) (.slice none 0 0) { i0a with file:=q1.1,cls:=q2.1 }):=by
  show _=_
  rw[HCF.out,HC2.out,HC1.out,HZS.out];rfl
 rotate_left;subst h18;have D1:Hid (∀(w':World) (g:Nat),w.heap.size<=w'.heap.size->PI w' g w.heap.size A n k xs rd0->Calls Tryz.prog 147 #[.pointer (some ⟨g,0,none⟩)] w' λe w2=>e=.returned (.tuple #[.int .u64 (l1 xs).1,.int .u8 (k2 xs).1])/\PI w2 g w.heap.size A n k xs (k3 xs)/\Q0a g w' w2):=λw' g hs h=>M1b w' g _ A n k xs _ hby h hs
 have DE:Hid (∀(w':World) (g:Nat),PI w' g w.heap.size A n k xs (k3 xs)->Calls Tryz.prog 148 #[.pointer (some ⟨g,0,none⟩)] w' λe w2=>e=.returned (.int .i64 (H0a xs (k3 xs)))/\Q0a g w' w2):=λw' g h=>f3a w' g _ A n k xs _ h
 have hgp:igP 18 xs=({ i0a with file:=(l1 xs).1,lev:=(k2 xs).1 },(k3 xs)):=by unfold igP;rw[if_neg (by decide),if_neg (by decide),if_neg (by decide),if_pos rfl]
 have hge:Y3a 18 xs=H0a xs (k3 xs):=by unfold Y3a;rw[if_pos hk,hgp]
 have HQ:Hid (∀(cs:List Value) (e:Ending) (w':World),H0a xs (k3 xs)=0->e=.returned (.tuple #[.agg cs.toArray,.int .i64 0])->f1a w' w'.heap.size cs { i0a with file:=(l1 xs).1,lev:=(k2 xs).1 }->cs[61]? = some (.slice none 0 0)->Below w.heap.size w w'->c2a w 18 xs e w'):=by
  intro cs e w' h0 h1 h2 h3 h5;have ho:F6a 18 xs={ i0a with file:=(l1 xs).1,lev:=(k2 xs).1 }:=by unfold F6a;rw[hge,h0,if_pos rfl,hgp]
  unfold c2a;rw[hge,h0,ho];exact⟨cs,h1,h2,h3,h5⟩
 have HE':=hI (HE.out _ hge);obtain⟨er,her⟩:∃x,x=H0a xs (k3 xs):=⟨_,rfl⟩;rw[<-her] at DE HQ HE';obtain⟨q1,hq1⟩:∃x,x=(l1 xs).1:=⟨_,rfl⟩;rw[<-hq1] at D1 HQ;obtain⟨q2,hq2⟩:∃x,x=(k2 xs).1:=⟨_,rfl⟩;rw[<-hq2] at D1 HQ;obtain⟨q3,hq3⟩:∃x,x=(k3 xs):=⟨_,rfl⟩;rw[<-hq3] at D1 DE;clear HE hk hx her hge hgp hq1 hq2 hq3;go_wp2_with fail;refine(D1.out w4 g L4.out.size P4.out).mono ?_;rintro e v1 ⟨rfl,hP,hS⟩;have Pc1:=hI hP;have Zc1:=hI (Z4.out.save hS hhg);have Kc1:=hI (K4.out.save hS hag);have Lc1:=hI (L4.out.trans (hS.below hwg L4.out.size));clear hP hS P4 Z4 K4 L4;go_wp2_with(first
  | ((with_reducible refine sT 57 ?_);refine d0a rfl _ (.tmp 57) (.tmp 55) rfl a 57 rfl _ zs (.int .u64 q1) rfl Kc1 (hI (by have:=HZ.out;omega)) (by kernel_rfl) rfl ?_;intro x1 Ks1 Os1 hqs1;obtain⟨C1,hC1⟩:∃x,x=zs.set 57 (.int .u64 q1):=⟨_,rfl⟩;have HC1:=hI hC1;have HL1:Hid (C1.length=69):=(by rw[hC1,List.length_set];exact HZ.out);rw[<-hC1] at Ks1;have Zs1:=hI (Zc1.out.only Os1.out hha);have Ps1:=hI (Pc1.out.only Os1.out (Ne.symm hag) hwa);have Ls1:=hI (c0a Lc1.out Os1.out hwa);clear hC1)
  | ((with_reducible refine sT 58 ?_);refine d0a rfl _ (.tmp 58) (.tmp 56) rfl a 55 rfl _ C1 (.int .u8 q2) rfl Ks1 (hI (by have:=HL1.out;omega)) (by kernel_rfl) rfl ?_;intro wz Kz Oz hqz;obtain⟨CF,hCF⟩:∃x,x=C1.set 55 (.int .u8 q2):=⟨_,rfl⟩;have HCF:=hI hCF;have HLF:Hid (CF.length=69):=(by rw[hCF,List.length_set];exact HL1.out);rw[<-hCF] at Kz;have Zz:=hI (Zs1.out.only Oz.out hha);have Pz:=hI (Ps1.out.only Oz.out (Ne.symm hag) hwa);have Lz:=hI (c0a Ls1.out Oz.out hwa);clear hCF)
  | fail)
 have HEQ:Hid (CF=j0a (.slice none 0 0) (.slice none 0 0) (.slice none 0 0) { i0a with file:=q1,lev:=q2 }):=by
  show _=_
  rw[HCF.out,HC1.out,HZS.out];rfl
 rotate_left;all_goals
  refine(DE.out wz g Pz.out).mono ?_;rintro e ve ⟨rfl,hS⟩;have ZE:=hI (Zz.out.save hS hhg);have KE:=hI (Kz.out.save hS hag);have LE:=hI (Lz.out.trans (hS.below hwg Lz.out.size));clear hS Pz Zz Kz Lz;by_cases he:er=0;rotate_left
  ·have hne:(er != 0)=true:=by simpa using he
   have HN:=hI (HE'.out he);clear he HE' HQ;go_wp2_with(first
    | ((with_reducible refine sN 65 ?_);refine x0a rfl _ rfl zs BZ ?_)
    | ((with_reducible refine sT 4 ?_);refine b0a rfl _ (.tmp 4) (.tmp 65) rfl h rfl _ zs zs rfl ZE 69 n0a HZ HZ HZ1 ?_;intro w10 K10 O10 hg10)
    | fail)
   refine bodyPost_ret (v:=.tuple #[.agg zs.toArray,.int .i64 er]) ?_ rfl (HN.out _ _ rfl (c0a LE.out O10.out (by omega)));exact m0a rfl _ _ h _ _ (0,0) _ rfl K10.out Tryz.underlying34 rfl (by rw[n0a];have:=HZ.out;simp[this]) rfl
  ·subst he;have H1C:Hid (∀v∈CF,v.oneCell'=true):=by
    show _
    rw[HEQ.out];exact x1a rfl rfl rfl
   go_wp2_with(first
    | ((with_reducible refine sN 67 ?_);refine e0a rfl _ (.tmp 6) rfl a rfl _ CF KE 69 _ Tryz.underlying34 rfl n0a HLF ?_)
    | ((with_reducible refine sT 4 ?_);refine b0a rfl _ (.tmp 4) (.tmp 67) rfl h rfl _ zs CF rfl ZE 69 n0a HZ HLF H1C ?_;intro w10 K10 O10 hg10)
    | fail)
   refine bodyPost_ret (v:=.tuple #[.agg CF.toArray,.int .i64 0]) ?_ rfl ?_
   ·exact m0a rfl _ _ h _ _ (0,0) _ rfl K10.out Tryz.underlying34 rfl (by rw[n0a];have:=HLF.out;simp[this]) rfl
   ·have LF:Below w.heap.size w w10:=c0a LE.out O10.out (by omega);exact HQ.out CF _ _ (by trivial) rfl ⟨none,0,0,none,0,0,none,0,0,by rw[HEQ.out],G1a.nil _ _ _,Holds.nil _ _,d1a.nil _ _ _ _⟩ (by rw[HEQ.out];rfl) LF
theorem V8b(g:Nat)(w:World):(Instr.fieldAt 39 (.pointer (some ⟨g,0,none⟩)) 10).run Tryz.prog w=.ok (.pointer (some ⟨g,17,none⟩)) w:=by go_simp
def T2a(w:World)(c:Int)(xs:List Int)(e:Ending)(w':World):Prop:=∃cs,e=.returned (.tuple #[.agg cs.toArray,.int .i64 (t5a c xs)])/\n1a w' w'.heap.size cs (L9a c xs)/\cs[15]? = some (.slice none 0 0)/\Below w.heap.size w w'/\(∀b off s n c,cs[17]? = some (.slice (some ⟨b,off,s⟩) n c)->w.heap.size<=b)
theorem z4b(w:World)(c:Int)(A:Option Addr)(n k:Nat)(xs:List Int)(hc:0<=c/\c<=65535)(hx:Holds w w.heap.size A n k xs) :
  Calls Tryz.prog 91 #[.int .u16 c,.slice A n k] w (T2a w c xs):=by
 have hby:=hx.byte;have HX:=hI hx;have ZH:=hI I7a;have BZ:=C8a;have ZR:=hI c6b;have HZ:Hid ((r0a (.slice none 0 0) (.slice none 0 0) q0a).length=20):=U1a G0a;have HZ1:Hid (∀v∈r0a (.slice none 0 0) (.slice none 0 0) q0a,v.oneCell'=true):=(E2a w 0).one;have HZI:Hid (∀w':World,n1a w' w'.heap.size (r0a (.slice none 0 0) (.slice none 0 0) q0a) q0a):=λw'=>E2a w' _
 have HZD:Hid ((r0a (.slice none 0 0) (.slice none 0 0) q0a)[15]? = some (.slice none 0 0)):=rfl;have BR:Tryz.prog.built 166 [(0,.slice A n k)]=some ([.slice A n k,.int .i64 0,.int .i64 0]:List Value).toArray:=by kernel_rfl
 have HR0:Hid (([.slice none 0 0,.int .i64 0,.int .i64 0]:List Value).length=3):=rfl;have HR1:Hid (([.slice A n k,.int .i64 0,.int .i64 0]:List Value).length=3):=rfl;have HR2:Hid (∀v∈([.slice A n k,.int .i64 0,.int .i64 0]:List Value),v.oneCell'=true):=by intro v hv;simp only[List.mem_cons,List.not_mem_nil,or_false] at hv;rcases hv with rfl | rfl | rfl<;>rfl
 have HE:Hid (∀er,t5a c xs=er->er≠0->∀e w',e=.returned (.tuple #[.agg (r0a (.slice none 0 0) (.slice none 0 0) q0a).toArray,.int .i64 er])->Below w.heap.size w w'->T2a w c xs e w'):=by intro er h1 h2 e w' he hb;unfold T2a L9a;rw[h1,if_neg h2];exact⟨_,he,HZI.out w',HZD.out,hb,λb off s n c h=>by have h2:some (Value.slice none 0 0)=some (Value.slice (some ⟨b,off,s⟩) n c):=h;cases h2⟩
 obtain⟨zs,hzs⟩:∃zs,zs=r0a (.slice none 0 0) (.slice none 0 0) q0a:=⟨_,rfl⟩;have HZS:=hI hzs;rw[<-hzs] at ZH BZ HZ HZ1 HE;clear hzs HZI HZD;by_cases hk:G5a c=true;rotate_left
 ·have HQ:=hI (HE.out 2 (by unfold t5a;rw[if_neg hk]) (by decide));have hk':c≠14/\c≠16/\c≠17/\c≠18:=by refine⟨?_,?_,?_,?_⟩<;>(rintro rfl;exact hk (by decide))
  obtain⟨h14,h16,h17,h18⟩:=hk';have b14:(c==14)=false:=by simpa using h14
  have b16:(c==16)=false:=by simpa using h16
  have b17:(c==17)=false:=by simpa using h17
  have b18:(c==18)=false:=by simpa using h18
  clear hk HE hx h14 h16 h17 h18;go_enter Tryz.func91,Tryz.ntmps91;go_wp2_with(first
   | ((with_reducible refine sN 4 ?_);refine a0a rfl _ rfl zs _ ZH ?_;intro h w1 hg1 hg2 Z1 L1)
   | ((with_reducible refine sN 6 ?_);refine a0a rfl _ rfl zs _ ZH ?_;intro a w2 hg3 hg4 K2 L02;have Z2:=hI (Z1.out.over L02.out);have L2:=hI (step L1.out L02.out);have hha:h≠a:=(by omega);have hwa:w.heap.size<=a:=(by have:=L1.out.size;omega);have hsz2:=L2.out.size)
   | ((with_reducible refine sN 11 ?_);refine k0a rfl _ _ rfl ([.slice A n k,.int .i64 0,.int .i64 0]:List Value) (by refine Eq.trans ?_ BR;kernel_rfl) ?_)
   | ((with_reducible refine sN 7 ?_);refine a0a rfl _ rfl ([.slice none 0 0,.int .i64 0,.int .i64 0]:List Value) _ ZR ?_;intro g w3 hg5 hg6 R3 L03;have K3:=hI (K2.out.over L03.out);have Z3:=hI (Z2.out.over L03.out);have L3:=hI (step L2.out L03.out);have hag:a≠g:=(by omega);have hhg:h≠g:=(by have:=Z2.out.lt;omega);have hwg:w.heap.size<=g:=(by omega))
   | ((with_reducible refine sT 7 ?_);refine b0a rfl _ (.tmp 7) (.tmp 11) rfl g rfl _ ([.slice none 0 0,.int .i64 0,.int .i64 0]:List Value) ([.slice A n k,.int .i64 0,.int .i64 0]:List Value) rfl R3 3 F0b HR0 HR1 HR2 ?_;intro w4 R4 O4 hg7;have K4:=hI (K3.out.only O4.out hag);have Z4:=hI (Z3.out.only O4.out hhg);have L4:=hI (c0a L3.out O4.out hwg))
   | ((with_reducible refine sN 13 ?_);refine x0a rfl _ rfl zs BZ ?_)
   | ((with_reducible refine sT 4 ?_);refine b0a rfl _ (.tmp 4) (.tmp 13) rfl h rfl _ zs zs rfl Z4 20 s0a HZ HZ HZ1 ?_;intro w10 K10 O10 hg10)
   | fail)
  refine bodyPost_ret (v:=.tuple #[.agg zs.toArray,.int .i64 2]) ?_ rfl (HQ.out _ _ rfl (c0a L4.out O10.out (by omega)));exact m0a rfl _ _ h _ _ (0,0) _ rfl K10.out Tryz.underlying39 rfl (by rw[s0a];have:=HZ.out;simp[this]) rfl
 go_enter Tryz.func91,Tryz.ntmps91;go_upto_if 14 with(first
  | ((with_reducible refine sN 4 ?_);refine a0a rfl _ rfl zs _ ZH ?_;intro h w1 hg1 hg2 Z1 L1)
  | ((with_reducible refine sN 6 ?_);refine a0a rfl _ rfl zs _ ZH ?_;intro a w2 hg3 hg4 K2 L02;have Z2:=hI (Z1.out.over L02.out);have L2:=hI (step L1.out L02.out);have hha:h≠a:=(by omega);have hwa:w.heap.size<=a:=(by have:=L1.out.size;omega);have hsz2:=L2.out.size)
  | ((with_reducible refine sN 11 ?_);refine k0a rfl _ _ rfl ([.slice A n k,.int .i64 0,.int .i64 0]:List Value) (by refine Eq.trans ?_ BR;kernel_rfl) ?_)
  | ((with_reducible refine sN 7 ?_);refine a0a rfl _ rfl ([.slice none 0 0,.int .i64 0,.int .i64 0]:List Value) _ ZR ?_;intro g w3 hg5 hg6 R3 L03;have K3:=hI (K2.out.over L03.out);have Z3:=hI (Z2.out.over L03.out);have L3:=hI (step L2.out L03.out);have hag:a≠g:=(by omega);have hhg:h≠g:=(by have:=Z2.out.lt;omega);have hwg:w.heap.size<=g:=(by omega))
  | ((with_reducible refine sT 7 ?_);refine b0a rfl _ (.tmp 7) (.tmp 11) rfl g rfl _ ([.slice none 0 0,.int .i64 0,.int .i64 0]:List Value) ([.slice A n k,.int .i64 0,.int .i64 0]:List Value) rfl R3 3 F0b HR0 HR1 HR2 ?_;intro w4 R4 O4 hg7;have K4:=hI (K3.out.only O4.out hag);have Z4:=hI (Z3.out.only O4.out hhg);have L4:=hI (c0a L3.out O4.out hwg))
  | fail)
 have P4:Hid (PI w4 g w.heap.size A n k xs rd0):=⟨Nat.zero_le _,hwg,R4.out,HX.out.below L4.out⟩;clear R3 L03 K2 K3 Z1 Z2 Z3 L02 L1 L2 L3 R4 O4 HX;rcases j4a hk with h14 | h16 | h17 | h18
 ·subst h14;have D1:Hid (∀(w':World) (g:Nat),w.heap.size<=w'.heap.size->PI w' g w.heap.size A n k xs rd0->Calls Tryz.prog 153 #[.pointer (some ⟨g,0,none⟩),.int .u64 64,.int .i64 2,.int .i64 3] w' λe w2=>e=.returned (.int .u64 (m1 xs).1)/\PI w2 g w.heap.size A n k xs (m1 xs).2/\Q0a g w' w2):=λw' g hs h=>E0b w' g _ A n k xs _ 2 64 3 h (by decide) (by decide)
  have D2:Hid (∀(w':World) (g:Nat),w.heap.size<=w'.heap.size->PI w' g w.heap.size A n k xs (m1 xs).2->Calls Tryz.prog 145 #[.pointer (some ⟨g,0,none⟩)] w' λe w2=>e=.returned (.bool ((m2 xs).1 != 0))/\PI w2 g w.heap.size A n k xs (m2 xs).2/\Q0a g w' w2):=λw' g hs h=>x6a w' g _ A n k xs _ hby h
  have DE:Hid (∀(w':World) (g:Nat),PI w' g w.heap.size A n k xs (m3 xs).2->Calls Tryz.prog 148 #[.pointer (some ⟨g,0,none⟩)] w' λe w2=>e=.returned (.int .i64 (H0a xs (m3 xs).2))/\Q0a g w' w2):=λw' g h=>f3a w' g _ A n k xs _ h
  have hgp:jgP 14 xs=({ q0a with ents:=(m3 xs).1,more:=((m2 xs).1 != 0) },(m3 xs).2):=by unfold jgP;rw[if_pos rfl]
  have hge:t5a 14 xs=H0a xs (m3 xs).2:=by unfold t5a;rw[if_pos hk,hgp]
  have HQ:Hid (∀(cs:List Value) (e:Ending) (w':World),H0a xs (m3 xs).2=0->e=.returned (.tuple #[.agg cs.toArray,.int .i64 0])->n1a w' w'.heap.size cs { q0a with ents:=(m3 xs).1,more:=((m2 xs).1 != 0) }->cs[15]? = some (.slice none 0 0)->Below w.heap.size w w'->(∀b off s n c,cs[17]? = some (.slice (some ⟨b,off,s⟩) n c)->w.heap.size<=b)->T2a w 14 xs e w'):=by
   intro cs e w' h0 h1 h2 h3 h5 h9;have ho:L9a 14 xs={ q0a with ents:=(m3 xs).1,more:=((m2 xs).1 != 0) }:=by unfold L9a;rw[hge,h0,if_pos rfl,hgp]
   unfold T2a;rw[hge,h0,ho];exact⟨cs,h1,h2,h3,h5,h9⟩
  have HE':=hI (HE.out _ hge);obtain⟨er,her⟩:∃x,x=H0a xs (m3 xs).2:=⟨_,rfl⟩;rw[<-her] at DE HQ HE';obtain⟨N,hN⟩:∃N:Nat,(m1 xs).1=(N:Int):=⟨(m1 xs).1.toNat,by have:=(d3a hby 2 64 3 rd0 ⟨by decide,by decide⟩ (by decide)).1;show(b1a xs 2 64 3 rd0).1=_;change (0:Int)<=(b1a xs 2 64 3 rd0).1 at this;show(b1a xs 2 64 3 rd0).1=((b1a xs 2 64 3 rd0).1.toNat:Int);omega⟩;have hN64:N<=64:=by have h1:=(d3a hby 2 64 3 rd0 ⟨by decide,by decide⟩ (by decide)).2;change (m1 xs).1<=64 at h1;omega
  have HM3:Hid (m3 xs=V1a xs (m2 xs).2 N):=by show _=_;unfold m3;rw[hN,Int.toNat_natCast]
  rw[hN] at D1;have HSTP:Hid (∀j,(V1a xs (m2 xs).2 (j+1)).1=(V1a xs (m2 xs).2 j).1++[(i4a xs (V1a xs (m2 xs).2 j).2).1]/\(V1a xs (m2 xs).2 (j+1)).2=(i4a xs (V1a xs (m2 xs).2 j).2).2):=λj=>⟨rfl,rfl⟩
  have HLN:Hid (∀j,(V1a xs (m2 xs).2 j).1.length=j):=λj=>y2b j
  have CEN:Hid (∀(w':World) (r:Rd) {g:Nat},w.heap.size<=w'.heap.size->PI w' g w.heap.size A n k xs r->Calls Tryz.prog 154 #[.pointer (some ⟨g,0,none⟩)] w' λe w2=>e=.returned (.agg (z0a (i4a xs r).1).toArray)/\PI w2 g w.heap.size A n k xs (i4a xs r).2/\Q0a g w' w2):=λw' r g hs h=>y5b w' g _ A n k xs r hby h hs
  have BL:∀l:y1a,Tryz.prog.builtSlice 118 1 [(0,.agg (z0a l).toArray)]=some (z0a l).toArray:=λl=>by kernel_rfl
  obtain⟨ents,hents⟩:∃f,f=V1a xs (m2 xs).2:=⟨_,rfl⟩;have HE0:Hid (ents 0=([],(m2 xs).2)):=by show _=_;rw[hents];rfl
  rw[<-hents] at HM3 HSTP HLN;clear hents;obtain⟨tb,htb⟩:∃x,x=((m2 xs).1 != 0):=⟨_,rfl⟩;rw[<-htb] at D2 HQ;obtain⟨q2,hq2⟩:∃x,x=(m2 xs).2:=⟨_,rfl⟩;rw[<-hq2] at D2 HE0;obtain⟨q1,hq1⟩:∃x,x=(m1 xs).2:=⟨_,rfl⟩;rw[<-hq1] at D1 D2;clear HE hk hx her hge hgp htb hq2 hq1;go_wp2_with fail;refine(D1.out w4 g L4.out.size P4.out).mono ?_;rintro e v1 ⟨rfl,hP,hS⟩;have Pc1:=hI hP;have Zc1:=hI (Z4.out.save hS hhg);have Kc1:=hI (K4.out.save hS hag);have Lc1:=hI (L4.out.trans (hS.below hwg L4.out.size));clear hP hS P4 Z4 K4 L4;go_wp2_with fail;refine(D2.out v1 g Lc1.out.size Pc1.out).mono ?_;rintro e v2 ⟨rfl,hP,hS⟩;have Pc2:=hI hP;have Zc2:=hI (Zc1.out.save hS hhg);have Kc2:=hI (Kc1.out.save hS hag);have Lc2:=hI (Lc1.out.trans (hS.below hwg Lc1.out.size));clear hP hS Pc1 Zc1 Kc1 Lc1;go_wp2_with(first
   | ((with_reducible refine sT 18 ?_);refine d0a rfl _ (.tmp 18) (.tmp 17) rfl a 18 rfl _ zs (.bool tb) rfl Kc2 (hI (by have:=HZ.out;omega)) (by kernel_rfl) rfl ?_;intro x1 Ks1 Os1 hqs1;obtain⟨C1,hC1⟩:∃x,x=zs.set 18 (.bool tb):=⟨_,rfl⟩;have HC1:=hI hC1;have HL1:Hid (C1.length=20):=(by rw[hC1,List.length_set];exact HZ.out);rw[<-hC1] at Ks1;have Zs1:=hI (Zc2.out.only Os1.out hha);have Ps1:=hI (Pc2.out.only Os1.out (Ne.symm hag) hwa);have Ls1:=hI (c0a Lc2.out Os1.out hwa);clear hC1)
   | fail)
  go_wp2;have HC17:Hid (∀u:Value,(C1.set 17 u)[17]? = some u):=λu=>List.getElem?_set_self (by have:=HL1.out;omega)
  have hgs:a<x1.heap.size/\h<x1.heap.size/\g<x1.heap.size:=⟨Ks1.out.lt,Zs1.out.lt,Ps1.out.lt⟩;have hwv:=Ls1.out.size;obtain⟨bb,hbb⟩:∃x,x=x1.heap.size:=⟨_,rfl⟩;rw[<-hbb] at hgs hwv;have hbs:bb<=x1.heap.size:=by omega
  obtain⟨hab,hhb,hgb⟩:=hgs;clear hbb;have H0:Hid (Blk x1 a 39 (C1.set 17 (.slice none 0 0))):=by
   have e0:C1.set 17 (.slice none 0 0)=C1:=by rw[HC1.out,HZS.out];rfl
   rw[e0];exact Ks1.out
  go_loopw [20] (λi wr=>∃j:Nat,i=.int .u64 j/\j<=N/\bb<=wr.heap.size/\∃u,Hid (Blk wr a 39 (C1.set 17 u))/\Hid (r5a z0a 3 118 wr bb u (ents j).1)/\Hid (PI wr g w.heap.size A n k xs (ents j).2)/\Hid (Blk wr h 39 zs)/\Hid (Below w.heap.size w wr)) (λi _=>N-(intOf i).toNat)
  case atStart=>exact⟨0,rfl,Nat.zero_le _,hbs,.slice none 0 0,H0,(by rw[HE0.out];exact r5a.nil _ _ _ _ _),(by rw[HE0.out];exact Ps1),Zs1,Ls1⟩
  case round=>
   obtain⟨j,rfl,hj,hbr,u,HK,HO,HP,HZr,HLr⟩:=hrel;by_cases hlt:j<N
   ·have CE:=hI (CEN.out wr.drew (ents j).2 (show w.heap.size<=wr.heap.size from HLr.out.size) HP.out.drew);have hLn:=HLN.out j;obtain⟨s1,s2⟩:=HSTP.out j;obtain⟨L0,hL0⟩:∃l,l=(ents j).1:=⟨_,rfl⟩;rw[<-hL0] at HO hLn s1;obtain⟨en,hen⟩:∃l,l=i4a xs (ents j).2:=⟨_,rfl⟩;rw[<-hen] at CE s1 s2;have S1E:=hI s1;have S2E:=hI s2
    obtain⟨lv,hlv⟩:∃l,l=en.1:=⟨_,rfl⟩;rw[<-hlv] at CE S1E;have BLv:=BL lv;clear s1 s2 hL0 hen hlv HP;go_wp2;go_upto_region 10 with fail
    refine g7a 6 (λw'=>w'.cell? ⟨a,17,none⟩=some u) (by kernel_rfl) ?_;change D4a _ _ _ _ _ _ _ _ _ wr.drew
    have S0:Hid (wr.drew.cell? ⟨a,17,none⟩=some u):=(HK.out.at (HC17.out u));have b0:Hid (Below w.heap.size w wr.drew):=(HLr.out.trans ((G2a wr 1).mono HLr.out.size));refine o2a (i:=0) (v:=_) rfl (by kernel_rfl) (by kernel_rfl) (by kernel_rfl) (λ_ _ _ h=>h) rfl (by kernel_rfl) (by kernel_rfl) (by decide) (w0a (by kernel_rfl) _ (.tmp 6) 10 rfl (.pointer (some ⟨a,0,none⟩)) (.pointer (some ⟨a,17,none⟩)) (by kernel_rfl) (V8b a)) S0.out ?_;refine o2a (i:=1) (v:=_) rfl (by kernel_rfl) (by kernel_rfl) (by kernel_rfl) (λ_ _ _ h=>h) rfl (by kernel_rfl) (by kernel_rfl) (by decide) (l0a (by kernel_rfl) _ (.tmp 22) rfl a 17 (by kernel_rfl) u (λw h=>h) _ Tryz.underlying37 rfl) S0.out ?_;refine F2a 2 _ (by kernel_rfl) rfl λK hK=>?_
    go_simp;refine(CE.out).mono ?_;rintro e v1 ⟨rfl,hP1,hS0⟩;have S1:Hid (v1.cell? ⟨a,17,none⟩=some u):=((HK.out.save ((E3a g wr 1).trans hS0) hag).at (HC17.out u));have b1:Hid (Below w.heap.size w v1):=(HLr.out.trans (((E3a g wr 1).trans hS0).below hwg HLr.out.size));have hS1:Q0a g wr v1:=(E3a g wr 1).trans hS0;have HK1:=hI (HK.out.save hS1 hag);have HZ1r:=hI (HZr.out.save hS1 hhg);have HP1:=hI hP1;have hS1s:wr.heap.size<=v1.heap.size:=hS1.size;have HO1:Hid (r5a z0a 3 118 v1 bb u L0):=HO.out.keep λi cs hi hc=>hS1.rest i (Array.getElem?_eq_some_iff.1 hc).1 (by have:=(World.ownsRow.lt HO.out i hi).1;omega)
    refine hK _ _ (λ_=>S1.out) ?_;clear hK K;clear hP1 hS0 hS1;refine U2a λa1 ha1=>?_
    refine F2a 3 _ (by kernel_rfl) rfl λK hK=>?_
    refine O0a rfl _ _ 1 _ rfl Tryz.underlying37 (z0a lv) (by rw[ha1];refine Eq.trans ?_ BLv;kernel_rfl) ?_;intro g2 v2 q2 q3 Y2 b2;have HK2:=hI (HK1.out.over b2.out);have HO2:=hI (HO1.out.below b2.out);have HP2:=hI (HP1.out.below b2.out);have HZ2:=hI (HZ1r.out.over b2.out);have HL2:=hI (b1.out.trans (b2.out.mono b1.out.size));have hb2:bb<=v2.heap.size:=by have:=b2.out.size;omega
    refine hK _ _ (λ_=>HK2.out.at (HC17.out u)) ?_;clear hK K;refine U2a λa2 ha2=>?_
    try rw[ha1] at ha2
    have e2_23:a2.eval (.tmp 23)=u:=by rw[ha2];kernel_rfl
    have e2_25:a2.eval (.tmp 25)=.slice (some ⟨g2,0,none⟩) 1 1:=by rw[ha2];kernel_rfl
    refine F2a 4 _ (by kernel_rfl) rfl λK hK=>?_
    refine z9a rfl (.tmp 23) (.tmp 25) rfl bb u L0 g2 lv e2_23 e2_25 HO2.out Y2 (by omega) hb2 ?_;intro u3 v3 HO3 b3;have HK3:=hI (HK2.out.below b3.out hab);have HP3:=hI (HP2.out.belowAt b3.out hgb);have HZ3:=hI (HZ2.out.below b3.out hhb);have HL3:=hI (HL2.out.trans (b3.out.mono hwv));have hb3:bb<=v3.heap.size:=by have:=b3.out.size;omega
    have OU:=b6b HO3.out;refine hK _ _ (λ_=>HK3.out.at (HC17.out u)) ?_;clear hK K;refine U2a λa3 ha3=>?_
    try rw[ha2] at ha3
    have S3:Hid (v3.cell? ⟨a,17,none⟩=some u):=HK3.out.at (HC17.out u);rw[ha3];refine F2a 5 _ (by kernel_rfl) rfl λK hK=>?_
    go_simp;refine hK _ _ (λ_=>S3.out) ?_;clear hK K;refine U2a λa4 ha4=>?_
    try rw[ha3] at ha4
    have e4_27:a4.eval (.tmp 27)=.pointer (some ⟨a,17,none⟩):=by rw[ha4];kernel_rfl
    have e4_26:a4.eval (.tmp 26)=u3:=by rw[ha4];kernel_rfl
    refine F2a 6 _ (by kernel_rfl) rfl λK hK=>?_
    refine Y7a rfl 37 (.tmp 27) (.tmp 26) (by kernel_rfl) a 17 e4_27 _ _ u3 e4_26 HK3 (by show 17<(C1.set 17 u).length;rw[List.length_set];have:=HL1.out;omega) (by kernel_rfl) OU ?_;intro v4 X4 O4 q4;refine hK _ _ (λh=>Bool.noConfusion (show true=false from h)) ?_;clear hK K;change D4a _ _ _ _ _ _ _ _ a4 v4
    rw[ha4];refine l1b (by kernel_rfl) ?_ _;have HK4:Hid (Blk v4 a 39 (C1.set 17 u3)):=by have h4:=X4.out;rw[List.set_set] at h4;exact h4
    have HO4:Hid (r5a z0a 3 118 v4 bb u3 (ents (j+1)).1):=by rw[S1E.out];exact HO3.out.only O4.out hab
    have HP4:Hid (PI v4 g w.heap.size A n k xs (ents (j+1)).2):=by rw[S2E.out];exact HP3.out.only O4.out (Ne.symm hag) hwa
    have HZ4:=hI (HZ3.out.only O4.out hha);have HL4:=hI (c0a HL3.out O4.out hwa);have hb4:bb<=v4.heap.size:=by have:=O4.out.size;omega
    clear X4 O4 HK3 HP3 HZ3 HL3 HO3 S1E S2E;go_wp2;go_roundw
    case rel=>exact⟨j+1,by go_num,hlt,hb4,u3,HK4,HO4,HP4,HZ4,HL4⟩
    case measure=>simp[intOf];omega
   ·obtain rfl:j=N:=by omega
    obtain⟨uF,huF⟩:∃x,x=u:=⟨_,rfl⟩;obtain⟨C9,hC9⟩:∃x,x=C1.set 17 uF:=⟨_,rfl⟩;have HC9:=hI hC9;have HL9:Hid (C9.length=20):=by rw[hC9,List.length_set];exact HL1.out
    rw[<-huF] at HK HO;rw[<-hC9] at HK;rw[<-HM3.out] at HP;have HOF:Hid (r5a z0a 3 118 wr bb uF (m3 xs).1):=by rw[HM3.out];exact HO.out
    clear hC9 huF;go_wp2_with fail;refine(DE.out wr g HP.out).mono ?_;rintro e ve ⟨rfl,hS⟩;have ZE:=hI (HZr.out.save hS hhg);have KE:=hI (HK.out.save hS hag);have LE:=hI (HLr.out.trans (hS.below hwg HLr.out.size));have OE:=hI (HOF.out.keep λi cs hi hc=>hS.rest i (Array.getElem?_eq_some_iff.1 hc).1 (by have:=(World.ownsRow.lt HOF.out i hi).1;omega));clear hS HP HZr HK HLr;by_cases he:er=0;rotate_left
    ·have hne:(er != 0)=true:=by simpa using he
     have HN:=hI (HE'.out he);clear he HE' HQ;go_wp2_with(first
      | ((with_reducible refine sN 51 ?_);refine x0a rfl _ rfl zs BZ ?_)
      | ((with_reducible refine sT 4 ?_);refine b0a rfl _ (.tmp 4) (.tmp 51) rfl h rfl _ zs zs rfl ZE 20 s0a HZ HZ HZ1 ?_;intro w10 K10 O10 hg10)
      | fail)
     refine bodyPost_ret (v:=.tuple #[.agg zs.toArray,.int .i64 er]) ?_ rfl (HN.out _ _ rfl (c0a LE.out O10.out (by omega)));exact m0a rfl _ _ h _ _ (0,0) _ rfl K10.out Tryz.underlying39 rfl (by rw[s0a];have:=HZ.out;simp[this]) rfl
    ·subst he;have HEQ:Hid (C9=r0a (.slice none 0 0) uF { q0a with ents:=(m3 xs).1,more:=tb }):=by
      show _=_
      rw[HC9.out,HC1.out,HZS.out];rfl
     have H1C:Hid (∀v∈C9,v.oneCell'=true):=by
      show _
      rw[HEQ.out];exact J1a rfl (b6b OE.out)
     go_wp2_with(first
      | ((with_reducible refine sN 53 ?_);refine e0a rfl _ (.tmp 6) rfl a rfl _ C9 KE 20 _ Tryz.underlying39 rfl s0a HL9 ?_)
      | ((with_reducible refine sT 4 ?_);refine b0a rfl _ (.tmp 4) (.tmp 53) rfl h rfl _ zs C9 rfl ZE 20 s0a HZ HL9 H1C ?_;intro w10 K10 O10 hg10)
      | fail)
     refine bodyPost_ret (v:=.tuple #[.agg C9.toArray,.int .i64 0]) ?_ rfl ?_
     ·exact m0a rfl _ _ h _ _ (0,0) _ rfl K10.out Tryz.underlying39 rfl (by rw[s0a];have:=HL9.out;simp[this]) rfl
     ·have LF:Below w.heap.size w w10:=c0a LE.out O10.out (by omega);have VF:=r5a.only OE.out O10.out (by omega);obtain⟨Al,nl,kl,hul,hHl⟩:=r5a.holds (by decide) J2a VF;exact HQ.out C9 _ _ (by trivial) rfl ⟨none,0,0,Al,nl,kl,by rw[HEQ.out,hul],Holds.nil _ _,hHl⟩ (by rw[HEQ.out];rfl) LF (λb off s n c h=>by rw[HEQ.out] at h;have h2:some uF=some (Value.slice (some ⟨b,off,s⟩) n c):=h;injection h2 with h2;exact Nat.le_trans (by omega) (World.ownsRow.lt VF b (by rw[h2];rfl)).1)
 subst h16;have D1:Hid (∀(w':World) (g:Nat),w.heap.size<=w'.heap.size->PI w' g w.heap.size A n k xs rd0->Calls Tryz.prog 141 #[.pointer (some ⟨g,0,none⟩)] w' λe w2=>e=.returned (.int .u64 (l1 xs).1)/\PI w2 g w.heap.size A n k xs (l1 xs).2/\Q0a g w' w2):=λw' g hs h=>b3a w' g _ A n k xs _ hby h
 have D2:Hid (∀(w':World) (g:Nat),w.heap.size<=w'.heap.size->PI w' g w.heap.size A n k xs (l1 xs).2->Calls Tryz.prog 155 #[.pointer (some ⟨g,0,none⟩)] w' λe w2=>e=.returned (.int .u8 (g2 xs).1)/\PI w2 g w.heap.size A n k xs (g2 xs).2/\Q0a g w' w2):=λw' g hs h=>L2b w' g _ A n k xs _ hby h
 have D3:Hid (∀(w':World) (g:Nat),w.heap.size<=w'.heap.size->PI w' g w.heap.size A n k xs (g2 xs).2->Calls Tryz.prog 145 #[.pointer (some ⟨g,0,none⟩)] w' λe w2=>e=.returned (.bool ((g3 xs).1 != 0))/\PI w2 g w.heap.size A n k xs (g3 xs).2/\Q0a g w' w2):=λw' g hs h=>x6a w' g _ A n k xs _ hby h
 have DE:Hid (∀(w':World) (g:Nat),PI w' g w.heap.size A n k xs (g3 xs).2->Calls Tryz.prog 148 #[.pointer (some ⟨g,0,none⟩)] w' λe w2=>e=.returned (.int .i64 (H0a xs (g3 xs).2))/\Q0a g w' w2):=λw' g h=>f3a w' g _ A n k xs _ h
 have hgp:jgP 16 xs=({ q0a with siz:=(l1 xs).1,kind:=(g2 xs).1,gone:=((g3 xs).1 != 0) },(g3 xs).2):=by unfold jgP;rw[if_neg (by decide),if_pos rfl]
 have hge:t5a 16 xs=H0a xs (g3 xs).2:=by unfold t5a;rw[if_pos hk,hgp]
 have HQ:Hid (∀(cs:List Value) (e:Ending) (w':World),H0a xs (g3 xs).2=0->e=.returned (.tuple #[.agg cs.toArray,.int .i64 0])->n1a w' w'.heap.size cs { q0a with siz:=(l1 xs).1,kind:=(g2 xs).1,gone:=((g3 xs).1 != 0) }->cs[15]? = some (.slice none 0 0)->Below w.heap.size w w'->(∀b off s n c,cs[17]? = some (.slice (some ⟨b,off,s⟩) n c)->w.heap.size<=b)->T2a w 16 xs e w'):=by
  intro cs e w' h0 h1 h2 h3 h5 h9;have ho:L9a 16 xs={ q0a with siz:=(l1 xs).1,kind:=(g2 xs).1,gone:=((g3 xs).1 != 0) }:=by unfold L9a;rw[hge,h0,if_pos rfl,hgp]
  unfold T2a;rw[hge,h0,ho];exact⟨cs,h1,h2,h3,h5,h9⟩
 have HE':=hI (HE.out _ hge);obtain⟨er,her⟩:∃x,x=H0a xs (g3 xs).2:=⟨_,rfl⟩;rw[<-her] at DE HQ HE';obtain⟨q1,hq1⟩:∃x,x=(l1 xs):=⟨_,rfl⟩;rw[<-hq1] at D1 D2 HQ;obtain⟨q2,hq2⟩:∃x,x=(g2 xs):=⟨_,rfl⟩;rw[<-hq2] at D2 D3 HQ;obtain⟨tb,htb⟩:∃x,x=((g3 xs).1 != 0):=⟨_,rfl⟩;rw[<-htb] at D3 HQ;obtain⟨q3,hq3⟩:∃x,x=(g3 xs).2:=⟨_,rfl⟩;rw[<-hq3] at D3 DE;clear HE hk hx her hge hgp hq1 hq2 htb hq3;go_wp2_with fail;refine(D1.out w4 g L4.out.size P4.out).mono ?_;rintro e v1 ⟨rfl,hP,hS⟩;have Pc1:=hI hP;have Zc1:=hI (Z4.out.save hS hhg);have Kc1:=hI (K4.out.save hS hag);have Lc1:=hI (L4.out.trans (hS.below hwg L4.out.size));clear hP hS P4 Z4 K4 L4;go_wp2_with fail;refine(D2.out v1 g Lc1.out.size Pc1.out).mono ?_;rintro e v2 ⟨rfl,hP,hS⟩;have Pc2:=hI hP;have Zc2:=hI (Zc1.out.save hS hhg);have Kc2:=hI (Kc1.out.save hS hag);have Lc2:=hI (Lc1.out.trans (hS.below hwg Lc1.out.size));clear hP hS Pc1 Zc1 Kc1 Lc1;go_wp2_with fail;refine(D3.out v2 g Lc2.out.size Pc2.out).mono ?_;rintro e v3 ⟨rfl,hP,hS⟩;have Pc3:=hI hP;have Zc3:=hI (Zc2.out.save hS hhg);have Kc3:=hI (Kc2.out.save hS hag);have Lc3:=hI (Lc2.out.trans (hS.below hwg Lc2.out.size));clear hP hS Pc2 Zc2 Kc2 Lc2;go_wp2_with(first
  | ((with_reducible refine sT 34 ?_);refine d0a rfl _ (.tmp 34) (.tmp 31) rfl a 1 rfl _ zs (.int .u64 q1.1) rfl Kc3 (hI (by have:=HZ.out;omega)) (by kernel_rfl) rfl ?_;intro x1 Ks1 Os1 hqs1;obtain⟨C1,hC1⟩:∃x,x=zs.set 1 (.int .u64 q1.1):=⟨_,rfl⟩;have HC1:=hI hC1;have HL1:Hid (C1.length=20):=(by rw[hC1,List.length_set];exact HZ.out);rw[<-hC1] at Ks1;have Zs1:=hI (Zc3.out.only Os1.out hha);have Ps1:=hI (Pc3.out.only Os1.out (Ne.symm hag) hwa);have Ls1:=hI (c0a Lc3.out Os1.out hwa);clear hC1)
  | ((with_reducible refine sT 35 ?_);refine d0a rfl _ (.tmp 35) (.tmp 32) rfl a 14 rfl _ C1 (.int .u8 q2.1) rfl Ks1 (hI (by have:=HL1.out;omega)) (by kernel_rfl) rfl ?_;intro x2 Ks2 Os2 hqs2;obtain⟨C2,hC2⟩:∃x,x=C1.set 14 (.int .u8 q2.1):=⟨_,rfl⟩;have HC2:=hI hC2;have HL2:Hid (C2.length=20):=(by rw[hC2,List.length_set];exact HL1.out);rw[<-hC2] at Ks2;have Zs2:=hI (Zs1.out.only Os2.out hha);have Ps2:=hI (Ps1.out.only Os2.out (Ne.symm hag) hwa);have Ls2:=hI (c0a Ls1.out Os2.out hwa);clear hC2)
  | ((with_reducible refine sT 36 ?_);refine d0a rfl _ (.tmp 36) (.tmp 33) rfl a 19 rfl _ C2 (.bool tb) rfl Ks2 (hI (by have:=HL2.out;omega)) (by kernel_rfl) rfl ?_;intro wz Kz Oz hqz;obtain⟨CF,hCF⟩:∃x,x=C2.set 19 (.bool tb):=⟨_,rfl⟩;have HCF:=hI hCF;have HLF:Hid (CF.length=20):=(by rw[hCF,List.length_set];exact HL2.out);rw[<-hCF] at Kz;have Zz:=hI (Zs2.out.only Oz.out hha);have Pz:=hI (Ps2.out.only Oz.out (Ne.symm hag) hwa);have Lz:=hI (c0a Ls2.out Oz.out hwa);clear hCF)
  | fail)
 have HEQ:Hid (CF=r0a (.slice none 0 0) (.slice none 0 0) { q0a with siz:=q1.1,kind:=q2.1,gone:=tb }):=by
  show _=_
  rw[HCF.out,HC2.out,HC1.out,HZS.out];rfl
 rotate_left;subst h17;have D1:Hid (∀(w':World) (g:Nat),w.heap.size<=w'.heap.size->PI w' g w.heap.size A n k xs rd0->Calls Tryz.prog 143 #[.pointer (some ⟨g,0,none⟩),.int .i64 4] w' λe w2=>e=.returned (.tuple #[])/\PI w2 g w.heap.size A n k xs (rdZ xs 4 rd0)/\Q0a g w' w2):=λw' g hs h=>H4a w' g _ A n k xs _ 4 h (by decide) hs
 have DE:Hid (∀(w':World) (g:Nat),PI w' g w.heap.size A n k xs (rdZ xs 4 rd0)->Calls Tryz.prog 148 #[.pointer (some ⟨g,0,none⟩)] w' λe w2=>e=.returned (.int .i64 (H0a xs (rdZ xs 4 rd0)))/\Q0a g w' w2):=λw' g h=>f3a w' g _ A n k xs _ h
 have hgp:jgP 17 xs=(q0a,(rdZ xs 4 rd0)):=by unfold jgP;rw[if_neg (by decide),if_neg (by decide),if_neg (by decide)]
 have hge:t5a 17 xs=H0a xs (rdZ xs 4 rd0):=by unfold t5a;rw[if_pos hk,hgp]
 have HQ:Hid (∀(cs:List Value) (e:Ending) (w':World),H0a xs (rdZ xs 4 rd0)=0->e=.returned (.tuple #[.agg cs.toArray,.int .i64 0])->n1a w' w'.heap.size cs q0a->cs[15]? = some (.slice none 0 0)->Below w.heap.size w w'->(∀b off s n c,cs[17]? = some (.slice (some ⟨b,off,s⟩) n c)->w.heap.size<=b)->T2a w 17 xs e w'):=by
  intro cs e w' h0 h1 h2 h3 h5 h9;have ho:L9a 17 xs=q0a:=by unfold L9a;rw[hge,h0,if_pos rfl,hgp]
  unfold T2a;rw[hge,h0,ho];exact⟨cs,h1,h2,h3,h5,h9⟩
 have HE':=hI (HE.out _ hge);obtain⟨er,her⟩:∃x,x=H0a xs (rdZ xs 4 rd0):=⟨_,rfl⟩;rw[<-her] at DE HQ HE';obtain⟨q1,hq1⟩:∃x,x=(rdZ xs 4 rd0):=⟨_,rfl⟩;rw[<-hq1] at D1 DE;clear HE hk hx her hge hgp hq1;go_wp2_with fail;refine(D1.out w4 g L4.out.size P4.out).mono ?_;rintro e wz ⟨rfl,hP,hS⟩;have Pz:=hI hP;have Zz:=hI (Z4.out.save hS hhg);have Kz:=hI (K4.out.save hS hag);have Lz:=hI (L4.out.trans (hS.below hwg L4.out.size));clear hP hS P4 Z4 K4 L4;go_wp2_with fail;obtain⟨CF,hCF⟩:∃x,x=zs:=⟨_,rfl⟩;have HLF:Hid (CF.length=20):=by rw[hCF];exact HZ.out
 have HCF:=hI hCF;rw[<-hCF] at Kz;clear hCF;have HEQ:Hid (CF=r0a (.slice none 0 0) (.slice none 0 0) q0a):=by
  show _=_
  rw[HCF.out,HZS.out]
 rotate_left;subst h18;have D1:Hid (∀(w':World) (g:Nat),w.heap.size<=w'.heap.size->PI w' g w.heap.size A n k xs rd0->Calls Tryz.prog 147 #[.pointer (some ⟨g,0,none⟩)] w' λe w2=>e=.returned (.tuple #[.int .u64 (l1 xs).1,.int .u8 (k2 xs).1])/\PI w2 g w.heap.size A n k xs (k3 xs)/\Q0a g w' w2):=λw' g hs h=>M1b w' g _ A n k xs _ hby h hs
 have DE:Hid (∀(w':World) (g:Nat),PI w' g w.heap.size A n k xs (k3 xs)->Calls Tryz.prog 148 #[.pointer (some ⟨g,0,none⟩)] w' λe w2=>e=.returned (.int .i64 (H0a xs (k3 xs)))/\Q0a g w' w2):=λw' g h=>f3a w' g _ A n k xs _ h
 have hgp:jgP 18 xs=({ q0a with file:=(l1 xs).1,lev:=(k2 xs).1 },(k3 xs)):=by unfold jgP;rw[if_neg (by decide),if_neg (by decide),if_pos rfl]
 have hge:t5a 18 xs=H0a xs (k3 xs):=by unfold t5a;rw[if_pos hk,hgp]
 have HQ:Hid (∀(cs:List Value) (e:Ending) (w':World),H0a xs (k3 xs)=0->e=.returned (.tuple #[.agg cs.toArray,.int .i64 0])->n1a w' w'.heap.size cs { q0a with file:=(l1 xs).1,lev:=(k2 xs).1 }->cs[15]? = some (.slice none 0 0)->Below w.heap.size w w'->(∀b off s n c,cs[17]? = some (.slice (some ⟨b,off,s⟩) n c)->w.heap.size<=b)->T2a w 18 xs e w'):=by
  intro cs e w' h0 h1 h2 h3 h5 h9;have ho:L9a 18 xs={ q0a with file:=(l1 xs).1,lev:=(k2 xs).1 }:=by unfold L9a;rw[hge,h0,if_pos rfl,hgp]
  unfold T2a;rw[hge,h0,ho];exact⟨cs,h1,h2,h3,h5,h9⟩
 have HE':=hI (HE.out _ hge);obtain⟨er,her⟩:∃x,x=H0a xs (k3 xs):=⟨_,rfl⟩;rw[<-her] at DE HQ HE';obtain⟨q1,hq1⟩:∃x,x=(l1 xs).1:=⟨_,rfl⟩;rw[<-hq1] at D1 HQ;obtain⟨q2,hq2⟩:∃x,x=(k2 xs).1:=⟨_,rfl⟩;rw[<-hq2] at D1 HQ;obtain⟨q3,hq3⟩:∃x,x=(k3 xs):=⟨_,rfl⟩;rw[<-hq3] at D1 DE;clear HE hk hx her hge hgp hq1 hq2 hq3;go_wp2_with fail;refine(D1.out w4 g L4.out.size P4.out).mono ?_;rintro e v1 ⟨rfl,hP,hS⟩;have Pc1:=hI hP;have Zc1:=hI (Z4.out.save hS hhg);have Kc1:=hI (K4.out.save hS hag);have Lc1:=hI (L4.out.trans (hS.below hwg L4.out.size));clear hP hS P4 Z4 K4 L4;go_wp2_with(first
  | ((with_reducible refine sT 46 ?_);refine d0a rfl _ (.tmp 46) (.tmp 44) rfl a 13 rfl _ zs (.int .u64 q1) rfl Kc1 (hI (by have:=HZ.out;omega)) (by kernel_rfl) rfl ?_;intro x1 Ks1 Os1 hqs1;obtain⟨C1,hC1⟩:∃x,x=zs.set 13 (.int .u64 q1):=⟨_,rfl⟩;have HC1:=hI hC1;have HL1:Hid (C1.length=20):=(by rw[hC1,List.length_set];exact HZ.out);rw[<-hC1] at Ks1;have Zs1:=hI (Zc1.out.only Os1.out hha);have Ps1:=hI (Pc1.out.only Os1.out (Ne.symm hag) hwa);have Ls1:=hI (c0a Lc1.out Os1.out hwa);clear hC1)
  | ((with_reducible refine sT 47 ?_);refine d0a rfl _ (.tmp 47) (.tmp 45) rfl a 10 rfl _ C1 (.int .u8 q2) rfl Ks1 (hI (by have:=HL1.out;omega)) (by kernel_rfl) rfl ?_;intro wz Kz Oz hqz;obtain⟨CF,hCF⟩:∃x,x=C1.set 10 (.int .u8 q2):=⟨_,rfl⟩;have HCF:=hI hCF;have HLF:Hid (CF.length=20):=(by rw[hCF,List.length_set];exact HL1.out);rw[<-hCF] at Kz;have Zz:=hI (Zs1.out.only Oz.out hha);have Pz:=hI (Ps1.out.only Oz.out (Ne.symm hag) hwa);have Lz:=hI (c0a Ls1.out Oz.out hwa);clear hCF)
  | fail)
 have HEQ:Hid (CF=r0a (.slice none 0 0) (.slice none 0 0) { q0a with file:=q1,lev:=q2 }):=by
  show _=_
  rw[HCF.out,HC1.out,HZS.out];rfl
 rotate_left;all_goals
  refine(DE.out wz g Pz.out).mono ?_;rintro e ve ⟨rfl,hS⟩;have ZE:=hI (Zz.out.save hS hhg);have KE:=hI (Kz.out.save hS hag);have LE:=hI (Lz.out.trans (hS.below hwg Lz.out.size));clear hS Pz Zz Kz Lz;by_cases he:er=0;rotate_left
  ·have hne:(er != 0)=true:=by simpa using he
   have HN:=hI (HE'.out he);clear he HE' HQ;go_wp2_with(first
    | ((with_reducible refine sN 51 ?_);refine x0a rfl _ rfl zs BZ ?_)
    | ((with_reducible refine sT 4 ?_);refine b0a rfl _ (.tmp 4) (.tmp 51) rfl h rfl _ zs zs rfl ZE 20 s0a HZ HZ HZ1 ?_;intro w10 K10 O10 hg10)
    | fail)
   refine bodyPost_ret (v:=.tuple #[.agg zs.toArray,.int .i64 er]) ?_ rfl (HN.out _ _ rfl (c0a LE.out O10.out (by omega)));exact m0a rfl _ _ h _ _ (0,0) _ rfl K10.out Tryz.underlying39 rfl (by rw[s0a];have:=HZ.out;simp[this]) rfl
  ·subst he;have H1C:Hid (∀v∈CF,v.oneCell'=true):=by
    show _
    rw[HEQ.out];exact J1a rfl rfl
   go_wp2_with(first
    | ((with_reducible refine sN 53 ?_);refine e0a rfl _ (.tmp 6) rfl a rfl _ CF KE 20 _ Tryz.underlying39 rfl s0a HLF ?_)
    | ((with_reducible refine sT 4 ?_);refine b0a rfl _ (.tmp 4) (.tmp 53) rfl h rfl _ zs CF rfl ZE 20 s0a HZ HLF H1C ?_;intro w10 K10 O10 hg10)
    | fail)
   refine bodyPost_ret (v:=.tuple #[.agg CF.toArray,.int .i64 0]) ?_ rfl ?_
   ·exact m0a rfl _ _ h _ _ (0,0) _ rfl K10.out Tryz.underlying39 rfl (by rw[s0a];have:=HLF.out;simp[this]) rfl
   ·have LF:Below w.heap.size w w10:=c0a LE.out O10.out (by omega);exact HQ.out CF _ _ (by trivial) rfl ⟨none,0,0,none,0,0,by rw[HEQ.out],Holds.nil _ _,d1a.nil _ _ _ _⟩ (by rw[HEQ.out];rfl) LF (λb off s n c h=>by rw[HEQ.out] at h;have h2:some (Value.slice none 0 0)=some (Value.slice (some ⟨b,off,s⟩) n c):=h;cases h2)
structure L2c (a:m1a):Prop where
 u:a.user.size<=17592186044416/\a.share.size<=17592186044416
 n:a.name.size<=17592186044416/\a.pat.size<=17592186044416/\a.aft.size<=17592186044416
 l:a.locks.length<=4398046511104
def M2c(s:M1a):Prop:=s.ents.length<=4398046511104/\∀e∈s.ents,e.name.size<=17592186044416
theorem W8b{w:World}{c:Int}{ac:List Value}{a:m1a}(hc:0<=c/\c<=65535)(k:a.ok)(ha:f1a w w.heap.size ac a)(hf:L2c a)(hT:V7a w):d0c w c ac a:=by
 intro w' hb;unfold fPA pae pao;split
 ·exact s6a w' c ac a hc k (ha.over hb) hf.u (hT.below hb)
 ·split
  ·exact u5b w' c ac a hc k (ha.over hb) hf.u hf.n.1 hf.l (hT.below hb)
  ·exact w5b w' c ac a hc k (ha.over hb) hf.u hf.n (hT.below hb)
theorem X8b{w:World}{c:Int}{sc:List Value}{s:M1a}(hc:0<=c/\c<=65535)(k:s.ok)(hs:n1a w w.heap.size sc s)(hf:M2c s)(hT:V7a w):e0c w c sc s:=by
 intro w' hb;unfold fPS pse pso;split
 ·exact t6a w' c sc s hc k (hs.over hb)
 ·split
  ·exact v5b w' c sc s hc k (hs.over hb)
  ·exact x5b w' c sc s hc k (hs.over hb) hf (hT.below hb)
theorem Y8b{w:World}{base:Nat}{v:Value}{xs:List Int}(h:T5a w base v xs):UpV base (some v):=λb off s n c e=>by
 injection e with e
 exact(h.own.block (i:=b) (by rw[e];rfl)).1
theorem a6a{α:Type}{l:List α}(h:l.length<=0):l=[]:=List.eq_nil_of_length_eq_zero (by omega)
theorem Z8b(c:Int)(xs:List Int):(n0b c xs).dial=[]:=by
 unfold n0b;split
 ·unfold fgP;split
  ·rfl
  ·split
   ·rfl
   ·split
    ·rfl
    ·split<;>rfl
 ·rfl
theorem A4b{w:World}{c:Int}{A:Option Addr}{n k:Nat}{xs:List Int}(hc:0<=c/\c<=65535)(hx:Holds w w.heap.size A n k xs):Q8b w c A n k xs:=by
 intro w' hb;have hby:=hx.byte;unfold fGA gae gao;split
 ·refine(r1b w' c A n k xs hc (hx.over hb)).mono ?_;rintro e w2 ⟨vd,h1,h2,h3,h4⟩;obtain⟨n1,n2⟩:=O6b c xs;have hok:=k8b c hby;refine⟨_,h1,⟨hok,h2,⟨.inr λb off s n c e=>?_,.inl n1,.inl n2⟩,.slice none 0 0,p0a hok 12,by rw[n1];exact X0a.nil _ _ _ _⟩,h3⟩;injection e with e
  exact h4 b off s n c e
 ·split
  ·refine(k4b w' c A n k xs hc (hx.over hb)).mono ?_;rintro e w2 ⟨cs,vx,h1,h2,h3,h4,h5,h6⟩;exact⟨cs,h1,⟨d1c c hby,h2,⟨.inl (Z8b c xs),.inr (by rw[h3];exact Y8b h4),.inr h6⟩,vx,h3,h4⟩,h5⟩
  ·refine(z5b w' c A n k xs hc (hx.over hb)).mono ?_;rintro e w2 ⟨cs,h1,h2,h3,h4⟩;obtain⟨q1,q2,q3,_⟩:=Z6b c hby;exact⟨cs,h1,⟨n1c c hby,h2,⟨.inl (a6a q1),.inl (a6a q2),.inl (a6a q3)⟩,.slice none 0 0,h3,by rw[a6a q2];exact X0a.nil _ _ _ _⟩,h4⟩
theorem B4b{w:World}{c:Int}{A:Option Addr}{n k:Nat}{xs:List Int}(hc:0<=c/\c<=65535)(hx:Holds w w.heap.size A n k xs):f0c w c A n k xs:=by
 intro w' hb;have hby:=hx.byte;unfold fGS gse gso;split
 ·refine(G6b w' c A n k xs hc (hx.over hb)).mono ?_;rintro e w2 ⟨h1,h3⟩;obtain⟨n1,n2⟩:=w2b c xs;have hok:=l8b c hby;exact⟨_,h1,⟨hok,b1c w2 _ c xs,⟨.inl n1,.inl n2⟩,.slice none 0 0,B0a hok 5,by rw[n1];exact X0a.nil _ _ _ _⟩,h3⟩
 ·split
  ·refine(l5b w' c A n k xs hc (hx.over hb)).mono ?_;rintro e w2 ⟨cs,vx,h1,h2,h3,h4,h5⟩;exact⟨cs,h1,⟨e1c c hby,h2,⟨.inr (by rw[h3];exact Y8b h4),.inl (a6a (R6b c hby).2)⟩,vx,h3,h4⟩,h5⟩
  ·refine(z4b w' c A n k xs hc (hx.over hb)).mono ?_;rintro e w2 ⟨cs,h1,h2,h3,h4,h5⟩;have q1:=a6a (a7b c hby).1;exact⟨cs,h1,⟨o1c c hby,h2,⟨.inl q1,.inr h5⟩,.slice none 0 0,h3,by rw[q1];exact X0a.nil _ _ _ _⟩,h4⟩
theorem d6b(w:World)(m:J5a)(cs:List Value)(k:m.ok)(hm:Z3a w w.heap.size cs m)(fa:L2c m.a)(fs:M2c m.s)(hT:V7a w) :
  Calls Tryz.prog 8 #[.agg cs.toArray] w (s7a w m):=by
 obtain⟨ac,sc,rfl,ha,hs⟩:=hm;refine K0c w m ac sc k (ha.len k.a) (hs.len k.s) ha.one hs.one (W5b k) (M0c k) ?_;intro w' g hb B;exact B2b w' g m ac sc k B (ha.over hb) (hs.over hb) fa.u (hT.below hb) (λ_=>W8b (r7a k.h) k.a (ha.over hb) fa (hT.below hb)) (λ_=>X8b (r7a k.h) k.s (hs.over hb) fs (hT.below hb))
theorem x7a{xs:List Int}(hx:Bytes xs)(m:Nat):Lib.hasSuffix (Lib.bytesOf xs) (Lib.bytesOf (List.replicate m 0))=L6a xs m:=by
 have e0:Lib.bytesOf (List.replicate m 0)=List.replicate m (0:UInt8):=by unfold Lib.bytesOf;rw[List.map_replicate];rfl
 unfold Lib.hasSuffix L6a;rw[e0,Bool.eq_iff_iff,List.isSuffixOf_iff_suffix,List.suffix_iff_eq_drop,decide_eq_true_iff,List.length_replicate];have e1:(Lib.bytesOf xs).drop ((Lib.bytesOf xs).length-m)=(xs.drop (xs.length-m)).map (λn=>UInt8.ofNat n.toNat):=by unfold Lib.bytesOf;rw[List.length_map,List.map_drop]
 rw[e1];constructor
 ·intro h;have h2:=h.symm;rw[List.eq_replicate_iff] at h2⊢;refine⟨by simpa using h2.1,λb hb=>?_⟩;have h3:=h2.2 _ (List.mem_map.2 ⟨b,hb,rfl⟩);have h4:=hx b (List.mem_of_mem_drop hb);have h5:=congrArg UInt8.toNat h3;simp at h5;omega
 ·intro h;rw[h,List.map_replicate];rfl
theorem e6b{w:World}{B:Nat}{A:Option Addr}{n c:Nat}{xs:List Int}(h:Holds w B A n c xs):Lib.BytesIn w A n xs:=λh0=>by obtain⟨b,o,h1,_,h3⟩:=h.cells h0;exact⟨b,o,h1,h3⟩
theorem l0c(w:World)(B B':Nat)(A Z:Option Addr)(n c m d:Nat)(xs:List Int)(hx:Holds w B A n c xs)(hz:Holds w B' Z m d (List.replicate m 0)) :
  Calls Tryz.prog 62 #[.slice A n c,.slice Z m d] w λe w'=>e=.returned (.tuple #[.slice A (if L6a xs m=true then n-m else n) c,.bool (L6a xs m)])/\w=w':=by
 have hl:=hx.len;have hrm:=hx.room;refine(Tryz.bytes_CutSuffix_all A Z n c m d xs (List.replicate m 0) w hl (by simp) hx.fit (by omega) (e6b hx) (e6b hz)).mono ?_;rintro e w' ⟨rfl,rfl⟩;rw[x7a hx.byte]
 suffices key:Lib.trimSuffixV A n c xs (List.replicate m 0)=.slice A (if L6a xs m=true then n-m else n) c by rw[key];exact⟨rfl,rfl⟩
 cases m with
 | zero=>
  have:Lib.trimSuffixV A n c xs (List.replicate 0 0)=.slice A n c:=by unfold Lib.trimSuffixV;rcases A with _ | ⟨b,o,_ | s⟩<;>rfl
  rw[this];simp
 | succ m=>
  by_cases h0:0<n
  ·obtain⟨b,o,rfl,_,_⟩:=hx.cells h0;show Lib.bytesTrimSuffix b o n c xs (List.replicate (m+1) 0)=_
   unfold Lib.bytesTrimSuffix;rw[x7a hx.byte,List.length_replicate];by_cases he:L6a xs (m+1)=true
   ·rw[if_pos he,if_pos he];rfl
   ·rw[if_neg he,if_neg he]
  ·obtain rfl:n=0:=by omega
   have hnil:xs=[]:=List.eq_nil_of_length_eq_zero hl;have he:L6a xs (m+1)=false:=by rw[hnil];unfold L6a;simp
   rw[he];unfold Lib.trimSuffixV;rcases A with _ | ⟨b,o,s⟩
   ·rfl
   ·rcases s with _ | s
    ·show Lib.bytesTrimSuffix b o 0 c xs (List.replicate (m+1) 0)=_
     unfold Lib.bytesTrimSuffix;rw[x7a hx.byte,he];rfl
    ·rfl
def z7:List Value:=List.replicate 7 (.int .u8 0)
theorem v1c:(Tryz.prog.info? 103).map (λi=>(i.zero,i.size))=some (some (.agg z7.toArray),7):=by kernel_rfl
theorem w1c:(Tryz.prog.info? 103).map (·.size)=some 7:=by kernel_rfl
theorem m0c:Tryz.prog.built 103 []=some z7.toArray:=by kernel_rfl
theorem n0c{w:World}{g:Nat}{T:TypeId}(B:Blk w g T z7){m:Nat}(hm:m<=7):Holds w w.heap.size (some ⟨g,0,none⟩) m 7 (List.replicate m 0):=
 ⟨by simp,hm,by omega,Bytes.zeros m,λh=>(by cases h),λ_=>⟨g,0,rfl,B.lt,λi hi=>by
  rw[Nat.zero_add,B.cell];have h7:i<7:=by omega
  rw[show z7=List.replicate 7 (Value.int .u8 0) from rfl,List.getElem?_replicate,if_pos h7,List.getD_eq_getElem?_getD,List.getElem?_replicate,if_pos hi];rfl⟩⟩
theorem g7b{w:World}{B n c:Nat}{A:Option Addr}{xs:List Int}(h:Holds w B A n c xs){k:Nat}(hk:k<=n):Holds w B A k c (xs.take k):=
 ⟨by rw[List.length_take,h.len];omega,Nat.le_trans hk h.fit,Nat.le_trans hk h.room,h.byte.take k,h.bare,λh0=>by obtain⟨b,off,h1,h2,h3⟩:=h.cells (by omega);refine⟨b,off,h1,h2,λi hi=>?_⟩;rw[h3 i (by omega)];simp[List.getD_eq_getElem?_getD,List.getElem?_take,hi]⟩
theorem o0c{h:Hd}{xs:List Int}{n:Nat}(h8:n<8)(ht:K4b h xs n=true)(hp:∀j,j<n->K4b h xs j=false):atN h xs=some n:=by unfold atN;rw[List.find?_range_eq_some];exact⟨ht,List.mem_range.2 h8,λj hj=>by rw[hp j hj];rfl⟩
theorem p0c{h:Hd}{xs:List Int}(hp:∀j,j<8->K4b h xs j=false):atN h xs=none:=by unfold atN;rw[List.find?_eq_none];intro j hj;rw[hp j (List.mem_range.1 hj)];decide
theorem h7b(w:World)(g:Nat)(h:Hd)(ac sc:List Value)(k:h.ok)(B:Blk w g 60 (o0a h++(ac++sc)))(l1:ac.length=69)(l2:sc.length=20)(A:Option Addr)(n c:Nat)(xs:List Int)(hx:Holds w g A n c xs)(hn:h.nx≠0) :
  Calls Tryz.prog 31 #[.pointer (some ⟨g,0,none⟩),.slice A n c] w (R9a w g h ac sc xs):=by
 have gl:=B.lt;have hl:=hx.len;have hrm:=hx.room;have hft:=hx.fit;have hbare:=hx.bare;have CG:Hid (∀(w':World) ac' sc' m ys,Blk w' g 60 (o0a h++(ac'++sc'))->ac'.length=69->sc'.length=20->Holds w' g A m c ys->Calls Tryz.prog 61 #[.pointer (some ⟨g,0,none⟩),.slice A m c] w' (C2b w' g h ac' sc' ys)):=λw' ac' sc' m ys b q1 q2 hy=>D2b w' g h ac' sc' k b q1 q2 A m c ys (λ_=>A4b (r7a k) (hy.mono (Nat.le_of_lt b.lt))) (λ_=>B4b (r7a k) (hy.mono (Nat.le_of_lt b.lt)))
 unfold C2b at CG;have CK:Hid (∀(w':World) Z m d,Holds w' w'.heap.size Z m d (List.replicate m 0)->Holds w' g A n c xs->Calls Tryz.prog 62 #[.slice A n c,.slice Z m d] w' λe w2=>e=.returned (.tuple #[.slice A (if L6a xs m=true then n-m else n) c,.bool (L6a xs m)])/\w'=w2):=λw' Z m d h1 h2=>l0c w' g _ A Z n c m d xs h2 h1
 have CM:Hid (∀(w:World) A n c,n<=281474976710656->Calls Tryz.prog 23 #[.slice A n c] w λe w'=>e=.returned (.int .i64 (T1b n:Nat))/\w=w'):=λw A n c h=>F1b w A n c h
 have RN:Hid (∀(w':World) ac' sc',Blk w' g 60 (o0a h++(ac'++sc'))->w'.cell? ⟨g,5,none⟩=some (.int .u32 h.nx)):=λw' ac' sc' b=>Blk.cell b 5
 have hnz:(h.nx==0)=false:=by simpa using hn
 obtain⟨nx,hnx⟩:∃x,x=h.nx:=⟨_,rfl⟩;rw[<-hnx] at RN hnz;have ZH:=hI v1c;have BZ:=m0c;have HZ:Hid (z7.length=7):=rfl;have HZO:Hid (∀v∈z7,v.oneCell'=true):=by intro v hv;rw[List.eq_of_mem_replicate hv];rfl
 have HZH:Hid (∀(w':World) g6,Blk w' g6 103 z7->∀m,m<=7->Holds w' w'.heap.size (some ⟨g6,0,none⟩) m 7 (List.replicate m 0)):=λw' g6 b m hm=>n0c b hm
 obtain⟨zs,hzs⟩:∃x,x=z7:=⟨_,rfl⟩;rw[<-hzs] at ZH BZ HZ HZO HZH;have HT:Hid (∀m,K4b h xs m=(L6a xs m&&(decide (T1b (n-m)=m)&&decide (G4a h (xs.take (n-m))=0)))):=λm=>by unfold K4b;rw[hl]
 have HY:Hid (∀m ac' sc' ac2 sc2 e (w1 w2:World),m<8->K4b h xs m=true->(∀j,j<m->K4b h xs j=false)->e=.returned (.int .i64 0)->Blk w2 g 60 (o0a h++(ac2++sc2))->Q0a g w w2->w.heap.size<=w1.heap.size->(m3a h.fl=true->ac'=ac)->(m3a h.fl=false->sc'=sc)->w2c w1 w2 h ac' sc' ac2 sc2 (xs.take (n-m))->R9a w g h ac sc xs e w2):=by
  intro m ac' sc' ac2 sc2 e w1 w2 h8 ht hp he hb hs hsz r1 r2 hg;have hat:=o0c h8 ht hp;have e1:p0b h xs=0:=by unfold p0b;rw[if_neg hn,hat];rfl
  have e2:e2b h xs=xs.take (n-m):=by unfold e2b;rw[if_neg hn,hat,Option.getD_some,hl]
  refine⟨ac2,sc2,by rw[e1];exact he,hb,hs,λ_=>?_⟩;rw[e2];refine⟨λhr=>?_,λhr=>?_⟩
  ·obtain⟨q1,q2⟩:=hg.1 hr;exact⟨q1.trans (r1 hr),q2.mono hsz⟩
  ·obtain⟨q1,q2⟩:=hg.2 hr;exact⟨q1.trans (r2 hr),q2.mono hsz⟩
 have HN:Hid (∀ac2 sc2 e (w2:World),(∀j,j<8->K4b h xs j=false)->e=.returned (.int .i64 (if G4a h xs=0 then 5 else G4a h xs))->Blk w2 g 60 (o0a h++(ac2++sc2))->Q0a g w w2->R9a w g h ac sc xs e w2):=by
  intro ac2 sc2 e w2 hp he hb hs;have e1:p0b h xs=if G4a h xs=0 then 5 else G4a h xs:=by unfold p0b;rw[if_neg hn,p0c hp];rfl
  refine⟨ac2,sc2,by rw[e1];exact he,hb,hs,λh0=>?_⟩;rw[e1] at h0;split at h0
  ·exact absurd h0 (by decide)
  ·rename_i h2;exact absurd h0 h2
 have C1:=hI (CG.out w ac sc n xs B l1 l2 hx);obtain⟨er,her⟩:∃x,x=G4a h xs:=⟨_,rfl⟩;rw[<-her] at C1 HN;have HX:=hI hx;clear her hzs hnx hn B hx;go_enter Tryz.func31,Tryz.ntmps31;go_wp2_with fail;refine C1.out.mono ?_;rintro e w1 ⟨ac1,sc1,rfl,hb1,q1,q2,hs1,hg1⟩;have gn:=RN.out _ _ _ hb1;have r1:m3a h.fl=true->ac1=ac:=λhr=>(hg1.1 hr).1
 have r2:m3a h.fl=false->sc1=sc:=λhr=>(hg1.2 hr).1
 have B1:=hI hb1;have S1:=hI hs1;have R1:=hI r1;have R2:=hI r2;have hs1z:=hs1.size;clear hb1 hs1 hg1 r1 r2 C1;go_wp2_with(first
  | ((with_reducible refine sN 20 ?_);refine x0a rfl _ rfl zs BZ ?_)
  | ((with_reducible refine sN 6 ?_);refine a0a rfl _ rfl zs _ ZH ?_;intro g6 w2 hg6 hg7 Z2 L2;have B2:=hI (B1.out.over L2.out);have S2:=hI (S1.out.trans (Q0a.of_below L2.out g)))
  | ((with_reducible refine sT 6 ?_);refine b0a rfl _ (.tmp 6) (.tmp 20) rfl g6 rfl _ zs zs rfl Z2 7 w1c HZ HZ HZO ?_;intro w3 Z3 O3 hg8;have hne:g≠g6:=(by omega);have B3:=hI (B2.out.only O3.out hne);have hw6:w.heap.size<=g6:=(by omega);have S3:Hid (Q0a g w w3):=⟨by rw[O3.out.os];exact S2.out.os,by rw[O3.out.tape];exact S2.out.tape,by rw[O3.out.output];exact S2.out.output,Nat.le_trans S2.out.size (Nat.le_of_eq O3.out.size.symm),λj hj hg=>(O3.out.rest j (by omega)).trans (S2.out.rest j hj hg)⟩)
  | fail)
 clear B1 B2 S1 S2 Z2 L2 O3;go_loopw [21] (λi wr=>∃m:Nat,m<=8/\i=.int .i64 m/\∃ac' sc',Hid (Blk wr g 60 (o0a h++(ac'++sc')))/\Hid (ac'.length=69)/\Hid (sc'.length=20)/\Hid (Blk wr g6 103 zs)/\Hid (Q0a g w wr)/\Hid (m3a h.fl=true->ac'=ac)/\Hid (m3a h.fl=false->sc'=sc)/\Hid (∀j,j<m->K4b h xs j=false)) (λi _=>8-(intOf i).toNat)
 case atStart=>exact⟨0,by omega,rfl,ac1,sc1,B3,q1,q2,Z3,S3,R1,R2,λj hj=>absurd hj (by omega)⟩
 case round=>
  clear B3 Z3 S3 R1 R2 q1 q2;obtain⟨m,hm8,rfl,ac',sc',BB,Q1,Q2,ZZ,SS,R1,R2,PP⟩:=hrel;by_cases hlt:m<8;rotate_left
  ·obtain rfl:m=8:=by omega
   by_cases h0:er=0
   ·have HNN:=hI (λe w2 (he:e=.returned (.int .i64 5)) hb hs=>HN.out ac' sc' e w2 PP.out (by rw[if_pos h0];exact he) hb hs);subst h0;go_wp2_with fail;go_ret;exact HNN.out _ _ rfl BB.out SS.out
   ·have hne0:(er==0)=false:=by simpa using h0
    have HNN:=hI (λe w2 (he:e=.returned (.int .i64 er)) hb hs=>HN.out ac' sc' e w2 PP.out (by rw[if_neg h0];exact he) hb hs);clear h0;go_wp2_with fail;go_ret;exact HNN.out _ _ rfl BB.out SS.out
  have HZm:=HZH.out wr g6 ZZ.out m (by omega);have hwr:=SS.out.size;have HXr:Holds wr g A n c xs:=HX.out.below (SS.out.below (Nat.le_refl g) (Nat.le_of_lt gl));have CKm:=hI (CK.out wr _ m 7 HZm HXr);have hm7:(m:Int)<=7:=by omega
  by_cases hez:L6a xs m=true;rotate_left
  ·have hez':L6a xs m=false:=by simpa using hez
   have PN:Hid (∀j,j<m+1->K4b h xs j=false):=λj hj=>by
    by_cases hjm:j=m
    ·subst hjm;rw[HT.out,hez'];rfl
    ·exact PP.out j (by omega)
   rw[hez'] at CKm;clear hez hez' HZm HXr CK;go_wp2_with fail;refine CKm.out.mono ?_;rintro e w4 ⟨rfl,rfl⟩;go_wp2_with fail;go_roundw
   case rel=>exact⟨m+1,by omega,by go_num,ac',sc',BB,Q1,Q2,ZZ,SS,R1,R2,PN⟩
   case measure=>simp[intOf];omega
  have hmn:m<=n:=by have:=(p1c hez).1;omega
  have CMm:=hI (CM.out wr A (n-m) c (by omega));rw[hez] at CKm;by_cases hpm:T1b (n-m)=m;rotate_left
  ·have hpi:(((T1b (n-m):Nat):Int)==(m:Int))=false:=by rw[beq_eq_false_iff_ne];omega
   have PN:Hid (∀j,j<m+1->K4b h xs j=false):=λj hj=>by
    by_cases hjm:j=m
    ·subst hjm;rw[HT.out,hez,show decide (T1b (n-j)=j)=false from decide_eq_false hpm];rfl
    ·exact PP.out j (by omega)
   obtain⟨p,hp⟩:∃x,x=T1b (n-m):=⟨_,rfl⟩;rw[<-hp] at CMm hpi;clear hez HZm HXr CK hpm hp;go_wp2_with fail;refine CKm.out.mono ?_;rintro e w4 ⟨rfl,rfl⟩;go_wp2_with fail;refine CMm.out.mono ?_;rintro e w4 ⟨rfl,rfl⟩;go_wp2_with fail;go_roundw
   case rel=>exact⟨m+1,by omega,by go_num,ac',sc',BB,Q1,Q2,ZZ,SS,R1,R2,PN⟩
   case measure=>simp[intOf];omega
  rw[hpm] at CMm;have C2:=hI (CG.out wr ac' sc' (n-m) (xs.take (n-m)) BB.out Q1.out Q2.out (g7b HXr (by omega)));have TM:Hid (∀b,decide (G4a h (xs.take (n-m))=0)=b->K4b h xs m=b):=λb hb=>by rw[HT.out,hez,show decide (T1b (n-m)=m)=true from decide_eq_true hpm,hb];rfl
  obtain⟨e2,he2⟩:∃x,x=G4a h (xs.take (n-m)):=⟨_,rfl⟩;rw[<-he2] at C2 TM;clear hez HZm HXr CK hpm he2;by_cases h0:e2=0
  ·subst h0;have TT:=hI (TM.out true (by simp));go_wp2_with fail;refine CKm.out.mono ?_;rintro e w4 ⟨rfl,rfl⟩;go_wp2_with fail;refine CMm.out.mono ?_;rintro e w4 ⟨rfl,rfl⟩;go_wp2_with fail;refine C2.out.mono ?_;rintro e w5 ⟨ac2,sc2,rfl,hb2,_,_,hs2,hg2⟩;have HF:=hI (HY.out m ac' sc' ac2 sc2 _ wr w5 hlt TT.out PP.out rfl hb2 (SS.out.trans hs2) hwr R1.out R2.out hg2);clear hb2 hs2 hg2;go_wp2_with fail;go_ret;exact HF.out
  ·have TT:=hI (TM.out false (decide_eq_false h0));have hne2:(e2==0)=false:=by simpa using h0
   have PN:Hid (∀j,j<m+1->K4b h xs j=false):=λj hj=>by
    by_cases hjm:j=m
    ·subst hjm;exact TT.out
    ·exact PP.out j (by omega)
   clear h0;go_wp2_with fail;refine CKm.out.mono ?_;rintro e w4 ⟨rfl,rfl⟩;go_wp2_with fail;refine CMm.out.mono ?_;rintro e w4 ⟨rfl,rfl⟩;go_wp2_with fail;refine C2.out.mono ?_;rintro e w5 ⟨ac2,sc2,rfl,hb2,q1,q2,hs2,hg2⟩;have B5:=hI hb2;have Q15:=hI q1;have Q25:=hI q2;have S5:=hI (SS.out.trans hs2);have Z5:=hI (ZZ.out.save hs2 (by omega));have R15:Hid (m3a h.fl=true->ac2=ac):=λhr=>((hg2.1 hr).1).trans (R1.out hr)
   have R25:Hid (m3a h.fl=false->sc2=sc):=λhr=>((hg2.2 hr).1).trans (R2.out hr)
   clear hb2 q1 q2 hs2 hg2;go_wp2_with fail;go_roundw
   case rel=>exact⟨m+1,by omega,by go_num,ac2,sc2,B5,Q15,Q25,Z5,S5,R15,R25,PN⟩
   case measure=>simp[intOf];omega
theorem f6b(w:World)(A:Option Addr)(n c:Nat)(xs:List Int)(hx:Holds w w.heap.size A n c xs):Calls Tryz.prog 13 #[.slice A n c] w (t7a w xs):=by
 refine L0c w A n c xs hx λh0=>?_
 intro w' g A' n' c' hb B hy;have k:=J0b xs 0 hx.byte;by_cases hn:(l2a xs 0).nx=0
 ·exact E2b w' g _ zac zsc k B w9a x9a A' n' c' _ hn (λ_=>A4b (r7a k) (hy.mono (Nat.le_of_lt B.lt))) (λ_=>B4b (r7a k) (hy.mono (Nat.le_of_lt B.lt)))
 ·exact h7b w' g _ zac zsc k B w9a x9a A' n' c' _ hy hn
theorem M2b{w:World}{B:Nat}{ad:Addr}{n c:Nat}{xs:List Int}(hr:Holds w B (some ad) n c xs):∀j u,(xs.map (Value.int .u8))[j]? = some u->w.cell? (ad.add j)=some u:=by
 have hl:=hr.len;intro j u hj;have hjl:j<xs.length:=by
  by_cases hj':j<xs.length
  ·exact hj'
  ·rw[List.getElem?_eq_none (by simp;omega)] at hj;cases hj
 obtain⟨b,off,he,_,hcl⟩:=hr.cells (by omega);obtain rfl:=Option.some.inj he;have e:(⟨b,off,none⟩:Addr).add j=⟨b,off+j,none⟩:=by
  by_cases hj0:j=0
  ·subst hj0;simp[Addr.add]
  ·simp[Addr.add,hj0]
 rw[e,hcl j (by omega),<-hj];simp[hjl]
theorem f9a{w:World}{ops:Array Oper}{rest:List Oper}{o:Oper}{a:Act}{Q:Exit->Act->World->Prop}(hgd:o.guard=none)(s x:Operand)
(ho:o.op=.call { callee:=.builtin .append,args:=#[s,x],argTypes:=#[31,31] })
(B:Nat)(A:Option Addr)(n c:Nat)(xs:List Int)(hs:a.eval s=.slice A n n)(hX:Holds w B A n c xs)(B':Nat)(A':Option Addr)(m c':Nat)(ys:List Int)(hx:a.eval x=.slice A' m c')
(hY:Holds w B' A' m c' ys)(hm:0<m)(hlen:n+m<=140737488355328)
(h:∀v' w',Hid (Own w' w.heap.size v' (xs++ys))->Below w.heap.size w w'->wpList Tryz.prog ops Q rest (a.put o.dst v') w') :
  wpList Tryz.prog ops Q (o::rest) a w:=by
 obtain⟨i0,hi,hz0,hz1,hz2⟩:=info_parts N3a;have hl:=hX.len;have hl':=hY.len;rcases A' with _ | ad
 ·exact absurd (hY.bare rfl) (by have:=hY.fit;omega)
 refine wpList_append_grows w hgd s x 31 ho 5 i0 (.int .u8 0) 1 1 Tryz.underlying31 hi hz0 hz1 hz2 rfl (by omega) A n n (xs.map (Value.int .u8)) hs (λhA=>?_) (by simp[hl]) (λb hb=>?_)
  ad m c' (ys.map (Value.int .u8)) hx (by simp[hl']) (M2b hY) (by intro v hv;obtain⟨x,_,rfl⟩:=List.mem_map.1 hv;rfl) (by omega) (by unfold maxLen;omega) (by omega) ?_
 ·have:=hX.bare hA;have:=hX.fit;exact⟨by omega,by omega⟩
 ·subst hb;exact M2b hX
 ·intro v' w' h1 h2;refine h v' w' ?_ ((Below.refl _ _).grown h2 (Nat.le_refl _) (λk hk=>by cases hk));show w'.ownsRow w.heap.size 5 1 v' (xs++ys).length ((xs++ys).map (Value.int .u8))
  rw[List.map_append,List.length_append,hl,hl'];exact h1
def g6b(h:Hd)(s:Int):Hd:=⟨h.ch,IntKind.u32.wrap s,h.cm,0,if h.fl/4%2=1 then 5 else 1,0,h.id,0,if d6a h.fl=true then 0 else h.tr,h.se,List.replicate 16 0⟩
theorem A5b{h:Hd}(k:h.ok)(s:Int):(g6b h s).ok:=by
 refine⟨k.ch,?_,k.cm,(by decide:(0:Int)<=0/\(0:Int)<=65535),?_,(by decide:(0:Int)<=0/\(0:Int)<=4294967295),k.id,(by decide:(0:Int)<=0/\(0:Int)<=18446744073709551615),?_,k.se,by simp[g6b],Bytes.zeros 16⟩
 ·show 0<=IntKind.u32.wrap s/\IntKind.u32.wrap s<=4294967295
  have e:IntKind.u32.wrap s=s%4294967296:=by unfold IntKind.wrap;rfl
  rw[e];omega
 ·show 0<=(if h.fl/4%2=1 then (5:Int) else 1)/\(if h.fl/4%2=1 then (5:Int) else 1)<=4294967295
  split<;>omega
 ·show 0<=(if d6a h.fl=true then 0 else h.tr)/\(if d6a h.fl=true then 0 else h.tr)<=4294967295
  split
  ·decide
  ·exact k.tr
theorem q0c(x:Int)(h0:0<=x)(h1:x<=4294967295):bits .or .u32 1 (bits .and .u32 x 4)=if x/4%2=1 then 5 else 1:=by
 obtain⟨a,rfl⟩:=Int.eq_ofNat_of_zero_le h0;have e:(bits .and .u32 (a:Int) 4)=((a &&& 4:Nat):Int):=by rw[show(4:Int)=((4:Nat):Int) from rfl,u32_and_nat a 4 (by omega) (by omega)]
 rw[e];have h2:a &&& 4=if a/4%2=1 then 4 else 0:=by
  have ht:a.testBit 2=decide (a/4%2=1):=by rw[Nat.testBit_eq_decide_div_mod_eq]
  apply Nat.eq_of_testBit_eq;intro i;rw[Nat.testBit_and,show(4:Nat)=2^2 from rfl,Nat.testBit_two_pow];by_cases hi:2=i
  ·subst hi;rw[ht];by_cases h:a/4%2=1
   ·rw[if_pos h,decide_eq_true h];decide
   ·rw[if_neg h,decide_eq_false h];decide
  ·rw[decide_eq_false hi,Bool.and_false];split
   ·rw[Nat.testBit_two_pow,decide_eq_false hi]
   ·exact(Nat.zero_testBit i).symm
 rw[h2];by_cases h:a/4%2=1
 ·rw[if_pos h,if_pos (by omega)];decide
 ·rw[if_neg h,if_neg (by omega)];decide
theorem i7b(w:World)(h:Hd)(k:h.ok)(s:Int)(hs:-9223372036854775808<=s/\s<=9223372036854775807) :
  Calls Tryz.prog 29 #[hv h,.int .i64 s] w λe w'=>e=.returned (hv (g6b h s))/\Below w.heap.size w w':=by
 have HL:=hI (L0a k);have ZH:=hI p9a;have HZ:=hI (L0a o3a);have hfr:=q0c h.fl k.fl.1 k.fl.2;have hfa:=u8b h.fl k.fl.1 k.fl.2;have FC:Hid (∀(w:World) (g:Nat),Blk w g 28 (o0a h)->w.cell? ⟨g,0,none⟩=some (.int .u16 h.ch)/\w.cell? ⟨g,2,none⟩=some (.int .u16 h.cm)/\w.cell? ⟨g,4,none⟩=some (.int .u32 h.fl)/\w.cell? ⟨g,6,none⟩=some (.int .u64 h.id)/\w.cell? ⟨g,8,none⟩=some (.int .u32 h.tr)/\w.cell? ⟨g,9,none⟩=some (.int .u64 h.se)):=λw g B=>⟨HB.c0 B,HB.c2 B,HB.c4 B,HB.c6 B,HB.c8 B,HB.c9 B⟩
 obtain⟨st,hst⟩:∃x,x=IntKind.u32.wrap s:=⟨_,rfl⟩;obtain⟨fr,hfre⟩:∃x:Int,x=if h.fl/4%2=1 then 5 else 1:=⟨_,rfl⟩
 rw[<-hfre] at hfr;obtain⟨za,hza⟩:∃x,x=d6a h.fl:=⟨_,rfl⟩;rw[<-hza] at hfa;have e1:o0a (g6b h s)=o0a ⟨h.ch,st,h.cm,0,fr,0,h.id,0,if za=true then 0 else h.tr,h.se,List.replicate 16 0⟩:=by unfold g6b;rw[hst,hfre,hza]
 have BL:Tryz.prog.built 28 [(0,.int .u16 h.ch),(1,.int .u32 st),(2,.int .u16 h.cm),(4,.int .u32 fr),(6,.int .u64 h.id),(8,.int .u32 h.tr),(9,.int .u64 h.se)]=some (o0a ⟨h.ch,st,h.cm,0,fr,0,h.id,0,h.tr,h.se,List.replicate 16 0⟩).toArray:=by kernel_rfl
 have HX:Hid ((o0a ⟨h.ch,st,h.cm,0,fr,0,h.id,0,h.tr,h.se,List.replicate 16 0⟩).length=26):=rfl;have HXO:=hI (v2a ⟨h.ch,st,h.cm,0,fr,0,h.id,0,h.tr,h.se,List.replicate 16 0⟩);have HY:Hid ((o0a ⟨h.ch,st,h.cm,0,fr,0,h.id,0,0,h.se,List.replicate 16 0⟩).length=26):=rfl;have HYO:=hI (v2a ⟨h.ch,st,h.cm,0,fr,0,h.id,0,0,h.se,List.replicate 16 0⟩);have HS:Hid ((o0a ⟨h.ch,st,h.cm,0,fr,0,h.id,0,h.tr,h.se,List.replicate 16 0⟩).set 8 (.int .u32 0)=o0a ⟨h.ch,st,h.cm,0,fr,0,h.id,0,0,h.se,List.replicate 16 0⟩):=rfl;unfold hv;rw[e1];obtain⟨cs,hcs⟩:∃cs,cs=o0a h:=⟨_,rfl⟩;rw[<-hcs] at HL FC⊢;obtain⟨zs,hzs⟩:∃zs,zs=o0a N1a:=⟨_,rfl⟩;rw[<-hzs] at ZH HZ;obtain⟨xs,hxs⟩:∃x,x=o0a ⟨h.ch,st,h.cm,0,fr,0,h.id,0,h.tr,h.se,List.replicate 16 0⟩:=⟨_,rfl⟩;rw[<-hxs] at BL HX HXO HS;obtain⟨ys,hys⟩:∃x,x=o0a ⟨h.ch,st,h.cm,0,fr,0,h.id,0,0,h.se,List.replicate 16 0⟩:=⟨_,rfl⟩;rw[<-hys] at HY HYO HS;have e2:o0a ⟨h.ch,st,h.cm,0,fr,0,h.id,0,if za=true then 0 else h.tr,h.se,List.replicate 16 0⟩=if za=true then ys else xs:=by rw[hys,hxs];cases za<;>rfl
 rw[e2];obtain⟨ch,hch⟩:∃x,x=h.ch:=⟨_,rfl⟩;obtain⟨cm,hcm⟩:∃x,x=h.cm:=⟨_,rfl⟩;obtain⟨fl,hfl⟩:∃x,x=h.fl:=⟨_,rfl⟩;obtain⟨id,hid⟩:∃x,x=h.id:=⟨_,rfl⟩;obtain⟨tr,htr⟩:∃x,x=h.tr:=⟨_,rfl⟩;obtain⟨se,hse⟩:∃x,x=h.se:=⟨_,rfl⟩;rw[<-hch,<-hcm,<-hid,<-htr,<-hse] at BL;rw[<-hch,<-hcm,<-hfl,<-hid,<-htr,<-hse] at FC;rw[<-hfl] at hfr hfa;have hst':IntKind.u32.wrap s=st:=hst.symm;have hstm:s%4294967296=st:=by rw[<-hst'];rfl
 clear e1 e2 hxs hys hcs hzs hza hfre hch hcm hfl hid htr hse k hst;cases za
 ·rw[if_neg (by decide)];go_enter Tryz.func29,Tryz.ntmps29;go_wp2_with(first
   | ((with_reducible refine sN 2 ?_);refine f0a rfl _ (.tmp 0) rfl cs rfl ?_;intro g w1 hg1 hg2 B1 L1;obtain⟨c0,c2,c4,c6,c8,c9⟩:=FC.out _ _ B1.out)
   | ((with_reducible refine sN 4 ?_);refine a0a rfl _ rfl zs _ ZH ?_;intro g0 w2 hg3 hg4 Z2 L2;have B2:=hI (B1.out.over L2.out);have M2:=hI (step L1.out L2.out);obtain⟨d0,d2,d4,d6,d8,d9⟩:=FC.out _ _ B2.out)
   | ((with_reducible refine sN 22 ?_);refine k0a rfl _ _ rfl xs (by refine Eq.trans (congrArg (Tryz.prog.built 28) ?_) BL;kernel_rfl) ?_)
   | ((with_reducible refine sN 5 ?_);refine a0a rfl _ rfl zs _ ZH ?_;intro g5 w3 hg5 hg6 X3 L3;have Z3:=hI (Z2.out.over L3.out);have B3:=hI (B2.out.over L3.out);have M3:=hI (step M2.out L3.out);have hgw:=L1.out.size)
   | ((with_reducible refine sT 5 ?_);refine b0a rfl _ (.tmp 5) (.tmp 22) rfl g5 rfl _ zs xs rfl X3 26 J0a HZ HX HXO ?_;intro w4 X4 O4 hg7;have Z4:=hI (Z3.out.only O4.out (by have:=Z2.out.lt;omega));have B4:=hI (B3.out.only O4.out (by have:=B2.out.lt;omega));obtain⟨k0,k2,k4,k6,k8,k9⟩:=FC.out _ _ B4.out;have M4:=hI (c0a M3.out O4.out (by have:=L2.out.size;omega)))
   | ((with_reducible refine sN 28 ?_);refine e0a rfl _ (.tmp 5) rfl g5 rfl _ xs X4 26 _ Tryz.underlying28 rfl J0a HX ?_)
   | ((with_reducible refine sT 4 ?_);refine b0a rfl _ (.tmp 4) (.tmp 28) rfl g0 rfl _ zs xs rfl Z4 26 J0a HZ HX HXO ?_;intro w5 X5 O5 hg8;clear c0 c2 c4 c6 c8 c9 d0 d2 d4 d6 d8 d9 k0 k2 k4 k6 k8 k9 hfr hfa hst' hstm FC)
   | fail)
  refine bodyPost_ret (v:=.agg xs.toArray) ?_ rfl ⟨rfl,c0a M4.out O5.out (by omega)⟩;exact results_cell_row rfl _ _ g0 _ _ (0,0) _ rfl X5.out Tryz.underlying28 rfl (by rw[J0a];have:=HX.out;simp[this])
 ·rw[if_pos rfl];go_enter Tryz.func29,Tryz.ntmps29;go_wp2_with(first
   | ((with_reducible refine sN 2 ?_);refine f0a rfl _ (.tmp 0) rfl cs rfl ?_;intro g w1 hg1 hg2 B1 L1;obtain⟨c0,c2,c4,c6,c8,c9⟩:=FC.out _ _ B1.out)
   | ((with_reducible refine sN 4 ?_);refine a0a rfl _ rfl zs _ ZH ?_;intro g0 w2 hg3 hg4 Z2 L2;have B2:=hI (B1.out.over L2.out);have M2:=hI (step L1.out L2.out);obtain⟨d0,d2,d4,d6,d8,d9⟩:=FC.out _ _ B2.out)
   | ((with_reducible refine sN 22 ?_);refine k0a rfl _ _ rfl xs (by refine Eq.trans (congrArg (Tryz.prog.built 28) ?_) BL;kernel_rfl) ?_)
   | ((with_reducible refine sN 5 ?_);refine a0a rfl _ rfl zs _ ZH ?_;intro g5 w3 hg5 hg6 X3 L3;have Z3:=hI (Z2.out.over L3.out);have B3:=hI (B2.out.over L3.out);have M3:=hI (step M2.out L3.out);have hgw:=L1.out.size)
   | ((with_reducible refine sT 5 ?_);refine b0a rfl _ (.tmp 5) (.tmp 22) rfl g5 rfl _ zs xs rfl X3 26 J0a HZ HX HXO ?_;intro w4 X4 O4 hg7;have Z4:=hI (Z3.out.only O4.out (by have:=Z2.out.lt;omega));have B4:=hI (B3.out.only O4.out (by have:=B2.out.lt;omega));obtain⟨k0,k2,k4,k6,k8,k9⟩:=FC.out _ _ B4.out;have M4:=hI (c0a M3.out O4.out (by have:=L2.out.size;omega)))
   | ((with_reducible refine sT 27 ?_);refine d0a rfl _ (.tmp 27) _ rfl g5 8 rfl _ xs (.int .u32 0) rfl X4 (hI (by have:=HX.out;omega)) (by kernel_rfl) rfl ?_;intro w6 X6 O6 hg9;rw[HS.out] at X6;have Z6:=hI (Z4.out.only O6.out (by have:=Z2.out.lt;omega));have M6:=hI (c0a M4.out O6.out (by have:=L2.out.size;omega)))
   | ((with_reducible refine sN 28 ?_);refine e0a rfl _ (.tmp 5) rfl g5 rfl _ ys X6 26 _ Tryz.underlying28 rfl J0a HY ?_)
   | ((with_reducible refine sT 4 ?_);refine b0a rfl _ (.tmp 4) (.tmp 28) rfl g0 rfl _ zs ys rfl Z6 26 J0a HZ HY HYO ?_;intro w5 X5 O5 hg8;clear c0 c2 c4 c6 c8 c9 d0 d2 d4 d6 d8 d9 k0 k2 k4 k6 k8 k9 hfr hfa hst' hstm FC)
   | fail)
  refine bodyPost_ret (v:=.agg ys.toArray) ?_ rfl ⟨rfl,c0a M6.out O5.out (by omega)⟩;exact results_cell_row rfl _ _ g0 _ _ (0,0) _ rfl X5.out Tryz.underlying28 rfl (by rw[J0a];have:=HY.out;simp[this])
def h6b(m:J5a):Prop:=(m.a.dial.length<=281474976710656/\m.a.data.length<=281474976710656/\m.a.locks.length<=281474976710656)/\m.s.data.length<=281474976710656/\m.s.ents.length<=281474976710656
theorem N1b(w:World)(cs ds:List Value)(a b:J5a)(ka:a.ok)(kb:b.ok)(ha:Z3a w w.heap.size cs a)(hb:Z3a w w.heap.size ds b)(la:h6b a)(lb:h6b b) :
  Calls Tryz.prog 11 #[.agg cs.toArray,.agg ds.toArray] w λe w'=>e=.returned (.bool (decide (a.h=b.h)&&(decide (a.a=b.a)&&decide (a.s=b.s))))/\Below w.heap.size w w':=by
 have HLA:=hI (ha.len ka);have HLB:=hI (hb.len kb);obtain⟨ac,sc,rfl,ha1,ha2⟩:=ha;obtain⟨bc,tc,rfl,hb1,hb2⟩:=hb;have N1:=hI (L0a ka.h);have N2:=hI (L0a kb.h);have N3:=hI (ha1.len ka.a);have N4:=hI (hb1.len kb.a);have N5:=hI (ha2.len ka.s);have N6:=hI (hb2.len kb.s);have q0:∀w:World,(Op.equalIn 10000 28 (.agg (o0a a.h).toArray) (.agg (o0a b.h).toArray)).run Tryz.prog w=.ok (decide (a.h=b.h)) w:=λw=>X7a a.h b.h ka.h kb.h w
 have qg:=V5b;have CA:Hid (∀w':World,Below w.heap.size w w'->Calls Tryz.prog 26 #[.agg ac.toArray,.agg bc.toArray] w' λe w2=>e=.returned (.bool (decide (a.a=b.a)))/\Below w'.heap.size w' w2):=λw' h=>j0c w' ac bc a.a b.a ka.a kb.a (ha1.over h) (hb1.over h) la.1 lb.1
 have CS:Hid (∀w':World,Below w.heap.size w w'->Calls Tryz.prog 27 #[.agg sc.toArray,.agg tc.toArray] w' λe w2=>e=.returned (.bool (decide (a.s=b.s)))/\Below w'.heap.size w' w2):=λw' h=>k0c w' sc tc a.s b.s ka.s kb.s (ha2.over h) (hb2.over h) la.2 lb.2
 have RA1:Hid (∀(w:World) g T,Blk w g T (o0a a.h++(ac++sc))->w.rangeAt g 0 (o0a a.h)):=λw g T b=>t9a b
 have RA2:Hid (∀(w:World) g T,Blk w g T (o0a a.h++(ac++sc))->w.rangeAt g 26 ac):=λw g T b=>p7a b N1.out
 have RA3:Hid (∀(w:World) g T,Blk w g T (o0a a.h++(ac++sc))->w.rangeAt g 95 sc):=λw g T b=>q7a b N1.out N3.out
 have RB1:Hid (∀(w:World) g T,Blk w g T (o0a b.h++(bc++tc))->w.rangeAt g 0 (o0a b.h)):=λw g T b=>t9a b
 have RB2:Hid (∀(w:World) g T,Blk w g T (o0a b.h++(bc++tc))->w.rangeAt g 26 bc):=λw g T b=>p7a b N2.out
 have RB3:Hid (∀(w:World) g T,Blk w g T (o0a b.h++(bc++tc))->w.rangeAt g 95 tc):=λw g T b=>q7a b N2.out N4.out
 have F1:∀(g:Nat) (w:World),(Instr.fieldAt 41 (.pointer (some ⟨g,0,none⟩)) 1).run Tryz.prog w=.ok (.pointer (some ⟨g,26,none⟩)) w:=λg w=>by go_simp
 have F2:∀(g:Nat) (w:World),(Instr.fieldAt 41 (.pointer (some ⟨g,0,none⟩)) 2).run Tryz.prog w=.ok (.pointer (some ⟨g,95,none⟩)) w:=λg w=>by go_simp
 obtain⟨z1,hz1⟩:∃x,x=decide (a.h=b.h):=⟨_,rfl⟩;obtain⟨z2,hz2⟩:∃x,x=decide (a.a=b.a):=⟨_,rfl⟩;obtain⟨z3,hz3⟩:∃x,x=decide (a.s=b.s):=⟨_,rfl⟩;rw[<-hz1] at q0⊢;rw[<-hz2] at CA⊢;rw[<-hz3] at CS⊢;obtain⟨ca,hca⟩:∃x,x=o0a a.h++(ac++sc):=⟨_,rfl⟩;rw[<-hca] at HLA RA1 RA2 RA3⊢;obtain⟨cb,hcb⟩:∃x,x=o0a b.h++(bc++tc):=⟨_,rfl⟩;rw[<-hcb] at HLB RB1 RB2 RB3⊢;obtain⟨hA,hhA⟩:∃x,x=o0a a.h:=⟨_,rfl⟩;rw[<-hhA] at q0 N1 RA1;obtain⟨hB,hhB⟩:∃x,x=o0a b.h:=⟨_,rfl⟩;rw[<-hhB] at q0 N2 RB1;clear hz1 hz2 hz3 hca hcb hhA hhB ha1 ha2 hb1 hb2 ka kb la lb;cases z1
 ·show Calls _ _ _ _ λe w'=>e=.returned (.bool false)/\_
  go_enter Tryz.func11,Tryz.ntmps11;go_wp2_with(first
   | ((with_reducible refine sN 2 ?_);refine f0a rfl _ (.tmp 0) rfl ca rfl ?_;intro g w1 hg1 hg2 B1 L1)
   | ((with_reducible refine sN 3 ?_);refine f0a rfl _ (.tmp 1) rfl cb rfl ?_;intro g2 w2 hg3 hg4 D2 L2;have B2:=hI (B1.out.over L2.out);have M2:=hI (step L1.out L2.out))
   | ((with_reducible refine sN 6 ?_);refine t0a rfl _ (.tmp 5) rfl g 0 rfl hA _ (hI (RA1.out _ _ _ B2.out)) Tryz.underlying28 rfl 26 J0a N1 ?_)
   | ((with_reducible refine sN 8 ?_);refine t0a rfl _ (.tmp 7) rfl g2 0 rfl hB _ (hI (RB1.out _ _ _ D2.out)) Tryz.underlying28 rfl 26 J0a N2 ?_)
   | fail)
  go_ret;exact⟨rfl,M2.out⟩
 ·cases z2
  ·show Calls _ _ _ _ λe w'=>e=.returned (.bool false)/\_
   go_enter Tryz.func11,Tryz.ntmps11;go_wp2_with(first
    | ((with_reducible refine sN 2 ?_);refine f0a rfl _ (.tmp 0) rfl ca rfl ?_;intro g w1 hg1 hg2 B1 L1)
    | ((with_reducible refine sN 3 ?_);refine f0a rfl _ (.tmp 1) rfl cb rfl ?_;intro g2 w2 hg3 hg4 D2 L2;have B2:=hI (B1.out.over L2.out);have M2:=hI (step L1.out L2.out))
    | ((with_reducible refine sN 6 ?_);refine t0a rfl _ (.tmp 5) rfl g 0 rfl hA _ (hI (RA1.out _ _ _ B2.out)) Tryz.underlying28 rfl 26 J0a N1 ?_)
    | ((with_reducible refine sN 8 ?_);refine t0a rfl _ (.tmp 7) rfl g2 0 rfl hB _ (hI (RB1.out _ _ _ D2.out)) Tryz.underlying28 rfl 26 J0a N2 ?_)
    | ((with_reducible refine sN 11 ?_);refine T0a (by kernel_rfl) _ (.tmp 2) 1 rfl _ _ rfl (F1 g) ?_)
    | ((with_reducible refine sN 12 ?_);refine D0a (by kernel_rfl) _ (.tmp 11) rfl g 26 rfl ac _ (hI (RA2.out _ _ _ B2.out)) Tryz.underlying34 rfl 69 n0a N3 ?_)
    | ((with_reducible refine sN 13 ?_);refine T0a (by kernel_rfl) _ (.tmp 3) 1 rfl _ _ rfl (F1 g2) ?_)
    | ((with_reducible refine sN 14 ?_);refine D0a (by kernel_rfl) _ (.tmp 13) rfl g2 26 rfl bc _ (hI (RB2.out _ _ _ D2.out)) Tryz.underlying34 rfl 69 n0a N4 ?_)
    | fail)
   refine(CA.out w2 M2.out).mono ?_;rintro e w3 ⟨rfl,L3⟩;have B3:=hI (B2.out.over L3);have D3:=hI (D2.out.over L3);have M3:=hI (step M2.out L3);clear L3 CA B2 D2 M2 B1 L1 L2;go_wp2_with(first
    | fail)
   go_ret;exact⟨rfl,M3.out⟩
  ·show Calls _ _ _ _ λe w'=>e=.returned (.bool z3)/\_
   go_enter Tryz.func11,Tryz.ntmps11;go_wp2_with(first
    | ((with_reducible refine sN 2 ?_);refine f0a rfl _ (.tmp 0) rfl ca rfl ?_;intro g w1 hg1 hg2 B1 L1)
    | ((with_reducible refine sN 3 ?_);refine f0a rfl _ (.tmp 1) rfl cb rfl ?_;intro g2 w2 hg3 hg4 D2 L2;have B2:=hI (B1.out.over L2.out);have M2:=hI (step L1.out L2.out))
    | ((with_reducible refine sN 6 ?_);refine t0a rfl _ (.tmp 5) rfl g 0 rfl hA _ (hI (RA1.out _ _ _ B2.out)) Tryz.underlying28 rfl 26 J0a N1 ?_)
    | ((with_reducible refine sN 8 ?_);refine t0a rfl _ (.tmp 7) rfl g2 0 rfl hB _ (hI (RB1.out _ _ _ D2.out)) Tryz.underlying28 rfl 26 J0a N2 ?_)
    | ((with_reducible refine sN 11 ?_);refine T0a (by kernel_rfl) _ (.tmp 2) 1 rfl _ _ rfl (F1 g) ?_)
    | ((with_reducible refine sN 12 ?_);refine D0a (by kernel_rfl) _ (.tmp 11) rfl g 26 rfl ac _ (hI (RA2.out _ _ _ B2.out)) Tryz.underlying34 rfl 69 n0a N3 ?_)
    | ((with_reducible refine sN 13 ?_);refine T0a (by kernel_rfl) _ (.tmp 3) 1 rfl _ _ rfl (F1 g2) ?_)
    | ((with_reducible refine sN 14 ?_);refine D0a (by kernel_rfl) _ (.tmp 13) rfl g2 26 rfl bc _ (hI (RB2.out _ _ _ D2.out)) Tryz.underlying34 rfl 69 n0a N4 ?_)
    | fail)
   refine(CA.out w2 M2.out).mono ?_;rintro e w3 ⟨rfl,L3⟩;have B3:=hI (B2.out.over L3);have D3:=hI (D2.out.over L3);have M3:=hI (step M2.out L3);clear L3 CA B2 D2 M2 B1 L1 L2;go_wp2_with(first
    | ((with_reducible refine sN 18 ?_);refine T0a (by kernel_rfl) _ (.tmp 2) 2 rfl _ _ rfl (F2 g) ?_)
    | ((with_reducible refine sN 19 ?_);refine D0a (by kernel_rfl) _ (.tmp 18) rfl g 95 rfl sc _ (hI (RA3.out _ _ _ B3.out)) Tryz.underlying39 rfl 20 s0a N5 ?_)
    | ((with_reducible refine sN 20 ?_);refine T0a (by kernel_rfl) _ (.tmp 3) 2 rfl _ _ rfl (F2 g2) ?_)
    | ((with_reducible refine sN 21 ?_);refine D0a (by kernel_rfl) _ (.tmp 20) rfl g2 95 rfl tc _ (hI (RB3.out _ _ _ D3.out)) Tryz.underlying39 rfl 20 s0a N6 ?_)
    | fail)
   refine(CS.out w3 M3.out).mono ?_;rintro e w4 ⟨rfl,L4⟩;go_wp2_with fail;go_ret;exact⟨rfl,step M3.out L4⟩
theorem x1c{w:World}{ac:List Value}{a:m1a}(k:a.ok)(ha:f1a w w.heap.size ac a)(hu:a.user.size<=17592186044416/\a.share.size<=17592186044416)(hT:V7a w):d0c w 13 ac a:=by
 intro w' hb;show Calls Tryz.prog 80 _ _ λe w2=>∃v,e=.returned (.tuple #[v,.int .i64 (k1a 13 a)])/\T5a w2 w'.heap.size v (H2a 13 a)/\Below w'.heap.size w' w2
 exact s6a w' 13 ac a (by decide) k (ha.over hb) hu (hT.below hb)
theorem y1c{w:World}{sc:List Value}{s:M1a}(k:s.ok)(hs:n1a w w.heap.size sc s):e0c w 13 sc s:=by
 intro w' hb;show Calls Tryz.prog 82 _ _ λe w2=>∃v,e=.returned (.tuple #[v,.int .i64 (z1a 13 s)])/\T5a w2 w'.heap.size v (L2a 13 s)/\Below w'.heap.size w' w2
 exact t6a w' 13 sc s (by decide) k (hs.over hb)
theorem z1c{w:World}{A:Option Addr}{n c:Nat}{xs:List Int}(hx:Holds w w.heap.size A n c xs):Q8b w 13 A n c xs:=by
 intro w' hb;show Calls Tryz.prog 81 _ _ λe w2=>∃cs,e=.returned (.tuple #[.agg cs.toArray,.int .i64 (A2a 13 xs)])/\GA w2 w'.heap.size cs (B2a 13 xs)/\Below w'.heap.size w' w2
 refine(F6b w' 13 A n c xs (by decide) (hx.over hb)).mono ?_;rintro e w2 ⟨vd,h1,h2,h3⟩;have hz:B2a 13 xs=i0a:=by
  unfold B2a;split
  ·unfold i7a;rw[if_neg (by decide),if_neg (by decide),if_neg (by decide)]
  ·rfl
 rw[hz] at h1 h2⊢;exact⟨_,h1,⟨h0a,h2,⟨.inl rfl,.inl rfl,.inl rfl⟩,.slice none 0 0,rfl,X0a.nil _ _ _ _⟩,h3⟩
def c3a:J5a:=⟨{ N1a with cm:=13,id:=1 },i0a,q0a⟩
def a9b:J5a:=⟨g6b { N1a with cm:=13,id:=1 } 15,i0a,q0a⟩
def y7a:List Int:=e6a c3a.h++[0,0,0,0]
theorem y6a:c3a.h.ok:=⟨by decide,by decide,by decide,by decide,by decide,by decide,by decide,by decide,by decide,by decide,by decide,Bytes.zeros 16⟩
theorem G0b:c3a.ok:=⟨y6a,h0a,G0a⟩
theorem r0c:a9b.ok:=⟨A5b y6a 15,h0a,G0a⟩
theorem A1c:W4a c3a=0/\f6a c3a=y7a/\u6a c3a=[0,0,0,0]:=by decide +kernel
theorem B1c:W4a a9b=0/\(f6a a9b).length=68/\u6a a9b=[0,0,0,0]:=by decide +kernel
theorem B2c:m2a y7a 0=0/\l2a y7a 0=c3a.h/\q0b y7a=0:=by decide +kernel
theorem C1c:m2a (y7a++[0]) 0=0/\l2a (y7a++[0]) 0=c3a.h/\q0b (y7a++[0])=5:=by decide +kernel
theorem D1c:(n4b y7a).h=c3a.h/\(n4b y7a).a=i0a/\(n4b y7a).s=q0a:=by decide +kernel
theorem E1c:y7a.length=68:=by decide +kernel
theorem O1b:Bytes y7a:=(K5a y6a.byte).append (Bytes.of_all (by decide))
theorem i6b(w:World)(hT:V7a w)(m:J5a)(k:m.ok)(ha:m.a=i0a)(hs:m.s=q0a)(h13:N7a m.h=13)(hb:u6a m=[0,0,0,0]) :
  Calls Tryz.prog 8 #[.agg (o0a m.h++(zac++zsc)).toArray] w (s7a w m):=by
 refine K0c w m zac zsc k w9a x9a (x1a rfl rfl rfl) (J1a rfl rfl) (by rw[hb];exact Bytes.zeros 4) (by rw[hb];decide) ?_;intro w' g hbl B;refine B2b w' g m zac zsc k B (by rw[ha];exact w2a w' _) (by rw[hs];exact E2a w' _) (by rw[ha];decide) (hT.below hbl) (λ_=>?_) (λ_=>?_)
 ·rw[h13,ha];exact x1c h0a (w2a w' _) (by decide) (hT.below hbl)
 ·rw[h13,hs];exact y1c G0a (E2a w' _)
theorem j6b(w:World)(A:Option Addr)(n c:Nat)(xs:List Int)(hx:Holds w w.heap.size A n c xs)(hh:m2a xs 0=0->l2a xs 0=c3a.h) :
  Calls Tryz.prog 13 #[.slice A n c] w (t7a w xs):=by
 refine L0c w A n c xs hx λh0=>?_
 rw[hh h0];intro w' g A' n' c' hb B hy;exact E2b w' g c3a.h zac zsc y6a B w9a x9a A' n' c' _ rfl (λ_=>z1c (hy.mono (Nat.le_of_lt B.lt))) (λh=>absurd h (by decide))
theorem s0c(w:World)(hT:V7a w):Calls Tryz.prog 8 #[.agg (o0a c3a.h++(zac++zsc)).toArray] w λe w'=>(∃A c,e=.returned (.tuple #[.slice A 68 c,.int .i64 0])/\Holds w' w'.heap.size A 68 c y7a)/\Below w.heap.size w w':=by
 have h:=i6b w hT c3a G0b rfl rfl (by decide) A1c.2.2;unfold s7a at h;rw[A1c.1,A1c.2.1] at h;refine h.mono λe w' ⟨v,h1,h2,h3⟩=>?_
 obtain⟨A,c,rfl,hh⟩:=X0a.holds8 h2 O1b (by rw[E1c];decide);rw[E1c] at h1 hh;exact⟨⟨A,c,h1,hh⟩,h3⟩
theorem b9b(w:World)(hT:V7a w):Calls Tryz.prog 8 #[.agg (o0a (g6b c3a.h 15)++(zac++zsc)).toArray] w λe w'=>(∃A c,e=.returned (.tuple #[.slice A 68 c,.int .i64 0]))/\Below w.heap.size w w':=by
 have h:=i6b w hT a9b r0c rfl rfl (by decide) B1c.2.2;unfold s7a at h;rw[B1c.1] at h;refine h.mono λe w' ⟨v,h1,h2,h3⟩=>?_
 obtain⟨A,c,rfl⟩:=h2.own8.len;rw[B1c.2.1] at h1;exact⟨⟨A,c,h1⟩,h3⟩
theorem t0c(w:World)(A:Option Addr)(c:Nat)(hx:Holds w w.heap.size A 68 c y7a):Calls Tryz.prog 13 #[.slice A 68 c] w λe w'=>(∃cs:List Value,e=.returned (.tuple #[.agg cs.toArray,.int .i64 0])/\Z3a w' w'.heap.size cs c3a)/\Below w.heap.size w w':=by have h:=j6b w A 68 c _ hx (λ_=>B2c.2.1);unfold t7a at h;rw[B2c.2.2,D1c.1,D1c.2.1,D1c.2.2] at h;exact h.mono λe w' ⟨ac,sc,h1,h2,h3,h4⟩=>⟨⟨_,h1,ac,sc,rfl,h2.2.1,h3.2.1⟩,h4⟩
theorem c9b(w:World)(A:Option Addr)(c:Nat)(hx:Holds w w.heap.size A 69 c (y7a++[0])):Calls Tryz.prog 13 #[.slice A 69 c] w λe w'=>(∃cs:List Value,e=.returned (.tuple #[.agg cs.toArray,.int .i64 5])/\cs.length=115/\∀v∈cs,v.oneCell'=true)/\Below w.heap.size w w':=by
 have h:=j6b w A 69 c _ hx (λ_=>C1c.2.1);unfold t7a at h;rw[C1c.2.2] at h;refine h.mono λe w' ⟨ac,sc,h1,h2,h3,h4⟩=>⟨⟨_,h1,?_,?_⟩,h4⟩
 ·have hz:(n4b (y7a++[0])).h=N1a:=by unfold n4b;rw[C1c.2.2,if_neg (by decide)];rfl
  rw[hz];simp only[List.length_append,L0a o3a,h2.len,h3.len]
 ·intro v hv;rcases List.mem_append.1 hv with hv | hv
  ·exact v2a _ v hv
  ·rcases List.mem_append.1 hv with hv | hv
   ·exact h2.one v hv
   ·exact h3.one v hv
theorem F1c:Tryz.prog.built 28 [(2,.int .u16 13),(6,.int .u64 1)]=some (o0a c3a.h).toArray:=by kernel_rfl
theorem C2c:(o0a (g6b c3a.h 15))[1]? = some (.int .u32 15)/\(o0a (g6b c3a.h 15))[6]? = some (.int .u64 1):=by
 constructor
 ·show some (Value.int .u32 (IntKind.u32.wrap 15))=_
  rw[show IntKind.u32.wrap 15=15 by decide]
 ·rfl
theorem N2b(w:World)(hT:V7a w):Calls Tryz.prog 12 #[] w λe w'=>e=.returned (.bool true)/\Below w.heap.size w w':=by
 have HT:=hI hT;have C1:=hI s0c;have C2:=hI t0c;have C3:=hI c9b;have C4:=hI b9b;have CA:Hid (∀w':World,Calls Tryz.prog 29 #[hv c3a.h,.int .i64 15] w' λe w2=>e=.returned (hv (g6b c3a.h 15))/\Below w'.heap.size w' w2):=λw'=>i7b w' _ y6a 15 (by decide)
 have CS:Hid (∀(w':World) cs,Z3a w' w'.heap.size cs c3a->Calls Tryz.prog 11 #[.agg cs.toArray,.agg (o0a c3a.h++(zac++zsc)).toArray] w' λe w2=>e=.returned (.bool true)/\Below w'.heap.size w' w2):=λw' cs h=>by have h1:=N1b w' cs (o0a c3a.h++(zac++zsc)) c3a c3a G0b G0b h ⟨zac,zsc,rfl,w2a w' _,E2a w' _⟩ ⟨by decide,by decide⟩ ⟨by decide,by decide⟩;simpa using h1
 have B1:=F1c;have B2:=y8b Y5a (L0a y6a);have B3:=y8b Y5a (L0a (A5b y6a 15));have N1:=hI (L0a y6a);have N2:=hI (L0a (A5b y6a 15));have O2:=hI (v2a (g6b c3a.h 15));have A1:=hI C2c.1;have A6:=hI C2c.2;have ZM:=hI U8a;have HZ:=hI y3a;have ZH:=hI p9a;have HZH:=hI (L0a o3a);have HLM:Hid (∀(w':World) cs,Z3a w' w'.heap.size cs c3a->cs.length=115/\∀v∈cs,v.oneCell'=true):=λw' cs h=>⟨h.len G0b,h.one⟩
 have HM1:Hid ((o0a c3a.h++(zac++zsc)).length=115):=by
  show _=_
  simp only[List.length_append,N1.out,w9a,x9a]
 have HM2:Hid (∀v∈o0a c3a.h++(zac++zsc),v.oneCell'=true):=(show Z3a w w.heap.size _ c3a from ⟨zac,zsc,rfl,w2a w _,E2a w _⟩).one;have RH:Hid (∀(w:World) g T,Blk w g T (o0a c3a.h++(zac++zsc))->w.rangeAt g 0 (o0a c3a.h)):=λw g T b=>t9a b
 change Tryz.prog.built _ _=some (o0a c3a.h++(zac++zsc)).toArray at B2
 change Tryz.prog.built _ _=some (o0a (g6b c3a.h 15)++(zac++zsc)).toArray at B3
 have HB:=hI O1b;have HBL:=hI E1c;unfold hv at CA;obtain⟨M1,hM1⟩:∃x,x=o0a c3a.h++(zac++zsc):=⟨_,rfl⟩;rw[<-hM1] at C1 CS B2 HM1 HM2 RH;obtain⟨M2,hM2⟩:∃x,x=o0a (g6b c3a.h 15)++(zac++zsc):=⟨_,rfl⟩;rw[<-hM2] at C4 B3;obtain⟨h1,hh1⟩:∃x,x=o0a c3a.h:=⟨_,rfl⟩;rw[<-hh1] at CA B1 B2 N1 RH;obtain⟨h2,hh2⟩:∃x,x=o0a (g6b c3a.h 15):=⟨_,rfl⟩;rw[<-hh2] at CA B3 N2 O2 A1 A6;obtain⟨bs,hbs⟩:∃x,x=y7a:=⟨_,rfl⟩;rw[<-hbs] at C1 C2 C3 HB HBL;obtain⟨em,hem⟩:∃x,x=c3a:=⟨_,rfl⟩;rw[<-hem] at C2 CS HLM;obtain⟨zm,hzm⟩:∃x,x=K1a:=⟨_,rfl⟩;rw[<-hzm] at ZM HZ;obtain⟨zh,hzh⟩:∃x,x=o0a N1a:=⟨_,rfl⟩;rw[<-hzh] at ZH HZH;clear hM1 hM2 hh1 hh2 hbs hem hzm hzh hT;go_enter Tryz.func12,Tryz.ntmps12;go_wp2_with(first
  | ((with_reducible refine sN 11 ?_);refine k0a rfl _ _ rfl h1 (by refine Eq.trans ?_ B1;kernel_rfl) ?_)
  | ((with_reducible refine sN 12 ?_);refine k0a rfl _ _ rfl M1 (by refine Eq.trans ?_ B2;kernel_rfl) ?_)
  | ((with_reducible refine sN 1 ?_);refine a0a rfl _ rfl zm _ ZM ?_;intro g1 w1 hg1 hg2 Z1 L1)
  | ((with_reducible refine sT 1 ?_);refine b0a rfl _ (.tmp 1) (.tmp 12) rfl g1 rfl _ zm M1 rfl Z1 115 r1a HZ HM1 HM2 ?_;intro w2 X2 P2 hg3;have M2':=hI (c0a L1.out P2.out hg1))
  | ((with_reducible refine sN 14 ?_);refine e0a rfl _ (.tmp 1) rfl g1 rfl _ M1 X2 115 _ Tryz.underlying41 rfl r1a HM1 ?_)
  | fail)
 refine(C1.out w2 (HT.out.below M2'.out)).mono ?_;rintro e w3 ⟨⟨A3,c3,rfl,hh3⟩,L3⟩;have H3:=hI hh3;have hc3:68<=c3:=hh3.fit;have hc4:(68:Int)<=(c3:Int):=by omega
 have X3:=hI (X2.out.over L3);have M3:=hI (step M2'.out L3);clear hh3 L3 C1 Z1 L1 P2 M2' X2;go_wp2_with fail;refine(C2.out w3 A3 c3 H3.out).mono ?_;rintro e w4 ⟨⟨cs,rfl,hcs⟩,L4⟩;have H4:=hI (H3.out.over L4);have X4:=hI (X3.out.over L4);have M4:=hI (step M3.out L4);have K4:=hI hcs;have KL:=hI (HLM.out _ _ hcs).1;have KO:=hI (HLM.out _ _ hcs).2;clear hcs L4 C2 H3 X3 M3;go_wp2_with(first
  | ((with_reducible refine sN 4 ?_);refine a0a rfl _ rfl zm _ ZM ?_;intro g5 w5 hg5 hg6 Z5 L5;have M5:=hI (step M4.out L5.out))
  | ((with_reducible refine sT 4 ?_);refine b0a rfl _ (.tmp 4) (.tmp 21) rfl g5 rfl _ zm cs rfl Z5 115 r1a HZ KL KO ?_;intro w6 X6 P6 hg7;have L6:=hI (c0a L5.out P6.out hg5);have M6:=hI (step M4.out L6.out);have H6:=hI (H4.out.over L6.out);have Y6:=hI (X4.out.over L6.out);have K6:=hI (K4.out.over L6.out))
  | ((with_reducible refine sN 30 ?_);refine s1a rfl _ _ 1 _ rfl Tryz.underlying31 ([.int .u8 0]:List Value) (by kernel_rfl) ?_;intro g7 w7 q3 q4 Y7 L7;have M7:=hI (step M6.out L7.out);have H7:=hI (H6.out.over L7.out);have X7:=hI (Y6.out.over L7.out);have K7:=hI (K6.out.over L7.out);have D7:=hI (X6.out.over L7.out);have HX7:Hid (Holds w7 w7.heap.size (some ⟨g7,0,none⟩) 1 1 [0]):=Holds.of_lit (xs:=[0]) Y7.out (Bytes.of_all (by decide)))
  | ((with_reducible refine sN 31 ?_);refine f9a rfl (.tmp 29) (.tmp 30) rfl w7.heap.size A3 68 c3 bs rfl H7.out w7.heap.size (some ⟨g7,0,none⟩) 1 1 [0] rfl HX7.out (by decide) (by decide) ?_;intro u8 w8 O8 L8)
  | fail)
 obtain⟨A8,c8,rfl,hh8⟩:=O8.out.holds (HB.out.append (Bytes.of_all (by decide))) (by rw[List.length_append,HBL.out];decide);rw[List.length_append,HBL.out] at hh8⊢;have H8:=hI hh8;have M8:=hI (step M7.out L8);have X8:=hI (X7.out.over L8);have K8:=hI (K7.out.over L8);have D8:=hI (D7.out.over L8);clear hh8 L8 O8 M7 X7 K7 D7 H7 HX7 Y7 L7 M6 H6 Y6 K6 L6 X6 P6 Z5 L5 M5 M4 H4 X4 K4;go_wp2_with fail;refine(C3.out w8 A8 c8 H8.out).mono ?_;rintro e w9 ⟨⟨ds,rfl,hd1,hd2⟩,L9⟩;have DL:=hI hd1;have DO:=hI hd2;have M9:=hI (step M8.out L9);have X9:=hI (X8.out.over L9);have K9:=hI (K8.out.over L9);have D9:=hI (D8.out.over L9);clear hd1 hd2 L9 M8 X8 K8 D8 H8 C3;go_wp2_with(first
  | ((with_reducible refine sN 6 ?_);refine a0a rfl _ rfl zm _ ZM ?_;intro g10 w10 hg10 hg11 Z10 L10)
  | ((with_reducible refine sT 6 ?_);refine b0a rfl _ (.tmp 6) (.tmp 33) rfl g10 rfl _ zm ds rfl Z10 115 r1a HZ DL DO ?_;intro w11 X11 P11 hg12;have L11:=hI (c0a L10.out P11.out hg10);have M11:=hI (step M9.out L11.out);have Y11:=hI (X9.out.over L11.out);have K11:=hI (K9.out.over L11.out);have D11:=hI (D9.out.over L11.out))
  | ((with_reducible refine sN 36 ?_);refine t0a rfl _ (.tmp 35) rfl g1 0 rfl h1 _ (hI (RH.out _ _ _ Y11.out)) Tryz.underlying28 rfl 26 J0a N1 ?_)
  | fail)
 refine(CA.out w11).mono ?_;rintro e w12 ⟨rfl,L12⟩;have M12:=hI (step M11.out L12);have Y12:=hI (Y11.out.over L12);have K12:=hI (K11.out.over L12);have D12:=hI (D11.out.over L12);clear L12 M11 Y11 K11 D11 L11 X11 P11 Z10 L10 M9 X9 K9 D9 CA;go_wp2_with(first
  | ((with_reducible refine sN 8 ?_);refine a0a rfl _ rfl zh _ ZH ?_;intro g13 w13 hg13 hg14 Z13 L13)
  | ((with_reducible refine sT 8 ?_);refine b0a rfl _ (.tmp 8) (.tmp 37) rfl g13 rfl _ zh h2 rfl Z13 26 J0a HZH N2 O2 ?_;intro w14 X14 P14 hg15;have L14:=hI (c0a L13.out P14.out hg13);have M14:=hI (step M12.out L14.out);have Y14:=hI (Y12.out.over L14.out);have K14:=hI (K12.out.over L14.out);have D14:=hI (D12.out.over L14.out))
  | ((with_reducible refine sN 39 ?_);refine e0a rfl _ (.tmp 8) rfl g13 rfl _ h2 X14 26 _ Tryz.underlying28 rfl J0a N2 ?_)
  | ((with_reducible refine sN 40 ?_);refine k0a rfl _ _ rfl M2 (by refine Eq.trans ?_ B3;kernel_rfl) ?_)
  | fail)
 refine(C4.out w14 (HT.out.below M14.out)).mono ?_;rintro e w15 ⟨⟨A15,c15,rfl⟩,L15⟩;have M15:=hI (step M14.out L15);have Y15:=hI (Y14.out.over L15);have K15:=hI (K14.out.over L15);have D15:=hI (D14.out.over L15);have X15:=hI (X14.out.over L15);clear L15 M14 Y14 K14 D14 X14 L14 P14 Z13 L13 M12 Y12 K12 D12 C4;go_wp2_with(first
  | ((with_reducible refine sN 56 ?_);refine t1a (by kernel_rfl) _ (.tmp 4) rfl g5 rfl _ cs D15 115 _ Tryz.underlying41 rfl r1a KL ?_)
  | ((with_reducible refine sN 57 ?_);refine t1a (by kernel_rfl) _ (.tmp 1) rfl g1 rfl _ M1 Y15 115 _ Tryz.underlying41 rfl r1a HM1 ?_)
  | fail)
 refine(CS.out w15 cs K15.out).mono ?_;rintro e w16 ⟨rfl,L16⟩;have M16:=hI (step M15.out L16);have d1:w16.cell? ⟨g13,1,none⟩=some (.int .u32 15):=(X15.out.over L16).at A1.out;have d2:w16.cell? ⟨g13,6,none⟩=some (.int .u64 1):=(X15.out.over L16).at A6.out;clear L16 M15 Y15 K15 D15 X15 CS;go_wp2;go_ret;exact⟨rfl,M16.out⟩
open Go.RowKit Go.ChangeShapes Go.WideShapes
section
variable {H:Type} {enc:TypeId×Value->H} {P:Program} {W:World} {base:Nat} {t e:TypeId} {v:Value} {d:DataW H} {p:List MemPlace}
theorem y3b{l:List (DataW H)}{x:DataW H}(h:x∈l):Rows.uptoBulk x<=Rows.uptoBulkAll l:=by
 induction l with
 | nil=>cases h
 | cons y r ih=>
  simp only[Rows.uptoBulkAll];rcases List.mem_cons.1 h with rfl | h
  ·omega
  ·have:=ih h;omega
theorem H0b{l:List (DataW H)}{x:DataW H}(h:x∈l):Rows.uptoBulk x<Rows.uptoBulk (.agg l):=by have:=y3b h;simp only[Rows.uptoBulk];omega
theorem P1b{k:IntKind}{fuel:Nat}{cs:List Value}{x:DataW H×List MemPlace}(ht:P.underlying t=some (.slice e))(he:P.underlying e=some (.int k))(hc:P.cellsOf e=1)
(hf:DataW.trod enc P W 0 (λ_=>true) true fuel t cs=some x) :
  ∃A n c zs,cs=[.slice A n c]/\n<=c/\c<Rows.uptoBulk x.1/\G1a (Value.int k) W W.heap.size A c c zs/\∀z∈zs,(Lit.int k z).wf=true:=by
 rcases open_ints ht he hc hf with⟨hcs,hx⟩ | ⟨y,l,cp,zs,hcs,_,hl,hm,hz,hx,hcell,hwz⟩
 ·exact⟨none,0,0,[],hcs,Nat.le_refl _,j6a _,G1a.nil _ _ _,λz h=>by cases h⟩
 ·subst hx;simp only[if_true] at hz;refine⟨some y,l,cp,zs,hcs,hl,?_,⟨hz,Nat.le_refl _,(λhA=>by cases hA),λh0=>?_⟩,hwz⟩
  ·have h1:=g3a (lits (H:=H) k (zs.take l));have h2:=g3a (lits (H:=H) k (zs.drop l));rw[show(lits (H:=H) k (zs.take l)).length=(zs.take l).length from by simp[lits],List.length_take] at h1;rw[show(lits (H:=H) k (zs.drop l)).length=(zs.drop l).length from by simp[lits],List.length_drop] at h2;simp only[Rows.uptoBulk];omega
  ·obtain⟨b,off,spot⟩:=y;have h1:=hcell 0 (by omega);have hspot:spot=none:=by simpa[Addr.add] using World.cell?_spot h1
   subst hspot;refine⟨b,off,rfl,?_,λi z hi=>?_⟩
   ·have:=World.block_lt_of_cell? W _ h1;simpa[Addr.add] using this
   ·have hil:=(List.getElem?_eq_some_iff.1 hi).1;have h2:=hcell i (by omega);have ea:(⟨b,off,none⟩:Addr).add i=⟨b,off+i,none⟩:=by
     by_cases hj0:i=0
     ·subst hj0;simp[Addr.add]
     ·simp[Addr.add,hj0]
    rw[ea] at h2;rw[h2]
    congr 2
    simp[List.getD_eq_getElem?_getD,hi]
theorem d9b{α:Type}[Inhabited α]{f:α->List Value}{s:Nat}{ok:α->Prop}{fuel:Nat}{cs:List Value}{x:DataW H×List MemPlace}(ht:P.underlying t=some (.slice e))(hc:P.cellsOf e=s)(hs:0<s)(hfl:∀y,(f y).length=s)
(hel:∀(n:Nat) (cs:List Value) (x:DataW H×List MemPlace),DataW.trod enc P W 0 (λ_=>true) true n e cs=some x->∃y:α,cs=f y/\ok y)
(hf:DataW.trod enc P W 0 (λ_=>true) true fuel t cs=some x) :
  ∃A n c zs,cs=[.slice A n c]/\n<=c/\c<Rows.uptoBulk x.1/\d1a f s W W.heap.size A c c zs/\∀z∈zs,ok z:=by
 rcases Go.Deep.open_slice ht hf with⟨hcs,hx⟩ | ⟨a,len,cap,m,n,D,Pl,hcs,_,hl,hm,hmm,hx,hcell⟩
 ·exact⟨none,0,0,[],hcs,Nat.le_refl _,j6a _,d1a.nil _ _ _ _,λz h=>by cases h⟩
 ·subst hx;simp only[if_true] at hmm;subst hmm;rw[hc] at hcell;have each:∀i,i<m->∃y:α,W.cells? 0 (a.add (i*s)) s=some (f y)/\ok y:=λi hi=>by obtain⟨cs',h1,h2⟩:=hcell i hi;obtain⟨y,rfl,hy⟩:=hel _ _ _ h2;exact⟨y,h1,hy⟩
  obtain⟨Y,hY⟩:=Go.Deep.choose_lt each;refine⟨some a,len,m,(List.range m).map Y,hcs,hl,?_,⟨by simp,Nat.le_refl _,(λhA=>by cases hA),λh0=>?_⟩,λz hz=>?_⟩
  ·have h1:=g3a ((List.range len).map D);have h2:=g3a ((List.range (m-len)).map λj=>D (len+j));rw[List.length_map,List.length_range] at h1 h2;simp only[Rows.uptoBulk];omega
  ·obtain⟨b,off,spot⟩:=a;obtain⟨_,h01,h02⟩:=World.cells?_some (hY 0 h0).1;have hf0:0<(f (Y 0)).length:=by rw[hfl];exact hs
   have h03:=h02 0 (by omega);rw[List.getElem?_eq_getElem hf0] at h03;have hspot:spot=none:=by simpa[Addr.add] using World.cell?_spot h03
   subst hspot;have add_at:∀i,(⟨b,off,none⟩:Addr).add i=⟨b,off+i,none⟩:=λi=>by
    by_cases hj0:i=0
    ·subst hj0;simp[Addr.add]
    ·simp[Addr.add,hj0]
   have add_at2:∀i j,(⟨b,off+i,none⟩:Addr).add j=⟨b,off+(i+j),none⟩:=λi j=>by
    by_cases hj0:j=0
    ·subst hj0;simp[Addr.add]
    ·simp[Addr.add,hj0,Nat.add_assoc]
   refine⟨b,off,rfl,?_,λi z hi j u hj=>?_⟩
   ·have:=World.block_lt_of_cell? W _ h03;simpa[Addr.add] using this
   ·rw[List.getElem?_map] at hi;have him:i<m:=by
     rcases Nat.lt_or_ge i m with h | h
     ·exact h
     ·rw[List.getElem?_eq_none (by simpa using h)] at hi;cases hi
    rw[List.getElem?_range him] at hi;injection hi with hi
    subst hi;obtain⟨_,_,h2⟩:=World.cells?_some (hY i him).1;have hjl:j<s:=by rw[<-hfl (Y i)];exact(List.getElem?_eq_some_iff.1 hj).1
    have h3:=h2 j hjl;rw[add_at,add_at2,hj] at h3;exact h3
  ·obtain⟨i,hi,rfl⟩:=List.mem_map.1 hz;exact(hY i (List.mem_range.1 hi)).2
end
section
variable {H:Type} {enc:TypeId×Value->H} {W:World} {base:Nat} {v:Value} {d:DataW H} {p:List MemPlace}
instance:Inhabited g2a:=⟨⟨0,0,0,0⟩⟩
instance:Inhabited y1a:=⟨⟨.empty,0,0⟩⟩
theorem N0a{l:List Value}{i:Nat}{a:Value}(h:(l.drop i).take 1=[a]):l.drop i=a::l.drop (i+1):=by
 have e:l.drop (i+1)=(l.drop i).drop 1:=by rw[List.drop_drop]
 rw[e];cases hq:l.drop i with
 | nil=>rw[hq] at h;cases h
 | cons u r=>rw[hq] at h;simp at h;rw[h];rfl
theorem k2a{P:Program}{t:TypeId}{k:IntKind}{fuel:Nat}{cs:List Value}{y:Option (DataW H×List MemPlace)}(he:P.underlying t=some (.int k))(hy:y.isSome=true)
(hf:DataW.trod enc P W 0 (λ_=>true) true fuel t cs=y):∃x,cs=[.int k x]/\(Lit.int k x).wf=true:=by obtain⟨z,rfl⟩:=Option.isSome_iff_exists.1 hy;obtain⟨x,e0,_,wx⟩:=DataW.trod_int he hf;exact⟨x,e0,wx⟩
theorem e9b(n:Nat)(cs:List Value)(x:DataW H×List MemPlace)(hf:DataW.trod enc Tryz.prog W 0 (λ_=>true) true n 114 cs=some x):∃l:g2a,cs=E0a l/\l.ok:=by
 obtain⟨xs,m,_,_,hl,hx,hel⟩:=DataW.trod_struct Tryz.underlying114 hf;have hx4:xs.length=4:=hx;have h4:cs.length=4:=hl.trans (by kernel_rfl);have some_at:∀i,i<4->(xs[i]?).isSome=true:=λi hi=>by simp[hx4,hi]
 have c1:∀t,t=3∨t=25∨t=22->Tryz.prog.cellsOf t=1:=by rintro t (rfl | rfl | rfl)<;>kernel_rfl
 have e0:=hel 0 _ rfl;have e1:=hel 1 _ rfl;have e2:=hel 2 _ rfl;have e3:=hel 3 _ rfl;rw[c1 _ (by simp)] at e0 e1 e2 e3;obtain⟨x0,d0,w0⟩:=k2a Tryz.underlying3 (some_at 0 (by omega)) e0;obtain⟨x1,d1,w1⟩:=k2a Tryz.underlying25 (some_at 1 (by omega)) e1;obtain⟨x2,d2,w2⟩:=k2a Tryz.underlying25 (some_at 2 (by omega)) e2;obtain⟨x3,d3,w3⟩:=k2a Tryz.underlying22 (some_at 3 (by omega)) e3;refine⟨⟨x0,x1,x2,x3⟩,?_,⟨W7a w0,Z1a w1,Z1a w2,i2a w3⟩⟩;have f0:=N0a (i:=0) d0;have f1:=N0a (i:=1) d1;have f2:=N0a (i:=2) d2;have f3:=N0a (i:=3) d3;rw[List.drop_zero] at f0;rw[f0,f1,f2,f3,List.drop_of_length_le (by omega)];rfl
end
section
variable {H:Type} {enc:TypeId×Value->H} {P:Program} {W:World} {base:Nat} {t e:TypeId} {v:Value} {d:DataW H} {p:List MemPlace}
theorem z3b{k:IntKind}{m b fuel:Nat}{sp:Nat->Bool}{hd:Bool}{l:List Value}{x:DataW H×List MemPlace}(ht:P.underlying t=some (.array m e))(he:P.underlying e=some (.int k))(hc:P.cellsOf e=1)(hl:l.length=m)
(hf:DataW.trod enc P W b sp hd fuel t l=some x):∃xs:List Int,l=xs.map (Value.int k)/\∀x∈xs,(Lit.int k x).wf=true:=by
 obtain⟨ys,n,_,_,hlc,hyl,hel⟩:=DataW.trod_array ht hf;rw[hc] at hel;have each:∀i (h:i<l.length),∃x,l[i]=.int k x/\(Lit.int k x).wf=true:=by
  intro i hi;have h1:=hel i (by omega);rw[Nat.mul_one] at h1;rw[List.drop_eq_getElem_cons hi,List.take_succ_cons,List.take_zero] at h1;have hy:i<ys.length:=by omega
  rw[List.getElem?_eq_getElem hy] at h1;obtain⟨x,e0,_,wx⟩:=DataW.trod_int he h1;exact⟨x,by simpa using e0,wx⟩
 clear hf hel hl hlc hyl
 induction l with
 | nil=>exact⟨[],rfl,λ_ h=>by cases h⟩
 | cons u r ih=>
  obtain⟨x,hx,wx⟩:=each 0 (by simp);obtain⟨xs,hr,hw⟩:=ih λi hi=>by have:=each (i+1) (by simpa using hi);simpa using this
  refine⟨x::xs,by rw[hr];simpa using hx,λy hy=>?_⟩;rcases List.mem_cons.1 hy with rfl | hy
  ·exact wx
  ·exact hw y hy
end
section
variable {H:Type} {enc:TypeId×Value->H} {W:World} {base:Nat} {v:Value} {d:DataW H} {p:List MemPlace}
theorem O2b{w:World}{B:Nat}{A:Option Addr}{n c:Nat}{xs:List Int}(h:G1a (Value.int .u8) w B A n c xs)(hr:n<=281474976710656)(hb:Bytes xs):Holds w B A n c xs:=
 ⟨h.len,h.fit,hr,hb,h.bare,λh0=>by
  obtain⟨b,off,e1,e2,e3⟩:=h.cells h0;refine⟨b,off,e1,e2,λi hi=>?_⟩;have hil:i<xs.length:=by rw[h.len];exact hi
  rw[e3 i xs[i] (List.getElem?_eq_getElem hil)];simp[List.getD_eq_getElem?_getD,hil]⟩
end
section
variable {H:Type} {enc:TypeId×Value->H} {P:Program} {W:World} {base:Nat} {t e:TypeId} {v:Value} {d:DataW H} {p:List MemPlace}
theorem B5b{α:Type}[Inhabited α]{f:α->List Value}{s:Nat}{ok:α->Prop}{g:α->Nat}{fuel:Nat}{cs:List Value}{x:DataW H×List MemPlace}(ht:P.underlying t=some (.slice e))(hc:P.cellsOf e=s)(hs:0<s)(hfl:∀y,(f y).length=s)
(hel:∀(n:Nat) (cs:List Value) (x:DataW H×List MemPlace),DataW.trod enc P W 0 (λ_=>true) true n e cs=some x->∃y:α,cs=f y/\ok y/\g y<Rows.uptoBulk x.1)
(hf:DataW.trod enc P W 0 (λ_=>true) true fuel t cs=some x) :
  ∃A n c zs,cs=[.slice A n c]/\n<=c/\c<Rows.uptoBulk x.1/\d1a f s W W.heap.size A c c zs/\(∀z∈zs,ok z)/\∀z∈zs,g z<Rows.uptoBulk x.1:=by
 rcases Go.Deep.open_slice ht hf with⟨hcs,hx⟩ | ⟨a,len,cap,m,n,D,Pl,hcs,_,hl,hm,hmm,hx,hcell⟩
 ·exact⟨none,0,0,[],hcs,Nat.le_refl _,j6a _,d1a.nil _ _ _ _,(λz h=>by cases h),λz h=>by cases h⟩
 ·subst hx;simp only[if_true] at hmm;subst hmm;rw[hc] at hcell;have each:∀i,i<m->∃y:α,W.cells? 0 (a.add (i*s)) s=some (f y)/\ok y/\g y<Rows.uptoBulk (D i):=λi hi=>by obtain⟨cs',h1,h2⟩:=hcell i hi;obtain⟨y,rfl,hy⟩:=hel _ _ _ h2;exact⟨y,h1,hy⟩
  obtain⟨Y,hY⟩:=Go.Deep.choose_lt each;refine⟨some a,len,m,(List.range m).map Y,hcs,hl,?_,⟨by simp,Nat.le_refl _,(λhA=>by cases hA),λh0=>?_⟩,λz hz=>?_,λz hz=>?_⟩
  ·have h1:=g3a ((List.range len).map D);have h2:=g3a ((List.range (m-len)).map λj=>D (len+j));rw[List.length_map,List.length_range] at h1 h2;simp only[Rows.uptoBulk];omega
  ·obtain⟨b,off,spot⟩:=a;obtain⟨_,h01,h02⟩:=World.cells?_some (hY 0 h0).1;have hf0:0<(f (Y 0)).length:=by rw[hfl];exact hs
   have h03:=h02 0 (by omega);rw[List.getElem?_eq_getElem hf0] at h03;have hspot:spot=none:=by simpa[Addr.add] using World.cell?_spot h03
   subst hspot;have add_at:∀i,(⟨b,off,none⟩:Addr).add i=⟨b,off+i,none⟩:=λi=>by
    by_cases hj0:i=0
    ·subst hj0;simp[Addr.add]
    ·simp[Addr.add,hj0]
   have add_at2:∀i j,(⟨b,off+i,none⟩:Addr).add j=⟨b,off+(i+j),none⟩:=λi j=>by
    by_cases hj0:j=0
    ·subst hj0;simp[Addr.add]
    ·simp[Addr.add,hj0,Nat.add_assoc]
   refine⟨b,off,rfl,?_,λi z hi j u hj=>?_⟩
   ·have:=World.block_lt_of_cell? W _ h03;simpa[Addr.add] using this
   ·rw[List.getElem?_map] at hi;have him:i<m:=by
     rcases Nat.lt_or_ge i m with h | h
     ·exact h
     ·rw[List.getElem?_eq_none (by simpa using h)] at hi;cases hi
    rw[List.getElem?_range him] at hi;injection hi with hi
    subst hi;obtain⟨_,_,h2⟩:=World.cells?_some (hY i him).1;have hjl:j<s:=by rw[<-hfl (Y i)];exact(List.getElem?_eq_some_iff.1 hj).1
    have h3:=h2 j hjl;rw[add_at,add_at2,hj] at h3;exact h3
  ·obtain⟨i,hi,rfl⟩:=List.mem_map.1 hz;exact(hY i (List.mem_range.1 hi)).2.1
  ·obtain⟨i,hi,rfl⟩:=List.mem_map.1 hz;have hi':=List.mem_range.1 hi;have hw:=(hY i hi').2.2;simp only[Rows.uptoBulk];rcases Nat.lt_or_ge i len with h | h
   ·have:=y3b (l:=(List.range len).map D) (List.mem_map.2 ⟨i,List.mem_range.2 h,rfl⟩);omega
   ·have:=y3b (l:=(List.range (m-len)).map λj=>D (len+j)) (List.mem_map.2 ⟨i-len,List.mem_range.2 (by omega),rfl⟩);rw[show len+(i-len)=i from by omega] at this;omega
end
section
variable {H:Type} {enc:TypeId×Value->H} {W:World} {base:Nat} {v:Value} {d:DataW H} {p:List MemPlace}
theorem C4b(n:Nat)(cs:List Value)(x:DataW H×List MemPlace)(hf:DataW.trod enc Tryz.prog W 0 (λ_=>true) true n 118 cs=some x):∃l:y1a,cs=z0a l/\l.ok/\l.name.size<Rows.uptoBulk x.1:=by
 obtain⟨xs,m,_,hd,hl,hx,hel⟩:=DataW.trod_struct Tryz.underlying118 hf;have hx2:xs.length=2:=hx;have h3:cs.length=3:=hl.trans (by kernel_rfl);have e0:=hel 0 _ rfl;have e1:=hel 1 _ rfl;have cs1:Tryz.prog.cellsOf 9=1:=by kernel_rfl
 have cs2:Tryz.prog.cellsOf 116=2:=by kernel_rfl
 change DataW.trod enc Tryz.prog W 0 (λ_=>true) true m 9 ((cs.drop 0).take (Tryz.prog.cellsOf 9))=xs[0]? at e0
 change DataW.trod enc Tryz.prog W 0 (λ_=>true) true m 116 ((cs.drop 1).take (Tryz.prog.cellsOf 116))=xs[1]? at e1
 rw[cs1] at e0;rw[cs2] at e1;obtain⟨z0,hz0⟩:=Option.isSome_iff_exists.1 (show(xs[0]?).isSome=true by simp[hx2]);obtain⟨z1,hz1⟩:=Option.isSome_iff_exists.1 (show(xs[1]?).isSome=true by simp[hx2]);rw[hz0] at e0;rw[hz1] at e1;obtain⟨s,d0,q0,_⟩:=DataW.trod_string (P:=Tryz.prog) Tryz.underlying9 e0;obtain⟨ys,m2,_,_,hl2,hy,hel2⟩:=DataW.trod_struct Tryz.underlying116 e1;have hy2:ys.length=2:=hy;have g0:=hel2 0 _ rfl;have g1:=hel2 1 _ rfl;have c1:∀t,t=3∨t=36->Tryz.prog.cellsOf t=1:=by rintro t (rfl | rfl)<;>kernel_rfl
 rw[c1 _ (by simp)] at g0 g1;obtain⟨x1,d1,w1⟩:=k2a Tryz.underlying36 (by simp[hy2]) g0;obtain⟨x2,d2,w2⟩:=k2a Tryz.underlying3 (by simp[hy2]) g1;have hq:s.size<Rows.uptoBulk x.1:=by
  have hdd:x.1=.agg (xs.map (·.1)):=by rw[hd]
  have h0:=H0b (List.mem_map.2 ⟨z0,List.mem_of_getElem? hz0,rfl⟩:z0.1∈xs.map (·.1));rw[<-hdd,q0] at h0;simp only[Rows.uptoBulk] at h0;have:s.data.toList.length=s.size:=by rw[Array.length_toList];rfl
  omega
 refine⟨⟨s,x1,x2⟩,?_,⟨D1a w1,W7a w2⟩,hq⟩
 match cs,h3 with
 | [a,b,c],_=>simp at d0 d1 d2;simp[z0a,d0,d1,d2]
end
section
variable {H:Type} {enc:TypeId×Value->H} {P:Program} {W:World} {base:Nat} {t e:TypeId} {v:Value} {d:DataW H} {p:List MemPlace}
theorem u0c{k:IntKind}{m b fuel:Nat}{sp:Nat->Bool}{hd:Bool}{l:List Value}{x:DataW H×List MemPlace}(ht:P.underlying t=some (.array m e))(he:P.underlying e=some (.int k))(hc:P.cellsOf e=1)(hl:l.length=m)
(hf:DataW.trod enc P W b sp hd fuel t l=some x):∃xs:List Int,l=xs.map (Value.int k)/\∀x∈xs,(Lit.int k x).wf=true:=by
 obtain⟨ys,n,_,_,hlc,hyl,hel⟩:=DataW.trod_array ht hf;rw[hc] at hel;have each:∀i (h:i<l.length),∃x,l[i]=.int k x/\(Lit.int k x).wf=true:=by
  intro i hi;have h1:=hel i (by omega);rw[Nat.mul_one] at h1;rw[List.drop_eq_getElem_cons hi,List.take_succ_cons,List.take_zero] at h1;have hy:i<ys.length:=by omega
  rw[List.getElem?_eq_getElem hy] at h1;obtain⟨x,e0,_,wx⟩:=DataW.trod_int he h1;exact⟨x,by simpa using e0,wx⟩
 clear hf hel hl hlc hyl
 induction l with
 | nil=>exact⟨[],rfl,λ_ h=>by cases h⟩
 | cons u r ih=>
  obtain⟨x,hx,wx⟩:=each 0 (by simp);obtain⟨xs,hr,hw⟩:=ih λi hi=>by have:=each (i+1) (by simpa using hi);simpa using this
  refine⟨x::xs,by rw[hr];simpa using hx,λy hy=>?_⟩;rcases List.mem_cons.1 hy with rfl | hy
  ·exact wx
  ·exact hw y hy
theorem A9a{l:List Value}{i:Nat}{a:Value}(h:(l.drop i).take 1=[a]):l.drop i=a::l.drop (i+1):=by
 have e:l.drop (i+1)=(l.drop i).drop 1:=by rw[List.drop_drop]
 rw[e];cases hq:l.drop i with
 | nil=>rw[hq] at h;cases h
 | cons u r=>rw[hq] at h;simp at h;rw[h];rfl
theorem z4a{k:IntKind}{b fuel i:Nat}{sp:Nat->Bool}{hd:Bool}{l:List Value}{y:Option (DataW H×List MemPlace)}(he:P.underlying e=some (.int k))(hy:y.isSome=true)
(hf:DataW.trod enc P W b sp hd fuel e ((l.drop i).take 1)=y):∃x,l.drop i=.int k x::l.drop (i+1)/\(Lit.int k x).wf=true:=by obtain⟨z,rfl⟩:=Option.isSome_iff_exists.1 hy;obtain⟨x,e0,_,wx⟩:=DataW.trod_int he hf;exact⟨x,A9a e0,wx⟩
end
section
variable {H:Type} {enc:TypeId×Value->H} {W:World} {base:Nat} {v:Value} {d:DataW H} {p:List MemPlace}
theorem j7b{fuel:Nat}{l:List Value}{x:DataW H×List MemPlace}(hf:DataW.trod enc Tryz.prog W 0 (λ_=>true) true fuel 28 l=some x):∃h:Hd,h.ok/\l=o0a h:=by
 obtain⟨d,p⟩:=x;have h26:Tryz.prog.cellsOf 28=26:=by kernel_rfl
 obtain⟨xs,n,_,_,hln,hx,hel⟩:=DataW.trod_struct Tryz.underlying28 hf;rw[h26] at hln;have hx11:xs.length=11:=hx;have some_at:∀i,i<11->(xs[i]?).isSome=true:=λi hi=>by simp[hx11,hi]
 have c1:∀t,t=22∨t=23∨t=25∨t=24->Tryz.prog.cellsOf t=1:=by rintro t (rfl | rfl | rfl | rfl)<;>kernel_rfl
 have e0:=hel 0 _ rfl;have e1:=hel 1 _ rfl;have e2:=hel 2 _ rfl;have e3:=hel 3 _ rfl;have e4:=hel 4 _ rfl;have e5:=hel 5 _ rfl;have e6:=hel 6 _ rfl;have e7:=hel 7 _ rfl;have e8:=hel 8 _ rfl;have e9:=hel 9 _ rfl;have e10:=hel 10 _ rfl;rw[c1 _ (by simp)] at e0 e1 e2 e3 e4 e5 e6 e7 e8 e9;obtain⟨x0,d0,w0⟩:=z4a (i:=0) Tryz.underlying22 (some_at 0 (by omega)) e0;obtain⟨x1,d1,w1⟩:=z4a (i:=1) Tryz.underlying23 (some_at 1 (by omega)) e1;obtain⟨x2,d2,w2⟩:=z4a (i:=2) Tryz.underlying24 (some_at 2 (by omega)) e2;obtain⟨x3,d3,w3⟩:=z4a (i:=3) Tryz.underlying22 (some_at 3 (by omega)) e3;obtain⟨x4,d4,w4⟩:=z4a (i:=4) Tryz.underlying23 (some_at 4 (by omega)) e4;obtain⟨x5,d5,w5⟩:=z4a (i:=5) Tryz.underlying23 (some_at 5 (by omega)) e5;obtain⟨x6,d6,w6⟩:=z4a (i:=6) Tryz.underlying25 (some_at 6 (by omega)) e6;obtain⟨x7,d7,w7⟩:=z4a (i:=7) Tryz.underlying25 (some_at 7 (by omega)) e7;obtain⟨x8,d8,w8⟩:=z4a (i:=8) Tryz.underlying23 (some_at 8 (by omega)) e8;obtain⟨x9,d9,w9⟩:=z4a (i:=9) Tryz.underlying25 (some_at 9 (by omega)) e9;have c16:Tryz.prog.cellsOf 26=16:=by kernel_rfl
 change DataW.trod enc Tryz.prog W 0 (λ_=>true) true n 26 ((l.drop 10).take (Tryz.prog.cellsOf 26))=xs[10]? at e10
 rw[c16] at e10;obtain⟨z,hz⟩:=Option.isSome_iff_exists.1 (some_at 10 (by omega));rw[hz] at e10;have ht:(l.drop 10).take 16=l.drop 10:=List.take_of_length_le (by simp;omega);rw[ht] at e10;obtain⟨ss,hss,wss⟩:=u0c Tryz.underlying26 Tryz.underlying5 (by kernel_rfl) (by simp;omega) e10;have hsl:ss.length=16:=by have:=congrArg List.length hss;simp at this;omega
 refine⟨⟨x0,x1,x2,x3,x4,x5,x6,x7,x8,x9,ss⟩,⟨i2a w0,Y1a w1,i2a w2,i2a w3,Y1a w4,Y1a w5,Z1a w6,Z1a w7,Y1a w8,Z1a w9,hsl,λy hy=>D1a (wss y hy)⟩,?_⟩;rw[<-List.drop_zero (l:=l),d0,d1,d2,d3,d4,d5,d6,d7,d8,d9,hss];rfl
theorem f9b{fuel:Nat}{l:List Value}{x:DataW H×List MemPlace}(hf:DataW.trod enc Tryz.prog W 0 (λ_=>true) true fuel 34 l=some x)(hu:Rows.uptoBulk x.1<=1048577):∃a:m1a,a.ok/\f1a W W.heap.size l a/\a.dial.length<=1048576/\a.data.length<=1048576/\a.locks.length<=1048576/\a.user.size<=1048576/\a.share.size<=1048576/\a.name.size<=1048576/\a.pat.size<=1048576/\a.aft.size<=1048576:=by
 obtain⟨d,p⟩:=x;change Rows.uptoBulk d<=_ at hu
 have htot:Tryz.prog.cellsOf 34=69:=by kernel_rfl
 obtain⟨xs,m,_,hd,hl,hx,hel⟩:=DataW.trod_struct Tryz.underlying34 hf;have hxl:xs.length=23:=hx;have some_at:∀i,i<23->(xs[i]?).isSome=true:=λi hi=>by simp[hxl,hi]
 have hdd:d=.agg (xs.map (·.1)):=by injection hd
 have wt:∀(i:Nat) (z:DataW H×List MemPlace),xs[i]? = some z->Rows.uptoBulk z.1<Rows.uptoBulk d:=λi z hz=>by rw[hdd];exact H0b (List.mem_map.2 ⟨z,List.mem_of_getElem? hz,rfl⟩)
 rw[htot] at hl;have e0:=hel 0 _ rfl;change DataW.trod enc Tryz.prog W 0 (λ_=>true) true m 29 ((l.drop 0).take (Tryz.prog.cellsOf 29))=xs[0]? at e0
 rw[show Tryz.prog.cellsOf 29=1 from by kernel_rfl] at e0;obtain⟨z0,hz0⟩:=Option.isSome_iff_exists.1 (some_at 0 (by omega));have wz0:=wt 0 z0 hz0;rw[hz0] at e0;obtain⟨A0,n0,k0,s0,d0,l0,b0,h0,w0⟩:=P1b Tryz.underlying29 Tryz.underlying22 (by kernel_rfl) e0;have c0:=N0a (i:=0) d0;have e1:=hel 1 _ rfl;change DataW.trod enc Tryz.prog W 0 (λ_=>true) true m 26 ((l.drop 1).take (Tryz.prog.cellsOf 26))=xs[1]? at e1
 rw[show Tryz.prog.cellsOf 26=16 from by kernel_rfl] at e1;obtain⟨z1,hz1⟩:=Option.isSome_iff_exists.1 (some_at 1 (by omega));have wz1:=wt 1 z1 hz1;rw[hz1] at e1;obtain⟨s1,d1,w1⟩:=z3b Tryz.underlying26 Tryz.underlying5 (by kernel_rfl) (by simp;omega) e1;have t1:s1.length=16:=by have:=congrArg List.length d1;simp at this;omega
 have c1:l.drop 1=s1.map (Value.int .u8)++l.drop 17:=by rw[<-d1,show l.drop 17=(l.drop 1).drop 16 from by rw[List.drop_drop]];exact(List.take_append_drop _ _).symm
 have e2:=hel 2 _ rfl;change DataW.trod enc Tryz.prog W 0 (λ_=>true) true m 30 ((l.drop 17).take (Tryz.prog.cellsOf 30))=xs[2]? at e2
 rw[show Tryz.prog.cellsOf 30=32 from by kernel_rfl] at e2;obtain⟨z2,hz2⟩:=Option.isSome_iff_exists.1 (some_at 2 (by omega));have wz2:=wt 2 z2 hz2;rw[hz2] at e2;obtain⟨s2,d2,w2⟩:=z3b Tryz.underlying30 Tryz.underlying5 (by kernel_rfl) (by simp;omega) e2;have t2:s2.length=32:=by have:=congrArg List.length d2;simp at this;omega
 have c2:l.drop 17=s2.map (Value.int .u8)++l.drop 49:=by rw[<-d2,show l.drop 49=(l.drop 17).drop 32 from by rw[List.drop_drop]];exact(List.take_append_drop _ _).symm
 have e3:=hel 3 _ rfl;change DataW.trod enc Tryz.prog W 0 (λ_=>true) true m 9 ((l.drop 49).take (Tryz.prog.cellsOf 9))=xs[3]? at e3
 rw[show Tryz.prog.cellsOf 9=1 from by kernel_rfl] at e3;obtain⟨z3,hz3⟩:=Option.isSome_iff_exists.1 (some_at 3 (by omega));have wz3:=wt 3 z3 hz3;rw[hz3] at e3;obtain⟨x3,d3,q3,_⟩:=DataW.trod_string Tryz.underlying9 e3;have c3:=N0a (i:=49) d3;have k3:x3.size<=1048576:=by
  rw[q3] at wz3;simp only[Rows.uptoBulk] at wz3;have:x3.data.toList.length=x3.size:=by rw[Array.length_toList];rfl
  omega
 have e4:=hel 4 _ rfl;change DataW.trod enc Tryz.prog W 0 (λ_=>true) true m 9 ((l.drop 50).take (Tryz.prog.cellsOf 9))=xs[4]? at e4
 rw[show Tryz.prog.cellsOf 9=1 from by kernel_rfl] at e4;obtain⟨z4,hz4⟩:=Option.isSome_iff_exists.1 (some_at 4 (by omega));have wz4:=wt 4 z4 hz4;rw[hz4] at e4;obtain⟨x4,d4,q4,_⟩:=DataW.trod_string Tryz.underlying9 e4;have c4:=N0a (i:=50) d4;have k4:x4.size<=1048576:=by
  rw[q4] at wz4;simp only[Rows.uptoBulk] at wz4;have:x4.data.toList.length=x4.size:=by rw[Array.length_toList];rfl
  omega
 have e5:=hel 5 _ rfl;change DataW.trod enc Tryz.prog W 0 (λ_=>true) true m 23 ((l.drop 51).take (Tryz.prog.cellsOf 23))=xs[5]? at e5
 rw[show Tryz.prog.cellsOf 23=1 from by kernel_rfl] at e5;obtain⟨z5,hz5⟩:=Option.isSome_iff_exists.1 (some_at 5 (by omega));have wz5:=wt 5 z5 hz5;rw[hz5] at e5;obtain⟨x5,d5,w5⟩:=k2a (y:=some z5) Tryz.underlying23 rfl e5;have c5:=N0a (i:=51) d5;have e6:=hel 6 _ rfl;change DataW.trod enc Tryz.prog W 0 (λ_=>true) true m 23 ((l.drop 52).take (Tryz.prog.cellsOf 23))=xs[6]? at e6
 rw[show Tryz.prog.cellsOf 23=1 from by kernel_rfl] at e6;obtain⟨z6,hz6⟩:=Option.isSome_iff_exists.1 (some_at 6 (by omega));have wz6:=wt 6 z6 hz6;rw[hz6] at e6;obtain⟨x6,d6,w6⟩:=k2a (y:=some z6) Tryz.underlying23 rfl e6;have c6:=N0a (i:=52) d6;have e7:=hel 7 _ rfl;change DataW.trod enc Tryz.prog W 0 (λ_=>true) true m 23 ((l.drop 53).take (Tryz.prog.cellsOf 23))=xs[7]? at e7
 rw[show Tryz.prog.cellsOf 23=1 from by kernel_rfl] at e7;obtain⟨z7,hz7⟩:=Option.isSome_iff_exists.1 (some_at 7 (by omega));have wz7:=wt 7 z7 hz7;rw[hz7] at e7;obtain⟨x7,d7,w7⟩:=k2a (y:=some z7) Tryz.underlying23 rfl e7;have c7:=N0a (i:=53) d7;have e8:=hel 8 _ rfl;change DataW.trod enc Tryz.prog W 0 (λ_=>true) true m 23 ((l.drop 54).take (Tryz.prog.cellsOf 23))=xs[8]? at e8
 rw[show Tryz.prog.cellsOf 23=1 from by kernel_rfl] at e8;obtain⟨z8,hz8⟩:=Option.isSome_iff_exists.1 (some_at 8 (by omega));have wz8:=wt 8 z8 hz8;rw[hz8] at e8;obtain⟨x8,d8,w8⟩:=k2a (y:=some z8) Tryz.underlying23 rfl e8;have c8:=N0a (i:=54) d8;have e9:=hel 9 _ rfl;change DataW.trod enc Tryz.prog W 0 (λ_=>true) true m 5 ((l.drop 55).take (Tryz.prog.cellsOf 5))=xs[9]? at e9
 rw[show Tryz.prog.cellsOf 5=1 from by kernel_rfl] at e9;obtain⟨z9,hz9⟩:=Option.isSome_iff_exists.1 (some_at 9 (by omega));have wz9:=wt 9 z9 hz9;rw[hz9] at e9;obtain⟨x9,d9,w9⟩:=k2a (y:=some z9) Tryz.underlying5 rfl e9;have c9:=N0a (i:=55) d9;have e10:=hel 10 _ rfl;change DataW.trod enc Tryz.prog W 0 (λ_=>true) true m 5 ((l.drop 56).take (Tryz.prog.cellsOf 5))=xs[10]? at e10
 rw[show Tryz.prog.cellsOf 5=1 from by kernel_rfl] at e10;obtain⟨z10,hz10⟩:=Option.isSome_iff_exists.1 (some_at 10 (by omega));have wz10:=wt 10 z10 hz10;rw[hz10] at e10;obtain⟨x10,d10,w10⟩:=k2a (y:=some z10) Tryz.underlying5 rfl e10;have c10:=N0a (i:=56) d10;have e11:=hel 11 _ rfl;change DataW.trod enc Tryz.prog W 0 (λ_=>true) true m 25 ((l.drop 57).take (Tryz.prog.cellsOf 25))=xs[11]? at e11
 rw[show Tryz.prog.cellsOf 25=1 from by kernel_rfl] at e11;obtain⟨z11,hz11⟩:=Option.isSome_iff_exists.1 (some_at 11 (by omega));have wz11:=wt 11 z11 hz11;rw[hz11] at e11;obtain⟨x11,d11,w11⟩:=k2a (y:=some z11) Tryz.underlying25 rfl e11;have c11:=N0a (i:=57) d11;have e12:=hel 12 _ rfl;change DataW.trod enc Tryz.prog W 0 (λ_=>true) true m 9 ((l.drop 58).take (Tryz.prog.cellsOf 9))=xs[12]? at e12
 rw[show Tryz.prog.cellsOf 9=1 from by kernel_rfl] at e12;obtain⟨z12,hz12⟩:=Option.isSome_iff_exists.1 (some_at 12 (by omega));have wz12:=wt 12 z12 hz12;rw[hz12] at e12;obtain⟨x12,d12,q12,_⟩:=DataW.trod_string Tryz.underlying9 e12;have c12:=N0a (i:=58) d12;have k12:x12.size<=1048576:=by
  rw[q12] at wz12;simp only[Rows.uptoBulk] at wz12;have:x12.data.toList.length=x12.size:=by rw[Array.length_toList];rfl
  omega
 have e13:=hel 13 _ rfl;change DataW.trod enc Tryz.prog W 0 (λ_=>true) true m 25 ((l.drop 59).take (Tryz.prog.cellsOf 25))=xs[13]? at e13
 rw[show Tryz.prog.cellsOf 25=1 from by kernel_rfl] at e13;obtain⟨z13,hz13⟩:=Option.isSome_iff_exists.1 (some_at 13 (by omega));have wz13:=wt 13 z13 hz13;rw[hz13] at e13;obtain⟨x13,d13,w13⟩:=k2a (y:=some z13) Tryz.underlying25 rfl e13;have c13:=N0a (i:=59) d13;have e14:=hel 14 _ rfl;change DataW.trod enc Tryz.prog W 0 (λ_=>true) true m 23 ((l.drop 60).take (Tryz.prog.cellsOf 23))=xs[14]? at e14
 rw[show Tryz.prog.cellsOf 23=1 from by kernel_rfl] at e14;obtain⟨z14,hz14⟩:=Option.isSome_iff_exists.1 (some_at 14 (by omega));have wz14:=wt 14 z14 hz14;rw[hz14] at e14;obtain⟨x14,d14,w14⟩:=k2a (y:=some z14) Tryz.underlying23 rfl e14;have c14:=N0a (i:=60) d14;have e15:=hel 15 _ rfl;change DataW.trod enc Tryz.prog W 0 (λ_=>true) true m 31 ((l.drop 61).take (Tryz.prog.cellsOf 31))=xs[15]? at e15
 rw[show Tryz.prog.cellsOf 31=1 from by kernel_rfl] at e15;obtain⟨z15,hz15⟩:=Option.isSome_iff_exists.1 (some_at 15 (by omega));have wz15:=wt 15 z15 hz15;rw[hz15] at e15;obtain⟨A15,n15,k15,s15,d15,l15,b15,h15,w15⟩:=P1b Tryz.underlying31 Tryz.underlying5 (by kernel_rfl) e15;have c15:=N0a (i:=61) d15;have e16:=hel 16 _ rfl;change DataW.trod enc Tryz.prog W 0 (λ_=>true) true m 32 ((l.drop 62).take (Tryz.prog.cellsOf 32))=xs[16]? at e16
 rw[show Tryz.prog.cellsOf 32=1 from by kernel_rfl] at e16;obtain⟨z16,hz16⟩:=Option.isSome_iff_exists.1 (some_at 16 (by omega));have wz16:=wt 16 z16 hz16;rw[hz16] at e16;obtain⟨A16,n16,k16,s16,d16,l16,b16,h16,w16⟩:=d9b (f:=E0a) (s:=4) (ok:=g2a.ok) Tryz.underlying32 (by kernel_rfl) (by omega) Y2a e9b e16;have c16:=N0a (i:=62) d16;have e17:=hel 17 _ rfl;change DataW.trod enc Tryz.prog W 0 (λ_=>true) true m 22 ((l.drop 63).take (Tryz.prog.cellsOf 22))=xs[17]? at e17
 rw[show Tryz.prog.cellsOf 22=1 from by kernel_rfl] at e17;obtain⟨z17,hz17⟩:=Option.isSome_iff_exists.1 (some_at 17 (by omega));have wz17:=wt 17 z17 hz17;rw[hz17] at e17;obtain⟨x17,d17,w17⟩:=k2a (y:=some z17) Tryz.underlying22 rfl e17;have c17:=N0a (i:=63) d17;have e18:=hel 18 _ rfl;change DataW.trod enc Tryz.prog W 0 (λ_=>true) true m 9 ((l.drop 64).take (Tryz.prog.cellsOf 9))=xs[18]? at e18
 rw[show Tryz.prog.cellsOf 9=1 from by kernel_rfl] at e18;obtain⟨z18,hz18⟩:=Option.isSome_iff_exists.1 (some_at 18 (by omega));have wz18:=wt 18 z18 hz18;rw[hz18] at e18;obtain⟨x18,d18,q18,_⟩:=DataW.trod_string Tryz.underlying9 e18;have c18:=N0a (i:=64) d18;have k18:x18.size<=1048576:=by
  rw[q18] at wz18;simp only[Rows.uptoBulk] at wz18;have:x18.data.toList.length=x18.size:=by rw[Array.length_toList];rfl
  omega
 have e19:=hel 19 _ rfl;change DataW.trod enc Tryz.prog W 0 (λ_=>true) true m 9 ((l.drop 65).take (Tryz.prog.cellsOf 9))=xs[19]? at e19
 rw[show Tryz.prog.cellsOf 9=1 from by kernel_rfl] at e19;obtain⟨z19,hz19⟩:=Option.isSome_iff_exists.1 (some_at 19 (by omega));have wz19:=wt 19 z19 hz19;rw[hz19] at e19;obtain⟨x19,d19,q19,_⟩:=DataW.trod_string Tryz.underlying9 e19;have c19:=N0a (i:=65) d19;have k19:x19.size<=1048576:=by
  rw[q19] at wz19;simp only[Rows.uptoBulk] at wz19;have:x19.data.toList.length=x19.size:=by rw[Array.length_toList];rfl
  omega
 have e20:=hel 20 _ rfl;change DataW.trod enc Tryz.prog W 0 (λ_=>true) true m 22 ((l.drop 66).take (Tryz.prog.cellsOf 22))=xs[20]? at e20
 rw[show Tryz.prog.cellsOf 22=1 from by kernel_rfl] at e20;obtain⟨z20,hz20⟩:=Option.isSome_iff_exists.1 (some_at 20 (by omega));have wz20:=wt 20 z20 hz20;rw[hz20] at e20;obtain⟨x20,d20,w20⟩:=k2a (y:=some z20) Tryz.underlying22 rfl e20;have c20:=N0a (i:=66) d20;have e21:=hel 21 _ rfl;change DataW.trod enc Tryz.prog W 0 (λ_=>true) true m 25 ((l.drop 67).take (Tryz.prog.cellsOf 25))=xs[21]? at e21
 rw[show Tryz.prog.cellsOf 25=1 from by kernel_rfl] at e21;obtain⟨z21,hz21⟩:=Option.isSome_iff_exists.1 (some_at 21 (by omega));have wz21:=wt 21 z21 hz21;rw[hz21] at e21;obtain⟨x21,d21,w21⟩:=k2a (y:=some z21) Tryz.underlying25 rfl e21;have c21:=N0a (i:=67) d21;have e22:=hel 22 _ rfl;change DataW.trod enc Tryz.prog W 0 (λ_=>true) true m 4 ((l.drop 68).take (Tryz.prog.cellsOf 4))=xs[22]? at e22
 rw[show Tryz.prog.cellsOf 4=1 from by kernel_rfl] at e22;obtain⟨z22,hz22⟩:=Option.isSome_iff_exists.1 (some_at 22 (by omega));have wz22:=wt 22 z22 hz22;rw[hz22] at e22;obtain⟨x22,d22,_⟩:=DataW.trod_bool Tryz.underlying4 e22;have c22:=N0a (i:=68) d22;refine⟨⟨s0.take n0,s1,s2,x3,x4,x5,x6,x7,x8,x9,x10,x11,x12,x13,x14,s15.take n15,s16.take n16,x17,x18,x19,x20,x21,x22⟩,⟨λy hy=>i2a (w0 y (List.mem_of_mem_take hy)),t1,λy hy=>D1a (w1 y hy),t2,λy hy=>D1a (w2 y hy),Y1a w5,Y1a w6,Y1a w7,Y1a w8,D1a w9,D1a w10,Z1a w11,Z1a w13,Y1a w14,λy hy=>D1a (w15 y (List.mem_of_mem_take hy)),λy hy=>w16 y (List.mem_of_mem_take hy),i2a w17,i2a w20,Z1a w21⟩,⟨A0,n0,k0,A15,n15,k15,A16,n16,k16,?_,h0.head l0,(O2b h15 (by omega) (λy hy=>D1a (w15 y hy))).head l15,h16.head l16⟩,by simp;omega,by simp;omega,by simp;omega,k3,k4,k12,k18,k19⟩;have c:=c0;rw[List.drop_zero] at c;rw[c,c1,c2,c3,c4,c5,c6,c7,c8,c9,c10,c11,c12,c13,c14,c15,c16,c17,c18,c19,c20,c21,c22,List.drop_of_length_le (by omega)];rfl
theorem g9b{fuel:Nat}{l:List Value}{x:DataW H×List MemPlace}(hf:DataW.trod enc Tryz.prog W 0 (λ_=>true) true fuel 39 l=some x)(hu:Rows.uptoBulk x.1<=1048577):∃a:M1a,a.ok/\n1a W W.heap.size l a/\a.data.length<=1048576/\a.ents.length<=1048576/\∀e∈a.ents,e.name.size<=1048576:=by
 obtain⟨d,p⟩:=x;change Rows.uptoBulk d<=_ at hu
 have htot:Tryz.prog.cellsOf 39=20:=by kernel_rfl
 obtain⟨xs,m,_,hd,hl,hx,hel⟩:=DataW.trod_struct Tryz.underlying39 hf;have hxl:xs.length=13:=hx;have some_at:∀i,i<13->(xs[i]?).isSome=true:=λi hi=>by simp[hxl,hi]
 have hdd:d=.agg (xs.map (·.1)):=by injection hd
 have wt:∀(i:Nat) (z:DataW H×List MemPlace),xs[i]? = some z->Rows.uptoBulk z.1<Rows.uptoBulk d:=λi z hz=>by rw[hdd];exact H0b (List.mem_map.2 ⟨z,List.mem_of_getElem? hz,rfl⟩)
 rw[htot] at hl;have e0:=hel 0 _ rfl;change DataW.trod enc Tryz.prog W 0 (λ_=>true) true m 22 ((l.drop 0).take (Tryz.prog.cellsOf 22))=xs[0]? at e0
 rw[show Tryz.prog.cellsOf 22=1 from by kernel_rfl] at e0;obtain⟨z0,hz0⟩:=Option.isSome_iff_exists.1 (some_at 0 (by omega));have wz0:=wt 0 z0 hz0;rw[hz0] at e0;obtain⟨x0,d0,w0⟩:=k2a (y:=some z0) Tryz.underlying22 rfl e0;have c0:=N0a (i:=0) d0;have e1:=hel 1 _ rfl;change DataW.trod enc Tryz.prog W 0 (λ_=>true) true m 25 ((l.drop 1).take (Tryz.prog.cellsOf 25))=xs[1]? at e1
 rw[show Tryz.prog.cellsOf 25=1 from by kernel_rfl] at e1;obtain⟨z1,hz1⟩:=Option.isSome_iff_exists.1 (some_at 1 (by omega));have wz1:=wt 1 z1 hz1;rw[hz1] at e1;obtain⟨x1,d1,w1⟩:=k2a (y:=some z1) Tryz.underlying25 rfl e1;have c1:=N0a (i:=1) d1;have e2:=hel 2 _ rfl;change DataW.trod enc Tryz.prog W 0 (λ_=>true) true m 35 ((l.drop 2).take (Tryz.prog.cellsOf 35))=xs[2]? at e2
 rw[show Tryz.prog.cellsOf 35=8 from by kernel_rfl] at e2;obtain⟨z2,hz2⟩:=Option.isSome_iff_exists.1 (some_at 2 (by omega));have wz2:=wt 2 z2 hz2;rw[hz2] at e2;obtain⟨s2,d2,w2⟩:=z3b Tryz.underlying35 Tryz.underlying5 (by kernel_rfl) (by simp;omega) e2;have t2:s2.length=8:=by have:=congrArg List.length d2;simp at this;omega
 have c2:l.drop 2=s2.map (Value.int .u8)++l.drop 10:=by rw[<-d2,show l.drop 10=(l.drop 2).drop 8 from by rw[List.drop_drop]];exact(List.take_append_drop _ _).symm
 have e3:=hel 3 _ rfl;change DataW.trod enc Tryz.prog W 0 (λ_=>true) true m 5 ((l.drop 10).take (Tryz.prog.cellsOf 5))=xs[3]? at e3
 rw[show Tryz.prog.cellsOf 5=1 from by kernel_rfl] at e3;obtain⟨z3,hz3⟩:=Option.isSome_iff_exists.1 (some_at 3 (by omega));have wz3:=wt 3 z3 hz3;rw[hz3] at e3;obtain⟨x3,d3,w3⟩:=k2a (y:=some z3) Tryz.underlying5 rfl e3;have c3:=N0a (i:=10) d3;have e4:=hel 4 _ rfl;change DataW.trod enc Tryz.prog W 0 (λ_=>true) true m 5 ((l.drop 11).take (Tryz.prog.cellsOf 5))=xs[4]? at e4
 rw[show Tryz.prog.cellsOf 5=1 from by kernel_rfl] at e4;obtain⟨z4,hz4⟩:=Option.isSome_iff_exists.1 (some_at 4 (by omega));have wz4:=wt 4 z4 hz4;rw[hz4] at e4;obtain⟨x4,d4,w4⟩:=k2a (y:=some z4) Tryz.underlying5 rfl e4;have c4:=N0a (i:=11) d4;have e5:=hel 5 _ rfl;change DataW.trod enc Tryz.prog W 0 (λ_=>true) true m 22 ((l.drop 12).take (Tryz.prog.cellsOf 22))=xs[5]? at e5
 rw[show Tryz.prog.cellsOf 22=1 from by kernel_rfl] at e5;obtain⟨z5,hz5⟩:=Option.isSome_iff_exists.1 (some_at 5 (by omega));have wz5:=wt 5 z5 hz5;rw[hz5] at e5;obtain⟨x5,d5,w5⟩:=k2a (y:=some z5) Tryz.underlying22 rfl e5;have c5:=N0a (i:=12) d5;have e6:=hel 6 _ rfl;change DataW.trod enc Tryz.prog W 0 (λ_=>true) true m 25 ((l.drop 13).take (Tryz.prog.cellsOf 25))=xs[6]? at e6
 rw[show Tryz.prog.cellsOf 25=1 from by kernel_rfl] at e6;obtain⟨z6,hz6⟩:=Option.isSome_iff_exists.1 (some_at 6 (by omega));have wz6:=wt 6 z6 hz6;rw[hz6] at e6;obtain⟨x6,d6,w6⟩:=k2a (y:=some z6) Tryz.underlying25 rfl e6;have c6:=N0a (i:=13) d6;have e7:=hel 7 _ rfl;change DataW.trod enc Tryz.prog W 0 (λ_=>true) true m 36 ((l.drop 14).take (Tryz.prog.cellsOf 36))=xs[7]? at e7
 rw[show Tryz.prog.cellsOf 36=1 from by kernel_rfl] at e7;obtain⟨z7,hz7⟩:=Option.isSome_iff_exists.1 (some_at 7 (by omega));have wz7:=wt 7 z7 hz7;rw[hz7] at e7;obtain⟨x7,d7,w7⟩:=k2a (y:=some z7) Tryz.underlying36 rfl e7;have c7:=N0a (i:=14) d7;have e8:=hel 8 _ rfl;change DataW.trod enc Tryz.prog W 0 (λ_=>true) true m 31 ((l.drop 15).take (Tryz.prog.cellsOf 31))=xs[8]? at e8
 rw[show Tryz.prog.cellsOf 31=1 from by kernel_rfl] at e8;obtain⟨z8,hz8⟩:=Option.isSome_iff_exists.1 (some_at 8 (by omega));have wz8:=wt 8 z8 hz8;rw[hz8] at e8;obtain⟨A8,n8,k8,s8,d8,l8,b8,h8,w8⟩:=P1b Tryz.underlying31 Tryz.underlying5 (by kernel_rfl) e8;have c8:=N0a (i:=15) d8;have e9:=hel 9 _ rfl;change DataW.trod enc Tryz.prog W 0 (λ_=>true) true m 23 ((l.drop 16).take (Tryz.prog.cellsOf 23))=xs[9]? at e9
 rw[show Tryz.prog.cellsOf 23=1 from by kernel_rfl] at e9;obtain⟨z9,hz9⟩:=Option.isSome_iff_exists.1 (some_at 9 (by omega));have wz9:=wt 9 z9 hz9;rw[hz9] at e9;obtain⟨x9,d9,w9⟩:=k2a (y:=some z9) Tryz.underlying23 rfl e9;have c9:=N0a (i:=16) d9;have e10:=hel 10 _ rfl;change DataW.trod enc Tryz.prog W 0 (λ_=>true) true m 37 ((l.drop 17).take (Tryz.prog.cellsOf 37))=xs[10]? at e10
 rw[show Tryz.prog.cellsOf 37=1 from by kernel_rfl] at e10;obtain⟨z10,hz10⟩:=Option.isSome_iff_exists.1 (some_at 10 (by omega));have wz10:=wt 10 z10 hz10;rw[hz10] at e10;obtain⟨A10,n10,k10,s10,d10,l10,b10,h10,w10,g10⟩:=B5b (g:=λy=>y.name.size) (f:=z0a) (s:=3) (ok:=y1a.ok) Tryz.underlying37 (by kernel_rfl) (by omega) J2a C4b e10;have c10:=N0a (i:=17) d10;have e11:=hel 11 _ rfl;change DataW.trod enc Tryz.prog W 0 (λ_=>true) true m 4 ((l.drop 18).take (Tryz.prog.cellsOf 4))=xs[11]? at e11
 rw[show Tryz.prog.cellsOf 4=1 from by kernel_rfl] at e11;obtain⟨z11,hz11⟩:=Option.isSome_iff_exists.1 (some_at 11 (by omega));have wz11:=wt 11 z11 hz11;rw[hz11] at e11;obtain⟨x11,d11,_⟩:=DataW.trod_bool Tryz.underlying4 e11;have c11:=N0a (i:=18) d11;have e12:=hel 12 _ rfl;change DataW.trod enc Tryz.prog W 0 (λ_=>true) true m 4 ((l.drop 19).take (Tryz.prog.cellsOf 4))=xs[12]? at e12
 rw[show Tryz.prog.cellsOf 4=1 from by kernel_rfl] at e12;obtain⟨z12,hz12⟩:=Option.isSome_iff_exists.1 (some_at 12 (by omega));have wz12:=wt 12 z12 hz12;rw[hz12] at e12;obtain⟨x12,d12,_⟩:=DataW.trod_bool Tryz.underlying4 e12;have c12:=N0a (i:=19) d12;refine⟨⟨x0,x1,s2,x3,x4,x5,x6,x7,s8.take n8,x9,s10.take n10,x11,x12⟩,⟨i2a w0,Z1a w1,t2,λy hy=>D1a (w2 y hy),D1a w3,D1a w4,i2a w5,Z1a w6,D1a w7,λy hy=>D1a (w8 y (List.mem_of_mem_take hy)),Y1a w9,λy hy=>w10 y (List.mem_of_mem_take hy)⟩,⟨A8,n8,k8,A10,n10,k10,?_,(O2b h8 (by omega) (λy hy=>D1a (w8 y hy))).head l8,h10.head l10⟩,by simp;omega,by simp;omega,λy hy=>by have:=g10 y (List.mem_of_mem_take hy);omega⟩;have c:=c0;rw[List.drop_zero] at c;rw[c,c1,c2,c3,c4,c5,c6,c7,c8,c9,c10,c11,c12,List.drop_of_length_le (by omega)];rfl
structure G1c (m:J5a):Prop where
 al:m.a.dial.length<=1048576/\m.a.data.length<=1048576/\m.a.locks.length<=1048576
 at_:m.a.user.size<=1048576/\m.a.share.size<=1048576/\m.a.name.size<=1048576/\m.a.pat.size<=1048576/\m.a.aft.size<=1048576
 sl:m.s.data.length<=1048576/\m.s.ents.length<=1048576/\∀e∈m.s.ents,e.name.size<=1048576
theorem k6b(hv:Value.okWide Tryz.prog W .any base 41 v)(hk:DataW.Trod enc Tryz.prog W 0 (λ_=>true) true 41 v d p)(hu:Rows.uptoBulk d<=1048577):∃(cs:List Value) (m:J5a),v=.agg cs.toArray/\m.ok/\Z3a W W.heap.size cs m/\G1c m:=by
 obtain⟨cs,rfl,hsz,_⟩:∃cs,v=.agg cs/\cs.size=Tryz.prog.cellsOf 41/\Row.okWide Tryz.prog W .any base 41 cs:=by simpa[Value.okWide,Tryz.underlying41] using hv
 have htot:Tryz.prog.cellsOf 41=115:=by kernel_rfl
 obtain⟨fuel,hf⟩:=hk;obtain⟨xs,n,_,hd,hl,hx,hel⟩:=DataW.trod_struct Tryz.underlying41 hf;have hxl:xs.length=3:=hx;have some_at:∀i,i<3->(xs[i]?).isSome=true:=λi hi=>by simp[hxl,hi]
 have hdd:d=.agg (xs.map (·.1)):=by injection hd
 have wt:∀(i:Nat) (z:DataW H×List MemPlace),xs[i]? = some z->Rows.uptoBulk z.1<Rows.uptoBulk d:=λi z hz=>by rw[hdd];exact H0b (List.mem_map.2 ⟨z,List.mem_of_getElem? hz,rfl⟩)
 have hcl:(Value.agg cs).cells.toList=cs.toList:=rfl;rw[hcl] at hel hl;obtain⟨l,hll⟩:∃l,l=cs.toList:=⟨_,rfl⟩;rw[<-hll] at hel hl;rw[htot] at hl;have e0:=hel 0 _ rfl;change DataW.trod enc Tryz.prog W 0 (λ_=>true) true n 28 ((l.drop 0).take (Tryz.prog.cellsOf 28))=xs[0]? at e0
 rw[show Tryz.prog.cellsOf 28=26 from by kernel_rfl] at e0;obtain⟨z0,hz0⟩:=Option.isSome_iff_exists.1 (some_at 0 (by omega));rw[hz0] at e0;obtain⟨h,hok,hh⟩:=j7b e0;have e1:=hel 1 _ rfl;change DataW.trod enc Tryz.prog W 0 (λ_=>true) true n 34 ((l.drop 26).take (Tryz.prog.cellsOf 34))=xs[1]? at e1
 rw[show Tryz.prog.cellsOf 34=69 from by kernel_rfl] at e1;obtain⟨z1,hz1⟩:=Option.isSome_iff_exists.1 (some_at 1 (by omega));have wz1:=wt 1 z1 hz1;rw[hz1] at e1;obtain⟨a,aok,hA,a1,a2,a3,a4⟩:=f9b e1 (by omega);have e2:=hel 2 _ rfl;change DataW.trod enc Tryz.prog W 0 (λ_=>true) true n 39 ((l.drop 95).take (Tryz.prog.cellsOf 39))=xs[2]? at e2
 rw[show Tryz.prog.cellsOf 39=20 from by kernel_rfl] at e2;obtain⟨z2,hz2⟩:=Option.isSome_iff_exists.1 (some_at 2 (by omega));have wz2:=wt 2 z2 hz2;rw[hz2] at e2;obtain⟨s,sok,hS,s1,s2,s3⟩:=g9b e2 (by omega);refine⟨l,⟨h,a,s⟩,by rw[hll],⟨hok,aok,sok⟩,⟨_,_,?_,hA,hS⟩,⟨⟨a1,a2,a3⟩,a4,s1,s2,s3⟩⟩;have h95:(l.drop 95).take 20=l.drop 95:=List.take_of_length_le (by simp;omega);rw[<-hh,h95,List.drop_zero,show l.drop 95=(l.drop 26).drop 69 from by rw[List.drop_drop],List.take_append_drop,List.take_append_drop]
end
open Go.RowKit Go.Shelf
theorem k7b:(Rows.laid_unicode_utf8_first:DataW Unit)=Lib.firstData:=by kernel_rfl
theorem C5b:(Rows.laid_unicode_utf8_acceptRanges:DataW Unit)=Lib.acceptData:=by kernel_rfl
theorem V9a{W:World}(hL:laidMetH Tryz.prog [("unicode/utf8.acceptRanges",Rows.laid_unicode_utf8_acceptRanges),("unicode/utf8.first",Rows.laid_unicode_utf8_first)] W):V7a W:=by rw[k7b,C5b] at hL;exact utf8Tabs_of_readsT (U8Types.of196 Tryz.lays196) ⟨by kernel_rfl,by kernel_rfl,by kernel_rfl,by kernel_rfl,by kernel_rfl,by kernel_rfl,by kernel_rfl⟩ (Lib.laidMet.reads hL (.tail _ (.head _))) (Lib.laidMet.reads hL (.head _))
noncomputable def z7a (os:Os):World:=
 let w0:=World.holding Tryz.prog os ⟨#[],#[],[]⟩
 let put (h:Array Obj) (g:Nat) (cs:Array Value):Array Obj:=h.modify g fun
  | .cells _ t frozen=>.cells cs t frozen
  | o=>o
 let h1:=put w0.heap 0 (Lib.firstTab.map λz=>Value.int .u8 z).toArray
 let h2:=put h1 1 ((List.range 16).flatMap λi=>[Value.int .u8 (Lib.accLo i),Value.int .u8 (Lib.accHi i)]).toArray
 { w0 with heap:=h2 }
theorem l6b(os:Os)(args:Array Value):laidMet Tryz.prog [("unicode/utf8.acceptRanges",Rows.laid_unicode_utf8_acceptRanges),("unicode/utf8.first",Rows.laid_unicode_utf8_first)] ((z7a os).forCall (λ_ _=>0) ⟨#[],args,[]⟩).memory:=laidMet_of_run' 8 (by kernel_rfl) (by kernel_rfl)
end Go.Proofs.YtgfflnjggnadpaaGreatDoor
