import Derived.Test.YtgfflnjggnadpaaGreatDoorZAE
import Derived.Test.YtgfflnjggnadpaaGreatDoorZAF
import Derived.Test.YtgfflnjggnadpaaGreatDoorS0
set_option linter.all false
set_option maxHeartbeats 8000000
set_option maxRecDepth 100000
namespace Go.Proofs.YtgfflnjggnadpaaGreatDoor
open Go.RowKit
set_option maxRecDepth 100000
theorem Q5b:(Tryz.prog.info? 161).map (λi=>(i.zero,i.size))=some (some (.agg ([.slice none 0 0,.int .i64 0]:List Value).toArray),2):=by kernel_rfl
def R3a(w:World)(c:Int)(a:m1a)(e:Ending)(w':World):Prop:=∃v,e=.returned (.tuple #[v,.int .i64 (I2a c a)])/\a1a .u8 5 w' w.heap.size v (h1b c a)/\Below w.heap.size w w'
theorem d3b(w:World)(c:Int)(cs:List Value)(a:m1a)(hc:0<=c/\c<=65535)(ka:a.ok)(ha:b1a w w.heap.size cs a)(hu:a.user.size<=17592186044416/\a.share.size<=17592186044416)(hn:a.name.size<=17592186044416/\a.pat.size<=17592186044416/\a.aft.size<=17592186044416)(hT:f7a w) :
  Calls Tryz.prog 88 #[.int .u16 c,.agg cs.toArray] w (R3a w c a):=by
 have HL:=hI (ha.len ka);have HA:=hI ha;have HT:Hid (a6a w.heap.size w):=a6a.of hT;obtain⟨hn1,hn2,hn3⟩:=hn;have CN:Hid (∀w',Below w.heap.size w w'->Calls Tryz.prog 133 #[.int .u16 c,.agg cs.toArray] w' λe w2=>e=.returned (.bool (x3a c a))/\Below w'.heap.size w' w2):=λw' hb=>u1b w' c cs a hc ka (HA.out.over hb) hu (HT.out w' hb)
 have CT:Hid (∀(w:World) (b:Bool),Calls Tryz.prog 138 #[.bool b] w λe w'=>e=.returned (.int .u64 (U0a b))/\w=w'):=C0b;have FL:Hid (∀(w:World) (g:Nat),Blk w g 34 cs->w.cell? ⟨g,57,none⟩=some (.int .u64 a.file)/\w.cell? ⟨g,63,none⟩=some (.int .u16 a.most)/\w.cell? ⟨g,64,none⟩=some (.string a.pat)/\w.cell? ⟨g,65,none⟩=some (.string a.aft)/\w.cell? ⟨g,66,none⟩=some (.int .u16 a.cls)/\w.cell? ⟨g,67,none⟩=some (.int .u64 a.siz)/\w.cell? ⟨g,68,none⟩=some (.bool a.on)/\w.cell? ⟨g,58,none⟩=some (.string a.name)/\w.cell? ⟨g,55,none⟩=some (.int .u8 a.lev)):=by obtain⟨A1,A2,A3,X1,X2,X3,M1,M2,M3,rfl,hA,hX,hM⟩:=ha;exact λw g h=>⟨h.at (j0a ka 8),h.at (j0a ka 14),h.at (j0a ka 15),h.at (j0a ka 16),h.at (j0a ka 17),h.at (j0a ka 18),h.at (j0a ka 19),h.at (j0a ka 9),h.at (j0a ka 6)⟩
 have ZW:=hI Q5b;have b1:=ka.file;have b2:=ka.most;have b3:=ka.cls;have b4:=ka.siz;have b5:=ka.lev
 have rp:=q2a a.pat.data.toList;have ra:=q2a a.aft.data.toList;have rn:=q2a a.name.data.toList;by_cases hnm:x3a c a=true;rotate_left
 ·have hnf:x3a c a=false:=by simpa using hnm
  have he:I2a c a=2:=by unfold I2a;rw[if_neg hnm]
  have HQ:Hid (∀(e:Ending) (w':World),e=.returned (.tuple #[.slice none 0 0,.int .i64 2])->Below w.heap.size w w'->R3a w c a e w'):=by intro e w' h1 h2;refine⟨_,by rw[he];exact h1,?_,h2⟩;unfold h1b;rw[he,if_neg (by decide)];exact a1a.nil _ _ _ _
  rw[hnf] at CN;clear hnm hnf he ha ka hT hu hc CT ZW FL;go_enter Tryz.func88,Tryz.ntmps88;go_wp2_with(first
   | ((with_reducible refine sN 3 ?_);refine a0a rfl _ (.tmp 1) rfl cs rfl ?_;intro z w1 hz1 hz2 Z1 L1)
   | ((with_reducible refine sN 8 ?_);refine d0a rfl _ (.tmp 3) rfl z rfl _ cs Z1 69 _ Tryz.underlying34 rfl n0a HL ?_)
   | fail)
  refine(CN.out w1 L1.out).mono ?_;rintro e w2 ⟨rfl,L2⟩;have L22:=hI (step L1.out L2);clear L2;go_wp2;go_ret2;exact HQ.out _ _ rfl L22.out
 rw[hnm] at CN;have hk:E3a c=true:=by unfold x3a at hnm;simp only[Bool.and_eq_true] at hnm;exact hnm.1
 have hcl:c=17->1<=a.cls/\a.cls<=3:=by
  intro h17;unfold x3a U5a at hnm;simp only[Bool.and_eq_true,Bool.or_eq_true,Bool.not_eq_true',decide_eq_false_iff_not,decide_eq_true_eq] at hnm;rcases hnm.2.1 with h | h
  ·exact absurd h17 h
  ·exact h
 have hw1:IntKind.u64.wrap a.most=a.most:=by rw[IntKind.wrap_u64];omega
 have hw2:IntKind.u64.wrap a.cls=a.cls:=by rw[IntKind.wrap_u64];omega
 obtain⟨b10,b11⟩:=b1;obtain⟨b20,b21⟩:=b2;obtain⟨b30,b31⟩:=b3;obtain⟨b40,b41⟩:=b4;obtain⟨b50,b51⟩:=b5;have bf:0<=a.file/\a.file<=18446744073709551615:=⟨b10,b11⟩;have bs:0<=a.siz/\a.siz<=18446744073709551615:=⟨b40,b41⟩;have bm:0<=a.most/\a.most<=65535:=⟨b20,b21⟩;have bc:0<=a.cls/\a.cls<=65535:=⟨b30,b31⟩;have bl:0<=a.lev/\a.lev<=255:=⟨b50,b51⟩;have bo:0<=U0a a.on/\U0a a.on<=65535:=by have:=z5a a.on;omega
 have H2:Hid (([.slice none 0 0,.int .i64 0]:List Value).length=2):=rfl;go_enter Tryz.func88,Tryz.ntmps88;go_wp2_with(first
  | ((with_reducible refine sN 3 ?_);refine a0a rfl _ (.tmp 1) rfl cs rfl ?_;intro z w1 hz1 hz2 Z1 L1)
  | ((with_reducible refine sN 8 ?_);refine d0a rfl _ (.tmp 3) rfl z rfl _ cs Z1 69 _ Tryz.underlying34 rfl n0a HL ?_)
  | fail)
 refine(CN.out w1 L1.out).mono ?_;rintro e w2 ⟨rfl,L2⟩;have Z2:=hI (Z1.out.over L2);have L22:=hI (step L1.out L2);have hzs:z<w2.heap.size:=Z2.out.lt;clear L2 Z1 L1 CN;have hws:=L22.out.size;obtain⟨f1,f2,f3,f4,f5,f6,f7,f8,f9⟩:=FL.out _ _ Z2.out;go_upto_if 12 with(first
  | ((with_reducible refine sN 6 ?_);refine b0a rfl _ rfl _ _ ZW ?_;intro g u0 hg1 hg2 G0 N0;have hzg:z≠g:=(by omega);have Z0:=hI (Z2.out.over N0.out);have K0:Hid (c1a g w.heap.size w u0):=(c1a.of_below (L22.out.trans (N0.out.mono hws)) (Nat.le_refl _));have V0:Hid (WI u0 g w.heap.size [] 0):=⟨by omega,_,G0.out,a1a.nil _ _ _ _⟩;clear f1 f2 f3 f4 f5 f6 f7 f8 f9;obtain⟨f1,f2,f3,f4,f5,f6,f7,f8,f9⟩:=FL.out _ _ Z0.out)
  | fail)
 rcases g4a hk with h12 | h14 | h16 | h17 | h18
 subst h12;have D1:Hid (∀(w':World) (g:Nat),WI w' g w.heap.size ([]) (0)->Calls Tryz.prog 136 #[.pointer (some ⟨g,0,none⟩),.int .i64 4] w' λe w2=>e=.returned (.tuple #[])/\WI w2 g w.heap.size ([]++List.replicate 4 0) (0)/\c1a g w.heap.size w' w2):=λw' g h=>V4a w' g _ _ _ 4 h (by decide) (by decide) (by have h1:=rp;have h2:=ra;have h3:=rn;simp only[List.length_append,m0a,List.length_replicate,List.length_nil];omega)
 have DE:Hid (∀(w':World) (g:Nat),WI w' g w.heap.size ([]++List.replicate 4 0) 0->Calls Tryz.prog 140 #[.pointer (some ⟨g,0,none⟩)] w' λe w2=>∃v,e=.returned (.tuple #[v,.int .i64 0])/\a1a .u8 5 w2 w.heap.size v (if 0=0 then []++List.replicate 4 0 else [])/\Below w'.heap.size w' w2):=λw' g h=>Q3a w' g w.heap.size _ _ h
 have hbd:[]++List.replicate 4 0=y3a 12 a:=by unfold y3a;rw[if_neg (by decide),if_neg (by decide),if_neg (by decide),if_neg (by decide),List.nil_append]
 have her:I2a 12 a=0:=by unfold I2a;rw[if_pos hnm,if_neg (by decide),if_neg (λh=>absurd h.1 (by decide))]
 have HQ:Hid (∀(v:Value) (e:Ending) (w':World),e=.returned (.tuple #[v,.int .i64 0])->a1a .u8 5 w' w.heap.size v (if 0=0 then []++List.replicate 4 0 else [])->Below w.heap.size w w'->R3a w 12 a e w'):=by intro v e w' h1 h2 h3;refine⟨v,by rw[her];exact h1,?_,h3⟩;unfold h1b;rw[her,<-hbd];exact h2
 obtain⟨y1,hy1⟩:∃y:List Int,y=[]++List.replicate 4 0:=⟨_,rfl⟩;rw[<-hy1] at D1 DE HQ;clear hy1;clear hk hnm hcl her hbd ka ha hT hu hc;have F1:=hI (D1.out _ _ V0.out);go_wp2_with fail;refine F1.out.mono ?_;rintro e u1 ⟨rfl,p1,p2⟩;have Vz:=hI p1;have Kz:=hI (K0.out.trans p2);clear p1 p2 F1 V0;rotate_left;subst h14;have D1:Hid (∀(w':World) (g:Nat),WI w' g w.heap.size ([]) (0)->Calls Tryz.prog 134 #[.pointer (some ⟨g,0,none⟩),.int .u64 a.file] w' λe w2=>e=.returned (.tuple #[])/\WI w2 g w.heap.size ([]++le a.file 8) (0)/\c1a g w.heap.size w' w2):=λw' g h=>i3a w' g _ _ _ a.file h bf (by have h1:=rp;have h2:=ra;have h3:=rn;simp only[List.length_append,m0a,List.length_replicate,List.length_nil];omega)
 have D2:Hid (∀(w':World) (g:Nat),WI w' g w.heap.size ([]++le a.file 8) (0)->Calls Tryz.prog 135 #[.pointer (some ⟨g,0,none⟩),.int .u64 a.most] w' λe w2=>e=.returned (.tuple #[])/\WI w2 g w.heap.size ([]++le a.file 8++le a.most 2) (0)/\c1a g w.heap.size w' w2):=λw' g h=>P3a w' g _ _ _ a.most h bm (by have h1:=rp;have h2:=ra;have h3:=rn;simp only[List.length_append,m0a,List.length_replicate,List.length_nil];omega)
 have D3:Hid (∀(w':World) (g:Nat),WI w' g w.heap.size ([]++le a.file 8++le a.most 2) (0)->Calls Tryz.prog 136 #[.pointer (some ⟨g,0,none⟩),.int .i64 2] w' λe w2=>e=.returned (.tuple #[])/\WI w2 g w.heap.size ([]++le a.file 8++le a.most 2++List.replicate 2 0) (0)/\c1a g w.heap.size w' w2):=λw' g h=>V4a w' g _ _ _ 2 h (by decide) (by decide) (by have h1:=rp;have h2:=ra;have h3:=rn;simp only[List.length_append,m0a,List.length_replicate,List.length_nil];omega)
 have D4:Hid (∀(w':World) (g:Nat),a6a w.heap.size w'->WI w' g w.heap.size ([]++le a.file 8++le a.most 2++List.replicate 2 0) (0)->Calls Tryz.prog 137 #[.pointer (some ⟨g,0,none⟩),.string a.pat] w' λe w2=>e=.returned (.tuple #[])/\WI w2 g w.heap.size ([]++le a.file 8++le a.most 2++List.replicate 2 0++G0a a.pat.data.toList) (u0a a.pat.data.toList)/\c1a g w.heap.size w' w2):=λw' g ht h=>by have h1:=Z7a w' g _ _ _ a.pat h hn2 ht (by have h1:=rp;have h2:=ra;have h3:=rn;simp only[List.length_append,m0a,List.length_replicate,List.length_nil];omega);rw[if_pos rfl] at h1;exact h1
 have D5:Hid (∀(w':World) (g:Nat),a6a w.heap.size w'->WI w' g w.heap.size ([]++le a.file 8++le a.most 2++List.replicate 2 0++G0a a.pat.data.toList) ((u0a a.pat.data.toList))->Calls Tryz.prog 137 #[.pointer (some ⟨g,0,none⟩),.string a.aft] w' λe w2=>e=.returned (.tuple #[])/\WI w2 g w.heap.size ([]++le a.file 8++le a.most 2++List.replicate 2 0++G0a a.pat.data.toList++G0a a.aft.data.toList) (if (u0a a.pat.data.toList)=0 then u0a a.aft.data.toList else (u0a a.pat.data.toList))/\c1a g w.heap.size w' w2):=λw' g ht h=>Z7a w' g _ _ _ a.aft h hn3 ht (by have h1:=rp;have h2:=ra;have h3:=rn;simp only[List.length_append,m0a,List.length_replicate,List.length_nil];omega)
 have DE:Hid (∀(w':World) (g:Nat),WI w' g w.heap.size ([]++le a.file 8++le a.most 2++List.replicate 2 0++G0a a.pat.data.toList++G0a a.aft.data.toList) (if (u0a a.pat.data.toList)=0 then u0a a.aft.data.toList else (u0a a.pat.data.toList))->Calls Tryz.prog 140 #[.pointer (some ⟨g,0,none⟩)] w' λe w2=>∃v,e=.returned (.tuple #[v,.int .i64 (if (u0a a.pat.data.toList)=0 then u0a a.aft.data.toList else (u0a a.pat.data.toList))])/\a1a .u8 5 w2 w.heap.size v (if (if (u0a a.pat.data.toList)=0 then u0a a.aft.data.toList else (u0a a.pat.data.toList))=0 then []++le a.file 8++le a.most 2++List.replicate 2 0++G0a a.pat.data.toList++G0a a.aft.data.toList else [])/\Below w'.heap.size w' w2):=λw' g h=>Q3a w' g w.heap.size _ _ h
 have hbd:[]++le a.file 8++le a.most 2++List.replicate 2 0++G0a a.pat.data.toList++G0a a.aft.data.toList=y3a 14 a:=by unfold y3a;rw[if_pos rfl];simp only[List.nil_append,List.append_assoc]
 have her:I2a 14 a=(if (u0a a.pat.data.toList)=0 then u0a a.aft.data.toList else (u0a a.pat.data.toList)):=by unfold I2a;rw[if_pos hnm,if_pos rfl]
 have HQ:Hid (∀(v:Value) (e:Ending) (w':World),e=.returned (.tuple #[v,.int .i64 (if (u0a a.pat.data.toList)=0 then u0a a.aft.data.toList else (u0a a.pat.data.toList))])->a1a .u8 5 w' w.heap.size v (if (if (u0a a.pat.data.toList)=0 then u0a a.aft.data.toList else (u0a a.pat.data.toList))=0 then []++le a.file 8++le a.most 2++List.replicate 2 0++G0a a.pat.data.toList++G0a a.aft.data.toList else [])->Below w.heap.size w w'->R3a w 14 a e w'):=by intro v e w' h1 h2 h3;refine⟨v,by rw[her];exact h1,?_,h3⟩;unfold h1b;rw[her,<-hbd];exact h2
 obtain⟨y5,hy5⟩:∃y:List Int,y=[]++le a.file 8++le a.most 2++List.replicate 2 0++G0a a.pat.data.toList++G0a a.aft.data.toList:=⟨_,rfl⟩;rw[<-hy5] at D5 DE HQ;obtain⟨y4,hy4⟩:∃y:List Int,y=[]++le a.file 8++le a.most 2++List.replicate 2 0++G0a a.pat.data.toList:=⟨_,rfl⟩;rw[<-hy4] at D4 D5;obtain⟨y3,hy3⟩:∃y:List Int,y=[]++le a.file 8++le a.most 2++List.replicate 2 0:=⟨_,rfl⟩;rw[<-hy3] at D3 D4;obtain⟨y2,hy2⟩:∃y:List Int,y=[]++le a.file 8++le a.most 2:=⟨_,rfl⟩;rw[<-hy2] at D2 D3;obtain⟨y1,hy1⟩:∃y:List Int,y=[]++le a.file 8:=⟨_,rfl⟩;rw[<-hy1] at D1 D2;obtain⟨er5,her5⟩:∃y:Int,y=(if (u0a a.pat.data.toList)=0 then u0a a.aft.data.toList else (u0a a.pat.data.toList)):=⟨_,rfl⟩;try rw[<-her5] at D5
 try rw[<-her5] at DE
 try rw[<-her5] at HQ
 obtain⟨er4,her4⟩:∃y:Int,y=(u0a a.pat.data.toList):=⟨_,rfl⟩;try rw[<-her4] at D4
 try rw[<-her4] at D5
 try rw[<-her4] at DE
 try rw[<-her4] at HQ
 clear her5;clear her4;clear hy1;clear hy2;clear hy3;clear hy4;clear hy5;clear hk hnm hcl her hbd ka ha hT hu hc;have F1:=hI (D1.out _ _ V0.out);go_wp2_with fail;refine F1.out.mono ?_;rintro e u1 ⟨rfl,p1,p2⟩;have V1:=hI p1;have K1:=hI (K0.out.trans p2);have Z1:=hI (p2.blk Z0.out (by decide) hzg);obtain⟨c1_1,c1_2,c1_3,c1_4,c1_5,c1_6,c1_7,c1_8,c1_9⟩:=FL.out _ _ Z1.out;clear p1 p2 F1 V0;have F2:=hI (D2.out _ _ V1.out);go_wp2_with fail;refine F2.out.mono ?_;rintro e u2 ⟨rfl,p1,p2⟩;have V2:=hI p1;have K2:=hI (K1.out.trans p2);have Z2:=hI (p2.blk Z1.out (by decide) hzg);obtain⟨c2_1,c2_2,c2_3,c2_4,c2_5,c2_6,c2_7,c2_8,c2_9⟩:=FL.out _ _ Z2.out;clear p1 p2 F2 V1;have F3:=hI (D3.out _ _ V2.out);go_wp2_with fail;refine F3.out.mono ?_;rintro e u3 ⟨rfl,p1,p2⟩;have V3:=hI p1;have K3:=hI (K2.out.trans p2);have Z3:=hI (p2.blk Z2.out (by decide) hzg);obtain⟨c3_1,c3_2,c3_3,c3_4,c3_5,c3_6,c3_7,c3_8,c3_9⟩:=FL.out _ _ Z3.out;clear p1 p2 F3 V2;have F4:=hI (D4.out _ _ (HT.out.next K3.out.below) V3.out);go_wp2_with fail;refine F4.out.mono ?_;rintro e u4 ⟨rfl,p1,p2⟩;have V4:=hI p1;have K4:=hI (K3.out.trans p2);have Z4:=hI (p2.blk Z3.out (by decide) hzg);obtain⟨c4_1,c4_2,c4_3,c4_4,c4_5,c4_6,c4_7,c4_8,c4_9⟩:=FL.out _ _ Z4.out;clear p1 p2 F4 V3;have F5:=hI (D5.out _ _ (HT.out.next K4.out.below) V4.out);go_wp2_with fail;refine F5.out.mono ?_;rintro e u5 ⟨rfl,p1,p2⟩;have Vz:=hI p1;have Kz:=hI (K4.out.trans p2);clear p1 p2 F5 V4;rotate_left;subst h16;have D1:Hid (∀(w':World) (g:Nat),WI w' g w.heap.size ([]) (0)->Calls Tryz.prog 134 #[.pointer (some ⟨g,0,none⟩),.int .u64 a.file] w' λe w2=>e=.returned (.tuple #[])/\WI w2 g w.heap.size ([]++le a.file 8) (0)/\c1a g w.heap.size w' w2):=λw' g h=>i3a w' g _ _ _ a.file h bf (by have h1:=rp;have h2:=ra;have h3:=rn;simp only[List.length_append,m0a,List.length_replicate,List.length_nil];omega)
 have DE:Hid (∀(w':World) (g:Nat),WI w' g w.heap.size ([]++le a.file 8) 0->Calls Tryz.prog 140 #[.pointer (some ⟨g,0,none⟩)] w' λe w2=>∃v,e=.returned (.tuple #[v,.int .i64 0])/\a1a .u8 5 w2 w.heap.size v (if 0=0 then []++le a.file 8 else [])/\Below w'.heap.size w' w2):=λw' g h=>Q3a w' g w.heap.size _ _ h
 have hbd:[]++le a.file 8=y3a 16 a:=by unfold y3a;rw[if_neg (by decide),if_pos rfl,List.nil_append]
 have her:I2a 16 a=0:=by unfold I2a;rw[if_pos hnm,if_neg (by decide),if_neg (λh=>absurd h.1 (by decide))]
 have HQ:Hid (∀(v:Value) (e:Ending) (w':World),e=.returned (.tuple #[v,.int .i64 0])->a1a .u8 5 w' w.heap.size v (if 0=0 then []++le a.file 8 else [])->Below w.heap.size w w'->R3a w 16 a e w'):=by intro v e w' h1 h2 h3;refine⟨v,by rw[her];exact h1,?_,h3⟩;unfold h1b;rw[her,<-hbd];exact h2
 obtain⟨y1,hy1⟩:∃y:List Int,y=[]++le a.file 8:=⟨_,rfl⟩;rw[<-hy1] at D1 DE HQ;clear hy1;clear hk hnm hcl her hbd ka ha hT hu hc;have F1:=hI (D1.out _ _ V0.out);go_wp2_with fail;refine F1.out.mono ?_;rintro e u1 ⟨rfl,p1,p2⟩;have Vz:=hI p1;have Kz:=hI (K0.out.trans p2);clear p1 p2 F1 V0;rotate_left;subst h17;obtain⟨hc1,hc3⟩:=hcl rfl;have hcs:a.cls=1∨a.cls=2∨a.cls=3:=by omega
 rcases hcs with q | q | q
 have D1:Hid (∀(w':World) (g:Nat),WI w' g w.heap.size ([]) (0)->Calls Tryz.prog 134 #[.pointer (some ⟨g,0,none⟩),.int .u64 a.file] w' λe w2=>e=.returned (.tuple #[])/\WI w2 g w.heap.size ([]++le a.file 8) (0)/\c1a g w.heap.size w' w2):=λw' g h=>i3a w' g _ _ _ a.file h bf (by have h1:=rp;have h2:=ra;have h3:=rn;simp only[List.length_append,m0a,List.length_replicate,List.length_nil];omega)
 have D2:Hid (∀(w':World) (g:Nat),WI w' g w.heap.size ([]++le a.file 8) (0)->Calls Tryz.prog 135 #[.pointer (some ⟨g,0,none⟩),.int .u64 1] w' λe w2=>e=.returned (.tuple #[])/\WI w2 g w.heap.size ([]++le a.file 8++le 1 2) (0)/\c1a g w.heap.size w' w2):=λw' g h=>P3a w' g _ _ _ 1 h ⟨by decide,by decide⟩ (by have h1:=rp;have h2:=ra;have h3:=rn;simp only[List.length_append,m0a,List.length_replicate,List.length_nil];omega)
 have D3:Hid (∀(w':World) (g:Nat),WI w' g w.heap.size ([]++le a.file 8++le 1 2) (0)->Calls Tryz.prog 134 #[.pointer (some ⟨g,0,none⟩),.int .u64 a.siz] w' λe w2=>e=.returned (.tuple #[])/\WI w2 g w.heap.size ([]++le a.file 8++le 1 2++le a.siz 8) (0)/\c1a g w.heap.size w' w2):=λw' g h=>i3a w' g _ _ _ a.siz h bs (by have h1:=rp;have h2:=ra;have h3:=rn;simp only[List.length_append,m0a,List.length_replicate,List.length_nil];omega)
 have DE:Hid (∀(w':World) (g:Nat),WI w' g w.heap.size ([]++le a.file 8++le 1 2++le a.siz 8) 0->Calls Tryz.prog 140 #[.pointer (some ⟨g,0,none⟩)] w' λe w2=>∃v,e=.returned (.tuple #[v,.int .i64 0])/\a1a .u8 5 w2 w.heap.size v (if 0=0 then []++le a.file 8++le 1 2++le a.siz 8 else [])/\Below w'.heap.size w' w2):=λw' g h=>Q3a w' g w.heap.size _ _ h
 rw[q] at FL f5;have hbd:[]++le a.file 8++le 1 2++le a.siz 8=y3a 17 a:=by unfold y3a;rw[if_neg (by decide),if_neg (by decide),if_pos rfl,if_pos q];simp only[List.nil_append,List.append_assoc,q]
 have her:I2a 17 a=0:=by unfold I2a;rw[if_pos hnm,if_neg (by decide),if_neg (λh=>by have:=h.2;omega)]
 have HQ:Hid (∀(v:Value) (e:Ending) (w':World),e=.returned (.tuple #[v,.int .i64 0])->a1a .u8 5 w' w.heap.size v (if 0=0 then []++le a.file 8++le 1 2++le a.siz 8 else [])->Below w.heap.size w w'->R3a w 17 a e w'):=by intro v e w' h1 h2 h3;refine⟨v,by rw[her];exact h1,?_,h3⟩;unfold h1b;rw[her,<-hbd];exact h2
 obtain⟨y3,hy3⟩:∃y:List Int,y=[]++le a.file 8++le 1 2++le a.siz 8:=⟨_,rfl⟩;rw[<-hy3] at D3 DE HQ;obtain⟨y2,hy2⟩:∃y:List Int,y=[]++le a.file 8++le 1 2:=⟨_,rfl⟩;rw[<-hy2] at D2 D3;obtain⟨y1,hy1⟩:∃y:List Int,y=[]++le a.file 8:=⟨_,rfl⟩;rw[<-hy1] at D1 D2;clear hy1;clear hy2;clear hy3;clear hk hnm hcl her hbd ka ha hT hu hc;have F1:=hI (D1.out _ _ V0.out);go_wp2_with fail;refine F1.out.mono ?_;rintro e u1 ⟨rfl,p1,p2⟩;have V1:=hI p1;have K1:=hI (K0.out.trans p2);have Z1:=hI (p2.blk Z0.out (by decide) hzg);obtain⟨c1_1,c1_2,c1_3,c1_4,c1_5,c1_6,c1_7,c1_8,c1_9⟩:=FL.out _ _ Z1.out;clear p1 p2 F1 V0;have F2:=hI (D2.out _ _ V1.out);go_wp2_with fail;refine F2.out.mono ?_;rintro e u2 ⟨rfl,p1,p2⟩;have V2:=hI p1;have K2:=hI (K1.out.trans p2);have Z2:=hI (p2.blk Z1.out (by decide) hzg);obtain⟨c2_1,c2_2,c2_3,c2_4,c2_5,c2_6,c2_7,c2_8,c2_9⟩:=FL.out _ _ Z2.out;clear p1 p2 F2 V1;have F3:=hI (D3.out _ _ V2.out);go_wp2_with fail;refine F3.out.mono ?_;rintro e u3 ⟨rfl,p1,p2⟩;have Vz:=hI p1;have Kz:=hI (K2.out.trans p2);clear p1 p2 F3 V2;rotate_left;have D1:Hid (∀(w':World) (g:Nat),WI w' g w.heap.size ([]) (0)->Calls Tryz.prog 134 #[.pointer (some ⟨g,0,none⟩),.int .u64 a.file] w' λe w2=>e=.returned (.tuple #[])/\WI w2 g w.heap.size ([]++le a.file 8) (0)/\c1a g w.heap.size w' w2):=λw' g h=>i3a w' g _ _ _ a.file h bf (by have h1:=rp;have h2:=ra;have h3:=rn;simp only[List.length_append,m0a,List.length_replicate,List.length_nil];omega)
 have D2:Hid (∀(w':World) (g:Nat),WI w' g w.heap.size ([]++le a.file 8) (0)->Calls Tryz.prog 135 #[.pointer (some ⟨g,0,none⟩),.int .u64 2] w' λe w2=>e=.returned (.tuple #[])/\WI w2 g w.heap.size ([]++le a.file 8++le 2 2) (0)/\c1a g w.heap.size w' w2):=λw' g h=>P3a w' g _ _ _ 2 h ⟨by decide,by decide⟩ (by have h1:=rp;have h2:=ra;have h3:=rn;simp only[List.length_append,m0a,List.length_replicate,List.length_nil];omega)
 have D3:Hid (∀(w':World) (g:Nat),WI w' g w.heap.size ([]++le a.file 8++le 2 2) (0)->Calls Tryz.prog 135 #[.pointer (some ⟨g,0,none⟩),.int .u64 (U0a a.on)] w' λe w2=>e=.returned (.tuple #[])/\WI w2 g w.heap.size ([]++le a.file 8++le 2 2++le (U0a a.on) 2) (0)/\c1a g w.heap.size w' w2):=λw' g h=>P3a w' g _ _ _ (U0a a.on) h bo (by have h1:=rp;have h2:=ra;have h3:=rn;simp only[List.length_append,m0a,List.length_replicate,List.length_nil];omega)
 have DE:Hid (∀(w':World) (g:Nat),WI w' g w.heap.size ([]++le a.file 8++le 2 2++le (U0a a.on) 2) 0->Calls Tryz.prog 140 #[.pointer (some ⟨g,0,none⟩)] w' λe w2=>∃v,e=.returned (.tuple #[v,.int .i64 0])/\a1a .u8 5 w2 w.heap.size v (if 0=0 then []++le a.file 8++le 2 2++le (U0a a.on) 2 else [])/\Below w'.heap.size w' w2):=λw' g h=>Q3a w' g w.heap.size _ _ h
 rw[q] at FL f5;have hbd:[]++le a.file 8++le 2 2++le (U0a a.on) 2=y3a 17 a:=by unfold y3a;rw[if_neg (by decide),if_neg (by decide),if_pos rfl,if_neg (by omega),if_pos q];simp only[List.nil_append,List.append_assoc,q]
 have her:I2a 17 a=0:=by unfold I2a;rw[if_pos hnm,if_neg (by decide),if_neg (λh=>by have:=h.2;omega)]
 have HQ:Hid (∀(v:Value) (e:Ending) (w':World),e=.returned (.tuple #[v,.int .i64 0])->a1a .u8 5 w' w.heap.size v (if 0=0 then []++le a.file 8++le 2 2++le (U0a a.on) 2 else [])->Below w.heap.size w w'->R3a w 17 a e w'):=by intro v e w' h1 h2 h3;refine⟨v,by rw[her];exact h1,?_,h3⟩;unfold h1b;rw[her,<-hbd];exact h2
 obtain⟨y3,hy3⟩:∃y:List Int,y=[]++le a.file 8++le 2 2++le (U0a a.on) 2:=⟨_,rfl⟩;rw[<-hy3] at D3 DE HQ;obtain⟨y2,hy2⟩:∃y:List Int,y=[]++le a.file 8++le 2 2:=⟨_,rfl⟩;rw[<-hy2] at D2 D3;obtain⟨y1,hy1⟩:∃y:List Int,y=[]++le a.file 8:=⟨_,rfl⟩;rw[<-hy1] at D1 D2;clear hy1;clear hy2;clear hy3;clear hk hnm hcl her hbd ka ha hT hu hc;have F1:=hI (D1.out _ _ V0.out);go_wp2_with fail;refine F1.out.mono ?_;rintro e u1 ⟨rfl,p1,p2⟩;have V1:=hI p1;have K1:=hI (K0.out.trans p2);have Z1:=hI (p2.blk Z0.out (by decide) hzg);obtain⟨c1_1,c1_2,c1_3,c1_4,c1_5,c1_6,c1_7,c1_8,c1_9⟩:=FL.out _ _ Z1.out;clear p1 p2 F1 V0;have F2:=hI (D2.out _ _ V1.out);go_wp2_with fail;refine F2.out.mono ?_;rintro e u2 ⟨rfl,p1,p2⟩;have V2:=hI p1;have K2:=hI (K1.out.trans p2);have Z2:=hI (p2.blk Z1.out (by decide) hzg);obtain⟨c2_1,c2_2,c2_3,c2_4,c2_5,c2_6,c2_7,c2_8,c2_9⟩:=FL.out _ _ Z2.out;clear p1 p2 F2 V1;go_wp2_with fail;refine(CT.out _ _).mono ?_;rintro e wt ⟨rfl,rfl⟩;have F3:=hI (D3.out _ _ V2.out);go_wp2_with fail;refine F3.out.mono ?_;rintro e u3 ⟨rfl,p1,p2⟩;have Vz:=hI p1;have Kz:=hI (K2.out.trans p2);clear p1 p2 F3 V2;rotate_left;have D1:Hid (∀(w':World) (g:Nat),WI w' g w.heap.size ([]) (0)->Calls Tryz.prog 134 #[.pointer (some ⟨g,0,none⟩),.int .u64 a.file] w' λe w2=>e=.returned (.tuple #[])/\WI w2 g w.heap.size ([]++le a.file 8) (0)/\c1a g w.heap.size w' w2):=λw' g h=>i3a w' g _ _ _ a.file h bf (by have h1:=rp;have h2:=ra;have h3:=rn;simp only[List.length_append,m0a,List.length_replicate,List.length_nil];omega)
 have D2:Hid (∀(w':World) (g:Nat),WI w' g w.heap.size ([]++le a.file 8) (0)->Calls Tryz.prog 135 #[.pointer (some ⟨g,0,none⟩),.int .u64 3] w' λe w2=>e=.returned (.tuple #[])/\WI w2 g w.heap.size ([]++le a.file 8++le 3 2) (0)/\c1a g w.heap.size w' w2):=λw' g h=>P3a w' g _ _ _ 3 h ⟨by decide,by decide⟩ (by have h1:=rp;have h2:=ra;have h3:=rn;simp only[List.length_append,m0a,List.length_replicate,List.length_nil];omega)
 have D3:Hid (∀(w':World) (g:Nat),WI w' g w.heap.size ([]++le a.file 8++le 3 2) (0)->Calls Tryz.prog 135 #[.pointer (some ⟨g,0,none⟩),.int .u64 (U0a a.on)] w' λe w2=>e=.returned (.tuple #[])/\WI w2 g w.heap.size ([]++le a.file 8++le 3 2++le (U0a a.on) 2) (0)/\c1a g w.heap.size w' w2):=λw' g h=>P3a w' g _ _ _ (U0a a.on) h bo (by have h1:=rp;have h2:=ra;have h3:=rn;simp only[List.length_append,m0a,List.length_replicate,List.length_nil];omega)
 have D4:Hid (∀(w':World) (g:Nat),a6a w.heap.size w'->WI w' g w.heap.size ([]++le a.file 8++le 3 2++le (U0a a.on) 2) (0)->Calls Tryz.prog 137 #[.pointer (some ⟨g,0,none⟩),.string a.name] w' λe w2=>e=.returned (.tuple #[])/\WI w2 g w.heap.size ([]++le a.file 8++le 3 2++le (U0a a.on) 2++G0a a.name.data.toList) (u0a a.name.data.toList)/\c1a g w.heap.size w' w2):=λw' g ht h=>by have h1:=Z7a w' g _ _ _ a.name h hn1 ht (by have h1:=rp;have h2:=ra;have h3:=rn;simp only[List.length_append,m0a,List.length_replicate,List.length_nil];omega);rw[if_pos rfl] at h1;exact h1
 have DE:Hid (∀(w':World) (g:Nat),WI w' g w.heap.size ([]++le a.file 8++le 3 2++le (U0a a.on) 2++G0a a.name.data.toList) (u0a a.name.data.toList)->Calls Tryz.prog 140 #[.pointer (some ⟨g,0,none⟩)] w' λe w2=>∃v,e=.returned (.tuple #[v,.int .i64 (u0a a.name.data.toList)])/\a1a .u8 5 w2 w.heap.size v (if (u0a a.name.data.toList)=0 then []++le a.file 8++le 3 2++le (U0a a.on) 2++G0a a.name.data.toList else [])/\Below w'.heap.size w' w2):=λw' g h=>Q3a w' g w.heap.size _ _ h
 rw[q] at FL f5;have hbd:[]++le a.file 8++le 3 2++le (U0a a.on) 2++G0a a.name.data.toList=y3a 17 a:=by unfold y3a;rw[if_neg (by decide),if_neg (by decide),if_pos rfl,if_neg (by omega),if_neg (by omega)];simp only[List.nil_append,List.append_assoc,q]
 have her:I2a 17 a=(u0a a.name.data.toList):=by unfold I2a;rw[if_pos hnm,if_neg (by decide),if_pos ⟨rfl,q⟩]
 have HQ:Hid (∀(v:Value) (e:Ending) (w':World),e=.returned (.tuple #[v,.int .i64 (u0a a.name.data.toList)])->a1a .u8 5 w' w.heap.size v (if (u0a a.name.data.toList)=0 then []++le a.file 8++le 3 2++le (U0a a.on) 2++G0a a.name.data.toList else [])->Below w.heap.size w w'->R3a w 17 a e w'):=by intro v e w' h1 h2 h3;refine⟨v,by rw[her];exact h1,?_,h3⟩;unfold h1b;rw[her,<-hbd];exact h2
 obtain⟨y4,hy4⟩:∃y:List Int,y=[]++le a.file 8++le 3 2++le (U0a a.on) 2++G0a a.name.data.toList:=⟨_,rfl⟩;rw[<-hy4] at D4 DE HQ;obtain⟨y3,hy3⟩:∃y:List Int,y=[]++le a.file 8++le 3 2++le (U0a a.on) 2:=⟨_,rfl⟩;rw[<-hy3] at D3 D4;obtain⟨y2,hy2⟩:∃y:List Int,y=[]++le a.file 8++le 3 2:=⟨_,rfl⟩;rw[<-hy2] at D2 D3;obtain⟨y1,hy1⟩:∃y:List Int,y=[]++le a.file 8:=⟨_,rfl⟩;rw[<-hy1] at D1 D2;obtain⟨er4,her4⟩:∃y:Int,y=(u0a a.name.data.toList):=⟨_,rfl⟩;try rw[<-her4] at D4
 try rw[<-her4] at DE
 try rw[<-her4] at HQ
 clear her4;clear hy1;clear hy2;clear hy3;clear hy4;clear hk hnm hcl her hbd ka ha hT hu hc;have F1:=hI (D1.out _ _ V0.out);go_wp2_with fail;refine F1.out.mono ?_;rintro e u1 ⟨rfl,p1,p2⟩;have V1:=hI p1;have K1:=hI (K0.out.trans p2);have Z1:=hI (p2.blk Z0.out (by decide) hzg);obtain⟨c1_1,c1_2,c1_3,c1_4,c1_5,c1_6,c1_7,c1_8,c1_9⟩:=FL.out _ _ Z1.out;clear p1 p2 F1 V0;have F2:=hI (D2.out _ _ V1.out);go_wp2_with fail;refine F2.out.mono ?_;rintro e u2 ⟨rfl,p1,p2⟩;have V2:=hI p1;have K2:=hI (K1.out.trans p2);have Z2:=hI (p2.blk Z1.out (by decide) hzg);obtain⟨c2_1,c2_2,c2_3,c2_4,c2_5,c2_6,c2_7,c2_8,c2_9⟩:=FL.out _ _ Z2.out;clear p1 p2 F2 V1;go_wp2_with fail;refine(CT.out _ _).mono ?_;rintro e wt ⟨rfl,rfl⟩;have F3:=hI (D3.out _ _ V2.out);go_wp2_with fail;refine F3.out.mono ?_;rintro e u3 ⟨rfl,p1,p2⟩;have V3:=hI p1;have K3:=hI (K2.out.trans p2);have Z3:=hI (p2.blk Z2.out (by decide) hzg);obtain⟨c3_1,c3_2,c3_3,c3_4,c3_5,c3_6,c3_7,c3_8,c3_9⟩:=FL.out _ _ Z3.out;clear p1 p2 F3 V2;have F4:=hI (D4.out _ _ (HT.out.next K3.out.below) V3.out);go_wp2_with fail;refine F4.out.mono ?_;rintro e u4 ⟨rfl,p1,p2⟩;have Vz:=hI p1;have Kz:=hI (K3.out.trans p2);clear p1 p2 F4 V3;rotate_left;subst h18;have D1:Hid (∀(w':World) (g:Nat),WI w' g w.heap.size ([]) (0)->Calls Tryz.prog 139 #[.pointer (some ⟨g,0,none⟩),.int .u64 a.file,.int .u8 a.lev] w' λe w2=>e=.returned (.tuple #[])/\WI w2 g w.heap.size ([]++(le a.file 8++(le a.lev 1++List.replicate 3 0))) (0)/\c1a g w.heap.size w' w2):=λw' g h=>D0b w' g _ _ _ a.file a.lev h bf bl (by have h1:=rp;have h2:=ra;have h3:=rn;simp only[List.length_append,m0a,List.length_replicate,List.length_nil];omega)
 have DE:Hid (∀(w':World) (g:Nat),WI w' g w.heap.size ([]++(le a.file 8++(le a.lev 1++List.replicate 3 0))) 0->Calls Tryz.prog 140 #[.pointer (some ⟨g,0,none⟩)] w' λe w2=>∃v,e=.returned (.tuple #[v,.int .i64 0])/\a1a .u8 5 w2 w.heap.size v (if 0=0 then []++(le a.file 8++(le a.lev 1++List.replicate 3 0)) else [])/\Below w'.heap.size w' w2):=λw' g h=>Q3a w' g w.heap.size _ _ h
 have hbd:[]++(le a.file 8++(le a.lev 1++List.replicate 3 0))=y3a 18 a:=by unfold y3a;rw[if_neg (by decide),if_neg (by decide),if_neg (by decide),if_pos rfl,List.nil_append]
 have her:I2a 18 a=0:=by unfold I2a;rw[if_pos hnm,if_neg (by decide),if_neg (λh=>absurd h.1 (by decide))]
 have HQ:Hid (∀(v:Value) (e:Ending) (w':World),e=.returned (.tuple #[v,.int .i64 0])->a1a .u8 5 w' w.heap.size v (if 0=0 then []++(le a.file 8++(le a.lev 1++List.replicate 3 0)) else [])->Below w.heap.size w w'->R3a w 18 a e w'):=by intro v e w' h1 h2 h3;refine⟨v,by rw[her];exact h1,?_,h3⟩;unfold h1b;rw[her,<-hbd];exact h2
 obtain⟨y1,hy1⟩:∃y:List Int,y=[]++(le a.file 8++(le a.lev 1++List.replicate 3 0)):=⟨_,rfl⟩;rw[<-hy1] at D1 DE HQ;clear hy1;clear hk hnm hcl her hbd ka ha hT hu hc;have F1:=hI (D1.out _ _ V0.out);go_wp2_with fail;refine F1.out.mono ?_;rintro e u1 ⟨rfl,p1,p2⟩;have Vz:=hI p1;have Kz:=hI (K0.out.trans p2);clear p1 p2 F1 V0;rotate_left;all_goals
  have FE:=hI (DE.out _ _ Vz.out);go_wp2_with fail;refine FE.out.mono ?_;rintro e ue ⟨v,rfl,p1,p2⟩;have OE:=hI p1;have LE:=hI (Kz.out.below.trans (p2.mono (by have:=Kz.out.below.size;omega)));clear p1 p2 FE;go_wp2;go_ret2;exact HQ.out _ _ _ rfl OE.out LE.out
theorem v1b(w:World)(c:Int)(cs:List Value)(a:E1a)(hc:0<=c/\c<=65535)(ka:a.ok)(ha:f1a w w.heap.size cs a) :
  Calls Tryz.prog 149 #[.int .u16 c,.agg cs.toArray] w λe w'=>e=.returned (.bool (P2a c a))/\Below w.heap.size w w':=by
 have HL:=hI (ha.len ka);have hcl:=ka.clen;have CP:Hid (∀(w':World) (ds:List Value) (b:E1a),b.ok->f1a w' w'.heap.size ds b->Calls Tryz.prog 82 #[.int .u16 13,.agg ds.toArray] w' λe w2=>(∃v er,e=.returned (.tuple #[v,.int .i64 er])/\(er==0)=decide (b=w0a))/\Below w'.heap.size w' w2):=λw' ds b kb hb=>by exact(K9a w' 13 ds b (by decide) kb hb).mono λe w2 ⟨v,h1,_,h3⟩=>⟨⟨v,_,h1,d2b b⟩,h3⟩
 by_cases hk:Q4a c=true;rotate_left
 ·have hn0:P2a c a=false:=by unfold P2a;rw[show Q4a c=false from by simpa using hk];rfl
  have hk':c≠14/\c≠16/\c≠17/\c≠18:=by refine⟨?_,?_,?_,?_⟩<;>(rintro rfl;exact hk (by decide))
  obtain⟨h14,h16,h17,h18⟩:=hk';have b14:(c==14)=false:=by simpa using h14
  have b16:(c==16)=false:=by simpa using h16
  have b17:(c==17)=false:=by simpa using h17
  have b18:(c==18)=false:=by simpa using h18
  rw[hn0];clear hk hn0 h14 h16 h17 h18 ha ka CP;go_enter Tryz.func149,Tryz.ntmps149;go_wp2_with(first
   | ((with_reducible refine sN 3 ?_);refine a0a rfl _ (.tmp 1) rfl cs rfl ?_;intro g w1 hg1 hg2 K1 L1)
   | fail)
  go_ret;exact⟨rfl,L1.out⟩
 have hcs:=Q7a hk;obtain⟨X1,X2,X3,M1,M2,M3,rfl,hX,hM⟩:=ha;obtain⟨C0,hC0⟩:∃x,x=s0a (.slice X1 X2 X3) (.slice M1 M2 M3) a:=⟨_,rfl⟩;have HC0:=hI hC0;rw[<-hC0] at HL ⊢;clear hC0;rcases hcs with h14 | h16 | h17 | h18
 ·subst h14;have hbe:L2a 14 a={ a with ents:=[],more:=false }:=by unfold L2a;rw[if_pos rfl]
  have hnf:P2a 14 a=decide (L2a 14 a=w0a):=by unfold P2a;rw[hk,Bool.true_and]
  rw[hnf,hbe];have kb:({ a with ents:=[],more:=false }:E1a).ok:=⟨ka.dia,ka.siz,ka.clen,ka.cbyte,ka.lev,ka.dur,ka.made,ka.file,ka.kind,ka.data,ka.n,(λl h=>by cases h)⟩;have HI:Hid (∀w':World,Below w.heap.size w w'->f1a w' w'.heap.size (s0a (.slice X1 X2 X3) (.slice none 0 0) ({ a with ents:=[],more:=false })) ({ a with ents:=[],more:=false })):=λw' hb=>⟨X1,X2,X3,none,0,0,rfl,hX.over hb,T0a.nil _ _ _ _⟩
  have HEQ:Hid (((C0).set 17 (.slice none 0 0)).set 18 (.bool false)=s0a (.slice X1 X2 X3) (.slice none 0 0) ({ a with ents:=[],more:=false })):=by
   show _=_
   rw[HC0.out];simp only[j9b,T9b,hcl];try rfl
  obtain⟨b,hb⟩:∃x:E1a,x={ a with ents:=[],more:=false }:=⟨_,rfl⟩;rw[<-hb] at HI HEQ kb ⊢;obtain⟨D,hD⟩:∃x,x=s0a (.slice X1 X2 X3) (.slice none 0 0) b:=⟨_,rfl⟩;rw[<-hD] at HI HEQ;clear hb hD hk ka hbe hnf;go_enter Tryz.func149,Tryz.ntmps149;go_wp2_with(first
   | ((with_reducible refine sN 3 ?_);refine a0a rfl _ (.tmp 1) rfl C0 rfl ?_;intro g w1 hg1 hg2 K1 L1)
   | ((with_reducible refine sT 10 ?_);refine h0a rfl _ (.tmp 10) (.const (.slice none 0 0)) rfl g 17 rfl _ C0 (.slice none 0 0) rfl K1 (hI (by have:=HL.out;omega)) (by kernel_rfl) rfl ?_;intro w2 K2 O2 hq2;obtain⟨C1,hC1⟩:∃x,x=C0.set 17 (.slice none 0 0):=⟨_,rfl⟩;have HC1:=hI hC1;have HL1:Hid (C1.length=20):=(by rw[hC1,List.length_set];exact HL.out);rw[<-hC1] at K2;have L2:=hI (c0a L1.out O2.out hg1);clear hC1)
   | ((with_reducible refine sT 11 ?_);refine h0a rfl _ (.tmp 11) (.const (.bool false)) rfl g 18 rfl _ C1 (.bool false) rfl K2 (hI (by have:=HL1.out;omega)) (by kernel_rfl) rfl ?_;intro w3 K3 O3 hq3;obtain⟨C2,hC2⟩:∃x,x=C1.set 18 (.bool false):=⟨_,rfl⟩;have HC2:=hI hC2;have HL2:Hid (C2.length=20):=(by rw[hC2,List.length_set];exact HL1.out);rw[<-hC2] at K3;have L3:=hI (c0a L2.out O3.out hg1);clear hC2)
   | ((with_reducible refine sN 24 ?_);refine d0a rfl _ (.tmp 3) rfl g rfl _ C2 K3 20 _ Tryz.underlying39 rfl v0a HL2 ?_)
   | fail)
  have HF:Hid (C2=D):=by
   show _=_
   rw[HC2.out,HC1.out];exact HEQ.out
  rw[HF.out];refine(CP.out _ D b kb (HI.out _ L3.out)).mono ?_;rintro e v1 ⟨⟨v,er,rfl,her⟩,LQ⟩;have HER:=hI her;have L99:=hI (step L3.out LQ);clear her LQ;go_wp2;go_ret;exact⟨H0a HER.out,L99.out⟩
 ·subst h16;have hbe:L2a 16 a={ a with siz:=0,kind:=0,gone:=false }:=by unfold L2a;rw[if_neg (by decide),if_pos rfl]
  have hnf:P2a 16 a=decide (L2a 16 a=w0a):=by unfold P2a;rw[hk,Bool.true_and]
  rw[hnf,hbe];have kb:({ a with siz:=0,kind:=0,gone:=false }:E1a).ok:=⟨ka.dia,zb (by decide),ka.clen,ka.cbyte,ka.lev,ka.dur,ka.made,ka.file,zb (by decide),ka.data,ka.n,ka.ents⟩;have HI:Hid (∀w':World,Below w.heap.size w w'->f1a w' w'.heap.size (s0a (.slice X1 X2 X3) (.slice M1 M2 M3) ({ a with siz:=0,kind:=0,gone:=false })) ({ a with siz:=0,kind:=0,gone:=false })):=λw' hb=>⟨X1,X2,X3,M1,M2,M3,rfl,hX.over hb,hM.over hb⟩
  have HEQ:Hid ((((C0).set 1 (.int .u64 0)).set 14 (.int .u8 0)).set 19 (.bool false)=s0a (.slice X1 X2 X3) (.slice M1 M2 M3) ({ a with siz:=0,kind:=0,gone:=false })):=by
   show _=_
   rw[HC0.out];simp only[sc1,v9b,U9b,hcl];try rfl
  obtain⟨b,hb⟩:∃x:E1a,x={ a with siz:=0,kind:=0,gone:=false }:=⟨_,rfl⟩;rw[<-hb] at HI HEQ kb ⊢;obtain⟨D,hD⟩:∃x,x=s0a (.slice X1 X2 X3) (.slice M1 M2 M3) b:=⟨_,rfl⟩;rw[<-hD] at HI HEQ;clear hb hD hk ka hbe hnf;go_enter Tryz.func149,Tryz.ntmps149;go_wp2_with(first
   | ((with_reducible refine sN 3 ?_);refine a0a rfl _ (.tmp 1) rfl C0 rfl ?_;intro g w1 hg1 hg2 K1 L1)
   | ((with_reducible refine sT 14 ?_);refine h0a rfl _ (.tmp 14) (.const (.int .u64 0)) rfl g 1 rfl _ C0 (.int .u64 0) rfl K1 (hI (by have:=HL.out;omega)) (by kernel_rfl) rfl ?_;intro w2 K2 O2 hq2;obtain⟨C1,hC1⟩:∃x,x=C0.set 1 (.int .u64 0):=⟨_,rfl⟩;have HC1:=hI hC1;have HL1:Hid (C1.length=20):=(by rw[hC1,List.length_set];exact HL.out);rw[<-hC1] at K2;have L2:=hI (c0a L1.out O2.out hg1);clear hC1)
   | ((with_reducible refine sT 15 ?_);refine h0a rfl _ (.tmp 15) (.const (.int .u8 0)) rfl g 14 rfl _ C1 (.int .u8 0) rfl K2 (hI (by have:=HL1.out;omega)) (by kernel_rfl) rfl ?_;intro w3 K3 O3 hq3;obtain⟨C2,hC2⟩:∃x,x=C1.set 14 (.int .u8 0):=⟨_,rfl⟩;have HC2:=hI hC2;have HL2:Hid (C2.length=20):=(by rw[hC2,List.length_set];exact HL1.out);rw[<-hC2] at K3;have L3:=hI (c0a L2.out O3.out hg1);clear hC2)
   | ((with_reducible refine sT 16 ?_);refine h0a rfl _ (.tmp 16) (.const (.bool false)) rfl g 19 rfl _ C2 (.bool false) rfl K3 (hI (by have:=HL2.out;omega)) (by kernel_rfl) rfl ?_;intro w4 K4 O4 hq4;obtain⟨C3,hC3⟩:∃x,x=C2.set 19 (.bool false):=⟨_,rfl⟩;have HC3:=hI hC3;have HL3:Hid (C3.length=20):=(by rw[hC3,List.length_set];exact HL2.out);rw[<-hC3] at K4;have L4:=hI (c0a L3.out O4.out hg1);clear hC3)
   | ((with_reducible refine sN 24 ?_);refine d0a rfl _ (.tmp 3) rfl g rfl _ C3 K4 20 _ Tryz.underlying39 rfl v0a HL3 ?_)
   | fail)
  have HF:Hid (C3=D):=by
   show _=_
   rw[HC3.out,HC2.out,HC1.out];exact HEQ.out
  rw[HF.out];refine(CP.out _ D b kb (HI.out _ L4.out)).mono ?_;rintro e v1 ⟨⟨v,er,rfl,her⟩,LQ⟩;have HER:=hI her;have L99:=hI (step L4.out LQ);clear her LQ;go_wp2;go_ret;exact⟨H0a HER.out,L99.out⟩
 ·subst h17;have hbe:L2a 17 a=a:=by unfold L2a;rw[if_neg (by decide),if_neg (by decide),if_neg (by decide)]
  have hnf:P2a 17 a=decide (L2a 17 a=w0a):=by unfold P2a;rw[hk,Bool.true_and]
  rw[hnf,hbe];have kb:(a:E1a).ok:=⟨ka.dia,ka.siz,ka.clen,ka.cbyte,ka.lev,ka.dur,ka.made,ka.file,ka.kind,ka.data,ka.n,ka.ents⟩;have HI:Hid (∀w':World,Below w.heap.size w w'->f1a w' w'.heap.size (s0a (.slice X1 X2 X3) (.slice M1 M2 M3) (a)) (a)):=λw' hb=>⟨X1,X2,X3,M1,M2,M3,rfl,hX.over hb,hM.over hb⟩
  have HEQ:Hid (C0=s0a (.slice X1 X2 X3) (.slice M1 M2 M3) (a)):=by
   show _=_
   exact HC0.out
  obtain⟨b,hb⟩:∃x:E1a,x=a:=⟨_,rfl⟩;rw[<-hb] at HI HEQ kb ⊢;obtain⟨D,hD⟩:∃x,x=s0a (.slice X1 X2 X3) (.slice M1 M2 M3) b:=⟨_,rfl⟩;rw[<-hD] at HI HEQ;clear hb hD hk ka hbe hnf;go_enter Tryz.func149,Tryz.ntmps149;go_wp2_with(first
   | ((with_reducible refine sN 3 ?_);refine a0a rfl _ (.tmp 1) rfl C0 rfl ?_;intro g w1 hg1 hg2 K1 L1)
   | ((with_reducible refine sN 24 ?_);refine d0a rfl _ (.tmp 3) rfl g rfl _ C0 K1 20 _ Tryz.underlying39 rfl v0a HL ?_)
   | fail)
  have HF:Hid (C0=D):=by
   show _=_
   exact HEQ.out
  rw[HF.out];refine(CP.out _ D b kb (HI.out _ L1.out)).mono ?_;rintro e v1 ⟨⟨v,er,rfl,her⟩,LQ⟩;have HER:=hI her;have L99:=hI (step L1.out LQ);clear her LQ;go_wp2;go_ret;exact⟨H0a HER.out,L99.out⟩
 ·subst h18;have hbe:L2a 18 a={ a with file:=0,lev:=0 }:=by unfold L2a;rw[if_neg (by decide),if_neg (by decide),if_pos rfl]
  have hnf:P2a 18 a=decide (L2a 18 a=w0a):=by unfold P2a;rw[hk,Bool.true_and]
  rw[hnf,hbe];have kb:({ a with file:=0,lev:=0 }:E1a).ok:=⟨ka.dia,ka.siz,ka.clen,ka.cbyte,zb (by decide),ka.dur,ka.made,zb (by decide),ka.kind,ka.data,ka.n,ka.ents⟩;have HI:Hid (∀w':World,Below w.heap.size w w'->f1a w' w'.heap.size (s0a (.slice X1 X2 X3) (.slice M1 M2 M3) ({ a with file:=0,lev:=0 })) ({ a with file:=0,lev:=0 })):=λw' hb=>⟨X1,X2,X3,M1,M2,M3,rfl,hX.over hb,hM.over hb⟩
  have HEQ:Hid (((C0).set 13 (.int .u64 0)).set 10 (.int .u8 0)=s0a (.slice X1 X2 X3) (.slice M1 M2 M3) ({ a with file:=0,lev:=0 })):=by
   show _=_
   rw[HC0.out];simp only[u9b,t9b,hcl];try rfl
  obtain⟨b,hb⟩:∃x:E1a,x={ a with file:=0,lev:=0 }:=⟨_,rfl⟩;rw[<-hb] at HI HEQ kb ⊢;obtain⟨D,hD⟩:∃x,x=s0a (.slice X1 X2 X3) (.slice M1 M2 M3) b:=⟨_,rfl⟩;rw[<-hD] at HI HEQ;clear hb hD hk ka hbe hnf;go_enter Tryz.func149,Tryz.ntmps149;go_wp2_with(first
   | ((with_reducible refine sN 3 ?_);refine a0a rfl _ (.tmp 1) rfl C0 rfl ?_;intro g w1 hg1 hg2 K1 L1)
   | ((with_reducible refine sT 21 ?_);refine h0a rfl _ (.tmp 21) (.const (.int .u64 0)) rfl g 13 rfl _ C0 (.int .u64 0) rfl K1 (hI (by have:=HL.out;omega)) (by kernel_rfl) rfl ?_;intro w2 K2 O2 hq2;obtain⟨C1,hC1⟩:∃x,x=C0.set 13 (.int .u64 0):=⟨_,rfl⟩;have HC1:=hI hC1;have HL1:Hid (C1.length=20):=(by rw[hC1,List.length_set];exact HL.out);rw[<-hC1] at K2;have L2:=hI (c0a L1.out O2.out hg1);clear hC1)
   | ((with_reducible refine sT 22 ?_);refine h0a rfl _ (.tmp 22) (.const (.int .u8 0)) rfl g 10 rfl _ C1 (.int .u8 0) rfl K2 (hI (by have:=HL1.out;omega)) (by kernel_rfl) rfl ?_;intro w3 K3 O3 hq3;obtain⟨C2,hC2⟩:∃x,x=C1.set 10 (.int .u8 0):=⟨_,rfl⟩;have HC2:=hI hC2;have HL2:Hid (C2.length=20):=(by rw[hC2,List.length_set];exact HL1.out);rw[<-hC2] at K3;have L3:=hI (c0a L2.out O3.out hg1);clear hC2)
   | ((with_reducible refine sN 24 ?_);refine d0a rfl _ (.tmp 3) rfl g rfl _ C2 K3 20 _ Tryz.underlying39 rfl v0a HL2 ?_)
   | fail)
  have HF:Hid (C2=D):=by
   show _=_
   rw[HC2.out,HC1.out];exact HEQ.out
  rw[HF.out];refine(CP.out _ D b kb (HI.out _ L3.out)).mono ?_;rintro e v1 ⟨⟨v,er,rfl,her⟩,LQ⟩;have HER:=hI her;have L99:=hI (step L3.out LQ);clear her LQ;go_wp2;go_ret;exact⟨H0a HER.out,L99.out⟩
def C5a(w:World)(c:Int)(a:E1a)(e:Ending)(w':World):Prop:=∃v,e=.returned (.tuple #[v,.int .i64 (U2a c a)])/\a1a .u8 5 w' w.heap.size v (U1b c a)/\Below w.heap.size w w'
theorem e3b(w:World)(c:Int)(cs:List Value)(a:E1a)(hc:0<=c/\c<=65535)(ka:a.ok)(ha:f1a w w.heap.size cs a)(hn:a.ents.length<=4398046511104/\∀e∈a.ents,e.name.size<=17592186044416)(hT:f7a w) :
  Calls Tryz.prog 90 #[.int .u16 c,.agg cs.toArray] w (C5a w c a):=by
 have HL:=hI (ha.len ka);have HA:=hI ha;have HT:Hid (a6a w.heap.size w):=a6a.of hT;obtain⟨hn1,hn2⟩:=hn;have CN:Hid (∀w',Below w.heap.size w w'->Calls Tryz.prog 149 #[.int .u16 c,.agg cs.toArray] w' λe w2=>e=.returned (.bool (P2a c a))/\Below w'.heap.size w' w2):=λw' hb=>v1b w' c cs a hc ka (HA.out.over hb)
 have CT:Hid (∀(w:World) (b:Bool),Calls Tryz.prog 138 #[.bool b] w λe w'=>e=.returned (.int .u64 (U0a b))/\w=w'):=C0b;obtain⟨X1,X2,X3,M1,M2,M3,hcs,hX,hM⟩:=ha;have hml:=hM.len;have CC:Hid (∀w',Below w.heap.size w w'->Calls Tryz.prog 150 #[.slice M1 M2 M3,.func (.func 151) #[] #[]] w' λe w2=>e=.returned (.bool (!a.ents.all t2a))/\Below w'.heap.size w' w2):=λw' hb=>t1b w' M1 M2 M3 a.ents (hM.over hb) (by omega)
 have FL:Hid (∀(w:World) (g:Nat),Blk w g 39 cs->w.cell? ⟨g,17,none⟩=some (.slice M1 M2 M3)/\w.cell? ⟨g,18,none⟩=some (.bool a.more)/\w.cell? ⟨g,1,none⟩=some (.int .u64 a.siz)/\w.cell? ⟨g,14,none⟩=some (.int .u8 a.kind)/\w.cell? ⟨g,19,none⟩=some (.bool a.gone)/\w.cell? ⟨g,13,none⟩=some (.int .u64 a.file)/\w.cell? ⟨g,10,none⟩=some (.int .u8 a.lev)):=by rw[hcs];exact λw g h=>⟨h.at (z0a ka 7),h.at (z0a ka 8),h.at rfl,h.at (z0a ka 4),h.at (z0a ka 9),h.at (z0a ka 3),h.at (z0a ka 0)⟩
 have ZW:=hI Q5b;have b1:=ka.siz;have b2:=ka.kind;have b3:=ka.file;have b5:=ka.lev
 have hents:=ka.ents;have HE:Hid (∀er,U2a c a=er->er≠0->∀(e:Ending) (w':World),e=.returned (.tuple #[.slice none 0 0,.int .i64 er])->Below w.heap.size w w'->C5a w c a e w'):=by intro er h0 h1 e w' h2 h3;refine⟨_,by rw[h0];exact h2,?_,h3⟩;unfold U1b;rw[h0,if_neg h1];exact a1a.nil _ _ _ _
 clear hcs HA hX;by_cases hnm:P2a c a=true;rotate_left
 ·have hnf:P2a c a=false:=by simpa using hnm
  have HQ:=hI (HE.out 2 (by unfold U2a;rw[if_neg (λh=>hnm h.1)]) (by decide));rw[hnf] at CN;clear hnm hnf hM ka hT hc CT ZW CC HE;go_enter Tryz.func90,Tryz.ntmps90;go_wp2_with(first
   | ((with_reducible refine sN 3 ?_);refine a0a rfl _ (.tmp 1) rfl cs rfl ?_;intro z w1 hz1 hz2 Z1 L1;obtain⟨c1,c2,c3,c4,c5,c6,c7⟩:=FL.out _ _ Z1.out)
   | ((with_reducible refine sN 8 ?_);refine d0a rfl _ (.tmp 3) rfl z rfl _ cs Z1 20 _ Tryz.underlying39 rfl v0a HL ?_)
   | fail)
  refine(CN.out w1 L1.out).mono ?_;rintro e w2 ⟨rfl,L2⟩;have L22:=hI (step L1.out L2);clear L2;go_wp2;go_ret2;exact HQ.out _ _ rfl L22.out
 rw[hnm] at CN;by_cases hkd:a.kind<=2;rotate_left
 ·have HQ:=hI (HE.out 2 (by unfold U2a;rw[if_neg (λh=>hkd h.2.1)]) (by decide));have q1:(2:Int)<a.kind:=by omega
  clear hnm hM ka hT hc CT ZW CC HE hkd;go_enter Tryz.func90,Tryz.ntmps90;go_wp2_with(first
   | ((with_reducible refine sN 3 ?_);refine a0a rfl _ (.tmp 1) rfl cs rfl ?_;intro z w1 hz1 hz2 Z1 L1;obtain⟨c1,c2,c3,c4,c5,c6,c7⟩:=FL.out _ _ Z1.out)
   | ((with_reducible refine sN 8 ?_);refine d0a rfl _ (.tmp 3) rfl z rfl _ cs Z1 20 _ Tryz.underlying39 rfl v0a HL ?_)
   | fail)
  refine(CN.out w1 L1.out).mono ?_;rintro e w2 ⟨rfl,L2⟩;obtain⟨d1,d2,d3,d4,d5,d6,d7⟩:=FL.out _ _ (Z1.out.over L2);have L22:=hI (step L1.out L2);clear L2;go_wp2;go_ret2;exact HQ.out _ _ rfl L22.out
 have q1:¬(2:Int)<a.kind:=by omega
 by_cases hall:a.ents.all t2a=true;rotate_left
 ·have HQ:=hI (HE.out 2 (by unfold U2a;rw[if_neg (λh=>hall h.2.2)]) (by decide));have hf:a.ents.all t2a=false:=by simpa using hall
  rw[hf] at CC;have CC1:Hid (∀w',Below w.heap.size w w'->Calls Tryz.prog 150 #[.slice M1 M2 M3,.func (.func 151) #[] #[]] w' λe w2=>e=.returned (.bool true)/\Below w'.heap.size w' w2):=CC.out;clear hnm hM ka hT hc CT ZW HE hall hf CC;go_enter Tryz.func90,Tryz.ntmps90;go_wp2_with(first
   | ((with_reducible refine sN 3 ?_);refine a0a rfl _ (.tmp 1) rfl cs rfl ?_;intro z w1 hz1 hz2 Z1 L1;obtain⟨c1,c2,c3,c4,c5,c6,c7⟩:=FL.out _ _ Z1.out)
   | ((with_reducible refine sN 8 ?_);refine d0a rfl _ (.tmp 3) rfl z rfl _ cs Z1 20 _ Tryz.underlying39 rfl v0a HL ?_)
   | fail)
  refine(CN.out w1 L1.out).mono ?_;rintro e w2 ⟨rfl,L2⟩;obtain⟨d1,d2,d3,d4,d5,d6,d7⟩:=FL.out _ _ (Z1.out.over L2);have L22:=hI (step L1.out L2);clear L2;go_wp2_with fail;refine(CC1.out w2 L22.out).mono ?_;rintro e w3 ⟨rfl,L3⟩;have L33:=hI (step L22.out L3);clear L3;go_wp2;go_ret2;exact HQ.out _ _ rfl L33.out
 rw[hall] at CC;have CC1:Hid (∀w',Below w.heap.size w w'->Calls Tryz.prog 150 #[.slice M1 M2 M3,.func (.func 151) #[] #[]] w' λe w2=>e=.returned (.bool false)/\Below w'.heap.size w' w2):=CC.out;clear CC;by_cases hlen:a.ents.length<=64;rotate_left
 ·have HQ:=hI (HE.out 3 (by unfold U2a;rw[if_pos ⟨hnm,hkd,hall⟩,if_neg hlen]) (by decide));have q2:(64:Int)<(M2:Int):=by omega
  clear hnm hM ka hT hc CT ZW HE hall;go_enter Tryz.func90,Tryz.ntmps90;go_wp2_with(first
   | ((with_reducible refine sN 3 ?_);refine a0a rfl _ (.tmp 1) rfl cs rfl ?_;intro z w1 hz1 hz2 Z1 L1;obtain⟨c1,c2,c3,c4,c5,c6,c7⟩:=FL.out _ _ Z1.out)
   | ((with_reducible refine sN 8 ?_);refine d0a rfl _ (.tmp 3) rfl z rfl _ cs Z1 20 _ Tryz.underlying39 rfl v0a HL ?_)
   | fail)
  refine(CN.out w1 L1.out).mono ?_;rintro e w2 ⟨rfl,L2⟩;obtain⟨d1,d2,d3,d4,d5,d6,d7⟩:=FL.out _ _ (Z1.out.over L2);have Z2:=hI (Z1.out.over L2);have L22:=hI (step L1.out L2);clear L2;go_wp2_with fail;refine(CC1.out w2 L22.out).mono ?_;rintro e w3 ⟨rfl,L3⟩;obtain⟨e1,e2,e3,e4,e5,e6,e7⟩:=FL.out _ _ (Z2.out.over L3);have L33:=hI (step L22.out L3);clear L3;go_wp2;go_ret2;exact HQ.out _ _ rfl L33.out
 have q2:¬(64:Int)<(M2:Int):=by omega
 have hml64:M2<=64:=by omega
 have hin:∀e∈a.ents,X7b e:=λe he=>⟨hents e he,List.all_eq_true.1 hall e he,hn2 e he⟩
 have hk:Q4a c=true:=by unfold P2a at hnm;simp only[Bool.and_eq_true] at hnm;exact hnm.1
 have hpos:P2a c a=true/\a.kind<=2/\a.ents.all t2a=true:=⟨hnm,hkd,hall⟩;have hw1:IntKind.u64.wrap (M2:Int)=(M2:Int):=by rw[IntKind.wrap_u64];omega
 have hw2:IntKind.u64.wrap a.kind=a.kind:=by rw[IntKind.wrap_u64];omega
 obtain⟨b10,b11⟩:=b1;obtain⟨b20,b21⟩:=b2;obtain⟨b30,b31⟩:=b3;obtain⟨b50,b51⟩:=b5;have bf:0<=a.file/\a.file<=18446744073709551615:=⟨b30,b31⟩;have bs:0<=a.siz/\a.siz<=18446744073709551615:=⟨b10,b11⟩;have bk:0<=a.kind/\a.kind<=65535:=by omega
 have bl:0<=a.lev/\a.lev<=255:=⟨b50,b51⟩;have bn:0<=(M2:Int)/\(M2:Int)<=65535:=by omega
 have bo:0<=U0a a.more/\U0a a.more<=65535:=by have:=z5a a.more;omega
 have bg:0<=U0a a.gone/\U0a a.gone<=65535:=by have:=z5a a.gone;omega
 clear HE;go_enter Tryz.func90,Tryz.ntmps90;go_wp2_with(first
  | ((with_reducible refine sN 3 ?_);refine a0a rfl _ (.tmp 1) rfl cs rfl ?_;intro z w1 hz1 hz2 Z1 L1;obtain⟨c1,c2,c3,c4,c5,c6,c7⟩:=FL.out _ _ Z1.out)
  | ((with_reducible refine sN 8 ?_);refine d0a rfl _ (.tmp 3) rfl z rfl _ cs Z1 20 _ Tryz.underlying39 rfl v0a HL ?_)
  | fail)
 refine(CN.out w1 L1.out).mono ?_;rintro e w2 ⟨rfl,L2⟩;obtain⟨d1,d2,d3,d4,d5,d6,d7⟩:=FL.out _ _ (Z1.out.over L2);have Z2:=hI (Z1.out.over L2);have L22:=hI (step L1.out L2);clear L2 Z1 L1 CN c1 c2 c3 c4 c5 c6 c7;go_wp2_with fail;refine(CC1.out w2 L22.out).mono ?_;rintro e w3 ⟨rfl,L3⟩;have Z3:=hI (Z2.out.over L3);have L33:=hI (step L22.out L3);have hzs:z<w3.heap.size:=Z3.out.lt;clear L3 Z2 L22 CC1 d1 d2 d3 d4 d5 d6 d7;have hws:=L33.out.size;obtain⟨f1,f2,f3,f4,f5,f6,f7⟩:=FL.out _ _ Z3.out;go_upto_if 26 with(first
  | ((with_reducible refine sN 6 ?_);refine b0a rfl _ rfl _ _ ZW ?_;intro g u0 hg1 hg2 G0 N0;have hzg:z≠g:=(by omega);have Z0:=hI (Z3.out.over N0.out);have K0:Hid (c1a g w.heap.size w u0):=(c1a.of_below (L33.out.trans (N0.out.mono hws)) (Nat.le_refl _));have V0:Hid (WI u0 g w.heap.size [] 0):=⟨by omega,_,G0.out,a1a.nil _ _ _ _⟩;clear f1 f2 f3 f4 f5 f6 f7;obtain⟨f1,f2,f3,f4,f5,f6,f7⟩:=FL.out _ _ Z0.out)
  | fail)
 rcases Q7a hk with h14 | h16 | h17 | h18
 subst h14;have D1:Hid (∀(w':World) (g:Nat),WI w' g w.heap.size ([]) (0)->Calls Tryz.prog 135 #[.pointer (some ⟨g,0,none⟩),.int .u64 (M2:Int)] w' λe w2=>e=.returned (.tuple #[])/\WI w2 g w.heap.size ([]++le (M2:Int) 2) (0)/\c1a g w.heap.size w' w2):=λw' g h=>P3a w' g _ _ _ (M2:Int) h bn (by simp only[List.length_append,m0a,List.length_replicate,List.length_nil];omega)
 have D2:Hid (∀(w':World) (g:Nat),WI w' g w.heap.size ([]++le (M2:Int) 2) (0)->Calls Tryz.prog 135 #[.pointer (some ⟨g,0,none⟩),.int .u64 (U0a a.more)] w' λe w2=>e=.returned (.tuple #[])/\WI w2 g w.heap.size ([]++le (M2:Int) 2++le (U0a a.more) 2) (0)/\c1a g w.heap.size w' w2):=λw' g h=>P3a w' g _ _ _ (U0a a.more) h bo (by simp only[List.length_append,m0a,List.length_replicate,List.length_nil];omega)
 have D3:Hid (∀(w':World) (g:Nat),Below w.heap.size w w'->a6a w.heap.size w'->WI w' g w.heap.size ([]++le (M2:Int) 2++le (U0a a.more) 2) (0)->Calls Tryz.prog 152 #[.pointer (some ⟨g,0,none⟩),.slice M1 M2 M3] w' λe w2=>e=.returned (.tuple #[])/\WI w2 g w.heap.size ([]++le (M2:Int) 2++le (U0a a.more) 2++i1a a.ents) (n1a a.ents)/\c1a g w.heap.size w' w2):=λw' g hb ht h=>f2b w' g _ _ M1 M2 M3 a.ents h (hM.below hb) hml64 hin ht (by simp only[List.length_append,m0a,List.length_replicate,List.length_nil];omega)
 have DE:Hid (∀(w':World) (g:Nat),WI w' g w.heap.size ([]++le (M2:Int) 2++le (U0a a.more) 2++i1a a.ents) (n1a a.ents)->Calls Tryz.prog 140 #[.pointer (some ⟨g,0,none⟩)] w' λe w2=>∃v,e=.returned (.tuple #[v,.int .i64 (n1a a.ents)])/\a1a .u8 5 w2 w.heap.size v (if (n1a a.ents)=0 then []++le (M2:Int) 2++le (U0a a.more) 2++i1a a.ents else [])/\Below w'.heap.size w' w2):=λw' g h=>Q3a w' g w.heap.size _ _ h
 have hbd:[]++le (M2:Int) 2++le (U0a a.more) 2++i1a a.ents=r3a 14 a:=by unfold r3a;rw[if_pos rfl,hml];simp only[List.nil_append,List.append_assoc]
 have her:U2a 14 a=(n1a a.ents):=by unfold U2a;rw[if_pos hpos,if_pos hlen,if_pos rfl]
 have HQ:Hid (∀(v:Value) (e:Ending) (w':World),e=.returned (.tuple #[v,.int .i64 (n1a a.ents)])->a1a .u8 5 w' w.heap.size v (if (n1a a.ents)=0 then []++le (M2:Int) 2++le (U0a a.more) 2++i1a a.ents else [])->Below w.heap.size w w'->C5a w 14 a e w'):=by intro v e w' h1 h2 h3;refine⟨v,by rw[her];exact h1,?_,h3⟩;unfold U1b;rw[her,<-hbd];exact h2
 obtain⟨y3,hy3⟩:∃y:List Int,y=[]++le (M2:Int) 2++le (U0a a.more) 2++i1a a.ents:=⟨_,rfl⟩;rw[<-hy3] at D3 DE HQ;obtain⟨y2,hy2⟩:∃y:List Int,y=[]++le (M2:Int) 2++le (U0a a.more) 2:=⟨_,rfl⟩;rw[<-hy2] at D2 D3;obtain⟨y1,hy1⟩:∃y:List Int,y=[]++le (M2:Int) 2:=⟨_,rfl⟩;rw[<-hy1] at D1 D2;obtain⟨er3,her3⟩:∃y:Int,y=(n1a a.ents):=⟨_,rfl⟩;try rw[<-her3] at D3
 try rw[<-her3] at DE
 try rw[<-her3] at HQ
 clear her3;clear hy1;clear hy2;clear hy3;clear hk hnm hpos hall hkd her hbd ka hT hc hin hents hn2;have F1:=hI (D1.out _ _ V0.out);go_wp2_with fail;refine F1.out.mono ?_;rintro e u1 ⟨rfl,p1,p2⟩;have V1:=hI p1;have K1:=hI (K0.out.trans p2);have Z1:=hI (p2.blk Z0.out (by decide) hzg);obtain⟨g1_1,g1_2,g1_3,g1_4,g1_5,g1_6,g1_7⟩:=FL.out _ _ Z1.out;clear p1 p2 F1 V0;go_wp2_with fail;refine(CT.out _ _).mono ?_;rintro e wt ⟨rfl,rfl⟩;have F2:=hI (D2.out _ _ V1.out);go_wp2_with fail;refine F2.out.mono ?_;rintro e u2 ⟨rfl,p1,p2⟩;have V2:=hI p1;have K2:=hI (K1.out.trans p2);have Z2:=hI (p2.blk Z1.out (by decide) hzg);obtain⟨g2_1,g2_2,g2_3,g2_4,g2_5,g2_6,g2_7⟩:=FL.out _ _ Z2.out;clear p1 p2 F2 V1;have F3:=hI (D3.out _ _ (K2.out.below) (HT.out.next K2.out.below) V2.out);go_wp2_with fail;refine F3.out.mono ?_;rintro e u3 ⟨rfl,p1,p2⟩;have Vz:=hI p1;have Kz:=hI (K2.out.trans p2);clear p1 p2 F3 V2;rotate_left;subst h16;have D1:Hid (∀(w':World) (g:Nat),WI w' g w.heap.size ([]) (0)->Calls Tryz.prog 134 #[.pointer (some ⟨g,0,none⟩),.int .u64 a.siz] w' λe w2=>e=.returned (.tuple #[])/\WI w2 g w.heap.size ([]++le a.siz 8) (0)/\c1a g w.heap.size w' w2):=λw' g h=>i3a w' g _ _ _ a.siz h bs (by simp only[List.length_append,m0a,List.length_replicate,List.length_nil];omega)
 have D2:Hid (∀(w':World) (g:Nat),WI w' g w.heap.size ([]++le a.siz 8) (0)->Calls Tryz.prog 135 #[.pointer (some ⟨g,0,none⟩),.int .u64 a.kind] w' λe w2=>e=.returned (.tuple #[])/\WI w2 g w.heap.size ([]++le a.siz 8++le a.kind 2) (0)/\c1a g w.heap.size w' w2):=λw' g h=>P3a w' g _ _ _ a.kind h bk (by simp only[List.length_append,m0a,List.length_replicate,List.length_nil];omega)
 have D3:Hid (∀(w':World) (g:Nat),WI w' g w.heap.size ([]++le a.siz 8++le a.kind 2) (0)->Calls Tryz.prog 135 #[.pointer (some ⟨g,0,none⟩),.int .u64 (U0a a.gone)] w' λe w2=>e=.returned (.tuple #[])/\WI w2 g w.heap.size ([]++le a.siz 8++le a.kind 2++le (U0a a.gone) 2) (0)/\c1a g w.heap.size w' w2):=λw' g h=>P3a w' g _ _ _ (U0a a.gone) h bg (by simp only[List.length_append,m0a,List.length_replicate,List.length_nil];omega)
 have DE:Hid (∀(w':World) (g:Nat),WI w' g w.heap.size ([]++le a.siz 8++le a.kind 2++le (U0a a.gone) 2) 0->Calls Tryz.prog 140 #[.pointer (some ⟨g,0,none⟩)] w' λe w2=>∃v,e=.returned (.tuple #[v,.int .i64 0])/\a1a .u8 5 w2 w.heap.size v (if 0=0 then []++le a.siz 8++le a.kind 2++le (U0a a.gone) 2 else [])/\Below w'.heap.size w' w2):=λw' g h=>Q3a w' g w.heap.size _ _ h
 have hbd:[]++le a.siz 8++le a.kind 2++le (U0a a.gone) 2=r3a 16 a:=by unfold r3a;rw[if_neg (by decide),if_pos rfl];simp only[List.nil_append,List.append_assoc]
 have her:U2a 16 a=0:=by unfold U2a;rw[if_pos hpos,if_pos hlen,if_neg (by decide)]
 have HQ:Hid (∀(v:Value) (e:Ending) (w':World),e=.returned (.tuple #[v,.int .i64 0])->a1a .u8 5 w' w.heap.size v (if 0=0 then []++le a.siz 8++le a.kind 2++le (U0a a.gone) 2 else [])->Below w.heap.size w w'->C5a w 16 a e w'):=by intro v e w' h1 h2 h3;refine⟨v,by rw[her];exact h1,?_,h3⟩;unfold U1b;rw[her,<-hbd];exact h2
 obtain⟨y3,hy3⟩:∃y:List Int,y=[]++le a.siz 8++le a.kind 2++le (U0a a.gone) 2:=⟨_,rfl⟩;rw[<-hy3] at D3 DE HQ;obtain⟨y2,hy2⟩:∃y:List Int,y=[]++le a.siz 8++le a.kind 2:=⟨_,rfl⟩;rw[<-hy2] at D2 D3;obtain⟨y1,hy1⟩:∃y:List Int,y=[]++le a.siz 8:=⟨_,rfl⟩;rw[<-hy1] at D1 D2;clear hy1;clear hy2;clear hy3;clear hk hnm hpos hall hkd her hbd ka hT hc hin hents hn2;have F1:=hI (D1.out _ _ V0.out);go_wp2_with fail;refine F1.out.mono ?_;rintro e u1 ⟨rfl,p1,p2⟩;have V1:=hI p1;have K1:=hI (K0.out.trans p2);have Z1:=hI (p2.blk Z0.out (by decide) hzg);obtain⟨g1_1,g1_2,g1_3,g1_4,g1_5,g1_6,g1_7⟩:=FL.out _ _ Z1.out;clear p1 p2 F1 V0;have F2:=hI (D2.out _ _ V1.out);go_wp2_with fail;refine F2.out.mono ?_;rintro e u2 ⟨rfl,p1,p2⟩;have V2:=hI p1;have K2:=hI (K1.out.trans p2);have Z2:=hI (p2.blk Z1.out (by decide) hzg);obtain⟨g2_1,g2_2,g2_3,g2_4,g2_5,g2_6,g2_7⟩:=FL.out _ _ Z2.out;clear p1 p2 F2 V1;go_wp2_with fail;refine(CT.out _ _).mono ?_;rintro e wt ⟨rfl,rfl⟩;have F3:=hI (D3.out _ _ V2.out);go_wp2_with fail;refine F3.out.mono ?_;rintro e u3 ⟨rfl,p1,p2⟩;have Vz:=hI p1;have Kz:=hI (K2.out.trans p2);clear p1 p2 F3 V2;rotate_left;subst h17;have D1:Hid (∀(w':World) (g:Nat),WI w' g w.heap.size ([]) (0)->Calls Tryz.prog 136 #[.pointer (some ⟨g,0,none⟩),.int .i64 4] w' λe w2=>e=.returned (.tuple #[])/\WI w2 g w.heap.size ([]++List.replicate 4 0) (0)/\c1a g w.heap.size w' w2):=λw' g h=>V4a w' g _ _ _ 4 h (by decide) (by decide) (by simp only[List.length_append,m0a,List.length_replicate,List.length_nil];omega)
 have DE:Hid (∀(w':World) (g:Nat),WI w' g w.heap.size ([]++List.replicate 4 0) 0->Calls Tryz.prog 140 #[.pointer (some ⟨g,0,none⟩)] w' λe w2=>∃v,e=.returned (.tuple #[v,.int .i64 0])/\a1a .u8 5 w2 w.heap.size v (if 0=0 then []++List.replicate 4 0 else [])/\Below w'.heap.size w' w2):=λw' g h=>Q3a w' g w.heap.size _ _ h
 have hbd:[]++List.replicate 4 0=r3a 17 a:=by unfold r3a;rw[if_neg (by decide),if_neg (by decide),if_neg (by decide),List.nil_append]
 have her:U2a 17 a=0:=by unfold U2a;rw[if_pos hpos,if_pos hlen,if_neg (by decide)]
 have HQ:Hid (∀(v:Value) (e:Ending) (w':World),e=.returned (.tuple #[v,.int .i64 0])->a1a .u8 5 w' w.heap.size v (if 0=0 then []++List.replicate 4 0 else [])->Below w.heap.size w w'->C5a w 17 a e w'):=by intro v e w' h1 h2 h3;refine⟨v,by rw[her];exact h1,?_,h3⟩;unfold U1b;rw[her,<-hbd];exact h2
 obtain⟨y1,hy1⟩:∃y:List Int,y=[]++List.replicate 4 0:=⟨_,rfl⟩;rw[<-hy1] at D1 DE HQ;clear hy1;clear hk hnm hpos hall hkd her hbd ka hT hc hin hents hn2;have F1:=hI (D1.out _ _ V0.out);go_wp2_with fail;refine F1.out.mono ?_;rintro e u1 ⟨rfl,p1,p2⟩;have Vz:=hI p1;have Kz:=hI (K0.out.trans p2);clear p1 p2 F1 V0;rotate_left;subst h18;have D1:Hid (∀(w':World) (g:Nat),WI w' g w.heap.size ([]) (0)->Calls Tryz.prog 139 #[.pointer (some ⟨g,0,none⟩),.int .u64 a.file,.int .u8 a.lev] w' λe w2=>e=.returned (.tuple #[])/\WI w2 g w.heap.size ([]++(le a.file 8++(le a.lev 1++List.replicate 3 0))) (0)/\c1a g w.heap.size w' w2):=λw' g h=>D0b w' g _ _ _ a.file a.lev h bf bl (by simp only[List.length_append,m0a,List.length_replicate,List.length_nil];omega)
 have DE:Hid (∀(w':World) (g:Nat),WI w' g w.heap.size ([]++(le a.file 8++(le a.lev 1++List.replicate 3 0))) 0->Calls Tryz.prog 140 #[.pointer (some ⟨g,0,none⟩)] w' λe w2=>∃v,e=.returned (.tuple #[v,.int .i64 0])/\a1a .u8 5 w2 w.heap.size v (if 0=0 then []++(le a.file 8++(le a.lev 1++List.replicate 3 0)) else [])/\Below w'.heap.size w' w2):=λw' g h=>Q3a w' g w.heap.size _ _ h
 have hbd:[]++(le a.file 8++(le a.lev 1++List.replicate 3 0))=r3a 18 a:=by unfold r3a;rw[if_neg (by decide),if_neg (by decide),if_pos rfl,List.nil_append]
 have her:U2a 18 a=0:=by unfold U2a;rw[if_pos hpos,if_pos hlen,if_neg (by decide)]
 have HQ:Hid (∀(v:Value) (e:Ending) (w':World),e=.returned (.tuple #[v,.int .i64 0])->a1a .u8 5 w' w.heap.size v (if 0=0 then []++(le a.file 8++(le a.lev 1++List.replicate 3 0)) else [])->Below w.heap.size w w'->C5a w 18 a e w'):=by intro v e w' h1 h2 h3;refine⟨v,by rw[her];exact h1,?_,h3⟩;unfold U1b;rw[her,<-hbd];exact h2
 obtain⟨y1,hy1⟩:∃y:List Int,y=[]++(le a.file 8++(le a.lev 1++List.replicate 3 0)):=⟨_,rfl⟩;rw[<-hy1] at D1 DE HQ;clear hy1;clear hk hnm hpos hall hkd her hbd ka hT hc hin hents hn2;have F1:=hI (D1.out _ _ V0.out);go_wp2_with fail;refine F1.out.mono ?_;rintro e u1 ⟨rfl,p1,p2⟩;have Vz:=hI p1;have Kz:=hI (K0.out.trans p2);clear p1 p2 F1 V0;rotate_left;all_goals
  have FE:=hI (DE.out _ _ Vz.out);go_wp2_with fail;refine FE.out.mono ?_;rintro e ue ⟨v,rfl,p1,p2⟩;have OE:=hI p1;have LE:=hI (Kz.out.below.trans (p2.mono (by have:=Kz.out.below.size;omega)));clear p1 p2 FE;go_wp2;go_ret2;exact HQ.out _ _ _ rfl OE.out LE.out
def PI(w:World)(g B:Nat)(A:Option Addr)(n c:Nat)(xs:List Int)(r:Rd):Prop:=r.p<=n/\B<=g/\Blk w g 166 [.slice A n c,.int .i64 r.p,.int .i64 r.e]/\Holds w B A n c xs
section
variable {w w':World} {g g' B:Nat} {A:Option Addr} {n c:Nat} {xs:List Int} {r:Rd} {p:Nat} {er:Int}
theorem PI.lt(h:PI w g B A n c xs r):g<w.heap.size:=h.2.2.1.lt
theorem PI.c0(h:PI w g B A n c xs r):w.cell? ⟨g,0,none⟩=some (.slice A n c):=h.2.2.1.at rfl
theorem PI.c1(h:PI w g B A n c xs ⟨p,er⟩):w.cell? ⟨g,1,none⟩=some (.int .i64 (p:Int)):=h.2.2.1.at rfl
theorem PI.c2(h:PI w g B A n c xs ⟨p,er⟩):w.cell? ⟨g,2,none⟩=some (.int .i64 er):=h.2.2.1.at rfl
theorem PI.drewN(h:PI w g B A n c xs r)(k:Nat):PI (w.drewN k) g B A n c xs r:=⟨h.1,h.2.1,h.2.2.1.drewN k,h.2.2.2.drewN k⟩
theorem PI.drew(h:PI w g B A n c xs r):PI w.drew g B A n c xs r:=⟨h.1,h.2.1,h.2.2.1.drew,h.2.2.2.drew⟩
theorem PI.below(h:PI w g B A n c xs r)(hb:Below w.heap.size w w'):PI w' g B A n c xs r:=by have hlt:=h.lt;exact⟨h.1,h.2.1,h.2.2.1.over hb,h.2.2.2.below (hb.mono (by have:=h.2.1;omega))⟩
theorem PI.only(h:PI w g B A n c xs r)(hO:p3a g' w w')(hg:g≠g')(hb:B<=g'):PI w' g B A n c xs r:=⟨h.1,h.2.1,h.2.2.1.only hO hg,h.2.2.2.only hO hb⟩
end
theorem PI.save{w w':World}{g g' B:Nat}{A:Option Addr}{n c:Nat}{xs:List Int}{r:Rd}(h:PI w g B A n c xs r)(hS:H2a g' w w')(hg:g≠g')(hb:B<=g'):PI w' g B A n c xs r:=⟨h.1,h.2.1,h.2.2.1.save hS hg,h.2.2.2.below (hS.below hb (by have:=h.lt;have:=h.2.1;omega))⟩
structure k9b (a:m1a):Prop where
 u:a.user.size<=17592186044416/\a.share.size<=17592186044416
 n:a.name.size<=17592186044416/\a.pat.size<=17592186044416/\a.aft.size<=17592186044416
 l:a.locks.length<=4398046511104
def l9b(s:E1a):Prop:=s.ents.length<=4398046511104/\∀e∈s.ents,e.name.size<=17592186044416
theorem R5b{w:World}{c:Int}{ac:List Value}{a:m1a}(hc:0<=c/\c<=65535)(k:a.ok)(ha:b1a w w.heap.size ac a)(hf:k9b a)(hT:f7a w):U6b w c ac a:=by
 intro w' hb;unfold fPA pae pao;split
 ·exact N5a w' c ac a hc k (ha.over hb) hf.u (hT.below hb)
 ·split
  ·exact b3b w' c ac a hc k (ha.over hb) hf.u hf.n.1 hf.l (hT.below hb)
  ·exact d3b w' c ac a hc k (ha.over hb) hf.u hf.n (hT.below hb)
theorem S5b{w:World}{c:Int}{sc:List Value}{s:E1a}(hc:0<=c/\c<=65535)(k:s.ok)(hs:f1a w w.heap.size sc s)(hf:l9b s)(hT:f7a w):V6b w c sc s:=by
 intro w' hb;unfold fPS pse pso;split
 ·exact O5a w' c sc s hc k (hs.over hb)
 ·split
  ·exact c3b w' c sc s hc k (hs.over hb)
  ·exact e3b w' c sc s hc k (hs.over hb) hf (hT.below hb)
theorem b7b(w:World)(m:A5a)(cs:List Value)(k:m.ok)(hm:V3a w w.heap.size cs m)(fa:k9b m.a)(fs:l9b m.s)(hT:f7a w) :
  Calls Tryz.prog 8 #[.agg cs.toArray] w (y6a w m):=by
 obtain⟨ac,sc,rfl,ha,hs⟩:=hm;refine w7b w m ac sc k (ha.len k.a) (hs.len k.s) ha.one hs.one (p1b k) (N5b k) ?_;intro w' g hb B;exact y0b w' g m ac sc k B (ha.over hb) (hs.over hb) fa.u (hT.below hb) (λ_=>R5b (m1b k.h) k.a (ha.over hb) fa (hT.below hb)) (λ_=>S5b (m1b k.h) k.s (hs.over hb) fs (hT.below hb))
theorem g2b(w:World)(A:Option Addr)(n k:Nat)(xs:List Int)(hx:Holds w w.heap.size A n k xs) :
  Calls Tryz.prog 81 #[.int .u16 13,.slice A n k] w (U3a w 13 xs):=by
 have hl:=hx.len;have hrm:=hx.room;have HX:=hI hx;have hby:=hx.byte;have ZH:=hI G5a;have ZB:=hI m5b;have BZ:=q9a;have HZ:Hid ((l0a (.slice none 0 0) (.slice none 0 0) (.slice none 0 0) k0a).length=69):=h1a f0a;have HZ1:Hid (∀v∈l0a (.slice none 0 0) (.slice none 0 0) (.slice none 0 0) k0a,v.oneCell'=true):=(j2a w 0).one;have B1:Tryz.prog.built 135 [(0,.slice A n k)]=some (.slice A n k::.int .i64 0::.int .i64 0::([]:List Value)).toArray:=by kernel_rfl
 have B2:Tryz.prog.built 137 [(0,.agg #[.slice A n k,.int .i64 0,.int .i64 0])]=some (.slice A n k::.int .i64 0::.int .i64 0::l0a (.slice none 0 0) (.slice none 0 0) (.slice none 0 0) k0a).toArray:=by kernel_rfl
 have HZI:Hid (∀w':World,b1a w' w'.heap.size (l0a (.slice none 0 0) (.slice none 0 0) (.slice none 0 0) k0a) k0a):=λw'=>j2a w' _
 have HE:Hid (∀er,o7a 13 xs=er->er≠0->∀e w',e=.returned (.tuple #[.agg (l0a (.slice none 0 0) (.slice none 0 0) (.slice none 0 0) k0a).toArray,.int .i64 er])->Below w.heap.size w w'->U3a w 13 xs e w'):=by intro er h1 h2 e w' he hb;unfold U3a Z6a;rw[h1,if_neg h2];exact⟨_,he,HZI.out w',hb,λ_ _ _ _ _ h=>by cases h⟩
 obtain⟨zs,hzs⟩:∃zs,zs=l0a (.slice none 0 0) (.slice none 0 0) (.slice none 0 0) k0a:=⟨_,rfl⟩;obtain⟨tl,htl⟩:∃tl,tl=zs.tail:=⟨_,rfl⟩;have HTL:Hid (zs=.slice none 0 0::tl):=by show _=_;rw[htl,hzs];rfl
 have HZS:=hI hzs;rw[<-hzs] at ZH ZB BZ HZ HZ1 B2 HE;clear hzs htl HZI;have HZB:Hid ((Value.slice none 0 0::Value.int .i64 0::Value.int .i64 0::zs).length=72):=by show _=_;simp only[List.length_cons,HZ.out]
 have HNB:Hid ((Value.slice A n k::Value.int .i64 0::Value.int .i64 0::zs).length=72):=by show _=_;simp only[List.length_cons,HZ.out]
 have HOB:Hid (∀v∈Value.slice A n k::Value.int .i64 0::Value.int .i64 0::zs,v.oneCell'=true):=by
  intro v hv;rcases List.mem_cons.1 hv with rfl | hv
  ·rfl
  rcases List.mem_cons.1 hv with rfl | hv
  ·rfl
  rcases List.mem_cons.1 hv with rfl | hv
  ·rfl
  exact HZ1.out v hv
 have hk:M0a 13=true:=by decide
 have hge:o7a 13 xs=Y5a xs (rdZ xs 4 rd0):=by unfold o7a j5b;rw[if_pos hk,if_neg (by omega),if_neg (by omega),if_neg (by omega)]
 have hgo:Y5a xs (rdZ xs 4 rd0)=0->Z6a 13 xs=k0a:=λhe=>by unfold Z6a;rw[hge,he,if_pos rfl];unfold j5b;rw[if_neg (by omega),if_neg (by omega),if_neg (by omega)]
 obtain⟨cq,hcq⟩:∃x,x=(13:Int):=⟨_,rfl⟩;rw[show U3a w 13 xs=U3a w cq xs by rw[hcq]];rw[<-hcq] at HE hk hge hgo;clear hcq;have p0:rd0.p<=n:=Nat.zero_le _;have p1:(rdZ xs 4 rd0).p<=n:=l5b hl p0;have C1:Hid (∀(w':World) (g:Nat) (rest:List Value),PRd w' g 137 A n k rd0 rest->Holds w' w'.heap.size A n k xs->Calls Tryz.prog 114 #[.pointer (some ⟨g,0,none⟩),.int .i64 4] w' (M6a w' g 137 A n k (rdZ xs 4 rd0) rest)):=λw' g rest h1 h2=>Q2b w' g 137 A n k xs _ 4 rest h1 h2 p0 (by decide)
 have CE:Hid (∀(w':World) (g:Nat) (rest:List Value),PRd w' g 137 A n k (rdZ xs 4 rd0) rest->Calls Tryz.prog 115 #[.pointer (some ⟨g,0,none⟩)] w' λe w2=>e=.returned (.int .i64 (Y5a xs (rdZ xs 4 rd0)))/\∃j,w'.drewN j=w2):=λw' g rest h1=>K6b w' g 137 A n k xs _ rest h1 hl hrm p1
 have hre:Y5a xs (rdZ xs 4 rd0)=0->(rdZ xs 4 rd0).e=0:=Z3b;by_cases he:Y5a xs (rdZ xs 4 rd0)=0;rotate_left
 ·have HQ:=hI (HE.out _ hge he);have hne:(Y5a xs (rdZ xs 4 rd0) != 0)=true:=by simpa using he
  obtain⟨z,hz⟩:∃x,x=rdZ xs 4 rd0:=⟨_,rfl⟩;rw[<-hz] at C1 p1 CE he hre HQ hne;clear hz;obtain⟨er,her⟩:∃x,x=Y5a xs z:=⟨_,rfl⟩;rw[<-her] at CE he HQ hne hre;clear her he hre;clear HE hx hk hge;go_enter Tryz.func81,Tryz.ntmps81;go_wp2_with(first
   | ((with_reducible refine sN 4 ?_);refine b0a rfl _ rfl zs _ ZH ?_;intro h w1 hg1 hg2 Z1 L1)
   | ((with_reducible refine sN 9 ?_);refine x0a rfl _ _ rfl (.slice A n k::.int .i64 0::.int .i64 0::[]) (by refine Eq.trans ?_ B1;kernel_rfl) ?_)
   | ((with_reducible refine sN 10 ?_);refine x0a rfl _ _ rfl (.slice A n k::.int .i64 0::.int .i64 0::zs) (by refine Eq.trans ?_ B2;kernel_rfl) ?_)
   | ((with_reducible refine sN 6 ?_);refine b0a rfl _ rfl (.slice none 0 0::.int .i64 0::.int .i64 0::zs) _ ZB ?_;intro g w2 hg3 hg4 P02 L2)
   | ((with_reducible refine sT 6 ?_);refine e0a rfl _ (.tmp 6) (.tmp 10) rfl g rfl _ (.slice none 0 0::.int .i64 0::.int .i64 0::zs) (.slice A n k::.int .i64 0::.int .i64 0::zs) rfl P02 72 T1b HZB HNB HOB ?_;intro w3 P03 O3 hg5;have hsz:=L1.out.size;have hng:h≠g:=(by omega);have Z3:=hI ((Z1.out.over L2.out).only O3.out hng);have B3:Hid (Below w.heap.size w w3):=c0a (step L1.out L2.out) O3.out (by omega);have P3:Hid (PRd w3 g 137 A n k rd0 zs):=P03;have hwg:w.heap.size<=g:=(by omega);have hwh:w.heap.size<=h:=hg1)
   | fail)
  refine(C1.out w3 g _ P3.out ((HX.out.below B3.out).mono B3.out.size)).mono ?_;rintro e w4 ⟨rfl,hP,hS⟩;have P4:=hI hP;have Z4:=hI (Z3.out.save hS hng);have B4:=hI (B3.out.trans (hS.below hwg B3.out.size));clear hP hS P3 Z3 B3;obtain⟨rs,hrs⟩:∃rs,rs=zs:=⟨_,rfl⟩;have HRS:=hI hrs;have P4':Hid (PRd w4 g 137 A n k z rs):=by rw[hrs];exact P4.out
  clear hrs P4;have P4:=P4';clear P4';go_wp2_with fail;refine(CE.out w4 g _ P4.out).mono ?_;rintro e w99 ⟨rfl,kk,rfl⟩;have Z99:=hI (Blk.drewN Z4.out kk);have P99:=hI (Blk.drewN P4.out kk);have B99:Hid (Below w.heap.size w (w4.drewN kk)):=step B4.out (b6a _ kk);obtain⟨wq,hwq⟩:∃wq,wq=w4.drewN kk:=⟨_,rfl⟩;rw[<-hwq] at Z99 P99 B99⊢;clear hwq P4 Z4 B4;go_wp2_with(first
   | ((with_reducible refine sN 48 ?_);refine W0a rfl _ rfl zs BZ ?_)
   | ((with_reducible refine sT 4 ?_);refine e0a rfl _ (.tmp 4) (.tmp 48) rfl h rfl _ zs zs rfl Z99 69 n0a HZ HZ HZ1 ?_;intro w10 K10 O10 hg10)
   | fail)
  refine bodyPost_ret (v:=.tuple #[.agg zs.toArray,.int .i64 er]) ?_ rfl (HQ.out _ _ rfl (c0a B99.out O10.out hwh));exact L0a rfl _ _ h _ _ (0,0) _ rfl K10.out Tryz.underlying34 rfl (by rw[n0a];have:=HZ.out;simp[this]) rfl
 have HQ:Hid (∀vd e w',e=.returned (.tuple #[.agg (l0a vd (.slice none 0 0) (.slice none 0 0) (k0a)).toArray,.int .i64 0])->b1a w' w'.heap.size (l0a vd (.slice none 0 0) (.slice none 0 0) (k0a)) (k0a)->Below w.heap.size w w'->(∀b off s n c,vd=.slice (some ⟨b,off,s⟩) n c->w.heap.size<=b)->U3a w cq xs e w'):=by intro vd e w' h1 h2 h3 h9;have h4:=hgo he;unfold U3a;rw[h4,hge,he];exact⟨vd,h1,h2,h3,h9⟩
 obtain⟨z,hz⟩:∃x,x=rdZ xs 4 rd0:=⟨_,rfl⟩;rw[<-hz] at C1 p1 CE he hre;clear hz;rw[he] at CE;have hre0:=hre he;clear HE hx hk hge hre he hre0;go_enter Tryz.func81,Tryz.ntmps81;go_wp2_with(first
  | ((with_reducible refine sN 4 ?_);refine b0a rfl _ rfl zs _ ZH ?_;intro h w1 hg1 hg2 Z1 L1)
  | ((with_reducible refine sN 9 ?_);refine x0a rfl _ _ rfl (.slice A n k::.int .i64 0::.int .i64 0::[]) (by refine Eq.trans ?_ B1;kernel_rfl) ?_)
  | ((with_reducible refine sN 10 ?_);refine x0a rfl _ _ rfl (.slice A n k::.int .i64 0::.int .i64 0::zs) (by refine Eq.trans ?_ B2;kernel_rfl) ?_)
  | ((with_reducible refine sN 6 ?_);refine b0a rfl _ rfl (.slice none 0 0::.int .i64 0::.int .i64 0::zs) _ ZB ?_;intro g w2 hg3 hg4 P02 L2)
  | ((with_reducible refine sT 6 ?_);refine e0a rfl _ (.tmp 6) (.tmp 10) rfl g rfl _ (.slice none 0 0::.int .i64 0::.int .i64 0::zs) (.slice A n k::.int .i64 0::.int .i64 0::zs) rfl P02 72 T1b HZB HNB HOB ?_;intro w3 P03 O3 hg5;have hsz:=L1.out.size;have hng:h≠g:=(by omega);have Z3:=hI ((Z1.out.over L2.out).only O3.out hng);have B3:Hid (Below w.heap.size w w3):=c0a (step L1.out L2.out) O3.out (by omega);have P3:Hid (PRd w3 g 137 A n k rd0 zs):=P03;have hwg:w.heap.size<=g:=(by omega);have hwh:w.heap.size<=h:=hg1)
  | fail)
 refine(C1.out w3 g _ P3.out ((HX.out.below B3.out).mono B3.out.size)).mono ?_;rintro e w4 ⟨rfl,hP,hS⟩;have P4:=hI hP;have Z4:=hI (Z3.out.save hS hng);have B4:=hI (B3.out.trans (hS.below hwg B3.out.size));clear hP hS P3 Z3 B3;obtain⟨rs,hrs⟩:∃rs,rs=zs:=⟨_,rfl⟩;have HRS:=hI hrs;have P4':Hid (PRd w4 g 137 A n k z rs):=by rw[hrs];exact P4.out
 clear hrs P4;have P4:=P4';clear P4';go_wp2_with fail;have HEQ:Hid (rs=l0a (.slice none 0 0) (.slice none 0 0) (.slice none 0 0) (k0a)):=by
  show _=_
  rw[HRS.out,HZS.out]
 have HRL:Hid (rs.length=69):=by show _=_;rw[HEQ.out];exact h1a f0a
 have HR1:Hid (∀v∈rs,v.oneCell'=true):=by rw[HEQ.out];exact D1a rfl rfl rfl
 refine(CE.out w4 g _ P4.out).mono ?_;rintro e w99 ⟨rfl,kk,rfl⟩;have Z99:=hI (Blk.drewN Z4.out kk);have P99:=hI (Blk.drewN P4.out kk);have B99:Hid (Below w.heap.size w (w4.drewN kk)):=step B4.out (b6a _ kk);obtain⟨wq,hwq⟩:∃wq,wq=w4.drewN kk:=⟨_,rfl⟩;rw[<-hwq] at Z99 P99 B99⊢;clear hwq P4 Z4 B4;have hrg:Hid (wq.rangeAt g 3 rs):=Blk.range P99.out 3;go_wp2_with(first
  | ((with_reducible refine sN 51 ?_);refine p0a rfl _ (.tmp 50) rfl g 3 rfl rs _ hrg Tryz.underlying34 rfl 69 n0a HRL ?_)
  | ((with_reducible refine sT 4 ?_);refine e0a rfl _ (.tmp 4) (.tmp 51) rfl h rfl _ zs rs rfl Z99 69 n0a HZ HRL HR1 ?_;intro w10 K10 O10 hg10)
  | fail)
 refine bodyPost_ret (v:=.tuple #[.agg rs.toArray,.int .i64 0]) ?_ rfl ?_
 ·exact L0a rfl _ _ h _ _ (0,0) _ rfl K10.out Tryz.underlying34 rfl (by rw[n0a];have:=HRL.out;simp[this]) rfl
 ·exact HQ.out (.slice none 0 0) _ w10 (congrArg (λr:List Value=>Ending.returned (.tuple #[.agg r.toArray,.int .i64 0])) HEQ.out) ⟨none,0,0,none,0,0,none,0,0,rfl,o1a.nil _ _ _,Holds.nil _ _,T0a.nil _ _ _ _⟩ (c0a B99.out O10.out hwh) (λ_ _ _ _ _ h=>by cases h)
def e9a:List Value:=X3a.map (Value.int .u16)
theorem r4b(w:World)(c:Int) :
  Calls Tryz.prog 92 #[.int .u16 c] w λe w'=>e=.returned (.bool (known c))/\Below w.heap.size w w':=by
 have HK:Hid (∀k,k<17->X3a.getD k 0=c->known c=true):=λk hk he=>by rw[<-he];have h17:k<X3a.length:=hk;exact List.contains_iff_mem.2 (by rw[List.getD_eq_getElem?_getD,List.getElem?_eq_getElem h17];exact List.getElem_mem h17)
 have HN:Hid ((∀k,k<17->¬X3a.getD k 0=c)->known c=false):=λhn=>by rw[Bool.eq_false_iff];intro h;obtain⟨i,hi,he⟩:=List.mem_iff_getElem.1 (List.contains_iff_mem.1 h);exact hn i hi (by rw[List.getD_eq_getElem?_getD,List.getElem?_eq_getElem hi];exact he)
 have HC:Hid (∀k,k<17->e9a[k]? = some (.int .u16 (X3a.getD k 0))):=λk hk=>by have h17:k<X3a.length:=hk;simp[e9a,h17]
 obtain⟨z,hz⟩:∃z,z=known c:=⟨_,rfl⟩;rw[<-hz] at HK HN⊢;have hcs:Tryz.prog.builtSlice 24 17 [(0,.int .u16 0),(1,.int .u16 1),(2,.int .u16 2),(3,.int .u16 3),(4,.int .u16 4),(5,.int .u16 5),(6,.int .u16 6),(7,.int .u16 7),(8,.int .u16 8),(9,.int .u16 9),(10,.int .u16 10),(11,.int .u16 12),(12,.int .u16 13),(13,.int .u16 14),(14,.int .u16 16),(15,.int .u16 17),(16,.int .u16 18)]=some e9a.toArray:=by kernel_rfl
 obtain⟨cs,hc⟩:∃cs,cs=e9a:=⟨_,rfl⟩;obtain⟨cl,hcl⟩:∃cl,cl=X3a:=⟨_,rfl⟩;rw[<-hc] at HC hcs;rw[<-hcl] at HC HK HN;clear hz hc hcl;go_enter Tryz.func92,Tryz.ntmps92;go_wp2_with(((with_reducible refine sN 5 ?_);refine K0a rfl _ _ 17 _ rfl Tryz.underlying178 cs (by refine Eq.trans ?_ hcs;kernel_rfl) ?_;intro g w1 hg1 hg2 B1 L1));go_loop [4] (λi=>∃k:Nat,k<=17/\i=.int .i64 k/\Hid (∀j,j<k->¬cl.getD j 0=c)) (λi=>17-(intOf i).toNat)
 case atStart=>exact⟨0,Nat.zero_le _,rfl,λj hj=>absurd hj (by omega)⟩
 case round=>
  obtain⟨k,hk,rfl,HT⟩:=hrel;by_cases hlt:k<17
  ·have gc:=(B1.out.cell k).trans (HC.out k hlt);have hK:=HK.out k hlt;have hT:=HT.out;obtain⟨y,hy⟩:∃y,y=cl.getD k 0:=⟨_,rfl⟩;rw[<-hy] at gc hK;have HY:=hI hy;clear hy;by_cases he:y=c
   ·have hS:=hI (hK he);have hb:(y==c)=true:=by simpa using he
    clear hK hT HT he;go_wp2;go_ret;exact⟨H0a hS.out.symm,L1.out⟩
   ·have hS:Hid (∀j,j<k+1->¬cl.getD j 0=c):=λj hj=>by
     by_cases hjk:j<k
     ·exact hT j hjk
     ·obtain rfl:j=k:=by omega
      rw[<-HY.out];exact he
    have hb:(y==c)=false:=by simpa using he
    clear hK hT HT he;go_wp2;go_round
    case rel=>exact⟨k+1,by omega,by go_num,hS⟩
    case measure=>simp[intOf];omega
  ·obtain rfl:k=17:=by omega
   have hS:=hI (HN.out HT.out);clear HT HN HK;go_wp2;go_ret;exact⟨H0a hS.out.symm,L1.out⟩
theorem C3b(w:World)(h:Hd)(k:h.ok) :
  Calls Tryz.prog 46 #[hv h,.int .u32 2] w λe w'=>e=.returned (.bool (h4a h.fl))/\Below w.heap.size w w':=by
 have h1:=k.fl;have hb:Hid ((h.fl/2%2==1)=h4a h.fl):=by
  show _=_
  unfold h4a;rw[Bool.eq_iff_iff,beq_iff_eq,decide_eq_true_iff]
 obtain⟨z,hz⟩:∃z,z=h4a h.fl:=⟨_,rfl⟩;rw[<-hz] at hb⊢;have F4:Hid (∀(w:World) (g:Nat),Blk w g 28 (q0a h)->w.cell? ⟨g,4,none⟩=some (.int .u32 h.fl)):=λw g B=>HB.c4 B
 obtain⟨fl,hfl⟩:∃fl,fl=h.fl:=⟨_,rfl⟩;rw[<-hfl] at h1 hb F4;obtain⟨cs,hcs⟩:∃cs,cs=q0a h:=⟨_,rfl⟩;unfold hv;rw[<-hcs] at F4⊢;obtain⟨h0,h1⟩:=h1;have hq:fl.tdiv 2=fl/2:=Int.tdiv_eq_ediv_of_nonneg h0;have hm:(fl/2).tmod 2=fl/2%2:=Int.tmod_eq_emod_of_nonneg (by omega);have hb':=hb.out;clear hz k hfl hcs hb;go_enter Tryz.func46,Tryz.ntmps46;go_wp2_with(((with_reducible refine sN 2 ?_);refine a0a rfl _ (.tmp 0) rfl cs rfl ?_;intro g w1 hg1 hg2 B1 L1;have gc:=F4.out _ _ B1.out));go_ret;exact⟨rfl,L1.out⟩
theorem c7b(w:World)(h:Hd)(k:h.ok) :
  Calls Tryz.prog 44 #[hv h] w λe w'=>e=.returned (.bool (c8a h))/\Below w.heap.size w w':=by
 have CK:Hid (∀w:World,Calls Tryz.prog 92 #[.int .u16 h.cm] w λe w'=>e=.returned (.bool (known h.cm))/\Below w.heap.size w w'):=λw=>r4b w h.cm
 have CH:Hid (∀w:World,Calls Tryz.prog 46 #[hv h,.int .u32 2] w λe w'=>e=.returned (.bool (h4a h.fl))/\Below w.heap.size w w'):=λw=>C3b w h k
 have HL:=hI (I0a k);obtain⟨f0,f1⟩:=k.fl;have FB:Hid (∀(w:World) (g:Nat),Blk w g 28 (q0a h)->w.cell? ⟨g,2,none⟩=some (.int .u16 h.cm)/\w.cell? ⟨g,4,none⟩=some (.int .u32 h.fl)/\w.cell? ⟨g,7,none⟩=some (.int .u64 h.asy)/\w.cell? ⟨g,8,none⟩=some (.int .u32 h.tr)):=λw g B=>⟨HB.c2 B,HB.c4 B,HB.c7 B,HB.c8 B⟩
 have HM:Hid (c8a h=(known h.cm&&(decide (h.fl<16)&&(if h4a h.fl=true then decide (h.tr=0) else decide (h.asy=0))))):=rfl;obtain⟨fl,hfl⟩:∃fl,fl=h.fl:=⟨_,rfl⟩;obtain⟨cm,hcm⟩:∃cm,cm=h.cm:=⟨_,rfl⟩;obtain⟨tr,htr⟩:∃tr,tr=h.tr:=⟨_,rfl⟩;obtain⟨asy,hasy⟩:∃asy,asy=h.asy:=⟨_,rfl⟩;obtain⟨cs,hcs⟩:∃cs,cs=q0a h:=⟨_,rfl⟩;rw[<-hfl] at FB HM CH f0 f1;rw[<-hcm] at FB HM CK;rw[<-htr,<-hasy] at FB HM;unfold hv at CH⊢;rw[<-hcs] at FB CH HL⊢;clear hfl hcm htr hasy hcs k;by_cases hk:known cm=true
 ·rw[hk] at CK HM;by_cases h16:fl<16
  ·rw[decide_eq_true h16] at HM;have hd:decide (16<=fl)=false:=by rw[decide_eq_false_iff_not];omega
   by_cases hi:h4a fl=true
   ·rw[hi] at CH HM;rw[show c8a h=(tr==0) from by rw[HM.out,if_pos rfl,Bool.true_and,Bool.true_and,Bool.eq_iff_iff,beq_iff_eq,decide_eq_true_iff]]
    clear hk hi HM;go_enter Tryz.func44,Tryz.ntmps44;go_wp2_with(first
     | ((with_reducible refine sN 1 ?_);refine a0a rfl _ (.tmp 0) rfl cs rfl ?_;intro g w1 hg1 hg2 B1 L1;have ga:=(FB.out _ _ B1.out).1)
     | fail)
    refine(CK.out _).mono ?_;rintro e w2 ⟨rfl,L2⟩;have B2:=hI (B1.out.over L2);have gb:=(FB.out _ _ B2.out).2.1;have L12:=hI (step L1.out L2);clear B1 L1 L2 ga CK;go_wp2_with(first
     | ((with_reducible refine sN 12 ?_);refine d0a rfl _ (.tmp 1) rfl g rfl _ _ B2 26 _ Tryz.underlying28 rfl E0a HL ?_)
     | fail)
    refine(CH.out _).mono ?_;rintro e w3 ⟨rfl,L3⟩;have gd:=(FB.out _ _ (B2.out.over L3)).2.2.2;clear CH B2 gb;go_wp2;go_ret;exact⟨rfl,step L12.out L3⟩
   ·have hi':h4a fl=false:=by simpa using hi
    rw[hi'] at CH HM;rw[show c8a h=(asy==0) from by rw[HM.out,if_neg (by decide),Bool.true_and,Bool.true_and,Bool.eq_iff_iff,beq_iff_eq,decide_eq_true_iff]]
    clear hk hi hi' HM;go_enter Tryz.func44,Tryz.ntmps44;go_wp2_with(first
     | ((with_reducible refine sN 1 ?_);refine a0a rfl _ (.tmp 0) rfl cs rfl ?_;intro g w1 hg1 hg2 B1 L1;have ga:=(FB.out _ _ B1.out).1)
     | fail)
    refine(CK.out _).mono ?_;rintro e w2 ⟨rfl,L2⟩;have B2:=hI (B1.out.over L2);have gb:=(FB.out _ _ B2.out).2.1;have L12:=hI (step L1.out L2);clear B1 L1 L2 ga CK;go_wp2_with(first
     | ((with_reducible refine sN 12 ?_);refine d0a rfl _ (.tmp 1) rfl g rfl _ _ B2 26 _ Tryz.underlying28 rfl E0a HL ?_)
     | fail)
    refine(CH.out _).mono ?_;rintro e w3 ⟨rfl,L3⟩;have gd:=(FB.out _ _ (B2.out.over L3)).2.2.1;clear CH B2 gb;go_wp2;go_ret;exact⟨rfl,step L12.out L3⟩
  ·rw[decide_eq_false h16] at HM;have hd:decide (16<=fl)=true:=by rw[decide_eq_true_iff];omega
   rw[show c8a h=false from by rw[HM.out];simp];clear hk HM CH;go_enter Tryz.func44,Tryz.ntmps44;go_wp2_with(first
    | ((with_reducible refine sN 1 ?_);refine a0a rfl _ (.tmp 0) rfl cs rfl ?_;intro g w1 hg1 hg2 B1 L1;have ga:=(FB.out _ _ B1.out).1)
    | fail)
   refine(CK.out _).mono ?_;rintro e w2 ⟨rfl,L2⟩;have gb:=(FB.out _ _ (B1.out.over L2)).2.1;clear ga CK;go_wp2;go_ret;exact⟨rfl,step L1.out L2⟩
 ·have hk':known cm=false:=by simpa using hk
  rw[hk'] at CK HM;rw[show c8a h=false from by rw[HM.out];simp];clear hk hk' HM CH;go_enter Tryz.func44,Tryz.ntmps44;go_wp2_with(first
   | ((with_reducible refine sN 1 ?_);refine a0a rfl _ (.tmp 0) rfl cs rfl ?_;intro g w1 hg1 hg2 B1 L1;have ga:=(FB.out _ _ B1.out).1)
   | fail)
  refine(CK.out _).mono ?_;rintro e w2 ⟨rfl,L2⟩;clear ga CK;go_wp2;go_ret;exact⟨rfl,step L1.out L2⟩
def f3b(w:World)(base:Nat)(xs:List Int)(n s:Int)(e:Ending)(w':World):Prop:=∃v,e=.returned v/\Own w' base v (xs++v2a n s)/\Below base w w'
theorem Y7b(w:World)(base:Nat)(v:Value)(xs:List Int)(n s:Int)(hn:0<=n/\n<=18446744073709551615)(ho:Own w base v xs)(hxl:xs.length<=1000)(hps:(v2a n s).length<=8)(hpb:Bytes (v2a n s))(hb:base<=w.heap.size) :
  Calls Tryz.prog 45 #[v,.int .u64 n,.int .i64 s] w (f3b w base xs n s):=by
 have C1:=hI (Z0b w n s hn);have HO:=hI ho;have HQ:Hid (∀e w',(∃v,e=.returned v/\Own w' base v (xs++v2a n s)/\Below base w w')->f3b w base xs n s e w'):=λ_ _ hh=>hh
 have HPB:=hI hpb;obtain⟨A0,c0,hv0⟩:=ho.len;obtain⟨ys,hys⟩:∃ys,ys=v2a n s:=⟨_,rfl⟩;unfold b4a at C1;rw[<-hys] at C1 HQ hps HPB;have hlen:xs.length+ys.length<=140737488355328:=by omega
 clear hys hn hpb ho;subst hv0;go_enter Tryz.func45,Tryz.ntmps45;go_wp2_with fail;refine C1.out.mono ?_;rintro e w1 ⟨x,rfl,hx,L1⟩;obtain⟨A1,c1,rfl,hh⟩:=hx.holds HPB.out (by omega);have HO1:=HO.out.below L1;have hs1:=L1.size;obtain⟨m,hm⟩:∃m,m=ys.length:=⟨_,rfl⟩;rw[<-hm] at hh⊢;have HH:=hI hh;obtain⟨m0,hm0⟩:∃m,m=xs.length:=⟨_,rfl⟩;have HO1':=hI HO1;have HLEN:=hI hlen;rw[<-hm0] at HO1'⊢;clear hm hm0 hh hx HO HO1 hlen;go_wp2_with(at_builtin;refine D0a rfl (.tmp 15) (.tmp 16) rfl base _ xs rfl HO1'.out _ A1 m c1 ys rfl HH.out HLEN.out (by omega) ?_;intro v2 w2 ho2 hb2 hgr);go_ret;exact HQ.out _ _ ⟨_,rfl,ho2.out,(L1.mono hb).trans hb2⟩
theorem E0b{w:World}{B:Nat}{ad:Addr}{n c:Nat}{xs:List Int}(hr:Holds w B (some ad) n c xs):∀j u,(xs.map (Value.int .u8))[j]? = some u->w.cell? (ad.add j)=some u:=by
 have hl:=hr.len;intro j u hj;have hjl:j<xs.length:=by
  by_cases hj':j<xs.length
  ·exact hj'
  ·rw[List.getElem?_eq_none (by simp;omega)] at hj;cases hj
 obtain⟨b,off,he,_,hcl⟩:=hr.cells (by omega);obtain rfl:=Option.some.inj he;have e:(⟨b,off,none⟩:Addr).add j=⟨b,off+j,none⟩:=by
  by_cases hj0:j=0
  ·subst hj0;simp[Addr.add]
  ·simp[Addr.add,hj0]
 rw[e,hcl j (by omega),<-hj];simp[hjl]
theorem a8a{w:World}{ops:Array Oper}{rest:List Oper}{o:Oper}{a:Act}{Q:Exit->Act->World->Prop}(hgd:o.guard=none)(s x:Operand)
(ho:o.op=.call { callee:=.builtin .append,args:=#[s,x],argTypes:=#[31,31] })
(B:Nat)(A:Option Addr)(n c:Nat)(xs:List Int)(hs:a.eval s=.slice A n n)(hX:Holds w B A n c xs)(B':Nat)(A':Option Addr)(m c':Nat)(ys:List Int)(hx:a.eval x=.slice A' m c')
(hY:Holds w B' A' m c' ys)(hm:0<m)(hlen:n+m<=140737488355328)
(h:∀v' w',Hid (Own w' w.heap.size v' (xs++ys))->Below w.heap.size w w'->wpList Tryz.prog ops Q rest (a.put o.dst v') w') :
  wpList Tryz.prog ops Q (o::rest) a w:=by
 obtain⟨i0,hi,hz0,hz1,hz2⟩:=info_parts v3a;have hl:=hX.len;have hl':=hY.len;rcases A' with _ | ad
 ·exact absurd (hY.bare rfl) (by have:=hY.fit;omega)
 refine wpList_append_grows w hgd s x 31 ho 5 i0 (.int .u8 0) 1 1 Tryz.underlying31 hi hz0 hz1 hz2 rfl (by omega) A n n (xs.map (Value.int .u8)) hs (λhA=>?_) (by simp[hl]) (λb hb=>?_)
  ad m c' (ys.map (Value.int .u8)) hx (by simp[hl']) (E0b hY) (by intro v hv;obtain⟨x,_,rfl⟩:=List.mem_map.1 hv;rfl) (by omega) (by unfold maxLen;omega) (by omega) ?_
 ·have:=hX.bare hA;have:=hX.fit;exact⟨by omega,by omega⟩
 ·subst hb;exact E0b hX
 ·intro v' w' h1 h2;refine h v' w' ?_ ((Below.refl _ _).grown h2 (Nat.le_refl _) (λk hk=>by cases hk));show w'.ownsRow w.heap.size 5 1 v' (xs++ys).length ((xs++ys).map (Value.int .u8))
  rw[List.map_append,List.length_append,hl,hl'];exact h1
theorem T5b(w:World)(h:Hd)(k:h.ok)(f:Int)(hf:1<=f/\f<=8) :
  Calls Tryz.prog 46 #[hv h,.int .u32 f] w λe w'=>e=.returned (.bool (decide (h.fl/f%2=1)))/\Below w.heap.size w w':=by
 have h1:=k.fl;have hb:Hid ((h.fl/f%2==1)=decide (h.fl/f%2=1)):=by
  show _=_
  rw[Bool.eq_iff_iff,beq_iff_eq,decide_eq_true_iff]
 obtain⟨z,hz⟩:∃z,z=decide (h.fl/f%2=1):=⟨_,rfl⟩;rw[<-hz] at hb⊢;have F4:Hid (∀(w:World) (g:Nat),Blk w g 28 (q0a h)->w.cell? ⟨g,4,none⟩=some (.int .u32 h.fl)):=λw g B=>HB.c4 B
 obtain⟨fl,hfl⟩:∃fl,fl=h.fl:=⟨_,rfl⟩;rw[<-hfl] at h1 hb F4;obtain⟨cs,hcs⟩:∃cs,cs=q0a h:=⟨_,rfl⟩;unfold hv;rw[<-hcs] at F4⊢;obtain⟨h0,h1⟩:=h1;obtain⟨f0,f1⟩:=hf;have hq:fl.tdiv f=fl/f:=Int.tdiv_eq_ediv_of_nonneg h0;have hd0:0<=fl/f:=Int.ediv_nonneg h0 (by omega);have hd1:fl/f<=fl:=Int.ediv_le_self _ h0;have hm:(fl/f).tmod 2=fl/f%2:=Int.tmod_eq_emod_of_nonneg hd0;have hfz:(f==0)=false:=by rw[beq_eq_false_iff_ne];omega
 have hfn:f≠0:=by omega
 have hb':=hb.out;clear hz k hfl hcs hb;go_enter Tryz.func46,Tryz.ntmps46;go_wp2_with(((with_reducible refine sN 2 ?_);refine a0a rfl _ (.tmp 0) rfl cs rfl ?_;intro g w1 hg1 hg2 B1 L1;have gc:=F4.out _ _ B1.out));go_ret;exact⟨rfl,L1.out⟩
theorem K8a(w:World)(h:Hd)(k:h.ok) :
  Calls Tryz.prog 25 #[hv h] w λe w'=>e=.returned (.bool (T2a h.fl))/\Below w.heap.size w w':=by
 have HL:=hI (I0a k);have CH:Hid (∀w':World,Calls Tryz.prog 46 #[hv h,.int .u32 1] w' λe w2=>e=.returned (.bool (T2a h.fl))/\Below w'.heap.size w' w2):=λw'=>by have h1:=T5b w' h k 1 (by decide);rw[Int.ediv_one] at h1;exact h1
 unfold hv at CH⊢;obtain⟨cs,hcs⟩:∃cs,cs=q0a h:=⟨_,rfl⟩;rw[<-hcs] at CH HL⊢;obtain⟨z,hz⟩:∃z,z=T2a h.fl:=⟨_,rfl⟩;rw[<-hz] at CH⊢;clear hz hcs k;go_enter Tryz.func25,Tryz.ntmps25;go_wp2_with(first
  | ((with_reducible refine sN 1 ?_);refine a0a rfl _ (.tmp 0) rfl cs rfl ?_;intro g w1 hg1 hg2 B1 L1)
  | ((with_reducible refine sN 3 ?_);refine d0a rfl _ (.tmp 1) rfl g rfl _ cs B1 26 _ Tryz.underlying28 rfl E0a HL ?_)
  | fail)
 refine(CH.out w1).mono ?_;rintro e w2 ⟨rfl,L2⟩;go_wp2;go_ret;exact⟨rfl,step L1.out L2⟩
def D3b(h:Hd)(s:Int):Hd:=⟨h.ch,IntKind.u32.wrap s,h.cm,0,if h.fl/4%2=1 then 5 else 1,0,h.id,0,if h4a h.fl=true then 0 else h.tr,h.se,List.replicate 16 0⟩
theorem g3b{h:Hd}(k:h.ok)(s:Int):(D3b h s).ok:=by
 refine⟨k.ch,?_,k.cm,(by decide:(0:Int)<=0/\(0:Int)<=65535),?_,(by decide:(0:Int)<=0/\(0:Int)<=4294967295),k.id,(by decide:(0:Int)<=0/\(0:Int)<=18446744073709551615),?_,k.se,by simp[D3b],Bytes.zeros 16⟩
 ·show 0<=IntKind.u32.wrap s/\IntKind.u32.wrap s<=4294967295
  have e:IntKind.u32.wrap s=s%4294967296:=by unfold IntKind.wrap;rfl
  rw[e];omega
 ·show 0<=(if h.fl/4%2=1 then (5:Int) else 1)/\(if h.fl/4%2=1 then (5:Int) else 1)<=4294967295
  split<;>omega
 ·show 0<=(if h4a h.fl=true then 0 else h.tr)/\(if h4a h.fl=true then 0 else h.tr)<=4294967295
  split
  ·decide
  ·exact k.tr
theorem d7b(x:Int)(h0:0<=x)(h1:x<=4294967295):bits .or .u32 1 (bits .and .u32 x 4)=if x/4%2=1 then 5 else 1:=by
 obtain⟨a,rfl⟩:=Int.eq_ofNat_of_zero_le h0;have e:(bits .and .u32 (a:Int) 4)=((a &&& 4:Nat):Int):=by rw[show(4:Int)=((4:Nat):Int) from rfl,u32_and_nat a 4 (by omega) (by omega)]
 rw[e];have h2:a &&& 4=if a/4%2=1 then 4 else 0:=by
  have ht:a.testBit 2=decide (a/4%2=1):=by rw[Nat.testBit_eq_decide_div_mod_eq]
  apply Nat.eq_of_testBit_eq;intro i;rw[Nat.testBit_and,show(4:Nat)=2^2 from rfl,Nat.testBit_two_pow];by_cases hi:2=i
  ·subst hi;rw[ht];by_cases h:a/4%2=1
   ·rw[if_pos h,decide_eq_true h];decide
   ·rw[if_neg h,decide_eq_false h];decide
  ·rw[decide_eq_false hi,Bool.and_false];split
   ·rw[Nat.testBit_two_pow,decide_eq_false hi]
   ·exact(Nat.zero_testBit i).symm
 rw[h2];by_cases h:a/4%2=1
 ·rw[if_pos h,if_pos (by omega)];decide
 ·rw[if_neg h,if_neg (by omega)];decide
theorem s4b(w:World)(h:Hd)(k:h.ok)(s:Int)(hs:-9223372036854775808<=s/\s<=9223372036854775807) :
  Calls Tryz.prog 29 #[hv h,.int .i64 s] w λe w'=>e=.returned (hv (D3b h s))/\Below w.heap.size w w':=by
 have HL:=hI (I0a k);have ZH:=hI g8a;have HZ:=hI (I0a o3a);have hfr:=d7b h.fl k.fl.1 k.fl.2;have hfa:=r5b h.fl k.fl.1 k.fl.2;have FC:Hid (∀(w:World) (g:Nat),Blk w g 28 (q0a h)->w.cell? ⟨g,0,none⟩=some (.int .u16 h.ch)/\w.cell? ⟨g,2,none⟩=some (.int .u16 h.cm)/\w.cell? ⟨g,4,none⟩=some (.int .u32 h.fl)/\w.cell? ⟨g,6,none⟩=some (.int .u64 h.id)/\w.cell? ⟨g,8,none⟩=some (.int .u32 h.tr)/\w.cell? ⟨g,9,none⟩=some (.int .u64 h.se)):=λw g B=>⟨HB.c0 B,HB.c2 B,HB.c4 B,HB.c6 B,HB.c8 B,HB.c9 B⟩
 obtain⟨st,hst⟩:∃x,x=IntKind.u32.wrap s:=⟨_,rfl⟩;obtain⟨fr,hfre⟩:∃x:Int,x=if h.fl/4%2=1 then 5 else 1:=⟨_,rfl⟩
 rw[<-hfre] at hfr;obtain⟨za,hza⟩:∃x,x=h4a h.fl:=⟨_,rfl⟩;rw[<-hza] at hfa;have e1:q0a (D3b h s)=q0a ⟨h.ch,st,h.cm,0,fr,0,h.id,0,if za=true then 0 else h.tr,h.se,List.replicate 16 0⟩:=by unfold D3b;rw[hst,hfre,hza]
 have BL:Tryz.prog.built 28 [(0,.int .u16 h.ch),(1,.int .u32 st),(2,.int .u16 h.cm),(4,.int .u32 fr),(6,.int .u64 h.id),(8,.int .u32 h.tr),(9,.int .u64 h.se)]=some (q0a ⟨h.ch,st,h.cm,0,fr,0,h.id,0,h.tr,h.se,List.replicate 16 0⟩).toArray:=by kernel_rfl
 have HX:Hid ((q0a ⟨h.ch,st,h.cm,0,fr,0,h.id,0,h.tr,h.se,List.replicate 16 0⟩).length=26):=rfl;have HXO:=hI (i2a ⟨h.ch,st,h.cm,0,fr,0,h.id,0,h.tr,h.se,List.replicate 16 0⟩);have HY:Hid ((q0a ⟨h.ch,st,h.cm,0,fr,0,h.id,0,0,h.se,List.replicate 16 0⟩).length=26):=rfl;have HYO:=hI (i2a ⟨h.ch,st,h.cm,0,fr,0,h.id,0,0,h.se,List.replicate 16 0⟩);have HS:Hid ((q0a ⟨h.ch,st,h.cm,0,fr,0,h.id,0,h.tr,h.se,List.replicate 16 0⟩).set 8 (.int .u32 0)=q0a ⟨h.ch,st,h.cm,0,fr,0,h.id,0,0,h.se,List.replicate 16 0⟩):=rfl;unfold hv;rw[e1];obtain⟨cs,hcs⟩:∃cs,cs=q0a h:=⟨_,rfl⟩;rw[<-hcs] at HL FC⊢;obtain⟨zs,hzs⟩:∃zs,zs=q0a N1a:=⟨_,rfl⟩;rw[<-hzs] at ZH HZ;obtain⟨xs,hxs⟩:∃x,x=q0a ⟨h.ch,st,h.cm,0,fr,0,h.id,0,h.tr,h.se,List.replicate 16 0⟩:=⟨_,rfl⟩;rw[<-hxs] at BL HX HXO HS;obtain⟨ys,hys⟩:∃x,x=q0a ⟨h.ch,st,h.cm,0,fr,0,h.id,0,0,h.se,List.replicate 16 0⟩:=⟨_,rfl⟩;rw[<-hys] at HY HYO HS;have e2:q0a ⟨h.ch,st,h.cm,0,fr,0,h.id,0,if za=true then 0 else h.tr,h.se,List.replicate 16 0⟩=if za=true then ys else xs:=by rw[hys,hxs];cases za<;>rfl
 rw[e2];obtain⟨ch,hch⟩:∃x,x=h.ch:=⟨_,rfl⟩;obtain⟨cm,hcm⟩:∃x,x=h.cm:=⟨_,rfl⟩;obtain⟨fl,hfl⟩:∃x,x=h.fl:=⟨_,rfl⟩;obtain⟨id,hid⟩:∃x,x=h.id:=⟨_,rfl⟩;obtain⟨tr,htr⟩:∃x,x=h.tr:=⟨_,rfl⟩;obtain⟨se,hse⟩:∃x,x=h.se:=⟨_,rfl⟩;rw[<-hch,<-hcm,<-hid,<-htr,<-hse] at BL;rw[<-hch,<-hcm,<-hfl,<-hid,<-htr,<-hse] at FC;rw[<-hfl] at hfr hfa;have hst':IntKind.u32.wrap s=st:=hst.symm;have hstm:s%4294967296=st:=by rw[<-hst'];rfl
 clear e1 e2 hxs hys hcs hzs hza hfre hch hcm hfl hid htr hse k hst;cases za
 ·rw[if_neg (by decide)];go_enter Tryz.func29,Tryz.ntmps29;go_wp2_with(first
   | ((with_reducible refine sN 2 ?_);refine a0a rfl _ (.tmp 0) rfl cs rfl ?_;intro g w1 hg1 hg2 B1 L1;obtain⟨c0,c2,c4,c6,c8,c9⟩:=FC.out _ _ B1.out)
   | ((with_reducible refine sN 4 ?_);refine b0a rfl _ rfl zs _ ZH ?_;intro g0 w2 hg3 hg4 Z2 L2;have B2:=hI (B1.out.over L2.out);have M2:=hI (step L1.out L2.out);obtain⟨d0,d2,d4,d6,d8,d9⟩:=FC.out _ _ B2.out)
   | ((with_reducible refine sN 22 ?_);refine x0a rfl _ _ rfl xs (by refine Eq.trans (congrArg (Tryz.prog.built 28) ?_) BL;kernel_rfl) ?_)
   | ((with_reducible refine sN 5 ?_);refine b0a rfl _ rfl zs _ ZH ?_;intro g5 w3 hg5 hg6 X3 L3;have Z3:=hI (Z2.out.over L3.out);have B3:=hI (B2.out.over L3.out);have M3:=hI (step M2.out L3.out);have hgw:=L1.out.size)
   | ((with_reducible refine sT 5 ?_);refine e0a rfl _ (.tmp 5) (.tmp 22) rfl g5 rfl _ zs xs rfl X3 26 E0a HZ HX HXO ?_;intro w4 X4 O4 hg7;have Z4:=hI (Z3.out.only O4.out (by have:=Z2.out.lt;omega));have B4:=hI (B3.out.only O4.out (by have:=B2.out.lt;omega));obtain⟨k0,k2,k4,k6,k8,k9⟩:=FC.out _ _ B4.out;have M4:=hI (c0a M3.out O4.out (by have:=L2.out.size;omega)))
   | ((with_reducible refine sN 28 ?_);refine d0a rfl _ (.tmp 5) rfl g5 rfl _ xs X4 26 _ Tryz.underlying28 rfl E0a HX ?_)
   | ((with_reducible refine sT 4 ?_);refine e0a rfl _ (.tmp 4) (.tmp 28) rfl g0 rfl _ zs xs rfl Z4 26 E0a HZ HX HXO ?_;intro w5 X5 O5 hg8;clear c0 c2 c4 c6 c8 c9 d0 d2 d4 d6 d8 d9 k0 k2 k4 k6 k8 k9 hfr hfa hst' hstm FC)
   | fail)
  refine bodyPost_ret (v:=.agg xs.toArray) ?_ rfl ⟨rfl,c0a M4.out O5.out (by omega)⟩;exact results_cell_row rfl _ _ g0 _ _ (0,0) _ rfl X5.out Tryz.underlying28 rfl (by rw[E0a];have:=HX.out;simp[this])
 ·rw[if_pos rfl];go_enter Tryz.func29,Tryz.ntmps29;go_wp2_with(first
   | ((with_reducible refine sN 2 ?_);refine a0a rfl _ (.tmp 0) rfl cs rfl ?_;intro g w1 hg1 hg2 B1 L1;obtain⟨c0,c2,c4,c6,c8,c9⟩:=FC.out _ _ B1.out)
   | ((with_reducible refine sN 4 ?_);refine b0a rfl _ rfl zs _ ZH ?_;intro g0 w2 hg3 hg4 Z2 L2;have B2:=hI (B1.out.over L2.out);have M2:=hI (step L1.out L2.out);obtain⟨d0,d2,d4,d6,d8,d9⟩:=FC.out _ _ B2.out)
   | ((with_reducible refine sN 22 ?_);refine x0a rfl _ _ rfl xs (by refine Eq.trans (congrArg (Tryz.prog.built 28) ?_) BL;kernel_rfl) ?_)
   | ((with_reducible refine sN 5 ?_);refine b0a rfl _ rfl zs _ ZH ?_;intro g5 w3 hg5 hg6 X3 L3;have Z3:=hI (Z2.out.over L3.out);have B3:=hI (B2.out.over L3.out);have M3:=hI (step M2.out L3.out);have hgw:=L1.out.size)
   | ((with_reducible refine sT 5 ?_);refine e0a rfl _ (.tmp 5) (.tmp 22) rfl g5 rfl _ zs xs rfl X3 26 E0a HZ HX HXO ?_;intro w4 X4 O4 hg7;have Z4:=hI (Z3.out.only O4.out (by have:=Z2.out.lt;omega));have B4:=hI (B3.out.only O4.out (by have:=B2.out.lt;omega));obtain⟨k0,k2,k4,k6,k8,k9⟩:=FC.out _ _ B4.out;have M4:=hI (c0a M3.out O4.out (by have:=L2.out.size;omega)))
   | ((with_reducible refine sT 27 ?_);refine h0a rfl _ (.tmp 27) _ rfl g5 8 rfl _ xs (.int .u32 0) rfl X4 (hI (by have:=HX.out;omega)) (by kernel_rfl) rfl ?_;intro w6 X6 O6 hg9;rw[HS.out] at X6;have Z6:=hI (Z4.out.only O6.out (by have:=Z2.out.lt;omega));have M6:=hI (c0a M4.out O6.out (by have:=L2.out.size;omega)))
   | ((with_reducible refine sN 28 ?_);refine d0a rfl _ (.tmp 5) rfl g5 rfl _ ys X6 26 _ Tryz.underlying28 rfl E0a HY ?_)
   | ((with_reducible refine sT 4 ?_);refine e0a rfl _ (.tmp 4) (.tmp 28) rfl g0 rfl _ zs ys rfl Z6 26 E0a HZ HY HYO ?_;intro w5 X5 O5 hg8;clear c0 c2 c4 c6 c8 c9 d0 d2 d4 d6 d8 d9 k0 k2 k4 k6 k8 k9 hfr hfa hst' hstm FC)
   | fail)
  refine bodyPost_ret (v:=.agg ys.toArray) ?_ rfl ⟨rfl,c0a M6.out O5.out (by omega)⟩;exact results_cell_row rfl _ _ g0 _ _ (0,0) _ rfl X5.out Tryz.underlying28 rfl (by rw[E0a];have:=HY.out;simp[this])
def U5b(m:A5a):Prop:=(m.a.dial.length<=281474976710656/\m.a.data.length<=281474976710656/\m.a.locks.length<=281474976710656)/\m.s.data.length<=281474976710656/\m.s.ents.length<=281474976710656
theorem h2b(w:World)(cs ds:List Value)(a b:A5a)(ka:a.ok)(kb:b.ok)(ha:V3a w w.heap.size cs a)(hb:V3a w w.heap.size ds b)(la:U5b a)(lb:U5b b) :
  Calls Tryz.prog 11 #[.agg cs.toArray,.agg ds.toArray] w λe w'=>e=.returned (.bool (decide (a.h=b.h)&&(decide (a.a=b.a)&&decide (a.s=b.s))))/\Below w.heap.size w w':=by
 have HLA:=hI (ha.len ka);have HLB:=hI (hb.len kb);obtain⟨ac,sc,rfl,ha1,ha2⟩:=ha;obtain⟨bc,tc,rfl,hb1,hb2⟩:=hb;have N1:=hI (I0a ka.h);have N2:=hI (I0a kb.h);have N3:=hI (ha1.len ka.a);have N4:=hI (hb1.len kb.a);have N5:=hI (ha2.len ka.s);have N6:=hI (hb2.len kb.s);have q0:∀w:World,(Op.equalIn 10000 28 (.agg (q0a a.h).toArray) (.agg (q0a b.h).toArray)).run Tryz.prog w=.ok (decide (a.h=b.h)) w:=λw=>X6a a.h b.h ka.h kb.h w
 have qg:=x3b;have CA:Hid (∀w':World,Below w.heap.size w w'->Calls Tryz.prog 26 #[.agg ac.toArray,.agg bc.toArray] w' λe w2=>e=.returned (.bool (decide (a.a=b.a)))/\Below w'.heap.size w' w2):=λw' h=>m5a w' ac bc a.a b.a ka.a kb.a (ha1.over h) (hb1.over h) la.1 lb.1
 have CS:Hid (∀w':World,Below w.heap.size w w'->Calls Tryz.prog 27 #[.agg sc.toArray,.agg tc.toArray] w' λe w2=>e=.returned (.bool (decide (a.s=b.s)))/\Below w'.heap.size w' w2):=λw' h=>P6a w' sc tc a.s b.s ka.s kb.s (ha2.over h) (hb2.over h) la.2 lb.2
 have RA1:Hid (∀(w:World) g T,Blk w g T (q0a a.h++(ac++sc))->w.rangeAt g 0 (q0a a.h)):=λw g T b=>x6a b
 have RA2:Hid (∀(w:World) g T,Blk w g T (q0a a.h++(ac++sc))->w.rangeAt g 26 ac):=λw g T b=>p5a b N1.out
 have RA3:Hid (∀(w:World) g T,Blk w g T (q0a a.h++(ac++sc))->w.rangeAt g 95 sc):=λw g T b=>q5a b N1.out N3.out
 have RB1:Hid (∀(w:World) g T,Blk w g T (q0a b.h++(bc++tc))->w.rangeAt g 0 (q0a b.h)):=λw g T b=>x6a b
 have RB2:Hid (∀(w:World) g T,Blk w g T (q0a b.h++(bc++tc))->w.rangeAt g 26 bc):=λw g T b=>p5a b N2.out
 have RB3:Hid (∀(w:World) g T,Blk w g T (q0a b.h++(bc++tc))->w.rangeAt g 95 tc):=λw g T b=>q5a b N2.out N4.out
 have F1:∀(g:Nat) (w:World),(Instr.fieldAt 41 (.pointer (some ⟨g,0,none⟩)) 1).run Tryz.prog w=.ok (.pointer (some ⟨g,26,none⟩)) w:=λg w=>by go_simp
 have F2:∀(g:Nat) (w:World),(Instr.fieldAt 41 (.pointer (some ⟨g,0,none⟩)) 2).run Tryz.prog w=.ok (.pointer (some ⟨g,95,none⟩)) w:=λg w=>by go_simp
 obtain⟨z1,hz1⟩:∃x,x=decide (a.h=b.h):=⟨_,rfl⟩;obtain⟨z2,hz2⟩:∃x,x=decide (a.a=b.a):=⟨_,rfl⟩;obtain⟨z3,hz3⟩:∃x,x=decide (a.s=b.s):=⟨_,rfl⟩;rw[<-hz1] at q0⊢;rw[<-hz2] at CA⊢;rw[<-hz3] at CS⊢;obtain⟨ca,hca⟩:∃x,x=q0a a.h++(ac++sc):=⟨_,rfl⟩;rw[<-hca] at HLA RA1 RA2 RA3⊢;obtain⟨cb,hcb⟩:∃x,x=q0a b.h++(bc++tc):=⟨_,rfl⟩;rw[<-hcb] at HLB RB1 RB2 RB3⊢;obtain⟨hA,hhA⟩:∃x,x=q0a a.h:=⟨_,rfl⟩;rw[<-hhA] at q0 N1 RA1;obtain⟨hB,hhB⟩:∃x,x=q0a b.h:=⟨_,rfl⟩;rw[<-hhB] at q0 N2 RB1;clear hz1 hz2 hz3 hca hcb hhA hhB ha1 ha2 hb1 hb2 ka kb la lb;cases z1
 ·show Calls _ _ _ _ λe w'=>e=.returned (.bool false)/\_
  go_enter Tryz.func11,Tryz.ntmps11;go_wp2_with(first
   | ((with_reducible refine sN 2 ?_);refine a0a rfl _ (.tmp 0) rfl ca rfl ?_;intro g w1 hg1 hg2 B1 L1)
   | ((with_reducible refine sN 3 ?_);refine a0a rfl _ (.tmp 1) rfl cb rfl ?_;intro g2 w2 hg3 hg4 D2 L2;have B2:=hI (B1.out.over L2.out);have M2:=hI (step L1.out L2.out))
   | ((with_reducible refine sN 6 ?_);refine p0a rfl _ (.tmp 5) rfl g 0 rfl hA _ (hI (RA1.out _ _ _ B2.out)) Tryz.underlying28 rfl 26 E0a N1 ?_)
   | ((with_reducible refine sN 8 ?_);refine p0a rfl _ (.tmp 7) rfl g2 0 rfl hB _ (hI (RB1.out _ _ _ D2.out)) Tryz.underlying28 rfl 26 E0a N2 ?_)
   | fail)
  go_ret;exact⟨rfl,M2.out⟩
 ·cases z2
  ·show Calls _ _ _ _ λe w'=>e=.returned (.bool false)/\_
   go_enter Tryz.func11,Tryz.ntmps11;go_wp2_with(first
    | ((with_reducible refine sN 2 ?_);refine a0a rfl _ (.tmp 0) rfl ca rfl ?_;intro g w1 hg1 hg2 B1 L1)
    | ((with_reducible refine sN 3 ?_);refine a0a rfl _ (.tmp 1) rfl cb rfl ?_;intro g2 w2 hg3 hg4 D2 L2;have B2:=hI (B1.out.over L2.out);have M2:=hI (step L1.out L2.out))
    | ((with_reducible refine sN 6 ?_);refine p0a rfl _ (.tmp 5) rfl g 0 rfl hA _ (hI (RA1.out _ _ _ B2.out)) Tryz.underlying28 rfl 26 E0a N1 ?_)
    | ((with_reducible refine sN 8 ?_);refine p0a rfl _ (.tmp 7) rfl g2 0 rfl hB _ (hI (RB1.out _ _ _ D2.out)) Tryz.underlying28 rfl 26 E0a N2 ?_)
    | ((with_reducible refine sN 11 ?_);refine R0a (by kernel_rfl) _ (.tmp 2) 1 rfl _ _ rfl (F1 g) ?_)
    | ((with_reducible refine sN 12 ?_);refine B0a (by kernel_rfl) _ (.tmp 11) rfl g 26 rfl ac _ (hI (RA2.out _ _ _ B2.out)) Tryz.underlying34 rfl 69 n0a N3 ?_)
    | ((with_reducible refine sN 13 ?_);refine R0a (by kernel_rfl) _ (.tmp 3) 1 rfl _ _ rfl (F1 g2) ?_)
    | ((with_reducible refine sN 14 ?_);refine B0a (by kernel_rfl) _ (.tmp 13) rfl g2 26 rfl bc _ (hI (RB2.out _ _ _ D2.out)) Tryz.underlying34 rfl 69 n0a N4 ?_)
    | fail)
   refine(CA.out w2 M2.out).mono ?_;rintro e w3 ⟨rfl,L3⟩;have B3:=hI (B2.out.over L3);have D3:=hI (D2.out.over L3);have M3:=hI (step M2.out L3);clear L3 CA B2 D2 M2 B1 L1 L2;go_wp2_with(first
    | fail)
   go_ret;exact⟨rfl,M3.out⟩
  ·show Calls _ _ _ _ λe w'=>e=.returned (.bool z3)/\_
   go_enter Tryz.func11,Tryz.ntmps11;go_wp2_with(first
    | ((with_reducible refine sN 2 ?_);refine a0a rfl _ (.tmp 0) rfl ca rfl ?_;intro g w1 hg1 hg2 B1 L1)
    | ((with_reducible refine sN 3 ?_);refine a0a rfl _ (.tmp 1) rfl cb rfl ?_;intro g2 w2 hg3 hg4 D2 L2;have B2:=hI (B1.out.over L2.out);have M2:=hI (step L1.out L2.out))
    | ((with_reducible refine sN 6 ?_);refine p0a rfl _ (.tmp 5) rfl g 0 rfl hA _ (hI (RA1.out _ _ _ B2.out)) Tryz.underlying28 rfl 26 E0a N1 ?_)
    | ((with_reducible refine sN 8 ?_);refine p0a rfl _ (.tmp 7) rfl g2 0 rfl hB _ (hI (RB1.out _ _ _ D2.out)) Tryz.underlying28 rfl 26 E0a N2 ?_)
    | ((with_reducible refine sN 11 ?_);refine R0a (by kernel_rfl) _ (.tmp 2) 1 rfl _ _ rfl (F1 g) ?_)
    | ((with_reducible refine sN 12 ?_);refine B0a (by kernel_rfl) _ (.tmp 11) rfl g 26 rfl ac _ (hI (RA2.out _ _ _ B2.out)) Tryz.underlying34 rfl 69 n0a N3 ?_)
    | ((with_reducible refine sN 13 ?_);refine R0a (by kernel_rfl) _ (.tmp 3) 1 rfl _ _ rfl (F1 g2) ?_)
    | ((with_reducible refine sN 14 ?_);refine B0a (by kernel_rfl) _ (.tmp 13) rfl g2 26 rfl bc _ (hI (RB2.out _ _ _ D2.out)) Tryz.underlying34 rfl 69 n0a N4 ?_)
    | fail)
   refine(CA.out w2 M2.out).mono ?_;rintro e w3 ⟨rfl,L3⟩;have B3:=hI (B2.out.over L3);have D3:=hI (D2.out.over L3);have M3:=hI (step M2.out L3);clear L3 CA B2 D2 M2 B1 L1 L2;go_wp2_with(first
    | ((with_reducible refine sN 18 ?_);refine R0a (by kernel_rfl) _ (.tmp 2) 2 rfl _ _ rfl (F2 g) ?_)
    | ((with_reducible refine sN 19 ?_);refine B0a (by kernel_rfl) _ (.tmp 18) rfl g 95 rfl sc _ (hI (RA3.out _ _ _ B3.out)) Tryz.underlying39 rfl 20 v0a N5 ?_)
    | ((with_reducible refine sN 20 ?_);refine R0a (by kernel_rfl) _ (.tmp 3) 2 rfl _ _ rfl (F2 g2) ?_)
    | ((with_reducible refine sN 21 ?_);refine B0a (by kernel_rfl) _ (.tmp 20) rfl g2 95 rfl tc _ (hI (RB3.out _ _ _ D3.out)) Tryz.underlying39 rfl 20 v0a N6 ?_)
    | fail)
   refine(CS.out w3 M3.out).mono ?_;rintro e w4 ⟨rfl,L4⟩;go_wp2_with fail;go_ret;exact⟨rfl,step M3.out L4⟩
theorem Z7b{w:World}{ac:List Value}{a:m1a}(k:a.ok)(ha:b1a w w.heap.size ac a)(hu:a.user.size<=17592186044416/\a.share.size<=17592186044416)(hT:f7a w):U6b w 13 ac a:=by
 intro w' hb;show Calls Tryz.prog 80 _ _ λe w2=>∃v,e=.returned (.tuple #[v,.int .i64 (g1a 13 a)])/\M5a w2 w'.heap.size v (q3a 13 a)/\Below w'.heap.size w' w2
 exact N5a w' 13 ac a (by decide) k (ha.over hb) hu (hT.below hb)
theorem a8b{w:World}{sc:List Value}{s:E1a}(k:s.ok)(hs:f1a w w.heap.size sc s):V6b w 13 sc s:=by
 intro w' hb;show Calls Tryz.prog 82 _ _ λe w2=>∃v,e=.returned (.tuple #[v,.int .i64 (z1a 13 s)])/\M5a w2 w'.heap.size v (O3a 13 s)/\Below w'.heap.size w' w2
 exact O5a w' 13 sc s (by decide) k (hs.over hb)
theorem b8b{w:World}{A:Option Addr}{n c:Nat}{xs:List Int}(hx:Holds w w.heap.size A n c xs):W6b w 13 A n c xs:=by
 intro w' hb;show Calls Tryz.prog 81 _ _ λe w2=>∃cs,e=.returned (.tuple #[.agg cs.toArray,.int .i64 (o7a 13 xs)])/\GA w2 w'.heap.size cs (Z6a 13 xs)/\Below w'.heap.size w' w2
 refine(g2b w' A n c xs (hx.over hb)).mono ?_;rintro e w2 ⟨vd,h1,h2,h3,_⟩;have hz:Z6a 13 xs=k0a:=by
  unfold Z6a;split
  ·unfold j5b;rw[if_neg (by decide),if_neg (by decide),if_neg (by decide)]
  ·rfl
 rw[hz] at h1 h2⊢;exact⟨_,h1,⟨f0a,h2,⟨.inl rfl,.inl rfl,.inl rfl⟩,.slice none 0 0,rfl,a1a.nil _ _ _ _⟩,h3⟩
def M2a:A5a:=⟨{ N1a with cm:=13,id:=1 },k0a,w0a⟩
def V5b:A5a:=⟨D3b { N1a with cm:=13,id:=1 } 15,k0a,w0a⟩
def B6a:List Int:=M8a M2a.h++[0,0,0,0]
theorem R5a:M2a.h.ok:=⟨by decide,by decide,by decide,by decide,by decide,by decide,by decide,by decide,by decide,by decide,by decide,Bytes.zeros 16⟩
theorem f9a:M2a.ok:=⟨R5a,f0a,C0a⟩
theorem e7b:V5b.ok:=⟨g3b R5a 15,f0a,C0a⟩
theorem c8b:Z5a M2a=0/\i1b M2a=B6a/\L9a M2a=[0,0,0,0]:=by decide +kernel
theorem d8b:Z5a V5b=0/\(i1b V5b).length=68/\L9a V5b=[0,0,0,0]:=by decide +kernel
theorem W8b:r2a B6a 0=0/\l2a B6a 0=M2a.h/\j1b B6a=0:=by decide +kernel
theorem e8b:r2a (B6a++[0]) 0=0/\l2a (B6a++[0]) 0=M2a.h/\j1b (B6a++[0])=5:=by decide +kernel
theorem f8b:(l6b B6a).h=M2a.h/\(l6b B6a).a=k0a/\(l6b B6a).s=w0a:=by decide +kernel
theorem g8b:B6a.length=68:=by decide +kernel
theorem U9a:Bytes B6a:=(s5a R5a.byte).append (Bytes.of_all (by decide))
theorem E3b(w:World)(hT:f7a w)(m:A5a)(k:m.ok)(ha:m.a=k0a)(hs:m.s=w0a)(h13:t6a m.h=13)(hb:L9a m=[0,0,0,0]) :
  Calls Tryz.prog 8 #[.agg (q0a m.h++(zac++zsc)).toArray] w (y6a w m):=by
 refine w7b w m zac zsc k n1b o1b (D1a rfl rfl rfl) (u2a rfl rfl) (by rw[hb];exact Bytes.zeros 4) (by rw[hb];decide) ?_;intro w' g hbl B;refine y0b w' g m zac zsc k B (by rw[ha];exact j2a w' _) (by rw[hs];exact R2a w' _) (by rw[ha];decide) (hT.below hbl) (λ_=>?_) (λ_=>?_)
 ·rw[h13,ha];exact Z7b f0a (j2a w' _) (by decide) (hT.below hbl)
 ·rw[h13,hs];exact a8b C0a (R2a w' _)
theorem F3b(w:World)(A:Option Addr)(n c:Nat)(xs:List Int)(hx:Holds w w.heap.size A n c xs)(hh:r2a xs 0=0->l2a xs 0=M2a.h) :
  Calls Tryz.prog 13 #[.slice A n c] w (G8a w xs):=by
 refine S8b w A n c xs hx λh0=>?_
 rw[hh h0];intro w' g A' n' c' hb B hy;exact k4b w' g M2a.h zac zsc R5a B n1b o1b A' n' c' _ rfl (λ_=>b8b (hy.mono (Nat.le_of_lt B.lt))) (λh=>absurd h (by decide))
theorem f7b(w:World)(hT:f7a w):Calls Tryz.prog 8 #[.agg (q0a M2a.h++(zac++zsc)).toArray] w λe w'=>(∃A c,e=.returned (.tuple #[.slice A 68 c,.int .i64 0])/\Holds w' w'.heap.size A 68 c B6a)/\Below w.heap.size w w':=by
 have h:=E3b w hT M2a f9a rfl rfl (by decide) c8b.2.2;unfold y6a at h;rw[c8b.1,c8b.2.1] at h;refine h.mono λe w' ⟨v,h1,h2,h3⟩=>?_
 obtain⟨A,c,rfl,hh⟩:=a1a.holds8 h2 U9a (by rw[g8b];decide);rw[g8b] at h1 hh;exact⟨⟨A,c,h1,hh⟩,h3⟩
theorem W5b(w:World)(hT:f7a w):Calls Tryz.prog 8 #[.agg (q0a (D3b M2a.h 15)++(zac++zsc)).toArray] w λe w'=>(∃A c,e=.returned (.tuple #[.slice A 68 c,.int .i64 0]))/\Below w.heap.size w w':=by
 have h:=E3b w hT V5b e7b rfl rfl (by decide) d8b.2.2;unfold y6a at h;rw[d8b.1] at h;refine h.mono λe w' ⟨v,h1,h2,h3⟩=>?_
 obtain⟨A,c,rfl⟩:=h2.own8.len;rw[d8b.2.1] at h1;exact⟨⟨A,c,h1⟩,h3⟩
theorem g7b(w:World)(A:Option Addr)(c:Nat)(hx:Holds w w.heap.size A 68 c B6a):Calls Tryz.prog 13 #[.slice A 68 c] w λe w'=>(∃cs:List Value,e=.returned (.tuple #[.agg cs.toArray,.int .i64 0])/\V3a w' w'.heap.size cs M2a)/\Below w.heap.size w w':=by have h:=F3b w A 68 c _ hx (λ_=>W8b.2.1);unfold G8a at h;rw[W8b.2.2,f8b.1,f8b.2.1,f8b.2.2] at h;exact h.mono λe w' ⟨ac,sc,h1,h2,h3,h4⟩=>⟨⟨_,h1,ac,sc,rfl,h2.2.1,h3.2.1⟩,h4⟩
theorem X5b(w:World)(A:Option Addr)(c:Nat)(hx:Holds w w.heap.size A 69 c (B6a++[0])):Calls Tryz.prog 13 #[.slice A 69 c] w λe w'=>(∃cs:List Value,e=.returned (.tuple #[.agg cs.toArray,.int .i64 5])/\cs.length=115/\∀v∈cs,v.oneCell'=true)/\Below w.heap.size w w':=by
 have h:=F3b w A 69 c _ hx (λ_=>e8b.2.1);unfold G8a at h;rw[e8b.2.2] at h;refine h.mono λe w' ⟨ac,sc,h1,h2,h3,h4⟩=>⟨⟨_,h1,?_,?_⟩,h4⟩
 ·have hz:(l6b (B6a++[0])).h=N1a:=by unfold l6b;rw[e8b.2.2,if_neg (by decide)];rfl
  rw[hz];simp only[List.length_append,I0a o3a,h2.len,h3.len]
 ·intro v hv;rcases List.mem_append.1 hv with hv | hv
  ·exact i2a _ v hv
  ·rcases List.mem_append.1 hv with hv | hv
   ·exact h2.one v hv
   ·exact h3.one v hv
theorem h8b:Tryz.prog.built 28 [(2,.int .u16 13),(6,.int .u64 1)]=some (q0a M2a.h).toArray:=by kernel_rfl
theorem X8b:(q0a (D3b M2a.h 15))[1]? = some (.int .u32 15)/\(q0a (D3b M2a.h 15))[6]? = some (.int .u64 1):=by
 constructor
 ·show some (Value.int .u32 (IntKind.u32.wrap 15))=_
  rw[show IntKind.u32.wrap 15=15 by decide]
 ·rfl
theorem t4b(w:World)(hT:f7a w):Calls Tryz.prog 12 #[] w λe w'=>e=.returned (.bool true)/\Below w.heap.size w w':=by
 have HT:=hI hT;have C1:=hI f7b;have C2:=hI g7b;have C3:=hI X5b;have C4:=hI W5b;have CA:Hid (∀w':World,Calls Tryz.prog 29 #[hv M2a.h,.int .i64 15] w' λe w2=>e=.returned (hv (D3b M2a.h 15))/\Below w'.heap.size w' w2):=λw'=>s4b w' _ R5a 15 (by decide)
 have CS:Hid (∀(w':World) cs,V3a w' w'.heap.size cs M2a->Calls Tryz.prog 11 #[.agg cs.toArray,.agg (q0a M2a.h++(zac++zsc)).toArray] w' λe w2=>e=.returned (.bool true)/\Below w'.heap.size w' w2):=λw' cs h=>by have h1:=h2b w' cs (q0a M2a.h++(zac++zsc)) M2a M2a f9a f9a h ⟨zac,zsc,rfl,j2a w' _,R2a w' _⟩ ⟨by decide,by decide⟩ ⟨by decide,by decide⟩;simpa using h1
 have B1:=h8b;have B2:=v5b B5a (I0a R5a);have B3:=v5b B5a (I0a (g3b R5a 15));have N1:=hI (I0a R5a);have N2:=hI (I0a (g3b R5a 15));have O2:=hI (i2a (D3b M2a.h 15));have A1:=hI X8b.1;have A6:=hI X8b.2;have ZM:=hI a9a;have HZ:=hI z3a;have ZH:=hI g8a;have HZH:=hI (I0a o3a);have HLM:Hid (∀(w':World) cs,V3a w' w'.heap.size cs M2a->cs.length=115/\∀v∈cs,v.oneCell'=true):=λw' cs h=>⟨h.len f9a,h.one⟩
 have HM1:Hid ((q0a M2a.h++(zac++zsc)).length=115):=by
  show _=_
  simp only[List.length_append,N1.out,n1b,o1b]
 have HM2:Hid (∀v∈q0a M2a.h++(zac++zsc),v.oneCell'=true):=(show V3a w w.heap.size _ M2a from ⟨zac,zsc,rfl,j2a w _,R2a w _⟩).one;have RH:Hid (∀(w:World) g T,Blk w g T (q0a M2a.h++(zac++zsc))->w.rangeAt g 0 (q0a M2a.h)):=λw g T b=>x6a b
 change Tryz.prog.built _ _=some (q0a M2a.h++(zac++zsc)).toArray at B2
 change Tryz.prog.built _ _=some (q0a (D3b M2a.h 15)++(zac++zsc)).toArray at B3
 have HB:=hI U9a;have HBL:=hI g8b;unfold hv at CA;obtain⟨M1,hM1⟩:∃x,x=q0a M2a.h++(zac++zsc):=⟨_,rfl⟩;rw[<-hM1] at C1 CS B2 HM1 HM2 RH;obtain⟨M2,hM2⟩:∃x,x=q0a (D3b M2a.h 15)++(zac++zsc):=⟨_,rfl⟩;rw[<-hM2] at C4 B3;obtain⟨h1,hh1⟩:∃x,x=q0a M2a.h:=⟨_,rfl⟩;rw[<-hh1] at CA B1 B2 N1 RH;obtain⟨h2,hh2⟩:∃x,x=q0a (D3b M2a.h 15):=⟨_,rfl⟩;rw[<-hh2] at CA B3 N2 O2 A1 A6;obtain⟨bs,hbs⟩:∃x,x=B6a:=⟨_,rfl⟩;rw[<-hbs] at C1 C2 C3 HB HBL;obtain⟨em,hem⟩:∃x,x=M2a:=⟨_,rfl⟩;rw[<-hem] at C2 CS HLM;obtain⟨zm,hzm⟩:∃x,x=L1a:=⟨_,rfl⟩;rw[<-hzm] at ZM HZ;obtain⟨zh,hzh⟩:∃x,x=q0a N1a:=⟨_,rfl⟩;rw[<-hzh] at ZH HZH;clear hM1 hM2 hh1 hh2 hbs hem hzm hzh hT;go_enter Tryz.func12,Tryz.ntmps12;go_wp2_with(first
  | ((with_reducible refine sN 11 ?_);refine x0a rfl _ _ rfl h1 (by refine Eq.trans ?_ B1;kernel_rfl) ?_)
  | ((with_reducible refine sN 12 ?_);refine x0a rfl _ _ rfl M1 (by refine Eq.trans ?_ B2;kernel_rfl) ?_)
  | ((with_reducible refine sN 1 ?_);refine b0a rfl _ rfl zm _ ZM ?_;intro g1 w1 hg1 hg2 Z1 L1)
  | ((with_reducible refine sT 1 ?_);refine e0a rfl _ (.tmp 1) (.tmp 12) rfl g1 rfl _ zm M1 rfl Z1 115 J1a HZ HM1 HM2 ?_;intro w2 X2 P2 hg3;have M2':=hI (c0a L1.out P2.out hg1))
  | ((with_reducible refine sN 14 ?_);refine d0a rfl _ (.tmp 1) rfl g1 rfl _ M1 X2 115 _ Tryz.underlying41 rfl J1a HM1 ?_)
  | fail)
 refine(C1.out w2 (HT.out.below M2'.out)).mono ?_;rintro e w3 ⟨⟨A3,c3,rfl,hh3⟩,L3⟩;have H3:=hI hh3;have hc3:68<=c3:=hh3.fit;have hc4:(68:Int)<=(c3:Int):=by omega
 have X3:=hI (X2.out.over L3);have M3:=hI (step M2'.out L3);clear hh3 L3 C1 Z1 L1 P2 M2' X2;go_wp2_with fail;refine(C2.out w3 A3 c3 H3.out).mono ?_;rintro e w4 ⟨⟨cs,rfl,hcs⟩,L4⟩;have H4:=hI (H3.out.over L4);have X4:=hI (X3.out.over L4);have M4:=hI (step M3.out L4);have K4:=hI hcs;have KL:=hI (HLM.out _ _ hcs).1;have KO:=hI (HLM.out _ _ hcs).2;clear hcs L4 C2 H3 X3 M3;go_wp2_with(first
  | ((with_reducible refine sN 4 ?_);refine b0a rfl _ rfl zm _ ZM ?_;intro g5 w5 hg5 hg6 Z5 L5;have M5:=hI (step M4.out L5.out))
  | ((with_reducible refine sT 4 ?_);refine e0a rfl _ (.tmp 4) (.tmp 21) rfl g5 rfl _ zm cs rfl Z5 115 J1a HZ KL KO ?_;intro w6 X6 P6 hg7;have L6:=hI (c0a L5.out P6.out hg5);have M6:=hI (step M4.out L6.out);have H6:=hI (H4.out.over L6.out);have Y6:=hI (X4.out.over L6.out);have K6:=hI (K4.out.over L6.out))
  | ((with_reducible refine sN 30 ?_);refine K0a rfl _ _ 1 _ rfl Tryz.underlying31 ([.int .u8 0]:List Value) (by kernel_rfl) ?_;intro g7 w7 q3 q4 Y7 L7;have M7:=hI (step M6.out L7.out);have H7:=hI (H6.out.over L7.out);have X7:=hI (Y6.out.over L7.out);have K7:=hI (K6.out.over L7.out);have D7:=hI (X6.out.over L7.out);have HX7:Hid (Holds w7 w7.heap.size (some ⟨g7,0,none⟩) 1 1 [0]):=Holds.of_lit (xs:=[0]) Y7.out (Bytes.of_all (by decide)))
  | ((with_reducible refine sN 31 ?_);refine a8a rfl (.tmp 29) (.tmp 30) rfl w7.heap.size A3 68 c3 bs rfl H7.out w7.heap.size (some ⟨g7,0,none⟩) 1 1 [0] rfl HX7.out (by decide) (by decide) ?_;intro u8 w8 O8 L8)
  | fail)
 obtain⟨A8,c8,rfl,hh8⟩:=O8.out.holds (HB.out.append (Bytes.of_all (by decide))) (by rw[List.length_append,HBL.out];decide);rw[List.length_append,HBL.out] at hh8⊢;have H8:=hI hh8;have M8:=hI (step M7.out L8);have X8:=hI (X7.out.over L8);have K8:=hI (K7.out.over L8);have D8:=hI (D7.out.over L8);clear hh8 L8 O8 M7 X7 K7 D7 H7 HX7 Y7 L7 M6 H6 Y6 K6 L6 X6 P6 Z5 L5 M5 M4 H4 X4 K4;go_wp2_with fail;refine(C3.out w8 A8 c8 H8.out).mono ?_;rintro e w9 ⟨⟨ds,rfl,hd1,hd2⟩,L9⟩;have DL:=hI hd1;have DO:=hI hd2;have M9:=hI (step M8.out L9);have X9:=hI (X8.out.over L9);have K9:=hI (K8.out.over L9);have D9:=hI (D8.out.over L9);clear hd1 hd2 L9 M8 X8 K8 D8 H8 C3;go_wp2_with(first
  | ((with_reducible refine sN 6 ?_);refine b0a rfl _ rfl zm _ ZM ?_;intro g10 w10 hg10 hg11 Z10 L10)
  | ((with_reducible refine sT 6 ?_);refine e0a rfl _ (.tmp 6) (.tmp 33) rfl g10 rfl _ zm ds rfl Z10 115 J1a HZ DL DO ?_;intro w11 X11 P11 hg12;have L11:=hI (c0a L10.out P11.out hg10);have M11:=hI (step M9.out L11.out);have Y11:=hI (X9.out.over L11.out);have K11:=hI (K9.out.over L11.out);have D11:=hI (D9.out.over L11.out))
  | ((with_reducible refine sN 36 ?_);refine p0a rfl _ (.tmp 35) rfl g1 0 rfl h1 _ (hI (RH.out _ _ _ Y11.out)) Tryz.underlying28 rfl 26 E0a N1 ?_)
  | fail)
 refine(CA.out w11).mono ?_;rintro e w12 ⟨rfl,L12⟩;have M12:=hI (step M11.out L12);have Y12:=hI (Y11.out.over L12);have K12:=hI (K11.out.over L12);have D12:=hI (D11.out.over L12);clear L12 M11 Y11 K11 D11 L11 X11 P11 Z10 L10 M9 X9 K9 D9 CA;go_wp2_with(first
  | ((with_reducible refine sN 8 ?_);refine b0a rfl _ rfl zh _ ZH ?_;intro g13 w13 hg13 hg14 Z13 L13)
  | ((with_reducible refine sT 8 ?_);refine e0a rfl _ (.tmp 8) (.tmp 37) rfl g13 rfl _ zh h2 rfl Z13 26 E0a HZH N2 O2 ?_;intro w14 X14 P14 hg15;have L14:=hI (c0a L13.out P14.out hg13);have M14:=hI (step M12.out L14.out);have Y14:=hI (Y12.out.over L14.out);have K14:=hI (K12.out.over L14.out);have D14:=hI (D12.out.over L14.out))
  | ((with_reducible refine sN 39 ?_);refine d0a rfl _ (.tmp 8) rfl g13 rfl _ h2 X14 26 _ Tryz.underlying28 rfl E0a N2 ?_)
  | ((with_reducible refine sN 40 ?_);refine x0a rfl _ _ rfl M2 (by refine Eq.trans ?_ B3;kernel_rfl) ?_)
  | fail)
 refine(C4.out w14 (HT.out.below M14.out)).mono ?_;rintro e w15 ⟨⟨A15,c15,rfl⟩,L15⟩;have M15:=hI (step M14.out L15);have Y15:=hI (Y14.out.over L15);have K15:=hI (K14.out.over L15);have D15:=hI (D14.out.over L15);have X15:=hI (X14.out.over L15);clear L15 M14 Y14 K14 D14 X14 L14 P14 Z13 L13 M12 Y12 K12 D12 C4;go_wp2_with(first
  | ((with_reducible refine sN 56 ?_);refine o0a (by kernel_rfl) _ (.tmp 4) rfl g5 rfl _ cs D15 115 _ Tryz.underlying41 rfl J1a KL ?_)
  | ((with_reducible refine sN 57 ?_);refine o0a (by kernel_rfl) _ (.tmp 1) rfl g1 rfl _ M1 Y15 115 _ Tryz.underlying41 rfl J1a HM1 ?_)
  | fail)
 refine(CS.out w15 cs K15.out).mono ?_;rintro e w16 ⟨rfl,L16⟩;have M16:=hI (step M15.out L16);have d1:w16.cell? ⟨g13,1,none⟩=some (.int .u32 15):=(X15.out.over L16).at A1.out;have d2:w16.cell? ⟨g13,6,none⟩=some (.int .u64 1):=(X15.out.over L16).at A6.out;clear L16 M15 Y15 K15 D15 X15 CS;go_wp2;go_ret;exact⟨rfl,M16.out⟩
theorem i2b(w:World)(cs:List Value)(a:E1a)(k:a.ok)(h:f1a w w.heap.size cs a)(hb:a.data.length<=140737488355328/\a.ents.length<=4398046511103) :
  Calls Tryz.prog 19 #[.agg cs.toArray] w λe w'=>∃cs',e=.returned (.agg cs'.toArray)/\f1a w' w'.heap.size cs' a/\Below w.heap.size w w'/\(o5a w.heap.size cs'[15]?/\o5a w.heap.size cs'[17]?):=by
 obtain⟨hbx,hbl⟩:=hb;have HL:=hI (h.len k);obtain⟨Ax,nx,cx,Al,nl,cl,rfl,hx,hl⟩:=h;have HX:=hI hx;have HLK:=hI hl;have hnx:nx<=140737488355328:=by have:=hx.len;omega
 have E1:Hid ((s0a (.slice Ax nx cx) (.slice Al nl cl) a)[15]? = some (.slice Ax nx cx)):=z0a k 5;have F2:Hid (∀u,(s0a u (.slice Al nl cl) a)[17]? = some (.slice Al nl cl)):=λu=>z0a k 7
 have S1:Hid (∀u,(s0a (.slice Ax nx cx) (.slice Al nl cl) a).set 15 u=s0a u (.slice Al nl cl) a):=λu=>D6b k
 have S2:Hid (∀u t,(s0a u (.slice Al nl cl) a).set 17 t=s0a u t a):=λu t=>E6b k
 have LN:Hid (∀u t,(s0a u t a).length=20):=λu t=>C1a k
 have ON:Hid (∀u t,u.oneCell'=true->t.oneCell'=true->∀x∈s0a u t a,x.oneCell'=true):=λu t h2 h3=>u2a h2 h3
 have J1:Hid (∀u t,(s0a u t a)[15]? = some u):=λu t=>z0a k 5
 have J2:Hid (∀u t,(s0a u t a)[17]? = some t):=λu t=>z0a k 7
 have ZH:=hI I6a;have HZ:Hid ((s0a (.slice none 0 0) (.slice none 0 0) w0a).length=20):=C1a C0a;obtain⟨zs,hzs⟩:∃zs,zs=s0a (.slice none 0 0) (.slice none 0 0) w0a:=⟨_,rfl⟩;rw[<-hzs] at ZH HZ;obtain⟨cs,hcs⟩:∃cs,cs=s0a (.slice Ax nx cx) (.slice Al nl cl) a:=⟨_,rfl⟩;obtain⟨c2,hc2⟩:∃c2:Value->List Value,c2=λu=>s0a u (.slice Al nl cl) a:=⟨_,rfl⟩
 have T1:Hid (∀u,cs.set 15 u=c2 u):=by intro u;rw[hcs,hc2];exact S1.out u
 have T2:Hid (∀u t,(c2 u).set 17 t=s0a u t a):=by intro u t;rw[hc2];exact S2.out u t
 have G2:Hid (∀u,(c2 u)[17]? = some (.slice Al nl cl)):=by intro u;rw[hc2];exact F2.out u
 have N2:Hid (∀u,(c2 u).length=20):=by intro u;rw[hc2];exact LN.out _ _
 rw[<-hcs] at E1 HL⊢;have hll:=hl.len;clear hx hl k hzs hcs hc2 F2 S1 S2;go_enter Tryz.func19,Tryz.ntmps19;go_wp2_with(first
  | ((with_reducible refine sN 1 ?_);refine a0a rfl _ (.tmp 0) rfl cs rfl ?_;intro g w1 hg1 hg2 B1 L1)
  | ((with_reducible refine sN 2 ?_);refine b0a rfl _ rfl zs _ ZH ?_;intro g2 w2 hg3 hg4 Z2 L2;have B2:=hI (B1.out.over L2.out);have L12:=hI (step L1.out L2.out);have g15:=B2.out.at E1.out)
  | fail)
 have hzg:g2≠g:=by have:=B1.out.lt;omega
 have hgw2:=B2.out.lt;have hzw2:=Z2.out.lt;have hs2:=L12.out.size;clear B1 L1 L2;refine(q3b w2 Ax nx cx a.data (HX.out.over L12.out) hnx).mono ?_;rintro e w5 ⟨v5,rfl,O5,L5⟩;have B5:=hI (B2.out.over L5);have Z5:=hI (Z2.out.over L5);have L15:=hI (step L12.out L5);have O5':=hI O5;have hv5:v5.oneCell'=true:=by obtain⟨A1,c1,rfl⟩:=O5.len;rfl
 clear B2 Z2 L12 O5 g15;go_wp2_with(first
  | ((with_reducible refine sT 7 ?_);refine h0a rfl _ (.tmp 7) (.tmp 6) rfl g 15 rfl _ cs v5 rfl B5 (by have:=HL.out;show 15<_;omega) (by kernel_rfl) hv5 ?_;intro w6 B6 P6 hg6;rw[T1.out] at B6;have g17:=B6.out.at (G2.out v5);have L16:Hid (Below w.heap.size w w6):=c0a L15.out P6.out hg1;have hzw6:g2<w6.heap.size:=by (have:=P6.out.size;have:=Z5.out.lt;omega))
  | (at_builtin;refine C4a rfl (.tmp 8) (.tmp 10) J0a 3 (by omega) Y3a W6a _ rfl 37 118 32 Tryz.underlying37 S3b rfl w6.heap.size _ [] rfl (O8a.nil _ _ _ _ _) w.heap.size Al nl cl a.ents rfl (HLK.out.below L16.out) (by simp;omega) (by simp;omega) (Nat.le_refl _) ?_;intro v7 w7 O7 L7;have B7:=hI (B6.out.over L7.out);have hv7:v7.oneCell'=true:=by (obtain⟨A1,n1,c1,hq,_⟩:=O7.out.holds (by omega) Y3a;rw[hq];rfl))
  | ((with_reducible refine sT 12 ?_);refine h0a rfl _ (.tmp 12) (.tmp 11) rfl g 17 rfl _ (c2 v5) v7 rfl B7 (by have:=N2.out v5;show 17<_;omega) (by kernel_rfl) hv7 ?_;intro w8 B8 P8 hg8;rw[T2.out] at B8;have Z8:Hid (Blk w8 g2 39 zs):=((Z5.out.only P6.out hzg).over L7.out).only P8.out hzg)
  | ((with_reducible refine sN 13 ?_);refine d0a rfl _ (.tmp 1) rfl g rfl _ (s0a v5 v7 a) B8 20 _ Tryz.underlying39 rfl v0a (LN.out _ _) ?_)
  | ((with_reducible refine sT 2 ?_);refine e0a rfl _ (.tmp 2) (.tmp 13) rfl g2 rfl _ zs (s0a v5 v7 a) rfl Z8 20 v0a HZ (LN.out _ _) (ON.out _ _ hv5 hv7) ?_;intro w9 Z9 P9 hg9)
  | fail)
 have hg2w:w.heap.size<=g2:=by omega
 have L17:Below w.heap.size w w7:=L16.out.trans (L7.out.mono (by have:=L16.out.size;omega));have L19:Below w.heap.size w w9:=c0a (c0a L17 P8.out hg1) P9.out hg2w;refine bodyPost_ret (v:=.agg (s0a v5 v7 a).toArray) ?_ rfl ⟨s0a v5 v7 a,rfl,?_⟩
 ·exact results_cell_row rfl _ _ g2 _ _ (0,0) _ rfl Z9.out Tryz.underlying39 rfl (by rw[v0a];have:=LN.out v5 v7;simp[this])
 ·have keep:∀i,i≠g->i≠g2->w9.heap[i]? = w7.heap[i]?:=λi h1 h2=>(P9.out.rest i h2).trans (P8.out.rest i h1)
  have X6:Own w6 w2.heap.size v5 a.data:=by
   refine⟨O5'.out.1,?_⟩;rcases O5'.out.2 with h0 | ⟨q,cap,cur,rfl,h1,hq,rest⟩
   ·exact .inl h0
   ·exact .inr ⟨q,cap,cur,rfl,h1,(P6.out.rest q (by omega)).trans hq,rest⟩
  have X7:Own w7 w2.heap.size v5 a.data:=X6.below (L7.out);have X9:Own w9 w2.heap.size v5 a.data:=by
   refine⟨X7.1,?_⟩;rcases X7.2 with h0 | ⟨q,cap,cur,rfl,h1,hq,rest⟩
   ·exact .inl h0
   ·exact .inr ⟨q,cap,cur,rfl,h1,(keep q (by omega) (by omega)).trans hq,rest⟩
  have hgw6:=B6.out.lt;have O7':=O7.out;rw[List.nil_append] at O7';have K9:O8a J0a 3 118 w9 w6.heap.size v7 a.ents:=O7'.keep λi cs hi hcs=>keep i (by
   rcases O7'.2 with⟨h0,_⟩ | ⟨q,cap,cur,h0,h1,_⟩
   ·rw[h0] at hi;cases hi
   ·rw[h0] at hi;simp only[Value.ownBlock,Option.some.injEq] at hi;omega) (by
   rcases O7'.2 with⟨h0,_⟩ | ⟨q,cap,cur,h0,h1,_⟩
   ·rw[h0] at hi;cases hi
   ·rw[h0] at hi;simp only[Value.ownBlock,Option.some.injEq] at hi;omega)
  have u5:=k6a (lo:=w.heap.size) X9 (by omega);have u7:=k6a (lo:=w.heap.size) K9 (by omega);obtain⟨A5,k5,rfl,H5⟩:=X9.holds HX.out.byte (by omega);obtain⟨A7,n7,k7,rfl,H7⟩:=K9.holds (by omega) Y3a;refine⟨⟨A5,_,k5,A7,n7,k7,rfl,H5,H7⟩,L19,?_,?_⟩
  ·rw[J1.out];exact u5
  ·rw[J2.out];exact u7
theorem b1a.onlyUp{w w':World}{lo g:Nat}{ac:List Value}{a:m1a}(k:a.ok)(h:b1a w w.heap.size ac a)(u:o5a lo ac[0]?/\o5a lo ac[61]?/\o5a lo ac[62]?)(hO:p3a g w w')(hg:g<lo):b1a w' w'.heap.size ac a:=by
 obtain⟨Ad,nd,cd,Ax,nx,cx,Al,nl,cl,rfl,h1,h2,h3⟩:=h;obtain⟨u1,u2,u3⟩:=u;rw[show(l0a (.slice Ad nd cd) (.slice Ax nx cx) (.slice Al nl cl) a)[61]? = some (.slice Ax nx cx) from j0a k 12] at u2;rw[show(l0a (.slice Ad nd cd) (.slice Ax nx cx) (.slice Al nl cl) a)[62]? = some (.slice Al nl cl) from j0a k 13] at u3;refine⟨Ad,nd,cd,Ax,nx,cx,Al,nl,cl,rfl,?_,?_,?_⟩
 ·rw[hO.size];exact h1.onlyUp hO (.inr u1) hg
 ·rw[hO.size];exact h2.onlyUp hO (.inr u2) hg
 ·rw[hO.size];exact h3.onlyUp hO (.inr u3) hg
theorem f1a.onlyUp{w w':World}{lo g:Nat}{sc:List Value}{s:E1a}(k:s.ok)(h:f1a w w.heap.size sc s)(u:o5a lo sc[15]?/\o5a lo sc[17]?)(hO:p3a g w w')(hg:g<lo):f1a w' w'.heap.size sc s:=by
 obtain⟨Ax,nx,cx,Al,nl,cl,rfl,h2,h3⟩:=h;obtain⟨u2,u3⟩:=u;rw[show(s0a (.slice Ax nx cx) (.slice Al nl cl) s)[15]? = some (.slice Ax nx cx) from z0a k 5] at u2;rw[show(s0a (.slice Ax nx cx) (.slice Al nl cl) s)[17]? = some (.slice Al nl cl) from z0a k 7] at u3;refine⟨Ax,nx,cx,Al,nl,cl,rfl,?_,?_⟩
 ·rw[hO.size];exact h2.onlyUp hO (.inr u2) hg
 ·rw[hO.size];exact h3.onlyUp hO (.inr u3) hg
theorem h7b(g:Nat)(w:World):(Instr.fieldAt 41 (.pointer (some ⟨g,0,none⟩)) 0).run Tryz.prog w=.ok (.pointer (some ⟨g,0,none⟩)) w:=by go_simp
theorem i7b(g:Nat)(w:World):(Instr.fieldAt 41 (.pointer (some ⟨g,0,none⟩)) 1).run Tryz.prog w=.ok (.pointer (some ⟨g,26,none⟩)) w:=by go_simp
theorem j7b(g:Nat)(w:World):(Instr.fieldAt 41 (.pointer (some ⟨g,0,none⟩)) 2).run Tryz.prog w=.ok (.pointer (some ⟨g,95,none⟩)) w:=by go_simp
theorem j2b{P:Program}{ops:Array Oper}{o:Oper}{a:Act}{w:World}{Q:Exit->Act->World->Prop}{K:Act->World->Prop}{E:Prop}(hg:o.guard=none)(T:TypeId)(parts:Array (Nat×Operand))(ho:o.op=.build T parts)(cs:List Value)
(hf:P.built T (parts.map fun (i,x)=>(i,a.eval x)).toList=some cs.toArray)(h:K (a.put o.dst (.agg cs.toArray)) w):if Region.wanted o (yielded ops a.tmps)=true then Oper.wp P o a w K Q else E:=by
 have hw:Region.wanted o (yielded ops a.tmps)=true:=by simp[Region.wanted,hg]
 rw[if_pos hw];unfold Oper.wp execOp;simp only[ho,Sem.run_bind,run_build w T _ _ hf,Result.andThen_ok];exact h
theorem Y5b(w:World)(cs:List Value)(m:A5a)(k:m.ok)(h:V3a w w.heap.size cs m)(h1:m.a.dial.length<=70368744177663/\m.a.data.length<=140737488355328/\m.a.locks.length<=4398046511103)(h2:m.s.data.length<=140737488355328/\m.s.ents.length<=4398046511103) :
  Calls Tryz.prog 7 #[.agg cs.toArray] w λe w'=>∃ds:List Value,e=.returned (.agg ds.toArray)/\V3a w' w'.heap.size ds m/\Below w.heap.size w w':=by
 have HLL:=hI (h.len k);have H26:=hI (I0a k.h);obtain⟨ac,sc,rfl,ha,hs⟩:=h;have H69:=hI (ha.len k.a);have H20:=hI (hs.len k.s);have HAA:=hI ha;have HSS:=hI hs;have CA:Hid (∀w':World,Below w.heap.size w w'->Calls Tryz.prog 18 #[.agg ac.toArray] w' λe w2=>∃cs',e=.returned (.agg cs'.toArray)/\b1a w2 w2.heap.size cs' m.a/\Below w'.heap.size w' w2/\(o5a w'.heap.size cs'[0]?/\o5a w'.heap.size cs'[61]?/\o5a w'.heap.size cs'[62]?)):=λw' hb=>I1b w' ac m.a k.a (HAA.out.over hb) h1
 have CS:Hid (∀w':World,Below w.heap.size w w'->Calls Tryz.prog 19 #[.agg sc.toArray] w' λe w2=>∃cs',e=.returned (.agg cs'.toArray)/\f1a w2 w2.heap.size cs' m.s/\Below w'.heap.size w' w2/\(o5a w'.heap.size cs'[15]?/\o5a w'.heap.size cs'[17]?)):=λw' hb=>i2b w' sc m.s k.s (HSS.out.over hb) h2
 have BM:Hid (∀ac' sc':List Value,ac'.length=69->sc'.length=20->Tryz.prog.built 41 [(0,.agg (q0a m.h).toArray),(1,.agg ac'.toArray),(2,.agg sc'.toArray)]=some (q0a m.h++(ac'++sc')).toArray):=λac' sc' q1 q2=>u5b B5a H26.out q1 q2
 have HE:Hid (∀(w:World) (ac' sc':List Value),b1a w w.heap.size ac' m.a->f1a w w.heap.size sc' m.s->V3a w w.heap.size (q0a m.h++(ac'++sc')) m/\(q0a m.h++(ac'++sc')).length=115/\∀v∈q0a m.h++(ac'++sc'),v.oneCell'=true):=λw ac' sc' q1 q2=>by have hm:V3a w w.heap.size (q0a m.h++(ac'++sc')) m:=⟨ac',sc',rfl,q1,q2⟩;exact⟨hm,hm.len k,hm.one⟩
 have LA:Hid (∀(w:World) (ac':List Value),b1a w w.heap.size ac' m.a->ac'.length=69):=λw ac' q=>q.len k.a
 have LS:Hid (∀(w:World) (sc':List Value),f1a w w.heap.size sc' m.s->sc'.length=20):=λw sc' q=>q.len k.s
 have OA:Hid (∀(w w':World) (lo g:Nat) (ac':List Value),b1a w w.heap.size ac' m.a->(o5a lo ac'[0]?/\o5a lo ac'[61]?/\o5a lo ac'[62]?)->p3a g w w'->g<lo->b1a w' w'.heap.size ac' m.a):=λw w' lo g ac' q1 q2 q3 q4=>q1.onlyUp k.a q2 q3 q4
 have OS:Hid (∀(w w':World) (lo g:Nat) (sc':List Value),f1a w w.heap.size sc' m.s->(o5a lo sc'[15]?/\o5a lo sc'[17]?)->p3a g w w'->g<lo->f1a w' w'.heap.size sc' m.s):=λw w' lo g sc' q1 q2 q3 q4=>q1.onlyUp k.s q2 q3 q4
 have ZM:=hI a9a;have HZ:=hI z3a;have RH:Hid (∀(w:World) g T,Blk w g T (q0a m.h++(ac++sc))->w.rangeAt g 0 (q0a m.h)):=λw g T b=>x6a b
 have RA:Hid (∀(w:World) g T,Blk w g T (q0a m.h++(ac++sc))->w.rangeAt g 26 ac):=λw g T b=>p5a b H26.out
 have RS:Hid (∀(w:World) g T,Blk w g T (q0a m.h++(ac++sc))->w.rangeAt g 95 sc):=λw g T b=>q5a b H26.out H69.out
 obtain⟨MC,hMC⟩:∃x,x=q0a m.h++(ac++sc):=⟨_,rfl⟩;rw[<-hMC] at HLL RH RA RS⊢;obtain⟨hc,hhc⟩:∃x,x=q0a m.h:=⟨_,rfl⟩;rw[<-hhc] at H26 RH;rw[<-hhc] at BM HE;obtain⟨zm,hzm⟩:∃x,x=L1a:=⟨_,rfl⟩;rw[<-hzm] at ZM HZ;clear hMC hhc hzm ha hs h1 h2 k HAA HSS;go_enter Tryz.func7,Tryz.ntmps7;go_upto_region 1 with(first
  | ((with_reducible refine sN 1 ?_);refine a0a rfl _ (.tmp 0) rfl MC rfl ?_;intro g w1 hg1 hg2 K1 L1)
  | ((with_reducible refine sN 2 ?_);refine b0a rfl _ rfl zm _ ZM ?_;intro g2 w2 hg3 hg4 Z2 L2)
  | fail)
 have K2:=hI (K1.out.over L2.out);have M2:=hI (step L1.out L2.out);have hne:g≠g2:=by have:=K1.out.lt;omega
 have hg2w:w.heap.size<=g2:=by have:=L1.out.size;omega
 clear K1 L1 L2;refine wp_region_held (S:=λw'=>Blk w' g 41 MC) (by kernel_rfl) ?_;change wpAnyH _ _ _ _ _ _ _ _ w2.drew
 have S0:Hid (Blk w2.drew g 41 MC):=K2.out;have Z0:Hid (Blk w2.drew g2 41 zm):=Z2.out;have M0:Hid (Below w.heap.size w w2.drew):=step M2.out (b6a w2 1);obtain⟨w0,hw0⟩:∃x,x=w2.drew:=⟨_,rfl⟩;rw[<-hw0] at S0 Z0 M0⊢;clear hw0 K2 Z2 M2;refine tK 0 (.pointer (some ⟨g,0,none⟩)) rfl (g0a (by kernel_rfl) _ (.tmp 1) 0 rfl (.pointer (some ⟨g,0,none⟩)) (.pointer (some ⟨g,0,none⟩)) (by kernel_rfl) (h7b g)) S0.out ?_;refine tK 1 _ rfl (z2a (by kernel_rfl) _ (.tmp 3) rfl g 0 (by kernel_rfl) hc (λ_ h=>RH.out _ _ _ h) 26 _ Tryz.underlying28 rfl E0a H26) S0.out ?_;refine tK 2 (.pointer (some ⟨g,26,none⟩)) rfl (g0a (by kernel_rfl) _ (.tmp 1) 1 rfl (.pointer (some ⟨g,0,none⟩)) (.pointer (some ⟨g,26,none⟩)) (by kernel_rfl) (i7b g)) S0.out ?_;refine tK 3 _ rfl (z2a (by kernel_rfl) _ (.tmp 5) rfl g 26 (by kernel_rfl) ac (λ_ h=>RA.out _ _ _ h) 69 _ Tryz.underlying34 rfl n0a H69) S0.out ?_;refine tK 5 (.pointer (some ⟨g,95,none⟩)) rfl (g0a (by kernel_rfl) _ (.tmp 1) 2 rfl (.pointer (some ⟨g,0,none⟩)) (.pointer (some ⟨g,95,none⟩)) (by kernel_rfl) (j7b g)) S0.out ?_;refine tK 6 _ rfl (z2a (by kernel_rfl) _ (.tmp 8) rfl g 95 (by kernel_rfl) sc (λ_ h=>RS.out _ _ _ h) 20 _ Tryz.underlying39 rfl v0a H20) S0.out ?_;refine oN 4 _ rfl λK hK=>?_
 go_simp;refine(CA.out w0 M0.out).mono ?_;rintro e wa ⟨ad,rfl,qa,la,ua⟩;refine hK _ _ (S0.out.over la) ?_;clear hK K;have S1:=hI (S0.out.over la);have Z1:=hI (Z0.out.over la);have M1:=hI (step M0.out la);have hz1:=Z0.out.lt;have Qa:=hI qa;have Ua:=hI ua;clear qa ua la S0 Z0 M0;refine oN 7 _ rfl λK hK=>?_
 go_simp;refine(CS.out wa M1.out).mono ?_;rintro e wb ⟨sd,rfl,qs,ls,us⟩;refine hK _ _ (S1.out.over ls) ?_;clear hK K;have S2:=hI (S1.out.over ls);have Z2:=hI (Z1.out.over ls);have M2:=hI (step M1.out ls);have hz2:=Z1.out.lt;have Qs:=hI qs;have Us:=hI us;have Qa':=hI (Qa.out.over ls);clear qs us ls S1 Z1 M1;refine oN 8 _ rfl λK hK=>?_
 refine j2b rfl _ _ rfl (hc++(ad++sd)) (by refine Eq.trans ?_ (BM.out ad sd (LA.out _ _ Qa'.out) (LS.out _ _ Qs.out));kernel_rfl) ?_;refine hK _ _ S2.out ?_;clear hK K;obtain⟨e1,e2,e3⟩:=HE.out _ _ _ Qa'.out Qs.out;have E2:=hI e2;have E3:=hI e3;refine oN 9 _ rfl λK hK=>?_
 refine y1a rfl _ (.tmp 2) (.tmp 11) rfl g2 0 rfl _ zm (hc++(ad++sd)) rfl Z2 115 J1a E2 (hI (by have:=HZ.out;show _<=_;omega)) E3 ?_;intro wc B9 O9 hg9;refine hK _ _ (S2.out.only O9.out hne) ?_;clear hK K;have B9':Hid (Blk wc g2 41 (hc++(ad++sd))):=by have:=B9.out;rw[List.take_zero,List.nil_append,List.drop_of_length_le (by have:=HZ.out;omega),List.append_nil] at this;exact this
 refine dN ?_;go_wp2;refine bodyPost_ret (v:=.agg (hc++(ad++sd)).toArray) ?_ rfl ⟨_,rfl,(HE.out wc ad sd (OA.out _ _ _ g2 _ Qa'.out Ua.out O9.out hz1) (OS.out _ _ _ g2 _ Qs.out Us.out O9.out hz2)).1,c0a M2.out O9.out hg2w⟩;exact results_cell_row rfl _ _ g2 _ _ (0,0) _ rfl B9'.out Tryz.underlying41 rfl (by rw[J1a];have:=E2.out;simp[this])
theorem k7b(t:Int)(s:Nat):le (t*256^s) s=le 0 s:=by
 induction s with
 | zero=>rfl
 | succ s ih=>
  have e:t*256^(s+1)=256*(t*256^s):=by rw[Int.pow_succ,<-Int.mul_assoc,Int.mul_comm]
  simp only[le];rw[e,show 256*(t*256^s)%256=0 from by omega,show 256*(t*256^s)/256=t*256^s from by omega,ih];rfl
theorem i8b(t:Int):le (t*4294967296) 8=le 0 4++le t 4:=by have h:=K4b (t*256^4) 4 4;rw[k7b,show(256:Int)^4=4294967296 from by decide] at h;rw[show(8:Nat)=4+4 from rfl,h,show t*4294967296/4294967296=t from by omega]
theorem u4b(n:Int)(s:Nat)(hs:B2a (s:Int)=true)(h:n<256^s):v2a n (s:Int)=le n s:=by unfold v2a V2a;rw[hs,Int.toNat_natCast,decide_eq_true h];rfl
theorem W5a(w:World)(base:Nat)(v:Value)(xs:List Int)(n:Int)(s:Nat)(h0:0<=n)(h1:n<256^s)(hs:B2a (s:Int)=true)(ho:Own w base v xs)(hxl:xs.length<=1000)(hb:base<=w.heap.size) :
  Calls Tryz.prog 45 #[v,.int .u64 n,.int .i64 (s:Int)] w λe w'=>∃v,e=.returned v/\Own w' base v (xs++le n s)/\Below base w w':=by
 have e:=u4b n s hs h1;have hs8:s<=8:=by rcases F1a hs with h | h | h | h<;>omega
 have e8:(256:Int)^s<=18446744073709551616:=by
  rcases F1a hs with h | h | h | h
  ·obtain rfl:s=1:=by omega
   decide
  ·obtain rfl:s=2:=by omega
   decide
  ·obtain rfl:s=4:=by omega
   decide
  ·obtain rfl:s=8:=by omega
   decide
 have h2:=Y7b w base v xs n (s:Int) ⟨h0,by omega⟩ ho hxl (by rw[e,m0a];exact hs8) (by rw[e];exact F0a _ _) hb;unfold f3b at h2;rw[e] at h2;exact h2
theorem k2b(w:World)(h:Hd)(k:h.ok) :
  Calls Tryz.prog 24 #[hv h] w λe w'=>∃v,e=.returned (.tuple #[v,.int .i64 (m3a h)])/\Own w' w.heap.size v (q4a h)/\Below w.heap.size w w':=by
 have CM:Hid (∀w:World,Calls Tryz.prog 44 #[hv h] w λe w'=>e=.returned (.bool (c8a h))/\Below w.heap.size w w'):=λw=>c7b w h k
 have HL:=hI (I0a k);by_cases hm:c8a h=true
 ·have HQ:Hid (∀(e:Ending) (w':World),(∃v,e=.returned (.tuple #[v,.int .i64 0])/\Own w' w.heap.size v (pre h 11++h.sg)/\Below w.heap.size w w')->∃v,e=.returned (.tuple #[v,.int .i64 (m3a h)])/\Own w' w.heap.size v (q4a h)/\Below w.heap.size w w'):=by intro e w' hh;unfold q4a m3a;rw[if_pos hm,if_pos hm];exact hh
  have CA:Hid (∀w:World,Calls Tryz.prog 46 #[hv h,.int .u32 2] w λe w'=>e=.returned (.bool (h4a h.fl))/\Below w.heap.size w w'):=λw=>C3b w h k
  have e2:(256:Int)^2=65536:=by decide
  have e4:(256:Int)^4=4294967296:=by decide
  have e8:(256:Int)^8=18446744073709551616:=by decide
  have C1:Hid (∀(w:World) (base:Nat) (v:Value) (xs:List Int),Own w base v xs->xs.length<=1000->base<=w.heap.size->Calls Tryz.prog 45 #[v,.int .u64 64,.int .i64 2] w λe w'=>∃v,e=.returned v/\Own w' base v (xs++le 64 2)/\Below base w w'):=λw base v xs ho hx hb=>W5a w base v xs 64 2 (by decide) (by decide) (by decide) ho hx hb
  have C2:Hid (∀(w:World) (base:Nat) (v:Value) (xs:List Int),Own w base v xs->xs.length<=1000->base<=w.heap.size->Calls Tryz.prog 45 #[v,.int .u64 (h.ch),.int .i64 2] w λe w'=>∃v,e=.returned v/\Own w' base v (xs++le (h.ch) 2)/\Below base w w'):=λw base v xs ho hx hb=>W5a w base v xs (h.ch) 2 k.ch.1 (by have:=k.ch;omega) (by decide) ho hx hb
  have C3:Hid (∀(w:World) (base:Nat) (v:Value) (xs:List Int),Own w base v xs->xs.length<=1000->base<=w.heap.size->Calls Tryz.prog 45 #[v,.int .u64 (h.st),.int .i64 4] w λe w'=>∃v,e=.returned v/\Own w' base v (xs++le (h.st) 4)/\Below base w w'):=λw base v xs ho hx hb=>W5a w base v xs (h.st) 4 k.st.1 (by have:=k.st;omega) (by decide) ho hx hb
  have C4:Hid (∀(w:World) (base:Nat) (v:Value) (xs:List Int),Own w base v xs->xs.length<=1000->base<=w.heap.size->Calls Tryz.prog 45 #[v,.int .u64 (h.cm),.int .i64 2] w λe w'=>∃v,e=.returned v/\Own w' base v (xs++le (h.cm) 2)/\Below base w w'):=λw base v xs ho hx hb=>W5a w base v xs (h.cm) 2 k.cm.1 (by have:=k.cm;omega) (by decide) ho hx hb
  have C5:Hid (∀(w:World) (base:Nat) (v:Value) (xs:List Int),Own w base v xs->xs.length<=1000->base<=w.heap.size->Calls Tryz.prog 45 #[v,.int .u64 (h.cr),.int .i64 2] w λe w'=>∃v,e=.returned v/\Own w' base v (xs++le (h.cr) 2)/\Below base w w'):=λw base v xs ho hx hb=>W5a w base v xs (h.cr) 2 k.cr.1 (by have:=k.cr;omega) (by decide) ho hx hb
  have C6:Hid (∀(w:World) (base:Nat) (v:Value) (xs:List Int),Own w base v xs->xs.length<=1000->base<=w.heap.size->Calls Tryz.prog 45 #[v,.int .u64 (h.fl),.int .i64 4] w λe w'=>∃v,e=.returned v/\Own w' base v (xs++le (h.fl) 4)/\Below base w w'):=λw base v xs ho hx hb=>W5a w base v xs (h.fl) 4 k.fl.1 (by have:=k.fl;omega) (by decide) ho hx hb
  have C7:Hid (∀(w:World) (base:Nat) (v:Value) (xs:List Int),Own w base v xs->xs.length<=1000->base<=w.heap.size->Calls Tryz.prog 45 #[v,.int .u64 (h.nx),.int .i64 4] w λe w'=>∃v,e=.returned v/\Own w' base v (xs++le (h.nx) 4)/\Below base w w'):=λw base v xs ho hx hb=>W5a w base v xs (h.nx) 4 k.nx.1 (by have:=k.nx;omega) (by decide) ho hx hb
  have C8:Hid (∀(w:World) (base:Nat) (v:Value) (xs:List Int),Own w base v xs->xs.length<=1000->base<=w.heap.size->Calls Tryz.prog 45 #[v,.int .u64 (h.id),.int .i64 8] w λe w'=>∃v,e=.returned v/\Own w' base v (xs++le (h.id) 8)/\Below base w w'):=λw base v xs ho hx hb=>W5a w base v xs (h.id) 8 k.id.1 (by have:=k.id;omega) (by decide) ho hx hb
  have CS:Hid (∀(w:World) (base:Nat) (v:Value) (xs:List Int),Own w base v xs->xs.length<=1000->base<=w.heap.size->Calls Tryz.prog 45 #[v,.int .u64 (h.asy),.int .i64 8] w λe w'=>∃v,e=.returned v/\Own w' base v (xs++le (h.asy) 8)/\Below base w w'):=λw base v xs ho hx hb=>W5a w base v xs (h.asy) 8 k.asy.1 (by have:=k.asy;omega) (by decide) ho hx hb
  have CZ:Hid (∀(w:World) (base:Nat) (v:Value) (xs:List Int),Own w base v xs->xs.length<=1000->base<=w.heap.size->Calls Tryz.prog 45 #[v,.int .u64 0,.int .i64 4] w λe w'=>∃v,e=.returned v/\Own w' base v (xs++le 0 4)/\Below base w w'):=λw base v xs ho hx hb=>W5a w base v xs 0 4 (by decide) (by decide) (by decide) ho hx hb
  have CT:Hid (∀(w:World) (base:Nat) (v:Value) (xs:List Int),Own w base v xs->xs.length<=1000->base<=w.heap.size->Calls Tryz.prog 45 #[v,.int .u64 (h.tr),.int .i64 4] w λe w'=>∃v,e=.returned v/\Own w' base v (xs++le (h.tr) 4)/\Below base w w'):=λw base v xs ho hx hb=>W5a w base v xs (h.tr) 4 k.tr.1 (by have:=k.tr;omega) (by decide) ho hx hb
  have CE:Hid (∀(w:World) (base:Nat) (v:Value) (xs:List Int),Own w base v xs->xs.length<=1000->base<=w.heap.size->Calls Tryz.prog 45 #[v,.int .u64 (h.se),.int .i64 8] w λe w'=>∃v,e=.returned v/\Own w' base v (xs++le (h.se) 8)/\Below base w w'):=λw base v xs ho hx hb=>W5a w base v xs (h.se) 8 k.se.1 (by have:=k.se;omega) (by decide) ho hx hb
  have P0:Hid (pre h 1=[254,83,77,66]):=by show[]++le 1112364030 4=_;decide
  have P1:Hid (pre h 1++le (64) 2=pre h 2):=rfl;have P2:Hid (pre h 2++le (h.ch) 2=pre h 3):=rfl;have P3:Hid (pre h 3++le (h.st) 4=pre h 4):=rfl;have P4:Hid (pre h 4++le (h.cm) 2=pre h 5):=rfl;have P5:Hid (pre h 5++le (h.cr) 2=pre h 6):=rfl;have P6:Hid (pre h 6++le (h.fl) 4=pre h 7):=rfl;have P7:Hid (pre h 7++le (h.nx) 4=pre h 8):=rfl;have P8:Hid (pre h 8++le (h.id) 8=pre h 9):=rfl;have PS:h4a h.fl=true->pre h 9++le h.asy 8=pre h 10:=λhi=>by rw[show pre h 10=pre h 9++le (aot h) 8 from rfl];unfold aot;rw[if_pos hi]
  have PT:h4a h.fl=false->pre h 9++le 0 4++le h.tr 4=pre h 10:=λhi=>by rw[show pre h 10=pre h 9++le (aot h) 8 from rfl];unfold aot;rw[if_neg (by rw[hi];decide),i8b,List.append_assoc]
  have PE:Hid (pre h 10++le h.se 8=pre h 11):=rfl;have PL:Hid (∀j,j<=11->(pre h j).length<=48):=λj hj=>by rw[c6a h j hj];revert hj;revert j;decide
  have FB:Hid (∀(w:World) (g:Nat),Blk w g 28 (q0a h)->w.cell? ⟨g,0,none⟩=some (.int .u16 h.ch)/\w.cell? ⟨g,1,none⟩=some (.int .u32 h.st)/\w.cell? ⟨g,2,none⟩=some (.int .u16 h.cm)/\w.cell? ⟨g,3,none⟩=some (.int .u16 h.cr)/\
   w.cell? ⟨g,4,none⟩=some (.int .u32 h.fl)/\w.cell? ⟨g,5,none⟩=some (.int .u32 h.nx)/\w.cell? ⟨g,6,none⟩=some (.int .u64 h.id)/\w.cell? ⟨g,7,none⟩=some (.int .u64 h.asy)/\w.cell? ⟨g,8,none⟩=some (.int .u32 h.tr)/\w.cell? ⟨g,9,none⟩=some (.int .u64 h.se)):=
   λw g B=>⟨HB.c0 B,HB.c1 B,HB.c2 B,HB.c3 B,HB.c4 B,HB.c5 B,HB.c6 B,HB.c7 B,HB.c8 B,HB.c9 B⟩
  have FS:Hid (∀(w:World) (g:Nat),Blk w g 28 (q0a h)->∀i,i<16->w.cell? ⟨g,10+i,none⟩=some (.int .u8 (h.sg.getD i 0))):=λw g B i hi=>HB.sgc B (by rw[k.len];exact hi)
  have HSL:=hI k.len;have HSB:=hI k.byte;have bn0:=k.ch;have bn1:=k.st;have bn2:=k.cm;have bn3:=k.cr;have bn4:=k.fl;have bn5:=k.nx;have bn8:=k.tr;obtain⟨n0,hn0⟩:∃n,n=h.ch:=⟨_,rfl⟩;obtain⟨n1,hn1⟩:∃n,n=h.st:=⟨_,rfl⟩;obtain⟨n2,hn2⟩:∃n,n=h.cm:=⟨_,rfl⟩;obtain⟨n3,hn3⟩:∃n,n=h.cr:=⟨_,rfl⟩;obtain⟨n4,hn4⟩:∃n,n=h.fl:=⟨_,rfl⟩;obtain⟨n5,hn5⟩:∃n,n=h.nx:=⟨_,rfl⟩;obtain⟨n6,hn6⟩:∃n,n=h.id:=⟨_,rfl⟩;obtain⟨n7,hn7⟩:∃n,n=h.asy:=⟨_,rfl⟩;obtain⟨n8,hn8⟩:∃n,n=h.tr:=⟨_,rfl⟩;obtain⟨n9,hn9⟩:∃n,n=h.se:=⟨_,rfl⟩;rw[<-hn0] at FB C2 P2 bn0;rw[<-hn1] at FB C3 P3 bn1;rw[<-hn2] at FB C4 P4 bn2;rw[<-hn3] at FB C5 P5 bn3;rw[<-hn4] at FB C6 P6 PS PT CA bn4;rw[<-hn5] at FB C7 P7 bn5;rw[<-hn6] at FB C8 P8;rw[<-hn7] at FB CS PS;rw[<-hn8] at FB CT PT bn8;rw[<-hn9] at FB CE PE;obtain⟨bn00,bn01⟩:=bn0;obtain⟨bn10,bn11⟩:=bn1;obtain⟨bn20,bn21⟩:=bn2;obtain⟨bn30,bn31⟩:=bn3;obtain⟨bn40,bn41⟩:=bn4;obtain⟨bn50,bn51⟩:=bn5;obtain⟨bn80,bn81⟩:=bn8;have zn0:IntKind.u64.wrap n0=n0:=by rw[IntKind.wrap_u64];omega
  have zn1:IntKind.u64.wrap n1=n1:=by rw[IntKind.wrap_u64];omega
  have zn2:IntKind.u64.wrap n2=n2:=by rw[IntKind.wrap_u64];omega
  have zn3:IntKind.u64.wrap n3=n3:=by rw[IntKind.wrap_u64];omega
  have zn4:IntKind.u64.wrap n4=n4:=by rw[IntKind.wrap_u64];omega
  have zn5:IntKind.u64.wrap n5=n5:=by rw[IntKind.wrap_u64];omega
  have zn8:IntKind.u64.wrap n8=n8:=by rw[IntKind.wrap_u64];omega
  obtain⟨q1,hq1⟩:∃q,q=pre h 1:=⟨_,rfl⟩;have hPL:(pre h 1).length<=48/\(pre h 2).length<=48/\(pre h 3).length<=48/\(pre h 4).length<=48/\(pre h 5).length<=48/\(pre h 6).length<=48/\(pre h 7).length<=48/\(pre h 8).length<=48/\(pre h 9).length<=48/\(pre h 10).length<=48/\(pre h 11).length<=48:=⟨PL.out 1 (by omega),PL.out 2 (by omega),PL.out 3 (by omega),PL.out 4 (by omega),PL.out 5 (by omega),PL.out 6 (by omega),PL.out 7 (by omega),PL.out 8 (by omega),PL.out 9 (by omega),PL.out 10 (by omega),PL.out 11 (by omega)⟩
  obtain⟨q2,hq2⟩:∃q,q=pre h 2:=⟨_,rfl⟩;obtain⟨q3,hq3⟩:∃q,q=pre h 3:=⟨_,rfl⟩;obtain⟨q4,hq4⟩:∃q,q=pre h 4:=⟨_,rfl⟩;obtain⟨q5,hq5⟩:∃q,q=pre h 5:=⟨_,rfl⟩;obtain⟨q6,hq6⟩:∃q,q=pre h 6:=⟨_,rfl⟩;obtain⟨q7,hq7⟩:∃q,q=pre h 7:=⟨_,rfl⟩;obtain⟨q8,hq8⟩:∃q,q=pre h 8:=⟨_,rfl⟩;obtain⟨q9,hq9⟩:∃q,q=pre h 9:=⟨_,rfl⟩;obtain⟨q10,hq10⟩:∃q,q=pre h 10:=⟨_,rfl⟩;obtain⟨q11,hq11⟩:∃q,q=pre h 11:=⟨_,rfl⟩;rw[<-hq1] at P0 P1 hPL;rw[<-hq2] at P1 P2 hPL;rw[<-hq3] at P2 P3 hPL;rw[<-hq4] at P3 P4 hPL;rw[<-hq5] at P4 P5 hPL;rw[<-hq6] at P5 P6 hPL;rw[<-hq7] at P6 P7 hPL;rw[<-hq8] at P7 P8 hPL;rw[<-hq9] at P8 PS PT hPL;rw[<-hq10] at PS PT PE hPL;rw[<-hq11] at PE HQ hPL;obtain⟨l1,l2,l3,l4,l5,l6,l7,l8,l9,l10,l11⟩:=hPL;have LQ1:=hI l1;have LQ2:=hI l2;have LQ3:=hI l3;have LQ4:=hI l4;have LQ5:=hI l5;have LQ6:=hI l6;have LQ7:=hI l7;have LQ8:=hI l8;have LQ9:=hI l9;have LQ10:=hI l10;have LQ11:=hI l11;obtain⟨sg,hsg⟩:∃sg,sg=h.sg:=⟨_,rfl⟩;rw[<-hsg] at FS HSL HSB HQ;obtain⟨cs,hcs⟩:∃cs,cs=q0a h:=⟨_,rfl⟩;unfold hv at CM CA⊢;rw[hm] at CM;rw[<-hcs] at CM CA HL FB FS⊢;clear hm k hcs hsg PL l1 l2 l3 l4 l5 l6 l7 l8 l9 l10 l11 e2 e4 e8 hn0 hn1 hn2 hn3 hn4 hn5 hn6 hn7 hn8 hn9 hq1 hq2 hq3 hq4 hq5 hq6 hq7 hq8 hq9 hq10 hq11;go_enter Tryz.func24,Tryz.ntmps24;go_wp2_with(first
   | ((with_reducible refine sN 1 ?_);refine a0a rfl _ (.tmp 0) rfl cs rfl ?_;intro g w1 hg1 hg2 B1 L1)
   | ((with_reducible refine sN 6 ?_);refine d0a rfl _ (.tmp 1) rfl g rfl _ cs B1 26 _ Tryz.underlying28 rfl E0a HL ?_)
   | fail)
  refine(CM.out _).mono ?_;rintro e w2 ⟨rfl,L2⟩;have B2:=hI (B1.out.over L2);have L12:=hI (step L1.out L2);have hgl:=B2.out.lt;clear B1 L1 L2 CM;go_wp2_with(first
   | ((with_reducible refine sN 9 ?_);refine K0a rfl _ _ 4 _ rfl Tryz.underlying31 [.int .u8 254,.int .u8 83,.int .u8 77,.int .u8 66] (by kernel_rfl) ?_;intro gb w3 hb1 hb2 R3 L3)
   | fail)
  have hgw2:=L12.out.size;have O3:Hid (Own w3 gb (.slice (some ⟨gb,0,none⟩) 4 4) q1):=by rw[P0.out];exact Y1a.own (.inr ⟨gb,rfl,Nat.le_refl _,R3.out⟩) rfl (by decide)
  have B3:=hI (B2.out.over L3.out);have L13:=hI (step L12.out L3.out);have hgb:g<gb:=by omega
  have hwb:w.heap.size<=gb:=by omega
  have hS3:gb<=w3.heap.size:=by omega
  clear R3 L3 B2 L12 hgl hgw2 hb1 hb2 P0;go_wp2_with fail;refine(C1.out _ gb _ q1 O3.out (by have:=LQ1.out;omega) hS3).mono ?_;rintro e w4 ⟨v4,rfl,ho,L⟩;rw[P1.out] at ho;have O4:=hI ho;have B4:=hI (B3.out.below L hgb);have L14:=hI (L13.out.trans (L.mono hwb));have hS4:gb<=w4.heap.size:=Nat.le_trans hS3 L.size;clear ho L O3 B3 L13 C1 P1;have gd:=(FB.out _ _ B4.out).1;go_wp2_with fail;refine(C2.out _ gb _ q2 O4.out (by have:=LQ2.out;omega) hS4).mono ?_;rintro e w5 ⟨v5,rfl,ho,L⟩;rw[P2.out] at ho;have O5:=hI ho;have B5:=hI (B4.out.below L hgb);have L15:=hI (L14.out.trans (L.mono hwb));have hS5:gb<=w5.heap.size:=Nat.le_trans hS4 L.size;clear ho L O4 B4 L14 C2 P2;clear gd;have gd:=(FB.out _ _ B5.out).2.1;go_wp2_with fail;refine(C3.out _ gb _ q3 O5.out (by have:=LQ3.out;omega) hS5).mono ?_;rintro e w6 ⟨v6,rfl,ho,L⟩;rw[P3.out] at ho;have O6:=hI ho;have B6:=hI (B5.out.below L hgb);have L16:=hI (L15.out.trans (L.mono hwb));have hS6:gb<=w6.heap.size:=Nat.le_trans hS5 L.size;clear ho L O5 B5 L15 C3 P3;clear gd;have gd:=(FB.out _ _ B6.out).2.2.1;go_wp2_with fail;refine(C4.out _ gb _ q4 O6.out (by have:=LQ4.out;omega) hS6).mono ?_;rintro e w7 ⟨v7,rfl,ho,L⟩;rw[P4.out] at ho;have O7:=hI ho;have B7:=hI (B6.out.below L hgb);have L17:=hI (L16.out.trans (L.mono hwb));have hS7:gb<=w7.heap.size:=Nat.le_trans hS6 L.size;clear ho L O6 B6 L16 C4 P4;clear gd;have gd:=(FB.out _ _ B7.out).2.2.2.1;go_wp2_with fail;refine(C5.out _ gb _ q5 O7.out (by have:=LQ5.out;omega) hS7).mono ?_;rintro e w8 ⟨v8,rfl,ho,L⟩;rw[P5.out] at ho;have O8:=hI ho;have B8:=hI (B7.out.below L hgb);have L18:=hI (L17.out.trans (L.mono hwb));have hS8:gb<=w8.heap.size:=Nat.le_trans hS7 L.size;clear ho L O7 B7 L17 C5 P5;clear gd;have gd:=(FB.out _ _ B8.out).2.2.2.2.1;go_wp2_with fail;refine(C6.out _ gb _ q6 O8.out (by have:=LQ6.out;omega) hS8).mono ?_;rintro e w9 ⟨v9,rfl,ho,L⟩;rw[P6.out] at ho;have O9:=hI ho;have B9:=hI (B8.out.below L hgb);have L19:=hI (L18.out.trans (L.mono hwb));have hS9:gb<=w9.heap.size:=Nat.le_trans hS8 L.size;clear ho L O8 B8 L18 C6 P6;clear gd;have gd:=(FB.out _ _ B9.out).2.2.2.2.2.1;go_wp2_with fail;refine(C7.out _ gb _ q7 O9.out (by have:=LQ7.out;omega) hS9).mono ?_;rintro e w10 ⟨v10,rfl,ho,L⟩;rw[P7.out] at ho;have O10:=hI ho;have B10:=hI (B9.out.below L hgb);have L110:=hI (L19.out.trans (L.mono hwb));have hS10:gb<=w10.heap.size:=Nat.le_trans hS9 L.size;clear ho L O9 B9 L19 C7 P7;clear gd;have gd:=(FB.out _ _ B10.out).2.2.2.2.2.2.1;go_wp2_with fail;refine(C8.out _ gb _ q8 O10.out (by have:=LQ8.out;omega) hS10).mono ?_;rintro e w11 ⟨v11,rfl,ho,L⟩;rw[P8.out] at ho;have O11:=hI ho;have B11:=hI (B10.out.below L hgb);have L111:=hI (L110.out.trans (L.mono hwb));have hS11:gb<=w11.heap.size:=Nat.le_trans hS10 L.size;clear ho L O10 B10 L110 C8 P8;clear gd;by_cases hi:h4a n4=true
  ·have PS':=hI (PS hi);rw[hi] at CA;clear hi PS PT CZ CT;go_wp2_with(first
    | ((with_reducible refine sN 46 ?_);refine d0a rfl _ (.tmp 1) rfl g rfl _ cs B11 26 _ Tryz.underlying28 rfl E0a HL ?_)
    | fail)
   refine(CA.out _).mono ?_;rintro e w12 ⟨rfl,L⟩;have O12:=hI (O11.out.below L);have B12:=hI (B11.out.over L);have L112:=hI (step L111.out L);have hS12:gb<=w12.heap.size:=Nat.le_trans hS11 L.size;clear O11 B11 L111 L CA;have gd:=(FB.out _ _ B12.out).2.2.2.2.2.2.2.1;go_wp2_with fail;refine(CS.out _ gb _ q9 O12.out (by have:=LQ9.out;omega) hS12).mono ?_;rintro e w13 ⟨v13,rfl,ho,L⟩;rw[PS'.out] at ho;have O13:=hI ho;have B13:=hI (B12.out.below L hgb);have L113:=hI (L112.out.trans (L.mono hwb));have hS13:gb<=w13.heap.size:=Nat.le_trans hS12 L.size;clear ho L O12 B12 L112 CS;clear gd;have gd:=(FB.out _ _ B13.out).2.2.2.2.2.2.2.2.2;go_wp2_with fail;refine(CE.out _ gb _ q10 O13.out (by have:=LQ10.out;omega) hS13).mono ?_;rintro e w14 ⟨v14,rfl,ho,L⟩;rw[PE.out] at ho;have O14:=hI ho;have B14:=hI (B13.out.below L hgb);have L114:=hI (L113.out.trans (L.mono hwb));have hS14:gb<=w14.heap.size:=Nat.le_trans hS13 L.size;clear ho L O13 B13 L113 CE;clear gd;go_wp2_with fail;go_loopw [4,5] (λv i wr=>∃k:Nat,k<=16/\i=.int .i64 k/\Hid (Own wr gb v (q11++sg.take k))/\Hid (Blk wr g 28 cs)/\Hid (Below w.heap.size w wr)/\gb<=wr.heap.size) (λ_ i _=>16-(intOf i).toNat)
   case atStart=>exact⟨0,Nat.zero_le _,rfl,by show Own _ _ _ _;simpa using O14.out,B14,L114,hS14⟩
   case round=>
    clear O14 B14 L114 hS14;obtain⟨k,hk,rfl,HO,HB1,HL1,hs⟩:=hrel;by_cases hlt:k<16
    ·have gc:=FS.out _ _ HB1.out k hlt;have hy1:=HSB.out.getD k;have hS:Hid (∀y,y=sg.getD k 0->q11++sg.take k++[y]=q11++sg.take (k+1)):=λy hy=>by have h16:=HSL.out;rw[List.append_assoc,List.take_succ_eq_append_getElem (by omega),hy];simp[show k<sg.length by omega]
     have HLN:Hid ((q11++sg.take k).length<=100):=by
      show _<=_
      have h11:=LQ11.out;rw[List.length_append,List.length_take];omega
     obtain⟨y,hy⟩:∃y,y=sg.getD k 0:=⟨_,rfl⟩;rw[<-hy] at gc hy1;have HY:=hI (hS.out y hy);obtain⟨rs,hrs⟩:∃rs,rs=q11++sg.take k:=⟨_,rfl⟩;rw[<-hrs] at HO HY HLN;have HLM:Hid (rs.length+[y].length<=140737488355328):=by
      show _<=_
      have:=HLN.out;simp;omega
     have HBY:Hid (Bytes [y]):=λx hx=>by rcases List.mem_singleton.1 hx with rfl;exact hy1
     clear hy hrs hS hy1;go_wp2_with(first
      | ((with_reducible refine sN 72 ?_);refine K0a rfl _ _ 1 _ rfl Tryz.underlying31 [.int .u8 y] (by kernel_rfl) ?_;intro gx wx hx1 hx2 RX LX;have HX:Hid (Holds wx wx.heap.size (some ⟨gx,0,none⟩) 1 1 [y]):=Y1a.holds (base:=gx) (xs:=[y]) (.inr ⟨gx,rfl,Nat.le_refl _,RX.out⟩) rfl HBY.out (by decide);have HOX:=hI (HO.out.below LX.out);have hsx:=LX.out.size)
      | (at_builtin;refine D0a rfl (.tmp 67) (.tmp 72) rfl gb _ rs rfl HOX.out _ (some ⟨gx,0,none⟩) 1 1 [y] rfl HX.out HLM.out (by omega) ?_;intro v2 w2 ho2 hb2 hgr))
     rw[HY.out] at ho2;have B2:Hid (Blk w2 g 28 cs):=(HB1.out.over LX.out).below hb2 hgb;have L2:Hid (Below w.heap.size w w2):=(step HL1.out LX.out).trans (hb2.mono hwb);have hs2:=hb2.size;go_roundw
     case rel=>exact⟨k+1,by omega,by go_num,ho2,B2,L2,by omega⟩
     case measure=>simp[intOf];omega
    ·obtain rfl:k=16:=by omega
     have hE:sg.take 16=sg:=List.take_of_length_le (by rw[HSL.out];omega);rw[hE] at HO;clear hE;go_wp2;go_ret2;exact HQ.out _ _ ⟨_,rfl,HO.out.mono hwb,HL1.out⟩
  ·have hi':h4a n4=false:=by simpa using hi
   have PT':=hI (PT hi');rw[hi'] at CA;clear hi hi' PS PT CS;go_wp2_with(first
    | ((with_reducible refine sN 46 ?_);refine d0a rfl _ (.tmp 1) rfl g rfl _ cs B11 26 _ Tryz.underlying28 rfl E0a HL ?_)
    | fail)
   refine(CA.out _).mono ?_;rintro e w12 ⟨rfl,L⟩;have O12:=hI (O11.out.below L);have B12:=hI (B11.out.over L);have L112:=hI (step L111.out L);have hS12:gb<=w12.heap.size:=Nat.le_trans hS11 L.size;clear O11 B11 L111 L CA;go_wp2_with fail;refine(CZ.out _ gb _ q9 O12.out (by have:=LQ9.out;omega) hS12).mono ?_;rintro e w13 ⟨v13,rfl,ho,L⟩;have O13:=hI ho;have B13:=hI (B12.out.below L hgb);have L113:=hI (L112.out.trans (L.mono hwb));have hS13:gb<=w13.heap.size:=Nat.le_trans hS12 L.size;clear ho L O12 B12 L112 CZ;have hr9:(q9++le 0 4).length<=1000:=by have:=LQ9.out;rw[List.length_append,m0a];omega
   obtain⟨r9,hr⟩:∃r9,r9=q9++le 0 4:=⟨_,rfl⟩;rw[<-hr] at O13 PT' hr9;have gd:=(FB.out _ _ B13.out).2.2.2.2.2.2.2.2.1;clear hr;go_wp2_with fail;refine(CT.out _ gb _ r9 O13.out (by exact hr9) hS13).mono ?_;rintro e w14 ⟨v14,rfl,ho,L⟩;rw[PT'.out] at ho;have O14:=hI ho;have B14:=hI (B13.out.below L hgb);have L114:=hI (L113.out.trans (L.mono hwb));have hS14:gb<=w14.heap.size:=Nat.le_trans hS13 L.size;clear ho L O13 B13 L113 CT;clear gd;have gd:=(FB.out _ _ B14.out).2.2.2.2.2.2.2.2.2;go_wp2_with fail;refine(CE.out _ gb _ q10 O14.out (by have:=LQ10.out;omega) hS14).mono ?_;rintro e w15 ⟨v15,rfl,ho,L⟩;rw[PE.out] at ho;have O15:=hI ho;have B15:=hI (B14.out.below L hgb);have L115:=hI (L114.out.trans (L.mono hwb));have hS15:gb<=w15.heap.size:=Nat.le_trans hS14 L.size;clear ho L O14 B14 L114 CE;clear gd;go_wp2_with fail;go_loopw [4,5] (λv i wr=>∃k:Nat,k<=16/\i=.int .i64 k/\Hid (Own wr gb v (q11++sg.take k))/\Hid (Blk wr g 28 cs)/\Hid (Below w.heap.size w wr)/\gb<=wr.heap.size) (λ_ i _=>16-(intOf i).toNat)
   case atStart=>exact⟨0,Nat.zero_le _,rfl,by show Own _ _ _ _;simpa using O15.out,B15,L115,hS15⟩
   case round=>
    clear O15 B15 L115 hS15;obtain⟨k,hk,rfl,HO,HB1,HL1,hs⟩:=hrel;by_cases hlt:k<16
    ·have gc:=FS.out _ _ HB1.out k hlt;have hy1:=HSB.out.getD k;have hS:Hid (∀y,y=sg.getD k 0->q11++sg.take k++[y]=q11++sg.take (k+1)):=λy hy=>by have h16:=HSL.out;rw[List.append_assoc,List.take_succ_eq_append_getElem (by omega),hy];simp[show k<sg.length by omega]
     have HLN:Hid ((q11++sg.take k).length<=100):=by
      show _<=_
      have h11:=LQ11.out;rw[List.length_append,List.length_take];omega
     obtain⟨y,hy⟩:∃y,y=sg.getD k 0:=⟨_,rfl⟩;rw[<-hy] at gc hy1;have HY:=hI (hS.out y hy);obtain⟨rs,hrs⟩:∃rs,rs=q11++sg.take k:=⟨_,rfl⟩;rw[<-hrs] at HO HY HLN;have HLM:Hid (rs.length+[y].length<=140737488355328):=by
      show _<=_
      have:=HLN.out;simp;omega
     have HBY:Hid (Bytes [y]):=λx hx=>by rcases List.mem_singleton.1 hx with rfl;exact hy1
     clear hy hrs hS hy1;go_wp2_with(first
      | ((with_reducible refine sN 72 ?_);refine K0a rfl _ _ 1 _ rfl Tryz.underlying31 [.int .u8 y] (by kernel_rfl) ?_;intro gx wx hx1 hx2 RX LX;have HX:Hid (Holds wx wx.heap.size (some ⟨gx,0,none⟩) 1 1 [y]):=Y1a.holds (base:=gx) (xs:=[y]) (.inr ⟨gx,rfl,Nat.le_refl _,RX.out⟩) rfl HBY.out (by decide);have HOX:=hI (HO.out.below LX.out);have hsx:=LX.out.size)
      | (at_builtin;refine D0a rfl (.tmp 67) (.tmp 72) rfl gb _ rs rfl HOX.out _ (some ⟨gx,0,none⟩) 1 1 [y] rfl HX.out HLM.out (by omega) ?_;intro v2 w2 ho2 hb2 hgr))
     rw[HY.out] at ho2;have B2:Hid (Blk w2 g 28 cs):=(HB1.out.over LX.out).below hb2 hgb;have L2:Hid (Below w.heap.size w w2):=(step HL1.out LX.out).trans (hb2.mono hwb);have hs2:=hb2.size;go_roundw
     case rel=>exact⟨k+1,by omega,by go_num,ho2,B2,L2,by omega⟩
     case measure=>simp[intOf];omega
    ·obtain rfl:k=16:=by omega
     have hE:sg.take 16=sg:=List.take_of_length_le (by rw[HSL.out];omega);rw[hE] at HO;clear hE;go_wp2;go_ret2;exact HQ.out _ _ ⟨_,rfl,HO.out.mono hwb,HL1.out⟩
 ·have hm':c8a h=false:=by simpa using hm
  have HQ:Hid (∀(e:Ending) (w':World),(e=.returned (.tuple #[.slice none 0 0,.int .i64 2])/\Below w.heap.size w w')->∃v,e=.returned (.tuple #[v,.int .i64 (m3a h)])/\Own w' w.heap.size v (q4a h)/\Below w.heap.size w w'):=by rintro e w' ⟨rfl,hb⟩;unfold q4a m3a;rw[if_neg hm,if_neg hm];exact⟨_,rfl,Own.nil _ _,hb⟩
  rw[hm'] at CM;obtain⟨cs,hcs⟩:∃cs,cs=q0a h:=⟨_,rfl⟩;unfold hv at CM⊢;rw[<-hcs] at CM HL⊢;clear hm hm' k hcs;go_enter Tryz.func24,Tryz.ntmps24;go_wp2_with(first
   | ((with_reducible refine sN 1 ?_);refine a0a rfl _ (.tmp 0) rfl cs rfl ?_;intro g w1 hg1 hg2 B1 L1)
   | ((with_reducible refine sN 6 ?_);refine d0a rfl _ (.tmp 1) rfl g rfl _ cs B1 26 _ Tryz.underlying28 rfl E0a HL ?_)
   | fail)
  refine(CM.out _).mono ?_;rintro e w2 ⟨rfl,L2⟩;go_wp2;go_ret2;exact HQ.out _ _ ⟨rfl,step L1.out L2⟩
end Go.Proofs.YtgfflnjggnadpaaGreatDoor
