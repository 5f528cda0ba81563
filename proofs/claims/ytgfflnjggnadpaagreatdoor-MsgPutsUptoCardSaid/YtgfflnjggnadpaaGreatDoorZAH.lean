import Derived.Test.YtgfflnjggnadpaaGreatDoorZAE
import Derived.Test.YtgfflnjggnadpaaGreatDoorZAF
import Derived.Test.YtgfflnjggnadpaaGreatDoorS0
set_option linter.all false
set_option maxHeartbeats 8000000
set_option maxRecDepth 100000
namespace Go.Proofs.YtgfflnjggnadpaaGreatDoor
open Go.RowKit
def N2a(c:Int)(s:E1a):E1a:=if c=0 then { w0a with dia:=s.dia,siz:=s.siz,chal:=s.chal } else w0a
def D3a(c:Int)(s:E1a):Int:=if M0a c=true/\N2a c s=s/\s.siz<4294967296 then 0 else 2
def F0b(c:Int)(s:E1a):List Int:=if D3a c s=0 then (if c=0 then le s.dia 2++le 0 2++le s.siz 4++s.chal else le 0 4) else []
theorem v4b{c:Int}{s:E1a}(k:s.ok):(N2a c s).ok:=by
 unfold N2a;split
 ·exact⟨k.dia,k.siz,k.clen,k.cbyte,C0a.lev,C0a.dur,C0a.made,C0a.file,C0a.kind,C0a.data,C0a.n,C0a.ents⟩
 ·exact C0a
theorem h2a(g:Nat)(i o:Nat)(h:(i=0/\o=0)∨(i=1/\o=1)∨(i=2/\o=2))(w:World):(Instr.fieldAt 39 (.pointer (some ⟨g,0,none⟩)) i).run Tryz.prog w=.ok (.pointer (some ⟨g,o,none⟩)) w:=by rcases h with⟨rfl,rfl⟩ | ⟨rfl,rfl⟩ | ⟨rfl,rfl⟩<;>go_simp
theorem l7b(n:Int)(s:Nat)(hs:B2a (s:Int)=true)(h:n<256^s):v2a n (s:Int)=le n s:=by unfold v2a V2a;rw[hs,Int.toNat_natCast,decide_eq_true h];rfl
theorem n8a(w:World)(base:Nat)(v:Value)(xs:List Int)(n:Int)(s:Nat)(h0:0<=n)(h1:n<256^s)(hs:B2a (s:Int)=true)(ho:Own w base v xs)(hxl:xs.length<=1000000)(hb:base<=w.heap.size) :
  Calls Tryz.prog 94 #[v,.int .u64 n,.int .i64 (s:Int)] w λe w'=>∃v,e=.returned v/\Own w' base v (xs++le n s)/\Below base w w':=by
 have e:=l7b n s hs h1;have hs8:s<=8:=by rcases F1a hs with h | h | h | h<;>omega
 have e8:(256:Int)^s<=18446744073709551616:=by
  rcases F1a hs with h | h | h | h
  ·obtain rfl:s=1:=by omega
   decide
  ·obtain rfl:s=2:=by omega
   decide
  ·obtain rfl:s=4:=by omega
   decide
  ·obtain rfl:s=8:=by omega
   decide
 have h2:=s3b w base v xs n (s:Int) ⟨h0,by omega⟩ ho hxl (by rw[e,m0a];exact hs8) (by rw[e];exact F0a _ _) hb;unfold Y8a at h2;rw[e] at h2;exact h2
def e3a(w:World)(c:Int)(s:E1a)(e:Ending)(w':World):Prop:=∃v,e=.returned (.tuple #[v,.int .i64 (D3a c s)])/\Own w' w.heap.size v (F0b c s)/\Below w.heap.size w w'
theorem h3b(w:World)(cs:List Value)(c:Int)(s:E1a)(hc:0<=c/\c<=65535)(k:s.ok)(hs:f1a w w.heap.size cs s)(hlen:s.data.length<=281474976710656/\s.ents.length<=281474976710656) :
  Calls Tryz.prog 51 #[.int .u16 c,.agg cs.toArray] w (e3a w c s):=by
 have HL:=hI (hs.len k);have ZH:=hI I6a;have HZ:Hid ((s0a (.slice none 0 0) (.slice none 0 0) w0a).length=20):=C1a C0a;have CK:Hid (∀w:World,Calls Tryz.prog 50 #[.int .u16 c] w λe w'=>e=.returned (.bool (M0a c))/\w=w'):=λw=>l7a w c
 have HE:Hid (D3a c s=2->∀e w',(∃v,e=.returned (.tuple #[v,.int .i64 2])/\Own w' w.heap.size v []/\Below w.heap.size w w')->e3a w c s e w'):=by intro h e w' hh;unfold e3a F0b;rw[h,if_neg (by decide)];exact hh
 by_cases hk:M0a c=true;rotate_left
 ·have hk':M0a c=false:=by simpa using hk
  have HQ:=hI (HE.out (by unfold D3a;rw[if_neg (λh=>hk h.1)]));have hc0:(c==0)=false:=by simp only[beq_eq_false_iff_ne];rintro rfl;exact hk (by decide)
  rw[hk'] at CK;obtain⟨zs,hzs⟩:∃zs,zs=s0a (.slice none 0 0) (.slice none 0 0) w0a:=⟨_,rfl⟩;rw[<-hzs] at ZH;clear hk hk' HE hzs hs k;go_enter Tryz.func51,Tryz.ntmps51;go_wp2_with(first
   | ((with_reducible refine sN 3 ?_);refine a0a rfl _ (.tmp 1) rfl cs rfl ?_;intro g w1 hg1 hg2 K1 L1)
   | ((with_reducible refine sN 6 ?_);refine b0a rfl _ rfl zs _ ZH ?_;intro h w2 hg3 hg4 Z2 L2)
   | fail)
  refine(CK.out _).mono ?_;rintro e w' ⟨rfl,rfl⟩;go_wp2;go_ret2;exact HQ.out _ _ ⟨_,rfl,Own.nil _ _,step L1.out L2.out⟩
 rw[hk] at CK;have hkd:=k.dia;have hks:=k.siz;obtain⟨hkd0,hkd1⟩:=hkd;obtain⟨hks0,hks1⟩:=hks;have C0:Hid (∀(w:World) (base:Nat) (v:Value) (xs:List Int),Own w base v xs->xs.length<=1000000->base<=w.heap.size->Calls Tryz.prog 94 #[v,.int .u64 0,.int .i64 4] w λe w'=>∃v,e=.returned v/\Own w' base v (xs++le 0 4)/\Below base w w'):=λw base v xs ho hx hb=>n8a w base v xs 0 4 (by decide) (by decide) (by decide) ho hx hb
 by_cases hc0:c=0;rotate_left
 ·have ew:N2a c s=w0a:=by unfold N2a;rw[if_neg hc0]
  have hcb:(c==0)=false:=by simpa using hc0
  have hcn:(c != 0)=true:=by simpa using hc0
  have CS:Hid (∀w':World,Below w.heap.size w w'->Calls Tryz.prog 27 #[.agg (s0a (.slice none 0 0) (.slice none 0 0) w0a).toArray,.agg cs.toArray] w' λe v=>e=.returned (.bool (decide (w0a=s)))/\Below w'.heap.size w' v):=λw' hb=>P6a w' _ _ _ _ C0a k (R2a w' _) (hs.over hb) ⟨by decide,by decide⟩ hlen
  obtain⟨zs,hzs⟩:∃zs,zs=s0a (.slice none 0 0) (.slice none 0 0) w0a:=⟨_,rfl⟩;rw[<-hzs] at ZH HZ CS;by_cases hz:w0a=s
  ·have hq:D3a c s=0:=by unfold D3a;rw[if_pos ⟨hk,by rw[ew];exact hz,by rw[<-hz];decide⟩]
   have HQ:Hid (∀e w',(∃v,e=.returned (.tuple #[v,.int .i64 0])/\Own w' w.heap.size v (le 0 4)/\Below w.heap.size w w')->e3a w c s e w'):=by intro e w' hh;unfold e3a F0b;rw[hq,if_pos rfl,if_neg hc0];exact hh
   rw[decide_eq_true hz] at CS;have FZ:Hid (∀(w:World) (g:Nat),Blk w g 39 cs->w.cell? ⟨g,1,none⟩=some (.int .u64 0)):=by intro w g h;obtain⟨_,_,_,_,_,_,rfl,_⟩:=hs;rw[<-hz] at h;exact h.at rfl
   clear hk HE hzs hs k ew hq hz hc0 hks0 hks1 hkd0 hkd1;go_enter Tryz.func51,Tryz.ntmps51;go_wp2_with(first
    | ((with_reducible refine sN 3 ?_);refine a0a rfl _ (.tmp 1) rfl cs rfl ?_;intro g w1 hg1 hg2 K1 L1)
    | ((with_reducible refine sN 6 ?_);refine b0a rfl _ rfl zs _ ZH ?_;intro h w2 hg3 hg4 Z2 L2)
    | fail)
   have K2:=hI (K1.out.over L2.out);have L12:=hI (step L1.out L2.out);clear K1 L1 L2;refine(CK.out _).mono ?_;rintro e w' ⟨rfl,rfl⟩;go_wp2_with(first
    | ((with_reducible refine sN 23 ?_);refine o0a (by kernel_rfl) _ (.tmp 6) rfl h rfl _ zs Z2 20 _ Tryz.underlying39 rfl v0a HZ ?_)
    | ((with_reducible refine sN 24 ?_);refine o0a (by kernel_rfl) _ (.tmp 3) rfl g rfl _ cs K2 20 _ Tryz.underlying39 rfl v0a HL ?_)
    | fail)
   refine(CS.out _ L12.out).mono ?_;rintro e w3 ⟨rfl,L3⟩;have gd:=FZ.out _ _ (K2.out.over L3);have L13:=hI (step L12.out L3);clear K2 Z2 L12 L3;go_wp2_with fail;refine(C0.out w3 w.heap.size _ [] (Own.nil _ _) (by simp) L13.out.size).mono ?_;rintro e w4 ⟨v,rfl,ho,L4⟩;go_wp2;go_ret2;exact HQ.out _ _ ⟨_,rfl,by rw[List.nil_append] at ho;exact ho,L13.out.trans L4⟩
  ·have HQ:=hI (HE.out (by unfold D3a;rw[if_neg (λh=>hz (by rw[<-ew];exact h.2.1))]));rw[decide_eq_false hz] at CS;clear hk HE hzs hs k ew hz hc0 hks0 hks1 hkd0 hkd1;go_enter Tryz.func51,Tryz.ntmps51;go_wp2_with(first
    | ((with_reducible refine sN 3 ?_);refine a0a rfl _ (.tmp 1) rfl cs rfl ?_;intro g w1 hg1 hg2 K1 L1)
    | ((with_reducible refine sN 6 ?_);refine b0a rfl _ rfl zs _ ZH ?_;intro h w2 hg3 hg4 Z2 L2)
    | fail)
   have K2:=hI (K1.out.over L2.out);have L12:=hI (step L1.out L2.out);clear K1 L1 L2;refine(CK.out _).mono ?_;rintro e w' ⟨rfl,rfl⟩;go_wp2_with(first
    | ((with_reducible refine sN 23 ?_);refine o0a (by kernel_rfl) _ (.tmp 6) rfl h rfl _ zs Z2 20 _ Tryz.underlying39 rfl v0a HZ ?_)
    | ((with_reducible refine sN 24 ?_);refine o0a (by kernel_rfl) _ (.tmp 3) rfl g rfl _ cs K2 20 _ Tryz.underlying39 rfl v0a HL ?_)
    | fail)
   refine(CS.out _ L12.out).mono ?_;rintro e w3 ⟨rfl,L3⟩;go_wp2;go_ret2;exact HQ.out _ _ ⟨_,rfl,Own.nil _ _,step L12.out L3⟩
 subst hc0;have ew:N2a 0 s={ w0a with dia:=s.dia,siz:=s.siz,chal:=s.chal }:=by unfold N2a;rw[if_pos rfl]
 have kw:=v4b (c:=0) k;have CS:Hid (∀w':World,Below w.heap.size w w'->Calls Tryz.prog 27 #[.agg (s0a (.slice none 0 0) (.slice none 0 0) (N2a 0 s)).toArray,.agg cs.toArray] w' λe v=>e=.returned (.bool (decide (N2a 0 s=s)))/\Below w'.heap.size w' v):=λw' hb=>P6a w' _ _ _ _ kw k ⟨none,0,0,none,0,0,rfl,by rw[ew];exact Holds.nil _ _,by rw[ew];exact T0a.nil _ _ _ _⟩ (hs.over hb) (by rw[ew];exact⟨Nat.zero_le _,Nat.zero_le _⟩) hlen
 have HDS:Hid ((s0a (.slice none 0 0) (.slice none 0 0) (N2a 0 s)).length=20):=C1a kw;have FA:Hid (∀(w:World) (g:Nat),Blk w g 39 cs->w.cell? ⟨g,0,none⟩=some (.int .u16 s.dia)/\w.cell? ⟨g,1,none⟩=some (.int .u64 s.siz)):=by intro w g h;obtain⟨_,_,_,_,_,_,rfl,_⟩:=hs;exact⟨h.at rfl,h.at rfl⟩
 have RA:Hid (∀(w:World) (g:Nat),Blk w g 39 cs->w.rangeAt g 2 (s.chal.map (Value.int .u8))):=by intro w g h;obtain⟨_,_,_,_,_,_,rfl,_⟩:=hs;exact E4a h k
 have HC:Hid (∀(w:World) (g:Nat),Blk w g 39 cs->Holds w w.heap.size (some ⟨g,2,none⟩) 8 8 s.chal):=by
  intro w g h;have hr:=RA.out w g h;refine⟨k.clen,Nat.le_refl _,by decide,k.cbyte,λhA=>(by cases hA),λ_=>⟨g,2,rfl,h.lt,λi hi=>?_⟩⟩;rw[hr i (.int .u8 (s.chal.getD i 0)) (by
   have:i<s.chal.length:=by rw[k.clen];exact hi
   simp[List.getD_eq_getElem?_getD,this])]
 have NC:Hid ((s.chal.map (Value.int .u8)).length=8):=by show _=_;rw[List.length_map];exact k.clen
 have OC:Hid (∀v∈s.chal.map (Value.int .u8),v.oneCell'=true):=λv hv=>v4a hv
 have HCL:=hI k.clen;have E1:Hid ((s0a (.slice none 0 0) (.slice none 0 0) w0a).set 0 (.int .u16 s.dia)=s0a (.slice none 0 0) (.slice none 0 0) { w0a with dia:=s.dia }):=rfl;have E2:Hid ((s0a (.slice none 0 0) (.slice none 0 0) { w0a with dia:=s.dia }).set 1 (.int .u64 s.siz)=s0a (.slice none 0 0) (.slice none 0 0) { w0a with dia:=s.dia,siz:=s.siz }):=rfl;have E3:Hid ((s0a (.slice none 0 0) (.slice none 0 0) { w0a with dia:=s.dia,siz:=s.siz }).take 2++(s.chal.map (Value.int .u8)++(s0a (.slice none 0 0) (.slice none 0 0) { w0a with dia:=s.dia,siz:=s.siz }).drop (2+8))=s0a (.slice none 0 0) (.slice none 0 0) (N2a 0 s)):=by
  show _=_
  rw[ew];rfl
 have HZ1:Hid ((s0a (.slice none 0 0) (.slice none 0 0) { w0a with dia:=s.dia }).length=20):=rfl;have HZ2:Hid ((s0a (.slice none 0 0) (.slice none 0 0) { w0a with dia:=s.dia,siz:=s.siz }).length=20):=rfl;have HQ:Hid (N2a 0 s=s->s.siz<4294967296->∀e w',(∃v,e=.returned (.tuple #[v,.int .i64 0])/\Own w' w.heap.size v (le s.dia 2++le 0 2++le s.siz 4++s.chal)/\Below w.heap.size w w')->e3a w 0 s e w'):=by
  intro h1 h2 e w' hh;have hq:D3a 0 s=0:=by unfold D3a;rw[if_pos ⟨hk,h1,h2⟩]
  unfold e3a F0b;rw[hq,if_pos rfl,if_pos rfl];exact hh
 have HN1:Hid (¬N2a 0 s=s->D3a 0 s=2):=λh=>by unfold D3a;rw[if_neg (λq=>h q.2.1)]
 have HN2:Hid (¬s.siz<4294967296->D3a 0 s=2):=λh=>by unfold D3a;rw[if_neg (λq=>h q.2.2)]
 have D1:Hid (∀(w:World) (base:Nat) (v:Value) (xs:List Int),Own w base v xs->xs.length<=1000000->base<=w.heap.size->Calls Tryz.prog 94 #[v,.int .u64 s.dia,.int .i64 2] w λe w'=>∃v,e=.returned v/\Own w' base v (xs++le s.dia 2)/\Below base w w'):=λw base v xs ho hx hb=>n8a w base v xs s.dia 2 hkd0 (by show s.dia<256^2;rw[show(256:Int)^2=65536 from by decide];omega) (by decide) ho hx hb
 have D2:Hid (∀(w:World) (base:Nat) (v:Value) (xs:List Int),Own w base v xs->xs.length<=1000000->base<=w.heap.size->Calls Tryz.prog 94 #[v,.int .u64 0,.int .i64 2] w λe w'=>∃v,e=.returned v/\Own w' base v (xs++le 0 2)/\Below base w w'):=λw base v xs ho hx hb=>n8a w base v xs 0 2 (by decide) (by decide) (by decide) ho hx hb
 have D3:Hid (s.siz<4294967296->∀(w:World) (base:Nat) (v:Value) (xs:List Int),Own w base v xs->xs.length<=1000000->base<=w.heap.size->Calls Tryz.prog 94 #[v,.int .u64 s.siz,.int .i64 4] w λe w'=>∃v,e=.returned v/\Own w' base v (xs++le s.siz 4)/\Below base w w'):=λhq w base v xs ho hx hb=>n8a w base v xs s.siz 4 hks0 (by show s.siz<256^4;rw[show(256:Int)^4=4294967296 from by decide];exact hq) (by decide) ho hx hb
 have zdia:IntKind.u64.wrap s.dia=s.dia:=by rw[IntKind.wrap_u64];omega
 have ZW:=hI (by trivial:True);obtain⟨bw,hbw⟩:∃bw,bw=decide (N2a 0 s=s):=⟨_,rfl⟩;have HBW:=hI hbw;rw[<-hbw] at CS;obtain⟨dia,hdia⟩:∃x,x=s.dia:=⟨_,rfl⟩;obtain⟨siz,hsiz⟩:∃x,x=s.siz:=⟨_,rfl⟩;obtain⟨chal,hchal⟩:∃x,x=s.chal:=⟨_,rfl⟩;obtain⟨lc,hlc⟩:∃x,x=s.chal.map (Value.int .u8):=⟨_,rfl⟩;obtain⟨zs,hzs⟩:∃x,x=s0a (.slice none 0 0) (.slice none 0 0) w0a:=⟨_,rfl⟩;obtain⟨z1,hz1⟩:∃x,x=s0a (.slice none 0 0) (.slice none 0 0) { w0a with dia:=s.dia }:=⟨_,rfl⟩;obtain⟨z2,hz2⟩:∃x,x=s0a (.slice none 0 0) (.slice none 0 0) { w0a with dia:=s.dia,siz:=s.siz }:=⟨_,rfl⟩;obtain⟨ds,hds⟩:∃x,x=s0a (.slice none 0 0) (.slice none 0 0) (N2a 0 s):=⟨_,rfl⟩;rw[<-hzs] at ZH HZ E1;rw[<-hz1] at E1 E2 HZ1;rw[<-hz2] at E2 E3 HZ2;rw[<-hds] at E3 CS HDS;rw[<-hlc] at RA NC OC E3;rw[<-hdia] at FA E1 HQ D1 zdia hkd0 hkd1;rw[<-hsiz] at FA E2 HQ D3 HN2 hks0 hks1;rw[<-hchal] at HC HQ HCL;clear hbw hdia hsiz hchal hlc hzs hz1 hz2 hds hk hs k kw ew ZW;by_cases hq:siz<4294967296
 ·have D3':=hI (D3.out hq);cases bw
  ·have HQ2:=hI (HE.out (HN1.out (by have:=HBW.out;simpa using this.symm)));go_enter Tryz.func51,Tryz.ntmps51;go_wp2_with(first
    | ((with_reducible refine sN 3 ?_);refine a0a rfl _ (.tmp 1) rfl cs rfl ?_;intro g w1 hg1 hg2 K1 L1)
    | ((with_reducible refine sN 6 ?_);refine b0a rfl _ rfl zs _ ZH ?_;intro h w2 hg3 hg4 Z2 L02;have K2:=hI (K1.out.over L02.out);have L2:=hI (step L1.out L02.out);have hgh:g≠h:=(by omega);have hhw:w.heap.size<=h:=(by have:=L1.out.size;omega))
    | fail)
   go_upto_region 3 with fail
   refine wp_region_held (S:=λw'=>Blk w' g 39 cs) (by kernel_rfl) ?_;change wpAnyH _ _ _ _ _ _ _ _ w2.drew
   have S0:Hid (Blk w2.drew g 39 cs):=K2.out.drew;have b0:Hid (Below w.heap.size w w2.drew):=L2.out.drew;refine tK 0 _ rfl (g0a (by kernel_rfl) _ (.tmp 3) 0 rfl (.pointer (some ⟨g,0,none⟩)) (.pointer (some ⟨g,0,none⟩)) (by kernel_rfl) (h2a g 0 0 (by decide))) S0.out ?_;refine tK 1 _ rfl (i0a (by kernel_rfl) _ (.tmp 10) rfl g 0 (by kernel_rfl) (.int .u16 dia) (λw h=>(FA.out w g h).1) _ Tryz.underlying22 rfl) S0.out ?_;refine tK 2 _ rfl (g0a (by kernel_rfl) _ (.tmp 3) 1 rfl (.pointer (some ⟨g,0,none⟩)) (.pointer (some ⟨g,1,none⟩)) (by kernel_rfl) (h2a g 1 1 (by decide))) S0.out ?_;refine tK 3 _ rfl (i0a (by kernel_rfl) _ (.tmp 12) rfl g 1 (by kernel_rfl) (.int .u64 siz) (λw h=>(FA.out w g h).2) _ Tryz.underlying25 rfl) S0.out ?_;refine tK 4 _ rfl (g0a (by kernel_rfl) _ (.tmp 3) 2 rfl (.pointer (some ⟨g,0,none⟩)) (.pointer (some ⟨g,2,none⟩)) (by kernel_rfl) (h2a g 2 2 (by decide))) S0.out ?_;refine tK 5 _ rfl (yieldsIf_load_mid (by kernel_rfl) _ (.tmp 14) rfl g 2 (by kernel_rfl) lc _ (λw h=>RA.out w g h) Tryz.underlying35 rfl (by rw[d2a,NC.out])) S0.out ?_;have X0:Hid (Blk w2.drew h 39 zs):=Z2.out.drew;refine tK 6 _ rfl (g0a (by kernel_rfl) _ (.tmp 6) 0 rfl (.pointer (some ⟨h,0,none⟩)) (.pointer (some ⟨h,0,none⟩)) (by kernel_rfl) (h2a h 0 0 (by decide))) S0.out ?_;refine y0a λa1 ha1=>?_
   have e1_16:a1.eval (.tmp 16)=.pointer (some ⟨h,0,none⟩):=by rw[ha1];kernel_rfl
   have e1_11:a1.eval (.tmp 11)=.int .u16 dia:=by rw[ha1];kernel_rfl
   refine oN 7 _ rfl λK hK=>?_
   refine A0a rfl 22 (.tmp 16) (.tmp 11) (by kernel_rfl) h 0 e1_16 39 zs (.int .u16 dia) e1_11 X0 (by have:=HZ.out;show 0<_;omega) (by kernel_rfl) rfl ?_;intro v1 X1 P1 q1;rw[E1.out] at X1;have S1:Hid (Blk v1 g 39 cs):=S0.out.only P1.out hgh;have b1:Hid (Below w.heap.size w v1):=c0a b0.out P1.out hhw;refine hK _ _ S1.out ?_;clear hK K P1 q1;change wpAnyH _ _ _ _ _ _ _ a1 v1
   rw[ha1];refine tK 8 _ rfl (g0a (by kernel_rfl) _ (.tmp 6) 1 rfl (.pointer (some ⟨h,0,none⟩)) (.pointer (some ⟨h,1,none⟩)) (by kernel_rfl) (h2a h 1 1 (by decide))) S1.out ?_;refine y0a λa2 ha2=>?_
   have e2_17:a2.eval (.tmp 17)=.pointer (some ⟨h,1,none⟩):=by rw[ha2];kernel_rfl
   have e2_13:a2.eval (.tmp 13)=.int .u64 siz:=by rw[ha2];kernel_rfl
   refine oN 9 _ rfl λK hK=>?_
   refine A0a rfl 25 (.tmp 17) (.tmp 13) (by kernel_rfl) h 1 e2_17 39 z1 (.int .u64 siz) e2_13 X1 (by have:=HZ1.out;show 1<_;omega) (by kernel_rfl) rfl ?_;intro v2 X2 P2 q2;rw[E2.out] at X2;have S2:Hid (Blk v2 g 39 cs):=S1.out.only P2.out hgh;have b2:Hid (Below w.heap.size w v2):=c0a b1.out P2.out hhw;refine hK _ _ S2.out ?_;clear hK K P2 q2;change wpAnyH _ _ _ _ _ _ _ a2 v2
   rw[ha2];refine tK 10 _ rfl (g0a (by kernel_rfl) _ (.tmp 6) 2 rfl (.pointer (some ⟨h,0,none⟩)) (.pointer (some ⟨h,2,none⟩)) (by kernel_rfl) (h2a h 2 2 (by decide))) S2.out ?_;refine y0a λa3 ha3=>?_
   have e3_18:a3.eval (.tmp 18)=.pointer (some ⟨h,2,none⟩):=by rw[ha3];kernel_rfl
   have e3_15:a3.eval (.tmp 15)=.agg lc.toArray:=by rw[ha3];kernel_rfl
   refine oN 11 _ rfl λK hK=>?_
   refine y1a rfl 35 (.tmp 18) (.tmp 15) (by kernel_rfl) h 2 e3_18 39 z2 lc e3_15 X2 8 d2a NC (by have:=HZ2.out;show 2+8<=_;omega) OC ?_;intro v3 X3 P3 q3;rw[E3.out] at X3;have S3:Hid (Blk v3 g 39 cs):=S2.out.only P3.out hgh;have b3:Hid (Below w.heap.size w v3):=c0a b2.out P3.out hhw;refine hK _ _ S3.out ?_;clear hK K P3 q3;change wpAnyH _ _ _ _ _ _ _ a3 v3
   rw[ha3];refine dN ?_;go_wp2_with fail;refine(CK.out _).mono ?_;rintro e w' ⟨rfl,rfl⟩;go_wp2_with(first
    | ((with_reducible refine sN 23 ?_);refine o0a (by kernel_rfl) _ (.tmp 6) rfl h rfl _ ds X3 20 _ Tryz.underlying39 rfl v0a HDS ?_)
    | ((with_reducible refine sN 24 ?_);refine o0a (by kernel_rfl) _ (.tmp 3) rfl g rfl _ cs S3 20 _ Tryz.underlying39 rfl v0a HL ?_)
    | fail)
   refine(CS.out _ b3.out).mono ?_;rintro e w4 ⟨rfl,L4⟩;go_wp2;go_ret2;exact HQ2.out _ _ ⟨_,rfl,Own.nil _ _,step b3.out L4⟩
  ·have HQ2:=hI (HQ.out (by have:=HBW.out;simpa using this.symm) hq);go_enter Tryz.func51,Tryz.ntmps51;go_wp2_with(first
    | ((with_reducible refine sN 3 ?_);refine a0a rfl _ (.tmp 1) rfl cs rfl ?_;intro g w1 hg1 hg2 K1 L1)
    | ((with_reducible refine sN 6 ?_);refine b0a rfl _ rfl zs _ ZH ?_;intro h w2 hg3 hg4 Z2 L02;have K2:=hI (K1.out.over L02.out);have L2:=hI (step L1.out L02.out);have hgh:g≠h:=(by omega);have hhw:w.heap.size<=h:=(by have:=L1.out.size;omega))
    | fail)
   go_upto_region 3 with fail
   refine wp_region_held (S:=λw'=>Blk w' g 39 cs) (by kernel_rfl) ?_;change wpAnyH _ _ _ _ _ _ _ _ w2.drew
   have S0:Hid (Blk w2.drew g 39 cs):=K2.out.drew;have b0:Hid (Below w.heap.size w w2.drew):=L2.out.drew;refine tK 0 _ rfl (g0a (by kernel_rfl) _ (.tmp 3) 0 rfl (.pointer (some ⟨g,0,none⟩)) (.pointer (some ⟨g,0,none⟩)) (by kernel_rfl) (h2a g 0 0 (by decide))) S0.out ?_;refine tK 1 _ rfl (i0a (by kernel_rfl) _ (.tmp 10) rfl g 0 (by kernel_rfl) (.int .u16 dia) (λw h=>(FA.out w g h).1) _ Tryz.underlying22 rfl) S0.out ?_;refine tK 2 _ rfl (g0a (by kernel_rfl) _ (.tmp 3) 1 rfl (.pointer (some ⟨g,0,none⟩)) (.pointer (some ⟨g,1,none⟩)) (by kernel_rfl) (h2a g 1 1 (by decide))) S0.out ?_;refine tK 3 _ rfl (i0a (by kernel_rfl) _ (.tmp 12) rfl g 1 (by kernel_rfl) (.int .u64 siz) (λw h=>(FA.out w g h).2) _ Tryz.underlying25 rfl) S0.out ?_;refine tK 4 _ rfl (g0a (by kernel_rfl) _ (.tmp 3) 2 rfl (.pointer (some ⟨g,0,none⟩)) (.pointer (some ⟨g,2,none⟩)) (by kernel_rfl) (h2a g 2 2 (by decide))) S0.out ?_;refine tK 5 _ rfl (yieldsIf_load_mid (by kernel_rfl) _ (.tmp 14) rfl g 2 (by kernel_rfl) lc _ (λw h=>RA.out w g h) Tryz.underlying35 rfl (by rw[d2a,NC.out])) S0.out ?_;have X0:Hid (Blk w2.drew h 39 zs):=Z2.out.drew;refine tK 6 _ rfl (g0a (by kernel_rfl) _ (.tmp 6) 0 rfl (.pointer (some ⟨h,0,none⟩)) (.pointer (some ⟨h,0,none⟩)) (by kernel_rfl) (h2a h 0 0 (by decide))) S0.out ?_;refine y0a λa1 ha1=>?_
   have e1_16:a1.eval (.tmp 16)=.pointer (some ⟨h,0,none⟩):=by rw[ha1];kernel_rfl
   have e1_11:a1.eval (.tmp 11)=.int .u16 dia:=by rw[ha1];kernel_rfl
   refine oN 7 _ rfl λK hK=>?_
   refine A0a rfl 22 (.tmp 16) (.tmp 11) (by kernel_rfl) h 0 e1_16 39 zs (.int .u16 dia) e1_11 X0 (by have:=HZ.out;show 0<_;omega) (by kernel_rfl) rfl ?_;intro v1 X1 P1 q1;rw[E1.out] at X1;have S1:Hid (Blk v1 g 39 cs):=S0.out.only P1.out hgh;have b1:Hid (Below w.heap.size w v1):=c0a b0.out P1.out hhw;refine hK _ _ S1.out ?_;clear hK K P1 q1;change wpAnyH _ _ _ _ _ _ _ a1 v1
   rw[ha1];refine tK 8 _ rfl (g0a (by kernel_rfl) _ (.tmp 6) 1 rfl (.pointer (some ⟨h,0,none⟩)) (.pointer (some ⟨h,1,none⟩)) (by kernel_rfl) (h2a h 1 1 (by decide))) S1.out ?_;refine y0a λa2 ha2=>?_
   have e2_17:a2.eval (.tmp 17)=.pointer (some ⟨h,1,none⟩):=by rw[ha2];kernel_rfl
   have e2_13:a2.eval (.tmp 13)=.int .u64 siz:=by rw[ha2];kernel_rfl
   refine oN 9 _ rfl λK hK=>?_
   refine A0a rfl 25 (.tmp 17) (.tmp 13) (by kernel_rfl) h 1 e2_17 39 z1 (.int .u64 siz) e2_13 X1 (by have:=HZ1.out;show 1<_;omega) (by kernel_rfl) rfl ?_;intro v2 X2 P2 q2;rw[E2.out] at X2;have S2:Hid (Blk v2 g 39 cs):=S1.out.only P2.out hgh;have b2:Hid (Below w.heap.size w v2):=c0a b1.out P2.out hhw;refine hK _ _ S2.out ?_;clear hK K P2 q2;change wpAnyH _ _ _ _ _ _ _ a2 v2
   rw[ha2];refine tK 10 _ rfl (g0a (by kernel_rfl) _ (.tmp 6) 2 rfl (.pointer (some ⟨h,0,none⟩)) (.pointer (some ⟨h,2,none⟩)) (by kernel_rfl) (h2a h 2 2 (by decide))) S2.out ?_;refine y0a λa3 ha3=>?_
   have e3_18:a3.eval (.tmp 18)=.pointer (some ⟨h,2,none⟩):=by rw[ha3];kernel_rfl
   have e3_15:a3.eval (.tmp 15)=.agg lc.toArray:=by rw[ha3];kernel_rfl
   refine oN 11 _ rfl λK hK=>?_
   refine y1a rfl 35 (.tmp 18) (.tmp 15) (by kernel_rfl) h 2 e3_18 39 z2 lc e3_15 X2 8 d2a NC (by have:=HZ2.out;show 2+8<=_;omega) OC ?_;intro v3 X3 P3 q3;rw[E3.out] at X3;have S3:Hid (Blk v3 g 39 cs):=S2.out.only P3.out hgh;have b3:Hid (Below w.heap.size w v3):=c0a b2.out P3.out hhw;refine hK _ _ S3.out ?_;clear hK K P3 q3;change wpAnyH _ _ _ _ _ _ _ a3 v3
   rw[ha3];refine dN ?_;go_wp2_with fail;refine(CK.out _).mono ?_;rintro e w' ⟨rfl,rfl⟩;go_wp2_with(first
    | ((with_reducible refine sN 23 ?_);refine o0a (by kernel_rfl) _ (.tmp 6) rfl h rfl _ ds X3 20 _ Tryz.underlying39 rfl v0a HDS ?_)
    | ((with_reducible refine sN 24 ?_);refine o0a (by kernel_rfl) _ (.tmp 3) rfl g rfl _ cs S3 20 _ Tryz.underlying39 rfl v0a HL ?_)
    | fail)
   refine(CS.out _ b3.out).mono ?_;rintro e w4 ⟨rfl,L4⟩;have K4:=hI (S3.out.over L4);have L04:=hI (step b3.out L4);obtain⟨gd0,gd1⟩:=FA.out _ _ K4.out;have hgw:g<w4.heap.size:=K4.out.lt;have hs4:=L04.out.size;clear S3 b3 L4 X3;go_wp2_with fail;refine(D1.out w4 w4.heap.size _ [] (Own.nil _ _) (by simp) (Nat.le_refl _)).mono ?_;rintro e w5 ⟨v5,rfl,ho5,L5⟩;rw[List.nil_append] at ho5;have HO5:=hI ho5;have M5:=hI L5;have hs5:=L5.size;clear ho5 L5;go_wp2_with fail;refine(D2.out w5 w4.heap.size _ _ HO5.out (by rw[m0a];omega) hs5).mono ?_;rintro e w6 ⟨v6,rfl,ho6,L6⟩;have HO6:=hI ho6;have M6:=hI (M5.out.trans L6);have hs6:=M6.out.size;obtain⟨gd6,gd7⟩:=FA.out _ _ (K4.out.below M6.out hgw);clear ho6 L6 M5 HO5;go_wp2_with fail;refine(D3'.out w6 w4.heap.size _ _ HO6.out (by rw[List.length_append,m0a,m0a];omega) hs6).mono ?_;rintro e w7 ⟨v7,rfl,ho7,L7⟩;have M7:=hI (M6.out.trans L7);have HC7:=hI (HC.out _ _ (K4.out.below M7.out hgw));have hs7:=M7.out.size;have hl7:(le dia 2++le 0 2++le siz 4).length=8:=by simp only[List.length_append,m0a]
   obtain⟨xs,hxs⟩:∃xs,xs=le dia 2++le 0 2++le siz 4:=⟨_,rfl⟩;rw[<-hxs] at ho7 hl7 HQ2;have HO7:=hI ho7;have HLEN:Hid (xs.length+chal.length<=140737488355328):=by have:=HCL.out;show _<=_;omega
   clear ho7 L7 M6 HO6 hxs gd0 gd1 gd6 gd7;go_wp2_with(first
    | (at_builtin;refine D0a rfl (.tmp 48) (.tmp 50) rfl w4.heap.size _ xs rfl HO7.out w7.heap.size (some ⟨g,2,none⟩) 8 8 chal rfl HC7.out HLEN.out hs7 ?_;intro v8 w8 ho8 hb8 hgr)
    | fail)
   go_ret2;exact HQ2.out _ _ ⟨_,rfl,ho8.out.mono hs4,L04.out.trans ((M7.out.trans hb8).mono hs4)⟩
 ·have HQ2:=hI (HE.out (HN2.out hq));cases bw
  ·go_enter Tryz.func51,Tryz.ntmps51;go_wp2_with(first
    | ((with_reducible refine sN 3 ?_);refine a0a rfl _ (.tmp 1) rfl cs rfl ?_;intro g w1 hg1 hg2 K1 L1)
    | ((with_reducible refine sN 6 ?_);refine b0a rfl _ rfl zs _ ZH ?_;intro h w2 hg3 hg4 Z2 L02;have K2:=hI (K1.out.over L02.out);have L2:=hI (step L1.out L02.out);have hgh:g≠h:=(by omega);have hhw:w.heap.size<=h:=(by have:=L1.out.size;omega))
    | fail)
   go_upto_region 3 with fail
   refine wp_region_held (S:=λw'=>Blk w' g 39 cs) (by kernel_rfl) ?_;change wpAnyH _ _ _ _ _ _ _ _ w2.drew
   have S0:Hid (Blk w2.drew g 39 cs):=K2.out.drew;have b0:Hid (Below w.heap.size w w2.drew):=L2.out.drew;refine tK 0 _ rfl (g0a (by kernel_rfl) _ (.tmp 3) 0 rfl (.pointer (some ⟨g,0,none⟩)) (.pointer (some ⟨g,0,none⟩)) (by kernel_rfl) (h2a g 0 0 (by decide))) S0.out ?_;refine tK 1 _ rfl (i0a (by kernel_rfl) _ (.tmp 10) rfl g 0 (by kernel_rfl) (.int .u16 dia) (λw h=>(FA.out w g h).1) _ Tryz.underlying22 rfl) S0.out ?_;refine tK 2 _ rfl (g0a (by kernel_rfl) _ (.tmp 3) 1 rfl (.pointer (some ⟨g,0,none⟩)) (.pointer (some ⟨g,1,none⟩)) (by kernel_rfl) (h2a g 1 1 (by decide))) S0.out ?_;refine tK 3 _ rfl (i0a (by kernel_rfl) _ (.tmp 12) rfl g 1 (by kernel_rfl) (.int .u64 siz) (λw h=>(FA.out w g h).2) _ Tryz.underlying25 rfl) S0.out ?_;refine tK 4 _ rfl (g0a (by kernel_rfl) _ (.tmp 3) 2 rfl (.pointer (some ⟨g,0,none⟩)) (.pointer (some ⟨g,2,none⟩)) (by kernel_rfl) (h2a g 2 2 (by decide))) S0.out ?_;refine tK 5 _ rfl (yieldsIf_load_mid (by kernel_rfl) _ (.tmp 14) rfl g 2 (by kernel_rfl) lc _ (λw h=>RA.out w g h) Tryz.underlying35 rfl (by rw[d2a,NC.out])) S0.out ?_;have X0:Hid (Blk w2.drew h 39 zs):=Z2.out.drew;refine tK 6 _ rfl (g0a (by kernel_rfl) _ (.tmp 6) 0 rfl (.pointer (some ⟨h,0,none⟩)) (.pointer (some ⟨h,0,none⟩)) (by kernel_rfl) (h2a h 0 0 (by decide))) S0.out ?_;refine y0a λa1 ha1=>?_
   have e1_16:a1.eval (.tmp 16)=.pointer (some ⟨h,0,none⟩):=by rw[ha1];kernel_rfl
   have e1_11:a1.eval (.tmp 11)=.int .u16 dia:=by rw[ha1];kernel_rfl
   refine oN 7 _ rfl λK hK=>?_
   refine A0a rfl 22 (.tmp 16) (.tmp 11) (by kernel_rfl) h 0 e1_16 39 zs (.int .u16 dia) e1_11 X0 (by have:=HZ.out;show 0<_;omega) (by kernel_rfl) rfl ?_;intro v1 X1 P1 q1;rw[E1.out] at X1;have S1:Hid (Blk v1 g 39 cs):=S0.out.only P1.out hgh;have b1:Hid (Below w.heap.size w v1):=c0a b0.out P1.out hhw;refine hK _ _ S1.out ?_;clear hK K P1 q1;change wpAnyH _ _ _ _ _ _ _ a1 v1
   rw[ha1];refine tK 8 _ rfl (g0a (by kernel_rfl) _ (.tmp 6) 1 rfl (.pointer (some ⟨h,0,none⟩)) (.pointer (some ⟨h,1,none⟩)) (by kernel_rfl) (h2a h 1 1 (by decide))) S1.out ?_;refine y0a λa2 ha2=>?_
   have e2_17:a2.eval (.tmp 17)=.pointer (some ⟨h,1,none⟩):=by rw[ha2];kernel_rfl
   have e2_13:a2.eval (.tmp 13)=.int .u64 siz:=by rw[ha2];kernel_rfl
   refine oN 9 _ rfl λK hK=>?_
   refine A0a rfl 25 (.tmp 17) (.tmp 13) (by kernel_rfl) h 1 e2_17 39 z1 (.int .u64 siz) e2_13 X1 (by have:=HZ1.out;show 1<_;omega) (by kernel_rfl) rfl ?_;intro v2 X2 P2 q2;rw[E2.out] at X2;have S2:Hid (Blk v2 g 39 cs):=S1.out.only P2.out hgh;have b2:Hid (Below w.heap.size w v2):=c0a b1.out P2.out hhw;refine hK _ _ S2.out ?_;clear hK K P2 q2;change wpAnyH _ _ _ _ _ _ _ a2 v2
   rw[ha2];refine tK 10 _ rfl (g0a (by kernel_rfl) _ (.tmp 6) 2 rfl (.pointer (some ⟨h,0,none⟩)) (.pointer (some ⟨h,2,none⟩)) (by kernel_rfl) (h2a h 2 2 (by decide))) S2.out ?_;refine y0a λa3 ha3=>?_
   have e3_18:a3.eval (.tmp 18)=.pointer (some ⟨h,2,none⟩):=by rw[ha3];kernel_rfl
   have e3_15:a3.eval (.tmp 15)=.agg lc.toArray:=by rw[ha3];kernel_rfl
   refine oN 11 _ rfl λK hK=>?_
   refine y1a rfl 35 (.tmp 18) (.tmp 15) (by kernel_rfl) h 2 e3_18 39 z2 lc e3_15 X2 8 d2a NC (by have:=HZ2.out;show 2+8<=_;omega) OC ?_;intro v3 X3 P3 q3;rw[E3.out] at X3;have S3:Hid (Blk v3 g 39 cs):=S2.out.only P3.out hgh;have b3:Hid (Below w.heap.size w v3):=c0a b2.out P3.out hhw;refine hK _ _ S3.out ?_;clear hK K P3 q3;change wpAnyH _ _ _ _ _ _ _ a3 v3
   rw[ha3];refine dN ?_;go_wp2_with fail;refine(CK.out _).mono ?_;rintro e w' ⟨rfl,rfl⟩;go_wp2_with(first
    | ((with_reducible refine sN 23 ?_);refine o0a (by kernel_rfl) _ (.tmp 6) rfl h rfl _ ds X3 20 _ Tryz.underlying39 rfl v0a HDS ?_)
    | ((with_reducible refine sN 24 ?_);refine o0a (by kernel_rfl) _ (.tmp 3) rfl g rfl _ cs S3 20 _ Tryz.underlying39 rfl v0a HL ?_)
    | fail)
   refine(CS.out _ b3.out).mono ?_;rintro e w4 ⟨rfl,L4⟩;go_wp2;go_ret2;exact HQ2.out _ _ ⟨_,rfl,Own.nil _ _,step b3.out L4⟩
  ·go_enter Tryz.func51,Tryz.ntmps51;go_wp2_with(first
    | ((with_reducible refine sN 3 ?_);refine a0a rfl _ (.tmp 1) rfl cs rfl ?_;intro g w1 hg1 hg2 K1 L1)
    | ((with_reducible refine sN 6 ?_);refine b0a rfl _ rfl zs _ ZH ?_;intro h w2 hg3 hg4 Z2 L02;have K2:=hI (K1.out.over L02.out);have L2:=hI (step L1.out L02.out);have hgh:g≠h:=(by omega);have hhw:w.heap.size<=h:=(by have:=L1.out.size;omega))
    | fail)
   go_upto_region 3 with fail
   refine wp_region_held (S:=λw'=>Blk w' g 39 cs) (by kernel_rfl) ?_;change wpAnyH _ _ _ _ _ _ _ _ w2.drew
   have S0:Hid (Blk w2.drew g 39 cs):=K2.out.drew;have b0:Hid (Below w.heap.size w w2.drew):=L2.out.drew;refine tK 0 _ rfl (g0a (by kernel_rfl) _ (.tmp 3) 0 rfl (.pointer (some ⟨g,0,none⟩)) (.pointer (some ⟨g,0,none⟩)) (by kernel_rfl) (h2a g 0 0 (by decide))) S0.out ?_;refine tK 1 _ rfl (i0a (by kernel_rfl) _ (.tmp 10) rfl g 0 (by kernel_rfl) (.int .u16 dia) (λw h=>(FA.out w g h).1) _ Tryz.underlying22 rfl) S0.out ?_;refine tK 2 _ rfl (g0a (by kernel_rfl) _ (.tmp 3) 1 rfl (.pointer (some ⟨g,0,none⟩)) (.pointer (some ⟨g,1,none⟩)) (by kernel_rfl) (h2a g 1 1 (by decide))) S0.out ?_;refine tK 3 _ rfl (i0a (by kernel_rfl) _ (.tmp 12) rfl g 1 (by kernel_rfl) (.int .u64 siz) (λw h=>(FA.out w g h).2) _ Tryz.underlying25 rfl) S0.out ?_;refine tK 4 _ rfl (g0a (by kernel_rfl) _ (.tmp 3) 2 rfl (.pointer (some ⟨g,0,none⟩)) (.pointer (some ⟨g,2,none⟩)) (by kernel_rfl) (h2a g 2 2 (by decide))) S0.out ?_;refine tK 5 _ rfl (yieldsIf_load_mid (by kernel_rfl) _ (.tmp 14) rfl g 2 (by kernel_rfl) lc _ (λw h=>RA.out w g h) Tryz.underlying35 rfl (by rw[d2a,NC.out])) S0.out ?_;have X0:Hid (Blk w2.drew h 39 zs):=Z2.out.drew;refine tK 6 _ rfl (g0a (by kernel_rfl) _ (.tmp 6) 0 rfl (.pointer (some ⟨h,0,none⟩)) (.pointer (some ⟨h,0,none⟩)) (by kernel_rfl) (h2a h 0 0 (by decide))) S0.out ?_;refine y0a λa1 ha1=>?_
   have e1_16:a1.eval (.tmp 16)=.pointer (some ⟨h,0,none⟩):=by rw[ha1];kernel_rfl
   have e1_11:a1.eval (.tmp 11)=.int .u16 dia:=by rw[ha1];kernel_rfl
   refine oN 7 _ rfl λK hK=>?_
   refine A0a rfl 22 (.tmp 16) (.tmp 11) (by kernel_rfl) h 0 e1_16 39 zs (.int .u16 dia) e1_11 X0 (by have:=HZ.out;show 0<_;omega) (by kernel_rfl) rfl ?_;intro v1 X1 P1 q1;rw[E1.out] at X1;have S1:Hid (Blk v1 g 39 cs):=S0.out.only P1.out hgh;have b1:Hid (Below w.heap.size w v1):=c0a b0.out P1.out hhw;refine hK _ _ S1.out ?_;clear hK K P1 q1;change wpAnyH _ _ _ _ _ _ _ a1 v1
   rw[ha1];refine tK 8 _ rfl (g0a (by kernel_rfl) _ (.tmp 6) 1 rfl (.pointer (some ⟨h,0,none⟩)) (.pointer (some ⟨h,1,none⟩)) (by kernel_rfl) (h2a h 1 1 (by decide))) S1.out ?_;refine y0a λa2 ha2=>?_
   have e2_17:a2.eval (.tmp 17)=.pointer (some ⟨h,1,none⟩):=by rw[ha2];kernel_rfl
   have e2_13:a2.eval (.tmp 13)=.int .u64 siz:=by rw[ha2];kernel_rfl
   refine oN 9 _ rfl λK hK=>?_
   refine A0a rfl 25 (.tmp 17) (.tmp 13) (by kernel_rfl) h 1 e2_17 39 z1 (.int .u64 siz) e2_13 X1 (by have:=HZ1.out;show 1<_;omega) (by kernel_rfl) rfl ?_;intro v2 X2 P2 q2;rw[E2.out] at X2;have S2:Hid (Blk v2 g 39 cs):=S1.out.only P2.out hgh;have b2:Hid (Below w.heap.size w v2):=c0a b1.out P2.out hhw;refine hK _ _ S2.out ?_;clear hK K P2 q2;change wpAnyH _ _ _ _ _ _ _ a2 v2
   rw[ha2];refine tK 10 _ rfl (g0a (by kernel_rfl) _ (.tmp 6) 2 rfl (.pointer (some ⟨h,0,none⟩)) (.pointer (some ⟨h,2,none⟩)) (by kernel_rfl) (h2a h 2 2 (by decide))) S2.out ?_;refine y0a λa3 ha3=>?_
   have e3_18:a3.eval (.tmp 18)=.pointer (some ⟨h,2,none⟩):=by rw[ha3];kernel_rfl
   have e3_15:a3.eval (.tmp 15)=.agg lc.toArray:=by rw[ha3];kernel_rfl
   refine oN 11 _ rfl λK hK=>?_
   refine y1a rfl 35 (.tmp 18) (.tmp 15) (by kernel_rfl) h 2 e3_18 39 z2 lc e3_15 X2 8 d2a NC (by have:=HZ2.out;show 2+8<=_;omega) OC ?_;intro v3 X3 P3 q3;rw[E3.out] at X3;have S3:Hid (Blk v3 g 39 cs):=S2.out.only P3.out hgh;have b3:Hid (Below w.heap.size w v3):=c0a b2.out P3.out hhw;refine hK _ _ S3.out ?_;clear hK K P3 q3;change wpAnyH _ _ _ _ _ _ _ a3 v3
   rw[ha3];refine dN ?_;go_wp2_with fail;refine(CK.out _).mono ?_;rintro e w' ⟨rfl,rfl⟩;go_wp2_with(first
    | ((with_reducible refine sN 23 ?_);refine o0a (by kernel_rfl) _ (.tmp 6) rfl h rfl _ ds X3 20 _ Tryz.underlying39 rfl v0a HDS ?_)
    | ((with_reducible refine sN 24 ?_);refine o0a (by kernel_rfl) _ (.tmp 3) rfl g rfl _ cs S3 20 _ Tryz.underlying39 rfl v0a HL ?_)
    | fail)
   refine(CS.out _ b3.out).mono ?_;rintro e w4 ⟨rfl,L4⟩;have K4:=hI (S3.out.over L4);obtain⟨gd0,gd1⟩:=FA.out _ _ K4.out;go_wp2;go_ret2;exact HQ2.out _ _ ⟨_,rfl,Own.nil _ _,step b3.out L4⟩
set_option maxRecDepth 100000
def p4a(c:Int)(a:m1a):m1a:=if c=0 then { k0a with dial:=a.dial,guid:=a.guid } else if c=1 then { k0a with proof:=a.proof,user:=a.user } else if c=3 then { k0a with share:=a.share } else k0a
theorem Q6a{c:Int}{a:m1a}(k:a.ok):(p4a c a).ok:=by
 unfold p4a;split
 ·exact⟨k.dial,k.glen,k.gbyte,f0a.plen,f0a.pbyte,f0a.acc,f0a.shr,f0a.way,f0a.opt,f0a.lev,f0a.dur,f0a.file,f0a.at_,f0a.n,f0a.data,f0a.locks,f0a.most,f0a.cls,f0a.siz⟩
 ·split
  ·exact⟨f0a.dial,f0a.glen,f0a.gbyte,k.plen,k.pbyte,f0a.acc,f0a.shr,f0a.way,f0a.opt,f0a.lev,f0a.dur,f0a.file,f0a.at_,f0a.n,f0a.data,f0a.locks,f0a.most,f0a.cls,f0a.siz⟩
  ·split
   ·exact⟨f0a.dial,f0a.glen,f0a.gbyte,f0a.plen,f0a.pbyte,f0a.acc,f0a.shr,f0a.way,f0a.opt,f0a.lev,f0a.dur,f0a.file,f0a.at_,f0a.n,f0a.data,f0a.locks,f0a.most,f0a.cls,f0a.siz⟩
   ·exact f0a
theorem S5a(c:Int)(a:m1a):j1a c a=k0a↔p4a c a=a:=by
 obtain⟨a1,a2,a3,a4,a5,a6,a7,a8,a9,a10,a11,a12,a13,a14,a15,a16,a17,a18,a19,a20,a21,a22,a23⟩:=a;unfold j1a p4a;by_cases h0:c=0
 ·rw[if_pos h0,if_pos h0];simp only[k0a,m1a.mk.injEq];constructor<;>(intro h;obtain⟨h1,h2,h3,h4,h5,h6,h7,h8,h9,h10,h11,h12,h13,h14,h15,h16,h17,h18,h19,h20,h21,h22,h23⟩:=h;subst_vars;simp)
 ·rw[if_neg h0,if_neg h0];by_cases h1:c=1
  ·rw[if_pos h1,if_pos h1];simp only[k0a,m1a.mk.injEq];constructor<;>(intro h;obtain⟨h1,h2,h3,h4,h5,h6,h7,h8,h9,h10,h11,h12,h13,h14,h15,h16,h17,h18,h19,h20,h21,h22,h23⟩:=h;subst_vars;simp)
  ·rw[if_neg h1,if_neg h1];by_cases h3:c=3
   ·rw[if_pos h3,if_pos h3];simp only[k0a,m1a.mk.injEq];constructor<;>(intro h;obtain⟨h1,h2,h3,h4,h5,h6,h7,h8,h9,h10,h11,h12,h13,h14,h15,h16,h17,h18,h19,h20,h21,h22,h23⟩:=h;subst_vars;simp)
   ·rw[if_neg h3,if_neg h3];exact eq_comm
theorem M1a(g:Nat)(i o:Nat)(h:(i=0/\o=0)∨(i=1/\o=1)∨(i=2/\o=17)∨(i=3/\o=49)∨(i=4/\o=50))(w:World):(Instr.fieldAt 34 (.pointer (some ⟨g,0,none⟩)) i).run Tryz.prog w=.ok (.pointer (some ⟨g,o,none⟩)) w:=by rcases h with⟨rfl,rfl⟩ | ⟨rfl,rfl⟩ | ⟨rfl,rfl⟩ | ⟨rfl,rfl⟩ | ⟨rfl,rfl⟩<;>go_simp
theorem i3b(w:World)(c:Int)(cs:List Value)(a:m1a)(hc:0<=c/\c<=65535)(ka:a.ok)(ha:b1a w w.heap.size cs a)(hlen:a.dial.length<=281474976710656/\a.data.length<=281474976710656/\a.locks.length<=281474976710656)(hu:a.user.size<=4398046511104/\a.share.size<=4398046511104) :
  Calls Tryz.prog 55 #[.int .u16 c,.agg cs.toArray] w (y2a w c a):=by
 obtain⟨hu0,hu1⟩:=hu;have HL:=hI (ha.len ka);have ZH:=hI G5a;have HZ:Hid ((l0a (.slice none 0 0) (.slice none 0 0) (.slice none 0 0) k0a).length=69):=h1a f0a;have HA:=hI ha;have CK:Hid (∀w:World,Calls Tryz.prog 50 #[.int .u16 c] w λe w'=>e=.returned (.bool (M0a c))/\w=w'):=λw=>l7a w c
 have HE:Hid (g1a c a=2->∀e w',e=.returned (.tuple #[.slice none 0 0,.int .i64 2])->Below w.heap.size w w'->y2a w c a e w'):=by intro h e w' he hb;unfold y2a q3a;rw[h,if_neg (by decide)];exact⟨_,he,Own.nil _ _,hb⟩
 by_cases hk:M0a c=true;rotate_left
 ·have hk':M0a c=false:=by simpa using hk
  have HQ:=hI (HE.out (by unfold g1a;rw[if_neg (λh=>hk h.1)]));have hc01:c≠0/\c≠1/\c≠3:=by unfold M0a at hk';simp at hk';omega
  obtain⟨h0,h1,h3⟩:=hc01;have b0:(c==0)=false:=by simpa using h0
  have b1:(c==1)=false:=by simpa using h1
  have b3:(c==3)=false:=by simpa using h3
  rw[hk'] at CK;obtain⟨zs,hzs⟩:∃zs,zs=l0a (.slice none 0 0) (.slice none 0 0) (.slice none 0 0) k0a:=⟨_,rfl⟩;rw[<-hzs] at ZH;clear hk hk' HE hzs ha ka h0 h1 h3 HA HZ;go_enter Tryz.func55,Tryz.ntmps55;go_wp2_with(first
   | ((with_reducible refine sN 3 ?_);refine a0a rfl _ (.tmp 1) rfl cs rfl ?_;intro g w1 hg1 hg2 K1 L1)
   | ((with_reducible refine sN 6 ?_);refine b0a rfl _ rfl zs _ ZH ?_;intro h w2 hg3 hg4 Z2 L02;have K2:=hI (K1.out.over L02.out);have L2:=hI (step L1.out L02.out);have hgh:g≠h:=(by omega);have hhw:w.heap.size<=h:=(by have:=L1.out.size;omega))
   | fail)
  refine(CK.out _).mono ?_;rintro e w' ⟨rfl,rfl⟩;go_wp2;go_ret2;exact HQ.out _ _ rfl L2.out
 rw[hk] at CK;have HLN:Hid (a.dial.length<=281474976710656/\a.data.length<=281474976710656/\a.locks.length<=281474976710656):=hlen;by_cases h0:c=0
 ·have c0:(c==0)=true:=by simpa using h0
  have b1:(c==1)=false:=by rw[h0];decide
  have b3:(c==3)=false:=by rw[h0];decide
  have ew:p4a c a={ k0a with dial:=a.dial,guid:=a.guid }:=by unfold p4a;rw[if_pos h0]
  have kw:=Q6a (c:=c) ka;rw[ew] at kw;have hbw:=S5a c a;rw[ew] at hbw;obtain⟨D1,D2,D3,X1,X2,X3,M1,M2,M3,hcs,hD,hX,hM⟩:=ha;have CS:Hid (∀w':World,Below w.heap.size w w'->Calls Tryz.prog 26 #[.agg (l0a (.slice D1 D2 D3) (.slice none 0 0) (.slice none 0 0) ({ k0a with dial:=a.dial,guid:=a.guid })).toArray,.agg cs.toArray] w' λe v=>e=.returned (.bool (decide ({ k0a with dial:=a.dial,guid:=a.guid }=a)))/\Below w'.heap.size w' v):=λw' hb=>m5a w' _ _ _ _ kw ka ⟨D1,D2,D3,none,0,0,none,0,0,rfl,hD.over hb,Holds.nil _ _,T0a.nil _ _ _ _⟩ (HA.out.over hb) ⟨HLN.out.1,Nat.zero_le _,Nat.zero_le _⟩ HLN.out
  have FA:Hid (∀(w:World) (g:Nat),Blk w g 34 cs->w.cell? ⟨g,0,none⟩=some (.slice D1 D2 D3)/\w.rangeAt g 1 (a.guid.map (Value.int .u8))):=λw g h=>by rw[hcs] at h;exact⟨h.at rfl,D4a h ka⟩
  have RG:Hid (∀(w:World) (g:Nat),Blk w g 34 cs->Holds w w.heap.size (some ⟨g,1,none⟩) 16 16 a.guid):=λw g h=>by rw[hcs] at h;exact x8a ka h
  have NC:Hid ((a.guid.map (Value.int .u8)).length=16):=by show _=_;rw[List.length_map];exact ka.glen
  have OC:Hid (∀v∈a.guid.map (Value.int .u8),v.oneCell'=true):=λv hv=>v4a hv
  have E1:Hid ((l0a (.slice none 0 0) (.slice none 0 0) (.slice none 0 0) k0a).set 0 (.slice D1 D2 D3)=l0a (.slice D1 D2 D3) (.slice none 0 0) (.slice none 0 0) { k0a with dial:=a.dial }):=F9a _ a.dial;have kz:({ k0a with dial:=a.dial }:m1a).ok:=⟨ka.dial,f0a.glen,f0a.gbyte,f0a.plen,f0a.pbyte,f0a.acc,f0a.shr,f0a.way,f0a.opt,f0a.lev,f0a.dur,f0a.file,f0a.at_,f0a.n,f0a.data,f0a.locks,f0a.most,f0a.cls,f0a.siz⟩;have E2:Hid ((l0a (.slice D1 D2 D3) (.slice none 0 0) (.slice none 0 0) { k0a with dial:=a.dial }).take 1++(a.guid.map (Value.int .u8)++(l0a (.slice D1 D2 D3) (.slice none 0 0) (.slice none 0 0) { k0a with dial:=a.dial }).drop (1+16))=l0a (.slice D1 D2 D3) (.slice none 0 0) (.slice none 0 0) ({ k0a with dial:=a.dial,guid:=a.guid })):=u8a kz a.guid;have HZ1:Hid ((l0a (.slice D1 D2 D3) (.slice none 0 0) (.slice none 0 0) { k0a with dial:=a.dial }).length=69):=h1a kz;have HDS:Hid ((l0a (.slice D1 D2 D3) (.slice none 0 0) (.slice none 0 0) ({ k0a with dial:=a.dial,guid:=a.guid })).length=69):=h1a kw;have HD0:=hI hD;have HDL:=hI hD.len;have HDB:=hI ka.dial;have HGL:=hI ka.glen;have HDF:=hI hD.fit;have HER:=hI (λhz:¬{ k0a with dial:=a.dial,guid:=a.guid }=a=>HE.out (by unfold g1a;rw[if_neg (λh=>hz (hbw.1 h.2))]));have h2:{ k0a with dial:=a.dial,guid:=a.guid }=a->g1a c a=if a.dial.length<=16 then 0 else 3:=λhz=>by unfold g1a;rw[if_pos ⟨hk,hbw.2 hz⟩,if_pos h0]
  have HQ:Hid ({ k0a with dial:=a.dial,guid:=a.guid }=a->∀e w',(∃v,e=.returned (.tuple #[v,.int .i64 (if a.dial.length<=16 then 0 else 3)])/\Own w' w.heap.size v (if a.dial.length<=16 then le a.dial.length 2++K1a a.dial++a.guid else [])/\Below w.heap.size w w')->y2a w c a e w'):=by
   intro hz e w' hh;unfold y2a q3a;rw[h2 hz,if_pos h0];by_cases hd:a.dial.length<=16
   ·rw[if_pos hd,if_pos hd] at hh;rw[if_pos hd,if_pos rfl];exact hh
   ·rw[if_neg hd,if_neg hd] at hh;rw[if_neg hd,if_neg (by decide)];exact hh
  obtain⟨bw,hbw'⟩:∃b,b=decide ({ k0a with dial:=a.dial,guid:=a.guid }=a):=⟨_,rfl⟩;rw[<-hbw'] at CS;have HB0:Hid (bw=false->∀e w',e=.returned (.tuple #[.slice none 0 0,.int .i64 2])->Below w.heap.size w w'->y2a w c a e w'):=λh=>HER.out (by rw[h] at hbw';simpa using hbw'.symm)
  have HB1:Hid (bw=true->∀e w',(∃v,e=.returned (.tuple #[v,.int .i64 (if a.dial.length<=16 then 0 else 3)])/\Own w' w.heap.size v (if a.dial.length<=16 then le a.dial.length 2++K1a a.dial++a.guid else [])/\Below w.heap.size w w')->y2a w c a e w'):=λh=>HQ.out (by rw[h] at hbw';simpa using hbw'.symm)
  obtain⟨zs,hzs⟩:∃x,x=l0a (.slice none 0 0) (.slice none 0 0) (.slice none 0 0) k0a:=⟨_,rfl⟩;obtain⟨z1,hz1⟩:∃x,x=l0a (.slice D1 D2 D3) (.slice none 0 0) (.slice none 0 0) { k0a with dial:=a.dial }:=⟨_,rfl⟩;obtain⟨ds,hds⟩:∃x,x=l0a (.slice D1 D2 D3) (.slice none 0 0) (.slice none 0 0) ({ k0a with dial:=a.dial,guid:=a.guid }):=⟨_,rfl⟩;obtain⟨lc,hlc⟩:∃x,x=a.guid.map (Value.int .u8):=⟨_,rfl⟩;rw[<-hzs] at ZH HZ E1;rw[<-hz1] at E1 E2 HZ1;rw[<-hds] at E2 CS HDS;rw[<-hlc] at FA NC OC E2;obtain⟨dl,hdl⟩:∃x,x=a.dial:=⟨_,rfl⟩;obtain⟨gu,hgu⟩:∃x,x=a.guid:=⟨_,rfl⟩;rw[<-hdl,<-hgu] at HB1;rw[<-hdl] at HD0 HDL HDB;rw[<-hgu] at RG HGL;clear hzs hz1 hds hlc hdl hgu hbw' HQ HER h2 hbw HE HA ew kw ka hk kz hcs hD hX hM HLN hlen h0 hu0 hu1;cases bw
  ·have HQ:=hI (HB0.out rfl);clear HB0 HB1;go_enter Tryz.func55,Tryz.ntmps55;go_wp2_with(first
    | ((with_reducible refine sN 3 ?_);refine a0a rfl _ (.tmp 1) rfl cs rfl ?_;intro g w1 hg1 hg2 K1 L1)
    | ((with_reducible refine sN 6 ?_);refine b0a rfl _ rfl zs _ ZH ?_;intro h w2 hg3 hg4 Z2 L02;have K2:=hI (K1.out.over L02.out);have L2:=hI (step L1.out L02.out);have hgh:g≠h:=(by omega);have hhw:w.heap.size<=h:=(by have:=L1.out.size;omega))
    | fail)
   go_upto_region 3 with fail
   refine wp_region_held (S:=λw'=>Blk w' g 34 cs) (by kernel_rfl) ?_;change wpAnyH _ _ _ _ _ _ _ _ w2.drew
   have S0:Hid (Blk w2.drew g 34 cs):=K2.out.drew;have b0:Hid (Below w.heap.size w w2.drew):=L2.out.drew;refine tK 0 _ rfl (g0a (by kernel_rfl) _ (.tmp 3) 0 rfl (.pointer (some ⟨g,0,none⟩)) (.pointer (some ⟨g,0,none⟩)) (by kernel_rfl) (M1a g 0 0 (by decide))) S0.out ?_;refine tK 1 _ rfl (i0a (by kernel_rfl) _ (.tmp 13) rfl g 0 (by kernel_rfl) (.slice D1 D2 D3) (λw h=>(FA.out w g h).1) _ Tryz.underlying29 rfl) S0.out ?_;refine tK 2 _ rfl (g0a (by kernel_rfl) _ (.tmp 3) 1 rfl (.pointer (some ⟨g,0,none⟩)) (.pointer (some ⟨g,1,none⟩)) (by kernel_rfl) (M1a g 1 1 (by decide))) S0.out ?_;refine tK 3 _ rfl (yieldsIf_load_mid (by kernel_rfl) _ (.tmp 15) rfl g 1 (by kernel_rfl) lc _ (λw h=>(FA.out w g h).2) Tryz.underlying26 rfl (by rw[c2a,NC.out])) S0.out ?_;have X0:Hid (Blk w2.drew h 34 zs):=Z2.out.drew;refine tK 4 _ rfl (g0a (by kernel_rfl) _ (.tmp 6) 0 rfl (.pointer (some ⟨h,0,none⟩)) (.pointer (some ⟨h,0,none⟩)) (by kernel_rfl) (M1a h 0 0 (by decide))) S0.out ?_;refine y0a λa1 ha1=>?_
   have e1_17:a1.eval (.tmp 17)=.pointer (some ⟨h,0,none⟩):=by rw[ha1];kernel_rfl
   have e1_14:a1.eval (.tmp 14)=.slice D1 D2 D3:=by rw[ha1];kernel_rfl
   refine oN 5 _ rfl λK hK=>?_
   refine A0a rfl 29 (.tmp 17) (.tmp 14) (by kernel_rfl) h 0 e1_17 34 zs (.slice D1 D2 D3) e1_14 X0 (by have:=HZ.out;show 0<_;omega) (by kernel_rfl) rfl ?_;intro v1 X1 P1 q1;rw[E1.out] at X1;have S1:Hid (Blk v1 g 34 cs):=S0.out.only P1.out hgh;have b1:Hid (Below w.heap.size w v1):=c0a b0.out P1.out hhw;refine hK _ _ S1.out ?_;clear hK K P1 q1;change wpAnyH _ _ _ _ _ _ _ a1 v1
   rw[ha1];refine tK 6 _ rfl (g0a (by kernel_rfl) _ (.tmp 6) 1 rfl (.pointer (some ⟨h,0,none⟩)) (.pointer (some ⟨h,1,none⟩)) (by kernel_rfl) (M1a h 1 1 (by decide))) S1.out ?_;refine y0a λa2 ha2=>?_
   have e2_18:a2.eval (.tmp 18)=.pointer (some ⟨h,1,none⟩):=by rw[ha2];kernel_rfl
   have e2_16:a2.eval (.tmp 16)=.agg lc.toArray:=by rw[ha2];kernel_rfl
   refine oN 7 _ rfl λK hK=>?_
   refine y1a rfl 26 (.tmp 18) (.tmp 16) (by kernel_rfl) h 1 e2_18 34 z1 lc e2_16 X1 16 c2a NC (by have:=HZ1.out;show 1+16<=_;omega) OC ?_;intro v2 X2 P2 q2;rw[E2.out] at X2;have S2:Hid (Blk v2 g 34 cs):=S1.out.only P2.out hgh;have b2:Hid (Below w.heap.size w v2):=c0a b1.out P2.out hhw;refine hK _ _ S2.out ?_;clear hK K P2 q2;change wpAnyH _ _ _ _ _ _ _ a2 v2
   rw[ha2];refine dN ?_;have KS:=S2;have MS:=b2;clear S2 b2 S1 b1 X1 ha1 ha2 e1_17 e1_14 e2_18 e2_16 a1 a2;go_wp2_with fail;refine(CK.out _).mono ?_;rintro e w' ⟨rfl,rfl⟩;go_wp2_with(first
    | ((with_reducible refine sN 36 ?_);refine o0a (by kernel_rfl) _ (.tmp 6) rfl h rfl _ ds X2 69 _ Tryz.underlying34 rfl n0a HDS ?_)
    | ((with_reducible refine sN 37 ?_);refine o0a (by kernel_rfl) _ (.tmp 3) rfl g rfl _ cs KS 69 _ Tryz.underlying34 rfl n0a HL ?_)
    | fail)
   refine(CS.out _ MS.out).mono ?_;rintro e w4 ⟨rfl,L4⟩;have K4:=hI (KS.out.over L4);have M4:=hI (step MS.out L4);have hs4:=M4.out.size;have hgw:g<w4.heap.size:=K4.out.lt;clear KS MS L4 X2;go_wp2;go_ret2;exact HQ.out _ _ rfl M4.out
  have HQ:=hI (HB1.out rfl);rw[HDL.out] at HQ;clear HB0 HB1;by_cases hn:D2<=16;rotate_left
  ·rw[if_neg hn,if_neg hn] at HQ;have hn':16<D2:=by omega
   go_enter Tryz.func55,Tryz.ntmps55;go_wp2_with(first
    | ((with_reducible refine sN 3 ?_);refine a0a rfl _ (.tmp 1) rfl cs rfl ?_;intro g w1 hg1 hg2 K1 L1)
    | ((with_reducible refine sN 6 ?_);refine b0a rfl _ rfl zs _ ZH ?_;intro h w2 hg3 hg4 Z2 L02;have K2:=hI (K1.out.over L02.out);have L2:=hI (step L1.out L02.out);have hgh:g≠h:=(by omega);have hhw:w.heap.size<=h:=(by have:=L1.out.size;omega))
    | fail)
   go_upto_region 3 with fail
   refine wp_region_held (S:=λw'=>Blk w' g 34 cs) (by kernel_rfl) ?_;change wpAnyH _ _ _ _ _ _ _ _ w2.drew
   have S0:Hid (Blk w2.drew g 34 cs):=K2.out.drew;have b0:Hid (Below w.heap.size w w2.drew):=L2.out.drew;refine tK 0 _ rfl (g0a (by kernel_rfl) _ (.tmp 3) 0 rfl (.pointer (some ⟨g,0,none⟩)) (.pointer (some ⟨g,0,none⟩)) (by kernel_rfl) (M1a g 0 0 (by decide))) S0.out ?_;refine tK 1 _ rfl (i0a (by kernel_rfl) _ (.tmp 13) rfl g 0 (by kernel_rfl) (.slice D1 D2 D3) (λw h=>(FA.out w g h).1) _ Tryz.underlying29 rfl) S0.out ?_;refine tK 2 _ rfl (g0a (by kernel_rfl) _ (.tmp 3) 1 rfl (.pointer (some ⟨g,0,none⟩)) (.pointer (some ⟨g,1,none⟩)) (by kernel_rfl) (M1a g 1 1 (by decide))) S0.out ?_;refine tK 3 _ rfl (yieldsIf_load_mid (by kernel_rfl) _ (.tmp 15) rfl g 1 (by kernel_rfl) lc _ (λw h=>(FA.out w g h).2) Tryz.underlying26 rfl (by rw[c2a,NC.out])) S0.out ?_;have X0:Hid (Blk w2.drew h 34 zs):=Z2.out.drew;refine tK 4 _ rfl (g0a (by kernel_rfl) _ (.tmp 6) 0 rfl (.pointer (some ⟨h,0,none⟩)) (.pointer (some ⟨h,0,none⟩)) (by kernel_rfl) (M1a h 0 0 (by decide))) S0.out ?_;refine y0a λa1 ha1=>?_
   have e1_17:a1.eval (.tmp 17)=.pointer (some ⟨h,0,none⟩):=by rw[ha1];kernel_rfl
   have e1_14:a1.eval (.tmp 14)=.slice D1 D2 D3:=by rw[ha1];kernel_rfl
   refine oN 5 _ rfl λK hK=>?_
   refine A0a rfl 29 (.tmp 17) (.tmp 14) (by kernel_rfl) h 0 e1_17 34 zs (.slice D1 D2 D3) e1_14 X0 (by have:=HZ.out;show 0<_;omega) (by kernel_rfl) rfl ?_;intro v1 X1 P1 q1;rw[E1.out] at X1;have S1:Hid (Blk v1 g 34 cs):=S0.out.only P1.out hgh;have b1:Hid (Below w.heap.size w v1):=c0a b0.out P1.out hhw;refine hK _ _ S1.out ?_;clear hK K P1 q1;change wpAnyH _ _ _ _ _ _ _ a1 v1
   rw[ha1];refine tK 6 _ rfl (g0a (by kernel_rfl) _ (.tmp 6) 1 rfl (.pointer (some ⟨h,0,none⟩)) (.pointer (some ⟨h,1,none⟩)) (by kernel_rfl) (M1a h 1 1 (by decide))) S1.out ?_;refine y0a λa2 ha2=>?_
   have e2_18:a2.eval (.tmp 18)=.pointer (some ⟨h,1,none⟩):=by rw[ha2];kernel_rfl
   have e2_16:a2.eval (.tmp 16)=.agg lc.toArray:=by rw[ha2];kernel_rfl
   refine oN 7 _ rfl λK hK=>?_
   refine y1a rfl 26 (.tmp 18) (.tmp 16) (by kernel_rfl) h 1 e2_18 34 z1 lc e2_16 X1 16 c2a NC (by have:=HZ1.out;show 1+16<=_;omega) OC ?_;intro v2 X2 P2 q2;rw[E2.out] at X2;have S2:Hid (Blk v2 g 34 cs):=S1.out.only P2.out hgh;have b2:Hid (Below w.heap.size w v2):=c0a b1.out P2.out hhw;refine hK _ _ S2.out ?_;clear hK K P2 q2;change wpAnyH _ _ _ _ _ _ _ a2 v2
   rw[ha2];refine dN ?_;have KS:=S2;have MS:=b2;clear S2 b2 S1 b1 X1 ha1 ha2 e1_17 e1_14 e2_18 e2_16 a1 a2;go_wp2_with fail;refine(CK.out _).mono ?_;rintro e w' ⟨rfl,rfl⟩;go_wp2_with(first
    | ((with_reducible refine sN 36 ?_);refine o0a (by kernel_rfl) _ (.tmp 6) rfl h rfl _ ds X2 69 _ Tryz.underlying34 rfl n0a HDS ?_)
    | ((with_reducible refine sN 37 ?_);refine o0a (by kernel_rfl) _ (.tmp 3) rfl g rfl _ cs KS 69 _ Tryz.underlying34 rfl n0a HL ?_)
    | fail)
   refine(CS.out _ MS.out).mono ?_;rintro e w4 ⟨rfl,L4⟩;have K4:=hI (KS.out.over L4);have M4:=hI (step MS.out L4);have hs4:=M4.out.size;have hgw:g<w4.heap.size:=K4.out.lt;clear KS MS L4 X2;obtain⟨gd,_⟩:=FA.out _ _ K4.out;go_wp2;go_ret2;exact HQ.out _ _ ⟨_,rfl,Own.nil _ _,M4.out⟩
  rw[if_pos hn,if_pos hn] at HQ;have CN:Hid (∀(w:World) (base:Nat) (v:Value) (xs:List Int) (n:Int),0<=n->n<=65535->Own w base v xs->xs.length<=1000000->base<=w.heap.size->Calls Tryz.prog 94 #[v,.int .u64 n,.int .i64 2] w λe w'=>∃v,e=.returned v/\Own w' base v (xs++le n 2)/\Below base w w'):=λw base v xs n h0 h1 ho hx hb=>n8a w base v xs n 2 h0 (by show n<256^2;rw[show(256:Int)^2=65536 from by decide];omega) (by decide) ho hx hb
  have hzD:IntKind.u64.wrap (D2:Int)=D2:=by rw[IntKind.wrap_u64];omega
  go_enter Tryz.func55,Tryz.ntmps55;go_wp2_with(first
   | ((with_reducible refine sN 3 ?_);refine a0a rfl _ (.tmp 1) rfl cs rfl ?_;intro g w1 hg1 hg2 K1 L1)
   | ((with_reducible refine sN 6 ?_);refine b0a rfl _ rfl zs _ ZH ?_;intro h w2 hg3 hg4 Z2 L02;have K2:=hI (K1.out.over L02.out);have L2:=hI (step L1.out L02.out);have hgh:g≠h:=(by omega);have hhw:w.heap.size<=h:=(by have:=L1.out.size;omega))
   | fail)
  go_upto_region 3 with fail
  refine wp_region_held (S:=λw'=>Blk w' g 34 cs) (by kernel_rfl) ?_;change wpAnyH _ _ _ _ _ _ _ _ w2.drew
  have S0:Hid (Blk w2.drew g 34 cs):=K2.out.drew;have b0:Hid (Below w.heap.size w w2.drew):=L2.out.drew;refine tK 0 _ rfl (g0a (by kernel_rfl) _ (.tmp 3) 0 rfl (.pointer (some ⟨g,0,none⟩)) (.pointer (some ⟨g,0,none⟩)) (by kernel_rfl) (M1a g 0 0 (by decide))) S0.out ?_;refine tK 1 _ rfl (i0a (by kernel_rfl) _ (.tmp 13) rfl g 0 (by kernel_rfl) (.slice D1 D2 D3) (λw h=>(FA.out w g h).1) _ Tryz.underlying29 rfl) S0.out ?_;refine tK 2 _ rfl (g0a (by kernel_rfl) _ (.tmp 3) 1 rfl (.pointer (some ⟨g,0,none⟩)) (.pointer (some ⟨g,1,none⟩)) (by kernel_rfl) (M1a g 1 1 (by decide))) S0.out ?_;refine tK 3 _ rfl (yieldsIf_load_mid (by kernel_rfl) _ (.tmp 15) rfl g 1 (by kernel_rfl) lc _ (λw h=>(FA.out w g h).2) Tryz.underlying26 rfl (by rw[c2a,NC.out])) S0.out ?_;have X0:Hid (Blk w2.drew h 34 zs):=Z2.out.drew;refine tK 4 _ rfl (g0a (by kernel_rfl) _ (.tmp 6) 0 rfl (.pointer (some ⟨h,0,none⟩)) (.pointer (some ⟨h,0,none⟩)) (by kernel_rfl) (M1a h 0 0 (by decide))) S0.out ?_;refine y0a λa1 ha1=>?_
  have e1_17:a1.eval (.tmp 17)=.pointer (some ⟨h,0,none⟩):=by rw[ha1];kernel_rfl
  have e1_14:a1.eval (.tmp 14)=.slice D1 D2 D3:=by rw[ha1];kernel_rfl
  refine oN 5 _ rfl λK hK=>?_
  refine A0a rfl 29 (.tmp 17) (.tmp 14) (by kernel_rfl) h 0 e1_17 34 zs (.slice D1 D2 D3) e1_14 X0 (by have:=HZ.out;show 0<_;omega) (by kernel_rfl) rfl ?_;intro v1 X1 P1 q1;rw[E1.out] at X1;have S1:Hid (Blk v1 g 34 cs):=S0.out.only P1.out hgh;have b1:Hid (Below w.heap.size w v1):=c0a b0.out P1.out hhw;refine hK _ _ S1.out ?_;clear hK K P1 q1;change wpAnyH _ _ _ _ _ _ _ a1 v1
  rw[ha1];refine tK 6 _ rfl (g0a (by kernel_rfl) _ (.tmp 6) 1 rfl (.pointer (some ⟨h,0,none⟩)) (.pointer (some ⟨h,1,none⟩)) (by kernel_rfl) (M1a h 1 1 (by decide))) S1.out ?_;refine y0a λa2 ha2=>?_
  have e2_18:a2.eval (.tmp 18)=.pointer (some ⟨h,1,none⟩):=by rw[ha2];kernel_rfl
  have e2_16:a2.eval (.tmp 16)=.agg lc.toArray:=by rw[ha2];kernel_rfl
  refine oN 7 _ rfl λK hK=>?_
  refine y1a rfl 26 (.tmp 18) (.tmp 16) (by kernel_rfl) h 1 e2_18 34 z1 lc e2_16 X1 16 c2a NC (by have:=HZ1.out;show 1+16<=_;omega) OC ?_;intro v2 X2 P2 q2;rw[E2.out] at X2;have S2:Hid (Blk v2 g 34 cs):=S1.out.only P2.out hgh;have b2:Hid (Below w.heap.size w v2):=c0a b1.out P2.out hhw;refine hK _ _ S2.out ?_;clear hK K P2 q2;change wpAnyH _ _ _ _ _ _ _ a2 v2
  rw[ha2];refine dN ?_;have KS:=S2;have MS:=b2;clear S2 b2 S1 b1 X1 ha1 ha2 e1_17 e1_14 e2_18 e2_16 a1 a2;go_wp2_with fail;refine(CK.out _).mono ?_;rintro e w' ⟨rfl,rfl⟩;go_wp2_with(first
   | ((with_reducible refine sN 36 ?_);refine o0a (by kernel_rfl) _ (.tmp 6) rfl h rfl _ ds X2 69 _ Tryz.underlying34 rfl n0a HDS ?_)
   | ((with_reducible refine sN 37 ?_);refine o0a (by kernel_rfl) _ (.tmp 3) rfl g rfl _ cs KS 69 _ Tryz.underlying34 rfl n0a HL ?_)
   | fail)
  refine(CS.out _ MS.out).mono ?_;rintro e w4 ⟨rfl,L4⟩;have K4:=hI (KS.out.over L4);have M4:=hI (step MS.out L4);have hs4:=M4.out.size;have hgw:g<w4.heap.size:=K4.out.lt;clear KS MS L4 X2;obtain⟨gd,_⟩:=FA.out _ _ K4.out;go_wp2_with fail;refine(CN.out w4 w4.heap.size _ [] (D2:Int) (by omega) (by omega) (Own.nil _ _) (by simp) (Nat.le_refl _)).mono ?_;rintro e w5 ⟨v5,rfl,ho5,L5⟩;rw[List.nil_append] at ho5;have HO5:=hI ho5;have N5:=hI L5;have K5:=hI (K4.out.below L5 hgw);clear ho5 L5 gd;go_wp2;go_loopw [7,8] (λv i wr=>∃j:Nat,i=.int .i64 j/\j<=D2/\Hid (Own wr w4.heap.size v (le D2 2++K1a (dl.take j)))/\Hid (Below w4.heap.size w4 wr)) (λ_ i _=>D2-(intOf i).toNat)
  case atStart=>exact⟨0,rfl,Nat.zero_le _,(by show Own _ _ _ _;simpa[K1a] using HO5.out),N5⟩
  case round=>
   obtain⟨j,rfl,hj,HO,HLw⟩:=hrel;have hsr:=HLw.out.size;have Kr:=hI (K4.out.below HLw.out hgw);obtain⟨gd,_⟩:=FA.out _ _ Kr.out;by_cases hlt:j<D2
   ·have HDr:=HD0.out.over (step M4.out HLw.out);have hft:=HDF.out;obtain⟨b,off,rfl,hb,hc⟩:=HDr.cells (by omega);obtain⟨x,hx⟩:∃x,dl[j]? = some x:=⟨_,List.getElem?_eq_getElem (by have:=HDL.out;omega)⟩;have gc:=hc j x hx;obtain⟨x0,x1⟩:=HDB.out x (List.mem_of_getElem? hx);have E5:Hid (le D2 2++K1a (dl.take (j+1))=le D2 2++K1a (dl.take j)++le x 2):=by
     show _=_
     rw[List.take_add_one,hx,Option.toList_some,w8a,List.append_assoc]
    have HLEN:Hid ((le (D2:Int) 2++K1a (dl.take j)).length<=1000000):=by
     show _<=_
     rw[List.length_append,m0a,N4a,List.length_take];omega
    have hxz:IntKind.u64.wrap x=x:=by rw[IntKind.wrap_u64];omega
    obtain⟨P,hP⟩:∃P,P=le (D2:Int) 2++K1a (dl.take j):=⟨_,rfl⟩;rw[<-hP] at E5 HLEN HO;clear hc hx hP HDr;go_wp2_with fail;refine(CN.out wr w4.heap.size _ P x x0 x1 HO.out HLEN.out hsr).mono ?_;rintro e w6 ⟨v6,rfl,ho6,L6⟩;have HO6:Hid (Own w6 w4.heap.size v6 (le D2 2++K1a (dl.take (j+1)))):=by rw[E5.out];exact ho6
    have N6:=hI (HLw.out.trans L6);clear ho6 L6 gc gd;go_wp2;go_roundw
    case rel=>exact⟨j+1,by go_num,hlt,HO6,N6⟩
    case measure=>simp[intOf];omega
   ·obtain rfl:j=D2:=by omega
    have HO5:Hid (Own wr w4.heap.size u7 (le (j:Int) 2++K1a dl)):=by
     have h:=HO.out
     rwa [List.take_of_length_le (by have:=HDL.out;omega)] at h
    have HG:=hI (RG.out _ _ Kr.out);have HLEN:Hid ((le (j:Int) 2++K1a dl).length+gu.length<=140737488355328):=by
     show _<=_
     have h1:=HGL.out;have h2:=HDL.out;rw[List.length_append,m0a,N4a];omega
    obtain⟨P,hP⟩:∃P,P=le (j:Int) 2++K1a dl:=⟨_,rfl⟩;rw[<-hP] at HO5 HLEN HQ;clear HO hP;go_wp2_with(first
     | (at_builtin;refine D0a rfl (.tmp 69) (.tmp 71) rfl w4.heap.size _ P rfl HO5.out wr.heap.size (some ⟨g,1,none⟩) 16 16 gu rfl HG.out HLEN.out hsr ?_;intro v7 w7 ho7 hb7 hgr)
     | fail)
    go_ret2;exact HQ.out _ _ ⟨_,rfl,ho7.out.mono hs4,M4.out.trans ((HLw.out.trans hb7).mono hs4)⟩
 by_cases h1:c=1
 ·have c1:(c==1)=true:=by simpa using h1
  have b0:(c==0)=false:=by simpa using h0
  have b3:(c==3)=false:=by rw[h1];decide
  have ew:p4a c a={ k0a with proof:=a.proof,user:=a.user }:=by unfold p4a;rw[if_neg h0,if_pos h1]
  have kw:=Q6a (c:=c) ka;rw[ew] at kw;have hbw:=S5a c a;rw[ew] at hbw;have CS:Hid (∀w':World,Below w.heap.size w w'->Calls Tryz.prog 26 #[.agg (l0a (.slice none 0 0) (.slice none 0 0) (.slice none 0 0) ({ k0a with proof:=a.proof,user:=a.user })).toArray,.agg cs.toArray] w' λe v=>e=.returned (.bool (decide ({ k0a with proof:=a.proof,user:=a.user }=a)))/\Below w'.heap.size w' v):=λw' hb=>m5a w' _ _ _ _ kw ka ⟨none,0,0,none,0,0,none,0,0,rfl,o1a.nil _ _ _,Holds.nil _ _,T0a.nil _ _ _ _⟩ (HA.out.over hb) ⟨Nat.zero_le _,Nat.zero_le _,Nat.zero_le _⟩ HLN.out
  have FA:Hid (∀(w:World) (g:Nat),Blk w g 34 cs->w.cell? ⟨g,49,none⟩=some (.string a.user)/\w.rangeAt g 17 (a.proof.map (Value.int .u8))):=λw g h=>by obtain⟨D1,D2,D3,X1,X2,X3,M1,M2,M3,rfl,_⟩:=ha;exact⟨h.at (j0a ka 0),f4a h ka⟩
  have RG:Hid (∀(w:World) (g:Nat),Blk w g 34 cs->Holds w w.heap.size (some ⟨g,17,none⟩) 32 32 a.proof):=λw g h=>by obtain⟨D1,D2,D3,X1,X2,X3,M1,M2,M3,rfl,_⟩:=ha;exact N7a ka h
  have NC:Hid ((a.proof.map (Value.int .u8)).length=32):=by show _=_;rw[List.length_map];exact ka.plen
  have OC:Hid (∀v∈a.proof.map (Value.int .u8),v.oneCell'=true):=λv hv=>v4a hv
  have E1:Hid ((l0a (.slice none 0 0) (.slice none 0 0) (.slice none 0 0) k0a).take 17++(a.proof.map (Value.int .u8)++(l0a (.slice none 0 0) (.slice none 0 0) (.slice none 0 0) k0a).drop (17+32))=l0a (.slice none 0 0) (.slice none 0 0) (.slice none 0 0) { k0a with proof:=a.proof }):=K7a f0a a.proof;have kz:({ k0a with proof:=a.proof }:m1a).ok:=⟨f0a.dial,f0a.glen,f0a.gbyte,ka.plen,ka.pbyte,f0a.acc,f0a.shr,f0a.way,f0a.opt,f0a.lev,f0a.dur,f0a.file,f0a.at_,f0a.n,f0a.data,f0a.locks,f0a.most,f0a.cls,f0a.siz⟩;have E2:Hid ((l0a (.slice none 0 0) (.slice none 0 0) (.slice none 0 0) { k0a with proof:=a.proof }).set 49 (.string a.user)=l0a (.slice none 0 0) (.slice none 0 0) (.slice none 0 0) ({ k0a with proof:=a.proof,user:=a.user })):=G9a kz a.user;have HZ1:Hid ((l0a (.slice none 0 0) (.slice none 0 0) (.slice none 0 0) { k0a with proof:=a.proof }).length=69):=h1a kz;have HDS:Hid ((l0a (.slice none 0 0) (.slice none 0 0) (.slice none 0 0) ({ k0a with proof:=a.proof,user:=a.user })).length=69):=h1a kw;have HPL:=hI ka.plen;have HER:=hI (λhz:¬{ k0a with proof:=a.proof,user:=a.user }=a=>HE.out (by unfold g1a;rw[if_neg (λh=>hz (hbw.1 h.2))]));have h2:{ k0a with proof:=a.proof,user:=a.user }=a->g1a c a=u0a a.user.data.toList:=λhz=>by unfold g1a;rw[if_pos ⟨hk,hbw.2 hz⟩,if_neg h0,if_pos h1]
  have HQ:Hid ({ k0a with proof:=a.proof,user:=a.user }=a->∀e w',(∃v,e=.returned (.tuple #[v,.int .i64 (u0a a.user.data.toList)])/\Own w' w.heap.size v (if u0a a.user.data.toList=0 then a.proof++G0a a.user.data.toList else [])/\Below w.heap.size w w')->y2a w c a e w'):=by intro hz e w' hh;unfold y2a q3a;rw[h2 hz,if_neg h0,if_pos h1];exact hh
  have CT:Hid (∀w':World,Calls Tryz.prog 98 #[.string a.user] w' λe w2=>∃v,e=.returned (.tuple #[v,.int .i64 (u0a a.user.data.toList)])/\Own w2 w'.heap.size v (G0a a.user.data.toList)/\Below w'.heap.size w' w2):=λw'=>i5a a.user w' hu0
  have HPB:=hI (v1a a.user.data.toList);have hpl:=q2a a.user.data.toList;obtain⟨bw,hbw'⟩:∃b,b=decide ({ k0a with proof:=a.proof,user:=a.user }=a):=⟨_,rfl⟩;rw[<-hbw'] at CS;have HB0:Hid (bw=false->∀e w',e=.returned (.tuple #[.slice none 0 0,.int .i64 2])->Below w.heap.size w w'->y2a w c a e w'):=λh=>HER.out (by rw[h] at hbw';simpa using hbw'.symm)
  have HB1:=hI (λh:bw=true=>HQ.out (by rw[h] at hbw';simpa using hbw'.symm));obtain⟨er,her⟩:∃x,x=u0a a.user.data.toList:=⟨_,rfl⟩;obtain⟨ys,hys⟩:∃x,x=G0a a.user.data.toList:=⟨_,rfl⟩;rw[<-her,<-hys] at HB1 CT;rw[<-hys] at HPB hpl;obtain⟨zs,hzs⟩:∃x,x=l0a (.slice none 0 0) (.slice none 0 0) (.slice none 0 0) k0a:=⟨_,rfl⟩;obtain⟨z1,hz1⟩:∃x,x=l0a (.slice none 0 0) (.slice none 0 0) (.slice none 0 0) { k0a with proof:=a.proof }:=⟨_,rfl⟩;obtain⟨ds,hds⟩:∃x,x=l0a (.slice none 0 0) (.slice none 0 0) (.slice none 0 0) ({ k0a with proof:=a.proof,user:=a.user }):=⟨_,rfl⟩;obtain⟨lc,hlc⟩:∃x,x=a.proof.map (Value.int .u8):=⟨_,rfl⟩;rw[<-hzs] at ZH HZ E1;rw[<-hz1] at E1 E2 HZ1;rw[<-hds] at E2 CS HDS;rw[<-hlc] at FA NC OC E1;obtain⟨us,hus⟩:∃x,x=a.user:=⟨_,rfl⟩;obtain⟨px,hpx⟩:∃x,x=a.proof:=⟨_,rfl⟩;rw[<-hus] at FA E2 CT;rw[<-hpx] at RG HB1 HPL;clear hzs hz1 hds hlc hus hpx hbw' HQ HER h2 hbw HE HA ew kw ka hk kz ha HLN hlen h0 h1 hu0 hu1 her hys;cases bw
  ·have HQ:=hI (HB0.out rfl);clear HB0 HB1;go_enter Tryz.func55,Tryz.ntmps55;go_wp2_with(first
    | ((with_reducible refine sN 3 ?_);refine a0a rfl _ (.tmp 1) rfl cs rfl ?_;intro g w1 hg1 hg2 K1 L1)
    | ((with_reducible refine sN 6 ?_);refine b0a rfl _ rfl zs _ ZH ?_;intro h w2 hg3 hg4 Z2 L02;have K2:=hI (K1.out.over L02.out);have L2:=hI (step L1.out L02.out);have hgh:g≠h:=(by omega);have hhw:w.heap.size<=h:=(by have:=L1.out.size;omega))
    | fail)
   go_upto_region 5 with fail
   refine wp_region_held (S:=λw'=>Blk w' g 34 cs) (by kernel_rfl) ?_;change wpAnyH _ _ _ _ _ _ _ _ w2.drew
   have S0:Hid (Blk w2.drew g 34 cs):=K2.out.drew;have b0:Hid (Below w.heap.size w w2.drew):=L2.out.drew;refine tK 0 _ rfl (g0a (by kernel_rfl) _ (.tmp 3) 2 rfl (.pointer (some ⟨g,0,none⟩)) (.pointer (some ⟨g,17,none⟩)) (by kernel_rfl) (M1a g 2 17 (by decide))) S0.out ?_;refine tK 1 _ rfl (yieldsIf_load_mid (by kernel_rfl) _ (.tmp 21) rfl g 17 (by kernel_rfl) lc _ (λw h=>(FA.out w g h).2) Tryz.underlying30 rfl (by rw[W1a,NC.out])) S0.out ?_;refine tK 2 _ rfl (g0a (by kernel_rfl) _ (.tmp 3) 3 rfl (.pointer (some ⟨g,0,none⟩)) (.pointer (some ⟨g,49,none⟩)) (by kernel_rfl) (M1a g 3 49 (by decide))) S0.out ?_;refine tK 3 _ rfl (i0a (by kernel_rfl) _ (.tmp 23) rfl g 49 (by kernel_rfl) (.string us) (λw h=>(FA.out w g h).1) _ Tryz.underlying9 rfl) S0.out ?_;have X0:Hid (Blk w2.drew h 34 zs):=Z2.out.drew;refine tK 4 _ rfl (g0a (by kernel_rfl) _ (.tmp 6) 2 rfl (.pointer (some ⟨h,0,none⟩)) (.pointer (some ⟨h,17,none⟩)) (by kernel_rfl) (M1a h 2 17 (by decide))) S0.out ?_;refine y0a λa1 ha1=>?_
   have e1_25:a1.eval (.tmp 25)=.pointer (some ⟨h,17,none⟩):=by rw[ha1];kernel_rfl
   have e1_22:a1.eval (.tmp 22)=.agg lc.toArray:=by rw[ha1];kernel_rfl
   refine oN 5 _ rfl λK hK=>?_
   refine y1a rfl 30 (.tmp 25) (.tmp 22) (by kernel_rfl) h 17 e1_25 34 zs lc e1_22 X0 32 W1a NC (by have:=HZ.out;show 17+32<=_;omega) OC ?_;intro v1 X1 P1 q1;rw[E1.out] at X1;have S1:Hid (Blk v1 g 34 cs):=S0.out.only P1.out hgh;have b1:Hid (Below w.heap.size w v1):=c0a b0.out P1.out hhw;refine hK _ _ S1.out ?_;clear hK K P1 q1;change wpAnyH _ _ _ _ _ _ _ a1 v1
   rw[ha1];refine tK 6 _ rfl (g0a (by kernel_rfl) _ (.tmp 6) 3 rfl (.pointer (some ⟨h,0,none⟩)) (.pointer (some ⟨h,49,none⟩)) (by kernel_rfl) (M1a h 3 49 (by decide))) S1.out ?_;refine y0a λa2 ha2=>?_
   have e2_26:a2.eval (.tmp 26)=.pointer (some ⟨h,49,none⟩):=by rw[ha2];kernel_rfl
   have e2_24:a2.eval (.tmp 24)=.string us:=by rw[ha2];kernel_rfl
   refine oN 7 _ rfl λK hK=>?_
   refine A0a rfl 9 (.tmp 26) (.tmp 24) (by kernel_rfl) h 49 e2_26 34 z1 (.string us) e2_24 X1 (by have:=HZ1.out;show 49<_;omega) (by kernel_rfl) rfl ?_;intro v2 X2 P2 q2;rw[E2.out] at X2;have S2:Hid (Blk v2 g 34 cs):=S1.out.only P2.out hgh;have b2:Hid (Below w.heap.size w v2):=c0a b1.out P2.out hhw;refine hK _ _ S2.out ?_;clear hK K P2 q2;change wpAnyH _ _ _ _ _ _ _ a2 v2
   rw[ha2];refine dN ?_;have KS:=S2;have MS:=b2;clear S2 b2 S1 b1 X1 ha1 ha2 e1_25 e1_22 e2_26 e2_24 a1 a2;go_wp2_with fail;refine(CK.out _).mono ?_;rintro e w' ⟨rfl,rfl⟩;go_wp2_with(first
    | ((with_reducible refine sN 36 ?_);refine o0a (by kernel_rfl) _ (.tmp 6) rfl h rfl _ ds X2 69 _ Tryz.underlying34 rfl n0a HDS ?_)
    | ((with_reducible refine sN 37 ?_);refine o0a (by kernel_rfl) _ (.tmp 3) rfl g rfl _ cs KS 69 _ Tryz.underlying34 rfl n0a HL ?_)
    | fail)
   refine(CS.out _ MS.out).mono ?_;rintro e w4 ⟨rfl,L4⟩;have K4:=hI (KS.out.over L4);have M4:=hI (step MS.out L4);have hs4:=M4.out.size;have hgw:g<w4.heap.size:=K4.out.lt;clear KS MS L4 X2;go_wp2;go_ret2;exact HQ.out _ _ rfl M4.out
  have HQ:=hI (HB1.out rfl);clear HB0 HB1;by_cases he:er=0;rotate_left
  ·rw[if_neg he] at HQ;have hne:(er != 0)=true:=by simpa using he
   go_enter Tryz.func55,Tryz.ntmps55;go_wp2_with(first
    | ((with_reducible refine sN 3 ?_);refine a0a rfl _ (.tmp 1) rfl cs rfl ?_;intro g w1 hg1 hg2 K1 L1)
    | ((with_reducible refine sN 6 ?_);refine b0a rfl _ rfl zs _ ZH ?_;intro h w2 hg3 hg4 Z2 L02;have K2:=hI (K1.out.over L02.out);have L2:=hI (step L1.out L02.out);have hgh:g≠h:=(by omega);have hhw:w.heap.size<=h:=(by have:=L1.out.size;omega))
    | fail)
   go_upto_region 5 with fail
   refine wp_region_held (S:=λw'=>Blk w' g 34 cs) (by kernel_rfl) ?_;change wpAnyH _ _ _ _ _ _ _ _ w2.drew
   have S0:Hid (Blk w2.drew g 34 cs):=K2.out.drew;have b0:Hid (Below w.heap.size w w2.drew):=L2.out.drew;refine tK 0 _ rfl (g0a (by kernel_rfl) _ (.tmp 3) 2 rfl (.pointer (some ⟨g,0,none⟩)) (.pointer (some ⟨g,17,none⟩)) (by kernel_rfl) (M1a g 2 17 (by decide))) S0.out ?_;refine tK 1 _ rfl (yieldsIf_load_mid (by kernel_rfl) _ (.tmp 21) rfl g 17 (by kernel_rfl) lc _ (λw h=>(FA.out w g h).2) Tryz.underlying30 rfl (by rw[W1a,NC.out])) S0.out ?_;refine tK 2 _ rfl (g0a (by kernel_rfl) _ (.tmp 3) 3 rfl (.pointer (some ⟨g,0,none⟩)) (.pointer (some ⟨g,49,none⟩)) (by kernel_rfl) (M1a g 3 49 (by decide))) S0.out ?_;refine tK 3 _ rfl (i0a (by kernel_rfl) _ (.tmp 23) rfl g 49 (by kernel_rfl) (.string us) (λw h=>(FA.out w g h).1) _ Tryz.underlying9 rfl) S0.out ?_;have X0:Hid (Blk w2.drew h 34 zs):=Z2.out.drew;refine tK 4 _ rfl (g0a (by kernel_rfl) _ (.tmp 6) 2 rfl (.pointer (some ⟨h,0,none⟩)) (.pointer (some ⟨h,17,none⟩)) (by kernel_rfl) (M1a h 2 17 (by decide))) S0.out ?_;refine y0a λa1 ha1=>?_
   have e1_25:a1.eval (.tmp 25)=.pointer (some ⟨h,17,none⟩):=by rw[ha1];kernel_rfl
   have e1_22:a1.eval (.tmp 22)=.agg lc.toArray:=by rw[ha1];kernel_rfl
   refine oN 5 _ rfl λK hK=>?_
   refine y1a rfl 30 (.tmp 25) (.tmp 22) (by kernel_rfl) h 17 e1_25 34 zs lc e1_22 X0 32 W1a NC (by have:=HZ.out;show 17+32<=_;omega) OC ?_;intro v1 X1 P1 q1;rw[E1.out] at X1;have S1:Hid (Blk v1 g 34 cs):=S0.out.only P1.out hgh;have b1:Hid (Below w.heap.size w v1):=c0a b0.out P1.out hhw;refine hK _ _ S1.out ?_;clear hK K P1 q1;change wpAnyH _ _ _ _ _ _ _ a1 v1
   rw[ha1];refine tK 6 _ rfl (g0a (by kernel_rfl) _ (.tmp 6) 3 rfl (.pointer (some ⟨h,0,none⟩)) (.pointer (some ⟨h,49,none⟩)) (by kernel_rfl) (M1a h 3 49 (by decide))) S1.out ?_;refine y0a λa2 ha2=>?_
   have e2_26:a2.eval (.tmp 26)=.pointer (some ⟨h,49,none⟩):=by rw[ha2];kernel_rfl
   have e2_24:a2.eval (.tmp 24)=.string us:=by rw[ha2];kernel_rfl
   refine oN 7 _ rfl λK hK=>?_
   refine A0a rfl 9 (.tmp 26) (.tmp 24) (by kernel_rfl) h 49 e2_26 34 z1 (.string us) e2_24 X1 (by have:=HZ1.out;show 49<_;omega) (by kernel_rfl) rfl ?_;intro v2 X2 P2 q2;rw[E2.out] at X2;have S2:Hid (Blk v2 g 34 cs):=S1.out.only P2.out hgh;have b2:Hid (Below w.heap.size w v2):=c0a b1.out P2.out hhw;refine hK _ _ S2.out ?_;clear hK K P2 q2;change wpAnyH _ _ _ _ _ _ _ a2 v2
   rw[ha2];refine dN ?_;have KS:=S2;have MS:=b2;clear S2 b2 S1 b1 X1 ha1 ha2 e1_25 e1_22 e2_26 e2_24 a1 a2;go_wp2_with fail;refine(CK.out _).mono ?_;rintro e w' ⟨rfl,rfl⟩;go_wp2_with(first
    | ((with_reducible refine sN 36 ?_);refine o0a (by kernel_rfl) _ (.tmp 6) rfl h rfl _ ds X2 69 _ Tryz.underlying34 rfl n0a HDS ?_)
    | ((with_reducible refine sN 37 ?_);refine o0a (by kernel_rfl) _ (.tmp 3) rfl g rfl _ cs KS 69 _ Tryz.underlying34 rfl n0a HL ?_)
    | fail)
   refine(CS.out _ MS.out).mono ?_;rintro e w4 ⟨rfl,L4⟩;have K4:=hI (KS.out.over L4);have M4:=hI (step MS.out L4);have hs4:=M4.out.size;have hgw:g<w4.heap.size:=K4.out.lt;clear KS MS L4 X2;obtain⟨gd,_⟩:=FA.out _ _ K4.out;go_wp2_with fail;refine(CT.out w4).mono ?_;rintro e w5 ⟨v5,rfl,ho5,L5⟩;obtain⟨A5,c5,rfl⟩:=ho5.len;clear ho5;go_wp2;go_ret2;exact HQ.out _ _ ⟨_,rfl,Own.nil _ _,step M4.out L5⟩
  subst he;rw[if_pos rfl] at HQ;have HL1:Hid (([]:List Int).length+px.length<=140737488355328):=by have h:=HPL.out;show _<=_;simp only[List.length_nil];omega
  go_enter Tryz.func55,Tryz.ntmps55;go_wp2_with(first
   | ((with_reducible refine sN 3 ?_);refine a0a rfl _ (.tmp 1) rfl cs rfl ?_;intro g w1 hg1 hg2 K1 L1)
   | ((with_reducible refine sN 6 ?_);refine b0a rfl _ rfl zs _ ZH ?_;intro h w2 hg3 hg4 Z2 L02;have K2:=hI (K1.out.over L02.out);have L2:=hI (step L1.out L02.out);have hgh:g≠h:=(by omega);have hhw:w.heap.size<=h:=(by have:=L1.out.size;omega))
   | fail)
  go_upto_region 5 with fail
  refine wp_region_held (S:=λw'=>Blk w' g 34 cs) (by kernel_rfl) ?_;change wpAnyH _ _ _ _ _ _ _ _ w2.drew
  have S0:Hid (Blk w2.drew g 34 cs):=K2.out.drew;have b0:Hid (Below w.heap.size w w2.drew):=L2.out.drew;refine tK 0 _ rfl (g0a (by kernel_rfl) _ (.tmp 3) 2 rfl (.pointer (some ⟨g,0,none⟩)) (.pointer (some ⟨g,17,none⟩)) (by kernel_rfl) (M1a g 2 17 (by decide))) S0.out ?_;refine tK 1 _ rfl (yieldsIf_load_mid (by kernel_rfl) _ (.tmp 21) rfl g 17 (by kernel_rfl) lc _ (λw h=>(FA.out w g h).2) Tryz.underlying30 rfl (by rw[W1a,NC.out])) S0.out ?_;refine tK 2 _ rfl (g0a (by kernel_rfl) _ (.tmp 3) 3 rfl (.pointer (some ⟨g,0,none⟩)) (.pointer (some ⟨g,49,none⟩)) (by kernel_rfl) (M1a g 3 49 (by decide))) S0.out ?_;refine tK 3 _ rfl (i0a (by kernel_rfl) _ (.tmp 23) rfl g 49 (by kernel_rfl) (.string us) (λw h=>(FA.out w g h).1) _ Tryz.underlying9 rfl) S0.out ?_;have X0:Hid (Blk w2.drew h 34 zs):=Z2.out.drew;refine tK 4 _ rfl (g0a (by kernel_rfl) _ (.tmp 6) 2 rfl (.pointer (some ⟨h,0,none⟩)) (.pointer (some ⟨h,17,none⟩)) (by kernel_rfl) (M1a h 2 17 (by decide))) S0.out ?_;refine y0a λa1 ha1=>?_
  have e1_25:a1.eval (.tmp 25)=.pointer (some ⟨h,17,none⟩):=by rw[ha1];kernel_rfl
  have e1_22:a1.eval (.tmp 22)=.agg lc.toArray:=by rw[ha1];kernel_rfl
  refine oN 5 _ rfl λK hK=>?_
  refine y1a rfl 30 (.tmp 25) (.tmp 22) (by kernel_rfl) h 17 e1_25 34 zs lc e1_22 X0 32 W1a NC (by have:=HZ.out;show 17+32<=_;omega) OC ?_;intro v1 X1 P1 q1;rw[E1.out] at X1;have S1:Hid (Blk v1 g 34 cs):=S0.out.only P1.out hgh;have b1:Hid (Below w.heap.size w v1):=c0a b0.out P1.out hhw;refine hK _ _ S1.out ?_;clear hK K P1 q1;change wpAnyH _ _ _ _ _ _ _ a1 v1
  rw[ha1];refine tK 6 _ rfl (g0a (by kernel_rfl) _ (.tmp 6) 3 rfl (.pointer (some ⟨h,0,none⟩)) (.pointer (some ⟨h,49,none⟩)) (by kernel_rfl) (M1a h 3 49 (by decide))) S1.out ?_;refine y0a λa2 ha2=>?_
  have e2_26:a2.eval (.tmp 26)=.pointer (some ⟨h,49,none⟩):=by rw[ha2];kernel_rfl
  have e2_24:a2.eval (.tmp 24)=.string us:=by rw[ha2];kernel_rfl
  refine oN 7 _ rfl λK hK=>?_
  refine A0a rfl 9 (.tmp 26) (.tmp 24) (by kernel_rfl) h 49 e2_26 34 z1 (.string us) e2_24 X1 (by have:=HZ1.out;show 49<_;omega) (by kernel_rfl) rfl ?_;intro v2 X2 P2 q2;rw[E2.out] at X2;have S2:Hid (Blk v2 g 34 cs):=S1.out.only P2.out hgh;have b2:Hid (Below w.heap.size w v2):=c0a b1.out P2.out hhw;refine hK _ _ S2.out ?_;clear hK K P2 q2;change wpAnyH _ _ _ _ _ _ _ a2 v2
  rw[ha2];refine dN ?_;have KS:=S2;have MS:=b2;clear S2 b2 S1 b1 X1 ha1 ha2 e1_25 e1_22 e2_26 e2_24 a1 a2;go_wp2_with fail;refine(CK.out _).mono ?_;rintro e w' ⟨rfl,rfl⟩;go_wp2_with(first
   | ((with_reducible refine sN 36 ?_);refine o0a (by kernel_rfl) _ (.tmp 6) rfl h rfl _ ds X2 69 _ Tryz.underlying34 rfl n0a HDS ?_)
   | ((with_reducible refine sN 37 ?_);refine o0a (by kernel_rfl) _ (.tmp 3) rfl g rfl _ cs KS 69 _ Tryz.underlying34 rfl n0a HL ?_)
   | fail)
  refine(CS.out _ MS.out).mono ?_;rintro e w4 ⟨rfl,L4⟩;have K4:=hI (KS.out.over L4);have M4:=hI (step MS.out L4);have hs4:=M4.out.size;have hgw:g<w4.heap.size:=K4.out.lt;clear KS MS L4 X2;obtain⟨gd,_⟩:=FA.out _ _ K4.out;go_wp2_with fail;refine(CT.out w4).mono ?_;rintro e w5 ⟨v5,rfl,ho5,L5⟩;obtain⟨A5,c5,rfl,hh5⟩:=ho5.holds HPB.out (by omega);have HH5:=hI hh5;have K5:=hI (K4.out.over L5);have HR5:=hI (RG.out _ _ K5.out);have M5:=hI (step M4.out L5);have hs5:=M5.out.size;obtain⟨m,hm⟩:∃m,m=ys.length:=⟨_,rfl⟩;have HM:=hI hm;rw[<-hm] at HH5 hpl⊢;clear ho5 hh5 L5 hm gd;have HL2:Hid (([]++px).length+ys.length<=140737488355328):=by have h:=HPL.out;have h2:=HM.out;show _<=_;rw[List.nil_append];omega
  go_wp2_with(first
   | ((with_reducible refine sN 87 ?_);refine D0a rfl (.tmp 84) (.tmp 86) rfl w5.heap.size _ [] rfl (Own.nil _ _) w5.heap.size (some ⟨g,17,none⟩) 32 32 px rfl HR5.out HL1.out (Nat.le_refl _) ?_;intro v6 w6 ho6 hb6 hgr6;have HH6:=hI (HH5.out.below hb6);have hs6:=hb6.size;obtain⟨A6,c6,hv6⟩:=ho6.out.len;subst hv6)
   | ((with_reducible refine sN 90 ?_);refine D0a rfl (.tmp 88) (.tmp 89) rfl w5.heap.size _ ([]++px) rfl ho6.out w5.heap.size A5 m c5 ys rfl HH6.out HL2.out hs6 ?_;intro v7 w7 ho7 hb7 hgr7)
   | fail)
  go_ret2;refine HQ.out _ _ ⟨_,rfl,?_,M5.out.trans ((hb6.trans hb7).mono hs5)⟩;have h9:=ho7.out.mono (base':=w.heap.size) hs5;simpa using h9
 by_cases h3:c=3
 ·have c3:(c==3)=true:=by simpa using h3
  have b0:(c==0)=false:=by simpa using h0
  have b1:(c==1)=false:=by rw[h3];decide
  have ew:p4a c a={ k0a with share:=a.share }:=by unfold p4a;rw[if_neg h0,if_neg h1,if_pos h3]
  have kw:=Q6a (c:=c) ka;rw[ew] at kw;have hbw:=S5a c a;rw[ew] at hbw;have CS:Hid (∀w':World,Below w.heap.size w w'->Calls Tryz.prog 26 #[.agg (l0a (.slice none 0 0) (.slice none 0 0) (.slice none 0 0) ({ k0a with share:=a.share })).toArray,.agg cs.toArray] w' λe v=>e=.returned (.bool (decide ({ k0a with share:=a.share }=a)))/\Below w'.heap.size w' v):=λw' hb=>m5a w' _ _ _ _ kw ka ⟨none,0,0,none,0,0,none,0,0,rfl,o1a.nil _ _ _,Holds.nil _ _,T0a.nil _ _ _ _⟩ (HA.out.over hb) ⟨Nat.zero_le _,Nat.zero_le _,Nat.zero_le _⟩ HLN.out
  have FA:Hid (∀(w:World) (g:Nat),Blk w g 34 cs->w.cell? ⟨g,50,none⟩=some (.string a.share)):=λw g h=>by obtain⟨D1,D2,D3,X1,X2,X3,M1,M2,M3,rfl,_⟩:=ha;exact h.at (j0a ka 1)
  have E1:Hid ((l0a (.slice none 0 0) (.slice none 0 0) (.slice none 0 0) k0a).set 50 (.string a.share)=l0a (.slice none 0 0) (.slice none 0 0) (.slice none 0 0) ({ k0a with share:=a.share })):=v8a f0a a.share;have HDS:Hid ((l0a (.slice none 0 0) (.slice none 0 0) (.slice none 0 0) ({ k0a with share:=a.share })).length=69):=h1a kw;have HZ0:Hid (50<(l0a (.slice none 0 0) (.slice none 0 0) (.slice none 0 0) k0a).length):=by show _<_;rw[HZ.out];omega
  have HER:=hI (λhz:¬{ k0a with share:=a.share }=a=>HE.out (by unfold g1a;rw[if_neg (λh=>hz (hbw.1 h.2))]));have h2:{ k0a with share:=a.share }=a->g1a c a=u0a a.share.data.toList:=λhz=>by unfold g1a;rw[if_pos ⟨hk,hbw.2 hz⟩,if_neg h0,if_neg h1,if_pos h3]
  have HQ:Hid ({ k0a with share:=a.share }=a->∀e w',(∃v,e=.returned (.tuple #[v,.int .i64 (u0a a.share.data.toList)])/\Own w' w.heap.size v (G0a a.share.data.toList)/\Below w.heap.size w w')->y2a w c a e w'):=by
   intro hz e w' hh;unfold y2a q3a;rw[h2 hz,if_neg h0,if_neg h1,if_pos h3];by_cases hp:u0a a.share.data.toList=0
   ·rw[if_pos hp];exact hh
   ·rw[if_neg hp];unfold G0a at hh;rw[if_neg hp] at hh;exact hh
  have CT:Hid (∀w':World,Calls Tryz.prog 98 #[.string a.share] w' λe w2=>∃v,e=.returned (.tuple #[v,.int .i64 (u0a a.share.data.toList)])/\Own w2 w'.heap.size v (G0a a.share.data.toList)/\Below w'.heap.size w' w2):=λw'=>i5a a.share w' hu1
  obtain⟨bw,hbw'⟩:∃b,b=decide ({ k0a with share:=a.share }=a):=⟨_,rfl⟩;rw[<-hbw'] at CS;have HB0:Hid (bw=false->∀e w',e=.returned (.tuple #[.slice none 0 0,.int .i64 2])->Below w.heap.size w w'->y2a w c a e w'):=λh=>HER.out (by rw[h] at hbw';simpa using hbw'.symm)
  have HB1:=hI (λh:bw=true=>HQ.out (by rw[h] at hbw';simpa using hbw'.symm));obtain⟨er,her⟩:∃x,x=u0a a.share.data.toList:=⟨_,rfl⟩;obtain⟨ys,hys⟩:∃x,x=G0a a.share.data.toList:=⟨_,rfl⟩;rw[<-her,<-hys] at HB1 CT;obtain⟨zs,hzs⟩:∃x,x=l0a (.slice none 0 0) (.slice none 0 0) (.slice none 0 0) k0a:=⟨_,rfl⟩;obtain⟨ds,hds⟩:∃x,x=l0a (.slice none 0 0) (.slice none 0 0) (.slice none 0 0) ({ k0a with share:=a.share }):=⟨_,rfl⟩;rw[<-hzs] at ZH HZ E1 HZ0;rw[<-hds] at E1 CS HDS;obtain⟨us,hus⟩:∃x,x=a.share:=⟨_,rfl⟩;rw[<-hus] at FA E1 CT;clear hzs hds hus hbw' HQ HER h2 hbw HE HA ew kw ka hk ha HLN hlen h0 h1 h3 hu0 hu1 her hys;cases bw
  ·have HQ:=hI (HB0.out rfl);clear HB0 HB1;go_enter Tryz.func55,Tryz.ntmps55;go_wp2_with(first
    | ((with_reducible refine sN 3 ?_);refine a0a rfl _ (.tmp 1) rfl cs rfl ?_;intro g w1 hg1 hg2 K1 L1)
    | ((with_reducible refine sN 6 ?_);refine b0a rfl _ rfl zs _ ZH ?_;intro h w2 hg3 hg4 Z2 L02;have K2:=hI (K1.out.over L02.out);have L2:=hI (step L1.out L02.out);have hgh:g≠h:=(by omega);have hhw:w.heap.size<=h:=(by have:=L1.out.size;omega);have gd:=FA.out _ _ K2.out)
    | ((with_reducible refine sT 31 ?_);refine h0a rfl _ (.tmp 31) (.tmp 30) rfl h 50 rfl _ zs (.string us) rfl Z2 HZ0 (by kernel_rfl) rfl ?_;intro w3 X3 O3 q3;rw[E1.out] at X3;have KS:Hid (Blk w3 g 34 cs):=K2.out.only O3.out hgh;have MS:Hid (Below w.heap.size w w3):=c0a L2.out O3.out hhw)
    | fail)
   refine(CK.out _).mono ?_;rintro e w' ⟨rfl,rfl⟩;go_wp2_with(first
    | ((with_reducible refine sN 36 ?_);refine o0a (by kernel_rfl) _ (.tmp 6) rfl h rfl _ ds X3 69 _ Tryz.underlying34 rfl n0a HDS ?_)
    | ((with_reducible refine sN 37 ?_);refine o0a (by kernel_rfl) _ (.tmp 3) rfl g rfl _ cs KS 69 _ Tryz.underlying34 rfl n0a HL ?_)
    | fail)
   refine(CS.out _ MS.out).mono ?_;rintro e w4 ⟨rfl,L4⟩;have K4:=hI (KS.out.over L4);have M4:=hI (step MS.out L4);have hs4:=M4.out.size;clear KS MS L4 X3 gd O3 q3;go_wp2;go_ret2;exact HQ.out _ _ rfl M4.out
  have HQ:=hI (HB1.out rfl);clear HB0 HB1;go_enter Tryz.func55,Tryz.ntmps55;go_wp2_with(first
   | ((with_reducible refine sN 3 ?_);refine a0a rfl _ (.tmp 1) rfl cs rfl ?_;intro g w1 hg1 hg2 K1 L1)
   | ((with_reducible refine sN 6 ?_);refine b0a rfl _ rfl zs _ ZH ?_;intro h w2 hg3 hg4 Z2 L02;have K2:=hI (K1.out.over L02.out);have L2:=hI (step L1.out L02.out);have hgh:g≠h:=(by omega);have hhw:w.heap.size<=h:=(by have:=L1.out.size;omega);have gd:=FA.out _ _ K2.out)
   | ((with_reducible refine sT 31 ?_);refine h0a rfl _ (.tmp 31) (.tmp 30) rfl h 50 rfl _ zs (.string us) rfl Z2 HZ0 (by kernel_rfl) rfl ?_;intro w3 X3 O3 q3;rw[E1.out] at X3;have KS:Hid (Blk w3 g 34 cs):=K2.out.only O3.out hgh;have MS:Hid (Below w.heap.size w w3):=c0a L2.out O3.out hhw)
   | fail)
  refine(CK.out _).mono ?_;rintro e w' ⟨rfl,rfl⟩;go_wp2_with(first
   | ((with_reducible refine sN 36 ?_);refine o0a (by kernel_rfl) _ (.tmp 6) rfl h rfl _ ds X3 69 _ Tryz.underlying34 rfl n0a HDS ?_)
   | ((with_reducible refine sN 37 ?_);refine o0a (by kernel_rfl) _ (.tmp 3) rfl g rfl _ cs KS 69 _ Tryz.underlying34 rfl n0a HL ?_)
   | fail)
  refine(CS.out _ MS.out).mono ?_;rintro e w4 ⟨rfl,L4⟩;have K4:=hI (KS.out.over L4);have M4:=hI (step MS.out L4);have hs4:=M4.out.size;clear KS MS L4 X3 gd O3 q3;have gd:=FA.out _ _ K4.out;go_wp2_with fail;refine(CT.out w4).mono ?_;rintro e w5 ⟨v5,rfl,ho5,L5⟩;have HO5:=hI ho5;have L5':=hI L5;clear ho5 L5;go_wp2;go_ret2;exact HQ.out _ _ ⟨_,rfl,HO5.out.mono hs4,step M4.out L5'.out⟩
 have b0:(c==0)=false:=by simpa using h0
 have b1:(c==1)=false:=by simpa using h1
 have b3:(c==3)=false:=by simpa using h3
 have ew:p4a c a=k0a:=by unfold p4a;rw[if_neg h0,if_neg h1,if_neg h3]
 have kw:=Q6a (c:=c) ka;rw[ew] at kw;have hbw:=S5a c a;rw[ew] at hbw;have CS:Hid (∀w':World,Below w.heap.size w w'->Calls Tryz.prog 26 #[.agg (l0a (.slice none 0 0) (.slice none 0 0) (.slice none 0 0) k0a).toArray,.agg cs.toArray] w' λe v=>e=.returned (.bool (decide (k0a=a)))/\Below w'.heap.size w' v):=λw' hb=>m5a w' _ _ _ _ kw ka (j2a w' _) (HA.out.over hb) ⟨Nat.zero_le _,Nat.zero_le _,Nat.zero_le _⟩ HLN.out
 have h2:k0a=a->g1a c a=0:=λhz=>by unfold g1a;rw[if_pos ⟨hk,hbw.2 hz⟩,if_neg h0,if_neg h1,if_neg h3]
 have HER:=hI (λhz:¬k0a=a=>HE.out (by unfold g1a;rw[if_neg (λh=>hz (hbw.1 h.2))]));have HQ:Hid (k0a=a->∀e w',(∃v,e=.returned (.tuple #[v,.int .i64 0])/\Own w' w.heap.size v (le 0 4)/\Below w.heap.size w w')->y2a w c a e w'):=by intro hz e w' hh;unfold y2a q3a;rw[h2 hz,if_pos rfl,if_neg h0,if_neg h1,if_neg h3];exact hh
 have C0:Hid (∀(w:World) (base:Nat) (v:Value) (xs:List Int),Own w base v xs->xs.length<=1000000->base<=w.heap.size->Calls Tryz.prog 94 #[v,.int .u64 0,.int .i64 4] w λe w'=>∃v,e=.returned v/\Own w' base v (xs++le 0 4)/\Below base w w'):=λw base v xs ho hx hb=>n8a w base v xs 0 4 (by decide) (by decide) (by decide) ho hx hb
 obtain⟨bw,hbw'⟩:∃b,b=decide (k0a=a):=⟨_,rfl⟩;rw[<-hbw'] at CS;have HB0:Hid (bw=false->∀e w',e=.returned (.tuple #[.slice none 0 0,.int .i64 2])->Below w.heap.size w w'->y2a w c a e w'):=λh=>HER.out (by rw[h] at hbw';simpa using hbw'.symm)
 have HB1:=hI (λh:bw=true=>HQ.out (by rw[h] at hbw';simpa using hbw'.symm));obtain⟨zs,hzs⟩:∃x,x=l0a (.slice none 0 0) (.slice none 0 0) (.slice none 0 0) k0a:=⟨_,rfl⟩;rw[<-hzs] at ZH HZ CS;clear hzs hbw' HQ HER h2 hbw HE HA ew kw ka hk ha HLN hlen h0 h1 h3 hu0 hu1;cases bw
 ·have HQ:=hI (HB0.out rfl);clear HB0 HB1;go_enter Tryz.func55,Tryz.ntmps55;go_wp2_with(first
   | ((with_reducible refine sN 3 ?_);refine a0a rfl _ (.tmp 1) rfl cs rfl ?_;intro g w1 hg1 hg2 K1 L1)
   | ((with_reducible refine sN 6 ?_);refine b0a rfl _ rfl zs _ ZH ?_;intro h w2 hg3 hg4 Z2 L02;have K2:=hI (K1.out.over L02.out);have L2:=hI (step L1.out L02.out);have hgh:g≠h:=(by omega);have hhw:w.heap.size<=h:=(by have:=L1.out.size;omega))
   | fail)
  refine(CK.out _).mono ?_;rintro e w' ⟨rfl,rfl⟩;have KS:=K2;have MS:=L2;go_wp2_with(first
   | ((with_reducible refine sN 36 ?_);refine o0a (by kernel_rfl) _ (.tmp 6) rfl h rfl _ zs Z2 69 _ Tryz.underlying34 rfl n0a HZ ?_)
   | ((with_reducible refine sN 37 ?_);refine o0a (by kernel_rfl) _ (.tmp 3) rfl g rfl _ cs KS 69 _ Tryz.underlying34 rfl n0a HL ?_)
   | fail)
  refine(CS.out _ MS.out).mono ?_;rintro e w4 ⟨rfl,L4⟩;have M4:=hI (step MS.out L4);have hs4:=M4.out.size;clear KS MS L4;go_wp2;go_ret2;exact HQ.out _ _ rfl M4.out
 have HQ:=hI (HB1.out rfl);clear HB0 HB1;go_enter Tryz.func55,Tryz.ntmps55;go_wp2_with(first
  | ((with_reducible refine sN 3 ?_);refine a0a rfl _ (.tmp 1) rfl cs rfl ?_;intro g w1 hg1 hg2 K1 L1)
  | ((with_reducible refine sN 6 ?_);refine b0a rfl _ rfl zs _ ZH ?_;intro h w2 hg3 hg4 Z2 L02;have K2:=hI (K1.out.over L02.out);have L2:=hI (step L1.out L02.out);have hgh:g≠h:=(by omega);have hhw:w.heap.size<=h:=(by have:=L1.out.size;omega))
  | fail)
 refine(CK.out _).mono ?_;rintro e w' ⟨rfl,rfl⟩;have KS:=K2;have MS:=L2;go_wp2_with(first
  | ((with_reducible refine sN 36 ?_);refine o0a (by kernel_rfl) _ (.tmp 6) rfl h rfl _ zs Z2 69 _ Tryz.underlying34 rfl n0a HZ ?_)
  | ((with_reducible refine sN 37 ?_);refine o0a (by kernel_rfl) _ (.tmp 3) rfl g rfl _ cs KS 69 _ Tryz.underlying34 rfl n0a HL ?_)
  | fail)
 refine(CS.out _ MS.out).mono ?_;rintro e w4 ⟨rfl,L4⟩;have M4:=hI (step MS.out L4);have hs4:=M4.out.size;clear KS MS L4;go_wp2_with fail;refine(C0.out w4 w4.heap.size _ [] (Own.nil _ _) (by simp) (Nat.le_refl _)).mono ?_;rintro e w5 ⟨v5,rfl,ho5,L5⟩;rw[List.nil_append] at ho5;have HO5:=hI ho5;have L5':=hI L5;clear ho5 L5;go_wp2;go_ret2;exact HQ.out _ _ ⟨_,rfl,HO5.out.mono hs4,step M4.out L5'.out⟩
theorem v7a(w:World)(c:Int)(hc:0<=c/\c<=65535):Calls Tryz.prog 52 #[.int .u16 c] w λe w'=>e=.returned (.bool (G1a c))/\w=w':=by
 unfold G1a;by_cases h5:5<=c
 ·rw[decide_eq_true h5,Bool.true_and];go_enter Tryz.func52,Tryz.ntmps52;go_wp2;go_ret;exact⟨rfl,rfl⟩
 ·have hd:decide (5<=c)=false:=decide_eq_false h5;rw[hd,Bool.false_and];go_enter Tryz.func52,Tryz.ntmps52;go_wp2;go_ret;exact⟨rfl,rfl⟩
theorem u3a(w:World)(base:Nat)(v:Value)(xs:List Int)(n:Int)(s:Nat)(M:Int)(hM:(256:Int)^s=M)(hM8:M<=18446744073709551616)(hs:B2a (s:Int)=true)(ho:Own w base v xs)(hx:xs.length<=1000000)(hb:base<=w.heap.size)(h0:0<=n)(h1:n<M) :
  Calls Tryz.prog 94 #[v,.int .u64 n,.int .i64 (s:Int)] w λe w'=>∃v',e=.returned v'/\Own w' base v' (xs++le n s)/\Below base w w':=by
 have hs8:s<=8:=by rcases F1a hs with h | h | h | h<;>omega
 have hp:V2a n (s:Int)=true:=by unfold V2a;rw[hs,Int.toNat_natCast,hM,decide_eq_true h1];rfl
 have e1:v2a n (s:Int)=le n s:=by unfold v2a;rw[if_pos hp,Int.toNat_natCast]
 have h:=s3b w base v xs n (s:Int) ⟨h0,by omega⟩ ho hx (by rw[e1,m0a];exact hs8) (by rw[e1];exact F0a _ _) hb;unfold Y8a at h;rw[e1] at h;exact h
theorem Y0a{P:Program}{fn:Func}{p:Tmp}{ty:TypeId}(h:fn.results=#[.cell p ty])(tmps:Array Value)(w:World)(g:Nat)(t:TypeId)(cs:Array Value)(fr:Nat×Nat)(d:TypeDesc)
(hp:tmps.getD p undef=.pointer (some ⟨g,0,none⟩))(hg:w.heap[g]? = some (.cells cs t fr))
(hu:P.underlying ty=some d)(hd:(match d with | .struct _ | .array _ _=>true | _=>false)=true)(hi:(P.info? ty).map (·.size)=some cs.size) :
  (results fn tmps).run P w=.ok (.agg cs) w:=by
 have hp':tmps[p]?.getD undef=.pointer (some ⟨g,0,none⟩):=by simpa using hp
 simp[results,h,hp',asAddr,run_loadVar_row w g t ty cs fr d hg hu hd hi]
theorem w1b{c:Int}{a:m1a}(k:a.ok):(c5a c a).ok:=by
 unfold c5a;split
 ·exact⟨f0a.dial,f0a.glen,f0a.gbyte,f0a.plen,f0a.pbyte,k.acc,k.shr,k.way,k.opt,k.lev,k.dur,k.file,f0a.at_,f0a.n,f0a.data,f0a.locks,f0a.most,f0a.cls,f0a.siz⟩
 ·split
  ·exact⟨f0a.dial,f0a.glen,f0a.gbyte,f0a.plen,f0a.pbyte,f0a.acc,f0a.shr,f0a.way,f0a.opt,f0a.lev,f0a.dur,k.file,k.at_,k.n,f0a.data,f0a.locks,f0a.most,f0a.cls,f0a.siz⟩
  ·split
   ·exact⟨f0a.dial,f0a.glen,f0a.gbyte,f0a.plen,f0a.pbyte,f0a.acc,f0a.shr,f0a.way,f0a.opt,f0a.lev,f0a.dur,k.file,k.at_,f0a.n,k.data,f0a.locks,f0a.most,f0a.cls,f0a.siz⟩
   ·split
    ·exact⟨f0a.dial,f0a.glen,f0a.gbyte,f0a.plen,f0a.pbyte,f0a.acc,f0a.shr,f0a.way,f0a.opt,f0a.lev,f0a.dur,k.file,f0a.at_,f0a.n,f0a.data,k.locks,f0a.most,f0a.cls,f0a.siz⟩
    ·exact⟨f0a.dial,f0a.glen,f0a.gbyte,f0a.plen,f0a.pbyte,f0a.acc,f0a.shr,f0a.way,f0a.opt,f0a.lev,f0a.dur,k.file,f0a.at_,f0a.n,f0a.data,f0a.locks,f0a.most,f0a.cls,f0a.siz⟩
theorem Z5b(w:World)(c:Int)(cs:List Value)(a:m1a)(hc:0<=c/\c<=65535)(hk:G1a c=true)(ka:a.ok)(ha:b1a w w.heap.size cs a) :
  Calls Tryz.prog 99 #[.int .u16 c,.agg cs.toArray] w λe w'=>∃ds:List Value,e=.returned (.agg ds.toArray)/\b1a w' w'.heap.size ds (c5a c a)/\Below w.heap.size w w':=by
 have HL:=hI (ha.len ka);have HA:=hI ha;have ZH:=hI G5a;have HZ:Hid ((l0a (.slice none 0 0) (.slice none 0 0) (.slice none 0 0) k0a).length=69):=h1a f0a;have HZ1:Hid (∀v∈l0a (.slice none 0 0) (.slice none 0 0) (.slice none 0 0) k0a,v.oneCell'=true):=(j2a w 0).one;have BF:Tryz.prog.built 34 [(11,.int .u64 a.file)]=some (l0a (.slice none 0 0) (.slice none 0 0) (.slice none 0 0) { k0a with file:=a.file }).toArray:=by kernel_rfl
 have HF0:Hid ((l0a (.slice none 0 0) (.slice none 0 0) (.slice none 0 0) { k0a with file:=a.file }).length=69):=h1a (w1b (c:=6) ka);have HF1:Hid (∀v∈l0a (.slice none 0 0) (.slice none 0 0) (.slice none 0 0) { k0a with file:=a.file },v.oneCell'=true):=D1a rfl rfl rfl;obtain⟨A1,A2,A3,X1,X2,X3,M1,M2,M3,hcs,hA,hX,hM⟩:=ha;have FC:Hid (∀(w:World) (g:Nat),Blk w g 34 cs->w.cell? ⟨g,51,none⟩=some (.int .u32 a.acc)/\w.cell? ⟨g,52,none⟩=some (.int .u32 a.shr)/\w.cell? ⟨g,53,none⟩=some (.int .u32 a.way)/\w.cell? ⟨g,54,none⟩=some (.int .u32 a.opt)/\w.cell? ⟨g,55,none⟩=some (.int .u8 a.lev)/\w.cell? ⟨g,56,none⟩=some (.int .u8 a.dur)/\w.cell? ⟨g,57,none⟩=some (.int .u64 a.file)/\w.cell? ⟨g,58,none⟩=some (.string a.name)/\w.cell? ⟨g,59,none⟩=some (.int .u64 a.at_)/\w.cell? ⟨g,60,none⟩=some (.int .u32 a.n)/\w.cell? ⟨g,61,none⟩=some (.slice X1 X2 X3)/\w.cell? ⟨g,62,none⟩=some (.slice M1 M2 M3)):=λw g h=>by rw[hcs] at h;exact⟨h.at (j0a ka 2),h.at (j0a ka 3),h.at (j0a ka 4),h.at (j0a ka 5),h.at (j0a ka 6),h.at (j0a ka 7),h.at (j0a ka 8),h.at (j0a ka 9),h.at (j0a ka 10),h.at (j0a ka 11),h.at (j0a ka 12),h.at (j0a ka 13)⟩
 have HX:=hI hX;have HM:=hI hM;obtain⟨zs,hzs⟩:∃x,x=l0a (.slice none 0 0) (.slice none 0 0) (.slice none 0 0) k0a:=⟨_,rfl⟩;rw[<-hzs] at ZH HZ HZ1;obtain⟨C0,hC0⟩:∃x,x=l0a (.slice none 0 0) (.slice none 0 0) (.slice none 0 0) { k0a with file:=a.file }:=⟨_,rfl⟩;have HC0:=hI hC0;rw[<-hC0] at BF HF0 HF1;have hcc:c=5∨c=6∨c=7∨c=8∨c=9∨c=10:=by unfold G1a at hk;simp at hk;omega
 clear hzs hC0 hA hX hM hcs hk ka HA;rcases hcc with h5 | h6 | h7 | h8 | h9 | h10
 ·subst h5;go_enter Tryz.func99,Tryz.ntmps99;go_upto_region 4 with(first
   | ((with_reducible refine sN 3 ?_);refine a0a rfl _ (.tmp 1) rfl cs rfl ?_;intro g w1 hg1 hg2 K1 L1)
   | ((with_reducible refine sN 4 ?_);refine b0a rfl _ rfl zs _ ZH ?_;intro r w2 hg3 hg4 R2 L02;have K2:=hI (K1.out.over L02.out);have L2:=hI (step L1.out L02.out);obtain⟨c51,c52,c53,c54,c55,c56,c57,c58,c59,c60,c61,c62⟩:=FC.out w2 g K2.out;have hsz2:=L2.out.size;have hgr:g≠r:=(by omega);have hwr:w.heap.size<=r:=(by have:=L1.out.size;omega))
   | ((with_reducible refine sN 8 ?_);refine x0a rfl _ _ rfl C0 (by refine Eq.trans ?_ BF;kernel_rfl) ?_)
   | ((with_reducible refine sN 5 ?_);refine b0a rfl _ rfl zs _ ZH ?_;intro h w3 hg5 hg6 X3' L03;have K3:=hI (K2.out.over L03.out);have R3:=hI (R2.out.over L03.out);have L3:=hI (step L2.out L03.out);have hgh:g≠h:=(by have:=K2.out.lt;omega);have hrh:r≠h:=(by have:=R2.out.lt;omega);have hwh:w.heap.size<=h:=(by omega))
   | ((with_reducible refine sT 5 ?_);refine e0a rfl _ (.tmp 5) (.tmp 8) rfl h rfl _ zs C0 rfl X3' 69 n0a HZ HF0 HF1 ?_;intro w4 X0 O4 hg7;have K4:=hI (K3.out.only O4.out hgh);have R4:=hI (R3.out.only O4.out hrh);have L4:=hI (c0a L3.out O4.out hwh);clear c51 c52 c53 c54 c55 c56 c57 c58 c59 c60 c61 c62;obtain⟨c51,c52,c53,c54,c55,c56,c57,c58,c59,c60,c61,c62⟩:=FC.out w4 g K4.out)
   | fail)
  refine wp_region_held (S:=λw'=>Blk w' g 34 cs) (by kernel_rfl) ?_;change wpAnyH _ _ _ _ _ _ _ _ w4.drew
  have S0_0:Hid (Blk w4.drew g 34 cs):=K4.out.drew;have X0d:=hI (Blk.drew X0.out);have R0d:=hI (Blk.drew R4.out);have L0d:=hI (L4.out.drew);refine tK 0 _ rfl (g0a (by kernel_rfl) _ (.tmp 3) 5 rfl (.pointer (some ⟨g,0,none⟩)) (.pointer (some ⟨g,51,none⟩)) (by kernel_rfl) (F4a g)) S0_0.out ?_;refine tK 1 _ rfl (i0a (by kernel_rfl) _ (.tmp 12) rfl g 51 (by kernel_rfl) (.int .u32 a.acc) (λw h=>(FC.out w g h).1) _ Tryz.underlying23 rfl) S0_0.out ?_;refine tK 2 _ rfl (g0a (by kernel_rfl) _ (.tmp 3) 6 rfl (.pointer (some ⟨g,0,none⟩)) (.pointer (some ⟨g,52,none⟩)) (by kernel_rfl) (G4a g)) S0_0.out ?_;refine tK 3 _ rfl (i0a (by kernel_rfl) _ (.tmp 14) rfl g 52 (by kernel_rfl) (.int .u32 a.shr) (λw h=>(FC.out w g h).2.1) _ Tryz.underlying23 rfl) S0_0.out ?_;refine tK 4 _ rfl (g0a (by kernel_rfl) _ (.tmp 3) 7 rfl (.pointer (some ⟨g,0,none⟩)) (.pointer (some ⟨g,53,none⟩)) (by kernel_rfl) (H4a g)) S0_0.out ?_;refine tK 5 _ rfl (i0a (by kernel_rfl) _ (.tmp 16) rfl g 53 (by kernel_rfl) (.int .u32 a.way) (λw h=>(FC.out w g h).2.2.1) _ Tryz.underlying23 rfl) S0_0.out ?_;refine tK 6 _ rfl (g0a (by kernel_rfl) _ (.tmp 3) 8 rfl (.pointer (some ⟨g,0,none⟩)) (.pointer (some ⟨g,54,none⟩)) (by kernel_rfl) (I4a g)) S0_0.out ?_;refine tK 7 _ rfl (i0a (by kernel_rfl) _ (.tmp 18) rfl g 54 (by kernel_rfl) (.int .u32 a.opt) (λw h=>(FC.out w g h).2.2.2.1) _ Tryz.underlying23 rfl) S0_0.out ?_;refine tK 8 _ rfl (g0a (by kernel_rfl) _ (.tmp 5) 5 rfl (.pointer (some ⟨h,0,none⟩)) (.pointer (some ⟨h,51,none⟩)) (by kernel_rfl) (F4a h)) S0_0.out ?_;refine y0a λfr1 hfr1=>?_
  have ex1:fr1.eval (.tmp 20)=.pointer (some ⟨h,51,none⟩):=by rw[hfr1];kernel_rfl
  have ey1:fr1.eval (.tmp 13)=(.int .u32 a.acc):=by rw[hfr1];kernel_rfl
  refine oN 9 _ rfl λK hK=>?_
  refine A0a rfl _ (.tmp 20) (.tmp 13) rfl h 51 ex1 _ C0 (.int .u32 a.acc) ey1 X0d (hI (by have:=HF0.out;omega)) (by kernel_rfl) rfl ?_;intro x1 XS1 O1 hq1;obtain⟨C1,hC1⟩:∃x,x=C0.set 51 (.int .u32 a.acc):=⟨_,rfl⟩;have HC1:=hI hC1;have HL1:Hid (C1.length=69):=by show _=_;rw[hC1,List.length_set];exact HF0.out
  rw[<-hC1] at XS1;have ST1:=hI (Blk.only S0_0.out O1.out hgh);have RT1:=hI (Blk.only R0d.out O1.out hrh);have LT1:=hI (c0a L0d.out O1.out hwh);refine hK _ _ ST1.out ?_;clear hK K ex1 ey1 hC1;change wpAnyH _ _ _ _ _ _ _ fr1 x1
  subst hfr1;refine tK 10 _ rfl (g0a (by kernel_rfl) _ (.tmp 5) 6 rfl (.pointer (some ⟨h,0,none⟩)) (.pointer (some ⟨h,52,none⟩)) (by kernel_rfl) (G4a h)) ST1.out ?_;refine y0a λfr2 hfr2=>?_
  have ex2:fr2.eval (.tmp 21)=.pointer (some ⟨h,52,none⟩):=by rw[hfr2];kernel_rfl
  have ey2:fr2.eval (.tmp 15)=(.int .u32 a.shr):=by rw[hfr2];kernel_rfl
  refine oN 11 _ rfl λK hK=>?_
  refine A0a rfl _ (.tmp 21) (.tmp 15) rfl h 52 ex2 _ C1 (.int .u32 a.shr) ey2 XS1 (hI (by have:=HL1.out;omega)) (by kernel_rfl) rfl ?_;intro x2 XS2 O2 hq2;obtain⟨C2,hC2⟩:∃x,x=C1.set 52 (.int .u32 a.shr):=⟨_,rfl⟩;have HC2:=hI hC2;have HL2:Hid (C2.length=69):=by show _=_;rw[hC2,List.length_set];exact HL1.out
  rw[<-hC2] at XS2;have ST2:=hI (Blk.only ST1.out O2.out hgh);have RT2:=hI (Blk.only RT1.out O2.out hrh);have LT2:=hI (c0a LT1.out O2.out hwh);refine hK _ _ ST2.out ?_;clear hK K ex2 ey2 hC2;change wpAnyH _ _ _ _ _ _ _ fr2 x2
  subst hfr2;refine tK 12 _ rfl (g0a (by kernel_rfl) _ (.tmp 5) 7 rfl (.pointer (some ⟨h,0,none⟩)) (.pointer (some ⟨h,53,none⟩)) (by kernel_rfl) (H4a h)) ST2.out ?_;refine y0a λfr3 hfr3=>?_
  have ex3:fr3.eval (.tmp 22)=.pointer (some ⟨h,53,none⟩):=by rw[hfr3];kernel_rfl
  have ey3:fr3.eval (.tmp 17)=(.int .u32 a.way):=by rw[hfr3];kernel_rfl
  refine oN 13 _ rfl λK hK=>?_
  refine A0a rfl _ (.tmp 22) (.tmp 17) rfl h 53 ex3 _ C2 (.int .u32 a.way) ey3 XS2 (hI (by have:=HL2.out;omega)) (by kernel_rfl) rfl ?_;intro x3 XS3 O3 hq3;obtain⟨C3,hC3⟩:∃x,x=C2.set 53 (.int .u32 a.way):=⟨_,rfl⟩;have HC3:=hI hC3;have HL3:Hid (C3.length=69):=by show _=_;rw[hC3,List.length_set];exact HL2.out
  rw[<-hC3] at XS3;have ST3:=hI (Blk.only ST2.out O3.out hgh);have RT3:=hI (Blk.only RT2.out O3.out hrh);have LT3:=hI (c0a LT2.out O3.out hwh);refine hK _ _ ST3.out ?_;clear hK K ex3 ey3 hC3;change wpAnyH _ _ _ _ _ _ _ fr3 x3
  subst hfr3;refine tK 14 _ rfl (g0a (by kernel_rfl) _ (.tmp 5) 8 rfl (.pointer (some ⟨h,0,none⟩)) (.pointer (some ⟨h,54,none⟩)) (by kernel_rfl) (I4a h)) ST3.out ?_;refine y0a λfr4 hfr4=>?_
  have ex4:fr4.eval (.tmp 23)=.pointer (some ⟨h,54,none⟩):=by rw[hfr4];kernel_rfl
  have ey4:fr4.eval (.tmp 19)=(.int .u32 a.opt):=by rw[hfr4];kernel_rfl
  refine oN 15 _ rfl λK hK=>?_
  refine A0a rfl _ (.tmp 23) (.tmp 19) rfl h 54 ex4 _ C3 (.int .u32 a.opt) ey4 XS3 (hI (by have:=HL3.out;omega)) (by kernel_rfl) rfl ?_;intro x4 XS4 O4 hq4;obtain⟨C4,hC4⟩:∃x,x=C3.set 54 (.int .u32 a.opt):=⟨_,rfl⟩;have HC4:=hI hC4;have HL4:Hid (C4.length=69):=by show _=_;rw[hC4,List.length_set];exact HL3.out
  rw[<-hC4] at XS4;have ST4:=hI (Blk.only ST3.out O4.out hgh);have RT4:=hI (Blk.only RT3.out O4.out hrh);have LT4:=hI (c0a LT3.out O4.out hwh);refine hK _ _ ST4.out ?_;clear hK K ex4 ey4 hC4;change wpAnyH _ _ _ _ _ _ _ fr4 x4
  subst hfr4;refine dN ?_;go_simp;have Kr1:=hI ST4.out;go_upto_region 5 with fail
  refine wp_region_held (S:=λw'=>Blk w' g 34 cs) (by kernel_rfl) ?_;change wpAnyH _ _ _ _ _ _ _ _ x4.drew
  have S1_0:Hid (Blk x4.drew g 34 cs):=Kr1.out.drew;have X1d:=hI (Blk.drew XS4.out);have R1d:=hI (Blk.drew RT4.out);have L1d:=hI (LT4.out.drew);refine tK 0 _ rfl (g0a (by kernel_rfl) _ (.tmp 3) 9 rfl (.pointer (some ⟨g,0,none⟩)) (.pointer (some ⟨g,55,none⟩)) (by kernel_rfl) (H3a g)) S1_0.out ?_;refine tK 1 _ rfl (i0a (by kernel_rfl) _ (.tmp 24) rfl g 55 (by kernel_rfl) (.int .u8 a.lev) (λw h=>(FC.out w g h).2.2.2.2.1) _ Tryz.underlying5 rfl) S1_0.out ?_;refine tK 2 _ rfl (g0a (by kernel_rfl) _ (.tmp 3) 10 rfl (.pointer (some ⟨g,0,none⟩)) (.pointer (some ⟨g,56,none⟩)) (by kernel_rfl) (s3a g)) S1_0.out ?_;refine tK 3 _ rfl (i0a (by kernel_rfl) _ (.tmp 26) rfl g 56 (by kernel_rfl) (.int .u8 a.dur) (λw h=>(FC.out w g h).2.2.2.2.2.1) _ Tryz.underlying5 rfl) S1_0.out ?_;refine tK 4 _ rfl (g0a (by kernel_rfl) _ (.tmp 3) 12 rfl (.pointer (some ⟨g,0,none⟩)) (.pointer (some ⟨g,58,none⟩)) (by kernel_rfl) (i4a g)) S1_0.out ?_;refine tK 5 _ rfl (i0a (by kernel_rfl) _ (.tmp 28) rfl g 58 (by kernel_rfl) (.string a.name) (λw h=>(FC.out w g h).2.2.2.2.2.2.2.1) _ Tryz.underlying9 rfl) S1_0.out ?_;refine tK 6 _ rfl (g0a (by kernel_rfl) _ (.tmp 5) 9 rfl (.pointer (some ⟨h,0,none⟩)) (.pointer (some ⟨h,55,none⟩)) (by kernel_rfl) (H3a h)) S1_0.out ?_;refine y0a λfr5 hfr5=>?_
  have ex5:fr5.eval (.tmp 30)=.pointer (some ⟨h,55,none⟩):=by rw[hfr5];kernel_rfl
  have ey5:fr5.eval (.tmp 25)=(.int .u8 a.lev):=by rw[hfr5];kernel_rfl
  refine oN 7 _ rfl λK hK=>?_
  refine A0a rfl _ (.tmp 30) (.tmp 25) rfl h 55 ex5 _ C4 (.int .u8 a.lev) ey5 X1d (hI (by have:=HL4.out;omega)) (by kernel_rfl) rfl ?_;intro x5 XS5 O5 hq5;obtain⟨C5,hC5⟩:∃x,x=C4.set 55 (.int .u8 a.lev):=⟨_,rfl⟩;have HC5:=hI hC5;have HL5:Hid (C5.length=69):=by show _=_;rw[hC5,List.length_set];exact HL4.out
  rw[<-hC5] at XS5;have ST5:=hI (Blk.only S1_0.out O5.out hgh);have RT5:=hI (Blk.only R1d.out O5.out hrh);have LT5:=hI (c0a L1d.out O5.out hwh);refine hK _ _ ST5.out ?_;clear hK K ex5 ey5 hC5;change wpAnyH _ _ _ _ _ _ _ fr5 x5
  subst hfr5;refine tK 8 _ rfl (g0a (by kernel_rfl) _ (.tmp 5) 10 rfl (.pointer (some ⟨h,0,none⟩)) (.pointer (some ⟨h,56,none⟩)) (by kernel_rfl) (s3a h)) ST5.out ?_;refine y0a λfr6 hfr6=>?_
  have ex6:fr6.eval (.tmp 31)=.pointer (some ⟨h,56,none⟩):=by rw[hfr6];kernel_rfl
  have ey6:fr6.eval (.tmp 27)=(.int .u8 a.dur):=by rw[hfr6];kernel_rfl
  refine oN 9 _ rfl λK hK=>?_
  refine A0a rfl _ (.tmp 31) (.tmp 27) rfl h 56 ex6 _ C5 (.int .u8 a.dur) ey6 XS5 (hI (by have:=HL5.out;omega)) (by kernel_rfl) rfl ?_;intro x6 XS6 O6 hq6;obtain⟨C6,hC6⟩:∃x,x=C5.set 56 (.int .u8 a.dur):=⟨_,rfl⟩;have HC6:=hI hC6;have HL6:Hid (C6.length=69):=by show _=_;rw[hC6,List.length_set];exact HL5.out
  rw[<-hC6] at XS6;have ST6:=hI (Blk.only ST5.out O6.out hgh);have RT6:=hI (Blk.only RT5.out O6.out hrh);have LT6:=hI (c0a LT5.out O6.out hwh);refine hK _ _ ST6.out ?_;clear hK K ex6 ey6 hC6;change wpAnyH _ _ _ _ _ _ _ fr6 x6
  subst hfr6;refine tK 10 _ rfl (g0a (by kernel_rfl) _ (.tmp 5) 12 rfl (.pointer (some ⟨h,0,none⟩)) (.pointer (some ⟨h,58,none⟩)) (by kernel_rfl) (i4a h)) ST6.out ?_;refine y0a λfr7 hfr7=>?_
  have ex7:fr7.eval (.tmp 32)=.pointer (some ⟨h,58,none⟩):=by rw[hfr7];kernel_rfl
  have ey7:fr7.eval (.tmp 29)=(.string a.name):=by rw[hfr7];kernel_rfl
  refine oN 11 _ rfl λK hK=>?_
  refine A0a rfl _ (.tmp 32) (.tmp 29) rfl h 58 ex7 _ C6 (.string a.name) ey7 XS6 (hI (by have:=HL6.out;omega)) (by kernel_rfl) rfl ?_;intro x7 XS7 O7 hq7;obtain⟨C7,hC7⟩:∃x,x=C6.set 58 (.string a.name):=⟨_,rfl⟩;have HC7:=hI hC7;have HL7:Hid (C7.length=69):=by show _=_;rw[hC7,List.length_set];exact HL6.out
  rw[<-hC7] at XS7;have ST7:=hI (Blk.only ST6.out O7.out hgh);have RT7:=hI (Blk.only RT6.out O7.out hrh);have LT7:=hI (c0a LT6.out O7.out hwh);refine hK _ _ ST7.out ?_;clear hK K ex7 ey7 hC7;change wpAnyH _ _ _ _ _ _ _ fr7 x7
  subst hfr7;refine dN ?_;go_simp;have Kr2:=hI ST7.out;have H1C:Hid (∀v∈C7,v.oneCell'=true):=by
   show _
   have hh:C7=l0a (.slice none 0 0) (.slice none 0 0) (.slice none 0 0) { k0a with file:=a.file,acc:=a.acc,shr:=a.shr,way:=a.way,opt:=a.opt,lev:=a.lev,dur:=a.dur,name:=a.name }:=by rw[HC7.out,HC6.out,HC5.out,HC4.out,HC3.out,HC2.out,HC1.out,HC0.out];rfl
   rw[hh];exact D1a rfl rfl rfl
  go_wp2_with(first
   | ((with_reducible refine sN 54 ?_);refine d0a rfl _ (.tmp 5) rfl h rfl _ C7 XS7 69 _ Tryz.underlying34 rfl n0a HL7 ?_)
   | ((with_reducible refine sT 4 ?_);refine e0a rfl _ (.tmp 4) (.tmp 54) rfl r rfl _ zs C7 rfl RT7 69 n0a HZ HL7 H1C ?_;intro w9 K9 O9 hg9)
   | fail)
  have HEQ:C7=l0a (.slice none 0 0) (.slice none 0 0) (.slice none 0 0) (c5a 5 a):=by rw[HC7.out,HC6.out,HC5.out,HC4.out,HC3.out,HC2.out,HC1.out,HC0.out];rfl
  have LF:Below w.heap.size w w9:=c0a LT7.out O9.out hwr;refine bodyPost_ret (v:=.agg C7.toArray) ?_ rfl ⟨_,rfl,⟨none,0,0,none,0,0,none,0,0,HEQ,o1a.nil _ _ _,Holds.nil _ _,T0a.nil _ _ _ _⟩,LF⟩;exact Y0a rfl _ _ r _ _ (0,0) _ rfl K9.out Tryz.underlying34 rfl (by rw[n0a];have:=HL7.out;simp[this])
 ·subst h6;go_enter Tryz.func99,Tryz.ntmps99;go_wp2_with(first
   | ((with_reducible refine sN 3 ?_);refine a0a rfl _ (.tmp 1) rfl cs rfl ?_;intro g w1 hg1 hg2 K1 L1)
   | ((with_reducible refine sN 4 ?_);refine b0a rfl _ rfl zs _ ZH ?_;intro r w2 hg3 hg4 R2 L02;have K2:=hI (K1.out.over L02.out);have L2:=hI (step L1.out L02.out);obtain⟨c51,c52,c53,c54,c55,c56,c57,c58,c59,c60,c61,c62⟩:=FC.out w2 g K2.out;have hsz2:=L2.out.size;have hgr:g≠r:=(by omega);have hwr:w.heap.size<=r:=(by have:=L1.out.size;omega))
   | ((with_reducible refine sN 8 ?_);refine x0a rfl _ _ rfl C0 (by refine Eq.trans ?_ BF;kernel_rfl) ?_)
   | ((with_reducible refine sN 5 ?_);refine b0a rfl _ rfl zs _ ZH ?_;intro h w3 hg5 hg6 X3' L03;have K3:=hI (K2.out.over L03.out);have R3:=hI (R2.out.over L03.out);have L3:=hI (step L2.out L03.out);have hgh:g≠h:=(by have:=K2.out.lt;omega);have hrh:r≠h:=(by have:=R2.out.lt;omega);have hwh:w.heap.size<=h:=(by omega))
   | ((with_reducible refine sT 5 ?_);refine e0a rfl _ (.tmp 5) (.tmp 8) rfl h rfl _ zs C0 rfl X3' 69 n0a HZ HF0 HF1 ?_;intro w4 X0 O4 hg7;have K4:=hI (K3.out.only O4.out hgh);have R4:=hI (R3.out.only O4.out hrh);have L4:=hI (c0a L3.out O4.out hwh);clear c51 c52 c53 c54 c55 c56 c57 c58 c59 c60 c61 c62;obtain⟨c51,c52,c53,c54,c55,c56,c57,c58,c59,c60,c61,c62⟩:=FC.out w4 g K4.out)
   | ((with_reducible refine sN 54 ?_);refine d0a rfl _ (.tmp 5) rfl h rfl _ C0 X0 69 _ Tryz.underlying34 rfl n0a HF0 ?_)
   | ((with_reducible refine sT 4 ?_);refine e0a rfl _ (.tmp 4) (.tmp 54) rfl r rfl _ zs C0 rfl R4 69 n0a HZ HF0 HF1 ?_;intro w9 K9 O9 hg9)
   | fail)
  have HEQ:C0=l0a (.slice none 0 0) (.slice none 0 0) (.slice none 0 0) (c5a 6 a):=by rw[HC0.out];rfl
  have LF:Below w.heap.size w w9:=c0a L4.out O9.out hwr;refine bodyPost_ret (v:=.agg C0.toArray) ?_ rfl ⟨_,rfl,⟨none,0,0,none,0,0,none,0,0,HEQ,o1a.nil _ _ _,Holds.nil _ _,T0a.nil _ _ _ _⟩,LF⟩;exact Y0a rfl _ _ r _ _ (0,0) _ rfl K9.out Tryz.underlying34 rfl (by rw[n0a];have:=HF0.out;simp[this])
 ·subst h7;go_enter Tryz.func99,Tryz.ntmps99;go_wp2_with(first
   | ((with_reducible refine sN 3 ?_);refine a0a rfl _ (.tmp 1) rfl cs rfl ?_;intro g w1 hg1 hg2 K1 L1)
   | ((with_reducible refine sN 4 ?_);refine b0a rfl _ rfl zs _ ZH ?_;intro r w2 hg3 hg4 R2 L02;have K2:=hI (K1.out.over L02.out);have L2:=hI (step L1.out L02.out);obtain⟨c51,c52,c53,c54,c55,c56,c57,c58,c59,c60,c61,c62⟩:=FC.out w2 g K2.out;have hsz2:=L2.out.size;have hgr:g≠r:=(by omega);have hwr:w.heap.size<=r:=(by have:=L1.out.size;omega))
   | ((with_reducible refine sN 8 ?_);refine x0a rfl _ _ rfl C0 (by refine Eq.trans ?_ BF;kernel_rfl) ?_)
   | ((with_reducible refine sN 5 ?_);refine b0a rfl _ rfl zs _ ZH ?_;intro h w3 hg5 hg6 X3' L03;have K3:=hI (K2.out.over L03.out);have R3:=hI (R2.out.over L03.out);have L3:=hI (step L2.out L03.out);have hgh:g≠h:=(by have:=K2.out.lt;omega);have hrh:r≠h:=(by have:=R2.out.lt;omega);have hwh:w.heap.size<=h:=(by omega))
   | ((with_reducible refine sT 5 ?_);refine e0a rfl _ (.tmp 5) (.tmp 8) rfl h rfl _ zs C0 rfl X3' 69 n0a HZ HF0 HF1 ?_;intro w4 X0 O4 hg7;have K4:=hI (K3.out.only O4.out hgh);have R4:=hI (R3.out.only O4.out hrh);have L4:=hI (c0a L3.out O4.out hwh);clear c51 c52 c53 c54 c55 c56 c57 c58 c59 c60 c61 c62;obtain⟨c51,c52,c53,c54,c55,c56,c57,c58,c59,c60,c61,c62⟩:=FC.out w4 g K4.out)
   | ((with_reducible refine sN 54 ?_);refine d0a rfl _ (.tmp 5) rfl h rfl _ C0 X0 69 _ Tryz.underlying34 rfl n0a HF0 ?_)
   | ((with_reducible refine sT 4 ?_);refine e0a rfl _ (.tmp 4) (.tmp 54) rfl r rfl _ zs C0 rfl R4 69 n0a HZ HF0 HF1 ?_;intro w9 K9 O9 hg9)
   | fail)
  have HEQ:C0=l0a (.slice none 0 0) (.slice none 0 0) (.slice none 0 0) (c5a 7 a):=by rw[HC0.out];rfl
  have LF:Below w.heap.size w w9:=c0a L4.out O9.out hwr;refine bodyPost_ret (v:=.agg C0.toArray) ?_ rfl ⟨_,rfl,⟨none,0,0,none,0,0,none,0,0,HEQ,o1a.nil _ _ _,Holds.nil _ _,T0a.nil _ _ _ _⟩,LF⟩;exact Y0a rfl _ _ r _ _ (0,0) _ rfl K9.out Tryz.underlying34 rfl (by rw[n0a];have:=HF0.out;simp[this])
 ·subst h8;go_enter Tryz.func99,Tryz.ntmps99;go_upto_region 7 with(first
   | ((with_reducible refine sN 3 ?_);refine a0a rfl _ (.tmp 1) rfl cs rfl ?_;intro g w1 hg1 hg2 K1 L1)
   | ((with_reducible refine sN 4 ?_);refine b0a rfl _ rfl zs _ ZH ?_;intro r w2 hg3 hg4 R2 L02;have K2:=hI (K1.out.over L02.out);have L2:=hI (step L1.out L02.out);obtain⟨c51,c52,c53,c54,c55,c56,c57,c58,c59,c60,c61,c62⟩:=FC.out w2 g K2.out;have hsz2:=L2.out.size;have hgr:g≠r:=(by omega);have hwr:w.heap.size<=r:=(by have:=L1.out.size;omega))
   | ((with_reducible refine sN 8 ?_);refine x0a rfl _ _ rfl C0 (by refine Eq.trans ?_ BF;kernel_rfl) ?_)
   | ((with_reducible refine sN 5 ?_);refine b0a rfl _ rfl zs _ ZH ?_;intro h w3 hg5 hg6 X3' L03;have K3:=hI (K2.out.over L03.out);have R3:=hI (R2.out.over L03.out);have L3:=hI (step L2.out L03.out);have hgh:g≠h:=(by have:=K2.out.lt;omega);have hrh:r≠h:=(by have:=R2.out.lt;omega);have hwh:w.heap.size<=h:=(by omega))
   | ((with_reducible refine sT 5 ?_);refine e0a rfl _ (.tmp 5) (.tmp 8) rfl h rfl _ zs C0 rfl X3' 69 n0a HZ HF0 HF1 ?_;intro w4 X0 O4 hg7;have K4:=hI (K3.out.only O4.out hgh);have R4:=hI (R3.out.only O4.out hrh);have L4:=hI (c0a L3.out O4.out hwh);clear c51 c52 c53 c54 c55 c56 c57 c58 c59 c60 c61 c62;obtain⟨c51,c52,c53,c54,c55,c56,c57,c58,c59,c60,c61,c62⟩:=FC.out w4 g K4.out)
   | fail)
  refine wp_region_held (S:=λw'=>Blk w' g 34 cs) (by kernel_rfl) ?_;change wpAnyH _ _ _ _ _ _ _ _ w4.drew
  have S0_0:Hid (Blk w4.drew g 34 cs):=K4.out.drew;have X0d:=hI (Blk.drew X0.out);have R0d:=hI (Blk.drew R4.out);have L0d:=hI (L4.out.drew);refine tK 0 _ rfl (g0a (by kernel_rfl) _ (.tmp 3) 13 rfl (.pointer (some ⟨g,0,none⟩)) (.pointer (some ⟨g,59,none⟩)) (by kernel_rfl) (a2a g)) S0_0.out ?_;refine tK 1 _ rfl (i0a (by kernel_rfl) _ (.tmp 35) rfl g 59 (by kernel_rfl) (.int .u64 a.at_) (λw h=>(FC.out w g h).2.2.2.2.2.2.2.2.1) _ Tryz.underlying25 rfl) S0_0.out ?_;refine tK 2 _ rfl (g0a (by kernel_rfl) _ (.tmp 3) 14 rfl (.pointer (some ⟨g,0,none⟩)) (.pointer (some ⟨g,60,none⟩)) (by kernel_rfl) (t3a g)) S0_0.out ?_;refine tK 3 _ rfl (i0a (by kernel_rfl) _ (.tmp 37) rfl g 60 (by kernel_rfl) (.int .u32 a.n) (λw h=>(FC.out w g h).2.2.2.2.2.2.2.2.2.1) _ Tryz.underlying23 rfl) S0_0.out ?_;refine tK 4 _ rfl (g0a (by kernel_rfl) _ (.tmp 5) 13 rfl (.pointer (some ⟨h,0,none⟩)) (.pointer (some ⟨h,59,none⟩)) (by kernel_rfl) (a2a h)) S0_0.out ?_;refine y0a λfr1 hfr1=>?_
  have ex1:fr1.eval (.tmp 39)=.pointer (some ⟨h,59,none⟩):=by rw[hfr1];kernel_rfl
  have ey1:fr1.eval (.tmp 36)=(.int .u64 a.at_):=by rw[hfr1];kernel_rfl
  refine oN 5 _ rfl λK hK=>?_
  refine A0a rfl _ (.tmp 39) (.tmp 36) rfl h 59 ex1 _ C0 (.int .u64 a.at_) ey1 X0d (hI (by have:=HF0.out;omega)) (by kernel_rfl) rfl ?_;intro x1 XS1 O1 hq1;obtain⟨C1,hC1⟩:∃x,x=C0.set 59 (.int .u64 a.at_):=⟨_,rfl⟩;have HC1:=hI hC1;have HL1:Hid (C1.length=69):=by show _=_;rw[hC1,List.length_set];exact HF0.out
  rw[<-hC1] at XS1;have ST1:=hI (Blk.only S0_0.out O1.out hgh);have RT1:=hI (Blk.only R0d.out O1.out hrh);have LT1:=hI (c0a L0d.out O1.out hwh);refine hK _ _ ST1.out ?_;clear hK K ex1 ey1 hC1;change wpAnyH _ _ _ _ _ _ _ fr1 x1
  subst hfr1;refine tK 6 _ rfl (g0a (by kernel_rfl) _ (.tmp 5) 14 rfl (.pointer (some ⟨h,0,none⟩)) (.pointer (some ⟨h,60,none⟩)) (by kernel_rfl) (t3a h)) ST1.out ?_;refine y0a λfr2 hfr2=>?_
  have ex2:fr2.eval (.tmp 40)=.pointer (some ⟨h,60,none⟩):=by rw[hfr2];kernel_rfl
  have ey2:fr2.eval (.tmp 38)=(.int .u32 a.n):=by rw[hfr2];kernel_rfl
  refine oN 7 _ rfl λK hK=>?_
  refine A0a rfl _ (.tmp 40) (.tmp 38) rfl h 60 ex2 _ C1 (.int .u32 a.n) ey2 XS1 (hI (by have:=HL1.out;omega)) (by kernel_rfl) rfl ?_;intro x2 XS2 O2 hq2;obtain⟨C2,hC2⟩:∃x,x=C1.set 60 (.int .u32 a.n):=⟨_,rfl⟩;have HC2:=hI hC2;have HL2:Hid (C2.length=69):=by show _=_;rw[hC2,List.length_set];exact HL1.out
  rw[<-hC2] at XS2;have ST2:=hI (Blk.only ST1.out O2.out hgh);have RT2:=hI (Blk.only RT1.out O2.out hrh);have LT2:=hI (c0a LT1.out O2.out hwh);refine hK _ _ ST2.out ?_;clear hK K ex2 ey2 hC2;change wpAnyH _ _ _ _ _ _ _ fr2 x2
  subst hfr2;refine dN ?_;go_simp;have Kr1:=hI ST2.out;have H1C:Hid (∀v∈C2,v.oneCell'=true):=by
   show _
   have hh:C2=l0a (.slice none 0 0) (.slice none 0 0) (.slice none 0 0) { k0a with file:=a.file,at_:=a.at_,n:=a.n }:=by rw[HC2.out,HC1.out,HC0.out];rfl
   rw[hh];exact D1a rfl rfl rfl
  go_wp2_with(first
   | ((with_reducible refine sN 54 ?_);refine d0a rfl _ (.tmp 5) rfl h rfl _ C2 XS2 69 _ Tryz.underlying34 rfl n0a HL2 ?_)
   | ((with_reducible refine sT 4 ?_);refine e0a rfl _ (.tmp 4) (.tmp 54) rfl r rfl _ zs C2 rfl RT2 69 n0a HZ HL2 H1C ?_;intro w9 K9 O9 hg9)
   | fail)
  have HEQ:C2=l0a (.slice none 0 0) (.slice none 0 0) (.slice none 0 0) (c5a 8 a):=by rw[HC2.out,HC1.out,HC0.out];rfl
  have LF:Below w.heap.size w w9:=c0a LT2.out O9.out hwr;refine bodyPost_ret (v:=.agg C2.toArray) ?_ rfl ⟨_,rfl,⟨none,0,0,none,0,0,none,0,0,HEQ,o1a.nil _ _ _,Holds.nil _ _,T0a.nil _ _ _ _⟩,LF⟩;exact Y0a rfl _ _ r _ _ (0,0) _ rfl K9.out Tryz.underlying34 rfl (by rw[n0a];have:=HL2.out;simp[this])
 ·subst h9;go_enter Tryz.func99,Tryz.ntmps99;go_upto_region 9 with(first
   | ((with_reducible refine sN 3 ?_);refine a0a rfl _ (.tmp 1) rfl cs rfl ?_;intro g w1 hg1 hg2 K1 L1)
   | ((with_reducible refine sN 4 ?_);refine b0a rfl _ rfl zs _ ZH ?_;intro r w2 hg3 hg4 R2 L02;have K2:=hI (K1.out.over L02.out);have L2:=hI (step L1.out L02.out);obtain⟨c51,c52,c53,c54,c55,c56,c57,c58,c59,c60,c61,c62⟩:=FC.out w2 g K2.out;have hsz2:=L2.out.size;have hgr:g≠r:=(by omega);have hwr:w.heap.size<=r:=(by have:=L1.out.size;omega))
   | ((with_reducible refine sN 8 ?_);refine x0a rfl _ _ rfl C0 (by refine Eq.trans ?_ BF;kernel_rfl) ?_)
   | ((with_reducible refine sN 5 ?_);refine b0a rfl _ rfl zs _ ZH ?_;intro h w3 hg5 hg6 X3' L03;have K3:=hI (K2.out.over L03.out);have R3:=hI (R2.out.over L03.out);have L3:=hI (step L2.out L03.out);have hgh:g≠h:=(by have:=K2.out.lt;omega);have hrh:r≠h:=(by have:=R2.out.lt;omega);have hwh:w.heap.size<=h:=(by omega))
   | ((with_reducible refine sT 5 ?_);refine e0a rfl _ (.tmp 5) (.tmp 8) rfl h rfl _ zs C0 rfl X3' 69 n0a HZ HF0 HF1 ?_;intro w4 X0 O4 hg7;have K4:=hI (K3.out.only O4.out hgh);have R4:=hI (R3.out.only O4.out hrh);have L4:=hI (c0a L3.out O4.out hwh);clear c51 c52 c53 c54 c55 c56 c57 c58 c59 c60 c61 c62;obtain⟨c51,c52,c53,c54,c55,c56,c57,c58,c59,c60,c61,c62⟩:=FC.out w4 g K4.out)
   | fail)
  refine wp_region_held (S:=λw'=>Blk w' g 34 cs) (by kernel_rfl) ?_;change wpAnyH _ _ _ _ _ _ _ _ w4.drew
  have S0_0:Hid (Blk w4.drew g 34 cs):=K4.out.drew;have X0d:=hI (Blk.drew X0.out);have R0d:=hI (Blk.drew R4.out);have L0d:=hI (L4.out.drew);refine tK 0 _ rfl (g0a (by kernel_rfl) _ (.tmp 3) 13 rfl (.pointer (some ⟨g,0,none⟩)) (.pointer (some ⟨g,59,none⟩)) (by kernel_rfl) (a2a g)) S0_0.out ?_;refine tK 1 _ rfl (i0a (by kernel_rfl) _ (.tmp 43) rfl g 59 (by kernel_rfl) (.int .u64 a.at_) (λw h=>(FC.out w g h).2.2.2.2.2.2.2.2.1) _ Tryz.underlying25 rfl) S0_0.out ?_;refine tK 2 _ rfl (g0a (by kernel_rfl) _ (.tmp 3) 15 rfl (.pointer (some ⟨g,0,none⟩)) (.pointer (some ⟨g,61,none⟩)) (by kernel_rfl) (O2a g)) S0_0.out ?_;refine tK 3 _ rfl (i0a (by kernel_rfl) _ (.tmp 45) rfl g 61 (by kernel_rfl) (.slice X1 X2 X3) (λw h=>(FC.out w g h).2.2.2.2.2.2.2.2.2.2.1) _ Tryz.underlying31 rfl) S0_0.out ?_;refine tK 4 _ rfl (g0a (by kernel_rfl) _ (.tmp 5) 13 rfl (.pointer (some ⟨h,0,none⟩)) (.pointer (some ⟨h,59,none⟩)) (by kernel_rfl) (a2a h)) S0_0.out ?_;refine y0a λfr1 hfr1=>?_
  have ex1:fr1.eval (.tmp 47)=.pointer (some ⟨h,59,none⟩):=by rw[hfr1];kernel_rfl
  have ey1:fr1.eval (.tmp 44)=(.int .u64 a.at_):=by rw[hfr1];kernel_rfl
  refine oN 5 _ rfl λK hK=>?_
  refine A0a rfl _ (.tmp 47) (.tmp 44) rfl h 59 ex1 _ C0 (.int .u64 a.at_) ey1 X0d (hI (by have:=HF0.out;omega)) (by kernel_rfl) rfl ?_;intro x1 XS1 O1 hq1;obtain⟨C1,hC1⟩:∃x,x=C0.set 59 (.int .u64 a.at_):=⟨_,rfl⟩;have HC1:=hI hC1;have HL1:Hid (C1.length=69):=by show _=_;rw[hC1,List.length_set];exact HF0.out
  rw[<-hC1] at XS1;have ST1:=hI (Blk.only S0_0.out O1.out hgh);have RT1:=hI (Blk.only R0d.out O1.out hrh);have LT1:=hI (c0a L0d.out O1.out hwh);refine hK _ _ ST1.out ?_;clear hK K ex1 ey1 hC1;change wpAnyH _ _ _ _ _ _ _ fr1 x1
  subst hfr1;refine tK 6 _ rfl (g0a (by kernel_rfl) _ (.tmp 5) 15 rfl (.pointer (some ⟨h,0,none⟩)) (.pointer (some ⟨h,61,none⟩)) (by kernel_rfl) (O2a h)) ST1.out ?_;refine y0a λfr2 hfr2=>?_
  have ex2:fr2.eval (.tmp 48)=.pointer (some ⟨h,61,none⟩):=by rw[hfr2];kernel_rfl
  have ey2:fr2.eval (.tmp 46)=(.slice X1 X2 X3):=by rw[hfr2];kernel_rfl
  refine oN 7 _ rfl λK hK=>?_
  refine A0a rfl _ (.tmp 48) (.tmp 46) rfl h 61 ex2 _ C1 (.slice X1 X2 X3) ey2 XS1 (hI (by have:=HL1.out;omega)) (by kernel_rfl) rfl ?_;intro x2 XS2 O2 hq2;obtain⟨C2,hC2⟩:∃x,x=C1.set 61 (.slice X1 X2 X3):=⟨_,rfl⟩;have HC2:=hI hC2;have HL2:Hid (C2.length=69):=by show _=_;rw[hC2,List.length_set];exact HL1.out
  rw[<-hC2] at XS2;have ST2:=hI (Blk.only ST1.out O2.out hgh);have RT2:=hI (Blk.only RT1.out O2.out hrh);have LT2:=hI (c0a LT1.out O2.out hwh);refine hK _ _ ST2.out ?_;clear hK K ex2 ey2 hC2;change wpAnyH _ _ _ _ _ _ _ fr2 x2
  subst hfr2;refine dN ?_;go_simp;have Kr1:=hI ST2.out;have H1C:Hid (∀v∈C2,v.oneCell'=true):=by
   show _
   have hh:C2=l0a (.slice none 0 0) (.slice X1 X2 X3) (.slice none 0 0) { k0a with file:=a.file,at_:=a.at_,data:=a.data }:=by rw[HC2.out,HC1.out,HC0.out];rfl
   rw[hh];exact D1a rfl rfl rfl
  go_wp2_with(first
   | ((with_reducible refine sN 54 ?_);refine d0a rfl _ (.tmp 5) rfl h rfl _ C2 XS2 69 _ Tryz.underlying34 rfl n0a HL2 ?_)
   | ((with_reducible refine sT 4 ?_);refine e0a rfl _ (.tmp 4) (.tmp 54) rfl r rfl _ zs C2 rfl RT2 69 n0a HZ HL2 H1C ?_;intro w9 K9 O9 hg9)
   | fail)
  have HEQ:C2=l0a (.slice none 0 0) (.slice X1 X2 X3) (.slice none 0 0) (c5a 9 a):=by rw[HC2.out,HC1.out,HC0.out];rfl
  have LF:Below w.heap.size w w9:=c0a LT2.out O9.out hwr;refine bodyPost_ret (v:=.agg C2.toArray) ?_ rfl ⟨_,rfl,⟨none,0,0,X1,X2,X3,none,0,0,HEQ,o1a.nil _ _ _,HX.out.over LF,T0a.nil _ _ _ _⟩,LF⟩;exact Y0a rfl _ _ r _ _ (0,0) _ rfl K9.out Tryz.underlying34 rfl (by rw[n0a];have:=HL2.out;simp[this])
 ·subst h10;go_enter Tryz.func99,Tryz.ntmps99;go_wp2_with(first
   | ((with_reducible refine sN 3 ?_);refine a0a rfl _ (.tmp 1) rfl cs rfl ?_;intro g w1 hg1 hg2 K1 L1)
   | ((with_reducible refine sN 4 ?_);refine b0a rfl _ rfl zs _ ZH ?_;intro r w2 hg3 hg4 R2 L02;have K2:=hI (K1.out.over L02.out);have L2:=hI (step L1.out L02.out);obtain⟨c51,c52,c53,c54,c55,c56,c57,c58,c59,c60,c61,c62⟩:=FC.out w2 g K2.out;have hsz2:=L2.out.size;have hgr:g≠r:=(by omega);have hwr:w.heap.size<=r:=(by have:=L1.out.size;omega))
   | ((with_reducible refine sN 8 ?_);refine x0a rfl _ _ rfl C0 (by refine Eq.trans ?_ BF;kernel_rfl) ?_)
   | ((with_reducible refine sN 5 ?_);refine b0a rfl _ rfl zs _ ZH ?_;intro h w3 hg5 hg6 X3' L03;have K3:=hI (K2.out.over L03.out);have R3:=hI (R2.out.over L03.out);have L3:=hI (step L2.out L03.out);have hgh:g≠h:=(by have:=K2.out.lt;omega);have hrh:r≠h:=(by have:=R2.out.lt;omega);have hwh:w.heap.size<=h:=(by omega))
   | ((with_reducible refine sT 5 ?_);refine e0a rfl _ (.tmp 5) (.tmp 8) rfl h rfl _ zs C0 rfl X3' 69 n0a HZ HF0 HF1 ?_;intro w4 X0 O4 hg7;have K4:=hI (K3.out.only O4.out hgh);have R4:=hI (R3.out.only O4.out hrh);have L4:=hI (c0a L3.out O4.out hwh);clear c51 c52 c53 c54 c55 c56 c57 c58 c59 c60 c61 c62;obtain⟨c51,c52,c53,c54,c55,c56,c57,c58,c59,c60,c61,c62⟩:=FC.out w4 g K4.out)
   | ((with_reducible refine sT 53 ?_);refine h0a rfl _ (.tmp 53) (.tmp 52) rfl h 62 rfl _ C0 (.slice M1 M2 M3) rfl X0 (hI (by have:=HF0.out;omega)) (by kernel_rfl) rfl ?_;intro w5 X1' O5 hq5;obtain⟨C1,hC1⟩:∃x,x=C0.set 62 (.slice M1 M2 M3):=⟨_,rfl⟩;have HC1:=hI hC1;have HL1:Hid (C1.length=69):=(by rw[hC1,List.length_set];exact HF0.out);have H11:Hid (∀v∈C1,v.oneCell'=true):=(by rw[hC1,HC0.out];exact D1a (vl:=.slice M1 M2 M3) (a:={ k0a with file:=a.file,locks:=a.locks }) rfl rfl rfl);rw[<-hC1] at X1';have R5:=hI (R4.out.only O5.out hrh);have L5:=hI (c0a L4.out O5.out hwh);clear hC1)
   | ((with_reducible refine sN 54 ?_);refine d0a rfl _ (.tmp 5) rfl h rfl _ C1 X1' 69 _ Tryz.underlying34 rfl n0a HL1 ?_)
   | ((with_reducible refine sT 4 ?_);refine e0a rfl _ (.tmp 4) (.tmp 54) rfl r rfl _ zs C1 rfl R5 69 n0a HZ HL1 H11 ?_;intro w9 K9 O9 hg9)
   | fail)
  have HEQ:C1=l0a (.slice none 0 0) (.slice none 0 0) (.slice M1 M2 M3) (c5a 10 a):=by rw[HC1.out,HC0.out];rfl
  have LF:Below w.heap.size w w9:=c0a L5.out O9.out hwr;refine bodyPost_ret (v:=.agg C1.toArray) ?_ rfl ⟨_,rfl,⟨none,0,0,none,0,0,M1,M2,M3,HEQ,o1a.nil _ _ _,Holds.nil _ _,HM.out.over LF⟩,LF⟩;exact Y0a rfl _ _ r _ _ (0,0) _ rfl K9.out Tryz.underlying34 rfl (by rw[n0a];have:=HL1.out;simp[this])
def W4a(w:World)(c:Int)(a:m1a)(e:Ending)(w':World):Prop:=∃v,e=.returned (.tuple #[v,.int .i64 (w5a c a)])/\Own w' w.heap.size v (t2b c a)/\Below w.heap.size w w'
theorem l2b(w:World)(c:Int)(cs:List Value)(a:m1a)(hc:0<=c/\c<=65535)(ka:a.ok)(ha:b1a w w.heap.size cs a)(hlen:a.dial.length<=281474976710656/\a.data.length<=281474976710656/\a.locks.length<=281474976710656)(hnm:a.name.size<=4398046511104) :
  Calls Tryz.prog 56 #[.int .u16 c,.agg cs.toArray] w (W4a w c a):=by
 have HL:=hI (ha.len ka);have HA:=hI ha;have CK:Hid (∀w:World,Calls Tryz.prog 52 #[.int .u16 c] w λe w'=>e=.returned (.bool (G1a c))/\w=w'):=λw=>v7a w c hc
 have HE:Hid (∀er,w5a c a=er->er≠0->∀e w',e=.returned (.tuple #[.slice none 0 0,.int .i64 er])->Below w.heap.size w w'->W4a w c a e w'):=by intro er h1 h2 e w' he hb;unfold W4a t2b;rw[h1,if_neg h2];exact⟨_,he,Own.nil _ _,hb⟩
 by_cases hk:G1a c=true;rotate_left
 ·have hkf:G1a c=false:=by simpa using hk
  have HQ:=hI (HE.out 2 (by unfold w5a J5a;rw[hkf];rfl) (by decide));rw[hkf] at CK;clear hk hkf HE ha ka HA hlen;go_enter Tryz.func56,Tryz.ntmps56;go_upto_region 1 with(first
   | ((with_reducible refine sN 3 ?_);refine a0a rfl _ (.tmp 1) rfl cs rfl ?_;intro g w1 hg1 hg2 K1 L1)
   | fail)
  refine wp_region_held (S:=λw'=>Blk w' g 34 cs) (by kernel_rfl) ?_;change wpAnyH _ _ _ _ _ _ _ _ w1.drew
  have S0:Hid (Blk w1.drew g 34 cs):=K1.out.drew;have b0:Hid (Below w.heap.size w w1.drew):=L1.out.drew;refine tK 0 _ rfl (t0a (by kernel_rfl) (.tmp 0) rfl (.int .u16 c) (by kernel_rfl)) S0.out ?_;refine oN 1 _ rfl λK hK=>?_
  go_simp;refine(CK.out _).mono ?_;rintro e v1 ⟨rfl,rfl⟩;refine hK _ _ S0.out ?_;clear hK K;refine tK 2 ((.bool true)) rfl (.inl ⟨by kernel_rfl,λw _=>by go_simp⟩) S0.out ?_;refine tK 3 _ rfl (t0a (by kernel_rfl) (.tmp 13) rfl (.bool true) (by kernel_rfl)) S0.out ?_;refine tK 4 undef rfl (.inr ⟨by kernel_rfl,rfl⟩) S0.out ?_;refine tK 5 undef rfl (.inr ⟨by kernel_rfl,rfl⟩) S0.out ?_;refine tK 7 undef rfl (.inr ⟨by kernel_rfl,rfl⟩) S0.out ?_;refine tK 6 undef rfl (.inr ⟨by kernel_rfl,rfl⟩) S0.out ?_;refine tK 8 undef rfl (.inr ⟨by kernel_rfl,rfl⟩) S0.out ?_;refine tK 9 undef rfl (.inr ⟨by kernel_rfl,rfl⟩) S0.out ?_;refine tK 10 ((.bool true)) rfl (.inl ⟨by kernel_rfl,λw _=>by go_simp⟩) S0.out ?_;refine dN ?_;go_simp;go_wp2;go_ret2;exact HQ.out _ _ rfl b0.out
 rw[hk] at CK;have CA:Hid (∀w',Below w.heap.size w w'->Calls Tryz.prog 99 #[.int .u16 c,.agg cs.toArray] w' λe w2=>∃ds:List Value,e=.returned (.agg ds.toArray)/\b1a w2 w2.heap.size ds (c5a c a)/\Below w'.heap.size w' w2):=λw' hb=>Z5b w' c cs a hc hk ka (HA.out.over hb)
 have hwl:(c5a c a).dial.length<=281474976710656/\(c5a c a).data.length<=281474976710656/\(c5a c a).locks.length<=281474976710656:=by
  unfold c5a;split
  ·exact⟨Nat.zero_le _,Nat.zero_le _,Nat.zero_le _⟩
  ·split
   ·exact⟨Nat.zero_le _,Nat.zero_le _,Nat.zero_le _⟩
   ·split
    ·exact⟨Nat.zero_le _,hlen.2.1,Nat.zero_le _⟩
    ·split
     ·exact⟨Nat.zero_le _,Nat.zero_le _,hlen.2.2⟩
     ·exact⟨Nat.zero_le _,Nat.zero_le _,Nat.zero_le _⟩
 have CS:Hid (∀(w':World) (ds:List Value),b1a w' w'.heap.size ds (c5a c a)->Below w.heap.size w w'->Calls Tryz.prog 26 #[.agg ds.toArray,.agg cs.toArray] w' λe w2=>e=.returned (.bool (decide (c5a c a=a)))/\Below w'.heap.size w' w2):=λw' ds hds hb=>m5a w' ds cs _ a (w1b ka) ka hds (HA.out.over hb) hwl hlen
 obtain⟨z,hz⟩:∃z,z=decide (c5a c a=a):=⟨_,rfl⟩;rw[<-hz] at CS;have HZD:=hI hz;have HK:=hI hk;have HHA:=hI ha;have HKA:=hI ka;have HLEN:=hI hlen;clear hz hk ha ka hlen hwl HA;go_enter Tryz.func56,Tryz.ntmps56;go_upto_region 1 with(first
  | ((with_reducible refine sN 3 ?_);refine a0a rfl _ (.tmp 1) rfl cs rfl ?_;intro g w1 hg1 hg2 K1 L1)
  | fail)
 refine wp_region_held (S:=λw'=>Blk w' g 34 cs) (by kernel_rfl) ?_;change wpAnyH _ _ _ _ _ _ _ _ w1.drew
 have S0:Hid (Blk w1.drew g 34 cs):=K1.out.drew;have b0:Hid (Below w.heap.size w w1.drew):=L1.out.drew;refine tK 0 _ rfl (t0a (by kernel_rfl) (.tmp 0) rfl (.int .u16 c) (by kernel_rfl)) S0.out ?_;refine oN 1 _ rfl λK hK=>?_
 go_simp;refine(CK.out _).mono ?_;rintro e v1 ⟨rfl,rfl⟩;refine hK _ _ S0.out ?_;clear hK K;refine tK 2 ((.bool false)) rfl (.inl ⟨by kernel_rfl,λw _=>by go_simp⟩) S0.out ?_;refine tK 3 _ rfl (t0a (by kernel_rfl) (.tmp 13) rfl (.bool false) (by kernel_rfl)) S0.out ?_;refine tK 4 _ rfl (t0a (by kernel_rfl) (.tmp 0) rfl (.int .u16 c) (by kernel_rfl)) S0.out ?_;refine tK 5 _ rfl (T1a (by kernel_rfl) _ (.tmp 3) rfl g (by kernel_rfl) _ cs (λw h=>h) 69 _ Tryz.underlying34 rfl n0a HL) S0.out ?_;refine tK 7 _ rfl (T1a (by kernel_rfl) _ (.tmp 3) rfl g (by kernel_rfl) _ cs (λw h=>h) 69 _ Tryz.underlying34 rfl n0a HL) S0.out ?_;refine oN 6 _ rfl λK hK=>?_
 go_simp;refine(CA.out _ b0.out).mono ?_;rintro e v1 ⟨ds,rfl,hds,L01⟩;have S1:=hI (S0.out.over L01);have b1:=hI (step b0.out L01);have HDS:=hI hds;refine hK _ _ S1.out ?_;clear hK K hds L01;refine oN 8 _ rfl λK hK=>?_
 go_simp;refine(CS.out _ ds HDS.out b1.out).mono ?_;rintro e w3 ⟨rfl,L02⟩;have S2:=hI (S1.out.over L02);have M3:=hI (step b1.out L02);refine hK _ _ S2.out ?_;clear hK K L02 HDS S1 b1;cases z
 ·have hw:¬c5a c a=a:=of_decide_eq_false HZD.out.symm;have hnb:Z0a c a≠k0a:=λh=>hw ((s6a c a).1 h)
  have HQ:=hI (HE.out 2 (by unfold w5a J5a;rw[HK.out,decide_eq_false hnb];rfl) (by decide));clear hw hnb HE;refine tK 9 ((.bool true)) rfl (.inl ⟨by kernel_rfl,λw _=>by go_simp⟩) S2.out ?_;refine tK 10 ((.bool true)) rfl (.inl ⟨by kernel_rfl,λw _=>by go_simp⟩) S2.out ?_;refine dN ?_;go_simp;have K3:=hI S2.out;clear S0 b0 K1 L1 S2;go_wp2;go_ret2;exact HQ.out _ _ rfl M3.out
 refine tK 9 ((.bool false)) rfl (.inl ⟨by kernel_rfl,λw _=>by go_simp⟩) S2.out ?_;refine tK 10 ((.bool false)) rfl (.inl ⟨by kernel_rfl,λw _=>by go_simp⟩) S2.out ?_;refine dN ?_;go_simp;have K3:=hI S2.out;clear S0 b0 K1 L1 S2;have hw:c5a c a=a:=of_decide_eq_true HZD.out.symm;have hk:=HK.out;have ha:=HHA.out;have ka:=HKA.out;have hlen:=HLEN.out;clear HZD HK HHA HKA HLEN;obtain⟨A1,A2,A3,X1,X2,X3,M1,M2,M3',hcs,hA,hX,hM⟩:=ha;have FL:Hid (∀(w:World) (g:Nat),Blk w g 34 cs->w.cell? ⟨g,61,none⟩=some (.slice X1 X2 X3)/\w.cell? ⟨g,62,none⟩=some (.slice M1 M2 M3')):=λw g h=>by rw[hcs] at h;exact⟨h.at (j0a ka 12),h.at (j0a ka 13)⟩
 have hxl:a.data.length=X2:=hX.len;have hml:a.locks.length=M2:=hM.len;have hmr:M2<=281474976710656:=by rw[<-hml];exact hlen.2.2
 have hxr:=hX.room;have hmf:=hM.fit;have hbz:Z0a c a=k0a:=(s6a c a).2 hw;have HX:=hI hX;have HM:=hI hM;have HST:Hid (∀(j:Nat) (x:m2a),a.locks[j]? = some x->shut (a.locks.take j)=true->x.op=0->shut (a.locks.take (j+1))=true):=λj x hx h1 h2=>by rw[List.take_add_one,hx,Option.toList_some];unfold shut at h1⊢;rw[List.all_append,h1];simp[h2]
 have HGET:Hid (∀j,j<M2->∃x,a.locks[j]? = some x):=λj hj=>⟨_,List.getElem?_eq_getElem (by omega)⟩
 have HCELL:Hid (∀(wr:World),Below w.heap.size w wr->∀(j:Nat) (x:m2a),j<M2->a.locks[j]? = some x->∃b off,M1=some ⟨b,off,none⟩/\wr.cell? ⟨b,off+j*4,none⟩=some (.int .i64 x.op)/\wr.cell? ⟨b,off+j*4+1,none⟩=some (.int .u64 x.at_)/\wr.cell? ⟨b,off+j*4+2,none⟩=some (.int .u64 x.n)/\wr.cell? ⟨b,off+j*4+3,none⟩=some (.int .u16 x.md)):=λwr hb j x hj hx=>by obtain⟨b,off,h1,_,h3⟩:=(HM.out.below hb).cells (by omega);have h4:=h3 j x hx;exact⟨b,off,h1,h4 0 _ rfl,h4 1 _ rfl,h4 2 _ rfl,h4 3 _ rfl⟩
 have H0:Hid (shut (a.locks.take 0)=true):=by show _=_;rw[List.take_zero];rfl
 by_cases hs:shut a.locks=true;rotate_left
 ·have hsf:shut a.locks=false:=by simpa using hs
  have HQ:=hI (HE.out 2 (by unfold w5a J5a;rw[hk,decide_eq_true hbz,hsf];rfl) (by decide));have HBAD:Hid (shut (a.locks.take M2)=true->False):=λh=>by rw[<-hml,List.take_length] at h;exact hs h
  clear hk hw HE hlen hcs hA hX hM hxl hml hbz hs hsf;have hs3:=M3.out.size;obtain⟨c61,c62⟩:=FL.out w3 g K3.out;go_wp2;go_loop [6] (λi=>∃j:Nat,i=.int .i64 j/\j<=M2/\Hid (shut (a.locks.take j)=true)) (λi=>M2-(intOf i).toNat)
  case atStart=>exact⟨0,rfl,Nat.zero_le _,H0.out⟩
  case round=>
   obtain⟨j,rfl,hj,HS⟩:=hrel;by_cases hlt:j<M2
   ·obtain⟨x,hx⟩:=HGET.out j hlt;obtain⟨b,off,rfl,k0,_⟩:=HCELL.out w3 M3.out j x hlt hx;have HST':=hI (HST.out j x hx HS.out);clear hx;by_cases ho:x.op=0
    ·rw[ho] at k0;have HS2:=hI (HST'.out ho);clear HST' ho;go_wp2;go_round
     case rel=>exact⟨j+1,by simp,by omega,HS2⟩
     case measure=>simp[intOf];omega
    ·have hb0:(x.op != 0)=true:=by simpa using ho
     clear HST' ho;go_wp2;go_ret2;exact HQ.out _ _ rfl M3.out
   ·obtain rfl:j=M2:=by omega
    exact absurd (HBAD.out HS.out) id
 have HOP:Hid (∀(j:Nat) (x:m2a),a.locks[j]? = some x->x.op=0):=λj x hx=>by have:=List.all_eq_true.1 hs _ (List.mem_of_getElem? hx);simpa using this
 have hnf:J5a c a=true:=by unfold J5a;rw[hk,decide_eq_true hbz,hs];rfl
 have HNF:=hI hnf;have HXL:=hI hxl;have HML:=hI hml;have HCS:=hI hcs;have HK:=hI hk;have HKA:=hI ka;clear hk hw hlen hcs hA hX hM hxl hml hbz hs hnf ka;have hs3:=M3.out.size;obtain⟨c61,c62⟩:=FL.out w3 g K3.out;go_wp2;go_loop [6] (λi=>∃j:Nat,i=.int .i64 j/\j<=M2/\Hid (shut (a.locks.take j)=true)) (λi=>M2-(intOf i).toNat)
 case atStart=>exact⟨0,rfl,Nat.zero_le _,H0.out⟩
 case round=>
  obtain⟨j,rfl,hj,HS⟩:=hrel;by_cases hlt:j<M2
  ·obtain⟨x,hx⟩:=HGET.out j hlt;obtain⟨b,off,rfl,k0,_⟩:=HCELL.out w3 M3.out j x hlt hx;rw[HOP.out j x hx] at k0;have HS2:=hI (HST.out j x hx HS.out (HOP.out j x hx));clear hx;go_wp2;go_round
   case rel=>exact⟨j+1,by simp,by omega,HS2⟩
   case measure=>simp[intOf];omega
  ·obtain rfl:M2=j:=by omega
   have hnf:=HNF.out;have hxl:=HXL.out;have hml:=HML.out;have hcs:=HCS.out;have hk:=HK.out;have ka:=HKA.out;clear HNF HXL HML HCS HK HKA;by_cases hlim:X2<=32768/\M2<=16;rotate_left
   ·have HQ:=hI (HE.out 3 (by unfold w5a;rw[if_pos hnf,hxl,hml,if_neg hlim]) (by decide));clear hk HE hcs hxl hml hnf;by_cases hx3:X2<=32768
    ·have hm3:¬M2<=16:=λh=>hlim ⟨hx3,h⟩
     clear hlim;go_wp2;go_ret2;exact HQ.out _ _ rfl M3.out
    ·clear hlim;go_wp2;go_ret2;exact HQ.out _ _ rfl M3.out
   obtain⟨hx3,hm3⟩:=hlim;have hcc:c=5∨c=6∨c=7∨c=8∨c=9∨c=10:=z8a hk;have HOK:Hid (w5a c a=if c=5 then u0a a.name.data.toList else 0):=by
    show _=_
    unfold w5a;rw[if_pos hnf,hxl,hml,if_pos ⟨hx3,hm3⟩]
   have HQ0:Hid (w5a c a=0->∀v e w',e=.returned (.tuple #[v,.int .i64 0])->Own w' w.heap.size v (O4a c a)->Below w.heap.size w w'->W4a w c a e w'):=by intro h v e w' he hv hb;unfold W4a t2b;rw[h,if_pos rfl];exact⟨_,he,hv,hb⟩
   obtain⟨l_acc,u_acc⟩:=ka.acc;obtain⟨l_shr,u_shr⟩:=ka.shr;obtain⟨l_way,u_way⟩:=ka.way;obtain⟨l_opt,u_opt⟩:=ka.opt;obtain⟨l_lev,u_lev⟩:=ka.lev;obtain⟨l_dur,u_dur⟩:=ka.dur;obtain⟨l_file,u_file⟩:=ka.file;obtain⟨l_at_,u_at_⟩:=ka.at_;obtain⟨l_n,u_n⟩:=ka.n;have z_acc:IntKind.u64.wrap a.acc=a.acc:=by rw[IntKind.wrap_u64];omega
   have z_shr:IntKind.u64.wrap a.shr=a.shr:=by rw[IntKind.wrap_u64];omega
   have z_way:IntKind.u64.wrap a.way=a.way:=by rw[IntKind.wrap_u64];omega
   have z_opt:IntKind.u64.wrap a.opt=a.opt:=by rw[IntKind.wrap_u64];omega
   have z_n:IntKind.u64.wrap a.n=a.n:=by rw[IntKind.wrap_u64];omega
   have z_x:IntKind.u64.wrap (X2:Int)=(X2:Int):=by rw[IntKind.wrap_u64];omega
   have FC:Hid (∀(w:World) (g:Nat),Blk w g 34 cs->w.cell? ⟨g,51,none⟩=some (.int .u32 a.acc)/\w.cell? ⟨g,52,none⟩=some (.int .u32 a.shr)/\w.cell? ⟨g,53,none⟩=some (.int .u32 a.way)/\w.cell? ⟨g,54,none⟩=some (.int .u32 a.opt)/\w.cell? ⟨g,55,none⟩=some (.int .u8 a.lev)/\w.cell? ⟨g,56,none⟩=some (.int .u8 a.dur)/\w.cell? ⟨g,57,none⟩=some (.int .u64 a.file)/\w.cell? ⟨g,58,none⟩=some (.string a.name)/\w.cell? ⟨g,59,none⟩=some (.int .u64 a.at_)/\w.cell? ⟨g,60,none⟩=some (.int .u32 a.n)):=λw g h=>by rw[hcs] at h;exact⟨h.at (j0a ka 2),h.at (j0a ka 3),h.at (j0a ka 4),h.at (j0a ka 5),h.at (j0a ka 6),h.at (j0a ka 7),h.at (j0a ka 8),h.at (j0a ka 9),h.at (j0a ka 10),h.at (j0a ka 11)⟩
   have CL2:Hid (∀(w':World) (B:Nat) (v:Value) (xs:List Int) (n:Int),Own w' B v xs->xs.length<=1000000->B<=w'.heap.size->0<=n->n<=65535->Calls Tryz.prog 94 #[v,.int .u64 n,.int .i64 2] w' λe w2=>∃v',e=.returned v'/\Own w2 B v' (xs++le n 2)/\Below B w' w2):=λw' B v xs n ho hx hb h0 h1=>u3a w' B v xs n 2 65536 (by decide) (by decide) (by decide) ho hx hb h0 (by omega)
   have CL4:Hid (∀(w':World) (B:Nat) (v:Value) (xs:List Int) (n:Int),Own w' B v xs->xs.length<=1000000->B<=w'.heap.size->0<=n->n<=4294967295->Calls Tryz.prog 94 #[v,.int .u64 n,.int .i64 4] w' λe w2=>∃v',e=.returned v'/\Own w2 B v' (xs++le n 4)/\Below B w' w2):=λw' B v xs n ho hx hb h0 h1=>u3a w' B v xs n 4 4294967296 (by decide) (by decide) (by decide) ho hx hb h0 (by omega)
   have CL8:Hid (∀(w':World) (B:Nat) (v:Value) (xs:List Int) (n:Int),Own w' B v xs->xs.length<=1000000->B<=w'.heap.size->0<=n->n<=18446744073709551615->Calls Tryz.prog 94 #[v,.int .u64 n,.int .i64 8] w' λe w2=>∃v',e=.returned v'/\Own w2 B v' (xs++le n 8)/\Below B w' w2):=λw' B v xs n ho hx hb h0 h1=>u3a w' B v xs n 8 18446744073709551616 (by decide) (by decide) (by decide) ho hx hb h0 (by omega)
   have KM:=hI ka.locks;clear HE hcs hxl hml hnf hk;rcases hcc with h5 | h6 | h7 | h8 | h9 | h10
   ·subst h5;rw[if_pos rfl] at HOK;have CT:Hid (∀w':World,Calls Tryz.prog 98 #[.string a.name] w' λe w2=>(∃v,e=.returned (.tuple #[v,.int .i64 (u0a a.name.data.toList)])/\Own w2 w'.heap.size v (G0a a.name.data.toList))/\Below w'.heap.size w' w2):=λw'=>(i5a a.name w' hnm).mono λe w2 ⟨v,h1,h2,h3⟩=>⟨⟨v,h1,h2⟩,h3⟩
    have hld:Bytes [a.lev,a.dur,0,0]:=by intro x hx;simp only[List.mem_cons,List.not_mem_nil,or_false] at hx;rcases hx with hx | hx | hx | hx<;>omega
    have HLD:=hI hld;clear hld;by_cases hp:u0a a.name.data.toList=0;rotate_left
    ·have HQ:Hid (∀e w',e=.returned (.tuple #[.slice none 0 0,.int .i64 (u0a a.name.data.toList)])->Below w.heap.size w w'->W4a w 5 a e w'):=by intro e w' he hb;unfold W4a t2b;rw[HOK.out,if_neg hp];exact⟨_,he,Own.nil _ _,hb⟩
     obtain⟨er,her⟩:∃x,x=u0a a.name.data.toList:=⟨_,rfl⟩;rw[<-her] at CT HQ hp;have hne:(er != 0)=true:=by simpa using hp
     clear her hp HOK HQ0;have N0:Hid (Below w3.heap.size w3 w3):=Below.refl _ _;have H00:Hid (Own w3 w3.heap.size (.slice none 0 0) []):=Own.nil _ _;have hg3:g<w3.heap.size:=K3.out.lt;obtain⟨c51,c52,c53,c54,c55,c56,c57,c58,c59,c60⟩:=FC.out w3 g K3.out;go_wp2_with fail;refine(CL4.out w3 w3.heap.size _ ([]) a.acc H00.out (by simp) N0.out.size l_acc u_acc).mono ?_;rintro e y1 ⟨v1,rfl,ho1,L1⟩;have HO1:=hI ho1;have N1:=hI (N0.out.trans L1);have Ky1:=hI (K3.out.below N1.out hg3);clear ho1 L1;clear c51 c52 c53 c54 c55 c56 c57 c58 c59 c60;obtain⟨c51,c52,c53,c54,c55,c56,c57,c58,c59,c60⟩:=FC.out y1 g Ky1.out;obtain⟨c61,c62⟩:=FL.out y1 g Ky1.out;go_wp2_with fail;refine(CL4.out y1 w3.heap.size _ ([]++le a.acc 4) a.shr HO1.out (by simp[m0a]) N1.out.size l_shr u_shr).mono ?_;rintro e y2 ⟨v2,rfl,ho2,L2⟩;have HO2:=hI ho2;have N2:=hI (N1.out.trans L2);have Ky2:=hI (K3.out.below N2.out hg3);clear ho2 L2;clear c51 c52 c53 c54 c55 c56 c57 c58 c59 c60 c61 c62;obtain⟨c51,c52,c53,c54,c55,c56,c57,c58,c59,c60⟩:=FC.out y2 g Ky2.out;obtain⟨c61,c62⟩:=FL.out y2 g Ky2.out;go_wp2_with fail;refine(CL4.out y2 w3.heap.size _ (([]++le a.acc 4)++le a.shr 4) a.way HO2.out (by simp[m0a]) N2.out.size l_way u_way).mono ?_;rintro e y3 ⟨v3,rfl,ho3,L3⟩;have HO3:=hI ho3;have N3:=hI (N2.out.trans L3);have Ky3:=hI (K3.out.below N3.out hg3);clear ho3 L3;clear c51 c52 c53 c54 c55 c56 c57 c58 c59 c60 c61 c62;obtain⟨c51,c52,c53,c54,c55,c56,c57,c58,c59,c60⟩:=FC.out y3 g Ky3.out;obtain⟨c61,c62⟩:=FL.out y3 g Ky3.out;go_wp2_with fail;refine(CL4.out y3 w3.heap.size _ ((([]++le a.acc 4)++le a.shr 4)++le a.way 4) a.opt HO3.out (by simp[m0a]) N3.out.size l_opt u_opt).mono ?_;rintro e y4 ⟨v4,rfl,ho4,L4⟩;have HO4:=hI ho4;have N4:=hI (N3.out.trans L4);have Ky4:=hI (K3.out.below N4.out hg3);clear ho4 L4;clear c51 c52 c53 c54 c55 c56 c57 c58 c59 c60 c61 c62;obtain⟨c51,c52,c53,c54,c55,c56,c57,c58,c59,c60⟩:=FC.out y4 g Ky4.out;obtain⟨c61,c62⟩:=FL.out y4 g Ky4.out;go_wp2_with(first
      | ((with_reducible refine sN 73 ?_);refine K0a rfl _ _ 4 _ rfl Tryz.underlying31 ([.int .u8 a.lev,.int .u8 a.dur,.int .u8 0,.int .u8 0]:List Value) (by kernel_rfl) ?_;intro gl z1 hz1 hz2 Yl Ll;have HOl:=hI (Own.below HO4.out Ll.out);have Nl:=hI (N4.out.trans (Ll.out.mono N4.out.size));have HHl:=hI (Holds.of_lit (xs:=[a.lev,a.dur,0,0]) Yl.out HLD.out))
      | (at_builtin;refine D0a rfl (.tmp 68) (.tmp 73) rfl w3.heap.size _ (((([]++le a.acc 4)++le a.shr 4)++le a.way 4)++le a.opt 4) rfl HOl.out z1.heap.size _ 4 4 [a.lev,a.dur,0,0] rfl HHl.out (by simp only[List.length_append,m0a,List.length_nil,List.length_cons];omega) Nl.out.size ?_;intro va z2 hoa hba hgra;have HO5:=hI hoa.out;have N5:=hI (Nl.out.trans hba);have Ky5:=hI (K3.out.below N5.out hg3);clear hoa hba hgra HOl Nl HHl Yl Ll c51 c52 c53 c54 c55 c56 c57 c58 c59 c60 c61 c62;obtain⟨c51,c52,c53,c54,c55,c56,c57,c58,c59,c60⟩:=FC.out z2 g Ky5.out;obtain⟨c61,c62⟩:=FL.out z2 g Ky5.out)
      | fail)
     refine(CL8.out z2 w3.heap.size _ ((((([]++le a.acc 4)++le a.shr 4)++le a.way 4)++le a.opt 4)++[a.lev,a.dur,0,0]) a.file HO5.out (by simp[m0a]) N5.out.size l_file u_file).mono ?_;rintro e y6 ⟨v6,rfl,ho6,L6⟩;have HO6:=hI ho6;have N6:=hI (N5.out.trans L6);have Ky6:=hI (K3.out.below N6.out hg3);clear ho6 L6;clear c51 c52 c53 c54 c55 c56 c57 c58 c59 c60 c61 c62;obtain⟨c51,c52,c53,c54,c55,c56,c57,c58,c59,c60⟩:=FC.out y6 g Ky6.out;obtain⟨c61,c62⟩:=FL.out y6 g Ky6.out;go_wp2_with fail;refine(CT.out y6).mono ?_;rintro e y7 ⟨⟨vt,rfl,hvt⟩,L7⟩;have N7:=hI (N6.out.trans (L7.mono N6.out.size));go_wp2;go_ret2;exact HQ.out _ _ rfl (M3.out.trans (N7.out.mono hs3))
    ·have HQ:=hI (HQ0.out (by rw[HOK.out,hp]));rw[hp] at CT;have hb5:O4a 5 a=le a.acc 4++(le a.shr 4++(le a.way 4++(le a.opt 4++(a.lev::a.dur::0::0::(le a.file 8++G0a a.name.data.toList))))):=by unfold O4a;rw[if_pos rfl,le1 a.lev l_lev u_lev,le1 a.dur l_dur u_dur];rfl
     rw[hb5] at HQ;have HLT:Hid ((G0a a.name.data.toList).length<=514/\Bytes (G0a a.name.data.toList)):=⟨q2a _,v1a _⟩;obtain⟨tx,htx⟩:∃x,x=G0a a.name.data.toList:=⟨_,rfl⟩;rw[<-htx] at CT HQ HLT;clear htx hp HOK HQ0 hb5;have N0:Hid (Below w3.heap.size w3 w3):=Below.refl _ _;have H00:Hid (Own w3 w3.heap.size (.slice none 0 0) []):=Own.nil _ _;have hg3:g<w3.heap.size:=K3.out.lt;obtain⟨c51,c52,c53,c54,c55,c56,c57,c58,c59,c60⟩:=FC.out w3 g K3.out;go_wp2_with fail;refine(CL4.out w3 w3.heap.size _ ([]) a.acc H00.out (by simp) N0.out.size l_acc u_acc).mono ?_;rintro e y1 ⟨v1,rfl,ho1,L1⟩;have HO1:=hI ho1;have N1:=hI (N0.out.trans L1);have Ky1:=hI (K3.out.below N1.out hg3);clear ho1 L1;clear c51 c52 c53 c54 c55 c56 c57 c58 c59 c60;obtain⟨c51,c52,c53,c54,c55,c56,c57,c58,c59,c60⟩:=FC.out y1 g Ky1.out;obtain⟨c61,c62⟩:=FL.out y1 g Ky1.out;go_wp2_with fail;refine(CL4.out y1 w3.heap.size _ ([]++le a.acc 4) a.shr HO1.out (by simp[m0a]) N1.out.size l_shr u_shr).mono ?_;rintro e y2 ⟨v2,rfl,ho2,L2⟩;have HO2:=hI ho2;have N2:=hI (N1.out.trans L2);have Ky2:=hI (K3.out.below N2.out hg3);clear ho2 L2;clear c51 c52 c53 c54 c55 c56 c57 c58 c59 c60 c61 c62;obtain⟨c51,c52,c53,c54,c55,c56,c57,c58,c59,c60⟩:=FC.out y2 g Ky2.out;obtain⟨c61,c62⟩:=FL.out y2 g Ky2.out;go_wp2_with fail;refine(CL4.out y2 w3.heap.size _ (([]++le a.acc 4)++le a.shr 4) a.way HO2.out (by simp[m0a]) N2.out.size l_way u_way).mono ?_;rintro e y3 ⟨v3,rfl,ho3,L3⟩;have HO3:=hI ho3;have N3:=hI (N2.out.trans L3);have Ky3:=hI (K3.out.below N3.out hg3);clear ho3 L3;clear c51 c52 c53 c54 c55 c56 c57 c58 c59 c60 c61 c62;obtain⟨c51,c52,c53,c54,c55,c56,c57,c58,c59,c60⟩:=FC.out y3 g Ky3.out;obtain⟨c61,c62⟩:=FL.out y3 g Ky3.out;go_wp2_with fail;refine(CL4.out y3 w3.heap.size _ ((([]++le a.acc 4)++le a.shr 4)++le a.way 4) a.opt HO3.out (by simp[m0a]) N3.out.size l_opt u_opt).mono ?_;rintro e y4 ⟨v4,rfl,ho4,L4⟩;have HO4:=hI ho4;have N4:=hI (N3.out.trans L4);have Ky4:=hI (K3.out.below N4.out hg3);clear ho4 L4;clear c51 c52 c53 c54 c55 c56 c57 c58 c59 c60 c61 c62;obtain⟨c51,c52,c53,c54,c55,c56,c57,c58,c59,c60⟩:=FC.out y4 g Ky4.out;obtain⟨c61,c62⟩:=FL.out y4 g Ky4.out;go_wp2_with(first
      | ((with_reducible refine sN 73 ?_);refine K0a rfl _ _ 4 _ rfl Tryz.underlying31 ([.int .u8 a.lev,.int .u8 a.dur,.int .u8 0,.int .u8 0]:List Value) (by kernel_rfl) ?_;intro gl z1 hz1 hz2 Yl Ll;have HOl:=hI (Own.below HO4.out Ll.out);have Nl:=hI (N4.out.trans (Ll.out.mono N4.out.size));have HHl:=hI (Holds.of_lit (xs:=[a.lev,a.dur,0,0]) Yl.out HLD.out))
      | (at_builtin;refine D0a rfl (.tmp 68) (.tmp 73) rfl w3.heap.size _ (((([]++le a.acc 4)++le a.shr 4)++le a.way 4)++le a.opt 4) rfl HOl.out z1.heap.size _ 4 4 [a.lev,a.dur,0,0] rfl HHl.out (by simp only[List.length_append,m0a,List.length_nil,List.length_cons];omega) Nl.out.size ?_;intro va z2 hoa hba hgra;have HO5:=hI hoa.out;have N5:=hI (Nl.out.trans hba);have Ky5:=hI (K3.out.below N5.out hg3);clear hoa hba hgra HOl Nl HHl Yl Ll c51 c52 c53 c54 c55 c56 c57 c58 c59 c60 c61 c62;obtain⟨c51,c52,c53,c54,c55,c56,c57,c58,c59,c60⟩:=FC.out z2 g Ky5.out;obtain⟨c61,c62⟩:=FL.out z2 g Ky5.out)
      | fail)
     refine(CL8.out z2 w3.heap.size _ ((((([]++le a.acc 4)++le a.shr 4)++le a.way 4)++le a.opt 4)++[a.lev,a.dur,0,0]) a.file HO5.out (by simp[m0a]) N5.out.size l_file u_file).mono ?_;rintro e y6 ⟨v6,rfl,ho6,L6⟩;have HO6:=hI ho6;have N6:=hI (N5.out.trans L6);have Ky6:=hI (K3.out.below N6.out hg3);clear ho6 L6;clear c51 c52 c53 c54 c55 c56 c57 c58 c59 c60 c61 c62;obtain⟨c51,c52,c53,c54,c55,c56,c57,c58,c59,c60⟩:=FC.out y6 g Ky6.out;obtain⟨c61,c62⟩:=FL.out y6 g Ky6.out;go_wp2_with fail;refine(CT.out y6).mono ?_;rintro e y7 ⟨⟨vt,rfl,hvt⟩,L7⟩;have N7:=hI (N6.out.trans (L7.mono N6.out.size));obtain⟨At,ct,rfl,hHt⟩:=Own.holds hvt HLT.out.2 (by have:=HLT.out.1;omega);have HTX:=hI hHt;have HO7:=hI (Own.below HO6.out L7);have hlt:=HLT.out.1;obtain⟨lt,hltx⟩:∃x,x=tx.length:=⟨_,rfl⟩;rw[<-hltx] at HTX hlt⊢;have hltx2:=hltx.symm;have HLX:=hI hltx2;clear hvt L7 hHt hltx hltx2;go_wp2_with(first
      | (at_builtin;refine D0a rfl (.tmp 88) (.tmp 89) rfl w3.heap.size _ (((((([]++le a.acc 4)++le a.shr 4)++le a.way 4)++le a.opt 4)++[a.lev,a.dur,0,0])++le a.file 8) rfl HO7.out y7.heap.size At lt ct tx rfl HTX.out (by rw[HLX.out];simp only[List.length_append,m0a,List.length_nil,List.length_cons];omega) N7.out.size ?_;intro va z3 hoa hba hgra)
      | fail)
     go_ret2;refine HQ.out _ _ _ rfl ?_ (M3.out.trans ((N7.out.trans hba).mono hs3));have h9:=Own.mono hoa.out hs3;simpa[List.append_assoc] using h9
   ·subst h6;rw[if_neg (by decide)] at HOK;have HQ:=hI (HQ0.out HOK.out);have hb0:O4a 6 a=le a.file 8:=rfl;rw[hb0] at HQ;clear HOK HQ0 hb0;have N0:Hid (Below w3.heap.size w3 w3):=Below.refl _ _;have H00:Hid (Own w3 w3.heap.size (.slice none 0 0) []):=Own.nil _ _;have hg3:g<w3.heap.size:=K3.out.lt;obtain⟨c51,c52,c53,c54,c55,c56,c57,c58,c59,c60⟩:=FC.out w3 g K3.out;go_wp2_with fail;refine(CL8.out w3 w3.heap.size _ ([]) a.file H00.out (by simp) N0.out.size l_file u_file).mono ?_;rintro e y1 ⟨v1,rfl,ho1,L1⟩;have HO1:=hI ho1;have N1:=hI (N0.out.trans L1);have Ky1:=hI (K3.out.below N1.out hg3);clear ho1 L1;clear c51 c52 c53 c54 c55 c56 c57 c58 c59 c60;obtain⟨c51,c52,c53,c54,c55,c56,c57,c58,c59,c60⟩:=FC.out y1 g Ky1.out;obtain⟨c61,c62⟩:=FL.out y1 g Ky1.out;go_wp2;go_ret2;refine HQ.out _ _ _ rfl ?_ (M3.out.trans (N1.out.mono hs3));have h9:=Own.mono HO1.out hs3;simpa[List.append_assoc] using h9
   ·subst h7;rw[if_neg (by decide)] at HOK;have HQ:=hI (HQ0.out HOK.out);have hb0:O4a 7 a=le a.file 8:=rfl;rw[hb0] at HQ;clear HOK HQ0 hb0;have N0:Hid (Below w3.heap.size w3 w3):=Below.refl _ _;have H00:Hid (Own w3 w3.heap.size (.slice none 0 0) []):=Own.nil _ _;have hg3:g<w3.heap.size:=K3.out.lt;obtain⟨c51,c52,c53,c54,c55,c56,c57,c58,c59,c60⟩:=FC.out w3 g K3.out;go_wp2_with fail;refine(CL8.out w3 w3.heap.size _ ([]) a.file H00.out (by simp) N0.out.size l_file u_file).mono ?_;rintro e y1 ⟨v1,rfl,ho1,L1⟩;have HO1:=hI ho1;have N1:=hI (N0.out.trans L1);have Ky1:=hI (K3.out.below N1.out hg3);clear ho1 L1;clear c51 c52 c53 c54 c55 c56 c57 c58 c59 c60;obtain⟨c51,c52,c53,c54,c55,c56,c57,c58,c59,c60⟩:=FC.out y1 g Ky1.out;obtain⟨c61,c62⟩:=FL.out y1 g Ky1.out;go_wp2;go_ret2;refine HQ.out _ _ _ rfl ?_ (M3.out.trans (N1.out.mono hs3));have h9:=Own.mono HO1.out hs3;simpa[List.append_assoc] using h9
   ·subst h8;rw[if_neg (by decide)] at HOK;have HQ:=hI (HQ0.out HOK.out);have hb0:O4a 8 a=le a.file 8++(le a.at_ 8++le a.n 4):=rfl;rw[hb0] at HQ;clear HOK HQ0 hb0;have N0:Hid (Below w3.heap.size w3 w3):=Below.refl _ _;have H00:Hid (Own w3 w3.heap.size (.slice none 0 0) []):=Own.nil _ _;have hg3:g<w3.heap.size:=K3.out.lt;obtain⟨c51,c52,c53,c54,c55,c56,c57,c58,c59,c60⟩:=FC.out w3 g K3.out;go_wp2_with fail;refine(CL8.out w3 w3.heap.size _ ([]) a.file H00.out (by simp) N0.out.size l_file u_file).mono ?_;rintro e y1 ⟨v1,rfl,ho1,L1⟩;have HO1:=hI ho1;have N1:=hI (N0.out.trans L1);have Ky1:=hI (K3.out.below N1.out hg3);clear ho1 L1;clear c51 c52 c53 c54 c55 c56 c57 c58 c59 c60;obtain⟨c51,c52,c53,c54,c55,c56,c57,c58,c59,c60⟩:=FC.out y1 g Ky1.out;obtain⟨c61,c62⟩:=FL.out y1 g Ky1.out;go_wp2_with fail;refine(CL8.out y1 w3.heap.size _ ([]++le a.file 8) a.at_ HO1.out (by simp[m0a]) N1.out.size l_at_ u_at_).mono ?_;rintro e y2 ⟨v2,rfl,ho2,L2⟩;have HO2:=hI ho2;have N2:=hI (N1.out.trans L2);have Ky2:=hI (K3.out.below N2.out hg3);clear ho2 L2;clear c51 c52 c53 c54 c55 c56 c57 c58 c59 c60 c61 c62;obtain⟨c51,c52,c53,c54,c55,c56,c57,c58,c59,c60⟩:=FC.out y2 g Ky2.out;obtain⟨c61,c62⟩:=FL.out y2 g Ky2.out;go_wp2_with fail;refine(CL4.out y2 w3.heap.size _ (([]++le a.file 8)++le a.at_ 8) a.n HO2.out (by simp[m0a]) N2.out.size l_n u_n).mono ?_;rintro e y3 ⟨v3,rfl,ho3,L3⟩;have HO3:=hI ho3;have N3:=hI (N2.out.trans L3);have Ky3:=hI (K3.out.below N3.out hg3);clear ho3 L3;clear c51 c52 c53 c54 c55 c56 c57 c58 c59 c60 c61 c62;obtain⟨c51,c52,c53,c54,c55,c56,c57,c58,c59,c60⟩:=FC.out y3 g Ky3.out;obtain⟨c61,c62⟩:=FL.out y3 g Ky3.out;go_wp2;go_ret2;refine HQ.out _ _ _ rfl ?_ (M3.out.trans (N3.out.mono hs3));have h9:=Own.mono HO3.out hs3;simpa[List.append_assoc] using h9
   ·subst h9;rw[if_neg (by decide)] at HOK;have HQ:=hI (HQ0.out HOK.out);have hb0:O4a 9 a=le a.file 8++(le a.at_ 8++(le (X2:Int) 4++a.data)):=by unfold O4a;rw[if_neg (by decide),if_neg (by decide),if_pos rfl,HX.out.len]
    rw[hb0] at HQ;clear HOK HQ0 hb0;have N0:Hid (Below w3.heap.size w3 w3):=Below.refl _ _;have H00:Hid (Own w3 w3.heap.size (.slice none 0 0) []):=Own.nil _ _;have hg3:g<w3.heap.size:=K3.out.lt;obtain⟨c51,c52,c53,c54,c55,c56,c57,c58,c59,c60⟩:=FC.out w3 g K3.out;go_wp2_with fail;refine(CL8.out w3 w3.heap.size _ ([]) a.file H00.out (by simp) N0.out.size l_file u_file).mono ?_;rintro e y1 ⟨v1,rfl,ho1,L1⟩;have HO1:=hI ho1;have N1:=hI (N0.out.trans L1);have Ky1:=hI (K3.out.below N1.out hg3);clear ho1 L1;clear c51 c52 c53 c54 c55 c56 c57 c58 c59 c60;obtain⟨c51,c52,c53,c54,c55,c56,c57,c58,c59,c60⟩:=FC.out y1 g Ky1.out;obtain⟨c61,c62⟩:=FL.out y1 g Ky1.out;go_wp2_with fail;refine(CL8.out y1 w3.heap.size _ ([]++le a.file 8) a.at_ HO1.out (by simp[m0a]) N1.out.size l_at_ u_at_).mono ?_;rintro e y2 ⟨v2,rfl,ho2,L2⟩;have HO2:=hI ho2;have N2:=hI (N1.out.trans L2);have Ky2:=hI (K3.out.below N2.out hg3);clear ho2 L2;clear c51 c52 c53 c54 c55 c56 c57 c58 c59 c60 c61 c62;obtain⟨c51,c52,c53,c54,c55,c56,c57,c58,c59,c60⟩:=FC.out y2 g Ky2.out;obtain⟨c61,c62⟩:=FL.out y2 g Ky2.out;go_wp2_with fail;refine(CL4.out y2 w3.heap.size _ (([]++le a.file 8)++le a.at_ 8) (X2:Int) HO2.out (by simp[m0a]) N2.out.size (by omega) (by omega)).mono ?_;rintro e y3 ⟨v3,rfl,ho3,L3⟩;have HO3:=hI ho3;have N3:=hI (N2.out.trans L3);have Ky3:=hI (K3.out.below N3.out hg3);clear ho3 L3;clear c51 c52 c53 c54 c55 c56 c57 c58 c59 c60 c61 c62;obtain⟨c51,c52,c53,c54,c55,c56,c57,c58,c59,c60⟩:=FC.out y3 g Ky3.out;obtain⟨c61,c62⟩:=FL.out y3 g Ky3.out;have HXD:=hI (HX.out.over (M3.out.trans (N3.out.mono hs3)));go_wp2_with(first
     | (at_builtin;refine D0a rfl (.tmp 119) (.tmp 121) rfl w3.heap.size _ ((([]++le a.file 8)++le a.at_ 8)++le (X2:Int) 4) rfl HO3.out y3.heap.size X1 X2 X3 a.data rfl HXD.out (by rw[HX.out.len];simp only[List.length_append,m0a,List.length_nil,List.length_cons];omega) N3.out.size ?_;intro va z3 hoa hba hgra)
     | fail)
    go_ret2;refine HQ.out _ _ _ rfl ?_ (M3.out.trans ((N3.out.trans hba).mono hs3));have h9:=Own.mono hoa.out hs3;simpa[List.append_assoc] using h9
   ·subst h10;rw[if_neg (by decide)] at HOK;have HQ:=hI (HQ0.out HOK.out);have hb0:O4a 10 a=le a.file 8++(le (M2:Int) 2++(List.replicate 2 0++X1a a.locks)):=by unfold O4a;rw[if_neg (by decide),if_neg (by decide),if_neg (by decide),if_pos rfl,HM.out.len]
    rw[hb0] at HQ;clear HOK HQ0 hb0;have N0:Hid (Below w3.heap.size w3 w3):=Below.refl _ _;have H00:Hid (Own w3 w3.heap.size (.slice none 0 0) []):=Own.nil _ _;have hg3:g<w3.heap.size:=K3.out.lt;obtain⟨c51,c52,c53,c54,c55,c56,c57,c58,c59,c60⟩:=FC.out w3 g K3.out;go_wp2_with fail;refine(CL8.out w3 w3.heap.size _ ([]) a.file H00.out (by simp) N0.out.size l_file u_file).mono ?_;rintro e y1 ⟨v1,rfl,ho1,L1⟩;have HO1:=hI ho1;have N1:=hI (N0.out.trans L1);have Ky1:=hI (K3.out.below N1.out hg3);clear ho1 L1;clear c51 c52 c53 c54 c55 c56 c57 c58 c59 c60;obtain⟨c51,c52,c53,c54,c55,c56,c57,c58,c59,c60⟩:=FC.out y1 g Ky1.out;obtain⟨c61,c62⟩:=FL.out y1 g Ky1.out;go_wp2_with fail;refine(CL2.out y1 w3.heap.size _ ([]++le a.file 8) (M2:Int) HO1.out (by simp[m0a]) N1.out.size (by omega) (by omega)).mono ?_;rintro e y2 ⟨v2,rfl,ho2,L2⟩;have HO2:=hI ho2;have N2:=hI (N1.out.trans L2);have Ky2:=hI (K3.out.below N2.out hg3);clear ho2 L2;clear c51 c52 c53 c54 c55 c56 c57 c58 c59 c60 c61 c62;obtain⟨c51,c52,c53,c54,c55,c56,c57,c58,c59,c60⟩:=FC.out y2 g Ky2.out;obtain⟨c61,c62⟩:=FL.out y2 g Ky2.out;go_wp2_with fail;refine(CL2.out y2 w3.heap.size _ (([]++le a.file 8)++le (M2:Int) 2) 0 HO2.out (by simp[m0a]) N2.out.size (Int.le_refl 0) (by decide)).mono ?_;rintro e y3 ⟨v3,rfl,ho3,L3⟩;have HO3:=hI ho3;have N3:=hI (N2.out.trans L3);have Ky3:=hI (K3.out.below N3.out hg3);clear ho3 L3;clear c51 c52 c53 c54 c55 c56 c57 c58 c59 c60 c61 c62;obtain⟨c51,c52,c53,c54,c55,c56,c57,c58,c59,c60⟩:=FC.out y3 g Ky3.out;obtain⟨c61,c62⟩:=FL.out y3 g Ky3.out;obtain⟨pre,hpre⟩:∃f:Nat->List Int,f=λj=>[]++le a.file 8++le (M2:Int) 2++le 0 2++X1a (a.locks.take j):=⟨_,rfl⟩
    have HP0:Hid (Own y3 w3.heap.size v3 (pre 0)):=by show Own y3 w3.heap.size v3 (pre 0);rw[hpre];have h:=HO3.out;simpa[X1a] using h
    have HPS:Hid (∀(j:Nat) (x:m2a),a.locks[j]? = some x->pre (j+1)=pre j++le x.at_ 8++le x.n 8++le x.md 2++le 0 2):=λj x hx=>by
     rw[hpre];show[]++le a.file 8++le (M2:Int) 2++le 0 2++X1a (a.locks.take (j+1))=_
     rw[List.take_add_one,hx,Option.toList_some,I9a];show _=[]++le a.file 8++le (M2:Int) 2++le 0 2++X1a (a.locks.take j)++le x.at_ 8++le x.n 8++le x.md 2++le 0 2
     have e0:le 0 2=List.replicate 2 0:=rfl;rw[e0];simp only[e1b,List.append_assoc]
    have HPL:Hid (∀j,j<=M2->(pre j).length<=1000):=λj hj=>by
     rw[hpre];show([]++le a.file 8++le (M2:Int) 2++le 0 2++X1a (a.locks.take j)).length<=1000
     simp only[List.length_append,m0a,List.length_nil,N6a,List.length_take];omega
    have HPN:Hid (pre M2=le a.file 8++(le (M2:Int) 2++(List.replicate 2 0++X1a a.locks))):=by
     show _=_
     rw[hpre];show[]++le a.file 8++le (M2:Int) 2++le 0 2++X1a (a.locks.take M2)=_
     rw[<-HM.out.len,List.take_length];have e0:le 0 2=List.replicate 2 0:=rfl;rw[e0];simp only[List.append_assoc,List.nil_append]
    rw[<-HPN.out] at HQ;have HK10:=hI Ky3.out;clear HPN hpre HO3 HO1 HO2 Ky1 Ky2 N1 N2 H00 N0;go_wp2;go_loopw [7,10] (λv i wr=>∃j:Nat,i=.int .i64 j/\j<=M2/\Hid (Own wr w3.heap.size v (pre j))/\Hid (Below w3.heap.size w3 wr)) (λ_ i _=>M2-(intOf i).toNat)
    case atStart=>exact⟨0,rfl,Nat.zero_le _,HP0,N3⟩
    case round=>
     obtain⟨j,rfl,hj,HO,NR⟩:=hrel;clear c51 c52 c53 c54 c55 c56 c57 c58 c59 c60 c61 c62;have KR:=hI (K3.out.below NR.out hg3);obtain⟨c61,c62⟩:=FL.out wr g KR.out;by_cases hlt:j<M2
     ·obtain⟨x,hx⟩:=HGET.out j hlt;have MR:=hI (M3.out.trans (NR.out.mono hs3));obtain⟨b,off,rfl,k0,k1,k2,k3⟩:=HCELL.out wr MR.out j x hlt hx;have HE1:=hI (HPS.out j x hx);have hxo:=KM.out x (List.mem_of_getElem? hx);obtain⟨x0,x1⟩:=hxo.at_;obtain⟨y0,y1⟩:=hxo.n;obtain⟨z0,z1⟩:=hxo.md;have z_m:IntKind.u64.wrap x.md=x.md:=by rw[IntKind.wrap_u64];omega
      have hpl:=HPL.out j hj;have HCJ:Hid (∀w',Below w3.heap.size w3 w'->w'.cell? ⟨g,62,none⟩=some (.slice (some ⟨b,off,none⟩) M2 M3')/\w'.cell? ⟨b,off+j*4+2,none⟩=some (.int .u64 x.n)/\w'.cell? ⟨b,off+j*4+3,none⟩=some (.int .u16 x.md)):=λw' hN=>by
       obtain⟨b',off',h1,_,_,h4,h5⟩:=HCELL.out w' (M3.out.trans (hN.mono hs3)) j x hlt hx;injection h1 with h1
       injection h1 with h1 h2
       subst h1 h2;exact⟨(FL.out w' g (K3.out.below hN hg3)).2,h4,h5⟩
      clear hx hxo;go_wp2_with fail;refine(CL8.out wr w3.heap.size _ (pre j) x.at_ HO.out (by omega) NR.out.size x0 x1).mono ?_;rintro e q1 ⟨u1,rfl,ho,L⟩;have HA1:=hI ho;have NA1:=hI (NR.out.trans L);clear ho L c61 c62 k0 k1 k2 k3;obtain⟨c62,k2,k3⟩:=HCJ.out q1 NA1.out;go_wp2_with fail;refine(CL8.out q1 w3.heap.size _ (pre j++le x.at_ 8) x.n HA1.out (by simp only[List.length_append,m0a];omega) NA1.out.size y0 y1).mono ?_;rintro e q2 ⟨u2,rfl,ho,L⟩;have HA2:=hI ho;have NA2:=hI (NA1.out.trans L);clear ho L c62 k2 k3;obtain⟨c62,k2,k3⟩:=HCJ.out q2 NA2.out;go_wp2_with fail;refine(CL2.out q2 w3.heap.size _ (pre j++le x.at_ 8++le x.n 8) x.md HA2.out (by simp only[List.length_append,m0a];omega) NA2.out.size z0 z1).mono ?_;rintro e q3 ⟨u3,rfl,ho,L⟩;have HA3:=hI ho;have NA3:=hI (NA2.out.trans L);clear ho L c62 k2 k3;go_wp2_with fail;refine(CL2.out q3 w3.heap.size _ (pre j++le x.at_ 8++le x.n 8++le x.md 2) 0 HA3.out (by simp only[List.length_append,m0a];omega) NA3.out.size (Int.le_refl 0) (by decide)).mono ?_;rintro e q4 ⟨u4,rfl,ho,L⟩;rw[<-HE1.out] at ho;have HA4:=hI ho;have NA4:=hI (NA3.out.trans L);clear ho L HA1 HA2 HA3 NA1 NA2 NA3 HE1 HCJ HO NR;go_wp2;go_roundw
      case rel=>exact⟨j+1,by simp,by omega,HA4,NA4⟩
      case measure=>simp[intOf];omega
     ·obtain rfl:j=M2:=by omega
      go_wp2;go_ret2;exact HQ.out _ _ _ rfl (Own.mono HO.out hs3) (M3.out.trans (NR.out.mono hs3))
end Go.Proofs.YtgfflnjggnadpaaGreatDoor
