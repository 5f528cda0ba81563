import Derived.Test.YtjpcifmeimcikaaGreatDoorSAG
import Derived.Test.YtjpcifmeimcikaaGreatDoorS0
set_option linter.all false
set_option maxHeartbeats 8000000
set_option maxRecDepth 100000
namespace Go.Proofs.YtjpcifmeimcikaaGreatDoor
open Go.Proofs.Tryz
set_option maxRecDepth 100000
open Go.RowKit
theorem R2b{P:Program}{f:FuncId}{args:Array Value}{w:World}{n:Nat}{v:Value}
(h:∀w,Calls P f args w λe w'=>e=.returned v/\w=w'):Calls P f args (w.drewN n) λe w''=>e=.returned v/\∃m,w''=w.drewN m:=(h _).mono λ_ _ ⟨he,hm⟩=>⟨he,n,hm.symm⟩
theorem s8b:prog.eqGuardType prog.depth 28=false:=by kernel_rfl
theorem a5c(w:World)(h:Hd)(k:h.ok) :
  Calls prog 30 #[hv h] w λe w'=>e=.returned (.bool (L8a h))/\BW w w':=by
 have CK:Hid (∀w:World,Calls prog 45 #[.int .u16 h.cm] w λe w'=>e=.returned (.bool (known h.cm))/\w=w'):=λw=>P1c w h.cm
 have CO:Hid (∀w:World,Calls prog 46 #[hv h] w λe w'=>e=.returned (hv (q7a h))/\BW w w'):=λw=>J9b w h k
 have q0:∀w:World,(Op.equalIn 10000 28 (.agg (m0a h).toArray) (.agg (m0a (q7a h)).toArray)).run prog w=.ok (decide (h=q7a h)) w:=λw=>F8a h (q7a h) k (m4b k) w
 have hf:=O1c h.fl k.fl.1 k.fl.2;have HL:=hI (G0a k);have HK:=hI (G0a (m4b k));have HM:Hid (L8a h=(known h.cm&&(decide (h.fl<16)&&decide (h=q7a h)))):=by show _=_;unfold L8a;rw[O2c]
 obtain⟨z,hz⟩:=xX (decide (h=q7a h));obtain⟨fl,hfl⟩:=xX h.fl;obtain⟨cm,hcm⟩:=xX h.cm;obtain⟨cs,hcs⟩:=xX (m0a h);obtain⟨ds,hds⟩:=xX (m0a (q7a h));have qg:=s8b;unfold hv at CO⊢;rw[<-hcs] at CO HL q0⊢;rw[<-hds] at CO HK q0;rw[<-hz] at q0 HM;rw[<-hfl] at hf HM;rw[<-hcm] at CK HM;have HFL:=hI hfl;have HCM:=hI hcm;have HC:=hI hcs;have F2:Hid (∀(w:World) (g:Nat),Blk w g 28 cs->w.cell? ⟨g,2,none⟩=some (.int .u16 cm)/\w.cell? ⟨g,4,none⟩=some (.int .u32 fl)):=λw g B=>⟨by rw[HCM.o];exact HB.c2 (HB.of HC.o B),by rw[HFL.o];exact HB.c4 (HB.of HC.o B)⟩
 clear hz hfl hcm hcs hds k HFL HCM HC;by_cases hk:known cm=true
 ·rw[hk] at CK HM;by_cases h16:fl<16
  ·rw[decide_eq_true h16] at hf HM;rw[show L8a h=z from by rw[HM.o];simp];clear hk h16 HM;go_enter func30,ntmps30;go_upto_region 1 with(first|(refine sN 1 ?_;refine d0a rfl _ (.tmp 0) rfl cs rfl ?_;intro g w1 hg1 hg2 B1 L1)|fail)
   refine wp_region_held (S:=λw'=>Blk w' g 28 cs) (by kernel_rfl) ?_;change wpAnyH _ _ _ _ _ _ _ _ w1.drew
   have S0:Hid (Blk w1.drew g 28 cs):=B1.o.drew;have b0:Hid (BW w w1.drew):=L1.o.drew;have gc:=(F2.o _ _ S0.o).1;have gf:=(F2.o _ _ S0.o).2;clear B1 L1;refine oN 0 _ rfl λK hK=>?_
   go_simp;refine hK _ _ S0.o ?_;clear hK K;refine oN 1 _ rfl λK hK=>?_
   go_simp;refine hK _ _ S0.o ?_;clear hK K;refine oN 2 _ rfl λK hK=>?_
   go_simp;refine(CK.o _).mono ?_;rintro e v1 ⟨rfl,rfl⟩;refine hK _ _ S0.o ?_;clear hK K;refine oN 3 _ rfl λK hK=>?_
   go_simp;refine hK _ _ S0.o ?_;clear hK K;refine oN 4 _ rfl λK hK=>?_
   go_simp;refine hK _ _ S0.o ?_;clear hK K;refine oN 5 _ rfl λK hK=>?_
   go_simp;refine hK _ _ S0.o ?_;clear hK K;refine oN 6 _ rfl λK hK=>?_
   go_simp;refine hK _ _ S0.o ?_;clear hK K;refine oN 7 _ rfl λK hK=>?_
   go_simp;refine hK _ _ S0.o ?_;clear hK K;refine oN 8 _ rfl λK hK=>?_
   go_simp;refine hK _ _ S0.o ?_;clear hK K;refine oN 9 _ rfl λK hK=>?_
   go_simp;refine hK _ _ S0.o ?_;clear hK K;refine tK 10 _ rfl (C4a rfl _ (.tmp 1) rfl g rfl _ cs (λ_ h=>h) 26 _ underlying28 rfl K0a HL) S0.o ?_;refine tK 11 _ rfl (C4a rfl _ (.tmp 1) rfl g rfl _ cs (λ_ h=>h) 26 _ underlying28 rfl K0a HL) S0.o ?_;refine oN 12 _ rfl λK hK=>?_
   go_simp;refine(CO.o _).mono ?_;rintro e v2 ⟨rfl,b⟩;have S2:Hid (Blk v2 g 28 cs):=S0.o.over b;have b2:=hI (step b0.o b);refine hK _ _ S2.o ?_;clear hK K b;refine oN 13 _ rfl λK hK=>?_
   go_simp;refine hK _ _ S2.o ?_;clear hK K;refine oN 14 _ rfl λK hK=>?_
   go_simp;refine hK _ _ S2.o ?_;clear hK K;refine oN 15 _ rfl λK hK=>?_
   go_simp;refine hK _ _ S2.o ?_;clear hK K;refine dN ?_;go_wp2_with fail;go_ret;exact⟨rfl,b2.o⟩
  ·have h16':decide (fl<16)=false:=by simpa using h16
   rw[h16'] at hf HM;rw[show L8a h=false from by rw[HM.o];simp];clear hk h16 h16' HM CO q0;go_enter func30,ntmps30;go_upto_region 1 with(first|(refine sN 1 ?_;refine d0a rfl _ (.tmp 0) rfl cs rfl ?_;intro g w1 hg1 hg2 B1 L1)|fail)
   have gc:=(F2.o _ _ B1.o).1;have gf:=(F2.o _ _ B1.o).2;go_quiet ((go_at_call 45;exact R2b CK.o));go_wp2_with fail;go_ret;exact⟨rfl,below_drewN L1.o _⟩
 ·have hk':known cm=false:=by simpa using hk
  rw[hk'] at CK HM;rw[show L8a h=false from by rw[HM.o];simp];clear hk hk' HM CO q0;go_enter func30,ntmps30;go_upto_region 1 with(first|(refine sN 1 ?_;refine d0a rfl _ (.tmp 0) rfl cs rfl ?_;intro g w1 hg1 hg2 B1 L1)|fail)
  have gc:=(F2.o _ _ B1.o).1;have gf:=(F2.o _ _ B1.o).2;go_quiet ((go_at_call 45;exact R2b CK.o));go_wp2_with fail;go_ret;exact⟨rfl,below_drewN L1.o _⟩
def fnk:Nat->FuncId
 | 0=>47
 | 1=>47
 | 2=>48
 | 3=>49
 | 4=>50
 | 5=>51
 | 6=>52
 | 7=>53
 | 8=>54
 | 9=>56
 | 10=>58
 | _=>0
def fnv(p k:Nat):Value:=.func (.func (fnk k)) #[] (if k<2 then #[] else #[.pointer (some ⟨p,0,none⟩)])
def V1c(p:Nat)(c0 c1 c2 c3 c4 c5 c6 c9 c10:Int):List Value:=
 [.int .i64 0,.int .i64 4,.int .u64 1112364030,.func (.func 47) #[] #[],
  .int .i64 4,.int .i64 2,.int .u64 64,.func (.func 47) #[] #[],
  .int .i64 6,.int .i64 2,.int .u64 c0,.func (.func 48) #[] #[.pointer (some ⟨p,0,none⟩)],
  .int .i64 8,.int .i64 4,.int .u64 c1,.func (.func 49) #[] #[.pointer (some ⟨p,0,none⟩)],
  .int .i64 12,.int .i64 2,.int .u64 c2,.func (.func 50) #[] #[.pointer (some ⟨p,0,none⟩)],
  .int .i64 14,.int .i64 2,.int .u64 c3,.func (.func 51) #[] #[.pointer (some ⟨p,0,none⟩)],
  .int .i64 16,.int .i64 4,.int .u64 c4,.func (.func 52) #[] #[.pointer (some ⟨p,0,none⟩)],
  .int .i64 20,.int .i64 4,.int .u64 c5,.func (.func 53) #[] #[.pointer (some ⟨p,0,none⟩)],
  .int .i64 24,.int .i64 8,.int .u64 c6,.func (.func 54) #[] #[.pointer (some ⟨p,0,none⟩)],
  .int .i64 32,.int .i64 8,.int .u64 c9,.func (.func 56) #[] #[.pointer (some ⟨p,0,none⟩)],
  .int .i64 40,.int .i64 8,.int .u64 c10,.func (.func 58) #[] #[.pointer (some ⟨p,0,none⟩)]]
def d6a(p:Nat)(h:Hd):List Value:=V1c p h.ch h.st h.cm h.cr h.fl h.nx h.id (aot h) h.se
def fel(p:Nat)(h:Hd)(k:Nat):List Value:=[.int .i64 (w7a.getD k 0:Nat),.int .i64 (szs.getD k 0:Nat),.int .u64 ((b0b h).getD k 0),fnv p k]
theorem W1c(p:Nat)(h:Hd)(k:Nat)(hk:k<11)(j:Nat)(v:Value)(hj:(fel p h k)[j]? = some v):(d6a p h)[k*4+j]? = some v:=by
 have h4:j<4:=by have:=(List.getElem?_eq_some_iff.1 hj).1;simpa[fel] using this
 rw[<-hj];revert hk
 match j,h4 with
 | 0,_=>exact λhk=>A8a (p:=λk=>(d6a p h)[k*4+0]? = (fel p h k)[0]?) rfl rfl rfl rfl rfl rfl rfl rfl rfl rfl rfl k hk
 | 1,_=>exact λhk=>A8a (p:=λk=>(d6a p h)[k*4+1]? = (fel p h k)[1]?) rfl rfl rfl rfl rfl rfl rfl rfl rfl rfl rfl k hk
 | 2,_=>exact λhk=>A8a (p:=λk=>(d6a p h)[k*4+2]? = (fel p h k)[2]?) rfl rfl rfl rfl rfl rfl rfl rfl rfl rfl rfl k hk
 | 3,_=>exact λhk=>A8a (p:=λk=>(d6a p h)[k*4+3]? = (fel p h k)[3]?) rfl rfl rfl rfl rfl rfl rfl rfl rfl rfl rfl k hk
theorem M0b{w:World}{G p:Nat}{T:TypeId}{h:Hd}(B:Blk w G T (d6a p h))(k:Nat)(hk:k<11):w.rangeAt G (k*4) (fel p h k):=λj v hj=>by rw[B.cell];exact W1c p h k hk j v hj
def w8a(w:World)(g:Nat)(h:Hd)(e:Ending)(w':World):Prop:=∃p G,e=.returned (.slice (some ⟨G,0,none⟩) 11 11)/\w.heap.size<=p/\p<G/\Blk w' p 78 [.pointer (some ⟨g,0,none⟩)]/\Blk w' G 81 (d6a p h)/\BW w w'
theorem V3b(w:World)(g:Nat)(h:Hd)(k:h.ok)(hB:HB w g h) :
  Calls prog 31 #[.pointer (some ⟨g,0,none⟩)] w (w8a w g h):=by
 have hmf:∀(fn:Fn) (first cap:Array Value) (w:World),(Instr.makeFunc fn first cap).run prog w=.ok (.func fn first cap) w:=λ_ _ _ _=>rfl
 have HL:=hI (G0a k);have C0:Hid (∀w:World,Calls prog 55 #[hv h] w λe w'=>e=.returned (.int .u64 (aot h))/\BW w w'):=λw=>P2b w h k
 have HQ:Hid (∀e w',(∃p G,e=.returned (.slice (some ⟨G,0,none⟩) 11 11)/\w.heap.size<=p/\p<G/\Blk w' p 78 [.pointer (some ⟨g,0,none⟩)]/\Blk w' G 81 (d6a p h)/\BW w w')->w8a w g h e w'):=λ_ _ hh=>hh
 obtain⟨k0,k1,k2,k3,k4,k5,k6,k7,k8,k9,_,_⟩:=k;have HB0:=hI hB;unfold hv at C0;unfold d6a at HQ;obtain⟨n9,hn9⟩:=xX (aot h);obtain⟨cs,hcs⟩:=xX (m0a h);have HC:=hI hcs;rw[<-hcs] at C0 HL;rw[<-hn9] at C0 HQ;have FW:Hid (∀w',Blk w' g 28 cs->w'.cell? ⟨g,0,none⟩=some (.int .u16 h.ch)/\w'.cell? ⟨g,1,none⟩=some (.int .u32 h.st)/\w'.cell? ⟨g,2,none⟩=some (.int .u16 h.cm)/\w'.cell? ⟨g,3,none⟩=some (.int .u16 h.cr)/\
   w'.cell? ⟨g,4,none⟩=some (.int .u32 h.fl)/\w'.cell? ⟨g,5,none⟩=some (.int .u32 h.nx)/\w'.cell? ⟨g,6,none⟩=some (.int .u64 h.id)/\w'.cell? ⟨g,9,none⟩=some (.int .u64 h.se)):=λw' b=>by
  have X:HB w' g h:=HB.of HC.o b;exact⟨X.c0,X.c1,X.c2,X.c3,X.c4,X.c5,X.c6,X.c9⟩
 have HB1:Hid (Blk w g 28 cs):=by show Blk _ _ _ _;rw[HC.o];exact HB0.o
 clear hB hcs hn9 HB0;obtain⟨n0,hn0⟩:=xX h.ch;obtain⟨n1,hn1⟩:=xX h.st;obtain⟨n2,hn2⟩:=xX h.cm;obtain⟨n3,hn3⟩:=xX h.cr;obtain⟨n4,hn4⟩:=xX h.fl;obtain⟨n5,hn5⟩:=xX h.nx;obtain⟨n6,hn6⟩:=xX h.id;obtain⟨n10,hn10⟩:=xX h.se;rw[<-hn0] at FW HQ k0;rw[<-hn1] at FW HQ k1;rw[<-hn2] at FW HQ k2;rw[<-hn3] at FW HQ k3;rw[<-hn4] at FW HQ k4;rw[<-hn5] at FW HQ k5;rw[<-hn6] at FW HQ k6;rw[<-hn10] at FW HQ k9;obtain⟨k00,k01⟩:=k0;obtain⟨k10,k11⟩:=k1;obtain⟨k20,k21⟩:=k2;obtain⟨k30,k31⟩:=k3;obtain⟨k40,k41⟩:=k4;obtain⟨k50,k51⟩:=k5;clear hn0 hn1 hn2 hn3 hn4 hn5 hn6 hn10 k6 k7 k8 k9;go_enter func31,ntmps31;go_upto_region 2 with(first|(refine sN 1 ?_;refine k3b rfl _ (.tmp 0) rfl _ rfl rfl ?_;intro p w1 hp1 hp2 P1 L1)|fail)
 refine wp_region_held (S:=λw'=>Blk w' p 78 [.pointer (some ⟨g,0,none⟩)]/\Blk w' g 28 cs) (by kernel_rfl) ?_;change wpAnyH _ _ _ _ _ _ _ _ w1.drew
 have S0:Hid (Blk w1.drew p 78 [.pointer (some ⟨g,0,none⟩)]/\Blk w1.drew g 28 cs):=⟨P1.o.drew,(HB1.o.over L1.o).drew⟩;have b0:Hid (BW w w1.drew):=L1.o.drew;have hp2':p<w1.drew.heap.size:=hp2;obtain⟨w0,hw0⟩:=xX w1.drew;rw[<-hw0] at S0 b0 hp2'⊢;clear hw0 HB1 P1 L1 hp2;refine tK 0 _ rfl (s0a (by kernel_rfl) (.tmp 3) rfl (.func (.func 47) #[] #[]) (by kernel_rfl)) S0.o ?_;refine tK 1 _ rfl (f1a (by kernel_rfl) _ _ rfl [.int .i64 0,.int .i64 4,.int .u64 1112364030,.func (.func 47) #[] #[]] (by kernel_rfl)) S0.o ?_;refine tK 2 _ rfl (s0a (by kernel_rfl) (.tmp 3) rfl (.func (.func 47) #[] #[]) (by kernel_rfl)) S0.o ?_;refine tK 3 _ rfl (f1a (by kernel_rfl) _ _ rfl [.int .i64 4,.int .i64 2,.int .u64 64,.func (.func 47) #[] #[]] (by kernel_rfl)) S0.o ?_;refine tK 4 _ rfl (k0a (by kernel_rfl) _ (.tmp 1) rfl p 0 (by kernel_rfl) (.pointer (some ⟨g,0,none⟩)) (λ_ h=>h.1.cell 0) _ underlying78 rfl) S0.o ?_;refine tK 5 _ rfl (J0a (by kernel_rfl) (.tmp 8) rfl ⟨g,0,none⟩ (by kernel_rfl)) S0.o ?_;refine tK 6 _ rfl (w0a (by kernel_rfl) _ (.tmp 9) 0 rfl (.pointer (some ⟨g,0,none⟩)) (.pointer (some ⟨g,0,none⟩)) (by kernel_rfl) (y0b g 0 (by decide))) S0.o ?_;refine tK 7 _ rfl (k0a (by kernel_rfl) _ (.tmp 10) rfl g 0 (by kernel_rfl) (.int .u16 n0) (λw h=>(FW.o w h.2).1) _ underlying22 rfl) S0.o ?_;refine tK 8 _ rfl (M3a (by kernel_rfl) _ _ (.tmp 11) rfl (.int .u16 n0) (.int .u64 n0) (by kernel_rfl) (e8b n0 k00 k01)) S0.o ?_;refine tK 9 _ rfl (j3a (by kernel_rfl) _ _ _ rfl #[] #[.pointer (some ⟨p,0,none⟩)] (by kernel_rfl) (by kernel_rfl) (hmf _ _ _)) S0.o ?_;refine tK 10 _ rfl (f1a (by kernel_rfl) _ _ rfl [.int .i64 6,.int .i64 2,.int .u64 n0,.func (.func 48) #[] #[.pointer (some ⟨p,0,none⟩)]] (by kernel_rfl)) S0.o ?_;refine tK 11 _ rfl (k0a (by kernel_rfl) _ (.tmp 1) rfl p 0 (by kernel_rfl) (.pointer (some ⟨g,0,none⟩)) (λ_ h=>h.1.cell 0) _ underlying78 rfl) S0.o ?_;refine tK 12 _ rfl (J0a (by kernel_rfl) (.tmp 15) rfl ⟨g,0,none⟩ (by kernel_rfl)) S0.o ?_;refine tK 13 _ rfl (w0a (by kernel_rfl) _ (.tmp 16) 1 rfl (.pointer (some ⟨g,0,none⟩)) (.pointer (some ⟨g,1,none⟩)) (by kernel_rfl) (y0b g 1 (by decide))) S0.o ?_;refine tK 14 _ rfl (k0a (by kernel_rfl) _ (.tmp 17) rfl g 1 (by kernel_rfl) (.int .u32 n1) (λw h=>(FW.o w h.2).2.1) _ underlying23 rfl) S0.o ?_;refine tK 15 _ rfl (M3a (by kernel_rfl) _ _ (.tmp 18) rfl (.int .u32 n1) (.int .u64 n1) (by kernel_rfl) (B4b n1 k10 k11)) S0.o ?_;refine tK 16 _ rfl (j3a (by kernel_rfl) _ _ _ rfl #[] #[.pointer (some ⟨p,0,none⟩)] (by kernel_rfl) (by kernel_rfl) (hmf _ _ _)) S0.o ?_;refine tK 17 _ rfl (f1a (by kernel_rfl) _ _ rfl [.int .i64 8,.int .i64 4,.int .u64 n1,.func (.func 49) #[] #[.pointer (some ⟨p,0,none⟩)]] (by kernel_rfl)) S0.o ?_;refine tK 18 _ rfl (k0a (by kernel_rfl) _ (.tmp 1) rfl p 0 (by kernel_rfl) (.pointer (some ⟨g,0,none⟩)) (λ_ h=>h.1.cell 0) _ underlying78 rfl) S0.o ?_;refine tK 19 _ rfl (J0a (by kernel_rfl) (.tmp 22) rfl ⟨g,0,none⟩ (by kernel_rfl)) S0.o ?_;refine tK 20 _ rfl (w0a (by kernel_rfl) _ (.tmp 23) 2 rfl (.pointer (some ⟨g,0,none⟩)) (.pointer (some ⟨g,2,none⟩)) (by kernel_rfl) (y0b g 2 (by decide))) S0.o ?_;refine tK 21 _ rfl (k0a (by kernel_rfl) _ (.tmp 24) rfl g 2 (by kernel_rfl) (.int .u16 n2) (λw h=>(FW.o w h.2).2.2.1) _ underlying24 rfl) S0.o ?_;refine tK 22 _ rfl (M3a (by kernel_rfl) _ _ (.tmp 25) rfl (.int .u16 n2) (.int .u64 n2) (by kernel_rfl) (a3c n2 k20 k21)) S0.o ?_;refine tK 23 _ rfl (j3a (by kernel_rfl) _ _ _ rfl #[] #[.pointer (some ⟨p,0,none⟩)] (by kernel_rfl) (by kernel_rfl) (hmf _ _ _)) S0.o ?_;refine tK 24 _ rfl (f1a (by kernel_rfl) _ _ rfl [.int .i64 12,.int .i64 2,.int .u64 n2,.func (.func 50) #[] #[.pointer (some ⟨p,0,none⟩)]] (by kernel_rfl)) S0.o ?_;refine tK 25 _ rfl (k0a (by kernel_rfl) _ (.tmp 1) rfl p 0 (by kernel_rfl) (.pointer (some ⟨g,0,none⟩)) (λ_ h=>h.1.cell 0) _ underlying78 rfl) S0.o ?_;refine tK 26 _ rfl (J0a (by kernel_rfl) (.tmp 29) rfl ⟨g,0,none⟩ (by kernel_rfl)) S0.o ?_;refine tK 27 _ rfl (w0a (by kernel_rfl) _ (.tmp 30) 3 rfl (.pointer (some ⟨g,0,none⟩)) (.pointer (some ⟨g,3,none⟩)) (by kernel_rfl) (y0b g 3 (by decide))) S0.o ?_;refine tK 28 _ rfl (k0a (by kernel_rfl) _ (.tmp 31) rfl g 3 (by kernel_rfl) (.int .u16 n3) (λw h=>(FW.o w h.2).2.2.2.1) _ underlying22 rfl) S0.o ?_;refine tK 29 _ rfl (M3a (by kernel_rfl) _ _ (.tmp 32) rfl (.int .u16 n3) (.int .u64 n3) (by kernel_rfl) (e8b n3 k30 k31)) S0.o ?_;refine tK 30 _ rfl (j3a (by kernel_rfl) _ _ _ rfl #[] #[.pointer (some ⟨p,0,none⟩)] (by kernel_rfl) (by kernel_rfl) (hmf _ _ _)) S0.o ?_;refine tK 31 _ rfl (f1a (by kernel_rfl) _ _ rfl [.int .i64 14,.int .i64 2,.int .u64 n3,.func (.func 51) #[] #[.pointer (some ⟨p,0,none⟩)]] (by kernel_rfl)) S0.o ?_;refine tK 32 _ rfl (k0a (by kernel_rfl) _ (.tmp 1) rfl p 0 (by kernel_rfl) (.pointer (some ⟨g,0,none⟩)) (λ_ h=>h.1.cell 0) _ underlying78 rfl) S0.o ?_;refine tK 33 _ rfl (J0a (by kernel_rfl) (.tmp 36) rfl ⟨g,0,none⟩ (by kernel_rfl)) S0.o ?_;refine tK 34 _ rfl (w0a (by kernel_rfl) _ (.tmp 37) 4 rfl (.pointer (some ⟨g,0,none⟩)) (.pointer (some ⟨g,4,none⟩)) (by kernel_rfl) (y0b g 4 (by decide))) S0.o ?_;refine tK 35 _ rfl (k0a (by kernel_rfl) _ (.tmp 38) rfl g 4 (by kernel_rfl) (.int .u32 n4) (λw h=>(FW.o w h.2).2.2.2.2.1) _ underlying23 rfl) S0.o ?_;refine tK 36 _ rfl (M3a (by kernel_rfl) _ _ (.tmp 39) rfl (.int .u32 n4) (.int .u64 n4) (by kernel_rfl) (B4b n4 k40 k41)) S0.o ?_;refine tK 37 _ rfl (j3a (by kernel_rfl) _ _ _ rfl #[] #[.pointer (some ⟨p,0,none⟩)] (by kernel_rfl) (by kernel_rfl) (hmf _ _ _)) S0.o ?_;refine tK 38 _ rfl (f1a (by kernel_rfl) _ _ rfl [.int .i64 16,.int .i64 4,.int .u64 n4,.func (.func 52) #[] #[.pointer (some ⟨p,0,none⟩)]] (by kernel_rfl)) S0.o ?_;refine tK 39 _ rfl (k0a (by kernel_rfl) _ (.tmp 1) rfl p 0 (by kernel_rfl) (.pointer (some ⟨g,0,none⟩)) (λ_ h=>h.1.cell 0) _ underlying78 rfl) S0.o ?_;refine tK 40 _ rfl (J0a (by kernel_rfl) (.tmp 43) rfl ⟨g,0,none⟩ (by kernel_rfl)) S0.o ?_;refine tK 41 _ rfl (w0a (by kernel_rfl) _ (.tmp 44) 5 rfl (.pointer (some ⟨g,0,none⟩)) (.pointer (some ⟨g,5,none⟩)) (by kernel_rfl) (y0b g 5 (by decide))) S0.o ?_;refine tK 42 _ rfl (k0a (by kernel_rfl) _ (.tmp 45) rfl g 5 (by kernel_rfl) (.int .u32 n5) (λw h=>(FW.o w h.2).2.2.2.2.2.1) _ underlying23 rfl) S0.o ?_;refine tK 43 _ rfl (M3a (by kernel_rfl) _ _ (.tmp 46) rfl (.int .u32 n5) (.int .u64 n5) (by kernel_rfl) (B4b n5 k50 k51)) S0.o ?_;refine tK 44 _ rfl (j3a (by kernel_rfl) _ _ _ rfl #[] #[.pointer (some ⟨p,0,none⟩)] (by kernel_rfl) (by kernel_rfl) (hmf _ _ _)) S0.o ?_;refine tK 45 _ rfl (f1a (by kernel_rfl) _ _ rfl [.int .i64 20,.int .i64 4,.int .u64 n5,.func (.func 53) #[] #[.pointer (some ⟨p,0,none⟩)]] (by kernel_rfl)) S0.o ?_;refine tK 46 _ rfl (k0a (by kernel_rfl) _ (.tmp 1) rfl p 0 (by kernel_rfl) (.pointer (some ⟨g,0,none⟩)) (λ_ h=>h.1.cell 0) _ underlying78 rfl) S0.o ?_;refine tK 47 _ rfl (J0a (by kernel_rfl) (.tmp 50) rfl ⟨g,0,none⟩ (by kernel_rfl)) S0.o ?_;refine tK 48 _ rfl (w0a (by kernel_rfl) _ (.tmp 51) 6 rfl (.pointer (some ⟨g,0,none⟩)) (.pointer (some ⟨g,6,none⟩)) (by kernel_rfl) (y0b g 6 (by decide))) S0.o ?_;refine tK 49 _ rfl (k0a (by kernel_rfl) _ (.tmp 52) rfl g 6 (by kernel_rfl) (.int .u64 n6) (λw h=>(FW.o w h.2).2.2.2.2.2.2.1) _ underlying25 rfl) S0.o ?_;refine tK 50 _ rfl (j3a (by kernel_rfl) _ _ _ rfl #[] #[.pointer (some ⟨p,0,none⟩)] (by kernel_rfl) (by kernel_rfl) (hmf _ _ _)) S0.o ?_;refine tK 51 _ rfl (f1a (by kernel_rfl) _ _ rfl [.int .i64 24,.int .i64 8,.int .u64 n6,.func (.func 54) #[] #[.pointer (some ⟨p,0,none⟩)]] (by kernel_rfl)) S0.o ?_;refine tK 52 _ rfl (k0a (by kernel_rfl) _ (.tmp 1) rfl p 0 (by kernel_rfl) (.pointer (some ⟨g,0,none⟩)) (λ_ h=>h.1.cell 0) _ underlying78 rfl) S0.o ?_;refine tK 53 _ rfl (J0a (by kernel_rfl) (.tmp 56) rfl ⟨g,0,none⟩ (by kernel_rfl)) S0.o ?_;refine tK 54 _ rfl (C4a (by kernel_rfl) _ (.tmp 57) rfl g (by kernel_rfl) _ cs (λ_ h=>h.2) 26 _ underlying28 rfl K0a HL) S0.o ?_;refine tK 56 _ rfl (j3a (by kernel_rfl) _ _ _ rfl #[] #[.pointer (some ⟨p,0,none⟩)] (by kernel_rfl) (by kernel_rfl) (hmf _ _ _)) S0.o ?_;refine tK 58 _ rfl (k0a (by kernel_rfl) _ (.tmp 1) rfl p 0 (by kernel_rfl) (.pointer (some ⟨g,0,none⟩)) (λ_ h=>h.1.cell 0) _ underlying78 rfl) S0.o ?_;refine tK 59 _ rfl (J0a (by kernel_rfl) (.tmp 62) rfl ⟨g,0,none⟩ (by kernel_rfl)) S0.o ?_;refine tK 60 _ rfl (w0a (by kernel_rfl) _ (.tmp 63) 9 rfl (.pointer (some ⟨g,0,none⟩)) (.pointer (some ⟨g,9,none⟩)) (by kernel_rfl) (y0b g 9 (by decide))) S0.o ?_;refine tK 61 _ rfl (k0a (by kernel_rfl) _ (.tmp 64) rfl g 9 (by kernel_rfl) (.int .u64 n10) (λw h=>(FW.o w h.2).2.2.2.2.2.2.2) _ underlying25 rfl) S0.o ?_;refine tK 62 _ rfl (j3a (by kernel_rfl) _ _ _ rfl #[] #[.pointer (some ⟨p,0,none⟩)] (by kernel_rfl) (by kernel_rfl) (hmf _ _ _)) S0.o ?_;refine tK 63 _ rfl (f1a (by kernel_rfl) _ _ rfl [.int .i64 40,.int .i64 8,.int .u64 n10,.func (.func 58) #[] #[.pointer (some ⟨p,0,none⟩)]] (by kernel_rfl)) S0.o ?_;refine H2a λa1 ha1=>?_
 have e58:a1.eval (.tmp 58)=.agg cs.toArray:=by rw[ha1];kernel_rfl
 refine oN 55 _ rfl λK hK=>?_
 go_simp;refine(C0.o _).mono ?_;rintro e w2 ⟨rfl,b⟩;have S2:Hid (Blk w2 p 78 [.pointer (some ⟨g,0,none⟩)]/\Blk w2 g 28 cs):=⟨S0.o.1.over b,S0.o.2.over b⟩;have b2:=hI (step b0.o b);have hsz:=b.size;refine hK _ _ S2.o ?_;clear hK K b e58;subst ha1;refine tK 57 _ rfl (f1a (by kernel_rfl) _ _ rfl [.int .i64 32,.int .i64 8,.int .u64 n9,.func (.func 56) #[] #[.pointer (some ⟨p,0,none⟩)]] (by kernel_rfl)) S2.o ?_;refine oN 64 _ rfl λK hK=>?_
 refine P0a rfl _ _ 11 _ rfl underlying76 (V1c p n0 n1 n2 n3 n4 n5 n6 n9 n10) (by kernel_rfl) ?_;intro G w3 hG1 hG2 G3 L3;have S3:Hid (Blk w3 p 78 [.pointer (some ⟨g,0,none⟩)]/\Blk w3 g 28 cs):=⟨S2.o.1.over L3.o,S2.o.2.over L3.o⟩;refine hK _ _ S3.o ?_;clear hK K;refine tK 65 _ rfl (G7a (by kernel_rfl) (.tmp 68) rfl (.slice (some ⟨G,0,none⟩) 11 11) (by kernel_rfl)) S3.o ?_;refine dN ?_;go_wp2_with fail;go_ret;exact HQ.o _ _ ⟨p,G,rfl,hp1,by omega,S3.o.1,G3.o,step b2.o L3.o⟩
def o5a(w:World)(h:Hd)(e:Ending)(w':World):Prop:=∃A',e=.returned (.tuple #[.slice A' (e9a h).length (e9a h).length,.int .i64 (M8a h)])/\p2a w' w.heap.size A' (e9a h)/\BW w w'
theorem b5c{h:Hd}(k:h.ok)(j:Nat)(hj:j<11):0<=(b0b h).getD j 0/\(b0b h).getD j 0<=18446744073709551615/\(b0b h).getD j 0<256^szs.getD j 0:=by
 have ab:=i8a k;have e2:(256:Int)^2=65536:=by decide
 have e4:(256:Int)^4=4294967296:=by decide
 have e8:(256:Int)^8=18446744073709551616:=by decide
 have k0:=k.ch;have k1:=k.st;have k2:=k.cm;have k3:=k.cr;have k4:=k.fl;have k5:=k.nx;have k6:=k.id;have k9:=k.se;refine A8a (p:=λj=>0<=(b0b h).getD j 0/\(b0b h).getD j 0<=18446744073709551615/\(b0b h).getD j 0<256^szs.getD j 0) ?_ ?_ ?_ ?_ ?_ ?_ ?_ ?_ ?_ ?_ ?_ j hj
 ·show(0:Int)<=1112364030/\(1112364030:Int)<=_/\(1112364030:Int)<256^4;omega
 ·show(0:Int)<=64/\(64:Int)<=_/\(64:Int)<256^2;omega
 ·show 0<=h.ch/\h.ch<=_/\h.ch<256^2;omega
 ·show 0<=h.st/\h.st<=_/\h.st<256^4;omega
 ·show 0<=h.cm/\h.cm<=_/\h.cm<256^2;omega
 ·show 0<=h.cr/\h.cr<=_/\h.cr<256^2;omega
 ·show 0<=h.fl/\h.fl<=_/\h.fl<256^4;omega
 ·show 0<=h.nx/\h.nx<=_/\h.nx<256^4;omega
 ·show 0<=h.id/\h.id<=_/\h.id<256^8;omega
 ·show 0<=aot h/\aot h<=_/\aot h<256^8;omega
 ·show 0<=h.se/\h.se<=_/\h.se<256^8;omega
theorem X1c(p:Nat)(h:Hd)(j:Nat):∀v∈fel p h j,v.oneCell'=true:=by intro v hv;simp only[fel,List.mem_cons,List.not_mem_nil,or_false] at hv;rcases hv with rfl | rfl | rfl | rfl<;>rfl
def c5c:List Value:=[.int .i64 0,.int .i64 0,.int .u64 0,.nilFunc]
theorem Y1c:(prog.info? 81).map (λi=>(i.zero,i.size))=some (some (.agg c5c.toArray),4):=by kernel_rfl
theorem a5b:(prog.info? 81).map (·.size)=some 4:=by kernel_rfl
theorem x3c(w:World)(h:Hd)(k:h.ok)(j:Nat)(hj:j<11) :
  Calls prog 32 #[.int .u64 ((b0b h).getD j 0),.int .i64 (szs.getD j 0:Nat)] w λe w'=>∃A' er,e=.returned (.tuple #[.slice A' (szs.getD j 0) (szs.getD j 0),.int .i64 er])/\Holds w' w'.heap.size A' (szs.getD j 0) (szs.getD j 0) (le ((b0b h).getD j 0) (szs.getD j 0))/\BW w w':=by
 obtain⟨v0,v1,v2⟩:=b5c k j hj;have h1:=m4a j hj;have hok:N4a ((b0b h).getD j 0) (szs.getD j 0:Nat)=true:=by unfold N4a;rw[f0c j hj,Int.toNat_natCast,decide_eq_true v2];rfl
 have eo:N5a ((b0b h).getD j 0) (szs.getD j 0:Nat)=le ((b0b h).getD j 0) (szs.getD j 0):=by unfold N5a;rw[if_pos hok,Int.toNat_natCast]
 refine(P8a w ((b0b h).getD j 0) (szs.getD j 0:Nat) ⟨v0,v1⟩ (by omega)).mono ?_;rintro e w' ⟨A',rfl,hf,hb⟩;rw[eo] at hf⊢;rw[g0a];exact⟨A',_,rfl,hf.holds (g0a _ _) (F0a _ _) (by omega),hb⟩
theorem B1b(w:World)(h:Hd)(k:h.ok) :
  Calls prog 16 #[hv h] w (o5a w h):=by
 have CM:Hid (∀w:World,Calls prog 30 #[hv h] w λe w'=>e=.returned (.bool (L8a h))/\BW w w'):=λw=>a5c w h k
 have HL:=hI (G0a k);by_cases hm:L8a h=true
 ·have HQ:Hid (∀e w',(∃A',e=.returned (.tuple #[.slice A' 64 64,.int .i64 0])/\p2a w' w.heap.size A' (X4a h)/\BW w w')->o5a w h e w'):=by intro e w' hh;unfold o5a e9a M8a;rw[if_pos hm,if_pos hm,n4a k.len];exact hh
  have CF:Hid (∀(w:World) (g:Nat),HB w g h->Calls prog 31 #[.pointer (some ⟨g,0,none⟩)] w (w8a w g h)):=λw g B=>V3b w g h k B
  have CP:Hid (∀(w:World) (j:Nat),j<11->Calls prog 32 #[.int .u64 ((b0b h).getD j 0),.int .i64 (szs.getD j 0:Nat)] w λe w'=>∃A' er,e=.returned (.tuple #[.slice A' (szs.getD j 0) (szs.getD j 0),.int .i64 er])/\Holds w' w'.heap.size A' (szs.getD j 0) (szs.getD j 0) (le ((b0b h).getD j 0) (szs.getD j 0))/\BW w w'):=λw j hj=>x3c w h k j hj
  have HK:=hI k;rw[hm] at CM;obtain⟨cs,hcs⟩:=xX (m0a h);have HC:=hI hcs;unfold hv at CM⊢;rw[<-hcs] at CM HL⊢;have ZF:=hI Y1c;obtain⟨zf,hzf⟩:=xX c5c;have HZF:Hid (zf.length=4):=by rw[hzf];rfl
  rw[<-hzf] at ZF;clear hm k hcs hzf;go_enter func16,ntmps16;go_wp2_with(first|(refine sN 1 ?_;refine d0a rfl _ (.tmp 0) rfl cs rfl ?_;intro g w1 hg1 hg2 B1 L1)|(refine sN 9 ?_;refine e0a rfl _ (.tmp 1) rfl g rfl _ cs B1 26 _ underlying28 rfl K0a HL ?_)|fail)
  refine(CM.o _).mono ?_;rintro e w2 ⟨rfl,L2⟩;have B2:=hI (B1.o.over L2);have L12:=hI (step L1.o L2);have hs2:=L2.size;clear B1 L1 L2 CM;go_wp2_with(first|(at_make;refine K1a _ rfl _ _ rfl _ _ 64 rfl rfl rfl rfl (by omega) ?_;intro w3 R3 L3)|fail)
  have B3:=hI (B2.o.over L3);have L13:=hI (step L12.o L3);have hs3:=L3.size;refine(CF.o _ g (HB.of HC.o B3.o)).mono ?_;rintro e w4 ⟨p,G,rfl,hp,hpG,P4,F4,L4⟩;obtain⟨gb,hgb⟩:=xX w2.heap.size;rw[<-hgb] at R3⊢;have R4:Hid (Row w4 gb (u3b h 0)):=by rw[h0c];exact R3.o.over L4
  have B4:Hid (Blk w4 g 28 cs):=B3.o.over L4;have F4':=hI F4;have L14:=hI (step L13.o L4);have hgb3:=R3.o.lt;have hgw:w.heap.size<=gb:=by omega
  have hgg:g<gb:=by omega
  have hbG:gb<G:=by omega
  clear P4 F4 L4 B3 B2 L13 L3 R3 L12 hp hpG hgb hgb3 hs3 hs2 CF;go_wp2_with fail;go_loopw [6,7,8,15] (λ_ _ _ i wr=>∃j:Nat,j<=11/\i=.int .i64 j/\Hid (Row wr gb (u3b h j))/\Hid (Blk wr G 81 (d6a p h))/\Hid (Blk wr g 28 cs)/\Hid (BW w wr)) (λ_ _ _ i _=>11-(intOf i).toNat)
  case atStart=>exact⟨0,Nat.zero_le _,rfl,R4,F4',B4,L14⟩
  case round=>
   clear R4 F4' B4 L14;obtain⟨j,hj,rfl,RR,FF,BB,LL⟩:=hrel;by_cases hlt:j<11
   ·have h1:=m4a j hlt;have hrange:=M0b FF.o j hlt;have hstep:=i0c h j hlt;have hlen:=n4b h j hj;have CPj:Hid (∀w:World,Calls prog 32 #[.int .u64 ((b0b h).getD j 0),.int .i64 (szs.getD j 0:Nat)] w λe w'=>∃A' er,e=.returned (.tuple #[.slice A' (szs.getD j 0) (szs.getD j 0),.int .i64 er])/\Holds w' w'.heap.size A' (szs.getD j 0) (szs.getD j 0) (le ((b0b h).getD j 0) (szs.getD j 0))/\BW w w'):=λw=>CP.o w j hlt
    have EL:Hid ((fel p h j).length=4):=rfl;have EO:=hI (X1c p h j);have E0:Hid ((fel p h j)[0]? = some (.int .i64 (w7a.getD j 0:Nat))):=rfl;have E1:Hid ((fel p h j)[1]? = some (.int .i64 (szs.getD j 0:Nat))):=rfl;have E2:Hid ((fel p h j)[2]? = some (.int .u64 ((b0b h).getD j 0))):=rfl;obtain⟨el,hel⟩:=xX (fel p h j);rw[<-hel] at EL EO E0 E1 E2 hrange;obtain⟨off,hoff⟩:=xX (w7a.getD j 0);obtain⟨sz,hsz⟩:=xX (szs.getD j 0);obtain⟨n,hn⟩:=xX ((b0b h).getD j 0);rw[<-hoff] at E0 h1 hstep;rw[<-hsz] at E1 h1 hstep CPj;rw[<-hn] at E2 hstep CPj;obtain⟨_,h48,hs2,hs8⟩:=h1;obtain⟨row,hrow⟩:=xX (u3b h j);rw[<-hrow] at RR hstep hlen;have RNG:=hI hrange;have HST:=hI hstep;have HLN:=hI hlen;have hgbl:=RR.o.lt;have hgl:=BB.o.lt;have hGl:=FF.o.lt;have hwl:=LL.o.size;clear hel hoff hsz hn hrow hrange hstep hlen CP;go_wp2_with(first|(refine sN 18 ?_;refine wpList_load_mid rfl _ (.tmp 17) rfl G (j*4) rfl el _ RNG.o underlying81 rfl (by rw[a5b,EL.o]) ?_)|(refine sN 6 ?_;refine b0a rfl _ rfl zf _ ZF ?_;intro f w5 hf1 hf2 X5 L5)|(refine sT 6 ?_;refine a0a rfl _ (.tmp 6) (.tmp 18) rfl f rfl _ zf el rfl X5 4 a5b HZF EL EO ?_;intro w6 X6 O6 hf3;have gc2:=(X6.o.cell 2).trans E2.o;have gc1:=(X6.o.cell 1).trans E1.o)|fail)
    refine(CPj.o _).mono ?_;rintro e w7 ⟨A',er,rfl,hh,L7⟩;have gc0:=((X6.o.over L7).cell 0).trans E0.o;have L6:Hid (BW wr w6):=c0a L5.o O6.o hf1;have L67:Hid (BW wr w7):=step L6.o L7;have R7:Hid (Blk w7 gb 5 (row.map (Value.int .u8))):=RR.o.over L67.o;have F7:Hid (Blk w7 G 81 (d6a p h)):=FF.o.over L67.o;have B7:Hid (Blk w7 g 28 cs):=BB.o.over L67.o;have L77:=hI (step LL.o L67.o);have HFIT:Hid (off+sz<=(row.map (Value.int .u8)).length):=by show _<=_;rw[List.length_map,HLN.o];omega
    have HLE:Hid ((le n sz).length=sz):=g0a _ _;obtain⟨xs,hxs⟩:=xX (le n sz);rw[<-hxs] at hh HST HLE;clear RR FF BB LL L5 O6 L6 L67 L7 X5 X6 gc2 gc1 RNG hxs CPj;go_wp2_with(first|(refine sN 32 ?_;refine B7a rfl (.tmp 30) (.tmp 31) rfl gb off 5 (64-off) (64-off) sz sz A' (by first | rfl | (show Value.slice _ _ _=_;simp[Addr.add_mid])) rfl _ xs _ R7 hh (by omega) (by omega) HFIT ?_;intro w8 R8 O8)|fail)
    have R8':Hid (Row w8 gb (u3b h (j+1))):=by have:=R8.o;rw[V1b,HLE.o,HST.o] at this;exact this
    have F8:Hid (Blk w8 G 81 (d6a p h)):=F7.o.only O8.o (by omega);have B8:Hid (Blk w8 g 28 cs):=B7.o.only O8.o (by omega);have L8:Hid (BW w w8):=c0a L77.o O8.o (by omega);clear R8 R7 F7 B7 L77 O8;go_roundw
    case rel=>exact⟨j+1,by omega,by go_num,R8',F8,B8,L8⟩
    case measure=>simp[intOf];omega
   ·obtain rfl:j=11:=by omega
    have RRd:Hid (Blk wr.drew gb 5 ((u3b h 11).map (Value.int .u8))):=RR.o;have BBd:HB wr.drew g h:=HB.of HC.o BB.o;have SG:=hI (BBd.sig HK.o);have LLd:Hid (BW w wr.drew):=LL.o.drew;have HFIT:Hid (48+16<=((u3b h 11).map (Value.int .u8)).length):=by show _<=_;rw[List.length_map,n4b h 11 (by omega)];omega
    have HE:Hid ((u3b h 11).take 48++h.sg++(u3b h 11).drop (48+h.sg.length)=X4a h):=by show _=_;rw[HK.o.len];exact j0c h
    obtain⟨row,hrow⟩:=xX (u3b h 11);rw[<-hrow] at RRd HFIT HE;clear hrow RR FF BB LL BBd hj;go_upto_region 10 with fail
    go_region_law ((refine n9a rfl (.tmp 35) (.tmp 37) rfl gb 48 5 16 16 16 16 (some ⟨g,10,none⟩) rfl rfl _ h.sg _ RRd SG.o (by decide) (by decide) HFIT ?_;intro w5 R5 O5));go_wp2;go_ret2;refine HQ.o _ _ ⟨_,rfl,.inr ⟨gb,rfl,hgw,?_⟩,c0a LLd.o O5.o hgw⟩;have:=R5.o;rw[V1b,HE.o] at this;exact this
 ·have hm':L8a h=false:=by simpa using hm
  have HQ:Hid (∀e w',(e=.returned (.tuple #[.slice none 0 0,.int .i64 2])/\BW w w')->o5a w h e w'):=by rintro e w' ⟨rfl,hb⟩;unfold o5a e9a M8a;rw[if_neg hm,if_neg hm];exact⟨none,rfl,.inl ⟨rfl,rfl⟩,hb⟩
  rw[hm'] at CM;obtain⟨cs,hcs⟩:=xX (m0a h);unfold hv at CM⊢;rw[<-hcs] at CM HL⊢;clear hm hm' k hcs;go_enter func16,ntmps16;go_wp2_with(first|(refine sN 1 ?_;refine d0a rfl _ (.tmp 0) rfl cs rfl ?_;intro g w1 hg1 hg2 B1 L1)|(refine sN 9 ?_;refine e0a rfl _ (.tmp 1) rfl g rfl _ cs B1 26 _ underlying28 rfl K0a HL ?_)|fail)
  refine(CM.o _).mono ?_;rintro e w2 ⟨rfl,L2⟩;go_wp2;go_ret2;exact HQ.o _ _ ⟨rfl,step L1.o L2⟩
theorem W0a.over{w w' w2:World}{g:Nat}(a:W0a g w w')(hb:BW w' w2):W0a g w w2:=a.trans (W0a.of_below hb g)
theorem Z1c(w:World)(p g:Nat)(h:Hd)(n:Int)(k:h.ok)(hn0:0<=n)(hn1:n<=65535)(B:HB w g h)(Pp:Blk w p 78 [.pointer (some ⟨g,0,none⟩)]) :
  Calls prog 48 #[.int .u64 n,.pointer (some ⟨p,0,none⟩)] w λe w'=>e=.returned (.tuple #[])/\HB w' g { h with ch:=n }/\W0a g w w':=by
 have hw:IntKind.u16.wrap n=n:=by rw[IntKind.wrap_u16];omega
 have gp:=Pp.cell 0;have HL:=hI (G0a k);have HE:Hid ((m0a h).set 0 (.int .u16 n)=m0a { h with ch:=n }):=rfl;obtain⟨cs,hcs⟩:=xX (m0a h);obtain⟨ds,hds⟩:=xX (m0a { h with ch:=n });have HD:=hI hds;have BB:Hid (Blk w g 28 cs):=by rw[hcs];exact B
 rw[<-hcs,<-hds] at HE;rw[<-hcs] at HL;clear hcs hds B Pp k;go_enter func48,ntmps48;go_wp2_with((refine sT 7 ?_;refine x0a rfl _ (.tmp 7) (.tmp 5) rfl g 0 rfl _ cs (.int .u16 n) rfl BB (by have:=HL.o;show 0<_;omega) (by kernel_rfl) rfl ?_;intro w1 B1 O1 hg1;rw[HE.o] at B1));go_end0;exact⟨rfl,HB.of HD.o B1.o,W0a.of_only O1.o⟩
theorem a2c(w:World)(p g:Nat)(h:Hd)(n:Int)(k:h.ok)(hn0:0<=n)(hn1:n<=4294967295)(B:HB w g h)(Pp:Blk w p 78 [.pointer (some ⟨g,0,none⟩)]) :
  Calls prog 49 #[.int .u64 n,.pointer (some ⟨p,0,none⟩)] w λe w'=>e=.returned (.tuple #[])/\HB w' g { h with st:=n }/\W0a g w w':=by
 have hw:IntKind.u32.wrap n=n:=by rw[IntKind.wrap_u32'];omega
 have gp:=Pp.cell 0;have HL:=hI (G0a k);have HE:Hid ((m0a h).set 1 (.int .u32 n)=m0a { h with st:=n }):=rfl;obtain⟨cs,hcs⟩:=xX (m0a h);obtain⟨ds,hds⟩:=xX (m0a { h with st:=n });have HD:=hI hds;have BB:Hid (Blk w g 28 cs):=by rw[hcs];exact B
 rw[<-hcs,<-hds] at HE;rw[<-hcs] at HL;clear hcs hds B Pp k;go_enter func49,ntmps49;go_wp2_with((refine sT 7 ?_;refine x0a rfl _ (.tmp 7) (.tmp 5) rfl g 1 rfl _ cs (.int .u32 n) rfl BB (by have:=HL.o;show 1<_;omega) (by kernel_rfl) rfl ?_;intro w1 B1 O1 hg1;rw[HE.o] at B1));go_end0;exact⟨rfl,HB.of HD.o B1.o,W0a.of_only O1.o⟩
theorem b2c(w:World)(p g:Nat)(h:Hd)(n:Int)(k:h.ok)(hn0:0<=n)(hn1:n<=65535)(B:HB w g h)(Pp:Blk w p 78 [.pointer (some ⟨g,0,none⟩)]) :
  Calls prog 50 #[.int .u64 n,.pointer (some ⟨p,0,none⟩)] w λe w'=>e=.returned (.tuple #[])/\HB w' g { h with cm:=n }/\W0a g w w':=by
 have hw:IntKind.u16.wrap n=n:=by rw[IntKind.wrap_u16];omega
 have gp:=Pp.cell 0;have HL:=hI (G0a k);have HE:Hid ((m0a h).set 2 (.int .u16 n)=m0a { h with cm:=n }):=rfl;obtain⟨cs,hcs⟩:=xX (m0a h);obtain⟨ds,hds⟩:=xX (m0a { h with cm:=n });have HD:=hI hds;have BB:Hid (Blk w g 28 cs):=by rw[hcs];exact B
 rw[<-hcs,<-hds] at HE;rw[<-hcs] at HL;clear hcs hds B Pp k;go_enter func50,ntmps50;go_wp2_with((refine sT 7 ?_;refine x0a rfl _ (.tmp 7) (.tmp 5) rfl g 2 rfl _ cs (.int .u16 n) rfl BB (by have:=HL.o;show 2<_;omega) (by kernel_rfl) rfl ?_;intro w1 B1 O1 hg1;rw[HE.o] at B1));go_end0;exact⟨rfl,HB.of HD.o B1.o,W0a.of_only O1.o⟩
theorem c2c(w:World)(p g:Nat)(h:Hd)(n:Int)(k:h.ok)(hn0:0<=n)(hn1:n<=65535)(B:HB w g h)(Pp:Blk w p 78 [.pointer (some ⟨g,0,none⟩)]) :
  Calls prog 51 #[.int .u64 n,.pointer (some ⟨p,0,none⟩)] w λe w'=>e=.returned (.tuple #[])/\HB w' g { h with cr:=n }/\W0a g w w':=by
 have hw:IntKind.u16.wrap n=n:=by rw[IntKind.wrap_u16];omega
 have gp:=Pp.cell 0;have HL:=hI (G0a k);have HE:Hid ((m0a h).set 3 (.int .u16 n)=m0a { h with cr:=n }):=rfl;obtain⟨cs,hcs⟩:=xX (m0a h);obtain⟨ds,hds⟩:=xX (m0a { h with cr:=n });have HD:=hI hds;have BB:Hid (Blk w g 28 cs):=by rw[hcs];exact B
 rw[<-hcs,<-hds] at HE;rw[<-hcs] at HL;clear hcs hds B Pp k;go_enter func51,ntmps51;go_wp2_with((refine sT 7 ?_;refine x0a rfl _ (.tmp 7) (.tmp 5) rfl g 3 rfl _ cs (.int .u16 n) rfl BB (by have:=HL.o;show 3<_;omega) (by kernel_rfl) rfl ?_;intro w1 B1 O1 hg1;rw[HE.o] at B1));go_end0;exact⟨rfl,HB.of HD.o B1.o,W0a.of_only O1.o⟩
theorem d2c(w:World)(p g:Nat)(h:Hd)(n:Int)(k:h.ok)(hn0:0<=n)(hn1:n<=4294967295)(B:HB w g h)(Pp:Blk w p 78 [.pointer (some ⟨g,0,none⟩)]) :
  Calls prog 52 #[.int .u64 n,.pointer (some ⟨p,0,none⟩)] w λe w'=>e=.returned (.tuple #[])/\HB w' g { h with fl:=n }/\W0a g w w':=by
 have hw:IntKind.u32.wrap n=n:=by rw[IntKind.wrap_u32'];omega
 have gp:=Pp.cell 0;have HL:=hI (G0a k);have HE:Hid ((m0a h).set 4 (.int .u32 n)=m0a { h with fl:=n }):=rfl;obtain⟨cs,hcs⟩:=xX (m0a h);obtain⟨ds,hds⟩:=xX (m0a { h with fl:=n });have HD:=hI hds;have BB:Hid (Blk w g 28 cs):=by rw[hcs];exact B
 rw[<-hcs,<-hds] at HE;rw[<-hcs] at HL;clear hcs hds B Pp k;go_enter func52,ntmps52;go_wp2_with((refine sT 7 ?_;refine x0a rfl _ (.tmp 7) (.tmp 5) rfl g 4 rfl _ cs (.int .u32 n) rfl BB (by have:=HL.o;show 4<_;omega) (by kernel_rfl) rfl ?_;intro w1 B1 O1 hg1;rw[HE.o] at B1));go_end0;exact⟨rfl,HB.of HD.o B1.o,W0a.of_only O1.o⟩
theorem e2c(w:World)(p g:Nat)(h:Hd)(n:Int)(k:h.ok)(hn0:0<=n)(hn1:n<=4294967295)(B:HB w g h)(Pp:Blk w p 78 [.pointer (some ⟨g,0,none⟩)]) :
  Calls prog 53 #[.int .u64 n,.pointer (some ⟨p,0,none⟩)] w λe w'=>e=.returned (.tuple #[])/\HB w' g { h with nx:=n }/\W0a g w w':=by
 have hw:IntKind.u32.wrap n=n:=by rw[IntKind.wrap_u32'];omega
 have gp:=Pp.cell 0;have HL:=hI (G0a k);have HE:Hid ((m0a h).set 5 (.int .u32 n)=m0a { h with nx:=n }):=rfl;obtain⟨cs,hcs⟩:=xX (m0a h);obtain⟨ds,hds⟩:=xX (m0a { h with nx:=n });have HD:=hI hds;have BB:Hid (Blk w g 28 cs):=by rw[hcs];exact B
 rw[<-hcs,<-hds] at HE;rw[<-hcs] at HL;clear hcs hds B Pp k;go_enter func53,ntmps53;go_wp2_with((refine sT 7 ?_;refine x0a rfl _ (.tmp 7) (.tmp 5) rfl g 5 rfl _ cs (.int .u32 n) rfl BB (by have:=HL.o;show 5<_;omega) (by kernel_rfl) rfl ?_;intro w1 B1 O1 hg1;rw[HE.o] at B1));go_end0;exact⟨rfl,HB.of HD.o B1.o,W0a.of_only O1.o⟩
theorem f2c(w:World)(p g:Nat)(h:Hd)(n:Int)(k:h.ok)(_:0<=n)(_:n<=18446744073709551615)(B:HB w g h)(Pp:Blk w p 78 [.pointer (some ⟨g,0,none⟩)]) :
  Calls prog 54 #[.int .u64 n,.pointer (some ⟨p,0,none⟩)] w λe w'=>e=.returned (.tuple #[])/\HB w' g { h with id:=n }/\W0a g w w':=by
 have gp:=Pp.cell 0;have HL:=hI (G0a k);have HE:Hid ((m0a h).set 6 (.int .u64 n)=m0a { h with id:=n }):=rfl;obtain⟨cs,hcs⟩:=xX (m0a h);obtain⟨ds,hds⟩:=xX (m0a { h with id:=n });have HD:=hI hds;have BB:Hid (Blk w g 28 cs):=by rw[hcs];exact B
 rw[<-hcs,<-hds] at HE;rw[<-hcs] at HL;clear hcs hds B Pp k;go_enter func54,ntmps54;go_wp2_with((refine sT 6 ?_;refine x0a rfl _ (.tmp 6) (.tmp 4) rfl g 6 rfl _ cs (.int .u64 n) rfl BB (by have:=HL.o;show 6<_;omega) (by kernel_rfl) rfl ?_;intro w1 B1 O1 hg1;rw[HE.o] at B1));go_end0;exact⟨rfl,HB.of HD.o B1.o,W0a.of_only O1.o⟩
theorem O9b(w:World)(p g:Nat)(h:Hd)(n:Int)(k:h.ok)(_:0<=n)(_:n<=18446744073709551615)(B:HB w g h)(Pp:Blk w p 78 [.pointer (some ⟨g,0,none⟩)]) :
  Calls prog 58 #[.int .u64 n,.pointer (some ⟨p,0,none⟩)] w λe w'=>e=.returned (.tuple #[])/\HB w' g { h with se:=n }/\W0a g w w':=by
 have gp:=Pp.cell 0;have HL:=hI (G0a k);have HE:Hid ((m0a h).set 9 (.int .u64 n)=m0a { h with se:=n }):=rfl;obtain⟨cs,hcs⟩:=xX (m0a h);obtain⟨ds,hds⟩:=xX (m0a { h with se:=n });have HD:=hI hds;have BB:Hid (Blk w g 28 cs):=by rw[hcs];exact B
 rw[<-hcs,<-hds] at HE;rw[<-hcs] at HL;clear hcs hds B Pp k;go_enter func58,ntmps58;go_wp2_with((refine sT 6 ?_;refine x0a rfl _ (.tmp 6) (.tmp 4) rfl g 9 rfl _ cs (.int .u64 n) rfl BB (by have:=HL.o;show 9<_;omega) (by kernel_rfl) rfl ?_;intro w1 B1 O1 hg1;rw[HE.o] at B1));go_end0;exact⟨rfl,HB.of HD.o B1.o,W0a.of_only O1.o⟩
theorem t6b(w:World)(n:Int):Calls prog 47 #[.int .u64 n] w λe w'=>e=.returned (.tuple #[])/\w=w':=by go_enter func47,ntmps47;go_wp2;go_end0;exact⟨rfl,rfl⟩
def u6b(n:Int)(h:Hd):Hd:=if r5a h.fl=true then { h with asy:=n } else { h with tr:=n/4294967296 }
theorem P9b(w:World)(g:Nat)(h:Hd)(n:Int)(k:h.ok)(hn0:0<=n)(hn1:n<=18446744073709551615)(B:HB w g h) :
  Calls prog 57 #[.pointer (some ⟨g,0,none⟩),.int .u64 n] w λe w'=>e=.returned (.tuple #[])/\HB w' g (u6b n h)/\W0a g w w':=by
 have C0:Hid (∀w:World,Calls prog 75 #[hv h] w λe w'=>e=.returned (.bool (r5a h.fl))/\BW w w'):=λw=>W8a w h k
 have hw:IntKind.u32.wrap (n/4294967296)=n/4294967296:=by rw[IntKind.wrap_u32'];omega
 have HL:=hI (G0a k);have h7:r5a h.fl=true->(m0a h).set 7 (.int .u64 n)=m0a (u6b n h):=λhi=>by unfold u6b;rw[if_pos hi];rfl
 have h8:r5a h.fl=false->(m0a h).set 8 (.int .u32 (n/4294967296))=m0a (u6b n h):=λhi=>by unfold u6b;rw[if_neg (by rw[hi];decide)];rfl
 obtain⟨cs,hcs⟩:=xX (m0a h);obtain⟨ds,hds⟩:=xX (m0a (u6b n h));have HD:=hI hds;have BB:Hid (Blk w g 28 cs):=by rw[hcs];exact B
 unfold hv at C0;rw[<-hcs] at HL C0 h7 h8;rw[<-hds] at h7 h8;clear hcs hds B k;by_cases hi:r5a h.fl=true
 ·rw[hi] at C0;have HE:=hI (h7 hi);clear hi h7 h8;go_enter func57,ntmps57;go_wp2_with(first|(refine sN 6 ?_;refine e0a rfl _ (.tmp 5) rfl g rfl _ cs BB 26 _ underlying28 rfl K0a HL ?_)|fail)
  refine(C0.o _).mono ?_;rintro e w2 ⟨rfl,L2⟩;have B2:=hI (BB.o.over L2);go_wp2_with((refine sT 11 ?_;refine x0a rfl _ (.tmp 11) (.tmp 9) rfl g 7 rfl _ cs (.int .u64 n) rfl B2 (by have:=HL.o;show 7<_;omega) (by kernel_rfl) rfl ?_;intro w3 B3 O3 hg3;rw[HE.o] at B3));go_end0;exact⟨rfl,HB.of HD.o B3.o,(W0a.of_below L2 g).trans (W0a.of_only O3.o)⟩
 ·have hi':r5a h.fl=false:=by simpa using hi
  rw[hi'] at C0;have HE:=hI (h8 hi');clear hi hi' h7 h8;go_enter func57,ntmps57;go_wp2_with(first|(refine sN 6 ?_;refine e0a rfl _ (.tmp 5) rfl g rfl _ cs BB 26 _ underlying28 rfl K0a HL ?_)|fail)
  refine(C0.o _).mono ?_;rintro e w2 ⟨rfl,L2⟩;have B2:=hI (BB.o.over L2);go_wp2_with((refine sT 17 ?_;refine x0a rfl _ (.tmp 17) (.tmp 15) rfl g 8 rfl _ cs (.int .u32 (n/4294967296)) rfl B2 (by have:=HL.o;show 8<_;omega) (by kernel_rfl) rfl ?_;intro w3 B3 O3 hg3;rw[HE.o] at B3));go_end0;exact⟨rfl,HB.of HD.o B3.o,(W0a.of_below L2 g).trans (W0a.of_only O3.o)⟩
theorem g2c(w:World)(p g:Nat)(h:Hd)(n:Int)(k:h.ok)(hn0:0<=n)(hn1:n<=18446744073709551615)(B:HB w g h)(Pp:Blk w p 78 [.pointer (some ⟨g,0,none⟩)]) :
  Calls prog 56 #[.int .u64 n,.pointer (some ⟨p,0,none⟩)] w λe w'=>e=.returned (.tuple #[])/\HB w' g (u6b n h)/\W0a g w w':=by
 have C0:=hI (P9b w g h n k hn0 hn1 B);have gp:=Pp.cell 0;clear B Pp k;go_enter func56,ntmps56;go_wp2_with fail;refine C0.o.mono ?_;rintro e w2 ⟨rfl,B2,S2⟩;go_wp2;go_end0;exact⟨rfl,B2,S2⟩
theorem h2c{j:Nat}(a b:Value)(h:j<2):(#[a]++(if j<2 then #[] else #[b]))=#[a]:=by rw[if_pos h];rfl
theorem Z6a{j:Nat}(a b:Value)(h:¬j<2):(#[a]++(if j<2 then #[] else #[b]))=#[a,b]:=by rw[if_neg h];rfl
def H5a(w:World)(p g:Nat)(h:Hd)(n:Int)(j:Nat):Prop:=Calls prog (fnk j) (#[.int .u64 n]++(if j<2 then #[] else #[.pointer (some ⟨p,0,none⟩)])) w λe w'=>e=.returned (.tuple #[])/\HB w' g (j5b j n h)/\W0a g w w'
theorem Y5c(w:World)(p g:Nat)(h:Hd)(n:Int)(B:HB w g h):H5a w p g h n 0:=by unfold H5a;rw[h2c _ _ (by decide),show fnk 0=47 from rfl,show j5b 0 n h=h from rfl];exact(t6b w n).mono λe w' ⟨he,hw⟩=>⟨he,hw▸B,hw▸W0a.refl _ _⟩
theorem Z5c(w:World)(p g:Nat)(h:Hd)(n:Int)(B:HB w g h):H5a w p g h n 1:=by unfold H5a;rw[h2c _ _ (by decide),show fnk 1=47 from rfl,show j5b 1 n h=h from rfl];exact(t6b w n).mono λe w' ⟨he,hw⟩=>⟨he,hw▸B,hw▸W0a.refl _ _⟩
theorem a6c(w:World)(p g:Nat)(h:Hd)(n:Int)(k:h.ok)(hn0:0<=n)(hn1:n<256^2)(B:HB w g h)(Pp:Blk w p 78 [.pointer (some ⟨g,0,none⟩)]):H5a w p g h n 2:=by
 unfold H5a;rw[Z6a _ _ (by decide),show fnk 2=48 from rfl,show j5b 2 n h={ h with ch:=n } from rfl];have e:(256:Int)^2=65536:=by decide
 exact Z1c w p g h n k hn0 (by omega) B Pp
theorem b6c(w:World)(p g:Nat)(h:Hd)(n:Int)(k:h.ok)(hn0:0<=n)(hn1:n<256^4)(B:HB w g h)(Pp:Blk w p 78 [.pointer (some ⟨g,0,none⟩)]):H5a w p g h n 3:=by
 unfold H5a;rw[Z6a _ _ (by decide),show fnk 3=49 from rfl,show j5b 3 n h={ h with st:=n } from rfl];have e:(256:Int)^4=4294967296:=by decide
 exact a2c w p g h n k hn0 (by omega) B Pp
theorem c6c(w:World)(p g:Nat)(h:Hd)(n:Int)(k:h.ok)(hn0:0<=n)(hn1:n<256^2)(B:HB w g h)(Pp:Blk w p 78 [.pointer (some ⟨g,0,none⟩)]):H5a w p g h n 4:=by
 unfold H5a;rw[Z6a _ _ (by decide),show fnk 4=50 from rfl,show j5b 4 n h={ h with cm:=n } from rfl];have e:(256:Int)^2=65536:=by decide
 exact b2c w p g h n k hn0 (by omega) B Pp
theorem d6c(w:World)(p g:Nat)(h:Hd)(n:Int)(k:h.ok)(hn0:0<=n)(hn1:n<256^2)(B:HB w g h)(Pp:Blk w p 78 [.pointer (some ⟨g,0,none⟩)]):H5a w p g h n 5:=by
 unfold H5a;rw[Z6a _ _ (by decide),show fnk 5=51 from rfl,show j5b 5 n h={ h with cr:=n } from rfl];have e:(256:Int)^2=65536:=by decide
 exact c2c w p g h n k hn0 (by omega) B Pp
theorem e6c(w:World)(p g:Nat)(h:Hd)(n:Int)(k:h.ok)(hn0:0<=n)(hn1:n<256^4)(B:HB w g h)(Pp:Blk w p 78 [.pointer (some ⟨g,0,none⟩)]):H5a w p g h n 6:=by
 unfold H5a;rw[Z6a _ _ (by decide),show fnk 6=52 from rfl,show j5b 6 n h={ h with fl:=n } from rfl];have e:(256:Int)^4=4294967296:=by decide
 exact d2c w p g h n k hn0 (by omega) B Pp
theorem f6c(w:World)(p g:Nat)(h:Hd)(n:Int)(k:h.ok)(hn0:0<=n)(hn1:n<256^4)(B:HB w g h)(Pp:Blk w p 78 [.pointer (some ⟨g,0,none⟩)]):H5a w p g h n 7:=by
 unfold H5a;rw[Z6a _ _ (by decide),show fnk 7=53 from rfl,show j5b 7 n h={ h with nx:=n } from rfl];have e:(256:Int)^4=4294967296:=by decide
 exact e2c w p g h n k hn0 (by omega) B Pp
theorem g6c(w:World)(p g:Nat)(h:Hd)(n:Int)(k:h.ok)(hn0:0<=n)(hn1:n<256^8)(B:HB w g h)(Pp:Blk w p 78 [.pointer (some ⟨g,0,none⟩)]):H5a w p g h n 8:=by
 unfold H5a;rw[Z6a _ _ (by decide),show fnk 8=54 from rfl,show j5b 8 n h={ h with id:=n } from rfl];have e:(256:Int)^8=18446744073709551616:=by decide
 exact f2c w p g h n k hn0 (by omega) B Pp
theorem h6c(w:World)(p g:Nat)(h:Hd)(n:Int)(k:h.ok)(hn0:0<=n)(hn1:n<256^8)(B:HB w g h)(Pp:Blk w p 78 [.pointer (some ⟨g,0,none⟩)]):H5a w p g h n 9:=by
 unfold H5a;rw[Z6a _ _ (by decide),show fnk 9=56 from rfl,show j5b 9 n h=u6b n h from rfl];have e:(256:Int)^8=18446744073709551616:=by decide
 exact g2c w p g h n k hn0 (by omega) B Pp
theorem d5c(w:World)(p g:Nat)(h:Hd)(n:Int)(k:h.ok)(hn0:0<=n)(hn1:n<256^8)(B:HB w g h)(Pp:Blk w p 78 [.pointer (some ⟨g,0,none⟩)]):H5a w p g h n 10:=by
 unfold H5a;rw[Z6a _ _ (by decide),show fnk 10=58 from rfl,show j5b 10 n h={ h with se:=n } from rfl];have e:(256:Int)^8=18446744073709551616:=by decide
 exact O9b w p g h n k hn0 (by omega) B Pp
theorem i2c(w:World)(p g:Nat)(h:Hd)(n:Int)(k:h.ok)(j:Nat)(hj:j<11)(hn0:0<=n)(hn1:n<256^szs.getD j 0)(B:HB w g h)(Pp:Blk w p 78 [.pointer (some ⟨g,0,none⟩)]):H5a w p g h n j:=by
 match j,hj,hn1 with
 | 0,_,_=>exact Y5c w p g h n B
 | 1,_,_=>exact Z5c w p g h n B
 | 2,_,hn1=>exact a6c w p g h n k hn0 hn1 B Pp
 | 3,_,hn1=>exact b6c w p g h n k hn0 hn1 B Pp
 | 4,_,hn1=>exact c6c w p g h n k hn0 hn1 B Pp
 | 5,_,hn1=>exact d6c w p g h n k hn0 hn1 B Pp
 | 6,_,hn1=>exact e6c w p g h n k hn0 hn1 B Pp
 | 7,_,hn1=>exact f6c w p g h n k hn0 hn1 B Pp
 | 8,_,hn1=>exact g6c w p g h n k hn0 hn1 B Pp
 | 9,_,hn1=>exact h6c w p g h n k hn0 hn1 B Pp
 | 10,_,hn1=>exact d5c w p g h n k hn0 hn1 B Pp
theorem e5c{h:Hd}(k:h.ok)(j:Nat)(hj:j<11)(n:Int)(hn0:0<=n)(hn1:n<256^szs.getD j 0):(j5b j n h).ok:=by
 have e2:(256:Int)^2=65536:=by decide
 have e4:(256:Int)^4=4294967296:=by decide
 have e8:(256:Int)^8=18446744073709551616:=by decide
 revert hn1;refine A8a (p:=λj=>n<256^szs.getD j 0->(j5b j n h).ok) ?_ ?_ ?_ ?_ ?_ ?_ ?_ ?_ ?_ ?_ ?_ j hj<;>intro hn1
 ·exact k
 ·exact k
 ·change n<256^2 at hn1;exact⟨by show 0<=n/\n<=_;omega,k.st,k.cm,k.cr,k.fl,k.nx,k.id,k.asy,k.tr,k.se,k.len,k.byte⟩
 ·change n<256^4 at hn1;exact⟨k.ch,by show 0<=n/\n<=_;omega,k.cm,k.cr,k.fl,k.nx,k.id,k.asy,k.tr,k.se,k.len,k.byte⟩
 ·change n<256^2 at hn1;exact⟨k.ch,k.st,by show 0<=n/\n<=_;omega,k.cr,k.fl,k.nx,k.id,k.asy,k.tr,k.se,k.len,k.byte⟩
 ·change n<256^2 at hn1;exact⟨k.ch,k.st,k.cm,by show 0<=n/\n<=_;omega,k.fl,k.nx,k.id,k.asy,k.tr,k.se,k.len,k.byte⟩
 ·change n<256^4 at hn1;exact⟨k.ch,k.st,k.cm,k.cr,by show 0<=n/\n<=_;omega,k.nx,k.id,k.asy,k.tr,k.se,k.len,k.byte⟩
 ·change n<256^4 at hn1;exact⟨k.ch,k.st,k.cm,k.cr,k.fl,by show 0<=n/\n<=_;omega,k.id,k.asy,k.tr,k.se,k.len,k.byte⟩
 ·change n<256^8 at hn1;exact⟨k.ch,k.st,k.cm,k.cr,k.fl,k.nx,by show 0<=n/\n<=_;omega,k.asy,k.tr,k.se,k.len,k.byte⟩
 ·change n<256^8 at hn1
  show(if r5a h.fl=true then { h with asy:=n } else { h with tr:=n/4294967296 }).ok
  split
  ·exact⟨k.ch,k.st,k.cm,k.cr,k.fl,k.nx,k.id,by show 0<=n/\n<=_;omega,k.tr,k.se,k.len,k.byte⟩
  ·exact⟨k.ch,k.st,k.cm,k.cr,k.fl,k.nx,k.id,k.asy,by show 0<=n/4294967296/\n/4294967296<=_;omega,k.se,k.len,k.byte⟩
 ·change n<256^8 at hn1;exact⟨k.ch,k.st,k.cm,k.cr,k.fl,k.nx,k.id,k.asy,k.tr,by show 0<=n/\n<=_;omega,k.len,k.byte⟩
theorem i6c(xs:List Int)(hx:Bytes xs)(j:Nat)(hj:j<=11):(tk xs j).ok:=by
 induction j with
 | zero=>exact Y2a
 | succ j ih=>have:=k0c xs hx j;exact e5c (ih (by omega)) j (by omega) _ this.1 this.2
theorem y3c(xs:List Int)(hl:xs.length=64)(j:Nat)(hj:j<11):A4a xs (w7a.getD j 0:Nat) (szs.getD j 0:Nat)=Y0a xs (w7a.getD j 0) (szs.getD j 0):=by
 have h1:=m4a j hj;have hp:R0a xs.length (w7a.getD j 0:Nat) (szs.getD j 0:Nat)=0:=by unfold R0a;rw[if_neg (by omega),if_neg (by omega)]
 unfold A4a t2a Y0a;rw[if_pos (f0c j hj),if_pos hp,Int.toNat_natCast,Int.toNat_natCast]
theorem z3c(j:Nat)(hj:j<11)(args:Array Value)(w:World):(callFunc (fnk j) args).run prog w=.ok (.enter (fnk j) args) w:=by refine A8a (p:=λj=>(callFunc (fnk j) args).run prog w=.ok (.enter (fnk j) args) w) ?_ ?_ ?_ ?_ ?_ ?_ ?_ ?_ ?_ ?_ ?_ j hj<;>(unfold fnk;go_simp)
theorem j2c(w:World)(A:Option Addr)(c:Nat)(xs:List Int)(hx:Holds w w.heap.size A 64 c xs) :
  Calls prog 24 #[.slice A 64 c] w λe w'=>e=.returned (hv (F1a xs))/\BW w w':=by
 have hl:=hx.len;have CF:Hid (∀(w:World) (g:Nat),HB w g Q1a->Calls prog 31 #[.pointer (some ⟨g,0,none⟩)] w (w8a w g Q1a)):=λw g B=>V3b w g Q1a Y2a B
 have CG:Hid (∀(w:World) (B:Nat),Holds w B A 64 c xs->∀j,j<11->Calls prog 44 #[.slice A 64 c,.int .i64 (w7a.getD j 0:Nat),.int .i64 (szs.getD j 0:Nat)] w λe w'=>∃er,e=.returned (.tuple #[.int .u64 (Y0a xs (w7a.getD j 0) (szs.getD j 0)),.int .i64 er])/\w=w'):=λw B hh j hj=>by have h1:=m4a j hj;rw[<-y3c xs hl j hj];exact(O8a w B A 64 c xs _ _ hh (by omega) (by omega)).mono λe w' ⟨he,hw⟩=>⟨_,he,hw⟩
 have TK:Hid (∀(w:World) (p g:Nat) (j:Nat),j<11->HB w g (tk xs j)->Blk w p 78 [.pointer (some ⟨g,0,none⟩)]->
   Calls prog (fnk j) (#[.int .u64 (Y0a xs (w7a.getD j 0) (szs.getD j 0))]++(if j<2 then #[] else #[.pointer (some ⟨p,0,none⟩)])) w λe w'=>e=.returned (.tuple #[])/\HB w' g (tk xs (j+1))/\W0a g w w'):=λw p g j hj B Pp=>by
  have h1:=k0c xs hx.byte j;exact i2c w p g (tk xs j) _ (i6c xs hx.byte j (by omega)) j hj h1.1 h1.2 B Pp
 have HX:=hI hx;have ZH:=hI C7a;have HZ:=hI (G0a Y2a);have HZO:=hI (g2a Q1a);have BH:=d8b;have T0:Hid (tk xs 0=Q1a):=rfl;have K11:=hI (i6c xs hx.byte 11 (Nat.le_refl _));have KF:Hid ((F1a xs).ok):=x7a xs hx.byte hl;have HS:Hid (((xs.drop 48).take 16).length=16):=by show _=_;simp[hl]
 have HT:Hid ({ tk xs 11 with sg:=(xs.drop 48).take 16 }=F1a xs):=rfl;have SP:=hI (hx.part (k:=48) (m:=16) (c':=c-48) (by omega) (by omega) (by have:=hx.fit;omega));have hc64:=hx.fit;obtain⟨zs,hzs⟩:=xX (m0a Q1a);have HZS:=hI hzs;rw[<-hzs] at ZH HZ HZO BH;have ZF:=hI Y1c;obtain⟨zf,hzf⟩:=xX c5c;have HZF:Hid (zf.length=4):=by rw[hzf];rfl
 rw[<-hzf] at ZF;obtain⟨b,off,rfl,_,_⟩:=hx.cells (by omega);clear hx hl hzs hzf;go_enter func24,ntmps24;go_wp2_with(first|(refine sN 2 ?_;refine b0a rfl _ rfl zs _ ZH ?_;intro g0 w1 hg1 hg2 B1 L1)|(refine sN 8 ?_;refine r0a rfl _ rfl zs BH ?_)|(refine sN 3 ?_;refine b0a rfl _ rfl zs _ ZH ?_;intro g w2 hg3 hg4 X2 L2)|(refine sT 3 ?_;refine a0a rfl _ (.tmp 3) (.tmp 8) rfl g rfl _ zs zs rfl X2 26 K0a HZ HZ HZO ?_;intro w3 X3 O3 hg5)|fail)
 have hs2:=L2.o.size;have L13:Hid (BW w w3):=c0a (step L1.o L2.o) O3.o (by omega);have B3:Hid (Blk w3 g0 28 zs):=(B1.o.over L2.o).only O3.o (by omega);have hgg:g0<g:=by omega
 have hgw:w.heap.size<=g0:=hg1;refine(CF.o _ g (HB.of HZS.o X3.o)).mono ?_;rintro e w4 ⟨p,G,rfl,hp,hpG,P4,F4,L4⟩;have X4:Hid (HB w4 g (tk xs 0)):=by rw[T0.o];exact HB.of HZS.o (X3.o.over L4)
 have B4:Hid (Blk w4 g0 28 zs):=B3.o.over L4;have L14:=hI (step L13.o L4);have hgp:g<p:=by omega
 have P4':=hI P4;have F4':=hI F4;clear B1 L1 X2 L2 X3 O3 L13 B3 P4 F4 L4 hs2 hg1 hg2 hg3 hg4 hg5 hp CF T0;go_wp2_with fail;go_loopw [5,6,7,11] (λ_ _ _ i wr=>∃j:Nat,j<=11/\i=.int .i64 j/\Hid (HB wr g (tk xs j))/\Hid (Blk wr G 81 (d6a p Q1a))/\Hid (Blk wr p 78 [.pointer (some ⟨g,0,none⟩)])/\Hid (Blk wr g0 28 zs)/\Hid (BW w wr)) (λ_ _ _ i _=>11-(intOf i).toNat)
 case atStart=>exact⟨0,Nat.zero_le _,rfl,X4,F4',P4',B4,L14⟩
 case round=>
  clear X4 F4' P4' B4 L14;obtain⟨j,hj,rfl,XX,FF,PP,BB,LL⟩:=hrel;by_cases hlt:j<11
  ·have h1:=m4a j hlt;have hrange:=M0b FF.o j hlt;have CGj:Hid (∀(w:World) (B:Nat),Holds w B (some ⟨b,off,none⟩) 64 c xs->Calls prog 44 #[.slice (some ⟨b,off,none⟩) 64 c,.int .i64 (w7a.getD j 0:Nat),.int .i64 (szs.getD j 0:Nat)] w λe w'=>∃er,e=.returned (.tuple #[.int .u64 (Y0a xs (w7a.getD j 0) (szs.getD j 0)),.int .i64 er])/\w=w'):=λw B hh=>CG.o w B hh j hlt
   have TKj:Hid (∀(w:World),HB w g (tk xs j)->Blk w p 78 [.pointer (some ⟨g,0,none⟩)]->
    Calls prog (fnk j) (#[.int .u64 (Y0a xs (w7a.getD j 0) (szs.getD j 0))]++(if j<2 then #[] else #[.pointer (some ⟨p,0,none⟩)])) w λe w'=>e=.returned (.tuple #[])/\HB w' g (tk xs (j+1))/\W0a g w w'):=λw B Pp=>TK.o w p g j hlt B Pp
   have EL:Hid ((fel p Q1a j).length=4):=rfl;have EO:=hI (X1c p Q1a j);have E0:Hid ((fel p Q1a j)[0]? = some (.int .i64 (w7a.getD j 0:Nat))):=rfl;have E1:Hid ((fel p Q1a j)[1]? = some (.int .i64 (szs.getD j 0:Nat))):=rfl;have E3:Hid ((fel p Q1a j)[3]? = some (.func (.func (fnk j)) #[] (if j<2 then #[] else #[.pointer (some ⟨p,0,none⟩)]))):=rfl;obtain⟨el,hel⟩:=xX (fel p Q1a j);rw[<-hel] at EL EO E0 E1 E3 hrange;obtain⟨n,hn⟩:=xX (Y0a xs (w7a.getD j 0) (szs.getD j 0));rw[<-hn] at CGj TKj;obtain⟨at_,hat⟩:=xX (w7a.getD j 0);obtain⟨sz,hsz⟩:=xX (szs.getD j 0);have hcf:=z3c j hlt;obtain⟨F,hF⟩:=xX (fnk j);obtain⟨cap,hcap⟩:∃cap:Array Value,cap=if j<2 then #[] else #[.pointer (some ⟨p,0,none⟩)]:=⟨_,rfl⟩
   rw[<-hat] at E0 CGj h1;rw[<-hsz] at E1 CGj h1;rw[<-hF,<-hcap] at E3 TKj;rw[<-hF] at hcf;obtain⟨_,h48,hs2,hs8⟩:=h1;have RNG:=hI hrange;have hgl:=XX.o.lt;have hGl:=FF.o.lt;have hpl:=PP.o.lt;have hwl:=LL.o.size;clear hel hn hat hsz hF hcap hrange CG TK;go_wp2_with(first|(refine sN 14 ?_;refine wpList_load_mid rfl _ (.tmp 13) rfl G (j*4) rfl el _ RNG.o underlying81 rfl (by rw[a5b,EL.o]) ?_)|(refine sN 5 ?_;refine b0a rfl _ rfl zf _ ZF ?_;intro f w5 hf1 hf2 X5 L5)|(refine sT 5 ?_;refine a0a rfl _ (.tmp 5) (.tmp 14) rfl f rfl _ zf el rfl X5 4 a5b HZF EL EO ?_;intro w6 X6 O6 hf3;have gc0:=(X6.o.cell 0).trans E0.o;have gc1:=(X6.o.cell 1).trans E1.o;have gc3:=(X6.o.cell 3).trans E3.o)|fail)
   have L6:Hid (BW wr w6):=c0a L5.o O6.o hf1;have L66:=hI (step LL.o L6.o);refine(CGj.o w6 _ (HX.o.below L66.o)).mono ?_;rintro e w7 ⟨er,rfl,rfl⟩;have X7:Hid (HB w6 g (tk xs j)):=Blk.over XX.o L6.o;have P7:=hI (PP.o.over L6.o);go_wp2_with fail;refine(TKj.o w6 X7.o P7.o).mono ?_;rintro e w8 ⟨rfl,X8,S8⟩;have hg6:=X7.o.lt;have LS:Hid (BW w w8):=L66.o.trans (S8.below (by omega) (by have:=L66.o.size;omega));have F8:Hid (Blk w8 G 81 (d6a p Q1a)):=(FF.o.over L6.o).save S8 (by omega);have P8:Hid (Blk w8 p 78 [.pointer (some ⟨g,0,none⟩)]):=P7.o.save S8 (by omega);have B8:Hid (Blk w8 g0 28 zs):=(BB.o.over L6.o).save S8 (by omega);have X8':=hI X8;clear XX FF PP BB LL L5 O6 L6 L66 X5 X6 gc0 gc1 gc3 RNG CGj TKj X7 P7 hcf S8 X8;go_wp2_with fail;go_roundw
   case rel=>exact⟨j+1,by omega,by go_num,X8',F8,P8,B8,LS⟩
   case measure=>simp[intOf];omega
  ·obtain rfl:j=11:=by omega
   have hgl:=XX.o.lt;have XD:Hid (Blk wr.drew g 28 (m0a (tk xs 11))):=XX.o;have SD:Hid (Holds wr.drew w.heap.size (some ⟨b,off+48,none⟩) 16 (c-48) ((xs.drop 48).take 16)):=by have h1:=(SP.o.below LL.o).drew;rw[show Option.map (λx:Addr=>x.add 48) (some ⟨b,off,none⟩)=some ⟨b,off+48,none⟩ from by simp[Addr.add_mid]] at h1;exact h1
   have BD:Hid (Blk wr.drew g0 28 zs):=BB.o;have LD:Hid (BW w wr.drew):=LL.o.drew;have HF:Hid (10+16<=(m0a (tk xs 11)).length):=by show _<=_;rw[G0a K11.o];omega
   have HSP:Hid (spliced (m0a (tk xs 11)) 10 ((xs.drop 48).take 16)=m0a (F1a xs)):=by
    show _=_
    rw[U6b _ _ K11.o.len HS.o,HT.o]
   have HLT:=hI (G0a KF.o);have HOT:=hI (g2a (F1a xs));have HQ:Hid (hv (F1a xs)=.agg (m0a (F1a xs)).toArray):=rfl;obtain⟨ts,hts⟩:=xX (m0a (tk xs 11));obtain⟨us,hus⟩:=xX (m0a (F1a xs));obtain⟨ss,hss⟩:=xX ((xs.drop 48).take 16);rw[<-hts] at XD HF HSP;rw[<-hus] at HSP HLT HOT HQ;rw[<-hss] at SD HSP;clear hts hus hss XX FF PP BB LL CG TK SP HS HT K11 KF HX hj;have hc48:¬c=48:=by omega
   go_upto_region 8 with fail
   go_region_law ((refine n9a rfl (.tmp 30) (.tmp 32) rfl g 10 28 16 16 16 (c-48) (some ⟨b,off+48,none⟩) rfl rfl ts ss _ XD SD.o (by decide) (by decide) HF ?_;intro w5 X5 O5;rw[HSP.o] at X5;have B5:=hI (BD.o.only O5.o (by omega))));go_wp2_with(first|(refine sN 34 ?_;refine e0a rfl _ (.tmp 3) rfl g rfl _ us X5 26 _ underlying28 rfl K0a HLT ?_)|(refine sT 2 ?_;refine a0a rfl _ (.tmp 2) (.tmp 34) rfl g0 rfl _ zs us rfl B5 26 K0a HZ HLT HOT ?_;intro w6 B6 O6 hg6))
   refine bodyPost_ret (v:=.agg us.toArray) ?_ rfl ⟨by rw[HQ.o],c0a (c0a LD.o O5.o (by omega)) O6.o hgw⟩;exact results_cell_row rfl _ _ g0 _ _ (0,0) _ rfl B6.o underlying28 rfl (by rw[K0a];have:=HLT.o;simp[this])
theorem k2c{xs ys:List Int}(hx:Bytes xs)(hy:Bytes ys)(h1:xs.map (λn=>UInt8.ofNat n.toNat)=ys.map (λn=>UInt8.ofNat n.toNat)):xs=ys:=by
 induction xs generalizing ys with
 | nil=>cases ys with
  | nil=>rfl
  | cons y ys=>cases h1
 | cons x xs ih=>
  cases ys with
  | nil=>cases h1
  | cons y ys=>
   simp only[List.map_cons,List.cons.injEq] at h1;have a:=hx x List.mem_cons_self;have b:=hy y List.mem_cons_self;have e:x=y:=by have h2:=congrArg UInt8.toNat h1.1;simp at h2;omega
   rw[e,ih (λz hz=>hx z (List.mem_cons_of_mem _ hz)) (λz hz=>hy z (List.mem_cons_of_mem _ hz)) h1.2]
theorem v6b(w:World)(B B':Nat)(A A':Option Addr)(n c n' c':Nat)(xs ys:List Int)(h:Holds w B A n c xs)(h':Holds w B' A' n' c' ys)(hn:0<n)(hn':0<n') :
  Calls prog 25 #[.slice A n c,.slice A' n' c'] w λe w'=>e=.returned (.bool (decide (xs=ys)))/\w=w':=by
 obtain⟨b,off,rfl,_,hc⟩:=h.cells hn;obtain⟨b',off',rfl,_,hc'⟩:=h'.cells hn';have q1:=run_convert_bytes_arg (P:=prog) w 31 5 underlying31 underlying5 b off n c xs h.len hc 9 underlying9;have q2:=run_convert_bytes_arg (P:=prog) w 31 5 underlying31 underlying5 b' off' n' c' ys h'.len hc' 9 underlying9;have HE:Hid (((strOfNums xs).toList==(strOfNums ys).toList)=decide (xs=ys)):=by
  show _=_
  rw[ByteArray.toList_eq,ByteArray.toList_eq,strOfNums_data,strOfNums_data,Bool.eq_iff_iff,beq_iff_eq,decide_eq_true_iff];exact⟨k2c h.byte h'.byte,λe=>by rw[e]⟩
 obtain⟨s1,hs1⟩:=xX (strOfNums xs);obtain⟨s2,hs2⟩:=xX (strOfNums ys);rw[<-hs1] at q1 HE;rw[<-hs2] at q2 HE;clear hs1 hs2 hc hc' h h';go_enter func25,ntmps25;go_wp2;go_ret;exact⟨N0a HE.o,rfl⟩
theorem K2a{P:Program}{fn:Func}{p q:Tmp}{ty:TypeId}(h:fn.results=#[.cell p ty,.tmp q])(tmps:Array Value)(w:World)(g:Nat)(t:TypeId)(cs:Array Value)(fr:Nat×Nat)(d:TypeDesc)
(hp:tmps.getD p undef=.pointer (some ⟨g,0,none⟩))(hg:w.heap[g]? = some (.cells cs t fr))
(hu:P.underlying ty=some d)(hd:(match d with | .struct _ | .array _ _=>true | _=>false)=true)(hi:(P.info? ty).map (·.size)=some cs.size){v:Value}(hv:tmps.getD q undef=v) :
  (results fn tmps).run P w=.ok (.tuple #[.agg cs,v]) w:=by
 have hp':tmps[p]?.getD undef=.pointer (some ⟨g,0,none⟩):=by simpa using hp
 have hv':tmps[q]?.getD undef=v:=by simpa using hv
 simp[results,h,hp',hv',asAddr,run_loadVar_row w g t ty cs fr d hg hu hd hi]
def a7a(w:World)(xs:List Int)(a:Int)(e:Ending)(w':World):Prop:=e=.returned (.tuple #[hv (t1a xs a),.int .i64 (b2a xs a)])/\BW w w'
theorem b5b(w:World)(A:Option Addr)(n c:Nat)(xs:List Int)(a:Int)(hx:Holds w w.heap.size A n c xs)(ha:-9223372036854775808<=a/\a<=9223372036854775807) :
  Calls prog 12 #[.slice A n c,.int .i64 a] w (a7a w xs a):=by
 have hl:=hx.len;have CP:Hid (∀w:World,Holds w w.heap.size A n c xs->Calls prog 23 #[.slice A n c,.int .i64 a,.int .i64 64] w (p4a w xs a 64)):=λw hh=>l8a w A n c xs a 64 hh ha (by omega)
 have HX:=hI hx;have ZH:=hI C7a;have HZ:=hI (G0a Y2a);have HZO:=hI (g2a Q1a);have BH:=d8b;have HZV:Hid (hv Q1a=.agg (m0a Q1a).toArray):=rfl;obtain⟨zs,hzs⟩:=xX (m0a Q1a);rw[<-hzs] at ZH HZ HZO BH HZV;by_cases hp:R0a xs.length a 64=0
 ·have hroom:=L1b hp;obtain⟨ys,hys⟩:=xX (partOf xs a 64);have hys':ys=(xs.drop a.toNat).take 64:=by rw[hys];unfold partOf;rw[if_pos hp];rfl
  have hyl:ys.length=64:=by rw[hys'];simp;omega
  have hyb:Bytes ys:=by rw[hys'];exact(hx.byte.drop _).take _
  unfold p4a at CP;rw[<-hys,hyl,hp] at CP;have CT:Hid (∀(w:World) (A:Option Addr),Holds w w.heap.size A 64 64 ys->Calls prog 24 #[.slice A 64 64] w λe w'=>e=.returned (hv (F1a ys))/\BW w w'):=λw A hh=>j2c w A 64 ys hh
  have KT:=x7a ys hyb hyl;have HLT:=hI (G0a KT);have HOT:=hI (g2a (F1a ys));have HYL:=hI hyl;have HYB:=hI hyb;by_cases hm:L8a (F1a ys)=true
  ·have CH:Hid (∀w:World,Calls prog 16 #[hv (F1a ys)] w λe w'=>∃A',e=.returned (.tuple #[.slice A' 64 64,.int .i64 0])/\p2a w' w.heap.size A' (X4a (F1a ys))/\BW w w'):=λw=>by
    have h1:=B1b w (F1a ys) KT;unfold o5a e9a M8a at h1
    rwa [if_pos hm,if_pos hm,n4a KT.len] at h1
   have HPL:=hI (n4a KT.len);have HPB:=hI (k6a KT.byte);have hpt:=m5b ys hyb hyl;by_cases hq:X4a (F1a ys)=ys
   ·have HQ:Hid (∀e w',(e=.returned (.tuple #[hv (F1a ys),.int .i64 0])/\BW w w')->a7a w xs a e w'):=by
     rintro e w' ⟨rfl,hb⟩;have he:b2a xs a=0:=by unfold b2a H8b;rw[if_pos hp,<-hys',<-hpt,hm,decide_eq_true hq];rfl
     refine⟨?_,hb⟩;unfold t1a;rw[he,if_pos rfl,<-hys']
    have HD:=hI (decide_eq_true hq);obtain⟨ps,hps⟩:=xX (X4a (F1a ys));rw[<-hps] at CH HPL HPB HD;obtain⟨ts,hts⟩:=xX (m0a (F1a ys));unfold hv at CT CH HQ;rw[<-hts] at CT CH HQ HLT HOT;clear hys hys' hyl hyb hp hroom hm hpt hq hps hts KT hl hx hzs;go_enter func12,ntmps12;go_wp2_with(first|(refine sN 4 ?_;refine b0a rfl _ rfl zs _ ZH ?_;intro g0 w1 hg1 hg2 B1 L1)|fail)
    refine(CP.o _ (HX.o.over L1.o)).mono ?_;rintro e w2 ⟨A',rfl,hf,L2⟩;have hh:=hf.holds HYL.o HYB.o (by decide);have B2:=hI (B1.o.over L2);have L12:=hI (step L1.o L2);clear B1 L1 L2 CP HX hf;go_wp2_with fail;refine(CT.o _ _ hh).mono ?_;rintro e w3 ⟨rfl,L3⟩;have B3:=hI (B2.o.over L3);have L13:=hI (step L12.o L3);have hh3:=hI (hh.over L3);have hgs:=B3.o.lt;clear B2 L12 hh L3 CT;go_wp2_with(first|(refine sN 8 ?_;refine b0a rfl _ rfl zs _ ZH ?_;intro g w4 hg3 hg4 X4 L4)|(refine sT 8 ?_;refine a0a rfl _ (.tmp 8) (.tmp 21) rfl g rfl _ zs ts rfl X4 26 K0a HZ HLT HOT ?_;intro w5 X5 O5 hg5)|(refine sN 23 ?_;refine e0a rfl _ (.tmp 8) rfl g rfl _ ts X5 26 _ underlying28 rfl K0a HLT ?_)|fail)
    have L5:BW w3 w5:=c0a L4.o O5.o hg3;have B5:=hI (B3.o.over L5);have L15:=hI (step L13.o L5);have hh5:=hI (hh3.o.over L5);clear B3 L13 hh3 X4 L4 O5 L5;refine(CH.o _).mono ?_;rintro e w6 ⟨A2,rfl,hf2,L6⟩;have B6:=hI (B5.o.over L6);have X6:=hI (X5.o.over L6);have L16:=hI (step L15.o L6);have hh6:=hh5.o.over L6;have hk6:=hf2.holds HPL.o HPB.o (by decide);have CE:=v6b w6 _ _ _ _ _ _ _ _ _ _ hk6 hh6 (by decide) (by decide);rw[HD.o] at CE;have CE':=hI CE;clear CE B5 X5 L15 hh5 L6 hf2 hh6 hk6 CH HD;go_wp2_with fail;refine CE'.o.mono ?_;rintro e w7 ⟨rfl,rfl⟩;clear CE';go_wp2_with(first|(refine sN 36 ?_;refine e0a rfl _ (.tmp 8) rfl g rfl _ ts X6 26 _ underlying28 rfl K0a HLT ?_)|(refine sT 4 ?_;refine a0a rfl _ (.tmp 4) (.tmp 36) rfl g0 rfl _ zs ts rfl B6 26 K0a HZ HLT HOT ?_;intro w9 B9 O9 hg9))
    refine bodyPost_ret (v:=.tuple #[.agg ts.toArray,.int .i64 0]) ?_ rfl (HQ.o _ _ ⟨rfl,c0a L16.o O9.o hg1⟩);exact K2a rfl _ _ g0 _ _ (0,0) _ rfl B9.o underlying28 rfl (by rw[K0a];have:=HLT.o;simp[this]) rfl
   ·have HQ:Hid (∀e w',(e=.returned (.tuple #[hv Q1a,.int .i64 5])/\BW w w')->a7a w xs a e w'):=by
     rintro e w' ⟨rfl,hb⟩;have he:b2a xs a=5:=by unfold b2a H8b;rw[if_pos hp,<-hys',<-hpt,hm,decide_eq_false hq];rfl
     refine⟨?_,hb⟩;unfold t1a;rw[he];rfl
    have HD:=hI (decide_eq_false hq);obtain⟨ps,hps⟩:=xX (X4a (F1a ys));rw[<-hps] at CH HPL HPB HD;obtain⟨ts,hts⟩:=xX (m0a (F1a ys));rw[HZV.o] at HQ;unfold hv at CT CH;rw[<-hts] at CT CH HLT HOT;clear hys hys' hyl hyb hp hroom hm hpt hq hps hts KT hl hx hzs;go_enter func12,ntmps12;go_wp2_with(first|(refine sN 4 ?_;refine b0a rfl _ rfl zs _ ZH ?_;intro g0 w1 hg1 hg2 B1 L1)|fail)
    refine(CP.o _ (HX.o.over L1.o)).mono ?_;rintro e w2 ⟨A',rfl,hf,L2⟩;have hh:=hf.holds HYL.o HYB.o (by decide);have B2:=hI (B1.o.over L2);have L12:=hI (step L1.o L2);clear B1 L1 L2 CP HX hf;go_wp2_with fail;refine(CT.o _ _ hh).mono ?_;rintro e w3 ⟨rfl,L3⟩;have B3:=hI (B2.o.over L3);have L13:=hI (step L12.o L3);have hh3:=hI (hh.over L3);have hgs:=B3.o.lt;clear B2 L12 hh L3 CT;go_wp2_with(first|(refine sN 8 ?_;refine b0a rfl _ rfl zs _ ZH ?_;intro g w4 hg3 hg4 X4 L4)|(refine sT 8 ?_;refine a0a rfl _ (.tmp 8) (.tmp 21) rfl g rfl _ zs ts rfl X4 26 K0a HZ HLT HOT ?_;intro w5 X5 O5 hg5)|(refine sN 23 ?_;refine e0a rfl _ (.tmp 8) rfl g rfl _ ts X5 26 _ underlying28 rfl K0a HLT ?_)|fail)
    have L5:BW w3 w5:=c0a L4.o O5.o hg3;have B5:=hI (B3.o.over L5);have L15:=hI (step L13.o L5);have hh5:=hI (hh3.o.over L5);clear B3 L13 hh3 X4 L4 O5 L5;refine(CH.o _).mono ?_;rintro e w6 ⟨A2,rfl,hf2,L6⟩;have B6:=hI (B5.o.over L6);have X6:=hI (X5.o.over L6);have L16:=hI (step L15.o L6);have hh6:=hh5.o.over L6;have hk6:=hf2.holds HPL.o HPB.o (by decide);have CE:=v6b w6 _ _ _ _ _ _ _ _ _ _ hk6 hh6 (by decide) (by decide);rw[HD.o] at CE;have CE':=hI CE;clear CE B5 X5 L15 hh5 L6 hf2 hh6 hk6 CH HD;go_wp2_with fail;refine CE'.o.mono ?_;rintro e w7 ⟨rfl,rfl⟩;clear CE';go_wp2_with(first|(refine sN 35 ?_;refine r0a rfl _ rfl zs BH ?_)|(refine sT 4 ?_;refine a0a rfl _ (.tmp 4) (.tmp 35) rfl g0 rfl _ zs zs rfl B6 26 K0a HZ HZ HZO ?_;intro w9 B9 O9 hg9))
    refine bodyPost_ret (v:=.tuple #[.agg zs.toArray,.int .i64 5]) ?_ rfl (HQ.o _ _ ⟨rfl,c0a L16.o O9.o hg1⟩);exact K2a rfl _ _ g0 _ _ (0,0) _ rfl B9.o underlying28 rfl (by rw[K0a];have:=HZ.o;simp[this]) rfl
  ·have HQ:Hid (∀e w',(e=.returned (.tuple #[hv Q1a,.int .i64 5])/\BW w w')->a7a w xs a e w'):=by
    rintro e w' ⟨rfl,hb⟩;have hm':L8a (F1a ys)=false:=by simpa using hm
    have he:b2a xs a=5:=by unfold b2a H8b;rw[if_pos hp,<-hys',hm',Bool.and_false];rfl
    refine⟨?_,hb⟩;unfold t1a;rw[he];rfl
   have CH:Hid (∀w:World,Calls prog 16 #[hv (F1a ys)] w λe w'=>∃A',e=.returned (.tuple #[.slice A' 0 0,.int .i64 2])/\BW w w'):=λw=>by have h1:=B1b w (F1a ys) KT;unfold o5a e9a M8a at h1;rw[if_neg hm,if_neg hm] at h1;refine h1.mono ?_;rintro e w' ⟨A',rfl,hf,hb⟩;exact⟨A',rfl,hb⟩
   obtain⟨ts,hts⟩:=xX (m0a (F1a ys));rw[HZV.o] at HQ;unfold hv at CT CH;rw[<-hts] at CT CH HLT HOT;clear hys hys' hyl hyb hp hroom hm hts KT hl hx hzs;go_enter func12,ntmps12;go_wp2_with(first|(refine sN 4 ?_;refine b0a rfl _ rfl zs _ ZH ?_;intro g0 w1 hg1 hg2 B1 L1)|fail)
   refine(CP.o _ (HX.o.over L1.o)).mono ?_;rintro e w2 ⟨A',rfl,hf,L2⟩;have hh:=hf.holds HYL.o HYB.o (by decide);have B2:=hI (B1.o.over L2);have L12:=hI (step L1.o L2);clear B1 L1 L2 CP HX hf;go_wp2_with fail;refine(CT.o _ _ hh).mono ?_;rintro e w3 ⟨rfl,L3⟩;have B3:=hI (B2.o.over L3);have L13:=hI (step L12.o L3);have hh3:=hI (hh.over L3);have hgs:=B3.o.lt;clear B2 L12 hh L3 CT;go_wp2_with(first|(refine sN 8 ?_;refine b0a rfl _ rfl zs _ ZH ?_;intro g w4 hg3 hg4 X4 L4)|(refine sT 8 ?_;refine a0a rfl _ (.tmp 8) (.tmp 21) rfl g rfl _ zs ts rfl X4 26 K0a HZ HLT HOT ?_;intro w5 X5 O5 hg5)|(refine sN 23 ?_;refine e0a rfl _ (.tmp 8) rfl g rfl _ ts X5 26 _ underlying28 rfl K0a HLT ?_)|fail)
   have L5:BW w3 w5:=c0a L4.o O5.o hg3;have B5:=hI (B3.o.over L5);have L15:=hI (step L13.o L5);have hh5:=hI (hh3.o.over L5);clear B3 L13 hh3 X4 L4 O5 L5;refine(CH.o _).mono ?_;rintro e w6 ⟨A2,rfl,L6⟩;have B6:=hI (B5.o.over L6);have L16:=hI (step L15.o L6);clear B5 X5 L15 hh5 L6 CH;go_wp2_with(first|(refine sN 35 ?_;refine r0a rfl _ rfl zs BH ?_)|(refine sT 4 ?_;refine a0a rfl _ (.tmp 4) (.tmp 35) rfl g0 rfl _ zs zs rfl B6 26 K0a HZ HZ HZO ?_;intro w9 B9 O9 hg9))
   refine bodyPost_ret (v:=.tuple #[.agg zs.toArray,.int .i64 5]) ?_ rfl (HQ.o _ _ ⟨rfl,c0a L16.o O9.o hg1⟩);exact K2a rfl _ _ g0 _ _ (0,0) _ rfl B9.o underlying28 rfl (by rw[K0a];have:=HZ.o;simp[this]) rfl
 ·have HQ:Hid (∀e w',(e=.returned (.tuple #[hv Q1a,.int .i64 (R0a xs.length a 64)])/\BW w w')->a7a w xs a e w'):=by
   rintro e w' ⟨rfl,hb⟩;have he:b2a xs a=R0a xs.length a 64:=by unfold b2a;rw[if_neg hp]
   refine⟨?_,hb⟩;unfold t1a;rw[he,if_neg hp]
  have e2:partOf xs a 64=[]:=by unfold partOf;rw[if_neg hp]
  unfold p4a at CP;rw[e2] at CP;rw[HZV.o] at HQ;obtain⟨er,her⟩:=xX (R0a xs.length a 64);rw[<-her] at CP HQ hp;have hne:(er != 0)=true:=by simpa using hp
  clear e2 her hp hl hx hzs;go_enter func12,ntmps12;go_wp2_with(first|(refine sN 4 ?_;refine b0a rfl _ rfl zs _ ZH ?_;intro g0 w1 hg1 hg2 B1 L1)|fail)
  refine(CP.o _ (HX.o.over L1.o)).mono ?_;rintro e w2 ⟨A',rfl,hf,L2⟩;have B2:=hI (B1.o.over L2);have L12:=hI (step L1.o L2);go_wp2_with(first|(refine sN 18 ?_;refine r0a rfl _ rfl zs BH ?_)|(refine sT 4 ?_;refine a0a rfl _ (.tmp 4) (.tmp 18) rfl g0 rfl _ zs zs rfl B2 26 K0a HZ HZ HZO ?_;intro w9 B9 O9 hg9))
  refine bodyPost_ret (v:=.tuple #[.agg zs.toArray,.int .i64 er]) ?_ rfl (HQ.o _ _ ⟨rfl,c0a L12.o O9.o hg1⟩);exact K2a rfl _ _ g0 _ _ (0,0) _ rfl B9.o underlying28 rfl (by rw[K0a];have:=HZ.o;simp[this]) rfl
theorem f5c(w:World)(h:Hd)(k:h.ok)(hm:L8a h=true):Calls prog 16 #[hv h] w λe w'=>∃A',e=.returned (.tuple #[.slice A' 64 64,.int .i64 0])/\p2a w' w.heap.size A' (X4a h)/\BW w w':=by
 have h1:=B1b w h k;unfold o5a e9a M8a at h1
 rwa [if_pos hm,if_pos hm,n4a k.len] at h1
theorem H7b(w:World)(h:Hd)(k:h.ok)(hm:L8a h=false):Calls prog 16 #[hv h] w λe w'=>∃A',e=.returned (.tuple #[.slice A' 0 0,.int .i64 2])/\BW w w':=by have h1:=B1b w h k;unfold o5a e9a M8a at h1;rw[if_neg (by rw[hm];decide),if_neg (by rw[hm];decide)] at h1;refine h1.mono ?_;rintro e w' ⟨A',rfl,_,hb⟩;exact⟨A',rfl,hb⟩
end Go.Proofs.YtjpcifmeimcikaaGreatDoor
