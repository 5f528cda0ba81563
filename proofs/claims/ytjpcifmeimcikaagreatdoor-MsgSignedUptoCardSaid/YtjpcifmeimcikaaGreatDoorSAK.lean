import Derived.Test.YtjpcifmeimcikaaGreatDoorSAJ
import Derived.Test.YtjpcifmeimcikaaGreatDoorS0
set_option linter.all false
set_option maxHeartbeats 8000000
set_option maxRecDepth 100000
namespace Go.Proofs.YtjpcifmeimcikaaGreatDoor
open Go.Proofs.Tryz
open Go.RowKit
def rowP(n:Nat)(xs:List Int)(v:Value)(w:World):Prop:=∃A c,v=.slice A n c/\Holds w w.heap.size A n c xs
def c0c(m:Nat)(T:TypeId)(vs:List Value)(v:Value)(w:World):Prop:=∃g,v=.slice (some ⟨g,0,none⟩) m m/\Blk w g T vs
def T0b(m:Nat)(X:List Int)(v:Value)(w:World):Prop:=∃g l,v=.slice (some ⟨g,0,none⟩) m m/\W3a w g m (U0b l) (e0b l) (V0b l) (T3a l)/\x0b (e0b l) m<=140737488355328/\v5a (T3a l) m=X
def h4b(T:TypeId)(base:Nat)(xs:List Int)(v:Value)(w:World):Prop:=b1a .u8 T w base v xs
def isP(x v:Value)(_:World):Prop:=v=x
theorem J5a{n:Nat}{xs:List Int}{v:Value}{w w':World}(hb:BW w w'):rowP n xs v w->rowP n xs v w'
 | ⟨A,c,h1,h2⟩=>⟨A,c,h1,h2.over hb⟩
theorem K5a{m:Nat}{T:TypeId}{vs:List Value}{v:Value}{w w':World}(hb:BW w w'):c0c m T vs v w->c0c m T vs v w'
 | ⟨A,h1,h2⟩=>⟨A,h1,h2.over hb⟩
theorem i4a{m:Nat}{X:List Int}{v:Value}{w w':World}(hb:BW w w'):T0b m X v w->T0b m X v w'
 | ⟨A,l,h1,h2,h3⟩=>⟨A,l,h1,h2.over hb,h3⟩
theorem M5a{T:TypeId}{base:Nat}{xs:List Int}{v:Value}{w w':World}(hb:BW w w')(h:h4b T base xs v w):h4b T base xs v w':=b1a.below h hb
set_option maxRecDepth 100000
theorem h5c:(prog.info? 104).map (λi=>(i.zero,i.size))=some (some (.agg (H0a ⟨0,0,0,0⟩).toArray),4):=by kernel_rfl
theorem i5c(g:Nat)(w:World):(Instr.fieldAt 104 (.pointer (some ⟨g,0,none⟩)) 1).run prog w=.ok (.pointer (some ⟨g,1,none⟩)) w:=by go_simp
theorem j5c(g:Nat)(w:World):(Instr.fieldAt 104 (.pointer (some ⟨g,0,none⟩)) 2).run prog w=.ok (.pointer (some ⟨g,2,none⟩)) w:=by go_simp
theorem k5c(g:Nat)(w:World):(Instr.fieldAt 104 (.pointer (some ⟨g,0,none⟩)) 3).run prog w=.ok (.pointer (some ⟨g,3,none⟩)) w:=by go_simp
theorem H4a(w:World)(gl m s:Nat)(vs:List Int)(hB:Blk w gl 25 (vs.map (Value.int .u64)))(hl:vs.length=m)(hm:m<=1000)(hs:u3a (s:Int)=true)(hv:∀x∈vs,0<=x/\x<256^s) :
  Calls prog 90 #[.int .i64 (s:Int),.slice (some ⟨gl,0,none⟩) m m] w λe w'=>∃A' c',e=.returned (.slice A' (D2a s vs).length c')/\(b1a .u8 5 w' w.heap.size (.slice A' (D2a s vs).length c') (D2a s vs)/\Holds w' w'.heap.size A' (D2a s vs).length c' (D2a s vs))/\BW w w':=by
 have h:=Q2b w gl m s vs hB hl hm hs hv;unfold A1b at h;refine h.mono λe w' ⟨v,h1,h2,h3⟩=>?_
 have hlen:(D2a s vs).length<=281474976710656:=by
  rw[s6b,hl];have hs8:s<=8:=by rcases S1a hs with h | h | h | h<;>omega
  have h1:s*m<=8*1000:=Nat.mul_le_mul hs8 hm;omega
 obtain⟨A',c',rfl,hh⟩:=b1a.holds8 h2 (G7b s vs) hlen;exact⟨A',c',h1,⟨h2,hh⟩,h3⟩
theorem j4c(s:Nat)(x:Int):D2a s [x]=le x s:=by simp[D2a]
def v8b(w:World)(ls:List r2a)(e:Ending)(w':World):Prop:=∃v,e=.returned v/\b1a .u8 5 w' w.heap.size v (le ls.length 2++(List.replicate 2 0++R1a ls))/\BW w w'
theorem y6b(w:World)(A:Option Addr)(n c:Nat)(ls:List r2a)(h:c1a H0a 4 w w.heap.size A n c ls)(hn:n<=16)(hok:∀l∈ls,l.ok) :
  Calls prog 91 #[.slice A n c] w (v8b w ls):=by
 have hl:=h.len;have HH:=hI h;have HOK:=hI hok;have HL:=hI hl;have hnz:IntKind.u64.wrap (n:Int)=(n:Int):=by rw[IntKind.wrap_u64];omega
 have CN0:Hid (∀(w:World) (gl:Nat),Blk w gl 25 [.int .u64 (n:Int)]->Calls prog 90 #[.int .i64 2,.slice (some ⟨gl,0,none⟩) 1 1] w λe w'=>∃v,e=.returned v/\b1a .u8 5 w' w.heap.size v (le n 2)/\BW w w'):=λw gl hB=>by have h:=Q2b w gl 1 2 [(n:Int)] hB rfl (by decide) (by decide) (λx hx=>by rw[List.mem_singleton.1 hx,show(256:Int)^2=65536 from by decide];omega);unfold A1b at h;rw[j4c] at h;exact h
 have CN8:Hid (∀(x y:Int),(0<=x/\x<=18446744073709551615)->(0<=y/\y<=18446744073709551615)->∀(w:World) (gl:Nat),Blk w gl 25 [.int .u64 x,.int .u64 y]->Calls prog 90 #[.int .i64 8,.slice (some ⟨gl,0,none⟩) 2 2] w λe w'=>∃A' c',e=.returned (.slice A' 16 c')/\Holds w' w'.heap.size A' 16 c' (le x 8++le y 8)/\BW w w'):=λx y hx hy w gl hB=>by
  have h:=H4a w gl 2 8 [x,y] hB rfl (by decide) (by decide) (λz hz=>by
   rw[show(256:Int)^8=18446744073709551616 from by decide];rcases List.mem_cons.1 hz with rfl | hz
   ·omega
   ·rw[List.mem_singleton.1 hz];omega)
  have e1:D2a 8 [x,y]=le x 8++le y 8:=by simp[D2a]
  rw[e1,show(le x 8++le y 8).length=16 from by rw[List.length_append,g0a,g0a]] at h;exact h.mono λe w' ⟨A',c',h1,h2,h3⟩=>⟨A',c',h1,h2.2,h3⟩
 have CN2:Hid (∀(x:Int),(0<=x/\x<=65535)->∀(w:World) (gl:Nat),Blk w gl 25 [.int .u64 x]->Calls prog 90 #[.int .i64 2,.slice (some ⟨gl,0,none⟩) 1 1] w λe w'=>∃A' c',e=.returned (.slice A' 2 c')/\Holds w' w'.heap.size A' 2 c' (le x 2)/\BW w w'):=λx hx w gl hB=>by have h:=H4a w gl 1 2 [x] hB rfl (by decide) (by decide) (λz hz=>by rw[List.mem_singleton.1 hz,show(256:Int)^2=65536 from by decide];omega);rw[j4c,g0a] at h;exact h.mono λe w' ⟨A',c',h1,h2,h3⟩=>⟨A',c',h1,h2.2,h3⟩
 have CC:Hid (∀(w:World) (gs m:Nat) (A:Nat->Option Addr) (n c:Nat->Nat) (X:Nat->List Int),W3a w gs m A n c X->m<=1000->x0b n m<=140737488355328->Calls prog 18 #[.slice (some ⟨gs,0,none⟩) m m] w λe w'=>∃v,e=.returned v/\b1a .u8 5 w' w.heap.size v (v5a X m)/\BW w w'):=L2a;have HQ:Hid (∀e w',(∃v,e=.returned v/\b1a .u8 5 w' w.heap.size v (le n 2++(List.replicate 2 0++R1a (ls.take n)))/\BW w w')->v8b w ls e w'):=λe w' hh=>by rw[<-HL.o,List.take_length] at hh;exact hh
 have HST:Hid (∀(j:Nat) (l:r2a),ls[j]? = some l->R1a (ls.take (j+1))=R1a (ls.take j)++n1b l):=λj l hx=>by rw[List.take_add_one,hx,Option.toList_some,H2b]
 have HLN:Hid (∀j,j<=n->(le (n:Int) 2++(List.replicate 2 0++R1a (ls.take j))).length<=1000/\Bytes (le (n:Int) 2++(List.replicate 2 0++R1a (ls.take j)))):=λj hj=>by refine⟨?_,(F0a _ _).append ((Bytes.zeros 2).append (X7a _))⟩;rw[List.length_append,List.length_append,u6a,g0a,List.length_replicate,List.length_take];omega
 have H0:Hid (le (n:Int) 2++(List.replicate 2 0++R1a (ls.take 0))=le (n:Int) 2++List.replicate 2 0):=by show _=_;rw[List.take_zero];simp[R1a]
 obtain⟨pre,hpre⟩:∃f:Nat->List Int,f=λj=>le (n:Int) 2++(List.replicate 2 0++R1a (ls.take j)):=⟨_,rfl⟩
 have hpre2:∀j,le (n:Int) 2++(List.replicate 2 0++R1a (ls.take j))=pre j:=λj=>by rw[hpre]
 have HST2:Hid (∀(j:Nat) (l:r2a),ls[j]? = some l->pre (j+1)=pre j++n1b l):=λj l hx=>by
  rw[hpre];show le (n:Int) 2++(List.replicate 2 0++R1a (ls.take (j+1)))=(le (n:Int) 2++(List.replicate 2 0++R1a (ls.take j)))++n1b l
  rw[HST.o j l hx];simp only[List.append_assoc]
 simp only[hpre2] at HLN H0 HQ;have ZK:=hI h5c;have ZKL:Hid ((H0a ⟨0,0,0,0⟩).length=4):=rfl;obtain⟨zk,hzk⟩:=xX (H0a ⟨0,0,0,0⟩);rw[<-hzk] at ZK ZKL;have hle2:(le (n:Int) 2).length=2:=g0a _ _;obtain⟨n2,hn2⟩:=xX (le (n:Int) 2);rw[<-hn2] at CN0 H0 hle2;clear h hl hok hpre hpre2 HST hzk hn2 HL;go_enter func91,ntmps91;go_wp2_with(first|(refine sN 9 ?_;refine o1a rfl _ _ 1 _ rfl underlying178 ([.int .u64 (n:Int)]:List Value) (by kernel_rfl) ?_;intro g1 w1 hg1 hg2 K1 L1)|fail)
 refine(CN0.o w1 g1 K1.o).mono ?_;rintro e w2 ⟨v2,rfl,hv2,L2⟩;have HV2:=hI (b1a.mono hv2 L1.o.size);have M2:=hI (step L1.o L2);have hs2:=M2.o.size;clear hv2 L2 L1 K1 CN0;go_wp2_with(first|(at_builtin;refine X8a rfl (.tmp 10) (.const (.int .i64 2)) rfl w.heap.size 2 _ n2 rfl rfl HV2.o (by decide) (by decide) (by omega) hs2 ?_;intro v3 w3 HV3 L3)|fail)
 rw[<-H0.o] at HV3;have M3:=hI (M2.o.trans L3.o);clear HV2 M2 L3 H0 hs2 hle2;go_loopw [3,14] (λv i wr=>∃j:Nat,i=.int .i64 j/\j<=n/\Hid (b1a .u8 5 wr w.heap.size v (pre j))/\Hid (BW w wr)) (λ_ i _=>n-(intOf i).toNat)
 case atStart=>exact⟨0,rfl,Nat.zero_le _,HV3,M3⟩
 case round=>
  obtain⟨j,rfl,hj,HO,HB1⟩:=hrel;by_cases hlt:j<n
  ·have hh:=HH.o.below HB1.o;obtain⟨b,off,rfl,hb,hc⟩:=hh.cells (by omega);obtain⟨l,hx⟩:∃l,ls[j]? = some l:=⟨_,List.getElem?_eq_getElem (by have:=hh.len;omega)⟩;have Rx:Hid (wr.rangeAt b (off+j*4) (H0a l)):=hh.range rfl hlt hx;have hlo:=HOK.o l (List.mem_of_getElem? hx);have HE:=hI (HST2.o j l hx);obtain⟨hln,hlb⟩:=HLN.o j hj;obtain⟨Ab,cb,rfl,hhold⟩:=b1a.holds8 HO.o hlb (by omega);have HOb:=hI hhold;obtain⟨op,x,y,z⟩:=l;have D8:=hI (CN8.o x y hlo.at_ hlo.n);have D2:=hI (CN2.o z hlo.md);obtain⟨z0,z1⟩:=hlo.md;change 0<=z at z0
   change z<=65535 at z1
   have hz:IntKind.u64.wrap z=z:=by rw[IntKind.wrap_u64];omega
   have LX:Hid ((H0a ⟨op,x,y,z⟩).length=4):=rfl;have HX1:Hid (∀v∈H0a ⟨op,x,y,z⟩,v.oneCell'=true):=o9a _;have FX:Hid (∀(w:World) (g:Nat),Blk w g 104 (H0a ⟨op,x,y,z⟩)->w.cell? ⟨g,1,none⟩=some (.int .u64 x)/\w.cell? ⟨g,2,none⟩=some (.int .u64 y)/\w.cell? ⟨g,3,none⟩=some (.int .u16 z)):=λw g h=>⟨h.at rfl,h.at rfl,h.at rfl⟩
   obtain⟨cx,hcx⟩:=xX (H0a ⟨op,x,y,z⟩);rw[<-hcx] at Rx LX HX1 FX;have HE2:Hid (pre (j+1)=pre j++(le x 8++le y 8++(le z 2++List.replicate 2 0))):=by
    show _=_
    rw[HE.o];show pre j++(le x 8++(le y 8++(le z 2++List.replicate 2 0)))=_
    simp only[List.append_assoc]
   obtain⟨pj,hpj⟩:=xX (pre j);rw[<-hpj] at HE2 HOb hln hlb⊢;obtain⟨m,hm⟩:=xX pj.length;rw[<-hm] at HOb hln⊢;obtain⟨xy,hxy⟩:=xX (le x 8++le y 8);obtain⟨zz,hzz⟩:=xX (le z 2);rw[<-hxy] at D8 HE2;rw[<-hzz] at D2 HE2;have hsz:=HB1.o.size;clear hh hc hx hcx hlo HE hpj hm hlb hhold HO hxy hzz;go_upto_region 5 with(first|(refine sN 17 ?_;refine q0a rfl _ (.tmp 16) rfl b (off+j*4) rfl cx _ Rx underlying104 rfl 4 n6a LX ?_)|(refine sN 5 ?_;refine b0a rfl _ rfl zk _ ZK ?_;intro g u1 hg1 hg2 Z1 N1;have HOc:=hI (HOb.o.over N1.o);have HB2:=hI (HB1.o.trans (N1.o.mono hsz)))|(refine sT 5 ?_;refine a0a rfl _ (.tmp 5) (.tmp 17) rfl g rfl _ zk cx rfl Z1 4 n6a ZKL LX HX1 ?_;intro u2 Z2 O2 hg3;have N2:=hI (c0a N1.o O2.o hg1);have HOd:=hI (HOb.o.over N2.o);have HB3:=hI (HB1.o.trans (N2.o.mono hsz)))|fail)
   have hst:Hid (∀w1 w2:World,(Blk w1 g 104 cx/\BW w w1/\Holds w1 w1.heap.size Ab m cb pj)->BW w1 w2->(Blk w2 g 104 cx/\BW w w2/\Holds w2 w2.heap.size Ab m cb pj)):=λw1 w2 s hb=>⟨s.1.over hb,step s.2.1 hb,s.2.2.over hb⟩
   refine wp_region_held (S:=λw'=>Blk w' g 104 cx/\BW w w'/\Holds w' w'.heap.size Ab m cb pj) (by kernel_rfl) ?_;change wpAnyH _ _ _ _ _ _ _ _ u2.drew
   have S0:Hid (Blk u2.drew g 104 cx/\BW w u2.drew/\Holds u2.drew u2.drew.heap.size Ab m cb pj):=⟨Z2.o.drew,HB3.o.drew,HOd.o.drew⟩;refine tK 0 _ rfl (s0a (by kernel_rfl) (.tmp 3) rfl (.slice Ab m cb) (by kernel_rfl)) S0.o ?_;refine tK 1 _ rfl (w0a (by kernel_rfl) _ (.tmp 5) 1 rfl (.pointer (some ⟨g,0,none⟩)) (.pointer (some ⟨g,1,none⟩)) (by kernel_rfl) (i5c g)) S0.o ?_;refine tK 2 _ rfl (k0a (by kernel_rfl) _ (.tmp 19) rfl g 1 (by kernel_rfl) (.int .u64 x) (λw h=>(FX.o w g h.1).1) _ underlying25 rfl) S0.o ?_;refine tK 3 _ rfl (w0a (by kernel_rfl) _ (.tmp 5) 2 rfl (.pointer (some ⟨g,0,none⟩)) (.pointer (some ⟨g,2,none⟩)) (by kernel_rfl) (j5c g)) S0.o ?_;refine tK 4 _ rfl (k0a (by kernel_rfl) _ (.tmp 21) rfl g 2 (by kernel_rfl) (.int .u64 y) (λw h=>(FX.o w g h.1).2.1) _ underlying25 rfl) S0.o ?_;refine tK 7 _ rfl (w0a (by kernel_rfl) _ (.tmp 5) 3 rfl (.pointer (some ⟨g,0,none⟩)) (.pointer (some ⟨g,3,none⟩)) (by kernel_rfl) (k5c g)) S0.o ?_;refine tK 8 _ rfl (k0a (by kernel_rfl) _ (.tmp 25) rfl g 3 (by kernel_rfl) (.int .u16 z) (λw h=>(FX.o w g h.1).2.2) _ underlying22 rfl) S0.o ?_;refine pK 9 ((.int .u64 z)) rfl S0.o ?_;refine H2a λfr1 hfr1=>?_
   have f18:fr1.eval (.tmp 18)=.slice Ab m cb:=by rw[hfr1];kernel_rfl
   have f20:fr1.eval (.tmp 20)=.int .u64 x:=by rw[hfr1];kernel_rfl
   have f22:fr1.eval (.tmp 22)=.int .u64 y:=by rw[hfr1];kernel_rfl
   have f27:fr1.eval (.tmp 27)=.int .u64 z:=by rw[hfr1];kernel_rfl
   refine h4a [(5,23),(6,24),(10,28),(11,29),(12,30),(13,31),(14,32),(15,3)] (λi=>match i with
    | 5=>c0c 2 25 [.int .u64 x,.int .u64 y]
    | 6=>rowP 16 xy
    | 10=>c0c 1 25 [.int .u64 z]
    | 11=>rowP 2 zz
    | 12=>rowP 2 (List.replicate 2 0)
    | 13=>T0b 4 (pj++(xy++(zz++((List.replicate 2 0)))))
    | 14=>h4b 5 w.heap.size (pj++(xy++(zz++((List.replicate 2 0)))))
    | 15=>h4b 5 w.heap.size (pj++(xy++(zz++((List.replicate 2 0)))))
    | _=>λ_ _=>True) fr1 (by rw[hfr1];kernel_rfl) (Nat.le_of_ble_eq_true (by kernel_rfl)) S0.o ?_ ?_ ?_
   ·intro i v w1 w2 hb h;split at h;all_goals first | exact J5a hb h | exact K5a hb h | exact i4a hb h | exact M5a hb h | exact h
   ·refine List.forall_mem_cons.2 ⟨⟨_,rfl,λb w1 s hev hd K hK=>?_⟩,List.forall_mem_cons.2 ⟨⟨_,rfl,λb w1 s hev hd K hK=>?_⟩,List.forall_mem_cons.2 ⟨⟨_,rfl,λb w1 s hev hd K hK=>?_⟩,List.forall_mem_cons.2 ⟨⟨_,rfl,λb w1 s hev hd K hK=>?_⟩,List.forall_mem_cons.2 ⟨⟨_,rfl,λb w1 s hev hd K hK=>?_⟩,List.forall_mem_cons.2 ⟨⟨_,rfl,λb w1 s hev hd K hK=>?_⟩,List.forall_mem_cons.2 ⟨⟨_,rfl,λb w1 s hev hd K hK=>?_⟩,List.forall_mem_cons.2 ⟨⟨_,rfl,λb w1 s hev hd K hK=>?_⟩,λ_ h=>absurd h List.not_mem_nil⟩⟩⟩⟩⟩⟩⟩⟩
    ·have e20:=(hev 20 (by decide)).trans f20;have e22:=(hev 22 (by decide)).trans f22;refine P0a rfl _ _ 2 _ rfl underlying178 ([.int .u64 x,.int .u64 y]:List Value) (by simp only[List.map_toArray,List.map_cons,List.map_nil,e20,e22];kernel_rfl) ?_;intro g2 w2 _ _ hY hL;exact hK _ _ (hst.o _ _ s hL.o) hL.o ⟨_,rfl,hY.o⟩
    ·obtain⟨g4,e4,hB⟩:=hd (5,23) (by simp) (by kernel_rfl);simp only[Act.eval,Array.getD_eq_getD_getElem?] at e4;go_simp;refine(D8.o _ _ hB).mono ?_;rintro e w2 ⟨A,c,rfl,hY,hL⟩;exact hK _ _ (hst.o _ _ s hL) hL ⟨_,_,rfl,hY⟩
    ·have e27:=(hev 27 (by decide)).trans f27;refine P0a rfl _ _ 1 _ rfl underlying178 ([.int .u64 z]:List Value) (by simp only[List.map_toArray,List.map_cons,List.map_nil,e27];kernel_rfl) ?_;intro g2 w2 _ _ hY hL;exact hK _ _ (hst.o _ _ s hL.o) hL.o ⟨_,rfl,hY.o⟩
    ·obtain⟨g4,e4,hB⟩:=hd (10,28) (by simp) (by kernel_rfl);simp only[Act.eval,Array.getD_eq_getD_getElem?] at e4;go_simp;refine(D2.o _ _ hB).mono ?_;rintro e w2 ⟨A,c,rfl,hY,hL⟩;exact hK _ _ (hst.o _ _ s hL) hL ⟨_,_,rfl,hY⟩
    ·refine C3a rfl _ _ rfl 2 rfl rfl (by omega) ?_;intro w2 hR hL;exact hK _ _ (hst.o _ _ s hL.o) hL.o ⟨_,_,rfl,p2a.holds (base:=0) (.inr ⟨_,rfl,Nat.zero_le _,hR.o⟩) (by rfl:(List.replicate 2 (0:Int)).length=2) (Bytes.zeros 2) (by omega)⟩
    ·have e18:=(hev 18 (by decide)).trans f18;obtain⟨A1,c1,e24,h1⟩:=hd (6,24) (by simp) (by kernel_rfl);obtain⟨A2,c2,e29,h2⟩:=hd (11,29) (by simp) (by kernel_rfl);obtain⟨A3,c3,e30,h3⟩:=hd (12,30) (by simp) (by kernel_rfl);refine P0a rfl _ _ 4 _ rfl underlying94 ([.slice Ab m cb,.slice A1 16 c1,.slice A2 2 c2,.slice A3 2 c3]:List Value) (by simp only[List.map_toArray,List.map_cons,List.map_nil,e18,e24,e29,e30];kernel_rfl) ?_;intro g2 w2 _ _ hY hL;exact hK _ _ (hst.o _ _ s hL.o) hL.o ⟨_,[(Ab,m,cb,pj),(A1,16,c1,xy),(A2,2,c2,zz),(A3,2,c3,(List.replicate 2 0))],rfl,W3a.of_blk _ hY.o (List.forall_mem_cons.2 ⟨s.2.2.over hL.o,List.forall_mem_cons.2 ⟨h1.over hL.o,List.forall_mem_cons.2 ⟨h2.over hL.o,List.forall_mem_cons.2 ⟨h3.over hL.o,λ_ h=>absurd h List.not_mem_nil⟩⟩⟩⟩),by show 0+m+16+2+2<=_;omega,by simp[v5a,T3a,List.append_assoc]⟩
    ·obtain⟨g5,l5,e5,hp5,hn5,hc5⟩:=hd (13,31) (by simp) (by kernel_rfl);simp only[Act.eval,Array.getD_eq_getD_getElem?] at e5;go_simp;refine(CC.o _ g5 4 _ _ _ _ hp5 (by omega) (by omega)).mono ?_;rintro e w2 ⟨v,rfl,hY,hL⟩;exact hK _ _ (hst.o _ _ s hL) hL (by rw[<-hc5];exact hY.mono s.2.1.size)
    ·have h15:(h4b 5 w.heap.size (pj++(xy++(zz++((List.replicate 2 0)))))) (b.eval (.tmp 32)) w1:=hd (14,32) (by simp) (by kernel_rfl);simp only[Act.eval,Array.getD_eq_getD_getElem?] at h15;go_simp;exact hK _ _ s (Below.refl _ _) h15
   ·intro vs w9 s hv;have OUT0:b1a .u8 5 w9 w.heap.size (vs 3) (pj++(xy++(zz++((List.replicate 2 0))))):=hv (15,3) (by simp);obtain⟨v,hv15⟩:=xX (vs 3);rw[<-hv15] at OUT0;have OUT:=hI OUT0;have S9:=hI s.1;have b9:=hI s.2.1;have HB_9:=hI s.2.2;subst hfr1;simp only[List.foldl_cons,List.foldl_nil,<-hv15];obtain⟨y23,hy0⟩:=xX (vs 23);rw[<-hy0];clear hy0;obtain⟨y24,hy0⟩:=xX (vs 24);rw[<-hy0];clear hy0;obtain⟨y28,hy0⟩:=xX (vs 28);rw[<-hy0];clear hy0;obtain⟨y29,hy0⟩:=xX (vs 29);rw[<-hy0];clear hy0;obtain⟨y30,hy0⟩:=xX (vs 30);rw[<-hy0];clear hy0;obtain⟨y31,hy0⟩:=xX (vs 31);rw[<-hy0];clear hy0;obtain⟨y32,hy0⟩:=xX (vs 32);rw[<-hy0];clear hy0;clear hv s vs hst S0 hv15 OUT0 f18 f20 f22 f27;have HO6:=hI (OUT.o);have HO7:Hid (b1a .u8 5 w9 w.heap.size v (pre (j+1))):=by
     show b1a _ _ _ _ _ _
     rw[HE2.o];have h9:=HO6.o;simpa[v5a,T3a,List.append_assoc] using h9
    have HB9:=hI b9.o;clear OUT HO6;go_wp2;go_roundw
    case rel=>exact⟨j+1,by simp,by omega,HO7,HB9⟩
    case measure=>simp[intOf];omega
  ·obtain rfl:j=n:=by omega
   go_wp2;go_ret;exact HQ.o _ _ ⟨_,rfl,HO.o,HB1.o⟩
theorem le1(x:Int)(h0:0<=x)(h1:x<=255):le x 1=[x]:=by
 show[x%256]=[x]
 rw[Int.emod_eq_of_lt h0 (by omega)]
def b7a(w:World)(c:Int)(a:l1a)(e:Ending)(w':World):Prop:=∃v,e=.returned (.tuple #[v,.int .i64 (t7a c a)])/\b1a .u8 5 w' w.heap.size v (F2b c a)/\BW w w'
theorem O7b(w:World)(c:Int)(cs:List Value)(a:l1a)(hc:0<=c/\c<=65535)(ka:a.ok)(ha:g1a w w.heap.size cs a)(hu:a.user.size<=17592186044416/\a.share.size<=17592186044416)(hnm:a.name.size<=17592186044416)(hn:a.locks.length<=4398046511104)(hT:E8a w) :
  Calls prog 64 #[.int .u16 c,.agg cs.toArray] w (b7a w c a):=by
 have HL:=hI (ha.len ka);have HT:=hI hT;have HA:=hI ha;have CN:Hid (∀w',BW w w'->Calls prog 89 #[.int .u16 c,.agg cs.toArray] w' λe w2=>e=.returned (.bool (U8a c a))/\BW w' w2):=λw' hb=>r3b w' c cs a hc ka (HA.o.over hb) hu hn (HT.o.below hb)
 obtain⟨A1,A2,A3,X1,X2,X3,M1,M2,M3,hcs,hA,hX,hM⟩:=ha;have FL:Hid (∀(w:World) (g:Nat),Blk w g 34 cs->w.cell? ⟨g,61,none⟩=some (.slice X1 X2 X3)/\w.cell? ⟨g,62,none⟩=some (.slice M1 M2 M3)):=λw g h=>by rw[hcs] at h;exact⟨h.at (o0a ka 12),h.at (o0a ka 13)⟩
 have hxl:a.data.length=X2:=hX.len;have hml:a.locks.length=M2:=hM.len;have hxr:=hX.room;have HE:Hid (∀er,t7a c a=er->er≠0->∀v e w',e=.returned (.tuple #[v,.int .i64 er])->v=.slice none 0 0->BW w w'->b7a w c a e w'):=by intro er h1 h2 v e w' he hv hb;unfold b7a F2b;rw[h1,if_neg h2];exact⟨_,he,by rw[hv];exact b1a.nil _ _ _ _,hb⟩
 by_cases hnf:U8a c a=true;rotate_left
 ·have hnb:U8a c a=false:=by simpa using hnf
  have HQ:=hI (HE.o 2 (by unfold t7a;rw[if_neg hnf]) (by decide));rw[hnb] at CN;clear hnf hnb HE hA hX hM ka HA hcs hxl hml;go_enter func64,ntmps64;go_wp2_with(first|(refine sN 3 ?_;refine d0a rfl _ (.tmp 1) rfl cs rfl ?_;intro g w1 hg1 hg2 K1 L1)|(refine sN 11 ?_;refine e0a rfl _ (.tmp 3) rfl g rfl _ cs K1 69 _ underlying34 rfl p0a HL ?_)|fail)
  refine(CN.o w1 L1.o).mono ?_;rintro e w2 ⟨rfl,L2⟩;have K2:=hI (K1.o.over L2);have M2':=hI (step L1.o L2);obtain⟨c61,c62⟩:=FL.o w2 g K2.o;clear L2 K1 L1 CN;go_wp2;go_ret2;exact HQ.o _ _ _ rfl rfl M2'.o
 by_cases hlim:X2<=32768/\M2<=16;rotate_left
 ·have HQ:=hI (HE.o 3 (by unfold t7a;rw[if_pos hnf,hxl,hml,if_neg hlim]) (by decide));rw[hnf] at CN;clear hnf HE hA hX hM ka HA hcs hxl hml;by_cases hx3:X2<=32768
  ·have hm3:¬M2<=16:=λh=>hlim ⟨hx3,h⟩
   clear hlim;go_enter func64,ntmps64;go_wp2_with(first|(refine sN 3 ?_;refine d0a rfl _ (.tmp 1) rfl cs rfl ?_;intro g w1 hg1 hg2 K1 L1)|(refine sN 11 ?_;refine e0a rfl _ (.tmp 3) rfl g rfl _ cs K1 69 _ underlying34 rfl p0a HL ?_)|fail)
   refine(CN.o w1 L1.o).mono ?_;rintro e w2 ⟨rfl,L2⟩;have K2:=hI (K1.o.over L2);have M2':=hI (step L1.o L2);obtain⟨c61,c62⟩:=FL.o w2 g K2.o;clear L2 K1 L1 CN;go_wp2;go_ret2;exact HQ.o _ _ _ rfl rfl M2'.o
  ·clear hlim;go_enter func64,ntmps64;go_wp2_with(first|(refine sN 3 ?_;refine d0a rfl _ (.tmp 1) rfl cs rfl ?_;intro g w1 hg1 hg2 K1 L1)|(refine sN 11 ?_;refine e0a rfl _ (.tmp 3) rfl g rfl _ cs K1 69 _ underlying34 rfl p0a HL ?_)|fail)
   refine(CN.o w1 L1.o).mono ?_;rintro e w2 ⟨rfl,L2⟩;have K2:=hI (K1.o.over L2);have M2':=hI (step L1.o L2);obtain⟨c61,c62⟩:=FL.o w2 g K2.o;clear L2 K1 L1 CN;go_wp2;go_ret2;exact HQ.o _ _ _ rfl rfl M2'.o
 obtain⟨hx3,hm3⟩:=hlim;rw[hnf] at CN;have hk:c3a c=true:=by
  unfold U8a at hnf;cases h:c3a c
  ·rw[h,Bool.false_and] at hnf;exact absurd hnf (by decide)
  ·rfl
 have hcc:c=5∨c=6∨c=7∨c=8∨c=9∨c=10:=by unfold c3a at hk;simp at hk;omega
 have HOK:Hid (t7a c a=if c=5 then z0a a.name.data.toList else 0):=by
  show _=_
  unfold t7a;rw[if_pos hnf,hxl,hml,if_pos ⟨hx3,hm3⟩]
 have HQ0:Hid (t7a c a=0->∀v e w',e=.returned (.tuple #[v,.int .i64 0])->b1a .u8 5 w' w.heap.size v (y4a c a)->BW w w'->b7a w c a e w'):=by intro h v e w' he hv hb;unfold b7a F2b;rw[h,if_pos rfl];exact⟨_,he,hv,hb⟩
 have b_acc:=ka.acc;obtain⟨l_acc,u_acc⟩:=b_acc;have b_shr:=ka.shr;obtain⟨l_shr,u_shr⟩:=b_shr;have b_way:=ka.way;obtain⟨l_way,u_way⟩:=b_way;have b_opt:=ka.opt;obtain⟨l_opt,u_opt⟩:=b_opt;have b_lev:=ka.lev;obtain⟨l_lev,u_lev⟩:=b_lev;have b_dur:=ka.dur;obtain⟨l_dur,u_dur⟩:=b_dur;have b_file:=ka.file;obtain⟨l_file,u_file⟩:=b_file;have b_at_:=ka.at_;obtain⟨l_at_,u_at_⟩:=b_at_;have b_n:=ka.n;obtain⟨l_n,u_n⟩:=b_n;have z_acc:IntKind.u64.wrap a.acc=a.acc:=by rw[IntKind.wrap_u64];omega
 have z_shr:IntKind.u64.wrap a.shr=a.shr:=by rw[IntKind.wrap_u64];omega
 have z_way:IntKind.u64.wrap a.way=a.way:=by rw[IntKind.wrap_u64];omega
 have z_opt:IntKind.u64.wrap a.opt=a.opt:=by rw[IntKind.wrap_u64];omega
 have z_n:IntKind.u64.wrap a.n=a.n:=by rw[IntKind.wrap_u64];omega
 have z_x:IntKind.u64.wrap (X2:Int)=(X2:Int):=by rw[IntKind.wrap_u64];omega
 have FC:Hid (∀(w:World) (g:Nat),Blk w g 34 cs->w.cell? ⟨g,51,none⟩=some (.int .u32 a.acc)/\w.cell? ⟨g,52,none⟩=some (.int .u32 a.shr)/\w.cell? ⟨g,53,none⟩=some (.int .u32 a.way)/\w.cell? ⟨g,54,none⟩=some (.int .u32 a.opt)/\w.cell? ⟨g,55,none⟩=some (.int .u8 a.lev)/\w.cell? ⟨g,56,none⟩=some (.int .u8 a.dur)/\w.cell? ⟨g,57,none⟩=some (.int .u64 a.file)/\w.cell? ⟨g,58,none⟩=some (.string a.name)/\w.cell? ⟨g,59,none⟩=some (.int .u64 a.at_)/\w.cell? ⟨g,60,none⟩=some (.int .u32 a.n)):=λw g h=>by rw[hcs] at h;exact⟨h.at (o0a ka 2),h.at (o0a ka 3),h.at (o0a ka 4),h.at (o0a ka 5),h.at (o0a ka 6),h.at (o0a ka 7),h.at (o0a ka 8),h.at (o0a ka 9),h.at (o0a ka 10),h.at (o0a ka 11)⟩
 have CC:Hid (∀(w:World) (gs m:Nat) (A:Nat->Option Addr) (n c:Nat->Nat) (X:Nat->List Int),W3a w gs m A n c X->m<=1000->x0b n m<=140737488355328->Calls prog 18 #[.slice (some ⟨gs,0,none⟩) m m] w λe w'=>∃v,e=.returned v/\b1a .u8 5 w' w.heap.size v (v5a X m)/\BW w w'):=L2a;have CF8:Hid (∀(w:World) (gl:Nat),Blk w gl 25 [.int .u64 a.file]->Calls prog 90 #[.int .i64 8,.slice (some ⟨gl,0,none⟩) 1 1] w λe w'=>∃A' c',e=.returned (.slice A' 8 c')/\(b1a .u8 5 w' w.heap.size (.slice A' 8 c') (le a.file 8)/\Holds w' w'.heap.size A' 8 c' (le a.file 8))/\BW w w'):=λw gl hB=>by
  have h:=H4a w gl 1 8 ([a.file]:List Int) hB rfl (by decide) (by decide) (λz hz=>by rw[show(256:Int)^8=18446744073709551616 from by decide];simp only[List.mem_cons,List.not_mem_nil,or_false] at hz;rw[hz];omega)
  have e1:D2a 8 ([a.file]:List Int)=le a.file 8:=by simp[D2a]
  rw[e1] at h;have e2:(le a.file 8).length=8:=by simp[g0a]
  rw[e2] at h;exact h
 have HX:=hI hX;have HM:=hI hM;clear HE hA hX hM HA hcs hnf hxl hml hk;rcases hcc with h5 | h6 | h7 | h8 | h9 | h10
 ·subst h5;rw[if_pos rfl] at HOK;have CT:Hid (∀w',BW w w'->Calls prog 79 #[.string a.name] w' λe w2=>(∃v,e=.returned (.tuple #[v,.int .i64 (z0a a.name.data.toList)])/\b1a .u8 5 w2 w'.heap.size v (C0a a.name.data.toList))/\BW w' w2):=λw' hb=>(Z5a a.name w' hnm (HT.o.below hb)).mono λe w2 ⟨v,h1,h2,h3⟩=>⟨⟨v,h1,h2⟩,h3⟩
  by_cases hp:z0a a.name.data.toList=0;rotate_left
  ·have HQ:Hid (∀e w',e=.returned (.tuple #[.slice none 0 0,.int .i64 (z0a a.name.data.toList)])->BW w w'->b7a w 5 a e w'):=by intro e w' he hb;unfold b7a F2b;rw[HOK.o,if_neg hp];exact⟨_,he,b1a.nil _ _ _ _,hb⟩
   obtain⟨er,her⟩:=xX (z0a a.name.data.toList);rw[<-her] at CT HQ hp;have hne:(er != 0)=true:=by simpa using hp
   clear her hp HOK HQ0;go_enter func64,ntmps64;go_wp2_with(first|(refine sN 3 ?_;refine d0a rfl _ (.tmp 1) rfl cs rfl ?_;intro g w1 hg1 hg2 K1 L1)|(refine sN 11 ?_;refine e0a rfl _ (.tmp 3) rfl g rfl _ cs K1 69 _ underlying34 rfl p0a HL ?_)|fail)
   refine(CN.o w1 L1.o).mono ?_;rintro e w2 ⟨rfl,L2⟩;have K2:=hI (K1.o.over L2);have M2':=hI (step L1.o L2);obtain⟨c61,c62⟩:=FL.o w2 g K2.o;clear L2 K1 L1 CN;obtain⟨c51,c52,c53,c54,c55,c56,c57,c58,c59,c60⟩:=FC.o w2 g K2.o;go_wp2_with(first|(refine sN 26 ?_;refine o1a rfl _ _ 1 _ rfl underlying178 ([.int .u64 a.file]:List Value) (by kernel_rfl) ?_;intro g3 w3 hg5 hg6 Y3 L3)|fail)
   refine(CF8.o w3 g3 Y3.o).mono ?_;rintro e w4 ⟨Af,cf,rfl,⟨hOf,hHf⟩,L4⟩;have HF:=hI hHf;have K4:=hI ((K2.o.over L3.o).over L4);have M4:=hI (step (step M2'.o L3.o) L4);have OF:=hI (b1a.mono hOf (Nat.le_trans M2'.o.size L3.o.size));have HXD:=hI (HX.o.over M4.o);have hs4:=M4.o.size;clear hHf hOf L4 L3 Y3 K2 M2' c51 c52 c53 c54 c55 c56 c57 c58 c59 c60 c61 c62 CF8;obtain⟨c51,c52,c53,c54,c55,c56,c57,c58,c59,c60⟩:=FC.o w4 g K4.o;go_wp2_with fail;refine(CT.o w4 M4.o).mono ?_;rintro e w5 ⟨⟨v,rfl,hv⟩,L5⟩;have M5:=hI (step M4.o L5);clear hv L5;go_wp2;go_ret2;exact HQ.o _ _ rfl M5.o
  ·have HQ:=hI (HQ0.o (by rw[HOK.o,hp]));rw[hp] at CT;have hb5:y4a 5 a=(le a.acc 4++(le a.shr 4++(le a.way 4++le a.opt 4)))++([a.lev,a.dur]++(List.replicate 2 0++(le a.file 8++C0a a.name.data.toList))):=by unfold y4a;rw[if_pos rfl,le1 a.lev l_lev u_lev,le1 a.dur l_dur u_dur];simp only[List.append_assoc,List.cons_append,List.nil_append]
   rw[hb5] at HQ;have CM4:Hid (∀(w:World) (gl:Nat),Blk w gl 25 [.int .u64 a.acc,.int .u64 a.shr,.int .u64 a.way,.int .u64 a.opt]->Calls prog 90 #[.int .i64 4,.slice (some ⟨gl,0,none⟩) 4 4] w λe w'=>∃A' c',e=.returned (.slice A' 16 c')/\(b1a .u8 5 w' w.heap.size (.slice A' 16 c') (le a.acc 4++(le a.shr 4++(le a.way 4++le a.opt 4)))/\Holds w' w'.heap.size A' 16 c' (le a.acc 4++(le a.shr 4++(le a.way 4++le a.opt 4))))/\BW w w'):=λw gl hB=>by
    have h:=H4a w gl 4 4 ([a.acc,a.shr,a.way,a.opt]:List Int) hB rfl (by decide) (by decide) (λz hz=>by rw[show(256:Int)^4=4294967296 from by decide];simp only[List.mem_cons,List.not_mem_nil,or_false] at hz;rcases hz with hz | hz | hz | hz<;>omega)
    have e1:D2a 4 ([a.acc,a.shr,a.way,a.opt]:List Int)=le a.acc 4++(le a.shr 4++(le a.way 4++le a.opt 4)):=by simp[D2a]
    rw[e1] at h;have e2:(le a.acc 4++(le a.shr 4++(le a.way 4++le a.opt 4))).length=16:=by simp[g0a]
    rw[e2] at h;exact h
   have HLT:Hid ((C0a a.name.data.toList).length<=514/\Bytes (C0a a.name.data.toList)):=⟨v3a _,e2a _⟩;obtain⟨tx,htx⟩:=xX (C0a a.name.data.toList);rw[<-htx] at CT HQ HLT;obtain⟨f8,hf8⟩:=xX (le a.file 8);rw[<-hf8] at CF8 HQ;obtain⟨m4,hm4⟩:=xX (le a.acc 4++(le a.shr 4++(le a.way 4++le a.opt 4)));rw[<-hm4] at CM4 HQ;have hld:Bytes [a.lev,a.dur]:=by intro x hx;simp only[List.mem_cons,List.not_mem_nil,or_false] at hx;rcases hx with hx | hx<;>omega
   have HLD:=hI hld;obtain⟨hlt,hlb⟩:=HLT.o;obtain⟨lt,hltx⟩:=xX tx.length;have HLTX:=hI hltx;rw[<-hltx] at hlt;clear htx hf8 hm4 hp HOK HQ0 hb5 hltx hld;go_enter func64,ntmps64;go_wp2_with(first|(refine sN 3 ?_;refine d0a rfl _ (.tmp 1) rfl cs rfl ?_;intro g w1 hg1 hg2 K1 L1)|(refine sN 11 ?_;refine e0a rfl _ (.tmp 3) rfl g rfl _ cs K1 69 _ underlying34 rfl p0a HL ?_)|fail)
   refine(CN.o w1 L1.o).mono ?_;rintro e w2 ⟨rfl,L2⟩;have K2:=hI (K1.o.over L2);have M2':=hI (step L1.o L2);obtain⟨c61,c62⟩:=FL.o w2 g K2.o;clear L2 K1 L1 CN;obtain⟨c51,c52,c53,c54,c55,c56,c57,c58,c59,c60⟩:=FC.o w2 g K2.o;go_wp2_with(first|(refine sN 26 ?_;refine o1a rfl _ _ 1 _ rfl underlying178 ([.int .u64 a.file]:List Value) (by kernel_rfl) ?_;intro g3 w3 hg5 hg6 Y3 L3)|fail)
   refine(CF8.o w3 g3 Y3.o).mono ?_;rintro e w4 ⟨Af,cf,rfl,⟨hOf,hHf⟩,L4⟩;have HF:=hI hHf;have K4:=hI ((K2.o.over L3.o).over L4);have M4:=hI (step (step M2'.o L3.o) L4);have OF:=hI (b1a.mono hOf (Nat.le_trans M2'.o.size L3.o.size));have HXD:=hI (HX.o.over M4.o);have hs4:=M4.o.size;clear hHf hOf L4 L3 Y3 K2 M2' c51 c52 c53 c54 c55 c56 c57 c58 c59 c60 c61 c62 CF8;obtain⟨c51,c52,c53,c54,c55,c56,c57,c58,c59,c60⟩:=FC.o w4 g K4.o;go_wp2_with fail;refine(CT.o w4 M4.o).mono ?_;rintro e w5 ⟨⟨v,rfl,hv⟩,L5⟩;obtain⟨At,ct,rfl,hHt⟩:=b1a.holds8 hv hlb (by rw[<-HLTX.o];omega);rw[<-HLTX.o] at hHt⊢;have HTX:=hI hHt;have K5:=hI (K4.o.over L5);have M5:=hI (step M4.o L5);have HF5:=hI (HF.o.over L5);clear hv hHt L5 K4 M4 HF OF HXD c51 c52 c53 c54 c55 c56 c57 c58 c59 c60;obtain⟨c51,c52,c53,c54,c55,c56,c57,c58,c59,c60⟩:=FC.o w5 g K5.o;go_wp2_with(first|(refine sN 52 ?_;refine o1a rfl _ _ 4 _ rfl underlying178 ([.int .u64 a.acc,.int .u64 a.shr,.int .u64 a.way,.int .u64 a.opt]:List Value) (by kernel_rfl) ?_;intro g6 w6 hg7 hg8 Y6 L6)|fail)
   refine(CM4.o w6 g6 Y6.o).mono ?_;rintro e w7 ⟨Am,cm,rfl,⟨_,hHm⟩,L7⟩;have HMM:=hI hHm;have K7:=hI ((K5.o.over L6.o).over L7);have M7:=hI (step (step M5.o L6.o) L7);have HF7:=hI ((HF5.o.over L6.o).over L7);have HTX7:=hI ((HTX.o.over L6.o).over L7);have hs7:=M7.o.size;clear hHm L6 L7 Y6 K5 M5 HF5 HTX c51 c52 c53 c54 c55 c56 c57 c58 c59 c60;go_upto_region 12 with fail
   have hst:Hid (∀w1 w2:World,(Blk w1 g 34 cs/\BW w w1/\Holds w1 w1.heap.size Am 16 cm m4/\Holds w1 w1.heap.size Af 8 cf f8/\Holds w1 w1.heap.size At lt ct tx)->BW w1 w2->(Blk w2 g 34 cs/\BW w w2/\Holds w2 w2.heap.size Am 16 cm m4/\Holds w2 w2.heap.size Af 8 cf f8/\Holds w2 w2.heap.size At lt ct tx)):=λw1 w2 s hb=>⟨s.1.over hb,step s.2.1 hb,s.2.2.1.over hb,s.2.2.2.1.over hb,s.2.2.2.2.over hb⟩
   refine wp_region_held (S:=λw'=>Blk w' g 34 cs/\BW w w'/\Holds w' w'.heap.size Am 16 cm m4/\Holds w' w'.heap.size Af 8 cf f8/\Holds w' w'.heap.size At lt ct tx) (by kernel_rfl) ?_;change wpAnyH _ _ _ _ _ _ _ _ w7.drew
   have S0:Hid (Blk w7.drew g 34 cs/\BW w w7.drew/\Holds w7.drew w7.drew.heap.size Am 16 cm m4/\Holds w7.drew w7.drew.heap.size Af 8 cf f8/\Holds w7.drew w7.drew.heap.size At lt ct tx):=⟨K7.o.drew,M7.o.drew,HMM.o.drew,HF7.o.drew,HTX7.o.drew⟩;refine tK 0 _ rfl (s0a (by kernel_rfl) (.tmp 9) rfl (.slice Am 16 cm) (by kernel_rfl)) S0.o ?_;refine tK 1 _ rfl (w0a (by kernel_rfl) _ (.tmp 3) 9 rfl (.pointer (some ⟨g,0,none⟩)) (.pointer (some ⟨g,55,none⟩)) (by kernel_rfl) (K7a g)) S0.o ?_;refine tK 2 _ rfl (k0a (by kernel_rfl) _ (.tmp 55) rfl g 55 (by kernel_rfl) (.int .u8 a.lev) (λw h=>(FC.o w g h.1).2.2.2.2.1) _ underlying5 rfl) S0.o ?_;refine tK 3 _ rfl (w0a (by kernel_rfl) _ (.tmp 3) 10 rfl (.pointer (some ⟨g,0,none⟩)) (.pointer (some ⟨g,56,none⟩)) (by kernel_rfl) (j7a g)) S0.o ?_;refine tK 4 _ rfl (k0a (by kernel_rfl) _ (.tmp 57) rfl g 56 (by kernel_rfl) (.int .u8 a.dur) (λw h=>(FC.o w g h.1).2.2.2.2.2.1) _ underlying5 rfl) S0.o ?_;refine tK 7 _ rfl (s0a (by kernel_rfl) (.tmp 6) rfl (.slice Af 8 cf) (by kernel_rfl)) S0.o ?_;refine tK 8 _ rfl (s0a (by kernel_rfl) (.tmp 7) rfl (.slice At lt ct) (by kernel_rfl)) S0.o ?_;refine H2a λfr1 hfr1=>?_
   have f54:fr1.eval (.tmp 54)=.slice Am 16 cm:=by rw[hfr1];kernel_rfl
   have f56:fr1.eval (.tmp 56)=.int .u8 a.lev:=by rw[hfr1];kernel_rfl
   have f58:fr1.eval (.tmp 58)=.int .u8 a.dur:=by rw[hfr1];kernel_rfl
   have f61:fr1.eval (.tmp 61)=.slice Af 8 cf:=by rw[hfr1];kernel_rfl
   have f62:fr1.eval (.tmp 62)=.slice At lt ct:=by rw[hfr1];kernel_rfl
   refine h4a [(5,59),(6,60),(9,63),(10,64),(11,4),(12,5)] (λi=>match i with
    | 5=>rowP 2 [a.lev,a.dur]
    | 6=>rowP 2 (List.replicate 2 0)
    | 9=>T0b 5 (m4++([a.lev,a.dur]++((List.replicate 2 0)++(f8++tx))))
    | 10=>h4b 5 w.heap.size (m4++([a.lev,a.dur]++((List.replicate 2 0)++(f8++tx))))
    | 11=>h4b 5 w.heap.size (m4++([a.lev,a.dur]++((List.replicate 2 0)++(f8++tx))))
    | 12=>isP (.int .i64 0)
    | _=>λ_ _=>True) fr1 (by rw[hfr1];kernel_rfl) (Nat.le_of_ble_eq_true (by kernel_rfl)) S0.o ?_ ?_ ?_
   ·intro i v w1 w2 hb h;split at h;all_goals first | exact J5a hb h | exact K5a hb h | exact i4a hb h | exact M5a hb h | exact h
   ·refine List.forall_mem_cons.2 ⟨⟨_,rfl,λb w1 s hev hd K hK=>?_⟩,List.forall_mem_cons.2 ⟨⟨_,rfl,λb w1 s hev hd K hK=>?_⟩,List.forall_mem_cons.2 ⟨⟨_,rfl,λb w1 s hev hd K hK=>?_⟩,List.forall_mem_cons.2 ⟨⟨_,rfl,λb w1 s hev hd K hK=>?_⟩,List.forall_mem_cons.2 ⟨⟨_,rfl,λb w1 s hev hd K hK=>?_⟩,List.forall_mem_cons.2 ⟨⟨_,rfl,λb w1 s hev hd K hK=>?_⟩,λ_ h=>absurd h List.not_mem_nil⟩⟩⟩⟩⟩⟩
    ·have e56:=(hev 56 (by decide)).trans f56;have e58:=(hev 58 (by decide)).trans f58;refine P0a rfl _ _ 2 _ rfl underlying31 ([.int .u8 a.lev,.int .u8 a.dur]:List Value) (by simp only[List.map_toArray,List.map_cons,List.map_nil,e56,e58];kernel_rfl) ?_;intro g2 w2 _ _ hY hL;exact hK _ _ (hst.o _ _ s hL.o) hL.o ⟨_,_,rfl,Holds.of_lit (xs:=[a.lev,a.dur]) hY.o HLD.o⟩
    ·refine C3a rfl _ _ rfl 2 rfl rfl (by omega) ?_;intro w2 hR hL;exact hK _ _ (hst.o _ _ s hL.o) hL.o ⟨_,_,rfl,p2a.holds (base:=0) (.inr ⟨_,rfl,Nat.zero_le _,hR.o⟩) (by rfl:(List.replicate 2 (0:Int)).length=2) (Bytes.zeros 2) (by omega)⟩
    ·have e54:=(hev 54 (by decide)).trans f54;obtain⟨A1,c1,e59,h1⟩:=hd (5,59) (by simp) (by kernel_rfl);obtain⟨A2,c2,e60,h2⟩:=hd (6,60) (by simp) (by kernel_rfl);have e61:=(hev 61 (by decide)).trans f61;have e62:=(hev 62 (by decide)).trans f62;refine P0a rfl _ _ 5 _ rfl underlying94 ([.slice Am 16 cm,.slice A1 2 c1,.slice A2 2 c2,.slice Af 8 cf,.slice At lt ct]:List Value) (by simp only[List.map_toArray,List.map_cons,List.map_nil,e54,e59,e60,e61,e62];kernel_rfl) ?_;intro g2 w2 _ _ hY hL;exact hK _ _ (hst.o _ _ s hL.o) hL.o ⟨_,[(Am,16,cm,m4),(A1,2,c1,[a.lev,a.dur]),(A2,2,c2,(List.replicate 2 0)),(Af,8,cf,f8),(At,lt,ct,tx)],rfl,W3a.of_blk _ hY.o (List.forall_mem_cons.2 ⟨s.2.2.1.over hL.o,List.forall_mem_cons.2 ⟨h1.over hL.o,List.forall_mem_cons.2 ⟨h2.over hL.o,List.forall_mem_cons.2 ⟨s.2.2.2.1.over hL.o,List.forall_mem_cons.2 ⟨s.2.2.2.2.over hL.o,λ_ h=>absurd h List.not_mem_nil⟩⟩⟩⟩⟩),by show 0+16+2+2+8+lt<=_;omega,by simp[v5a,T3a,List.append_assoc]⟩
    ·obtain⟨g5,l5,e5,hp5,hn5,hc5⟩:=hd (9,63) (by simp) (by kernel_rfl);simp only[Act.eval,Array.getD_eq_getD_getElem?] at e5;go_simp;refine(CC.o _ g5 5 _ _ _ _ hp5 (by omega) (by omega)).mono ?_;rintro e w2 ⟨v,rfl,hY,hL⟩;exact hK _ _ (hst.o _ _ s hL) hL (by rw[<-hc5];exact hY.mono s.2.1.size)
    ·have h15:(h4b 5 w.heap.size (m4++([a.lev,a.dur]++((List.replicate 2 0)++(f8++tx))))) (b.eval (.tmp 64)) w1:=hd (10,64) (by simp) (by kernel_rfl);simp only[Act.eval,Array.getD_eq_getD_getElem?] at h15;go_simp;exact hK _ _ s (Below.refl _ _) h15
    ·go_simp;exact hK _ _ s (Below.refl _ _) rfl
   ·intro vs w9 s hv;have OUT0:b1a .u8 5 w9 w.heap.size (vs 4) (m4++([a.lev,a.dur]++((List.replicate 2 0)++(f8++tx)))):=hv (11,4) (by simp);obtain⟨v,hv11⟩:=xX (vs 4);rw[<-hv11] at OUT0;have OUT:=hI OUT0;have hv12:vs 5=.int .i64 0:=hv (12,5) (by simp);have S9:=hI s.1;have b9:=hI s.2.1;have HMM_9:=hI s.2.2.1;have HF_9:=hI s.2.2.2.1;have HTX_9:=hI s.2.2.2.2;subst hfr1;simp only[List.foldl_cons,List.foldl_nil,<-hv11,hv12];obtain⟨y59,hy0⟩:=xX (vs 59);rw[<-hy0];clear hy0;obtain⟨y60,hy0⟩:=xX (vs 60);rw[<-hy0];clear hy0;obtain⟨y63,hy0⟩:=xX (vs 63);rw[<-hy0];clear hy0;obtain⟨y64,hy0⟩:=xX (vs 64);rw[<-hy0];clear hy0;clear hv s vs hst S0 hv11 OUT0 hv12 f54 f56 f58 f61 f62;go_simp;have HO6:=hI (OUT.o);go_wp2;go_ret2;refine HQ.o _ _ _ rfl ?_ b9.o;have h9:=HO6.o;simpa[v5a,T3a,List.append_assoc] using h9
 ·subst h6;rw[if_neg (by decide)] at HOK;have HQ:=hI (HQ0.o HOK.o);have hb0:y4a 6 a=le a.file 8:=rfl;rw[hb0] at HQ;obtain⟨f8,hf8⟩:=xX (le a.file 8);rw[<-hf8] at CF8 HQ;clear hf8 HOK HQ0 hb0;go_enter func64,ntmps64;go_wp2_with(first|(refine sN 3 ?_;refine d0a rfl _ (.tmp 1) rfl cs rfl ?_;intro g w1 hg1 hg2 K1 L1)|(refine sN 11 ?_;refine e0a rfl _ (.tmp 3) rfl g rfl _ cs K1 69 _ underlying34 rfl p0a HL ?_)|fail)
  refine(CN.o w1 L1.o).mono ?_;rintro e w2 ⟨rfl,L2⟩;have K2:=hI (K1.o.over L2);have M2':=hI (step L1.o L2);obtain⟨c61,c62⟩:=FL.o w2 g K2.o;clear L2 K1 L1 CN;obtain⟨c51,c52,c53,c54,c55,c56,c57,c58,c59,c60⟩:=FC.o w2 g K2.o;go_wp2_with(first|(refine sN 26 ?_;refine o1a rfl _ _ 1 _ rfl underlying178 ([.int .u64 a.file]:List Value) (by kernel_rfl) ?_;intro g3 w3 hg5 hg6 Y3 L3)|fail)
  refine(CF8.o w3 g3 Y3.o).mono ?_;rintro e w4 ⟨Af,cf,rfl,⟨hOf,hHf⟩,L4⟩;have HF:=hI hHf;have K4:=hI ((K2.o.over L3.o).over L4);have M4:=hI (step (step M2'.o L3.o) L4);have OF:=hI (b1a.mono hOf (Nat.le_trans M2'.o.size L3.o.size));have HXD:=hI (HX.o.over M4.o);have hs4:=M4.o.size;clear hHf hOf L4 L3 Y3 K2 M2' c51 c52 c53 c54 c55 c56 c57 c58 c59 c60 c61 c62 CF8;go_wp2;go_ret2;exact HQ.o _ _ _ rfl OF.o M4.o
 ·subst h7;rw[if_neg (by decide)] at HOK;have HQ:=hI (HQ0.o HOK.o);have hb0:y4a 7 a=le a.file 8:=rfl;rw[hb0] at HQ;obtain⟨f8,hf8⟩:=xX (le a.file 8);rw[<-hf8] at CF8 HQ;clear hf8 HOK HQ0 hb0;go_enter func64,ntmps64;go_wp2_with(first|(refine sN 3 ?_;refine d0a rfl _ (.tmp 1) rfl cs rfl ?_;intro g w1 hg1 hg2 K1 L1)|(refine sN 11 ?_;refine e0a rfl _ (.tmp 3) rfl g rfl _ cs K1 69 _ underlying34 rfl p0a HL ?_)|fail)
  refine(CN.o w1 L1.o).mono ?_;rintro e w2 ⟨rfl,L2⟩;have K2:=hI (K1.o.over L2);have M2':=hI (step L1.o L2);obtain⟨c61,c62⟩:=FL.o w2 g K2.o;clear L2 K1 L1 CN;obtain⟨c51,c52,c53,c54,c55,c56,c57,c58,c59,c60⟩:=FC.o w2 g K2.o;go_wp2_with(first|(refine sN 26 ?_;refine o1a rfl _ _ 1 _ rfl underlying178 ([.int .u64 a.file]:List Value) (by kernel_rfl) ?_;intro g3 w3 hg5 hg6 Y3 L3)|fail)
  refine(CF8.o w3 g3 Y3.o).mono ?_;rintro e w4 ⟨Af,cf,rfl,⟨hOf,hHf⟩,L4⟩;have HF:=hI hHf;have K4:=hI ((K2.o.over L3.o).over L4);have M4:=hI (step (step M2'.o L3.o) L4);have OF:=hI (b1a.mono hOf (Nat.le_trans M2'.o.size L3.o.size));have HXD:=hI (HX.o.over M4.o);have hs4:=M4.o.size;clear hHf hOf L4 L3 Y3 K2 M2' c51 c52 c53 c54 c55 c56 c57 c58 c59 c60 c61 c62 CF8;go_wp2;go_ret2;exact HQ.o _ _ _ rfl OF.o M4.o
 ·subst h8;rw[if_neg (by decide)] at HOK;have HQ:=hI (HQ0.o HOK.o);have hb0:y4a 8 a=le a.file 8++(le a.at_ 8++le a.n 4):=rfl;rw[hb0] at HQ;have CA8:Hid (∀(w:World) (gl:Nat),Blk w gl 25 [.int .u64 a.at_]->Calls prog 90 #[.int .i64 8,.slice (some ⟨gl,0,none⟩) 1 1] w λe w'=>∃A' c',e=.returned (.slice A' 8 c')/\(b1a .u8 5 w' w.heap.size (.slice A' 8 c') (le a.at_ 8)/\Holds w' w'.heap.size A' 8 c' (le a.at_ 8))/\BW w w'):=λw gl hB=>by
   have h:=H4a w gl 1 8 ([a.at_]:List Int) hB rfl (by decide) (by decide) (λz hz=>by rw[show(256:Int)^8=18446744073709551616 from by decide];simp only[List.mem_cons,List.not_mem_nil,or_false] at hz;rw[hz];omega)
   have e1:D2a 8 ([a.at_]:List Int)=le a.at_ 8:=by simp[D2a]
   rw[e1] at h;have e2:(le a.at_ 8).length=8:=by simp[g0a]
   rw[e2] at h;exact h
  have CN4:Hid (∀(w:World) (gl:Nat),Blk w gl 25 [.int .u64 a.n]->Calls prog 90 #[.int .i64 4,.slice (some ⟨gl,0,none⟩) 1 1] w λe w'=>∃A' c',e=.returned (.slice A' 4 c')/\(b1a .u8 5 w' w.heap.size (.slice A' 4 c') (le a.n 4)/\Holds w' w'.heap.size A' 4 c' (le a.n 4))/\BW w w'):=λw gl hB=>by
   have h:=H4a w gl 1 4 ([a.n]:List Int) hB rfl (by decide) (by decide) (λz hz=>by rw[show(256:Int)^4=4294967296 from by decide];simp only[List.mem_cons,List.not_mem_nil,or_false] at hz;rw[hz];omega)
   have e1:D2a 4 ([a.n]:List Int)=le a.n 4:=by simp[D2a]
   rw[e1] at h;have e2:(le a.n 4).length=4:=by simp[g0a]
   rw[e2] at h;exact h
  obtain⟨f8,hf8⟩:=xX (le a.file 8);rw[<-hf8] at CF8 HQ;obtain⟨a8,ha8⟩:=xX (le a.at_ 8);rw[<-ha8] at CA8 HQ;obtain⟨n4,hn4⟩:=xX (le a.n 4);rw[<-hn4] at CN4 HQ;clear HOK HQ0 hb0 hf8 ha8 hn4;go_enter func64,ntmps64;go_wp2_with(first|(refine sN 3 ?_;refine d0a rfl _ (.tmp 1) rfl cs rfl ?_;intro g w1 hg1 hg2 K1 L1)|(refine sN 11 ?_;refine e0a rfl _ (.tmp 3) rfl g rfl _ cs K1 69 _ underlying34 rfl p0a HL ?_)|fail)
  refine(CN.o w1 L1.o).mono ?_;rintro e w2 ⟨rfl,L2⟩;have K2:=hI (K1.o.over L2);have M2':=hI (step L1.o L2);obtain⟨c61,c62⟩:=FL.o w2 g K2.o;clear L2 K1 L1 CN;obtain⟨c51,c52,c53,c54,c55,c56,c57,c58,c59,c60⟩:=FC.o w2 g K2.o;go_wp2_with(first|(refine sN 26 ?_;refine o1a rfl _ _ 1 _ rfl underlying178 ([.int .u64 a.file]:List Value) (by kernel_rfl) ?_;intro g3 w3 hg5 hg6 Y3 L3)|fail)
  refine(CF8.o w3 g3 Y3.o).mono ?_;rintro e w4 ⟨Af,cf,rfl,⟨hOf,hHf⟩,L4⟩;have HF:=hI hHf;have K4:=hI ((K2.o.over L3.o).over L4);have M4:=hI (step (step M2'.o L3.o) L4);have OF:=hI (b1a.mono hOf (Nat.le_trans M2'.o.size L3.o.size));have HXD:=hI (HX.o.over M4.o);have hs4:=M4.o.size;clear hHf hOf L4 L3 Y3 K2 M2' c51 c52 c53 c54 c55 c56 c57 c58 c59 c60 c61 c62 CF8;go_upto_region 14 with fail
  have hst:Hid (∀w1 w2:World,(Blk w1 g 34 cs/\BW w w1/\Holds w1 w1.heap.size Af 8 cf f8)->BW w1 w2->(Blk w2 g 34 cs/\BW w w2/\Holds w2 w2.heap.size Af 8 cf f8)):=λw1 w2 s hb=>⟨s.1.over hb,step s.2.1 hb,s.2.2.over hb⟩
  refine wp_region_held (S:=λw'=>Blk w' g 34 cs/\BW w w'/\Holds w' w'.heap.size Af 8 cf f8) (by kernel_rfl) ?_;change wpAnyH _ _ _ _ _ _ _ _ w4.drew
  have S0:Hid (Blk w4.drew g 34 cs/\BW w w4.drew/\Holds w4.drew w4.drew.heap.size Af 8 cf f8):=⟨K4.o.drew,M4.o.drew,HF.o.drew⟩;refine tK 0 _ rfl (s0a (by kernel_rfl) (.tmp 6) rfl (.slice Af 8 cf) (by kernel_rfl)) S0.o ?_;refine tK 1 _ rfl (w0a (by kernel_rfl) _ (.tmp 3) 13 rfl (.pointer (some ⟨g,0,none⟩)) (.pointer (some ⟨g,59,none⟩)) (by kernel_rfl) (a5a g)) S0.o ?_;refine tK 2 _ rfl (k0a (by kernel_rfl) _ (.tmp 68) rfl g 59 (by kernel_rfl) (.int .u64 a.at_) (λw h=>(FC.o w g h.1).2.2.2.2.2.2.2.2.1) _ underlying25 rfl) S0.o ?_;refine tK 5 _ rfl (w0a (by kernel_rfl) _ (.tmp 3) 14 rfl (.pointer (some ⟨g,0,none⟩)) (.pointer (some ⟨g,60,none⟩)) (by kernel_rfl) (k7a g)) S0.o ?_;refine tK 6 _ rfl (k0a (by kernel_rfl) _ (.tmp 72) rfl g 60 (by kernel_rfl) (.int .u32 a.n) (λw h=>(FC.o w g h.1).2.2.2.2.2.2.2.2.2) _ underlying23 rfl) S0.o ?_;refine pK 7 ((.int .u64 a.n)) rfl S0.o ?_;refine H2a λfr1 hfr1=>?_
  have f67:fr1.eval (.tmp 67)=.slice Af 8 cf:=by rw[hfr1];kernel_rfl
  have f69:fr1.eval (.tmp 69)=.int .u64 a.at_:=by rw[hfr1];kernel_rfl
  have f74:fr1.eval (.tmp 74)=.int .u64 a.n:=by rw[hfr1];kernel_rfl
  refine h4a [(3,70),(4,71),(8,75),(9,76),(10,77),(11,78),(12,4),(13,5)] (λi=>match i with
   | 3=>c0c 1 25 [.int .u64 a.at_]
   | 4=>rowP 8 a8
   | 8=>c0c 1 25 [.int .u64 a.n]
   | 9=>rowP 4 n4
   | 10=>T0b 3 (f8++(a8++n4))
   | 11=>h4b 5 w.heap.size (f8++(a8++n4))
   | 12=>h4b 5 w.heap.size (f8++(a8++n4))
   | 13=>isP (.int .i64 0)
   | _=>λ_ _=>True) fr1 (by rw[hfr1];kernel_rfl) (Nat.le_of_ble_eq_true (by kernel_rfl)) S0.o ?_ ?_ ?_
  ·intro i v w1 w2 hb h;split at h;all_goals first | exact J5a hb h | exact K5a hb h | exact i4a hb h | exact M5a hb h | exact h
  ·refine List.forall_mem_cons.2 ⟨⟨_,rfl,λb w1 s hev hd K hK=>?_⟩,List.forall_mem_cons.2 ⟨⟨_,rfl,λb w1 s hev hd K hK=>?_⟩,List.forall_mem_cons.2 ⟨⟨_,rfl,λb w1 s hev hd K hK=>?_⟩,List.forall_mem_cons.2 ⟨⟨_,rfl,λb w1 s hev hd K hK=>?_⟩,List.forall_mem_cons.2 ⟨⟨_,rfl,λb w1 s hev hd K hK=>?_⟩,List.forall_mem_cons.2 ⟨⟨_,rfl,λb w1 s hev hd K hK=>?_⟩,List.forall_mem_cons.2 ⟨⟨_,rfl,λb w1 s hev hd K hK=>?_⟩,List.forall_mem_cons.2 ⟨⟨_,rfl,λb w1 s hev hd K hK=>?_⟩,λ_ h=>absurd h List.not_mem_nil⟩⟩⟩⟩⟩⟩⟩⟩
   ·have e69:=(hev 69 (by decide)).trans f69;refine P0a rfl _ _ 1 _ rfl underlying178 ([.int .u64 a.at_]:List Value) (by simp only[List.map_toArray,List.map_cons,List.map_nil,e69];kernel_rfl) ?_;intro g2 w2 _ _ hY hL;exact hK _ _ (hst.o _ _ s hL.o) hL.o ⟨_,rfl,hY.o⟩
   ·obtain⟨g4,e4,hB⟩:=hd (3,70) (by simp) (by kernel_rfl);simp only[Act.eval,Array.getD_eq_getD_getElem?] at e4;go_simp;refine(CA8.o _ _ hB).mono ?_;rintro e w2 ⟨A,c,rfl,⟨_,hY⟩,hL⟩;exact hK _ _ (hst.o _ _ s hL) hL ⟨_,_,rfl,hY⟩
   ·have e74:=(hev 74 (by decide)).trans f74;refine P0a rfl _ _ 1 _ rfl underlying178 ([.int .u64 a.n]:List Value) (by simp only[List.map_toArray,List.map_cons,List.map_nil,e74];kernel_rfl) ?_;intro g2 w2 _ _ hY hL;exact hK _ _ (hst.o _ _ s hL.o) hL.o ⟨_,rfl,hY.o⟩
   ·obtain⟨g4,e4,hB⟩:=hd (8,75) (by simp) (by kernel_rfl);simp only[Act.eval,Array.getD_eq_getD_getElem?] at e4;go_simp;refine(CN4.o _ _ hB).mono ?_;rintro e w2 ⟨A,c,rfl,⟨_,hY⟩,hL⟩;exact hK _ _ (hst.o _ _ s hL) hL ⟨_,_,rfl,hY⟩
   ·have e67:=(hev 67 (by decide)).trans f67;obtain⟨A1,c1,e71,h1⟩:=hd (4,71) (by simp) (by kernel_rfl);obtain⟨A2,c2,e76,h2⟩:=hd (9,76) (by simp) (by kernel_rfl);refine P0a rfl _ _ 3 _ rfl underlying94 ([.slice Af 8 cf,.slice A1 8 c1,.slice A2 4 c2]:List Value) (by simp only[List.map_toArray,List.map_cons,List.map_nil,e67,e71,e76];kernel_rfl) ?_;intro g2 w2 _ _ hY hL;exact hK _ _ (hst.o _ _ s hL.o) hL.o ⟨_,[(Af,8,cf,f8),(A1,8,c1,a8),(A2,4,c2,n4)],rfl,W3a.of_blk _ hY.o (List.forall_mem_cons.2 ⟨s.2.2.over hL.o,List.forall_mem_cons.2 ⟨h1.over hL.o,List.forall_mem_cons.2 ⟨h2.over hL.o,λ_ h=>absurd h List.not_mem_nil⟩⟩⟩),by show 0+8+8+4<=_;omega,by simp[v5a,T3a,List.append_assoc]⟩
   ·obtain⟨g5,l5,e5,hp5,hn5,hc5⟩:=hd (10,77) (by simp) (by kernel_rfl);simp only[Act.eval,Array.getD_eq_getD_getElem?] at e5;go_simp;refine(CC.o _ g5 3 _ _ _ _ hp5 (by omega) (by omega)).mono ?_;rintro e w2 ⟨v,rfl,hY,hL⟩;exact hK _ _ (hst.o _ _ s hL) hL (by rw[<-hc5];exact hY.mono s.2.1.size)
   ·have h15:(h4b 5 w.heap.size (f8++(a8++n4))) (b.eval (.tmp 78)) w1:=hd (11,78) (by simp) (by kernel_rfl);simp only[Act.eval,Array.getD_eq_getD_getElem?] at h15;go_simp;exact hK _ _ s (Below.refl _ _) h15
   ·go_simp;exact hK _ _ s (Below.refl _ _) rfl
  ·intro vs w9 s hv;have OUT0:b1a .u8 5 w9 w.heap.size (vs 4) (f8++(a8++n4)):=hv (12,4) (by simp);obtain⟨v,hv12⟩:=xX (vs 4);rw[<-hv12] at OUT0;have OUT:=hI OUT0;have hv13:vs 5=.int .i64 0:=hv (13,5) (by simp);have S9:=hI s.1;have b9:=hI s.2.1;have HF_9:=hI s.2.2;subst hfr1;simp only[List.foldl_cons,List.foldl_nil,<-hv12,hv13];obtain⟨y70,hy0⟩:=xX (vs 70);rw[<-hy0];clear hy0;obtain⟨y71,hy0⟩:=xX (vs 71);rw[<-hy0];clear hy0;obtain⟨y75,hy0⟩:=xX (vs 75);rw[<-hy0];clear hy0;obtain⟨y76,hy0⟩:=xX (vs 76);rw[<-hy0];clear hy0;obtain⟨y77,hy0⟩:=xX (vs 77);rw[<-hy0];clear hy0;obtain⟨y78,hy0⟩:=xX (vs 78);rw[<-hy0];clear hy0;clear hv s vs hst S0 hv12 OUT0 hv13 f67 f69 f74;go_simp;have HO6:=hI (OUT.o);go_wp2;go_ret2;refine HQ.o _ _ _ rfl ?_ b9.o;have h9:=HO6.o;simpa[v5a,T3a,List.append_assoc] using h9
 ·subst h9;rw[if_neg (by decide)] at HOK;have HQ:=hI (HQ0.o HOK.o);have hb0:y4a 9 a=le a.file 8++(le a.at_ 8++(le (X2:Int) 4++a.data)):=by unfold y4a;rw[if_neg (by decide),if_neg (by decide),if_pos rfl,HX.o.len]
  rw[hb0] at HQ;have CA8:Hid (∀(w:World) (gl:Nat),Blk w gl 25 [.int .u64 a.at_]->Calls prog 90 #[.int .i64 8,.slice (some ⟨gl,0,none⟩) 1 1] w λe w'=>∃A' c',e=.returned (.slice A' 8 c')/\(b1a .u8 5 w' w.heap.size (.slice A' 8 c') (le a.at_ 8)/\Holds w' w'.heap.size A' 8 c' (le a.at_ 8))/\BW w w'):=λw gl hB=>by
   have h:=H4a w gl 1 8 ([a.at_]:List Int) hB rfl (by decide) (by decide) (λz hz=>by rw[show(256:Int)^8=18446744073709551616 from by decide];simp only[List.mem_cons,List.not_mem_nil,or_false] at hz;rw[hz];omega)
   have e1:D2a 8 ([a.at_]:List Int)=le a.at_ 8:=by simp[D2a]
   rw[e1] at h;have e2:(le a.at_ 8).length=8:=by simp[g0a]
   rw[e2] at h;exact h
  have CN4:Hid (∀(w:World) (gl:Nat),Blk w gl 25 [.int .u64 (X2:Int)]->Calls prog 90 #[.int .i64 4,.slice (some ⟨gl,0,none⟩) 1 1] w λe w'=>∃A' c',e=.returned (.slice A' 4 c')/\(b1a .u8 5 w' w.heap.size (.slice A' 4 c') (le (X2:Int) 4)/\Holds w' w'.heap.size A' 4 c' (le (X2:Int) 4))/\BW w w'):=λw gl hB=>by
   have h:=H4a w gl 1 4 ([(X2:Int)]:List Int) hB rfl (by decide) (by decide) (λz hz=>by rw[show(256:Int)^4=4294967296 from by decide];simp only[List.mem_cons,List.not_mem_nil,or_false] at hz;rw[hz];omega)
   have e1:D2a 4 ([(X2:Int)]:List Int)=le (X2:Int) 4:=by simp[D2a]
   rw[e1] at h;have e2:(le (X2:Int) 4).length=4:=by simp[g0a]
   rw[e2] at h;exact h
  obtain⟨f8,hf8⟩:=xX (le a.file 8);rw[<-hf8] at CF8 HQ;obtain⟨a8,ha8⟩:=xX (le a.at_ 8);rw[<-ha8] at CA8 HQ;obtain⟨n4,hn4⟩:=xX (le (X2:Int) 4);rw[<-hn4] at CN4 HQ;clear HOK HQ0 hb0 hf8 ha8 hn4;go_enter func64,ntmps64;go_wp2_with(first|(refine sN 3 ?_;refine d0a rfl _ (.tmp 1) rfl cs rfl ?_;intro g w1 hg1 hg2 K1 L1)|(refine sN 11 ?_;refine e0a rfl _ (.tmp 3) rfl g rfl _ cs K1 69 _ underlying34 rfl p0a HL ?_)|fail)
  refine(CN.o w1 L1.o).mono ?_;rintro e w2 ⟨rfl,L2⟩;have K2:=hI (K1.o.over L2);have M2':=hI (step L1.o L2);obtain⟨c61,c62⟩:=FL.o w2 g K2.o;clear L2 K1 L1 CN;obtain⟨c51,c52,c53,c54,c55,c56,c57,c58,c59,c60⟩:=FC.o w2 g K2.o;go_wp2_with(first|(refine sN 26 ?_;refine o1a rfl _ _ 1 _ rfl underlying178 ([.int .u64 a.file]:List Value) (by kernel_rfl) ?_;intro g3 w3 hg5 hg6 Y3 L3)|fail)
  refine(CF8.o w3 g3 Y3.o).mono ?_;rintro e w4 ⟨Af,cf,rfl,⟨hOf,hHf⟩,L4⟩;have HF:=hI hHf;have K4:=hI ((K2.o.over L3.o).over L4);have M4:=hI (step (step M2'.o L3.o) L4);have OF:=hI (b1a.mono hOf (Nat.le_trans M2'.o.size L3.o.size));have HXD:=hI (HX.o.over M4.o);have hs4:=M4.o.size;clear hHf hOf L4 L3 Y3 K2 M2' c51 c52 c53 c54 c55 c56 c57 c58 c59 c60 c61 c62 CF8;go_upto_region 16 with fail
  have hst:Hid (∀w1 w2:World,(Blk w1 g 34 cs/\BW w w1/\Holds w1 w1.heap.size Af 8 cf f8/\Holds w1 w1.heap.size X1 X2 X3 a.data)->BW w1 w2->(Blk w2 g 34 cs/\BW w w2/\Holds w2 w2.heap.size Af 8 cf f8/\Holds w2 w2.heap.size X1 X2 X3 a.data)):=λw1 w2 s hb=>⟨s.1.over hb,step s.2.1 hb,s.2.2.1.over hb,s.2.2.2.over hb⟩
  refine wp_region_held (S:=λw'=>Blk w' g 34 cs/\BW w w'/\Holds w' w'.heap.size Af 8 cf f8/\Holds w' w'.heap.size X1 X2 X3 a.data) (by kernel_rfl) ?_;change wpAnyH _ _ _ _ _ _ _ _ w4.drew
  have S0:Hid (Blk w4.drew g 34 cs/\BW w w4.drew/\Holds w4.drew w4.drew.heap.size Af 8 cf f8/\Holds w4.drew w4.drew.heap.size X1 X2 X3 a.data):=⟨K4.o.drew,M4.o.drew,HF.o.drew,HXD.o.drew⟩;refine tK 0 _ rfl (s0a (by kernel_rfl) (.tmp 6) rfl (.slice Af 8 cf) (by kernel_rfl)) S0.o ?_;refine tK 1 _ rfl (w0a (by kernel_rfl) _ (.tmp 3) 13 rfl (.pointer (some ⟨g,0,none⟩)) (.pointer (some ⟨g,59,none⟩)) (by kernel_rfl) (a5a g)) S0.o ?_;refine tK 2 _ rfl (k0a (by kernel_rfl) _ (.tmp 82) rfl g 59 (by kernel_rfl) (.int .u64 a.at_) (λw h=>(FC.o w g h.1).2.2.2.2.2.2.2.2.1) _ underlying25 rfl) S0.o ?_;refine tK 5 _ rfl (w0a (by kernel_rfl) _ (.tmp 3) 15 rfl (.pointer (some ⟨g,0,none⟩)) (.pointer (some ⟨g,61,none⟩)) (by kernel_rfl) (b5a g)) S0.o ?_;refine tK 6 _ rfl (k0a (by kernel_rfl) _ (.tmp 86) rfl g 61 (by kernel_rfl) (.slice X1 X2 X3) (λw h=>(FL.o w g h.1).1) _ underlying31 rfl) S0.o ?_;refine pK 7 ((.int .i64 (X2:Int))) rfl S0.o ?_;refine pK 8 ((.int .u64 (X2:Int))) rfl S0.o ?_;refine tK 11 _ rfl (w0a (by kernel_rfl) _ (.tmp 3) 15 rfl (.pointer (some ⟨g,0,none⟩)) (.pointer (some ⟨g,61,none⟩)) (by kernel_rfl) (b5a g)) S0.o ?_;refine tK 12 _ rfl (k0a (by kernel_rfl) _ (.tmp 92) rfl g 61 (by kernel_rfl) (.slice X1 X2 X3) (λw h=>(FL.o w g h.1).1) _ underlying31 rfl) S0.o ?_;refine H2a λfr1 hfr1=>?_
  have f81:fr1.eval (.tmp 81)=.slice Af 8 cf:=by rw[hfr1];kernel_rfl
  have f83:fr1.eval (.tmp 83)=.int .u64 a.at_:=by rw[hfr1];kernel_rfl
  have f89:fr1.eval (.tmp 89)=.int .u64 (X2:Int):=by rw[hfr1];kernel_rfl
  have f93:fr1.eval (.tmp 93)=.slice X1 X2 X3:=by rw[hfr1];kernel_rfl
  refine h4a [(3,84),(4,85),(9,90),(10,91),(13,94),(14,95),(15,4),(16,5)] (λi=>match i with
   | 3=>c0c 1 25 [.int .u64 a.at_]
   | 4=>rowP 8 a8
   | 9=>c0c 1 25 [.int .u64 (X2:Int)]
   | 10=>rowP 4 n4
   | 13=>T0b 4 (f8++(a8++(n4++a.data)))
   | 14=>h4b 5 w.heap.size (f8++(a8++(n4++a.data)))
   | 15=>h4b 5 w.heap.size (f8++(a8++(n4++a.data)))
   | 16=>isP (.int .i64 0)
   | _=>λ_ _=>True) fr1 (by rw[hfr1];kernel_rfl) (Nat.le_of_ble_eq_true (by kernel_rfl)) S0.o ?_ ?_ ?_
  ·intro i v w1 w2 hb h;split at h;all_goals first | exact J5a hb h | exact K5a hb h | exact i4a hb h | exact M5a hb h | exact h
  ·refine List.forall_mem_cons.2 ⟨⟨_,rfl,λb w1 s hev hd K hK=>?_⟩,List.forall_mem_cons.2 ⟨⟨_,rfl,λb w1 s hev hd K hK=>?_⟩,List.forall_mem_cons.2 ⟨⟨_,rfl,λb w1 s hev hd K hK=>?_⟩,List.forall_mem_cons.2 ⟨⟨_,rfl,λb w1 s hev hd K hK=>?_⟩,List.forall_mem_cons.2 ⟨⟨_,rfl,λb w1 s hev hd K hK=>?_⟩,List.forall_mem_cons.2 ⟨⟨_,rfl,λb w1 s hev hd K hK=>?_⟩,List.forall_mem_cons.2 ⟨⟨_,rfl,λb w1 s hev hd K hK=>?_⟩,List.forall_mem_cons.2 ⟨⟨_,rfl,λb w1 s hev hd K hK=>?_⟩,λ_ h=>absurd h List.not_mem_nil⟩⟩⟩⟩⟩⟩⟩⟩
   ·have e83:=(hev 83 (by decide)).trans f83;refine P0a rfl _ _ 1 _ rfl underlying178 ([.int .u64 a.at_]:List Value) (by simp only[List.map_toArray,List.map_cons,List.map_nil,e83];kernel_rfl) ?_;intro g2 w2 _ _ hY hL;exact hK _ _ (hst.o _ _ s hL.o) hL.o ⟨_,rfl,hY.o⟩
   ·obtain⟨g4,e4,hB⟩:=hd (3,84) (by simp) (by kernel_rfl);simp only[Act.eval,Array.getD_eq_getD_getElem?] at e4;go_simp;refine(CA8.o _ _ hB).mono ?_;rintro e w2 ⟨A,c,rfl,⟨_,hY⟩,hL⟩;exact hK _ _ (hst.o _ _ s hL) hL ⟨_,_,rfl,hY⟩
   ·have e89:=(hev 89 (by decide)).trans f89;refine P0a rfl _ _ 1 _ rfl underlying178 ([.int .u64 (X2:Int)]:List Value) (by simp only[List.map_toArray,List.map_cons,List.map_nil,e89];kernel_rfl) ?_;intro g2 w2 _ _ hY hL;exact hK _ _ (hst.o _ _ s hL.o) hL.o ⟨_,rfl,hY.o⟩
   ·obtain⟨g4,e4,hB⟩:=hd (9,90) (by simp) (by kernel_rfl);simp only[Act.eval,Array.getD_eq_getD_getElem?] at e4;go_simp;refine(CN4.o _ _ hB).mono ?_;rintro e w2 ⟨A,c,rfl,⟨_,hY⟩,hL⟩;exact hK _ _ (hst.o _ _ s hL) hL ⟨_,_,rfl,hY⟩
   ·have e81:=(hev 81 (by decide)).trans f81;obtain⟨A1,c1,e85,h1⟩:=hd (4,85) (by simp) (by kernel_rfl);obtain⟨A2,c2,e91,h2⟩:=hd (10,91) (by simp) (by kernel_rfl);have e93:=(hev 93 (by decide)).trans f93;refine P0a rfl _ _ 4 _ rfl underlying94 ([.slice Af 8 cf,.slice A1 8 c1,.slice A2 4 c2,.slice X1 X2 X3]:List Value) (by simp only[List.map_toArray,List.map_cons,List.map_nil,e81,e85,e91,e93];kernel_rfl) ?_;intro g2 w2 _ _ hY hL;exact hK _ _ (hst.o _ _ s hL.o) hL.o ⟨_,[(Af,8,cf,f8),(A1,8,c1,a8),(A2,4,c2,n4),(X1,X2,X3,a.data)],rfl,W3a.of_blk _ hY.o (List.forall_mem_cons.2 ⟨s.2.2.1.over hL.o,List.forall_mem_cons.2 ⟨h1.over hL.o,List.forall_mem_cons.2 ⟨h2.over hL.o,List.forall_mem_cons.2 ⟨s.2.2.2.over hL.o,λ_ h=>absurd h List.not_mem_nil⟩⟩⟩⟩),by show 0+8+8+4+X2<=_;omega,by simp[v5a,T3a,List.append_assoc]⟩
   ·obtain⟨g5,l5,e5,hp5,hn5,hc5⟩:=hd (13,94) (by simp) (by kernel_rfl);simp only[Act.eval,Array.getD_eq_getD_getElem?] at e5;go_simp;refine(CC.o _ g5 4 _ _ _ _ hp5 (by omega) (by omega)).mono ?_;rintro e w2 ⟨v,rfl,hY,hL⟩;exact hK _ _ (hst.o _ _ s hL) hL (by rw[<-hc5];exact hY.mono s.2.1.size)
   ·have h15:(h4b 5 w.heap.size (f8++(a8++(n4++a.data)))) (b.eval (.tmp 95)) w1:=hd (14,95) (by simp) (by kernel_rfl);simp only[Act.eval,Array.getD_eq_getD_getElem?] at h15;go_simp;exact hK _ _ s (Below.refl _ _) h15
   ·go_simp;exact hK _ _ s (Below.refl _ _) rfl
  ·intro vs w9 s hv;have OUT0:b1a .u8 5 w9 w.heap.size (vs 4) (f8++(a8++(n4++a.data))):=hv (15,4) (by simp);obtain⟨v,hv15⟩:=xX (vs 4);rw[<-hv15] at OUT0;have OUT:=hI OUT0;have hv16:vs 5=.int .i64 0:=hv (16,5) (by simp);have S9:=hI s.1;have b9:=hI s.2.1;have HF_9:=hI s.2.2.1;have HD_9:=hI s.2.2.2;subst hfr1;simp only[List.foldl_cons,List.foldl_nil,<-hv15,hv16];obtain⟨y84,hy0⟩:=xX (vs 84);rw[<-hy0];clear hy0;obtain⟨y85,hy0⟩:=xX (vs 85);rw[<-hy0];clear hy0;obtain⟨y90,hy0⟩:=xX (vs 90);rw[<-hy0];clear hy0;obtain⟨y91,hy0⟩:=xX (vs 91);rw[<-hy0];clear hy0;obtain⟨y94,hy0⟩:=xX (vs 94);rw[<-hy0];clear hy0;obtain⟨y95,hy0⟩:=xX (vs 95);rw[<-hy0];clear hy0;clear hv s vs hst S0 hv15 OUT0 hv16 f81 f83 f89 f93;go_simp;have HO6:=hI (OUT.o);go_wp2;go_ret2;refine HQ.o _ _ _ rfl ?_ b9.o;have h9:=HO6.o;simpa[v5a,T3a,List.append_assoc] using h9
 ·subst h10;rw[if_neg (by decide)] at HOK;have HQ:=hI (HQ0.o HOK.o);have hb0:y4a 10 a=le a.file 8++(le a.locks.length 2++(List.replicate 2 0++R1a a.locks)):=rfl;rw[hb0] at HQ;have CK:Hid (∀w',BW w w'->Calls prog 91 #[.slice M1 M2 M3] w' λe w2=>(∃v,e=.returned v/\b1a .u8 5 w2 w'.heap.size v (le a.locks.length 2++(List.replicate 2 0++R1a a.locks)))/\BW w' w2):=λw' hb=>(y6b w' M1 M2 M3 a.locks (HM.o.over hb) hm3 ka.locks).mono λe w2 ⟨v,h1,h2,h3⟩=>⟨⟨v,h1,h2⟩,h3⟩
  have HLT:Hid ((le a.locks.length 2++(List.replicate 2 0++R1a a.locks)).length<=1000/\Bytes (le a.locks.length 2++(List.replicate 2 0++R1a a.locks))):=by refine⟨?_,(F0a _ _).append ((Bytes.zeros 2).append (X7a _))⟩;rw[List.length_append,List.length_append,u6a,g0a,List.length_replicate,HM.o.len];omega
  obtain⟨f8,hf8⟩:=xX (le a.file 8);rw[<-hf8] at CF8 HQ;obtain⟨tx,htx⟩:=xX (le (a.locks.length:Int) 2++(List.replicate 2 0++R1a a.locks));rw[<-htx] at CK HQ HLT;obtain⟨hlt,hlb⟩:=HLT.o;obtain⟨lt,hltx⟩:=xX tx.length;have HLTX:=hI hltx;rw[<-hltx] at hlt;clear hf8 htx HOK HQ0 hb0 hltx;go_enter func64,ntmps64;go_wp2_with(first|(refine sN 3 ?_;refine d0a rfl _ (.tmp 1) rfl cs rfl ?_;intro g w1 hg1 hg2 K1 L1)|(refine sN 11 ?_;refine e0a rfl _ (.tmp 3) rfl g rfl _ cs K1 69 _ underlying34 rfl p0a HL ?_)|fail)
  refine(CN.o w1 L1.o).mono ?_;rintro e w2 ⟨rfl,L2⟩;have K2:=hI (K1.o.over L2);have M2':=hI (step L1.o L2);obtain⟨c61,c62⟩:=FL.o w2 g K2.o;clear L2 K1 L1 CN;obtain⟨c51,c52,c53,c54,c55,c56,c57,c58,c59,c60⟩:=FC.o w2 g K2.o;go_wp2_with(first|(refine sN 26 ?_;refine o1a rfl _ _ 1 _ rfl underlying178 ([.int .u64 a.file]:List Value) (by kernel_rfl) ?_;intro g3 w3 hg5 hg6 Y3 L3)|fail)
  refine(CF8.o w3 g3 Y3.o).mono ?_;rintro e w4 ⟨Af,cf,rfl,⟨hOf,hHf⟩,L4⟩;have HF:=hI hHf;have K4:=hI ((K2.o.over L3.o).over L4);have M4:=hI (step (step M2'.o L3.o) L4);have OF:=hI (b1a.mono hOf (Nat.le_trans M2'.o.size L3.o.size));have HXD:=hI (HX.o.over M4.o);have hs4:=M4.o.size;clear hHf hOf L4 L3 Y3 K2 M2' c51 c52 c53 c54 c55 c56 c57 c58 c59 c60 c61 c62 CF8;obtain⟨c61,c62⟩:=FL.o w4 g K4.o;go_wp2_with fail;refine(CK.o w4 M4.o).mono ?_;rintro e w5 ⟨⟨v,rfl,hv⟩,L5⟩;obtain⟨At,ct,rfl,hHt⟩:=b1a.holds8 hv hlb (by rw[<-HLTX.o];omega);rw[<-HLTX.o] at hHt⊢;have HTX:=hI hHt;have M5:=hI (step M4.o L5);have HF5:=hI (HF.o.over L5);have hs5:=M5.o.size;clear hv hHt L5 K4 M4 HF OF HXD;go_wp2_with(first|(refine sN 102 ?_;refine u2a rfl 2 _ rfl [(Af,8,cf,f8),(At,lt,ct,tx)] rfl (by kernel_rfl) (List.forall_mem_cons.2 ⟨HF5.o,List.forall_mem_cons.2 ⟨HTX.o,λ_ h=>by cases h⟩⟩) ?_;intro g6 w6 hP6 L6)|fail)
  refine(CC.o w6 g6 2 _ _ _ _ hP6.o (by omega) (by show 0+8+lt<=_;omega)).mono ?_;rintro e w7 ⟨v,rfl,ho,L7⟩;have HO6:=hI (b1a.mono ho (Nat.le_trans hs5 L6.o.size));have M7:=hI (step (step M5.o L6.o) L7);clear ho L7 L6 hP6;go_wp2;go_ret2;refine HQ.o _ _ _ rfl ?_ M7.o;have h9:=HO6.o;simpa[v5a,T3a,List.append_assoc] using h9
def Z9a(w:World)(c:Int)(a:O1a)(e:Ending)(w':World):Prop:=∃v,e=.returned (.tuple #[v,.int .i64 (V6a c a)])/\b1a .u8 5 w' w.heap.size v (O3b c a)/\BW w w'
theorem P7b(w:World)(c:Int)(cs:List Value)(a:O1a)(hc:0<=c/\c<=65535)(ka:a.ok)(ha:s1a w w.heap.size cs a) :
  Calls prog 66 #[.int .u16 c,.agg cs.toArray] w (Z9a w c a):=by
 have HL:=hI (ha.len ka);have HA:=hI ha;have CN:Hid (∀w',BW w w'->Calls prog 100 #[.int .u16 c,.agg cs.toArray] w' λe w2=>e=.returned (.bool (E3a c a))/\BW w' w2):=λw' hb=>s3b w' c cs a hc ka (HA.o.over hb)
 obtain⟨X1,X2,X3,M1,M2,M3,hcs,hX,hM⟩:=ha;have FL:Hid (∀(w:World) (g:Nat),Blk w g 39 cs->w.cell? ⟨g,15,none⟩=some (.slice X1 X2 X3)/\w.cell? ⟨g,12,none⟩=some (.int .u16 a.made)/\w.cell? ⟨g,14,none⟩=some (.int .u8 a.kind)):=λw g h=>by rw[hcs] at h;exact⟨h.at (D0a ka 5),h.at (D0a ka 2),h.at (D0a ka 4)⟩
 have hxl:a.data.length=X2:=hX.len;have hxr:=hX.room;have HE:Hid (∀er,V6a c a=er->er≠0->∀v e w',e=.returned (.tuple #[v,.int .i64 er])->v=.slice none 0 0->BW w w'->Z9a w c a e w'):=by intro er h1 h2 v e w' he hv hb;unfold Z9a O3b;rw[h1,if_neg h2];exact⟨_,he,by rw[hv];exact b1a.nil _ _ _ _,hb⟩
 by_cases hnf:E3a c a=true;rotate_left
 ·have hnb:E3a c a=false:=by simpa using hnf
  have HQ:=hI (HE.o 2 (by unfold V6a;rw[if_neg (λh=>hnf h.1)]) (by decide));rw[hnb] at CN;clear hnf hnb HE hX hM ka HA hcs hxl;go_enter func66,ntmps66;go_wp2_with(first|(refine sN 3 ?_;refine d0a rfl _ (.tmp 1) rfl cs rfl ?_;intro g w1 hg1 hg2 K1 L1)|(refine sN 9 ?_;refine e0a rfl _ (.tmp 3) rfl g rfl _ cs K1 20 _ underlying39 rfl t0a HL ?_)|fail)
  refine(CN.o w1 L1.o).mono ?_;rintro e w2 ⟨rfl,L2⟩;have K2:=hI (K1.o.over L2);have M2':=hI (step L1.o L2);obtain⟨c15,c12,c14⟩:=FL.o w2 g K2.o;clear L2 K1 L1 CN;go_wp2;go_ret2;exact HQ.o _ _ _ rfl rfl M2'.o
 rw[hnf] at CN;by_cases hmd:a.made<=2;rotate_left
 ·have HQ:=hI (HE.o 2 (by unfold V6a;rw[if_neg (λh=>hmd h.2.1)]) (by decide));have hb1:decide (2<a.made)=true:=by rw[decide_eq_true_iff];omega
  clear hnf HE hX hM ka HA hcs hxl;go_enter func66,ntmps66;go_wp2_with(first|(refine sN 3 ?_;refine d0a rfl _ (.tmp 1) rfl cs rfl ?_;intro g w1 hg1 hg2 K1 L1)|(refine sN 9 ?_;refine e0a rfl _ (.tmp 3) rfl g rfl _ cs K1 20 _ underlying39 rfl t0a HL ?_)|fail)
  refine(CN.o w1 L1.o).mono ?_;rintro e w2 ⟨rfl,L2⟩;have K2:=hI (K1.o.over L2);have M2':=hI (step L1.o L2);obtain⟨c15,c12,c14⟩:=FL.o w2 g K2.o;clear L2 K1 L1 CN;go_wp2;go_ret2;exact HQ.o _ _ _ rfl rfl M2'.o
 by_cases hkd:a.kind<=2;rotate_left
 ·have HQ:=hI (HE.o 2 (by unfold V6a;rw[if_neg (λh=>hkd h.2.2)]) (by decide));have hb1:decide (2<a.made)=false:=by rw[decide_eq_false_iff_not];omega
  have hb2:decide (2<a.kind)=true:=by rw[decide_eq_true_iff];omega
  clear hnf HE hX hM ka HA hcs hxl;go_enter func66,ntmps66;go_wp2_with(first|(refine sN 3 ?_;refine d0a rfl _ (.tmp 1) rfl cs rfl ?_;intro g w1 hg1 hg2 K1 L1)|(refine sN 9 ?_;refine e0a rfl _ (.tmp 3) rfl g rfl _ cs K1 20 _ underlying39 rfl t0a HL ?_)|fail)
  refine(CN.o w1 L1.o).mono ?_;rintro e w2 ⟨rfl,L2⟩;have K2:=hI (K1.o.over L2);have M2':=hI (step L1.o L2);obtain⟨c15,c12,c14⟩:=FL.o w2 g K2.o;clear L2 K1 L1 CN;go_wp2;go_ret2;exact HQ.o _ _ _ rfl rfl M2'.o
 have hb1:decide (2<a.made)=false:=by rw[decide_eq_false_iff_not];omega
 have hb2:decide (2<a.kind)=false:=by rw[decide_eq_false_iff_not];omega
 by_cases hx3:X2<=32768;rotate_left
 ·have HQ:=hI (HE.o 3 (by unfold V6a;rw[if_pos ⟨hnf,hmd,hkd⟩,hxl,if_neg hx3]) (by decide));clear hnf HE hX hM ka HA hcs hxl;go_enter func66,ntmps66;go_wp2_with(first|(refine sN 3 ?_;refine d0a rfl _ (.tmp 1) rfl cs rfl ?_;intro g w1 hg1 hg2 K1 L1)|(refine sN 9 ?_;refine e0a rfl _ (.tmp 3) rfl g rfl _ cs K1 20 _ underlying39 rfl t0a HL ?_)|fail)
  refine(CN.o w1 L1.o).mono ?_;rintro e w2 ⟨rfl,L2⟩;have K2:=hI (K1.o.over L2);have M2':=hI (step L1.o L2);obtain⟨c15,c12,c14⟩:=FL.o w2 g K2.o;clear L2 K1 L1 CN;go_wp2;go_ret2;exact HQ.o _ _ _ rfl rfl M2'.o
 have hk:c3a c=true:=by
  unfold E3a at hnf;cases h:c3a c
  ·rw[h,Bool.false_and] at hnf;exact absurd hnf (by decide)
  ·rfl
 have hcc:c=5∨c=6∨c=7∨c=8∨c=9∨c=10:=by unfold c3a at hk;simp at hk;omega
 have HQ0:Hid (∀v e w',e=.returned (.tuple #[v,.int .i64 0])->b1a .u8 5 w' w.heap.size v (W2a c a)->BW w w'->Z9a w c a e w'):=by
  have h:V6a c a=0:=by unfold V6a;rw[if_pos ⟨hnf,hmd,hkd⟩,hxl,if_pos hx3]
  intro v e w' he hv hb;unfold Z9a O3b;rw[h,if_pos rfl];exact⟨_,he,hv,hb⟩
 obtain⟨l_lev,u_lev⟩:=ka.lev;obtain⟨l_dur,u_dur⟩:=ka.dur;obtain⟨l_made,u_made⟩:=ka.made;obtain⟨l_file,u_file⟩:=ka.file;obtain⟨l_siz,u_siz⟩:=ka.siz;obtain⟨l_kind,u_kind⟩:=ka.kind;obtain⟨l_n,u_n⟩:=ka.n;have z_made:IntKind.u64.wrap a.made=a.made:=by rw[IntKind.wrap_u64];omega
 have z_kind:IntKind.u64.wrap a.kind=a.kind:=by rw[IntKind.wrap_u64];omega
 have z_n:IntKind.u64.wrap a.n=a.n:=by rw[IntKind.wrap_u64];omega
 have z_x:IntKind.u64.wrap (X2:Int)=(X2:Int):=by rw[IntKind.wrap_u64];omega
 have FC:Hid (∀(w:World) (g:Nat),Blk w g 39 cs->w.cell? ⟨g,1,none⟩=some (.int .u64 a.siz)/\w.cell? ⟨g,10,none⟩=some (.int .u8 a.lev)/\w.cell? ⟨g,11,none⟩=some (.int .u8 a.dur)/\w.cell? ⟨g,12,none⟩=some (.int .u16 a.made)/\w.cell? ⟨g,13,none⟩=some (.int .u64 a.file)/\w.cell? ⟨g,14,none⟩=some (.int .u8 a.kind)/\w.cell? ⟨g,16,none⟩=some (.int .u32 a.n)):=λw g h=>by rw[hcs] at h;exact⟨h.at rfl,h.at (D0a ka 0),h.at (D0a ka 1),h.at (D0a ka 2),h.at (D0a ka 3),h.at (D0a ka 4),h.at (D0a ka 6)⟩
 have CC:Hid (∀(w:World) (gs m:Nat) (A:Nat->Option Addr) (n c:Nat->Nat) (X:Nat->List Int),W3a w gs m A n c X->m<=1000->x0b n m<=140737488355328->Calls prog 18 #[.slice (some ⟨gs,0,none⟩) m m] w λe w'=>∃v,e=.returned v/\b1a .u8 5 w' w.heap.size v (v5a X m)/\BW w w'):=L2a;have HX:=hI hX;clear HE hX hM HA hcs hnf hxl hk hmd hkd;rcases hcc with h5 | h6 | h7 | h8 | h9 | h10
 ·subst h5;have HQ:=HQ0;have hb5:W2a 5 a=[a.lev,a.dur]++(le a.made 2++((le a.file 8++le a.siz 8)++(le a.kind 2++List.replicate 2 0))):=by unfold W2a;rw[if_pos rfl,le1 a.lev l_lev u_lev,le1 a.dur l_dur u_dur];simp only[List.append_assoc,List.cons_append,List.nil_append]
  rw[hb5] at HQ;have CM2:Hid (∀(w:World) (gl:Nat),Blk w gl 25 [.int .u64 a.made]->Calls prog 90 #[.int .i64 2,.slice (some ⟨gl,0,none⟩) 1 1] w λe w'=>∃A' c',e=.returned (.slice A' 2 c')/\(b1a .u8 5 w' w.heap.size (.slice A' 2 c') (le a.made 2)/\Holds w' w'.heap.size A' 2 c' (le a.made 2))/\BW w w'):=λw gl hB=>by
   have h:=H4a w gl 1 2 ([a.made]:List Int) hB rfl (by decide) (by decide) (λz hz=>by rw[show(256:Int)^2=65536 from by decide];simp only[List.mem_cons,List.not_mem_nil,or_false] at hz;rw[hz];omega)
   have e1:D2a 2 ([a.made]:List Int)=le a.made 2:=by simp[D2a]
   rw[e1] at h;have e2:(le a.made 2).length=2:=by simp[g0a]
   rw[e2] at h;exact h
  have CK2:Hid (∀(w:World) (gl:Nat),Blk w gl 25 [.int .u64 a.kind]->Calls prog 90 #[.int .i64 2,.slice (some ⟨gl,0,none⟩) 1 1] w λe w'=>∃A' c',e=.returned (.slice A' 2 c')/\(b1a .u8 5 w' w.heap.size (.slice A' 2 c') (le a.kind 2)/\Holds w' w'.heap.size A' 2 c' (le a.kind 2))/\BW w w'):=λw gl hB=>by
   have h:=H4a w gl 1 2 ([a.kind]:List Int) hB rfl (by decide) (by decide) (λz hz=>by rw[show(256:Int)^2=65536 from by decide];simp only[List.mem_cons,List.not_mem_nil,or_false] at hz;rw[hz];omega)
   have e1:D2a 2 ([a.kind]:List Int)=le a.kind 2:=by simp[D2a]
   rw[e1] at h;have e2:(le a.kind 2).length=2:=by simp[g0a]
   rw[e2] at h;exact h
  have CF16:Hid (∀(w:World) (gl:Nat),Blk w gl 25 [.int .u64 a.file,.int .u64 a.siz]->Calls prog 90 #[.int .i64 8,.slice (some ⟨gl,0,none⟩) 2 2] w λe w'=>∃A' c',e=.returned (.slice A' 16 c')/\(b1a .u8 5 w' w.heap.size (.slice A' 16 c') (le a.file 8++le a.siz 8)/\Holds w' w'.heap.size A' 16 c' (le a.file 8++le a.siz 8))/\BW w w'):=λw gl hB=>by
   have h:=H4a w gl 2 8 ([a.file,a.siz]:List Int) hB rfl (by decide) (by decide) (λz hz=>by rw[show(256:Int)^8=18446744073709551616 from by decide];simp only[List.mem_cons,List.not_mem_nil,or_false] at hz;rcases hz with hz | hz<;>omega)
   have e1:D2a 8 ([a.file,a.siz]:List Int)=le a.file 8++le a.siz 8:=by simp[D2a]
   rw[e1] at h;have e2:(le a.file 8++le a.siz 8).length=16:=by simp[g0a]
   rw[e2] at h;exact h
  have hld:Bytes [a.lev,a.dur]:=by intro x hx;simp only[List.mem_cons,List.not_mem_nil,or_false] at hx;rcases hx with hx | hx<;>omega
  have HLD:=hI hld;obtain⟨m2,hm2⟩:=xX (le a.made 2);rw[<-hm2] at CM2 HQ;obtain⟨k2,hk2⟩:=xX (le a.kind 2);rw[<-hk2] at CK2 HQ;obtain⟨fs,hfs⟩:=xX (le a.file 8++le a.siz 8);rw[<-hfs] at CF16 HQ;clear hm2 hk2 hfs HQ0 hb5 hld;go_enter func66,ntmps66;go_wp2_with(first|(refine sN 3 ?_;refine d0a rfl _ (.tmp 1) rfl cs rfl ?_;intro g w1 hg1 hg2 K1 L1)|(refine sN 9 ?_;refine e0a rfl _ (.tmp 3) rfl g rfl _ cs K1 20 _ underlying39 rfl t0a HL ?_)|fail)
  refine(CN.o w1 L1.o).mono ?_;rintro e w2 ⟨rfl,L2⟩;have K2:=hI (K1.o.over L2);have M2':=hI (step L1.o L2);obtain⟨c15,c12,c14⟩:=FL.o w2 g K2.o;clear L2 K1 L1 CN;go_upto_region 7 with fail
  go_cut [6,7] (λs6 s7 wx=>∃Ap cp Aq cq,s6=.slice Ap 2 cp/\s7=.slice Aq 2 cq/\Hid (Holds wx wx.heap.size Ap 2 cp m2)/\Hid (Holds wx wx.heap.size Aq 2 cq k2)/\Hid (Blk wx g 39 cs)/\Hid (BW w wx))
  case first=>
   have hst:Hid (∀w1 w2:World,(Blk w1 g 39 cs/\BW w w1)->BW w1 w2->(Blk w2 g 39 cs/\BW w w2)):=λw1 w2 s hb=>⟨s.1.over hb,step s.2 hb⟩
   refine wp_region_held (S:=λw'=>Blk w' g 39 cs/\BW w w') (by kernel_rfl) ?_;change wpAnyH _ _ _ _ _ _ _ _ w2.drew
   have S0:Hid (Blk w2.drew g 39 cs/\BW w w2.drew):=⟨K2.o.drew,M2'.o.drew⟩;refine tK 0 _ rfl (w0a (by kernel_rfl) _ (.tmp 3) 5 rfl (.pointer (some ⟨g,0,none⟩)) (.pointer (some ⟨g,12,none⟩)) (by kernel_rfl) (Q7a g)) S0.o ?_;refine tK 1 _ rfl (k0a (by kernel_rfl) _ (.tmp 29) rfl g 12 (by kernel_rfl) (.int .u16 a.made) (λw h=>(FC.o w g h.1).2.2.2.1) _ underlying22 rfl) S0.o ?_;refine pK 2 ((.int .u64 a.made)) rfl S0.o ?_;refine tK 5 _ rfl (w0a (by kernel_rfl) _ (.tmp 3) 7 rfl (.pointer (some ⟨g,0,none⟩)) (.pointer (some ⟨g,14,none⟩)) (by kernel_rfl) (S7a g)) S0.o ?_;refine tK 6 _ rfl (k0a (by kernel_rfl) _ (.tmp 34) rfl g 14 (by kernel_rfl) (.int .u8 a.kind) (λw h=>(FC.o w g h.1).2.2.2.2.2.1) _ underlying36 rfl) S0.o ?_;refine pK 7 ((.int .u64 a.kind)) rfl S0.o ?_;refine H2a λfr1 hfr1=>?_
   have f31:fr1.eval (.tmp 31)=.int .u64 a.made:=by rw[hfr1];kernel_rfl
   have f36:fr1.eval (.tmp 36)=.int .u64 a.kind:=by rw[hfr1];kernel_rfl
   refine h4a [(3,32),(4,33),(8,37),(9,38),(10,6),(11,7)] (λi=>match i with
    | 3=>c0c 1 25 [.int .u64 a.made]
    | 4=>rowP 2 m2
    | 8=>c0c 1 25 [.int .u64 a.kind]
    | 9=>rowP 2 k2
    | 10=>rowP 2 m2
    | 11=>rowP 2 k2
    | _=>λ_ _=>True) fr1 (by rw[hfr1];kernel_rfl) (Nat.le_of_ble_eq_true (by kernel_rfl)) S0.o ?_ ?_ ?_
   ·intro i v w1 w2 hb h;split at h;all_goals first | exact J5a hb h | exact K5a hb h | exact i4a hb h | exact M5a hb h | exact h
   ·refine List.forall_mem_cons.2 ⟨⟨_,rfl,λb w1 s hev hd K hK=>?_⟩,List.forall_mem_cons.2 ⟨⟨_,rfl,λb w1 s hev hd K hK=>?_⟩,List.forall_mem_cons.2 ⟨⟨_,rfl,λb w1 s hev hd K hK=>?_⟩,List.forall_mem_cons.2 ⟨⟨_,rfl,λb w1 s hev hd K hK=>?_⟩,List.forall_mem_cons.2 ⟨⟨_,rfl,λb w1 s hev hd K hK=>?_⟩,List.forall_mem_cons.2 ⟨⟨_,rfl,λb w1 s hev hd K hK=>?_⟩,λ_ h=>absurd h List.not_mem_nil⟩⟩⟩⟩⟩⟩
    ·have e31:=(hev 31 (by decide)).trans f31;refine P0a rfl _ _ 1 _ rfl underlying178 ([.int .u64 a.made]:List Value) (by simp only[List.map_toArray,List.map_cons,List.map_nil,e31];kernel_rfl) ?_;intro g2 w2 _ _ hY hL;exact hK _ _ (hst.o _ _ s hL.o) hL.o ⟨_,rfl,hY.o⟩
    ·obtain⟨g4,e4,hB⟩:=hd (3,32) (by simp) (by kernel_rfl);simp only[Act.eval,Array.getD_eq_getD_getElem?] at e4;go_simp;refine(CM2.o _ _ hB).mono ?_;rintro e w2 ⟨A,c,rfl,⟨_,hY⟩,hL⟩;exact hK _ _ (hst.o _ _ s hL) hL ⟨_,_,rfl,hY⟩
    ·have e36:=(hev 36 (by decide)).trans f36;refine P0a rfl _ _ 1 _ rfl underlying178 ([.int .u64 a.kind]:List Value) (by simp only[List.map_toArray,List.map_cons,List.map_nil,e36];kernel_rfl) ?_;intro g2 w2 _ _ hY hL;exact hK _ _ (hst.o _ _ s hL.o) hL.o ⟨_,rfl,hY.o⟩
    ·obtain⟨g4,e4,hB⟩:=hd (8,37) (by simp) (by kernel_rfl);simp only[Act.eval,Array.getD_eq_getD_getElem?] at e4;go_simp;refine(CK2.o _ _ hB).mono ?_;rintro e w2 ⟨A,c,rfl,⟨_,hY⟩,hL⟩;exact hK _ _ (hst.o _ _ s hL) hL ⟨_,_,rfl,hY⟩
    ·have h15:(rowP 2 m2) (b.eval (.tmp 33)) w1:=hd (4,33) (by simp) (by kernel_rfl);simp only[Act.eval,Array.getD_eq_getD_getElem?] at h15;go_simp;exact hK _ _ s (Below.refl _ _) h15
    ·have h15:(rowP 2 k2) (b.eval (.tmp 38)) w1:=hd (9,38) (by simp) (by kernel_rfl);simp only[Act.eval,Array.getD_eq_getD_getElem?] at h15;go_simp;exact hK _ _ s (Below.refl _ _) h15
   ·intro vs w9 s hv;obtain⟨A10,c10,hv10,hy10⟩:=hv (10,6) (by simp);have mM_9:=hI hy10;obtain⟨A11,c11,hv11,hy11⟩:=hv (11,7) (by simp);have kK_9:=hI hy11;have S9:=hI s.1;have b9:=hI s.2;subst hfr1;simp only[List.foldl_cons,List.foldl_nil,hv10,hv11];obtain⟨y32,hy0⟩:=xX (vs 32);rw[<-hy0];clear hy0;obtain⟨y33,hy0⟩:=xX (vs 33);rw[<-hy0];clear hy0;obtain⟨y37,hy0⟩:=xX (vs 37);rw[<-hy0];clear hy0;obtain⟨y38,hy0⟩:=xX (vs 38);rw[<-hy0];clear hy0;clear hv s vs hst S0 hv10 hy10 hv11 hy11 f31 f36;go_simp;go_wp2_with fail;go_meet;exact⟨_,_,_,_,rfl,rfl,mM_9,kK_9,S9,b9⟩
  case rest=>
   obtain⟨Ap,cp,Aq,cq,rfl,rfl,HM6,HK7,KX,MX⟩:=hcut;go_upto_region 8 with fail
   have hst:Hid (∀w1 w2:World,(Blk w1 g 39 cs/\BW w w1/\Holds w1 w1.heap.size Ap 2 cp m2/\Holds w1 w1.heap.size Aq 2 cq k2)->BW w1 w2->(Blk w2 g 39 cs/\BW w w2/\Holds w2 w2.heap.size Ap 2 cp m2/\Holds w2 w2.heap.size Aq 2 cq k2)):=λw1 w2 s hb=>⟨s.1.over hb,step s.2.1 hb,s.2.2.1.over hb,s.2.2.2.over hb⟩
   refine wp_region_held (S:=λw'=>Blk w' g 39 cs/\BW w w'/\Holds w' w'.heap.size Ap 2 cp m2/\Holds w' w'.heap.size Aq 2 cq k2) (by kernel_rfl) ?_;change wpAnyH _ _ _ _ _ _ _ _ wc.drew
   have S0:Hid (Blk wc.drew g 39 cs/\BW w wc.drew/\Holds wc.drew wc.drew.heap.size Ap 2 cp m2/\Holds wc.drew wc.drew.heap.size Aq 2 cq k2):=⟨KX.o.drew,MX.o.drew,HM6.o.drew,HK7.o.drew⟩;refine tK 0 _ rfl (w0a (by kernel_rfl) _ (.tmp 3) 3 rfl (.pointer (some ⟨g,0,none⟩)) (.pointer (some ⟨g,10,none⟩)) (by kernel_rfl) (O7a g)) S0.o ?_;refine tK 1 _ rfl (k0a (by kernel_rfl) _ (.tmp 39) rfl g 10 (by kernel_rfl) (.int .u8 a.lev) (λw h=>(FC.o w g h.1).2.1) _ underlying5 rfl) S0.o ?_;refine tK 2 _ rfl (w0a (by kernel_rfl) _ (.tmp 3) 4 rfl (.pointer (some ⟨g,0,none⟩)) (.pointer (some ⟨g,11,none⟩)) (by kernel_rfl) (P7a g)) S0.o ?_;refine tK 3 _ rfl (k0a (by kernel_rfl) _ (.tmp 41) rfl g 11 (by kernel_rfl) (.int .u8 a.dur) (λw h=>(FC.o w g h.1).2.2.1) _ underlying5 rfl) S0.o ?_;refine tK 5 _ rfl (s0a (by kernel_rfl) (.tmp 6) rfl (.slice Ap 2 cp) (by kernel_rfl)) S0.o ?_;refine tK 6 _ rfl (w0a (by kernel_rfl) _ (.tmp 3) 6 rfl (.pointer (some ⟨g,0,none⟩)) (.pointer (some ⟨g,13,none⟩)) (by kernel_rfl) (R7a g)) S0.o ?_;refine tK 7 _ rfl (k0a (by kernel_rfl) _ (.tmp 45) rfl g 13 (by kernel_rfl) (.int .u64 a.file) (λw h=>(FC.o w g h.1).2.2.2.2.1) _ underlying25 rfl) S0.o ?_;refine tK 8 _ rfl (w0a (by kernel_rfl) _ (.tmp 3) 1 rfl (.pointer (some ⟨g,0,none⟩)) (.pointer (some ⟨g,1,none⟩)) (by kernel_rfl) (M7a g)) S0.o ?_;refine tK 9 _ rfl (k0a (by kernel_rfl) _ (.tmp 47) rfl g 1 (by kernel_rfl) (.int .u64 a.siz) (λw h=>(FC.o w g h.1).1) _ underlying25 rfl) S0.o ?_;refine tK 12 _ rfl (s0a (by kernel_rfl) (.tmp 7) rfl (.slice Aq 2 cq) (by kernel_rfl)) S0.o ?_;refine H2a λfr1 hfr1=>?_
   have f40:fr1.eval (.tmp 40)=.int .u8 a.lev:=by rw[hfr1];kernel_rfl
   have f42:fr1.eval (.tmp 42)=.int .u8 a.dur:=by rw[hfr1];kernel_rfl
   have f44:fr1.eval (.tmp 44)=.slice Ap 2 cp:=by rw[hfr1];kernel_rfl
   have f46:fr1.eval (.tmp 46)=.int .u64 a.file:=by rw[hfr1];kernel_rfl
   have f48:fr1.eval (.tmp 48)=.int .u64 a.siz:=by rw[hfr1];kernel_rfl
   have f51:fr1.eval (.tmp 51)=.slice Aq 2 cq:=by rw[hfr1];kernel_rfl
   refine h4a [(4,43),(10,49),(11,50),(13,52),(14,53),(15,54),(16,4),(17,5)] (λi=>match i with
    | 4=>rowP 2 [a.lev,a.dur]
    | 10=>c0c 2 25 [.int .u64 a.file,.int .u64 a.siz]
    | 11=>rowP 16 fs
    | 13=>rowP 2 (List.replicate 2 0)
    | 14=>T0b 5 ([a.lev,a.dur]++(m2++(fs++(k2++((List.replicate 2 0))))))
    | 15=>h4b 5 w.heap.size ([a.lev,a.dur]++(m2++(fs++(k2++((List.replicate 2 0))))))
    | 16=>h4b 5 w.heap.size ([a.lev,a.dur]++(m2++(fs++(k2++((List.replicate 2 0))))))
    | 17=>isP (.int .i64 0)
    | _=>λ_ _=>True) fr1 (by rw[hfr1];kernel_rfl) (Nat.le_of_ble_eq_true (by kernel_rfl)) S0.o ?_ ?_ ?_
   ·intro i v w1 w2 hb h;split at h;all_goals first | exact J5a hb h | exact K5a hb h | exact i4a hb h | exact M5a hb h | exact h
   ·refine List.forall_mem_cons.2 ⟨⟨_,rfl,λb w1 s hev hd K hK=>?_⟩,List.forall_mem_cons.2 ⟨⟨_,rfl,λb w1 s hev hd K hK=>?_⟩,List.forall_mem_cons.2 ⟨⟨_,rfl,λb w1 s hev hd K hK=>?_⟩,List.forall_mem_cons.2 ⟨⟨_,rfl,λb w1 s hev hd K hK=>?_⟩,List.forall_mem_cons.2 ⟨⟨_,rfl,λb w1 s hev hd K hK=>?_⟩,List.forall_mem_cons.2 ⟨⟨_,rfl,λb w1 s hev hd K hK=>?_⟩,List.forall_mem_cons.2 ⟨⟨_,rfl,λb w1 s hev hd K hK=>?_⟩,List.forall_mem_cons.2 ⟨⟨_,rfl,λb w1 s hev hd K hK=>?_⟩,λ_ h=>absurd h List.not_mem_nil⟩⟩⟩⟩⟩⟩⟩⟩
    ·have e40:=(hev 40 (by decide)).trans f40;have e42:=(hev 42 (by decide)).trans f42;refine P0a rfl _ _ 2 _ rfl underlying31 ([.int .u8 a.lev,.int .u8 a.dur]:List Value) (by simp only[List.map_toArray,List.map_cons,List.map_nil,e40,e42];kernel_rfl) ?_;intro g2 w2 _ _ hY hL;exact hK _ _ (hst.o _ _ s hL.o) hL.o ⟨_,_,rfl,Holds.of_lit (xs:=[a.lev,a.dur]) hY.o HLD.o⟩
    ·have e46:=(hev 46 (by decide)).trans f46;have e48:=(hev 48 (by decide)).trans f48;refine P0a rfl _ _ 2 _ rfl underlying178 ([.int .u64 a.file,.int .u64 a.siz]:List Value) (by simp only[List.map_toArray,List.map_cons,List.map_nil,e46,e48];kernel_rfl) ?_;intro g2 w2 _ _ hY hL;exact hK _ _ (hst.o _ _ s hL.o) hL.o ⟨_,rfl,hY.o⟩
    ·obtain⟨g4,e4,hB⟩:=hd (10,49) (by simp) (by kernel_rfl);simp only[Act.eval,Array.getD_eq_getD_getElem?] at e4;go_simp;refine(CF16.o _ _ hB).mono ?_;rintro e w2 ⟨A,c,rfl,⟨_,hY⟩,hL⟩;exact hK _ _ (hst.o _ _ s hL) hL ⟨_,_,rfl,hY⟩
    ·refine C3a rfl _ _ rfl 2 rfl rfl (by omega) ?_;intro w2 hR hL;exact hK _ _ (hst.o _ _ s hL.o) hL.o ⟨_,_,rfl,p2a.holds (base:=0) (.inr ⟨_,rfl,Nat.zero_le _,hR.o⟩) (by rfl:(List.replicate 2 (0:Int)).length=2) (Bytes.zeros 2) (by omega)⟩
    ·obtain⟨A0,c0,e43,h0⟩:=hd (4,43) (by simp) (by kernel_rfl);have e44:=(hev 44 (by decide)).trans f44;obtain⟨A2,c2,e50,h2⟩:=hd (11,50) (by simp) (by kernel_rfl);have e51:=(hev 51 (by decide)).trans f51;obtain⟨A4,c4,e52,h4⟩:=hd (13,52) (by simp) (by kernel_rfl);refine P0a rfl _ _ 5 _ rfl underlying94 ([.slice A0 2 c0,.slice Ap 2 cp,.slice A2 16 c2,.slice Aq 2 cq,.slice A4 2 c4]:List Value) (by simp only[List.map_toArray,List.map_cons,List.map_nil,e43,e44,e50,e51,e52];kernel_rfl) ?_;intro g2 w2 _ _ hY hL;exact hK _ _ (hst.o _ _ s hL.o) hL.o ⟨_,[(A0,2,c0,[a.lev,a.dur]),(Ap,2,cp,m2),(A2,16,c2,fs),(Aq,2,cq,k2),(A4,2,c4,(List.replicate 2 0))],rfl,W3a.of_blk _ hY.o (List.forall_mem_cons.2 ⟨h0.over hL.o,List.forall_mem_cons.2 ⟨s.2.2.1.over hL.o,List.forall_mem_cons.2 ⟨h2.over hL.o,List.forall_mem_cons.2 ⟨s.2.2.2.over hL.o,List.forall_mem_cons.2 ⟨h4.over hL.o,λ_ h=>absurd h List.not_mem_nil⟩⟩⟩⟩⟩),by show 0+2+2+16+2+2<=_;omega,by simp[v5a,T3a,List.append_assoc]⟩
    ·obtain⟨g5,l5,e5,hp5,hn5,hc5⟩:=hd (14,53) (by simp) (by kernel_rfl);simp only[Act.eval,Array.getD_eq_getD_getElem?] at e5;go_simp;refine(CC.o _ g5 5 _ _ _ _ hp5 (by omega) (by omega)).mono ?_;rintro e w2 ⟨v,rfl,hY,hL⟩;exact hK _ _ (hst.o _ _ s hL) hL (by rw[<-hc5];exact hY.mono s.2.1.size)
    ·have h15:(h4b 5 w.heap.size ([a.lev,a.dur]++(m2++(fs++(k2++((List.replicate 2 0))))))) (b.eval (.tmp 54)) w1:=hd (15,54) (by simp) (by kernel_rfl);simp only[Act.eval,Array.getD_eq_getD_getElem?] at h15;go_simp;exact hK _ _ s (Below.refl _ _) h15
    ·go_simp;exact hK _ _ s (Below.refl _ _) rfl
   ·intro vs w9 s hv;have OUT0:b1a .u8 5 w9 w.heap.size (vs 4) ([a.lev,a.dur]++(m2++(fs++(k2++((List.replicate 2 0)))))):=hv (16,4) (by simp);obtain⟨v,hv16⟩:=xX (vs 4);rw[<-hv16] at OUT0;have OUT:=hI OUT0;have hv17:vs 5=.int .i64 0:=hv (17,5) (by simp);have S9:=hI s.1;have b9:=hI s.2.1;have mM_9:=hI s.2.2.1;have kK_9:=hI s.2.2.2;subst hfr1;simp only[List.foldl_cons,List.foldl_nil,<-hv16,hv17];obtain⟨y43,hy0⟩:=xX (vs 43);rw[<-hy0];clear hy0;obtain⟨y49,hy0⟩:=xX (vs 49);rw[<-hy0];clear hy0;obtain⟨y50,hy0⟩:=xX (vs 50);rw[<-hy0];clear hy0;obtain⟨y52,hy0⟩:=xX (vs 52);rw[<-hy0];clear hy0;obtain⟨y53,hy0⟩:=xX (vs 53);rw[<-hy0];clear hy0;obtain⟨y54,hy0⟩:=xX (vs 54);rw[<-hy0];clear hy0;clear hv s vs hst S0 hv16 OUT0 hv17 f40 f42 f44 f46 f48 f51;go_simp;have HO6:=hI (OUT.o);go_wp2;go_ret2;refine HQ.o _ _ _ rfl ?_ b9.o;have h9:=HO6.o;simpa[v5a,T3a,List.append_assoc] using h9
 ·subst h6;have HQ:=HQ0;have hb0:W2a 6 a=List.replicate 4 0:=rfl;rw[hb0] at HQ;clear HQ0 hb0;go_enter func66,ntmps66;go_wp2_with(first|(refine sN 3 ?_;refine d0a rfl _ (.tmp 1) rfl cs rfl ?_;intro g w1 hg1 hg2 K1 L1)|(refine sN 9 ?_;refine e0a rfl _ (.tmp 3) rfl g rfl _ cs K1 20 _ underlying39 rfl t0a HL ?_)|fail)
  refine(CN.o w1 L1.o).mono ?_;rintro e w2 ⟨rfl,L2⟩;have K2:=hI (K1.o.over L2);have M2':=hI (step L1.o L2);obtain⟨c15,c12,c14⟩:=FL.o w2 g K2.o;clear L2 K1 L1 CN;go_wp2_with(at_make;refine K1a _ rfl _ _ rfl _ _ 4 rfl rfl rfl rfl (by omega) ?_;intro w6 R6 L6);go_ret2;exact HQ.o _ _ _ rfl (x6a R6.o M2'.o.size (by omega)) (step M2'.o L6)
 ·subst h7;have HQ:=HQ0;have hb0:W2a 7 a=List.replicate 4 0:=rfl;rw[hb0] at HQ;clear HQ0 hb0;go_enter func66,ntmps66;go_wp2_with(first|(refine sN 3 ?_;refine d0a rfl _ (.tmp 1) rfl cs rfl ?_;intro g w1 hg1 hg2 K1 L1)|(refine sN 9 ?_;refine e0a rfl _ (.tmp 3) rfl g rfl _ cs K1 20 _ underlying39 rfl t0a HL ?_)|fail)
  refine(CN.o w1 L1.o).mono ?_;rintro e w2 ⟨rfl,L2⟩;have K2:=hI (K1.o.over L2);have M2':=hI (step L1.o L2);obtain⟨c15,c12,c14⟩:=FL.o w2 g K2.o;clear L2 K1 L1 CN;go_wp2_with(at_make;refine K1a _ rfl _ _ rfl _ _ 4 rfl rfl rfl rfl (by omega) ?_;intro w6 R6 L6);go_ret2;exact HQ.o _ _ _ rfl (x6a R6.o M2'.o.size (by omega)) (step M2'.o L6)
 ·subst h8;have HQ:=HQ0;have hb0:W2a 8 a=le (X2:Int) 4++a.data:=by unfold W2a;rw[if_neg (by decide),if_pos rfl,HX.o.len]
  rw[hb0] at HQ;have CN4:Hid (∀(w:World) (gl:Nat),Blk w gl 25 [.int .u64 (X2:Int)]->Calls prog 90 #[.int .i64 4,.slice (some ⟨gl,0,none⟩) 1 1] w λe w'=>∃A' c',e=.returned (.slice A' 4 c')/\(b1a .u8 5 w' w.heap.size (.slice A' 4 c') (le (X2:Int) 4)/\Holds w' w'.heap.size A' 4 c' (le (X2:Int) 4))/\BW w w'):=λw gl hB=>by
   have h:=H4a w gl 1 4 ([(X2:Int)]:List Int) hB rfl (by decide) (by decide) (λz hz=>by rw[show(256:Int)^4=4294967296 from by decide];simp only[List.mem_cons,List.not_mem_nil,or_false] at hz;rw[hz];omega)
   have e1:D2a 4 ([(X2:Int)]:List Int)=le (X2:Int) 4:=by simp[D2a]
   rw[e1] at h;have e2:(le (X2:Int) 4).length=4:=by simp[g0a]
   rw[e2] at h;exact h
  obtain⟨n4,hn4⟩:=xX (le (X2:Int) 4);rw[<-hn4] at CN4 HQ;clear hn4 HQ0 hb0;go_enter func66,ntmps66;go_wp2_with(first|(refine sN 3 ?_;refine d0a rfl _ (.tmp 1) rfl cs rfl ?_;intro g w1 hg1 hg2 K1 L1)|(refine sN 9 ?_;refine e0a rfl _ (.tmp 3) rfl g rfl _ cs K1 20 _ underlying39 rfl t0a HL ?_)|fail)
  refine(CN.o w1 L1.o).mono ?_;rintro e w2 ⟨rfl,L2⟩;have K2:=hI (K1.o.over L2);have M2':=hI (step L1.o L2);obtain⟨c15,c12,c14⟩:=FL.o w2 g K2.o;clear L2 K1 L1 CN;have HXD:=hI (HX.o.over M2'.o);go_upto_region 10 with fail
  have hst:Hid (∀w1 w2:World,(Blk w1 g 39 cs/\BW w w1/\Holds w1 w1.heap.size X1 X2 X3 a.data)->BW w1 w2->(Blk w2 g 39 cs/\BW w w2/\Holds w2 w2.heap.size X1 X2 X3 a.data)):=λw1 w2 s hb=>⟨s.1.over hb,step s.2.1 hb,s.2.2.over hb⟩
  refine wp_region_held (S:=λw'=>Blk w' g 39 cs/\BW w w'/\Holds w' w'.heap.size X1 X2 X3 a.data) (by kernel_rfl) ?_;change wpAnyH _ _ _ _ _ _ _ _ w2.drew
  have S0:Hid (Blk w2.drew g 39 cs/\BW w w2.drew/\Holds w2.drew w2.drew.heap.size X1 X2 X3 a.data):=⟨K2.o.drew,M2'.o.drew,HXD.o.drew⟩;refine tK 0 _ rfl (w0a (by kernel_rfl) _ (.tmp 3) 8 rfl (.pointer (some ⟨g,0,none⟩)) (.pointer (some ⟨g,15,none⟩)) (by kernel_rfl) (C5a g)) S0.o ?_;refine tK 1 _ rfl (k0a (by kernel_rfl) _ (.tmp 57) rfl g 15 (by kernel_rfl) (.slice X1 X2 X3) (λw h=>(FL.o w g h.1).1) _ underlying31 rfl) S0.o ?_;refine pK 2 ((.int .i64 (X2:Int))) rfl S0.o ?_;refine pK 3 ((.int .u64 (X2:Int))) rfl S0.o ?_;refine tK 6 _ rfl (w0a (by kernel_rfl) _ (.tmp 3) 8 rfl (.pointer (some ⟨g,0,none⟩)) (.pointer (some ⟨g,15,none⟩)) (by kernel_rfl) (C5a g)) S0.o ?_;refine tK 7 _ rfl (k0a (by kernel_rfl) _ (.tmp 63) rfl g 15 (by kernel_rfl) (.slice X1 X2 X3) (λw h=>(FL.o w g h.1).1) _ underlying31 rfl) S0.o ?_;refine H2a λfr1 hfr1=>?_
  have f60:fr1.eval (.tmp 60)=.int .u64 (X2:Int):=by rw[hfr1];kernel_rfl
  have f64:fr1.eval (.tmp 64)=.slice X1 X2 X3:=by rw[hfr1];kernel_rfl
  refine h4a [(4,61),(5,62),(8,65),(9,66),(10,4),(11,5)] (λi=>match i with
   | 4=>c0c 1 25 [.int .u64 (X2:Int)]
   | 5=>rowP 4 n4
   | 8=>T0b 2 (n4++a.data)
   | 9=>h4b 5 w.heap.size (n4++a.data)
   | 10=>h4b 5 w.heap.size (n4++a.data)
   | 11=>isP (.int .i64 0)
   | _=>λ_ _=>True) fr1 (by rw[hfr1];kernel_rfl) (Nat.le_of_ble_eq_true (by kernel_rfl)) S0.o ?_ ?_ ?_
  ·intro i v w1 w2 hb h;split at h;all_goals first | exact J5a hb h | exact K5a hb h | exact i4a hb h | exact M5a hb h | exact h
  ·refine List.forall_mem_cons.2 ⟨⟨_,rfl,λb w1 s hev hd K hK=>?_⟩,List.forall_mem_cons.2 ⟨⟨_,rfl,λb w1 s hev hd K hK=>?_⟩,List.forall_mem_cons.2 ⟨⟨_,rfl,λb w1 s hev hd K hK=>?_⟩,List.forall_mem_cons.2 ⟨⟨_,rfl,λb w1 s hev hd K hK=>?_⟩,List.forall_mem_cons.2 ⟨⟨_,rfl,λb w1 s hev hd K hK=>?_⟩,List.forall_mem_cons.2 ⟨⟨_,rfl,λb w1 s hev hd K hK=>?_⟩,λ_ h=>absurd h List.not_mem_nil⟩⟩⟩⟩⟩⟩
   ·have e60:=(hev 60 (by decide)).trans f60;refine P0a rfl _ _ 1 _ rfl underlying178 ([.int .u64 (X2:Int)]:List Value) (by simp only[List.map_toArray,List.map_cons,List.map_nil,e60];kernel_rfl) ?_;intro g2 w2 _ _ hY hL;exact hK _ _ (hst.o _ _ s hL.o) hL.o ⟨_,rfl,hY.o⟩
   ·obtain⟨g4,e4,hB⟩:=hd (4,61) (by simp) (by kernel_rfl);simp only[Act.eval,Array.getD_eq_getD_getElem?] at e4;go_simp;refine(CN4.o _ _ hB).mono ?_;rintro e w2 ⟨A,c,rfl,⟨_,hY⟩,hL⟩;exact hK _ _ (hst.o _ _ s hL) hL ⟨_,_,rfl,hY⟩
   ·obtain⟨A0,c0,e62,h0⟩:=hd (5,62) (by simp) (by kernel_rfl);have e64:=(hev 64 (by decide)).trans f64;refine P0a rfl _ _ 2 _ rfl underlying94 ([.slice A0 4 c0,.slice X1 X2 X3]:List Value) (by simp only[List.map_toArray,List.map_cons,List.map_nil,e62,e64];kernel_rfl) ?_;intro g2 w2 _ _ hY hL;exact hK _ _ (hst.o _ _ s hL.o) hL.o ⟨_,[(A0,4,c0,n4),(X1,X2,X3,a.data)],rfl,W3a.of_blk _ hY.o (List.forall_mem_cons.2 ⟨h0.over hL.o,List.forall_mem_cons.2 ⟨s.2.2.over hL.o,λ_ h=>absurd h List.not_mem_nil⟩⟩),by show 0+4+X2<=_;omega,by simp[v5a,T3a,List.append_assoc]⟩
   ·obtain⟨g5,l5,e5,hp5,hn5,hc5⟩:=hd (8,65) (by simp) (by kernel_rfl);simp only[Act.eval,Array.getD_eq_getD_getElem?] at e5;go_simp;refine(CC.o _ g5 2 _ _ _ _ hp5 (by omega) (by omega)).mono ?_;rintro e w2 ⟨v,rfl,hY,hL⟩;exact hK _ _ (hst.o _ _ s hL) hL (by rw[<-hc5];exact hY.mono s.2.1.size)
   ·have h15:(h4b 5 w.heap.size (n4++a.data)) (b.eval (.tmp 66)) w1:=hd (9,66) (by simp) (by kernel_rfl);simp only[Act.eval,Array.getD_eq_getD_getElem?] at h15;go_simp;exact hK _ _ s (Below.refl _ _) h15
   ·go_simp;exact hK _ _ s (Below.refl _ _) rfl
  ·intro vs w9 s hv;have OUT0:b1a .u8 5 w9 w.heap.size (vs 4) (n4++a.data):=hv (10,4) (by simp);obtain⟨v,hv10⟩:=xX (vs 4);rw[<-hv10] at OUT0;have OUT:=hI OUT0;have hv11:vs 5=.int .i64 0:=hv (11,5) (by simp);have S9:=hI s.1;have b9:=hI s.2.1;have HD_9:=hI s.2.2;subst hfr1;simp only[List.foldl_cons,List.foldl_nil,<-hv10,hv11];obtain⟨y61,hy0⟩:=xX (vs 61);rw[<-hy0];clear hy0;obtain⟨y62,hy0⟩:=xX (vs 62);rw[<-hy0];clear hy0;obtain⟨y65,hy0⟩:=xX (vs 65);rw[<-hy0];clear hy0;obtain⟨y66,hy0⟩:=xX (vs 66);rw[<-hy0];clear hy0;clear hv s vs hst S0 hv10 OUT0 hv11 f60 f64;go_simp;have HO6:=hI (OUT.o);go_wp2;go_ret2;refine HQ.o _ _ _ rfl ?_ b9.o;have h9:=HO6.o;simpa[v5a,T3a,List.append_assoc] using h9
 ·subst h9;have HQ:=HQ0;have hb0:W2a 9 a=le a.n 4:=rfl;rw[hb0] at HQ;have CN4:Hid (∀(w:World) (gl:Nat),Blk w gl 25 [.int .u64 a.n]->Calls prog 90 #[.int .i64 4,.slice (some ⟨gl,0,none⟩) 1 1] w λe w'=>∃A' c',e=.returned (.slice A' 4 c')/\(b1a .u8 5 w' w.heap.size (.slice A' 4 c') (le a.n 4)/\Holds w' w'.heap.size A' 4 c' (le a.n 4))/\BW w w'):=λw gl hB=>by
   have h:=H4a w gl 1 4 ([a.n]:List Int) hB rfl (by decide) (by decide) (λz hz=>by rw[show(256:Int)^4=4294967296 from by decide];simp only[List.mem_cons,List.not_mem_nil,or_false] at hz;rw[hz];omega)
   have e1:D2a 4 ([a.n]:List Int)=le a.n 4:=by simp[D2a]
   rw[e1] at h;have e2:(le a.n 4).length=4:=by simp[g0a]
   rw[e2] at h;exact h
  obtain⟨n4,hn4⟩:=xX (le a.n 4);rw[<-hn4] at CN4 HQ;clear hn4 HQ0 hb0;go_enter func66,ntmps66;go_wp2_with(first|(refine sN 3 ?_;refine d0a rfl _ (.tmp 1) rfl cs rfl ?_;intro g w1 hg1 hg2 K1 L1)|(refine sN 9 ?_;refine e0a rfl _ (.tmp 3) rfl g rfl _ cs K1 20 _ underlying39 rfl t0a HL ?_)|fail)
  refine(CN.o w1 L1.o).mono ?_;rintro e w2 ⟨rfl,L2⟩;have K2:=hI (K1.o.over L2);have M2':=hI (step L1.o L2);obtain⟨c15,c12,c14⟩:=FL.o w2 g K2.o;clear L2 K1 L1 CN;obtain⟨e1,e10,e11,e12,e13,e14,e16⟩:=FC.o w2 g K2.o;go_wp2_with(first|(refine sN 72 ?_;refine o1a rfl _ _ 1 _ rfl underlying178 ([.int .u64 a.n]:List Value) (by kernel_rfl) ?_;intro g3 w3 hg5 hg6 Y3 L3)|fail)
  refine(CN4.o w3 g3 Y3.o).mono ?_;rintro e w4 ⟨Af,cf,rfl,⟨hOf,hHf⟩,L4⟩;have OF:=hI (b1a.mono hOf (Nat.le_trans M2'.o.size L3.o.size));have M4:=hI (step (step M2'.o L3.o) L4);clear hOf hHf L4 L3 Y3;go_wp2;go_ret2;exact HQ.o _ _ _ rfl OF.o M4.o
 ·subst h10;have HQ:=HQ0;have hb0:W2a 10 a=List.replicate 4 0:=rfl;rw[hb0] at HQ;clear HQ0 hb0;go_enter func66,ntmps66;go_wp2_with(first|(refine sN 3 ?_;refine d0a rfl _ (.tmp 1) rfl cs rfl ?_;intro g w1 hg1 hg2 K1 L1)|(refine sN 9 ?_;refine e0a rfl _ (.tmp 3) rfl g rfl _ cs K1 20 _ underlying39 rfl t0a HL ?_)|fail)
  refine(CN.o w1 L1.o).mono ?_;rintro e w2 ⟨rfl,L2⟩;have K2:=hI (K1.o.over L2);have M2':=hI (step L1.o L2);obtain⟨c15,c12,c14⟩:=FL.o w2 g K2.o;clear L2 K1 L1 CN;go_wp2_with(at_make;refine K1a _ rfl _ _ rfl _ _ 4 rfl rfl rfl rfl (by omega) ?_;intro w6 R6 L6);go_ret2;exact HQ.o _ _ _ rfl (x6a R6.o M2'.o.size (by omega)) (step M2'.o L6)
end Go.Proofs.YtjpcifmeimcikaaGreatDoor
