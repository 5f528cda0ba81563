import Derived.Shelf.SlIterI.Nil
import Derived.RangeFuncNested
import Derived.Test.YtdgpbhdihhchgaaGreatDoorSAC
import Derived.Test.YtdgpbhdihhchgaaGreatDoorS0
set_option linter.all false
set_option maxHeartbeats 8000000
set_option maxRecDepth 100000
namespace Go.Proofs.YtdgpbhdihhchgaaGreatDoor
set_option maxRecDepth 100000
open Go.RowKit
structure PV (DI:DrI) (EI:FiI) (w:World) (base q m:Nat) (D:DataW Unit) (V:X0a) (M:List VN):Prop where
 p:o2a DI EI w base q m D V.quota V.last M (l5a V.l)
 is:M.map (·.1)=V.l
 ok:Vok V
 big:V.last<=1048576
 tb:DI.tb base w
def y9b(DI:DrI):Prop:=∀{b:Nat} {w:World},DI.tb b w->b<=w.heap.size->k5a w
section
variable {DI:DrI} {EI:FiI} {w w':World} {base q m:Nat} {D:DataW Unit} {V:X0a} {M:List VN} {y:VN} {x:k0a} {n:Int} {s:o0a}
theorem PV.below(h:PV DI EI w base q m D V M)(hb:Below w.heap.size w w'):PV DI EI w' base q m D V M:=⟨h.p.below hb,h.is,h.ok,h.big,DI.tbNext h.tb (hb.mono h.p.hb)⟩
theorem PV.mem(h:PV DI EI w base q m D V M)(hy:y∈M):y.1∈V.l:=by rw[<-h.is];exact List.mem_map.2 ⟨y,hy,rfl⟩
theorem PV.node(h:PV DI EI w base q m D V M)(hx:x∈V.l):∃y∈M,y.1=x:=by rw[<-h.is] at hx;exact List.mem_map.1 hx
theorem PV.at(h:PV DI EI w base q m D V M)(hx:vAt V.l n=some x):∃y∈M,y.1=x/\y.1.n=n:=by obtain⟨h1,h2⟩:=y0a hx;obtain⟨y,hy,e⟩:=h.node h1;exact⟨y,hy,e,by rw[e,h2]⟩
theorem PV.no(h:PV DI EI w base q m D V M)(hx:vAt V.l n=none):∀y∈M,y.1.n≠n:=λy hy=>O8a hx _ (h.mem hy)
theorem PV.kindOf(h:PV DI EI w base q m D V M)(hy:y∈M):z0a V.l y.1.n=y.1.kind:=h.ok.rise.kind (h.mem hy)
theorem PV.tabs(h:PV DI EI w base q m D V M)(HT:y9b DI):k5a w:=HT h.tb h.p.hb
theorem PV.dirB(h:PV DI EI w base q m D V M)(hy:y∈M):y.1.kind=1->y.1.B=[]:=λhk=>(h.ok.dirB _ (h.mem hy) hk).1
theorem PV.dir(h:PV DI EI w base q m D V M)(hy:y∈M)(h1:y.1.n≠1):∃z∈M,z.1.n=y.1.par/\z.1.kind=1:=by have hk:=h.ok.up _ (h.mem hy) h1;obtain⟨x,hx⟩:=t2a (V:=V) (n:=y.1.par) (by rw[hk];decide);obtain⟨z,hz,e,en⟩:=h.at hx;refine⟨z,hz,en,?_⟩;rw[<-h.kindOf hz,en,hk]
theorem PV.small(h:PV DI EI w base q m D V M)(hy:y∈M):y.1.name.length<=1048576:=by
 by_cases h1:y.1.n=1
 ·rw[h.ok.one (h.mem hy) h1];exact Nat.zero_le _
 ·have:=S0a (h.ok.good _ (h.mem hy) h1);omega
theorem PV.many(h:PV DI EI w base q m D V M):M.length<=256:=by have:=h.ok.many;rw[<-h.is,List.length_map] at this;exact this
theorem PV.findAt(h:PV DI EI w base q m D V M)(hy:y∈M)(hk:y.1.kind=1)(hs:nameOf s=true):∃X,Calls Tryz.prog 42 #[T1b y.2.q,V0a s] w λe w'=>e=.returned (.tuple #[.int .i64 (x0a V.l y.1.n s),X,.int .i64 (if x0a V.l y.1.n s=0 then 7 else 0)])/\Below w.heap.size w w':=by obtain⟨K,k,d⟩:=h.p.dirs y hy hk;obtain⟨f1,f2⟩:=k.child h.ok hs;have:=S0a hs;have c:=DI.find d h.tb h.p.hb (s:=ba s) (by rw[V5b];omega);rw[f1,f2] at c;exact⟨_,c⟩
def vLn(L:List k0a):Nat->Int->List Int
 | 0,_=>[]
 | f+1,n=>if n=1 then [] else match vAt L n with | some x=>n::vLn L f x.par | none=>[]
def b6b(L:List k0a)(n:Int):List Int:=vLn L 10 n
def q5c(L:List k0a)(n:Int):o0a:=match vAt L n with | some x=>x.name | none=>[]
theorem A0c(L:List k0a)(f:Nat):vLn L (f+1) 1=[]:=rfl
theorem E0b{L:List k0a}{f:Nat}(hx:vAt L n=some x)(h1:n≠1):vLn L (f+1) n=n::vLn L f x.par:=by
 show(if n=1 then [] else match vAt L n with | some x=>n::vLn L f x.par | none=>[])=_
 rw[if_neg h1,hx]
theorem Way.ln{L:List k0a}{ps:List o0a}(h:Way L n ps):∀f,ps.length<f->(vLn L f n).length=ps.length/\(vLn L f n).reverse.map (q5c L)=ps:=by
 induction h with
 | root=>
  intro f hf;cases f with
  | zero=>omega
  | succ f=>exact⟨rfl,rfl⟩
 | @step x ps a b c ih=>
  intro f hf;cases f with
  | zero=>omega
  | succ f=>obtain⟨i1,i2⟩:=ih f (by simp at hf;omega);rw[E0b a b];refine⟨by rw[List.length_cons,i1,List.length_append];rfl,?_⟩;rw[List.reverse_cons,List.map_append,i2];unfold q5c;rw[List.map_cons,a];rfl
theorem PV.way(h:PV DI EI w base q m D V M)(hy:y∈M):∃ps,Way V.l y.1.n ps/\ps.length<=8:=h.ok.way _ (h.mem hy)
def Y3c:Value->Nat
 | .slice _ n _=>n
 | _=>0
theorem m1b(h:PV DI EI w base q m D V M)(hy:y∈M)(hn:y.1.n=n):Calls Tryz.prog 50 #[R0a q,.int .i64 n] w λe w'=>∃v,e=.returned v/\t1a (Value.int .i64) 3 w' w.heap.size v (b6b V.l n)/\Below w.heap.size w w':=by
 obtain⟨ps0,hw0,h80⟩:=h.way hy;rw[hn] at hw0;have HF:Hid ((vLn V.l 10 n).length<=8):=by have:=(hw0.ln 10 (by omega)).1;show _<=8;omega
 obtain⟨F,hF⟩:∃F,F=b6b V.l n:=⟨_,rfl⟩;have H0:Hid ([]++vLn V.l 10 n=F):=by rw[hF];rfl
 have HL8:Hid (F.length<=8):=by rw[hF];exact HF.out
 rw[<-hF];have k1:=h.p.c1;have H:=hI h;have HW0:=hI hw0;clear hF h hy hn HF hw0;unfold R0a;go_enter Tryz.func50,Tryz.ntmps50;go_wp2_with fail;go_loopw [1,5] (λI O wr=>∃(pre:List Int) (c:Int) (f:Nat) (ps:List o0a),I=.int .i64 c/\Hid (pre++vLn V.l f c=F)/\Hid (Way V.l c ps)/\ps.length<f/\pre.length<=8/\Hid (t1a (Value.int .i64) 3 wr w.heap.size O pre)/\Hid (Below w.heap.size w wr)) (λ_ O _=>9-Y3c O)
 case atStart=>exact⟨[],n,10,ps0,rfl,H0,HW0,by omega,by decide,t1a.nil _ _ _ _,Below.refl _ _⟩
 case round=>
  obtain⟨pre,c,f,ps,rfl,HP,HW,hf,hpl,OR,LR⟩:=hrel
  rename World=>w1
  clear H0 HW0;obtain⟨f,rfl⟩:∃g,f=g+1:=⟨f-1,by omega⟩;by_cases h1:c=1
  ·subst h1;have HR:Hid (pre=F):=by have:=HP.out;rw[A0c,List.append_nil] at this;exact this
   go_wp2_with fail;go_ret;exact⟨_,rfl,by rw[<-HR.out];exact OR.out,LR.out⟩
  ·have STEP:Hid (∃(g:Nat) (d:Int) (ps':List o0a),Way V.l d ps'/\ps'.length<f/\vLn V.l (f+1) c=c::vLn V.l f d/\c2a c/\∀w2,Below w.heap.size w w2->w2.cell? ⟨q,1,none⟩=some (.map (some m))/\(Instr.lookup 69 (.map (some m)) (.int .i64 c) false).run Tryz.prog w2=.ok (.pointer (some ⟨g,0,none⟩)) w2/\w2.cell? ⟨g,1,none⟩=some (.int .i64 d)):=by
    obtain⟨x,hx⟩:=HW.out.at H.out.ok;obtain⟨y,hy,e,en⟩:=H.out.at hx;have hwy:=HW.out;obtain⟨ps',hw',hl'⟩:∃ps',Way V.l x.par ps'/\ps'.length<f:=by
     have hxn:=(y0a hx).2;generalize hcc:c=c' at hwy;cases hwy with
     | root=>exact absurd hcc h1
     | @step x' ps' a b r=>
      rw[hcc,a] at hx;injection hx with hx
      subst hx;exact⟨ps',r,by simp at hf;omega⟩
    refine⟨y.2.g,x.par,ps',hw',hl',E0b hx h1,by rw[<-en];exact H.out.p.i64 hy,λw2 hb=>?_⟩;have p2:=H.out.p.below hb;have l2:=p2.look1 hy;rw[en] at l2;have n1:=p2.n1 hy;rw[e] at n1;exact⟨p2.c1,l2,n1⟩
   obtain⟨g,d,ps',hw',hl',hstep,hci,cells⟩:=STEP.out;have HW':=hI hw';have HP':Hid ((pre++[c])++vLn V.l f d=F):=by have:=HP.out;rw[hstep] at this;rw[List.append_assoc];exact this
   have hpl':(pre++[c]).length<=8:=by have a:=congrArg List.length HP'.out;rw[List.length_append] at a;have b:=HL8.out;omega
   have CELLS:=hI cells;have HPL:=hI hpl';clear STEP hw' hstep cells HW HP hpl' hci;go_wp2_with(first
    | ((with_reducible refine sN 21 ?_);go_loud (refine g1a rfl (.tmp 18) (.tmp 20) (Value.int .i64) (λ_=>rfl) (.int .i64 0) rfl 44 3 8 Tryz.underlying44 k2a rfl w.heap.size _ pre [c] _ rfl 1 1 rfl rfl rfl OR.out (by omega) (by omega) LR.out.size ?_);intro v5 w5 O5 G5 H5;go_loud (have L5:=hI (LR.out.trans (G5.out.belowF OR.out LR.out.size)));go_loud (obtain⟨j1,j2,j3⟩:=CELLS.out w5 L5.out))
    | fail)
   obtain⟨A5,n5,c5,rfl,h5⟩:=O5.out.holds;obtain⟨A4,n4,c4,rfl,h4⟩:=OR.out.holds;have e5:=h5.len;have e4:=h4.len;have e6:=HPL.out;rw[List.length_append] at e5 e6;simp only[List.length_cons,List.length_nil] at e5 e6;clear h5 h4;go_roundw
   case rel=>exact⟨pre++[c],d,f,ps',rfl,HP',HW',hl',HPL.out,O5,L5⟩
   case measure=>simp only[Y3c];omega
end
section
variable {DI:DrI} {EI:FiI} {w w':World} {base q m:Nat} {D:DataW Unit} {V:X0a} {M:List VN} {y:VN} {x:k0a} {n:Int} {s:o0a}
theorem PV.stop(h:PV DI EI w base q m D V M)(hy:y∈M)(hn:y.1.n=n)(hk:y.1.kind=2):∃g,∀w2,Below w.heap.size w w2->w2.cell? ⟨q,1,none⟩=some (.map (some m))/\(Instr.lookup 69 (.map (some m)) (.int .i64 n) false).run Tryz.prog w2=.ok (.pointer (some ⟨g,0,none⟩)) w2/\w2.cell? ⟨g,0,none⟩=some (.int .u8 2):=by refine⟨y.2.g,λw2 hb=>?_⟩;have p2:=h.p.below hb;have l2:=p2.look1 hy;rw[hn] at l2;have n0:=p2.n0 hy;rw[hk] at n0;exact⟨p2.c1,l2,n0⟩
theorem PV.step(h:PV DI EI w base q m D V M)(hy:y∈M)(hn:y.1.n=n)(hk:y.1.kind=1)(hs:nameOf s=true):∃(g:Nat) (u X:Value),∀w2,Below w.heap.size w w2->w2.cell? ⟨q,1,none⟩=some (.map (some m))/\(Instr.lookup 69 (.map (some m)) (.int .i64 n) false).run Tryz.prog w2=.ok (.pointer (some ⟨g,0,none⟩)) w2/\w2.cell? ⟨g,0,none⟩=some (.int .u8 1)/\w2.cell? ⟨g,3,none⟩=some u/\
  Calls Tryz.prog 42 #[u,V0a s] w2 λe w'=>e=.returned (.tuple #[.int .i64 (x0a V.l n s),X,.int .i64 (if x0a V.l n s=0 then 7 else 0)])/\Below w2.heap.size w2 w':=by
 obtain⟨K,k,d⟩:=h.p.dirs y hy hk;obtain⟨f1,f2⟩:=k.child h.ok hs;have hl:=S0a hs;refine⟨y.2.g,T1b y.2.q,.string (T6a K (ba s)).1,λw2 hb=>?_⟩;have h2:=h.below hb;have l2:=h2.p.look1 hy;have n0:=h2.p.n0 hy;have n3:=h2.p.n3 hy;rw[hk] at n0;rw[f5a hk] at n3;have c:=DI.find (DI.keep d (g0a.of_over (λ_=>False) hb) λ_ _ e=>e) h2.tb h2.p.hb (s:=ba s) (by rw[V5b];omega);rw[f1,f2] at c;rw[hn] at l2 c;exact⟨h2.p.c1,l2,n0,n3,c⟩
theorem I4b(HT:y9b DI)(h:PV DI EI w base q m D V M)(hs:s.length<=1048576):Calls Tryz.prog 13 #[R0a q,V0a s] w λe w'=>e=.returned (.tuple #[.int .i64 (A1a V.l s).1,.int .i64 (A1a V.l s).2])/\Below w.heap.size w w':=by
 have c1:=Q6a ⟨s.toArray⟩ w (by rw[W1a];omega) (h.tabs HT);unfold e2a at c1;rw[show(⟨s.toArray⟩:ByteArray).data.toList=s from rfl] at c1;obtain⟨S,hS⟩:∃S:ByteArray,S=⟨s.toArray⟩:=⟨_,rfl⟩;have hS1:V0a s=.string S:=by rw[hS];rfl
 rw[hS1];rw[<-hS] at c1;clear hS hS1;obtain⟨r,hr⟩:∃r,r=A1a V.l s:=⟨_,rfl⟩;obtain⟨r1,r2⟩:=r;rw[<-hr];have CN:=hI (A4a w q m h.p.c1);have H:=hI h;clear h;unfold R0a at CN⊢;by_cases he:h0a s=0
 ·rw[D0b he] at hr;rw[he] at c1;have hn:=B2a (l:=s);have h8:=t3a s;obtain⟨L,hL⟩:∃L,L=m0a s:=⟨_,rfl⟩;rw[<-hL] at hr c1 hn h8;have HR:=hI hr;have HN:=hI hn;have C1:=hI c1;have R1:Hid (∃y∈M,y.1.n=1):=by obtain⟨y,hy,e⟩:=H.out.node H.out.ok.mem1;exact⟨y,hy,by rw[e];rfl⟩
  clear hr hn c1 hL he;go_enter Tryz.func13,Tryz.ntmps13;go_wp2;go_step3;go_wp2_with fail;refine CN.out.mono ?_;rintro e w0 ⟨rfl,rfl⟩;go_wp2_with fail;refine C1.out.mono ?_;rintro e w1 ⟨v1,rfl,o1,l1⟩;obtain⟨A1,k1,c1,rfl,hh⟩:=o1.holds;have hlen:=hh.len;have hfit:=hh.fit;have L1:=hI l1;have HH:=hI hh;have hk8:k1<=8:=by omega
  have HLEN:=hI hlen;clear l1 hh o1 C1 hlen h8 CN;go_wp2_with fail;go_step3;go_wp2;go_loopw [7,8,24] (λE N I wr=>∃(n:Int) (i:Nat),E=.int .i64 0/\N=.int .i64 n/\I=.int .i64 (i:Nat)/\i<=k1/\Hid (∃y∈M,y.1.n=n)/\Hid (vGo V.l n (L.drop i)=(r1,r2))/\Hid (Below w1.heap.size w1 wr)) (λ_ _ I _=>k1-(intOf I).toNat)
  case atStart=>exact⟨1,0,rfl,rfl,rfl,Nat.zero_le _,R1,by rw[List.drop_zero];exact HR.out.symm,Below.refl _ _⟩
  case round=>
   obtain⟨n,i,rfl,rfl,rfl,hi,HY,HG,LR⟩:=hrel;by_cases hlt:i<k1
   ·have hil:i<L.length:=by have:=HLEN.out;omega
    obtain⟨x,hx⟩:∃x,x=L[i]:=⟨_,rfl⟩;have hxg:nameOf x=true:=HN.out x (by rw[hx];exact List.getElem_mem hil);have e1:L.drop i=x::L.drop (i+1):=by rw[hx];exact List.drop_eq_getElem_cons hil
    have e2:L[i]? = some x:=by rw[hx];exact List.getElem?_eq_getElem hil
    rw[e1] at HG;obtain⟨b,off,rfl,hb,hc⟩:=(HH.out.below LR.out).cells (by omega);have gc:=hc i x e2;obtain⟨y,hy,hyn⟩:=HY.out;have hkk:z0a V.l n=y.1.kind:=by rw[<-hyn];exact H.out.kindOf hy
    have HM1:=H.out.ok;rcases H.out.p.kind y hy with hk | hk
    ·rw[hk] at hkk;obtain⟨g,u,X,cells⟩:=H.out.step hy hyn hk hxg;obtain⟨j1,j2,j3,j4,ca⟩:=cells wr (step L1.out LR.out);obtain⟨C,hC⟩:∃C,C=x0a V.l n x:=⟨_,rfl⟩;rw[<-hC] at ca;have CA:=hI ca;have HK:=hI hkk;have HC:=hI hC;clear hx e1 e2 hc hy hyn hkk hk cells ca hC hxg HY HM1;obtain⟨X2,hX⟩:∃X:ByteArray,X=⟨x.toArray⟩:=⟨_,rfl⟩;unfold V0a at gc CA;rw[<-hX] at gc CA;clear hX;by_cases hc0:C=0
     ·subst hc0;rw[if_pos rfl] at CA;have e3:Hid ((0:Int)=r1/\(7:Int)=r2):=by have:=HG.out;rw[A3b HK.out HC.out.symm] at this;exact Prod.mk.injEq .. ▸ this
      obtain⟨rfl,rfl⟩:=e3.out;go_wp2_with fail;refine CA.out.mono ?_;rintro e w3 ⟨rfl,l3⟩;have L3:=hI (step LR.out l3);clear l3 CA gc;go_wp2;rw[Exit.noGoto_ret];go_ret2;exact⟨rfl,step L1.out L3.out⟩
     ·rw[if_neg hc0] at CA;have HG2:Hid (vGo V.l C (L.drop (i+1))=(r1,r2)):=by have:=HG.out;rw[V9b HK.out (by rw[<-HC.out];exact hc0),<-HC.out] at this;exact this
      have HY2:Hid (∃y∈M,y.1.n=C):=by have hq:=HC.out;rw[hq] at hc0⊢;obtain⟨z,hz,_,_,e⟩:=J1a hc0;obtain⟨y,hy,e2⟩:=H.out.node hz;exact⟨y,hy,by rw[e2,e]⟩
      clear hc0 HG HK HC;go_wp2_with fail;refine CA.out.mono ?_;rintro e w3 ⟨rfl,l3⟩;have L3:=hI (step LR.out l3);clear l3 CA gc;go_wp2_with fail;go_roundw
      case rel=>exact⟨C,i+1,rfl,rfl,by go_num,by omega,HY2,HG2,L3⟩
      case measure=>simp[intOf];omega
    ·rw[hk] at hkk;have e3:Hid ((0:Int)=r1/\(9:Int)=r2):=by have:=HG.out;rw[z3b (by rw[hkk];decide)] at this;exact Prod.mk.injEq .. ▸ this
     obtain⟨rfl,rfl⟩:=e3.out;obtain⟨g,cells⟩:=H.out.stop hy hyn hk;obtain⟨j1,j2,j3⟩:=cells wr (step L1.out LR.out);clear hx e1 e2 hc hy hyn hkk hk cells hxg HY HM1 e3;obtain⟨X2,hX⟩:∃X:ByteArray,X=⟨x.toArray⟩:=⟨_,rfl⟩;unfold V0a at gc;rw[<-hX] at gc;clear hX;go_wp2;rw[Exit.noGoto_ret];go_ret2;exact⟨rfl,step L1.out LR.out⟩
   ·obtain rfl:i=k1:=by omega
    have e3:Hid (n=r1/\(0:Int)=r2):=by have:=HG.out;rw[List.drop_of_length_le (by have:=HLEN.out;omega)] at this;exact Prod.mk.injEq .. ▸ this
    obtain⟨rfl,rfl⟩:=e3.out;go_wp2;go_ret2;exact⟨rfl,step L1.out LR.out⟩
 ·rw[S8a he] at hr;obtain⟨E,hE⟩:∃E,E=h0a s:=⟨_,rfl⟩;rw[<-hE] at c1 hr he;injection hr with hr1 hr2
  subst hr1 hr2;have C1:=hI c1;clear c1 hE H;go_enter Tryz.func13,Tryz.ntmps13;go_wp2;go_step3;go_wp2_with fail;refine CN.out.mono ?_;rintro e w0 ⟨rfl,rfl⟩;go_wp2_with fail;refine C1.out.mono ?_;rintro e w1 ⟨v1,rfl,o1,l1⟩;have L1:=hI l1;clear o1 l1;go_wp2_with fail;rw[Exit.noGoto_ret];go_ret2;exact⟨rfl,L1.out⟩
end
section
variable {V:X0a} {m n t:Int} {x:k0a} {ps qs:List o0a}
theorem Y2c(h:Vok V)(hn:Way V.l n qs)(h1:n≠1)(hw:Way V.l m ps):∀f i,ps.length<f->
  Lib.idxFrom (vLn V.l f m) n i=(if m=n then (i:Int) else if x3b V.l (ps.length+1) m n=true then ((i+(ps.length-qs.length):Nat):Int) else -1)/\(m≠n->x3b V.l (ps.length+1) m n=true->qs.length<ps.length):=by
 induction hw with
 | root=>
  intro f i hf;cases f with
  | zero=>omega
  | succ f=>
   rw[A0c,if_neg (λe=>h1 e.symm),E2c h];exact⟨rfl,λ_ e=>by cases e⟩
 | @step x ps a b c ih=>
  intro f i hf;cases f with
  | zero=>omega
  | succ f=>
   have hx1:1<x.n:=by have:=(h.num x (y0a a).1).1;omega
   rw[E0b a b,q7b h a hx1];show(if x.n=n then (i:Int) else Lib.idxFrom (vLn V.l f x.par) n (i+1))=_/\_
   obtain⟨i1,i2⟩:=ih f (i+1) (by simp at hf;omega);by_cases hxn:x.n=n
   ·rw[if_pos hxn,if_pos hxn];exact⟨rfl,λe=>absurd hxn e⟩
   ·rw[if_neg hxn,if_neg hxn,i1];by_cases hp:x.par=n
    ·have hps:ps=qs:=by rw[hp] at c;exact c.same hn
     rw[if_pos hp,decide_eq_true hp,Bool.true_or,if_pos rfl,hps];simp
    ·rw[if_neg hp,decide_eq_false hp,Bool.false_or];by_cases hb:x3b V.l (ps.length+1) x.par n=true
     ·have:=i2 hp hb;rw[if_pos hb,if_pos hb];simp;omega
     ·rw[if_neg hb,if_neg hb];exact⟨rfl,λ_ e=>absurd e hb⟩
def ixV(L:List k0a)(n m:Int):Int:=Lib.idxOf (b6b L m) n
theorem Z3c(h:Vok V)(hn:Way V.l n qs)(hq:qs.length<=8)(h1:n≠1)(hw:Way V.l m ps)(hp:ps.length<=8) :
  ixV V.l n m=(if m=n then 0 else if i4a V.l m n=true then (((D1a V.l m).length-(D1a V.l n).length:Nat):Int) else -1):=by
 obtain⟨i1,_⟩:=Y2c h hn h1 hw 10 0 (by omega);unfold ixV Lib.idxOf b6b i4a;rw[i1,hn.names hq,hw.names hp,hw.bel h 10 (by omega)];simp
theorem r6a(f:k0a->Bool)(g:k0a->Nat):∀(l:List k0a) (m:Nat),l.foldl (λm x=>if f x=true then max m (g x) else m) m=m∨∃x∈l,f x=true/\l.foldl (λm x=>if f x=true then max m (g x) else m) m=g x
 | [],m=>.inl rfl
 | y::r,m=>by
  rw[List.foldl_cons];rcases r6a f g r (if f y=true then max m (g y) else m) with h | ⟨x,hx,h1,h2⟩
  ·rw[h];by_cases hy:f y=true
   ·rw[if_pos hy];rcases Nat.le_total m (g y) with h3 | h3
    ·exact .inr ⟨y,List.mem_cons_self ..,hy,Nat.max_eq_right h3⟩
    ·exact .inl (Nat.max_eq_left h3)
   ·rw[if_neg hy];exact .inl rfl
  ·exact .inr ⟨x,List.mem_cons_of_mem _ hx,h1,h2⟩
theorem s4c(h:Vok V)(hx0:x∈V.l)(h1:x.n≠1){k:Nat}(ha:∀y∈V.l,ixV V.l x.n y.n<=(k:Int))(hb:k=0∨∃y∈V.l,ixV V.l x.n y.n=(k:Int)):k=t4a V.l x.n:=by
 obtain⟨qs,hn,hq⟩:=h.way x hx0;have key:∀y∈V.l,ixV V.l x.n y.n=(if y.n=x.n then 0 else if i4a V.l y.n x.n=true then (((D1a V.l y.n).length-(D1a V.l x.n).length:Nat):Int) else -1):=λy hy=>by obtain⟨ps,hw,hp⟩:=h.way y hy;exact Z3c h hn hq h1 hw hp
 have hle:∀y∈V.l,i4a V.l y.n x.n=true->(D1a V.l y.n).length-(D1a V.l x.n).length<=t4a V.l x.n:=λy hy hu=>by have:=(V6a (λz=>i4a V.l z.n x.n) (λz=>(D1a V.l z.n).length-(D1a V.l x.n).length) V.l 0).2 y hy hu;unfold t4a b5a;rw[List.take_length];exact this
 have hhas:t4a V.l x.n=0∨∃y∈V.l,i4a V.l y.n x.n=true/\t4a V.l x.n=(D1a V.l y.n).length-(D1a V.l x.n).length:=by have:=r6a (λz=>i4a V.l z.n x.n) (λz=>(D1a V.l z.n).length-(D1a V.l x.n).length) V.l 0;unfold t4a b5a;rw[List.take_length];exact this
 have a1:k<=t4a V.l x.n:=by
  rcases hb with rfl | ⟨y,hy,e⟩
  ·exact Nat.zero_le _
  ·rw[key y hy] at e;by_cases e1:y.n=x.n
   ·rw[if_pos e1] at e;omega
   ·rw[if_neg e1] at e;by_cases e2:i4a V.l y.n x.n=true
    ·rw[if_pos e2] at e;have:=hle y hy e2;omega
    ·rw[if_neg e2] at e;omega
 have a2:t4a V.l x.n<=k:=by
  rcases hhas with e | ⟨y,hy,hu,e⟩
  ·omega
  ·have h3:=ha y hy;rw[key y hy] at h3;by_cases e1:y.n=x.n
   ·rw[e,e1];omega
   ·rw[if_neg e1,if_pos hu] at h3;omega
 omega
theorem Z2c(h:Vok V){y:k0a}(hy:y∈V.l)(hx0:x∈V.l)(h1:x.n≠1):-1<=ixV V.l x.n y.n/\ixV V.l x.n y.n<=8:=by
 obtain⟨qs,hn,hq⟩:=h.way x hx0;obtain⟨ps,hw,hp⟩:=h.way y hy;rw[Z3c h hn hq h1 hw hp,hw.names hp,hn.names hq];split
 ·omega
 ·split<;>omega
end
def z7b(M:List VN)(left:Lit->Bool):Nat:=(M.map λy=>if left (.int .i64 y.1.n)=true then 0 else y.1.B.length).sum
section
variable {M:List VN} {left:Lit->Bool} {y:VN}
theorem g8b(h:∀y∈M,left (.int .i64 y.1.n)=true):z7b M left=0:=by
 unfold z7b
 induction M with
 | nil=>rfl
 | cons z r ih=>rw[List.map_cons,List.sum_cons,if_pos (h z (List.mem_cons_self ..)),ih λy hy=>h y (List.mem_cons_of_mem _ hy)]
theorem a3c(h:∀kl,left kl=false):z7b M left=T0a (M.map (·.1)):=by
 unfold z7b T0a;rw[List.map_map]
 congr 1
 refine List.map_congr_left λz hz=>?_
 rw[h];rfl
theorem e7a{z:VN}(h:z.1.n≠y.1.n):(left (.int .i64 z.1.n) && !(Lit.int .i64 z.1.n).sameKey (.int .i64 y.1.n))=left (.int .i64 z.1.n):=by rw[Maps.sameKey_ne (λe=>h (by injection e)),Bool.not_false,Bool.and_true]
theorem c6b:(left (.int .i64 y.1.n) && !(Lit.int .i64 y.1.n).sameKey (.int .i64 y.1.n))=false:=by rw[WideAt.sameKey_self (b5c _),Bool.not_true,Bool.and_false]
theorem J4b:∀{M:List VN},M.Pairwise (λy z=>y.1.n<z.1.n)->y∈M->left (.int .i64 y.1.n)=true->z7b M (λz=>left z && !z.sameKey (.int .i64 y.1.n))=z7b M left+y.1.B.length
 | [],_,hy,_=>by cases hy
 | z::r,hp,hy,hl=>by
  obtain⟨p1,p2⟩:=List.pairwise_cons.1 hp;unfold z7b;rw[List.map_cons,List.sum_cons,List.map_cons,List.sum_cons];rcases List.mem_cons.1 hy with rfl | hy
  ·have e:(r.map λx:VN=>if (left (.int .i64 x.1.n) && !(Lit.int .i64 x.1.n).sameKey (.int .i64 y.1.n))=true then 0 else x.1.B.length)=r.map λx=>if left (.int .i64 x.1.n)=true then 0 else x.1.B.length:=List.map_congr_left λx hx=>by rw[e7a (λe=>by have:=p1 x hx;omega)]
   rw[e];show((if (left (.int .i64 y.1.n) && !(Lit.int .i64 y.1.n).sameKey (.int .i64 y.1.n))=true then 0 else y.1.B.length)+_:Nat)=_
   rw[c6b,if_pos hl,if_neg (by decide)];omega
  ·have ih:=J4b p2 hy hl;unfold z7b at ih;rw[ih];show((if (left (.int .i64 z.1.n) && !(Lit.int .i64 z.1.n).sameKey (.int .i64 y.1.n))=true then 0 else z.1.B.length)+_:Nat)=_
   rw[e7a (y:=y) (z:=z) (λe=>by have:=p1 y hy;omega)];omega
theorem t4c:z7b M left<=T0a (M.map (·.1)):=by
 unfold z7b T0a;rw[List.map_map]
 induction M with
 | nil=>exact Nat.le_refl _
 | cons z r ih=>
  rw[List.map_cons,List.sum_cons,List.map_cons,List.sum_cons];have:(if left (.int .i64 z.1.n)=true then 0 else z.1.B.length)<=z.1.B.length:=by split<;>omega
  simp only[Function.comp] at ih⊢;omega
end
section
variable {DI:DrI} {EI:FiI} {w w':World} {base q m:Nat} {D:DataW Unit} {V:X0a} {M:List VN} {y z:VN} {x:k0a} {n:Int} {s:o0a}
theorem K4b(HT:y9b DI)(h:PV DI EI w base q m D V M)(hs:s.length<=1048576){E:Int}(hE:F0a s=E)(h0:E≠0):Calls Tryz.prog 66 #[R0a q,V0a s] w λe w'=>e=.returned (.tuple #[.int .i64 0,V0a [],.int .i64 E])/\Below w.heap.size w w':=by
 have c1:=B9a ⟨s.toArray⟩ w (by rw[W1a];omega) (h.tabs HT);unfold A3a at c1;rw[show(⟨s.toArray⟩:ByteArray).data.toList=s from rfl,hE] at c1;obtain⟨S,hS⟩:∃S:ByteArray,S=⟨s.toArray⟩:=⟨_,rfl⟩;obtain⟨Q,hQ⟩:∃S:ByteArray,S=⟨(n2a s).toArray⟩:=⟨_,rfl⟩;obtain⟨Z,hZ⟩:∃S:ByteArray,S=⟨(lastOf s).toArray⟩:=⟨_,rfl⟩;have hS1:V0a s=.string S:=by rw[hS];rfl
 rw[<-hS,<-hQ,<-hZ] at c1;rw[hS1];have C1:=hI c1;clear c1 hS hS1 hQ hZ h hE;unfold R0a;go_enter Tryz.func66,Tryz.ntmps66;go_wp2_with fail;refine C1.out.mono ?_;rintro e w1 ⟨rfl,l1⟩;have L1:=hI l1;clear l1 C1;go_wp2_with fail;go_ret3;exact⟨rfl,L1.out⟩
theorem b9a(HT:y9b DI)(h:PV DI EI w base q m D V M)(hs:s.length<=1048576)(hE:F0a s=0):Calls Tryz.prog 66 #[R0a q,V0a s] w λe w'=>e=.returned (.tuple #[.int .i64 (P0a V.l s),V0a (Q0a V.l s),.int .i64 (l3a V.l s)])/\Below w.heap.size w w':=by
 have c1:=B9a ⟨s.toArray⟩ w (by rw[W1a];omega) (h.tabs HT);unfold A3a at c1;rw[show(⟨s.toArray⟩:ByteArray).data.toList=s from rfl,hE] at c1;have hdl:=(U5b s).1;obtain⟨d,hd⟩:∃d,d=n2a s:=⟨_,rfl⟩;obtain⟨z,hz⟩:∃z,z=lastOf s:=⟨_,rfl⟩;have c2:∀w1,Below w.heap.size w w1->_:=λw1 hb=>I4b HT (h.below hb) (s:=d) (by rw[hd];omega)
 obtain⟨fe,hfe⟩:∃fe,fe=(A1a V.l d).2:=⟨_,rfl⟩;obtain⟨fn,hfn⟩:∃fn,fn=(A1a V.l d).1:=⟨_,rfl⟩;have hE:l3a V.l s=if fe≠0 then fe else if z0a V.l fn≠1 then 9 else 0:=by unfold l3a;rw[<-hd,<-hfe,<-hfn]
 have hNn:P0a V.l s=if l3a V.l s=0 then fn else 0:=by unfold P0a;rw[<-hd,<-hfn]
 have hNs:Q0a V.l s=if l3a V.l s=0 then z else []:=by unfold Q0a;rw[<-hz]
 have hnode:fe=0->∃y∈M,y.1.n=fn:=λe=>by
  by_cases hp:h0a d=0
  ·rw[D0b hp] at hfe hfn;obtain⟨rs,hw,_⟩:=h.ok.go (n:=fn) Way.root (qs:=m0a d) (by rw[hfn];exact Prod.ext rfl (hfe.symm.trans e));obtain⟨x,hx⟩:=hw.at h.ok;obtain⟨y,hy,_,en⟩:=h.at hx;exact⟨y,hy,en⟩
  ·rw[S8a hp] at hfe;exact absurd (hfe.symm.trans e) hp
 rw[hNn,hNs,hE];rw[<-hd,<-hz] at c1;rw[<-hfe,<-hfn] at c2;obtain⟨Q,hQ⟩:∃Q:ByteArray,Q=⟨d.toArray⟩:=⟨_,rfl⟩;obtain⟨Z,hZ⟩:∃Z:ByteArray,Z=⟨z.toArray⟩:=⟨_,rfl⟩;obtain⟨S,hS⟩:∃S:ByteArray,S=⟨s.toArray⟩:=⟨_,rfl⟩;have hS1:V0a s=.string S:=by rw[hS];rfl
 have hZ1:V0a z=.string Z:=by rw[hZ];rfl
 have hQ1:V0a d=.string Q:=by rw[hQ];rfl
 rw[<-hQ,<-hZ,<-hS] at c1;rw[hQ1] at c2;rw[hS1];have C1:=hI c1;have C2:=hI c2;have HZ1:=hI hZ1;have H:=hI h;have HNODE:=hI hnode;clear c1 c2 hE hNn hNs hd hz hfe hfn hQ hZ hS hS1 hQ1 hZ1 hdl hnode h;unfold R0a at C2⊢;by_cases h1:fe=0
 ·subst h1;obtain⟨y,hy,hyn⟩:=HNODE.out rfl;rcases H.out.p.kind y hy with hk | hk
  ·have hkk:z0a V.l fn=1:=by rw[<-hyn,H.out.kindOf hy,hk]
   rw[hkk,show(if (0:Int)≠0 then (0:Int) else if (1:Int)≠1 then 9 else 0)=0 from rfl,if_pos rfl,if_pos rfl,HZ1.out];have FACT:Hid (∃g,∀w2,Below w.heap.size w w2->w2.cell? ⟨q,1,none⟩=some (.map (some m))/\(Instr.lookup 69 (.map (some m)) (.int .i64 fn) false).run Tryz.prog w2=.ok (.pointer (some ⟨g,0,none⟩)) w2/\w2.cell? ⟨g,0,none⟩=some (.int .u8 1)):=⟨y.2.g,λw2 hb=>by have p2:=H.out.p.below hb;have l2:=p2.look1 hy;rw[hyn] at l2;have n0:=p2.n0 hy;rw[hk] at n0;exact⟨p2.c1,l2,n0⟩⟩
   obtain⟨g,cells⟩:=FACT.out;have CELLS:=hI cells;clear hy hyn hk hkk FACT cells;go_enter Tryz.func66,Tryz.ntmps66;go_wp2_with fail;refine C1.out.mono ?_;rintro e w1 ⟨rfl,l1⟩;have L1:=hI l1;have D2:=hI (C2.out w1 l1);clear l1 C1;go_wp2_with fail;refine D2.out.mono ?_;rintro e w2 ⟨rfl,l2⟩;have L2:=hI (step L1.out l2);obtain⟨j1,j2,j3⟩:=CELLS.out w2 L2.out;clear l2 C2 D2;go_wp2_with fail;go_ret3;exact⟨rfl,L2.out⟩
  ·have hkk:z0a V.l fn=2:=by rw[<-hyn,H.out.kindOf hy,hk]
   rw[hkk,show(if (0:Int)≠0 then (0:Int) else if (2:Int)≠1 then 9 else 0)=9 from rfl,if_neg (by decide),if_neg (by decide)];obtain⟨g,cells⟩:=H.out.stop hy hyn hk;have CELLS:=hI cells;clear hy hyn hk hkk cells;go_enter Tryz.func66,Tryz.ntmps66;go_wp2_with fail;refine C1.out.mono ?_;rintro e w1 ⟨rfl,l1⟩;have L1:=hI l1;have D2:=hI (C2.out w1 l1);clear l1 C1;go_wp2_with fail;refine D2.out.mono ?_;rintro e w2 ⟨rfl,l2⟩;have L2:=hI (step L1.out l2);obtain⟨j1,j2,j3⟩:=CELLS.out w2 L2.out;clear l2 C2 D2;go_wp2_with fail;go_ret3;exact⟨rfl,L2.out⟩
 ·rw[if_pos h1,if_neg h1,if_neg h1];have t:(fe != 0)=true:=by simpa using h1
  clear h1 HNODE;go_enter Tryz.func66,Tryz.ntmps66;go_wp2_with fail;refine C1.out.mono ?_;rintro e w1 ⟨rfl,l1⟩;have L1:=hI l1;have D2:=hI (C2.out w1 l1);clear l1 C1;go_wp2_with fail;refine D2.out.mono ?_;rintro e w2 ⟨rfl,l2⟩;have L2:=hI (step L1.out l2);clear l2 C2 D2;go_wp2_with fail;go_ret3;exact⟨rfl,L2.out⟩
def M9a(k k':Int)(o:Bool):Int:=if o=false then 8 else if k=1∨k'=1 then 9 else 0
theorem d6b(h:o2a DI EI w base q m D V.quota V.last M (l5a V.l))(hz:z∈M)(hy:y∈M){t:Int}(hzn:z.1.n=t)(hyn:y.1.n=n)(o:Bool):Calls Tryz.prog 68 #[R0a q,.int .i64 t,.int .i64 n,.bool o] w λe w'=>e=.returned (.int .i64 (M9a z.1.kind y.1.kind o))/\w=w':=by
 have k1:=h.c1;have lz:=h.look1 hz;have ly:=h.look1 hy;have nz:=h.n0 hz;have ny:=h.n0 hy;rw[hzn] at lz;rw[hyn] at ly;have hkz:=h.kind z hz;have hky:=h.kind y hy;obtain⟨gz,hgz⟩:∃g,g=z.2.g:=⟨_,rfl⟩;obtain⟨gy,hgy⟩:∃g,g=y.2.g:=⟨_,rfl⟩;obtain⟨kz,hkz'⟩:∃g,g=z.1.kind:=⟨_,rfl⟩;obtain⟨ky,hky'⟩:∃g,g=y.1.kind:=⟨_,rfl⟩;rw[<-hgz] at lz nz;rw[<-hgy] at ly ny;rw[<-hkz'] at nz hkz⊢;rw[<-hky'] at ny hky⊢;clear h hz hy hzn hyn hgz hgy hkz' hky';unfold R0a at lz ly⊢;cases o with
 | false=>
  go_enter Tryz.func68,Tryz.ntmps68;go_wp2_with fail;go_ret;exact⟨rfl,rfl⟩
 | true=>
  rcases hkz with rfl | rfl
  ·go_enter Tryz.func68,Tryz.ntmps68;go_wp2_with fail;go_ret;exact⟨rfl,rfl⟩
  ·rcases hky with rfl | rfl
   ·go_enter Tryz.func68,Tryz.ntmps68;go_wp2_with fail;go_ret;exact⟨rfl,rfl⟩
   ·go_enter Tryz.func68,Tryz.ntmps68;go_wp2_with fail;go_ret;exact⟨rfl,rfl⟩
theorem h8b(w:World)(B:Nat)(A:Option Addr)(k c:Nat)(zs:List Int)(hh:U0a (Value.int .i64) w B A k c zs)(x:Int)(hk:k<=9223372036854775807):Calls Tryz.prog 117 #[.slice A k c,.int .i64 x] w λe w'=>e=.returned (.int .i64 (Lib.idxOf zs x))/\w=w':=by
 have hl:=hh.len;by_cases h0:k=0
 ·subst h0;obtain rfl:zs=[]:=List.eq_nil_of_length_eq_zero hl;refine(Tryz.slices_Index_int_empty A c x w).mono ?_;rintro e w' ⟨rfl,rfl⟩;exact⟨rfl,rfl⟩
 ·obtain⟨b,off,rfl,_,hc⟩:=hh.cells (by omega);refine(Tryz.slices_Index_int b off k c zs x w (by omega) hk λj hj=>?_).mono ?_
  ·rw[hc j zs[j] (List.getElem?_eq_getElem hj),List.getD_eq_getElem?_getD,List.getElem?_eq_getElem hj];rfl
  ·rintro e w' ⟨rfl,rfl⟩;rw[List.take_of_length_le (by omega)];exact⟨rfl,rfl⟩
abbrev g2c(w:World)(m r N:Nat)(D:DataW Unit)(left:Lit->Bool)(cnt:Nat):Prop:=w.ranges Tryz.prog 3 g4b m r N D left cnt
theorem g2c.below{r N cnt:Nat}{left:Lit->Bool}(h:g2c w m r N D left cnt)(hb:Below w.heap.size w w'):g2c w' m r N D left cnt:=World.ranges.kept h (row:=none) ⟨hb.os,hb.tape,hb.output,hb.size,λi hi _=>hb.block i hi⟩ (by simp) (by simp)
theorem f7a{ops:Array Oper}{rest:List Oper}{o:Oper}{a:Act}{Q:Exit->Act->World->Prop}(hg:o.guard=none)(it:Operand)(hop:o.op=Op.next it false)(r N:Nat)(L:List (Int×Nat))(left:Lit->Bool)(cnt:Nat)
(hit:a.eval it=.pointer (some ⟨r,0,none⟩))(h:g2c w m r N D left cnt)(hN:x7b D L)
(hDone:cnt=0->(∀kl,left kl=false)->wpList Tryz.prog ops Q rest (a.put o.dst (.tuple #[.bool false])) w)
(hMore:∀(k:Int) (g:Nat) (w':World) (cnt':Nat),(k,g)∈L->left (.int .i64 k)=true->g2c w' m r N D (λz=>left z && !z.sameKey (.int .i64 k)) cnt'->cnt'<cnt->w.grownBy w' (some r)->w'.heap.size=w.heap.size->
   (Instr.entry (.pointer (some ⟨r,0,none⟩))).run Tryz.prog w'=.ok (.tuple #[.int .i64 k,.pointer (some ⟨g,0,none⟩)]) w'->wpList Tryz.prog ops Q rest (a.put o.dst (.tuple #[.bool true,.int .i64 k,.pointer (some ⟨g,0,none⟩)])) w') :
  wpList Tryz.prog ops Q (o::rest) a w:=
 wpList_next_ranges w hg it hop 3 u3a g4b (Value.int .i64) Value.pointer (λkey kl hkey=>by obtain⟨x,rfl,_⟩:=Maps.keyOf_int_inv Tryz.underlying3 hkey;exact⟨x,rfl⟩) (λv y hv=>R2c hv) m r N D left cnt hit h hDone
  (λx c kl y w' cnt' hkey hlk hv hat hrg hlt hgr hsz hen=>by
   obtain⟨x',ex,rfl,hwx⟩:=Maps.keyOf_int_inv Tryz.underlying3 hkey;cases ex;have hh:=Maps.has_true_of_atKey hat;rw[hN.has,List.any_eq_true] at hh;obtain⟨p,hp,e⟩:=hh;have e:p.1=x:=by simpa using e
   subst e;have h3:=hat (.lit (.int .i64 0));rw[hN.num p hp] at h3;obtain⟨y1,y2⟩:=y;have h3:DataW.lit (.int .i64 (p.2:Nat))=y1:=h3;subst h3;have h4:=I3b hv;unfold R0a at h4;rw[h4] at hen⊢;exact hMore p.1 p.2 w' cnt' hp hlk hrg hlt hgr hsz hen)
def N4c(V:X0a)(M:List VN)(n:Int)(left:Lit->Bool)(k:Nat):Prop:=(∀y∈M,left (.int .i64 y.1.n)=false->ixV V.l n y.1.n<=(k:Int))/\(k=0∨∃y∈M,ixV V.l n y.1.n=(k:Int))
theorem N4c.step{left:Lit->Bool}{k:Nat}(h:PV DI EI w base q m D V M)(a:N4c V M n left k)(hy:y∈M):N4c V M n (λz=>left z && !z.sameKey (.int .i64 y.1.n)) (max (k:Int) (ixV V.l n y.1.n)).toNat:=by
 refine⟨λz hz hl=>?_,?_⟩
 ·by_cases e:z.1.n=y.1.n
  ·rw[h.p.same hz hy e];omega
  ·have hl':left (.int .i64 z.1.n)=false:=by rw[<-e7a (left:=left) e];exact hl
   have:=a.1 z hz hl';omega
 ·rcases Int.le_total (ixV V.l n y.1.n) (k:Int) with h1 | h1
  ·have e:(max (k:Int) (ixV V.l n y.1.n)).toNat=k:=by omega
   rw[e];exact a.2
  ·exact .inr ⟨y,hy,by omega⟩
theorem A7b(h:o2a DI EI w base q m D V.quota V.last M (l5a V.l)):∀y∈M,Maps.has D (.int .i64 y.1.n)=true:=λy hy=>by rw[h.is.has,List.any_eq_true];exact⟨_,z4a hy,by simp⟩
theorem i8b(h:PV DI EI w base q m D V M)(hy:y∈M)(hn:y.1.n=n)(h1:n≠1):Calls Tryz.prog 67 #[R0a q,.int .i64 n] w λe w'=>e=.returned (.int .i64 (t4a V.l n:Nat))/\Below w.heap.size w w':=by
 have k1:=h.p.c1;have NM:=hI h.p.is;have MP:=hI h.p.map;have H:=hI h;have SM:Hid (∀z∈M,-1<=ixV V.l n z.1.n/\ixV V.l n z.1.n<=8):=λz hz=>by have:=Z2c h.ok (h.mem hz) (h.mem hy) (by rw[hn];exact h1);rw[hn] at this;exact this
 have FIN:Hid (∀k:Nat,N4c V M n (λ_=>false) k->k=t4a V.l n):=λk a=>by
  have:=s4c h.ok (h.mem hy) (by rw[hn];exact h1) (k:=k) (λx hx=>by obtain⟨z,hz,e⟩:=h.node hx;have:=a.1 z hz rfl;rw[e] at this;rw[hn];exact this) (a.2.imp id fun⟨z,hz,e⟩=>⟨z.1,h.mem hz,by rw[hn];exact e⟩)
  rw[hn] at this;exact this
 have M0:Hid (N4c V M n (Maps.has D) 0):=⟨λz hz hl=>(by rw[A7b h.p z hz] at hl;cases hl),.inl rfl⟩;clear h hy hn;unfold R0a;go_enter Tryz.func67,Tryz.ntmps67;go_wp2_with(first
  | ((with_reducible refine sN 11 ?_);go_loud (refine wpList_range_own _ rfl (.tmp 10) 69 rfl 3 81 u3a Tryz.underlying69 g4b m M.length D rfl MP.out ?_);intro w0 rg0 g0 s0;have RG0:Hid (g2c w0 m w.heap.size M.length D (Maps.has D) (Maps.size D)):=rg0;have L0:Hid (Below w.heap.size w w0):=(Below.refl _ w).grown g0 (Nat.le_refl _) (λj hj=>by cases hj);clear rg0 g0 s0)
  | fail)
 go_frame;go_loopw [5] (λO wr=>∃(left:Lit->Bool) (cnt k:Nat),O=.int .i64 (k:Nat)/\k<=8/\Hid (g2c wr m w.heap.size M.length D left cnt)/\Hid (N4c V M n left k)/\Hid (Below w.heap.size w wr)) (λ_ wr=>wr.rangeLeft m w.heap.size)
 case atStart=>exact⟨_,_,0,rfl,by omega,RG0,M0,L0⟩
 case round=>
  obtain⟨left,cnt,k,rfl,hk,RG,MO,LR⟩:=hrel
  rename World=>w1
  clear RG0 M0 L0;go_wp2_with(first
   | ((with_reducible refine sN 12 ?_);go_loud (refine f7a rfl (.tmp 11) rfl w.heap.size M.length (nums M) left cnt rfl RG.out NM.out ?_ ?_))
   | fail)
  ·intro hc hl;have e0:left=λ_=>false:=funext hl
   subst e0;have HK:=hI (FIN.out k MO.out);clear hl hc;go_wp2_with fail;go_ret;exact⟨by rw[HK.out];rfl,LR.out⟩
  ·intro p g w2 cnt2 hp hlp rg2 hlt g2 s2 hen;obtain⟨z,hz,ez⟩:=List.mem_map.1 hp;injection ez with e1 e2
   subst e1;have L2:Hid (Below w.heap.size w w2):=LR.out.grown g2 LR.out.size (λj hj=>by injection hj with hj;omega);have MO2:=hI (MO.out.step H.out hz);have CL:=hI (m1b (H.out.below L2.out) hz rfl);have hsm:=SM.out z hz;have RG2:=hI rg2;have HLT:Hid (w2.rangeLeft m w.heap.size<w1.rangeLeft m w.heap.size):=by
    show _<_
    rw[World.ranges.left_eq rg2,World.ranges.left_eq RG.out];exact hlt
   obtain⟨zn,hzn⟩:∃zn,zn=z.1.n:=⟨_,rfl⟩;obtain⟨ix,hix⟩:∃ix,ix=ixV V.l n z.1.n:=⟨_,rfl⟩;have HIX:Hid (Lib.idxOf (b6b V.l zn) n=ix):=by rw[hzn,hix];rfl
   rw[<-hix] at MO2 hsm;rw[<-hzn] at CL RG2 hen MO2;clear hp hlp rg2 hlt g2 hz hix hzn RG MO e2 s2;unfold R0a at CL;go_wp2_with fail;refine CL.out.mono ?_;rintro e w3 ⟨v3,rfl,o3,l3⟩;obtain⟨A,k3,c3,rfl,hh⟩:=o3.holds;have hl3:=hh.len;have hf3:=hh.fit;have L3:=hI (step L2.out l3);have RG3:=hI (RG2.out.below l3);have HLT3:Hid (w3.rangeLeft m w.heap.size<w1.rangeLeft m w.heap.size):=by
    show _<_
    rw[World.ranges.left_eq RG3.out,<-World.ranges.left_eq RG2.out];exact HLT.out
   have hk3:k3<=9223372036854775807:=by
    rcases o3.open with⟨_,_,_,e,_,_,h3,_⟩
    injection e with _ e2 _
    omega
   have CX:=hI (h8b w3 _ A k3 c3 _ hh n hk3);rw[HIX.out] at CX;clear o3 hh l3 CL RG2 HLT hl3 hf3 hk3;go_wp2_with fail;refine CX.out.mono ?_;rintro e w4 ⟨rfl,rfl⟩;clear CX;have e5:∃k':Nat,(max (k:Int) ix)=(k':Int)/\k'<=8/\k'=(max (k:Int) ix).toNat:=⟨(max (k:Int) ix).toNat,by omega,by omega,rfl⟩;obtain⟨k',hk1,hk2,hk3⟩:=e5;rw[<-hk3] at MO2;clear hk3;go_wp2_with fail;go_roundw
   case rel=>exact⟨_,_,k',by go_num,hk2,RG3,MO2,L3⟩
   case measure=>exact HLT3.out
end
end Go.Proofs.YtdgpbhdihhchgaaGreatDoor
namespace Go.Proofs
open Go.Shelf
def Tryz.keysA_ren:Go.Shelf.Ren:=⟨fun | 7=>60 | 10=>109 | n=>n,fun | 23=>69 | 26=>3 | 3=>81 | 28=>120 | 0=>0 | 27=>119 | 33=>153 | 4=>4 | n=>n,fun | n=>n⟩
theorem Tryz.keysA:Go.Proofs.SlLaysZI.n7 Tryz.prog Tryz.keysA_ren:={
 mixed:=by kernel_rfl
 f7:=⟨Tryz.f60.name,by decide,Tryz.func60.trans (congrArg some (by kernel_rfl))⟩
 f10:=⟨Tryz.f109.name,by decide,Tryz.func109.trans (congrArg some (by kernel_rfl))⟩
 t0:=Tryz.underlying0
 a0:=Tryz.isAgg0
 z0:=Tryz.sizeOf0
 v0:=Tryz.zeroValue0
 t4:=Tryz.underlying4
 a4:=Tryz.isAgg4
 z4:=Tryz.sizeOf4
 v4:=Tryz.zeroValue4
 t23:=Tryz.underlying69
 a23:=Tryz.isAgg69
 z23:=Tryz.sizeOf69
 v23:=Tryz.zeroValue69
 t26:=Tryz.underlying3
 a26:=Tryz.isAgg3
 z26:=Tryz.sizeOf3
 v26:=Tryz.zeroValue3
 t27:=Tryz.underlying119
 a27:=Tryz.isAgg119
 z27:=Tryz.sizeOf119
 v27:=Tryz.zeroValue119
 t28:=Tryz.underlying120
 a28:=Tryz.isAgg120
 z28:=Tryz.sizeOf120
 v28:=Tryz.zeroValue120
 t33:=Tryz.underlying153
 a33:=Tryz.isAgg153
 z33:=Tryz.sizeOf153
 v33:=Tryz.zeroValue153 }
def Tryz.sortedA_ren:Go.Shelf.Ren:=⟨fun | 6=>59 | 8=>107 | 9=>108 | 11=>158 | 13=>160 | 12=>159 | 23=>195 | 24=>196 | 14=>186 | 15=>187 | 16=>188 | 17=>189 | 18=>190 | 19=>191 | 20=>192 | 21=>193 | 22=>194 | 25=>213 | 26=>214 | 27=>215 | 28=>216 | 29=>217 | 30=>218 | 31=>226 | n=>n,fun | 26=>3 | 28=>120 | 24=>44 | 0=>0 | 3=>3 | 37=>196 | 48=>204 | 50=>219 | 4=>4 | 40=>212 | 39=>211 | 45=>178 | 5=>5 | 9=>9 | 51=>237 | 55=>241 | 57=>247 | 58=>191 | 33=>153 | n=>n,fun | n=>n⟩
theorem Tryz.sortedA:Go.Proofs.SlLaysZI.n6 Tryz.prog Tryz.sortedA_ren:={
 mixed:=by kernel_rfl
 f6:=⟨Tryz.f59.name,by decide,Tryz.func59.trans (congrArg some (by kernel_rfl))⟩
 f8:=⟨Tryz.f107.name,by decide,Tryz.func107.trans (congrArg some (by kernel_rfl))⟩
 f11:=⟨Tryz.f158.name,by decide,Tryz.func158.trans (congrArg some (by kernel_rfl))⟩
 t0:=Tryz.underlying0
 a0:=Tryz.isAgg0
 z0:=Tryz.sizeOf0
 v0:=Tryz.zeroValue0
 t24:=Tryz.underlying44
 a24:=Tryz.isAgg44
 z24:=Tryz.sizeOf44
 v24:=Tryz.zeroValue44
 t26:=Tryz.underlying3
 a26:=Tryz.isAgg3
 z26:=Tryz.sizeOf3
 v26:=Tryz.zeroValue3
 t28:=Tryz.underlying120
 a28:=Tryz.isAgg120
 z28:=Tryz.sizeOf120
 v28:=Tryz.zeroValue120
 i26:=by kernel_rfl }
end Go.Proofs
namespace Go.Proofs.YtdgpbhdihhchgaaGreatDoor
set_option maxRecDepth 100000
open Go.RowKit
section
variable {DI:DrI} {EI:FiI} {w w':World} {base q m:Nat} {D:DataW Unit} {V:X0a} {M:List VN} {y z:VN} {x:k0a} {n:Int} {s:o0a}
theorem n1b(h:PV DI EI w base q m D V M):Calls Tryz.prog 24 #[R0a q] w λe w'=>e=.returned (.int .i64 (T0a V.l:Nat))/\Below w.heap.size w w':=by
 have k1:=h.p.c1;have CN:=hI (A4a w q m k1);have NM:=hI h.p.is;have MP:=hI h.p.map;have H:=hI h;have HU:Hid ((T0a V.l:Nat)<=1048576):=by have:=h.ok.used;have:=h.ok.q1;show _<=_;omega
 have U0:Hid (0=z7b M (Maps.has D)):=(g8b (A7b h.p)).symm;have FIN:Hid (z7b M (λ_=>false)=T0a V.l):=by rw[<-h.is];exact a3c λ_=>rfl
 clear h;unfold R0a at CN⊢;go_enter Tryz.func24,Tryz.ntmps24;go_wp2_with fail;refine CN.out.mono ?_;rintro e w0 ⟨rfl,rfl⟩;go_wp2_with(first
  | ((with_reducible refine sN 12 ?_);go_loud (refine wpList_range_own _ rfl (.tmp 11) 69 rfl 3 81 u3a Tryz.underlying69 g4b m M.length D rfl MP.out ?_);intro w0 rg0 g0 s0;have RG0:Hid (g2c w0 m w.heap.size M.length D (Maps.has D) (Maps.size D)):=rg0;have L0:Hid (Below w.heap.size w w0):=(Below.refl _ w).grown g0 (Nat.le_refl _) (λj hj=>by cases hj);clear rg0 g0 s0)
  | fail)
 go_frame;go_loopw [3] (λO wr=>∃(left:Lit->Bool) (cnt k:Nat),O=.int .i64 (k:Nat)/\k<=1048576/\Hid (g2c wr m w.heap.size M.length D left cnt)/\Hid (k=z7b M left)/\Hid (Below w.heap.size w wr)) (λ_ wr=>wr.rangeLeft m w.heap.size)
 case atStart=>exact⟨_,_,0,rfl,by omega,RG0,U0,L0⟩
 case round=>
  obtain⟨left,cnt,k,rfl,hk,RG,MO,LR⟩:=hrel
  rename World=>w1
  clear RG0 U0 L0;go_wp2_with(first
   | ((with_reducible refine sN 13 ?_);go_loud (refine f7a rfl (.tmp 12) rfl w.heap.size M.length (nums M) left cnt rfl RG.out NM.out ?_ ?_))
   | fail)
  ·intro hc hl;have e0:left=λ_=>false:=funext hl
   subst e0;have HK:Hid (k=T0a V.l):=by rw[MO.out];exact FIN.out
   clear hl hc;go_wp2_with fail;go_ret;exact⟨by rw[HK.out];rfl,LR.out⟩
  ·intro p g w2 cnt2 hp hlp rg2 hlt g2 s2 hen;obtain⟨z,hz,ez⟩:=List.mem_map.1 hp;injection ez with e1 e2
   subst e1;subst e2;have L2:Hid (Below w.heap.size w w2):=LR.out.grown g2 LR.out.size (λj hj=>by injection hj with hj;omega);have H2:=H.out.below L2.out;have CS:=hI (H2.p.size hz (H2.dirB hz));have n4:=H2.p.n4 hz;have e3:k+z.1.B.length=z7b M (λkl=>left kl && !kl.sameKey (.int .i64 z.1.n)):=by rw[MO.out];exact(J4b H.out.p.rise hz hlp).symm
   have hk2:k+z.1.B.length<=1048576:=by have a:=t4c (M:=M) (left:=λkl=>left kl && !kl.sameKey (.int .i64 z.1.n));rw[<-e3,H.out.is] at a;have b:=HU.out;omega
   have RG2:=hI rg2;have HLT:Hid (w2.rangeLeft m w.heap.size<w1.rangeLeft m w.heap.size):=by
    show _<_
    rw[World.ranges.left_eq rg2,World.ranges.left_eq RG.out];exact hlt
   obtain⟨zn,hzn⟩:∃zn,zn=z.1.n:=⟨_,rfl⟩;obtain⟨g,hg⟩:∃zn,zn=z.2.g:=⟨_,rfl⟩;obtain⟨u,hu⟩:∃zn,zn=p0b z:=⟨_,rfl⟩;obtain⟨B,hB⟩:∃zn,zn=z.1.B.length:=⟨_,rfl⟩;rw[<-hB] at CS e3 hk2;rw[<-hu] at CS n4;rw[<-hg] at n4 hen;rw[<-hzn] at RG2 hen e3;have E3:=hI e3;clear hp hlp rg2 hlt g2 hz hB hzn hg hu RG MO s2 e3 H2;go_wp2_with fail;refine CS.out.mono ?_;rintro e w3 ⟨rfl,j,rfl⟩;have L3:Hid (Below w.heap.size w (w2.drewN j)):=L2.out.trans ((E0a w2 j).mono L2.out.size);have RG3:Hid (g2c (w2.drewN j) m w.heap.size M.length D (λkl=>left kl && !kl.sameKey (.int .i64 zn)) cnt2):=RG2.out.below (E0a w2 j);obtain⟨w3,hw3⟩:∃x,x=w2.drewN j:=⟨_,rfl⟩;rw[<-hw3] at L3 RG3⊢;have HLT3:Hid (w3.rangeLeft m w.heap.size<w1.rangeLeft m w.heap.size):=by
    show _<_
    rw[World.ranges.left_eq RG3.out,<-World.ranges.left_eq RG2.out];exact HLT.out
   clear hw3 CS RG2 HLT L2;go_wp2_with fail;go_roundw
   case rel=>exact⟨_,_,k+B,by go_num,hk2,RG3,E3,L3⟩
   case measure=>exact HLT3.out
theorem Z7a:∀{l r:List Int},l.Perm r->l.Pairwise (λa b=>a<=b)->r.Pairwise (λa b=>a<b)->l=r
 | [],r,h,_,_=>h.nil_eq
 | a::l,[],h,_,_=>absurd h.symm.nil_eq (by simp)
 | a::l,b::r,h,h1,h2=>by
  obtain⟨a1,a2⟩:=List.pairwise_cons.1 h1;obtain⟨b1,b2⟩:=List.pairwise_cons.1 h2;have e:a=b:=by
   rcases List.mem_cons.1 (h.mem_iff.1 (List.mem_cons_self ..)) with e | e
   ·exact e
   ·rcases List.mem_cons.1 (h.mem_iff.2 (List.mem_cons_self ..)) with e2 | e2
    ·exact e2.symm
    ·have:=b1 a e;have:=a1 b e2;omega
  subst e;rw[Z7a h.cons_inv a2 b2]
theorem keys_perm(h:o2a DI EI w base q m D V.quota V.last M (l5a V.l)):(M.map λy=>y.1.n).Perm (Go.intKeys D):=by
 obtain⟨es,rfl,hp,hk⟩:=World.ownsMap.entries h.map u3a;have hint:∀p∈es,∃x,p.1=.int .i64 x:=λp hp'=>by
  obtain⟨es0,clock,_,F,_,e⟩:=World.ownsMap.tidy h.map u3a |> λ_=>h.map
  injection e with e
  rw[e] at hp';obtain⟨x,hx,e2⟩:=List.mem_map.1 (mem_sorted.1 hp');obtain⟨key,hkey⟩:=Maps.fit_keys F (Go.WideElems.rg Tryz.prog 3 g4b x) (List.mem_map.2 ⟨x,hx,rfl⟩);obtain⟨k,_,e3,_⟩:=Maps.keyOf_int_inv Tryz.underlying3 hkey;exact⟨k,by rw[<-e2];exact e3⟩
 refine Go.perm_intKeys hp hint ?_ λk=>?_
 ·exact List.nodup_iff_pairwise_ne.2 (List.pairwise_map.2 (h.rise.imp λa b=>by omega))
 ·rw[h.is.has,List.any_eq_true];constructor
  ·intro hx;obtain⟨y,hy,rfl⟩:=List.mem_map.1 hx;exact⟨_,z4a hy,by simp⟩
  ·rintro⟨p,hp,e⟩;obtain⟨y,hy,rfl⟩:=List.mem_map.1 hp;exact List.mem_map.2 ⟨y,hy,by simpa using e⟩
theorem U4c(k:Nat):AnyZI.SortsIn Tryz.prog Tryz.sortedA_ren Fence.wide k:=⟨λblk off cap ss W hH hblk hsz=>callsIn_wide.2 (Tryz.slices_Sort_int blk off cap ss W hH hblk hsz),λp cap W=>callsIn_wide.2 (Tryz.slices_Sort_int_none p cap W)⟩
theorem j8b(h:PV DI EI w base q m D V M):Calls Tryz.prog 22 #[R0a q] w λe w'=>∃u,e=.returned u/\t1a (Value.int .i64) 3 w' w.heap.size u (Y0a V.l)/\Below w.heap.size w w':=by
 have hperm:=keys_perm h.p;have hns:(M.map λy=>y.1.n)=Y0a V.l:=by unfold Y0a;rw[<-h.is,List.map_map];rfl
 rw[hns] at hperm;have hrise:(Y0a V.l).Pairwise λa b=>a<b:=List.pairwise_map.2 h.ok.rise
 have hsz:Maps.size D<=256:=by rw[h.p.is.size];unfold nums;rw[List.length_map];exact h.many
 have hown:=h.p.map;have k1:=h.p.c1;have CN:=hI (A4a w q m k1);clear h hns;unfold R0a at CN⊢;refine(callsIn_wide (n:=6)).1 ?_;have hbl:=World.ownsMap.lt hown;have hseq:SeqGives Fence.wide 2 Tryz.prog 109 #[.pointer (some ⟨w.heap.size,0,none⟩)] Go.encZ (λss=>ss.Perm (Go.intKeys D)) (Maps.size D) (w.alloc (.cells #[.map (some m)] 69)):=
  AnyZI.keys_gives (ρ:=Tryz.keysA_ren) { Tryz.keysA with } Fence.wide _ trivial rfl (by omega) w.heap.size m _ D _ (by simp) (by simp) (by obtain⟨es,clock,hb,Ft,hs,hD⟩:=hown;exact⟨es,clock,(Below.heap_alloc _ _ m hbl).trans hb,Ft,hs,hD⟩)
 have cK:∀mb W,CallsIn Fence.wide 5 Tryz.prog 60 #[.map mb] W λe w'=>e=.returned (.func (.func 109) #[] #[.pointer (some ⟨W.heap.size,0,none⟩)])/\w'=W.alloc (.cells #[.map mb] 69):=λmb W=>AnyZI.keys_in Tryz.keysA Fence.wide 5 trivial rfl mb W
 have cS:=AnyZI.sorted_in Tryz.sortedA Fence.wide 5 trivial trivial trivial trivial rfl (by omega) (U4c _) (enters_of Tryz.func108 (by kernel_rfl) rfl) 109 #[.pointer (some ⟨w.heap.size,0,none⟩)] trivial (enters_of Tryz.func109 (by kernel_rfl) rfl) _ _ (show Maps.size D<=maxLen by unfold maxLen;omega) (by omega) _ hseq;change CallsIn _ _ Tryz.prog 59 _ _ _ at cS
 have cN:CallsIn Fence.wide 5 Tryz.prog 40 #[.pointer (some ⟨q,0,none⟩)] w λe w'=>e=.returned (.bool false)/\w=w':=callsIn_wide.2 CN.out
 have hfN:Fence.wide.fn 40:=trivial;have hfK:Fence.wide.fn 60:=trivial;have hfS:Fence.wide.fn 59:=trivial;refine callsIn_of_wp Tryz.func22 rfl trivial ?_ rfl;simp only[Tryz.ntmps22,List.size_toArray,List.length_cons,List.length_nil,Nat.reduceAdd,Nat.reduceSub,Array.replicate_succ,Array.replicate_zero,List.push_toArray,List.append_toArray,List.nil_append,List.cons_append]
 gi_wp2_with (first
  | (gi_at_call 40;refine cN.mono ?_;rintro e w' ⟨rfl,rfl⟩)
  | (gi_at_call 60;refine(cK _ _).mono ?_;rintro e w' ⟨rfl,rfl⟩)
  | (gi_at_call 59;refine cS.mono ?_;rintro e w' ⟨v,ss,rfl,hS,hrow,hnil,hb⟩))
 go_ret;have tr:∀a b c:Int,decide (a<=b)=true->decide (b<=c)=true->decide (a<=c)=true:=λa b c h1 h2=>by simp only[decide_eq_true_eq] at *;omega
 have tt:∀a b:Int,(decide (a<=b)||decide (b<=a))=true:=λa b=>by simp only[Bool.or_eq_true,decide_eq_true_eq];omega
 have e1:ss.mergeSort (λx y=>decide (x<=y))=Y0a V.l:=by refine Z7a (((List.mergeSort_perm ss _).trans hS).trans hperm.symm) ?_ hrise;exact(List.pairwise_mergeSort tr tt ss).imp λh=>of_decide_eq_true h
 have e2:ss.length=(Y0a V.l).length:=by rw[<-e1,List.length_mergeSort]
 rw[e1,e2] at hrow;exact⟨v,rfl,ownsRow_base_a hrow (by simp),((Below.refl _ w).alloc (Nat.le_refl _) _).trans (hb.mono (by simp))⟩
end
section
variable {w:World} {ops:Array Oper} {rest:List Oper} {o:Oper} {a:Act} {Q:Exit->Act->World->Prop} {K0:Act->World->Prop} {E0:Prop}
theorem N9a(hg:o.guard=none)(m x v:Operand)(t:TypeId)(hop:o.op=Op.insert t m x v)(ht:Tryz.prog.underlying t=some (.map 3 81))(b n:Nat)(D:DataW Unit)
(hm:a.eval m=.map (some b))(hown:q0b w b n D)(hn:n<maxLen)(k:Int)(g:Nat)(hx:a.eval x=.int .i64 k)(hv:a.eval v=.pointer (some ⟨g,0,none⟩))(hk:c2a k)
(hK:∀w',Hid (q0b w' b (n+1) (D.put (.int .i64 k) (.lit (.int .i64 (g:Nat)))))->Hid (w.mapTurned w' b)->wpList Tryz.prog ops Q rest (a.put o.dst undef) w'):wpList Tryz.prog ops Q (o::rest) a w:=by
 refine wpList_plain hg λK' hK'=>?_
 obtain⟨w',hrun,r1,r2⟩:=World.ownsMap.store hown u3a ht hn (L9a hk) (s0c g);unfold R0a at hrun;unfold Oper.wp;simp[execOp,hop,hm,hx,hv,hrun,Result.andThen];exact hK' _ _ (hK w' r1 r2)
theorem B0c(hg:o.guard=none)(m x v:Operand)(t:TypeId)(hop:o.op=Op.mapUpdate t m x v)(ht:Tryz.prog.underlying t=some (.map 3 81))(b n:Nat)(D:DataW Unit)
(hm:a.eval m=.map (some b))(hown:q0b w b n D)(hn:n<maxLen)(k:Int)(g:Nat)(hx:a.eval x=.int .i64 k)(hv:a.eval v=.pointer (some ⟨g,0,none⟩))(hk:c2a k)
(hK:∀w',Hid (q0b w' b (n+1) (D.put (.int .i64 k) (.lit (.int .i64 (g:Nat)))))->Hid (w.mapTurned w' b)->K0 (a.put o.dst undef) w') :
  if Region.wanted o (yielded ops a.tmps)=true then Oper.wp Tryz.prog o a w K0 Q else E0:=by
 have hw:Region.wanted o (yielded ops a.tmps)=true:=by simp[Region.wanted,hg]
 rw[if_pos hw];obtain⟨w',hrun,r1,r2⟩:=World.ownsMap.store hown u3a ht hn (L9a hk) (s0c g);unfold R0a at hrun;unfold Oper.wp;simp[execOp,hop,hm,hx,hv,hrun,Result.andThen];exact hK w' r1 r2
end
def isV(DI:DrI)(EI:FiI)(w:World)(b q:Nat)(V:X0a)(S:Nat->Prop):Prop:=∃m D M,o2a DI EI w b q m D V.quota V.last M (l5a V.l)/\M.map (·.1)=V.l/\Vok V/\V.last<=1048576/\S=pvS q m M
section
variable {DI:DrI} {EI:FiI} {w w':World} {base q m:Nat} {D:DataW Unit} {V V':X0a} {M M':List VN} {y z:VN} {x:k0a} {n:Int} {s:o0a} {S:Nat->Prop}
theorem s6a(p:m3a DI EI w base q m M V'.quota V'.last M' (l5a V'.l) w')(e:M'.map (·.1)=V'.l)(ok:Vok V')(big:V'.last<=1048576):B3a (isV DI EI) w base q (pvS q m M) V' w':=by obtain⟨D',p',a,n⟩:=p;exact⟨pvS q m M',⟨m,D',M',p',e,ok,big,rfl⟩,a,n⟩
theorem PV.still(h:PV DI EI w base q m D V M)(hb:Below w.heap.size w w'):B3a (isV DI EI) w base q (pvS q m M) V w':=s6a (m3a.refl h.p hb) h.is h.ok h.big
theorem b3c(DI:DrI)(EI:FiI){w w2 w3 w4:World}{b m q:Nat}{k:Int}{P:PN}(hb:b<=w.heap.size)(hk:O3a k=0)(hm1:w.heap.size<=m)(hm2:m<w2.heap.size)(hN:X3c DI EI w2 1 P w3)(hM:q0b w4 m 1 (DataW.put (.map []) (.int .i64 1) (.lit (.int .i64 (P.g:Nat)))))(ht:w3.mapTurned w4 m)
(hq:w4.heap.size<=q)(hQ:Blk w' q 71 [.int .i64 k,.map (some m),.int .i64 1])(hbw:Below w4.heap.size w4 w'):isV DI EI w' w.heap.size q (e2c k) (pvS q m [(W3a,P)]):=by
 obtain⟨g1,B1,d1,_,o1,L1⟩:=hN;have a:=g0a.of_turned ht;have s1:=L1.size;have s2:=a.size;have B4:=B1.spare a (show P.g≠m by omega);have D4:=DI.keep (d1 rfl) a λj hj=>by have:=(o1 j hj).1;omega
 have hI:x7b (DataW.put (.map []) (.int .i64 1) (.lit (.int .i64 (P.g:Nat)))) [(1,P.g)]:=x7b.put (D:=.map []) (N:=[]) (n:=1) (g:=P.g) ⟨Maps.tidy_empty,List.Pairwise.nil,λ_=>rfl,(λp hp=>by cases hp),rfl⟩ λp hp=>by cases hp
 have hone:∀y∈[((W3a,P):VN)],y=(W3a,P):=λy hy=>List.mem_singleton.1 hy
 have lt4:∀j,P.S j->w2.heap.size<=j/\j<w4.heap.size:=λj hj=>⟨(o1 j hj).1,(DI.ge D4 j hj).2⟩
 refine⟨m,_,[(W3a,P)],⟨by omega,hm1,hQ,?_,hI,?_,?_,?_,?_,?_,?_,?_⟩,rfl,Vok.new hk,(by show(1:Int)<=1048576;decide),rfl⟩
 ·exact F1a hM (hbw.block m (World.ownsMap.lt hM))
 ·intro y hy;rw[hone y hy];show(1:Int)<=1/\(1:Int)<=2097152
  decide
 ·intro y hy;rw[hone y hy];exact .inl rfl
 ·intro y hy;rw[hone y hy];exact⟨by show _<=P.g;omega,B4.over hbw⟩
 ·intro y hy _;rw[hone y hy];refine⟨[],Kid.nil λp hp=>?_,DI.mono (DI.keep D4 (g0a.of_over (λ_=>False) hbw) λ_ _ e=>e) (by omega)⟩;obtain⟨x,hx,e,_⟩:=y2a.1 hp;rw[List.mem_singleton.1 hx] at e;exact absurd (show(0:Int)=1 from e) (by decide)
 ·intro y hy hk2;rw[hone y hy] at hk2;exact absurd (show(1:Int)=2 from hk2) (by decide)
 ·intro y hy j hj;rw[hone y hy] at hj;have:=lt4 j hj;refine⟨by omega,by omega,λz hz=>?_⟩;rw[hone z hz];exact(o1 j hj).2
 ·intro y hy z hz hne;rw[hone y hy,hone z hz] at hne;exact absurd rfl hne
theorem c3c(DI:DrI)(EI:FiI){w:World}{b:Nat}{k:Int}(htb:DI.tb b w)(hb:b<=w.heap.size)(hk:c2a k):Calls Tryz.prog 37 #[.int .i64 k] w λe w'=>(O3a k≠0->e=.returned (.tuple #[.pointer none,.int .i64 (O3a k)])/\Below w.heap.size w w')/\
  (O3a k=0->∃q S,e=.returned (.tuple #[R0a q,.int .i64 0])/\isV DI EI w' w.heap.size q (e2c k) S/\Below w.heap.size w w'):=by
 have CN:Hid (∀w',Below w.heap.size w w'->Calls Tryz.prog 72 #[.int .u8 1] w' λe w2=>∃P,e=.returned (R0a P.g)/\X3c DI EI w' 1 P w2):=λw' hb'=>y7b DI EI w' (DI.tbUp (DI.tbNext htb (hb'.mono hb)) (Nat.le_trans hb hb'.size))
 have hmm:=@run_makeMap Tryz.prog;have LT:Hid (∀(k' g':Int),c2a k):=λ_ _=>hk
 unfold R0a at CN⊢;unfold c2a at hk;by_cases h1:k<0
 ·obtain⟨E,hE⟩:∃E,E=O3a k:=⟨_,rfl⟩;have HE:Hid (E=2):=hE.trans (if_pos (.inl h1));rw[<-hE];clear hE CN;go_enter Tryz.func37,Tryz.ntmps37;go_wp2_with fail;go_ret2;exact⟨λ_=>⟨by rw[HE.out];rfl,Below.refl _ _⟩,λe=>by have e2:=HE.out;omega⟩
 ·by_cases h2:1048576<k
  ·obtain⟨E,hE⟩:∃E,E=O3a k:=⟨_,rfl⟩;have HE:Hid (E=2):=hE.trans (if_pos (.inr h2));rw[<-hE];clear hE CN;go_enter Tryz.func37,Tryz.ntmps37;go_wp2_with fail;go_ret2;exact⟨λ_=>⟨by rw[HE.out];rfl,Below.refl _ _⟩,λe=>by have e2:=HE.out;omega⟩
  ·obtain⟨E,hE⟩:∃E,E=O3a k:=⟨_,rfl⟩;have HE0:Hid (E=0):=hE.trans (if_neg (by omega));have HE:Hid (O3a k=0):=hE.symm.trans HE0.out;rw[<-hE];clear hE;go_enter Tryz.func37,Tryz.ntmps37;go_wp2_with fail;have L1:Hid (Below w.heap.size w (w.alloc (.map #[] 0))):=(Below.refl _ w).alloc (Nat.le_refl _) _;refine(CN.out _ L1.out).mono ?_;rintro e w2 ⟨P,rfl,n2⟩;have N2:=hI n2;have l2:=n2.2.2.2.2.2;have L2:=hI (step L1.out l2);have M2:Hid (q0b w2 w.heap.size 0 (.map [])):=F1a (World.ownsMap_made w Tryz.prog 3 g4b) (l2.block _ (by simp));obtain⟨g,hg⟩:∃g,g=P.g:=⟨_,rfl⟩;have HG:=hI hg;rw[<-hg];clear n2 l2 hg;go_wp2_with(first
    | ((with_reducible show wpList _ _ _ (⟨none,.insert _ _ _ _,_,_,_,_⟩::_) _ _);go_loud (refine N9a rfl (.tmp 11) (.const (.int .i64 1)) (.tmp 12) _ rfl Tryz.underlying69 w.heap.size 0 (.map []) rfl M2.out (by unfold maxLen;omega) 1 g rfl rfl (by unfold c2a;omega) ?_);intro w3 M3 T3)
    | ((with_reducible refine sN 14 ?_);go_loud (refine A0a rfl _ _ rfl [.int .i64 k,.map (some w.heap.size),.int .i64 1] (by kernel_rfl) ?_))
    | ((with_reducible refine sN 15 ?_);go_loud (refine v0a rfl _ (.tmp 14) rfl [.int .i64 k,.map (some w.heap.size),.int .i64 1] rfl ?_);intro q w4 hq1 hq2 B4 L4)
    | fail)
   go_ret2;have hM:=M3.out;rw[HG.out] at hM;have t3:=g0a.of_turned T3.out;refine⟨λe=>absurd HE0.out e,λ_=>⟨q,_,rfl,b3c DI EI hb HE.out (Nat.le_refl _) (by simp) N2.out hM T3.out hq1 B4.out L4.out,?_⟩⟩;have b3:=(t3.below (B:=w.heap.size) (λj e=>by rw[e];exact Nat.le_refl _) L2.out.size);exact(L2.out.trans b3).trans (L4.out.mono (Nat.le_trans L2.out.size t3.size))
end
theorem C0c(w:World):Calls Tryz.prog 73 #[.pointer none] w λe w'=>e=.returned (.int .i64 0)/\w=w':=by go_enter Tryz.func73,Tryz.ntmps73;go_wp2_with fail;go_ret;exact⟨rfl,rfl⟩
section
variable {DI:DrI} {EI:FiI} {w w':World} {base q m:Nat} {D:DataW Unit} {V:X0a} {M:List VN} {y z:VN} {x:k0a} {n k:Int} {s:o0a}
theorem PV.len(h:PV DI EI w base q m D V M)(hy:y∈M):∃c:Nat,c<=4096/\s4a V.l y.1.n=decide (c=0)/\Calls Tryz.prog 73 #[d2b y] w λe w'=>e=.returned (.int .i64 (c:Nat))/\∃k,w.drewN k=w':=by
 rcases h.p.kind y hy with hk | hk
 ·obtain⟨K,kk,d⟩:=h.p.dirs y hy hk;rw[f5a hk];exact⟨K.length,(DI.ok d).2.1,kk.empty,DI.len d⟩
 ·rw[S2c hk];refine⟨0,by omega,?_,(C0c w).mono ?_⟩
  ·unfold s4a;rw[decide_eq_true rfl,List.all_eq_true];intro x hx;refine decide_eq_true λe=>?_
   have hn:=(h.ok.num _ (h.mem hy)).1;by_cases h1:x.n=1
   ·rw[h.ok.one hx h1] at e;have e:(0:Int)=y.1.n:=e;omega
   ·have:=h.ok.up x hx h1;rw[e,h.kindOf hy,hk] at this;exact absurd this (by decide)
  ·rintro e w' ⟨rfl,rfl⟩;exact⟨rfl,0,rfl⟩
theorem u4c(h:PV DI EI w base q m D V M)(hy:y∈M):vAt V.l y.1.n=some y.1:=h.ok.at (h.mem hy)
theorem PV.drop(h:PV DI EI w base q m D V M)(hy:y∈M)(h1:y.1.n≠1)(hn:y.1.n=n):Calls Tryz.prog 69 #[R0a q,.int .i64 n] w λe w'=>e=.returned (.tuple #[])/\∃M',m3a DI EI w base q m M V.quota V.last M' (l5a (z1a V.l n)) w'/\M'.map (·.1)=z1a V.l n:=by
 obtain⟨z,hz,e1,e2⟩:=h.dir hy h1;have ha:=u4c h hy;rw[<-h.is];refine x0c h.p h.tb hy hz e1.symm e2 (h.small hy) (λK k=>?_) (λd p hd=>?_) hn
 ·rw[e1] at k⊢;rw[h.is,<-hn];exact(Kid.drop h.ok ha h1 k).2
 ·rw[h.is,<-hn,T8a h.ok ha];exact⟨λa=>⟨a,λe=>absurd (e.trans e1.symm) hd⟩,λa=>a.1⟩
def v4c(DI:DrI)(EI:FiI)(w:World)(base q m:Nat)(V:X0a)(M:List VN)(n:Int)(e:Ending)(w':World):Prop:=e=.returned (.int .i64 (D3a V.l n))/\B3a (isV DI EI) w base q (pvS q m M) (U6a V n) w'
theorem w4c{V:X0a}{n:Int}(h:D3a V.l n≠0):U6a V n=V:=if_neg h
theorem x4c{V:X0a}{n:Int}(h:D3a V.l n=0):U6a V n=⟨V.quota,V.last,z1a V.l n⟩:=if_pos h
theorem e6b(h:PV DI EI w base q m D V M)(hn:c2a n):Calls Tryz.prog 29 #[R0a q,.int .i64 n] w (v4c DI EI w base q m V M n):=by
 have STILL:Hid (∀w',Below w.heap.size w w'->D3a V.l n≠0->B3a (isV DI EI) w base q (pvS q m M) (U6a V n) w'):=λw' hb he=>by rw[w4c he];exact h.still hb
 cases hat:vAt V.l n with
 | none=>
  have HE:Hid (D3a V.l n=7):=by unfold D3a q1a;rw[hat];rfl
  have C:=hI (H4b h.p hn (h.no hat));clear h hn hat;unfold R0a at C⊢;go_enter Tryz.func29,Tryz.ntmps29;go_wp2_with fail;refine C.out.mono ?_;rintro e w0 ⟨rfl,rfl⟩;go_wp2_with fail;go_ret;exact⟨by rw[HE.out];rfl,STILL.out _ (Below.refl _ _) (by rw[HE.out];decide)⟩
 | some x=>
  obtain⟨y,hy,ey,en⟩:=h.at hat;by_cases h1:n=1
  ·subst h1;have HE:Hid (D3a V.l 1=2):=by unfold D3a q1a;rw[hat];rfl
   have C:=hI (D2b h.p hy en);clear h hn hat hy en ey;unfold R0a at C⊢;go_enter Tryz.func29,Tryz.ntmps29;go_wp2_with fail;refine C.out.mono ?_;rintro e w0 ⟨rfl,rfl⟩;go_wp2_with fail;go_ret;exact⟨by rw[HE.out];rfl,STILL.out _ (Below.refl _ _) (by rw[HE.out];decide)⟩
  ·have C:=hI (E2b h.p hy en h1);obtain⟨c,hc,hem,cl⟩:=h.len hy;rw[en] at hem;have CL:=hI cl;have n3:=h.p.n3 hy;have HE0:Hid (D3a V.l n=if c=0 then 0 else 16):=by
    show D3a V.l n=_
    unfold D3a q1a;rw[hat,hem,if_neg h1];by_cases h0:c=0
    ·rw[if_pos h0,decide_eq_true h0];rfl
    ·rw[if_neg h0,decide_eq_false h0];rfl
   have CD:Hid (∀w',Below w.heap.size w w'->Calls Tryz.prog 69 #[R0a q,.int .i64 n] w' λe w2=>e=.returned (.tuple #[])/\(c=0->B3a (isV DI EI) w base q (pvS q m M) (U6a V n) w2)):=λw' hb=>by
    refine((h.below hb).drop hy (by rw[en];exact h1) en).mono λe w2 ⟨he,M',p,e2⟩=>⟨he,λh0=>?_⟩
    have hE:=HE0.out;rw[if_pos h0] at hE;have ok:=h.ok.rem n;rw[x4c hE] at ok⊢;exact s6a (V':=⟨V.quota,V.last,z1a V.l n⟩) ((m3a.refl h.p hb).trans p) e2 ok h.big
   obtain⟨g,hg⟩:∃g,g=y.2.g:=⟨_,rfl⟩;obtain⟨u,hu⟩:∃u,u=d2b y:=⟨_,rfl⟩;rw[<-hg] at C n3;rw[<-hu] at CL n3;clear h hn hat hy en ey hem cl hg hu;unfold R0a at C CD⊢;by_cases h0:c=0
   ·subst h0;have HE:Hid (D3a V.l n=0):=HE0.out;clear HE0 STILL;go_enter Tryz.func29,Tryz.ntmps29;go_wp2_with fail;refine C.out.mono ?_;rintro e w0 ⟨rfl,rfl⟩;go_wp2_with fail;refine CL.out.mono ?_;rintro e w1 ⟨rfl,j,rfl⟩;have L1:Hid (Below w.heap.size w (w.drewN j)):=E0a w j;obtain⟨w1,hw1⟩:∃x,x=w.drewN j:=⟨_,rfl⟩;rw[<-hw1] at L1⊢;clear hw1;go_wp2_with fail;refine(CD.out w1 L1.out).mono ?_;rintro e w2 ⟨rfl,t2⟩;have T2:=hI (t2 (by trivial));clear t2;go_wp2_with fail;go_ret;exact⟨by rw[HE.out];rfl,T2.out⟩
   ·have HE:Hid (D3a V.l n=16):=by have:=HE0.out;rw[if_neg h0] at this;exact this
    have hc1:1<=c:=by omega
    clear HE0 CD h0;go_enter Tryz.func29,Tryz.ntmps29;go_wp2_with fail;refine C.out.mono ?_;rintro e w0 ⟨rfl,rfl⟩;go_wp2_with fail;refine CL.out.mono ?_;rintro e w1 ⟨rfl,j,rfl⟩;have L1:Hid (Below w.heap.size w (w.drewN j)):=E0a w j;obtain⟨w1,hw1⟩:∃x,x=w.drewN j:=⟨_,rfl⟩;rw[<-hw1] at L1⊢;clear hw1;go_wp2_with fail;go_ret;exact⟨by rw[HE.out];rfl,STILL.out _ L1.out (by rw[HE.out];decide)⟩
def B7b(DI:DrI)(EI:FiI)(w:World)(base q m:Nat)(V:X0a)(M:List VN)(s:o0a)(k:Int)(e:Ending)(w':World):Prop:=e=.returned (.tuple #[.int .i64 (r2a V s k),.int .i64 (I1a V s k)])/\B3a (isV DI EI) w base q (pvS q m M) (F3a V s k) w'
theorem C7b(h:PV DI EI w base q m D V M)(hb:Below w.heap.size w w')(he:I1a V s k≠0):B3a (isV DI EI) w base q (pvS q m M) (F3a V s k) w'/\r2a V s k=0:=by have e1:F3a V s k=V:=if_neg he;rw[e1];exact⟨h.still hb,if_neg he⟩
theorem k8b:h0a ([]:o0a)=0:=by decide
theorem L4b(DI:DrI)(EI:FiI)(w:World)(hk:k=1∨k=2)(htb:DI.tb w.heap.size w):Calls Tryz.prog 72 #[.int .u8 k] w λe w'=>∃P,e=.returned (R0a P.g)/\X3c DI EI w k P w':=by
 rcases hk with rfl | rfl
 ·exact y7b DI EI w htb
 ·exact y0c DI EI w
theorem D0c{L:List k0a}{n k d:Int}{s:o0a}(h:∀y∈L,y.n≠n):f4a (L++[⟨n,k,0,[],[],[]⟩]) n d s=L++[⟨n,k,d,s,[],[]⟩]:=by
 unfold f4a;rw[List.map_append,List.map_cons,List.map_nil,if_pos rfl]
 congr 1
 conv=>rhs;rw[<-List.map_id L]
 exact List.map_congr_left λy hy=>if_neg (h y hy)
theorem PV.made(h:PV DI EI w base q m D V M)(he:I1a V s k=0){w4 w5 w6:World}(hl:V.last<1048576)(hb:Below w.heap.size w w')(a4:g0a (λj=>j=q) w' w4)(B4:Blk w4 q 71 [.int .i64 V.quota,.map (some m),.int .i64 (V.last+1)])
{P:PN}(hN:X3c DI EI w4.drew k P w5){K:Nat}(hM:q0b w6 m K (D.put (.int .i64 (V.last+1)) (.lit (.int .i64 (P.g:Nat)))))(ht:w5.mapTurned w6 m) :
  Calls Tryz.prog 71 #[R0a q,.int .i64 (V.last+1),.int .i64 (P0a V.l s),V0a (Q0a V.l s)] w6 λe w7=>e=.returned (.tuple #[])/\B3a (isV DI EI) w base q (pvS q m M) (F3a V s k) w7/\w7.cell? ⟨q,2,none⟩=some (.int .i64 (V.last+1)):=by
 obtain⟨e1,e2,e3,e4,e5,e6⟩:=w4b he;obtain⟨rs,w1,w2,w3,w5'⟩:=h.ok.par e1 e2 e3;obtain⟨_,_,hname,_⟩:=u2a e1 e2;have h1:=h.below hb;have p4:=h1.p.setLast a4 B4;have a4':m3a DI EI w' base q m M V.quota (V.last+1) M (l5a V.l) w4:=⟨_,p4,a4.mono λj _ e=>.inl e,λj hj=>.inl hj⟩;have p4d:=p4.below (Below.refl _ w4).drew;obtain⟨n1,n2,n3,n4,n5,n6⟩:=hN;have hl1:1<=V.last:=(h.ok.num W3a h.ok.mem1).2;have hnew:∀z∈M,z.1.n<V.last+1:=λz hz=>by have:=(h.ok.num _ (h.mem hz)).2;omega
 have t6:=p4d.add (y:=(⟨V.last+1,k,0,[],[],[]⟩,P)) n6 (g0a.of_turned ht) hM hnew (by show 1<=V.last+1;omega) (by show V.last+1<=2097152;omega) e5 n1 n2 n3 n4 n5 λp hp=>by
  obtain⟨x,hx,ex,_⟩:=y2a.1 hp;have ex:x.par=V.last+1:=ex;by_cases hx1:x.n=1
  ·rw[h.ok.one hx hx1] at ex;have ex:(0:Int)=V.last+1:=ex;omega
  ·have hu:=h.ok.up x hx hx1;obtain⟨y,hy⟩:=t2a (V:=V) (n:=x.par) (by rw[hu];decide);have:=(h.ok.num y (y0a hy).1).2;have:=(y0a hy).2;omega
 have tall:=((m3a.refl h.p hb).trans a4').trans ((m3a.refl p4 (Below.refl _ w4).drew).trans t6);have htb6:=h.p.tbs h.tb tall;obtain⟨D6,p6,s6,n6'⟩:=t6;obtain⟨x,hx⟩:=w1.at h.ok;obtain⟨z,hz,ez,ezn⟩:=h.at hx;have hkz:z.1.kind=1:=by rw[<-h.kindOf hz,ezn,w3]
 have hz6:z∈M++[((⟨V.last+1,k,0,[],[],[]⟩:k0a),P)]:=List.mem_append_left _ hz;have hy6:((⟨V.last+1,k,0,[],[],[]⟩:k0a),P)∈M++[((⟨V.last+1,k,0,[],[],[]⟩:k0a),P)]:=List.mem_append_right _ (List.mem_singleton.2 rfl);have hno:∀p,(P0a V.l s,p)∈l5a V.l->alk p.1 (ba (lastOf s))=false:=λp hp=>by obtain⟨y,hy,e1,rfl⟩:=y2a.1 hp;rw[w5'] at e4;exact c5a (λy hy=>(h.ok.num y hy).1) e4 y hy e1
 have hreg:∀d p,(d,p)∈l5a (V.l++[⟨V.last+1,k,P0a V.l s,Q0a V.l s,[],[]⟩])↔(d,p)∈(P0a V.l s,(ba (lastOf s),V.last+1))::l5a V.l:=λd p=>by
  unfold l5a;rw[List.map_append,List.mem_append,List.mem_cons,w5'];constructor
  ·rintro(a | a)
   ·exact .inr a
   ·exact .inl (List.mem_singleton.1 a)
  ·rintro(a | a)
   ·exact .inr (List.mem_singleton.2 a)
   ·exact .inl a
 have hnn:nameOf (Q0a V.l s)=true:=by rw[w5'];exact hname
 have hl7:=S0a hnn;refine(H2b (R':=l5a (V.l++[⟨V.last+1,k,P0a V.l s,Q0a V.l s,[],[]⟩])) p6 htb6 hy6 hz6 (by show z.1.n≠V.last+1;have:=hnew z hz;omega) hkz (by omega) (λK kk=>?_) (λK kk=>?_) (λd p hd=>?_) rfl ezn).mono ?_
 ·have:=Kid.le h.ok.rise kk;have:=h.ok.many;omega
 ·rw[ezn] at kk⊢;have:=(Kid.put (n:=V.last+1) kk hname hno).2;rw[w5'] at *;refine Kid.same this λp=>(hreg _ p).symm
 ·rw[ezn] at hd;rw[hreg,List.mem_cons];constructor
  ·exact λa=>.inr a
  ·rintro(a | a)
   ·injection a with a _
    exact absurd a hd
   ·exact a
 ·rintro e w7 ⟨he7,M7,t7,e7⟩;have hfin:=tall.trans t7;have ok:=h.ok.make s k;have ev:F3a V s k=⟨V.quota,V.last+1,V.l++[⟨V.last+1,k,P0a V.l s,Q0a V.l s,[],[]⟩]⟩:=if_pos he;have hc:w7.cell? ⟨q,2,none⟩=some (.int .i64 (V.last+1)):=by obtain⟨_,p7,_,_⟩:=hfin;exact p7.c2
  rw[ev] at ok⊢;refine⟨he7,s6a (V':=⟨V.quota,V.last+1,V.l++[⟨V.last+1,k,P0a V.l s,Q0a V.l s,[],[]⟩]⟩) hfin ?_ ok (by show V.last+1<=1048576;omega),hc⟩;rw[e7,List.map_append,h.is];exact D0c λy hy=>by have:=(h.ok.num y hy).2;omega
theorem s8a(HT:y9b DI)(h:PV DI EI w base q m D V M)(hs:s.length<=1048576)(he:s=[]∨s≠[]/\(h0a s≠0∨l3a V.l s≠0)):Calls Tryz.prog 28 #[R0a q,V0a s,.int .u8 k] w (B7b DI EI w base q m V M s k):=by
 have STILL:Hid (∀w',Below w.heap.size w w'->I1a V s k≠0->B3a (isV DI EI) w base q (pvS q m M) (F3a V s k) w'/\r2a V s k=0):=λw' hb he=>C7b h hb he
 have CN:=hI (A4a w q m h.p.c1);unfold R0a at CN⊢;rcases he with rfl | ⟨hne,he⟩
 ·have HE:Hid (I1a V [] k=8):=by unfold I1a;rw[k8b];rfl
  clear h hs;unfold V0a;go_enter Tryz.func28,Tryz.ntmps28;go_wp2_with fail;refine CN.out.mono ?_;rintro e w0 ⟨rfl,rfl⟩;go_wp2_with fail;go_ret2;obtain⟨t,e⟩:=STILL.out _ (Below.refl _ w) (by rw[HE.out];decide);exact⟨by rw[HE.out,e];rfl,t⟩
 ·have CSE:∃(E X:Value) (Z:Int),Z≠0/\I1a V s k=Z/\Calls Tryz.prog 66 #[R0a q,V0a s] w λe w'=>e=.returned (.tuple #[E,X,.int .i64 Z])/\Below w.heap.size w w':=by
   by_cases hp:h0a s≠0
   ·have e1:F0a s=h0a s:=if_pos hp;exact⟨_,_,h0a s,hp,if_pos hp,K4b HT h hs e1 hp⟩
   ·have hv:=he.resolve_left hp;have hp0:h0a s=0:=by simpa using hp
    refine⟨_,_,l3a V.l s,hv,?_,b9a HT h hs (a2a.2 ⟨hp0,hne⟩)⟩;unfold I1a;rw[if_neg hp,if_neg hne,if_pos hv]
  obtain⟨E,X,Z,hZ,hE,cs⟩:=CSE;have CS:=hI cs;have HE:=hI hE;have tz:(Z != 0)=true:=by simpa using hZ
  obtain⟨S,hS⟩:∃S:ByteArray,S=⟨s.toArray⟩:=⟨_,rfl⟩;have t0:(S.toList==[])=false:=by rw[b4a,hS];exact decide_eq_false λe=>hne (List.eq_nil_of_length_eq_zero e)
  have t1:S.toList.isEmpty=false:=by rw[S2a,hS];exact decide_eq_false λe=>hne (List.eq_nil_of_length_eq_zero e)
  have hS1:V0a s=.string S:=by rw[hS];rfl
  rw[hS1] at CS⊢;have HZ:=hI hZ;clear h hs hS hS1 hE cs hne he hZ;unfold R0a at CS;go_enter Tryz.func28,Tryz.ntmps28;go_wp2_with fail;refine CN.out.mono ?_;rintro e w0 ⟨rfl,rfl⟩;go_wp2_with fail;refine CS.out.mono ?_;rintro e w1 ⟨rfl,l1⟩;have L1:=hI l1;clear l1;go_wp2_with fail;go_ret2;obtain⟨t,e⟩:=STILL.out _ L1.out (by rw[HE.out];exact HZ.out);exact⟨by rw[HE.out,e];rfl,t⟩
theorem E0c(HT:y9b DI)(h:PV DI EI w base q m D V M)(hs:s.length<=1048576)(hl:V.last<1048576):Calls Tryz.prog 28 #[R0a q,V0a s,.int .u8 k] w (B7b DI EI w base q m V M s k):=by
 by_cases hne:s=[]
 ·exact s8a HT h hs (.inl hne)
 by_cases hp:h0a s=0
 ·by_cases hv:l3a V.l s=0
  ·have STILL:Hid (∀w',Below w.heap.size w w'->I1a V s k≠0->B3a (isV DI EI) w base q (pvS q m M) (F3a V s k) w'/\r2a V s k=0):=λw' hb he=>C7b h hb he
   have hl1:1<=V.last:=(h.ok.num W3a h.ok.mem1).2;obtain⟨rs,w1',_,hk1,hsn⟩:=h.ok.par hp hne hv;obtain⟨_,_,hname,_⟩:=u2a hp hne;rw[<-hsn] at hname;obtain⟨x,hx⟩:=w1'.at h.ok;obtain⟨z,hz,_,ezn⟩:=h.at hx;have hkz:z.1.kind=1:=by rw[<-h.kindOf hz,ezn,hk1]
   have hEE:I1a V s k=if x0a V.l (P0a V.l s) (Q0a V.l s)≠0 then 8 else if k≠1/\k≠2 then 2 else if 256<=V.l.length then 3 else 0:=by unfold I1a;rw[if_neg (λe=>e hp),if_neg hne,if_neg (λe=>e hv)]
   have cs:=b9a HT h hs (a2a.2 ⟨hp,hne⟩);rw[hv] at cs;obtain⟨gz,u,X,step⟩:=h.step hz ezn hkz hname;have STEP:=hI step;have CN:=hI (A4a w q m h.p.c1);have MADE:Hid (I1a V s k=0->∀w1 w4 w5 w6 P K,Below w.heap.size w w1->g0a (λj=>j=q) w1 w4->Blk w4 q 71 [.int .i64 V.quota,.map (some m),.int .i64 (V.last+1)]->X3c DI EI w4.drew k P w5->q0b w6 m K (D.put (.int .i64 (V.last+1)) (.lit (.int .i64 (P.g:Nat))))->w5.mapTurned w6 m->
    Calls Tryz.prog 71 #[R0a q,.int .i64 (V.last+1),.int .i64 (P0a V.l s),V0a (Q0a V.l s)] w6 λe w7=>e=.returned (.tuple #[])/\B3a (isV DI EI) w base q (pvS q m M) (F3a V s k) w7/\w7.cell? ⟨q,2,none⟩=some (.int .i64 (V.last+1))):=λhe w1 w4 w5 w6 P K hb a B N M T=>h.made he hl hb a B N M T
   have CNEW0:Hid (k=1∨k=2->∀w1 w4,Below w.heap.size w w1->g0a (λj=>j=q) w1 w4->Calls Tryz.prog 72 #[.int .u8 k] w4.drew λe w5=>∃P,e=.returned (R0a P.g)/\X3c DI EI w4.drew k P w5):=λhk w1 w4 hb a=>by have b4:Below base w w4:=(hb.mono h.p.hb).trans (a.below (λj e=>by rw[e];exact h.p.ge) (Nat.le_trans h.p.hb hb.size));exact L4b DI EI w4.drew hk (DI.tbUp (DI.tbNext h.tb b4.drew) (by show base<=w4.heap.size;exact Nat.le_trans h.p.hb (Nat.le_trans hb.size a.size)))
   have MP:Hid (∀w',Below w.heap.size w w'->q0b w' m M.length D):=λw' hb=>(h.p.below hb).map
   have BQ:Hid (∀w',Below w.heap.size w w'->Blk w' q 71 [.int .i64 V.quota,.map (some m),.int .i64 V.last]):=λw' hb=>(h.p.below hb).blk
   have HSZ:Hid (Maps.size D=M.length):=by rw[h.p.is.size];exact List.length_map _
   have HLM:Hid (V.l.length=M.length):=by show _=_;rw[<-h.is,List.length_map]
   have HQM:Hid (¬q=m):=h.p.off.1;have hmany:=h.many;obtain⟨up,hup⟩:∃u,u=P0a V.l s:=⟨_,rfl⟩;obtain⟨nm,hnm⟩:∃u,u=Q0a V.l s:=⟨_,rfl⟩;obtain⟨C,hC⟩:∃C,C=x0a V.l up nm:=⟨_,rfl⟩;obtain⟨T,hT⟩:∃T,T=V.last:=⟨_,rfl⟩;have HT9:Hid (T=V.last):=hT;obtain⟨N,hN⟩:∃N,N=M.length:=⟨_,rfl⟩;obtain⟨Q0,hQ0⟩:∃N,N=V.quota:=⟨_,rfl⟩;rw[<-hup,<-hnm] at cs STEP MADE hEE;rw[<-hC] at STEP hEE;rw[HLM.out] at hEE;rw[<-hT] at MADE BQ hl hl1;rw[<-hQ0] at MADE BQ;rw[<-hN] at MP HSZ hEE hmany;obtain⟨S,hS⟩:∃S:ByteArray,S=⟨s.toArray⟩:=⟨_,rfl⟩;obtain⟨NM,hNM⟩:∃S:ByteArray,S=⟨nm.toArray⟩:=⟨_,rfl⟩;have t0:(S.toList==[])=false:=by rw[b4a,hS];exact decide_eq_false λe=>hne (List.eq_nil_of_length_eq_zero e)
   have t1:S.toList.isEmpty=false:=by rw[S2a,hS];exact decide_eq_false λe=>hne (List.eq_nil_of_length_eq_zero e)
   have hS1:V0a s=.string S:=by rw[hS];rfl
   have hN1:V0a nm=.string NM:=by rw[hNM];rfl
   rw[hS1] at cs⊢;rw[hN1] at cs STEP MADE;have CS:=hI cs;clear h hs hp hv hk1 hsn hname hx hz ezn hkz cs step w1' hS hS1 hNM hN1 hC hup hnm hN hT hQ0 hne;unfold R0a at CS CN MADE CNEW0⊢;by_cases hC0:C=0
   ·subst hC0;rw[if_neg (by decide)] at hEE;rw[if_pos rfl] at STEP;by_cases hk:k≠1/\k≠2
    ·rw[if_pos hk] at hEE;have HE:=hI hEE;obtain⟨hka,hkb⟩:=hk;have ta:(k != 1)=true:=by simpa using hka
     have tb:(k != 2)=true:=by simpa using hkb
     clear hEE MADE CNEW0 MP BQ hka hkb;go_enter Tryz.func28,Tryz.ntmps28;go_wp2_with fail;refine CN.out.mono ?_;rintro e w0 ⟨rfl,rfl⟩;go_wp2_with fail;refine CS.out.mono ?_;rintro e w1 ⟨rfl,l1⟩;have L1:=hI l1;obtain⟨j1,j2,j3,j4,ca⟩:=STEP.out w1 l1;have CA:=hI ca;clear l1 ca STEP;go_wp2_with fail;refine CA.out.mono ?_;rintro e w2 ⟨rfl,l2⟩;have L2:=hI (step L1.out l2);clear l2;go_wp2_with fail;go_ret2;obtain⟨t,e⟩:=STILL.out _ L2.out (by rw[HE.out];decide);exact⟨by rw[HE.out,e];rfl,t⟩
    ·rw[if_neg hk] at hEE;have hk12:k=1∨k=2:=by omega
     have HK:=hI hk12;have tk:(k != 1)=false∨(k != 1)=true/\(k != 2)=false:=by rcases hk12 with rfl | rfl<;>decide
     have TK:=hI tk;clear hk hk12 tk;by_cases h256:256<=N
     ·rw[if_pos h256] at hEE;have HE:=hI hEE;clear hEE MADE CNEW0 BQ;rcases TK.out with ta | ⟨ta,tb⟩
      all_goals
       go_enter Tryz.func28,Tryz.ntmps28;go_wp2_with fail;refine CN.out.mono ?_;rintro e w0 ⟨rfl,rfl⟩;go_wp2_with fail;refine CS.out.mono ?_;rintro e w1 ⟨rfl,l1⟩;have L1:=hI l1;obtain⟨j1,j2,j3,j4,ca⟩:=STEP.out w1 l1;have CA:=hI ca;clear l1 ca;go_wp2_with fail;refine CA.out.mono ?_;rintro e w2 ⟨rfl,l2⟩;have L2:=hI (step L1.out l2);obtain⟨i1,_⟩:=STEP.out w2 L2.out;have M2:=hI (MP.out w2 L2.out);clear l2 STEP;go_wp2_with(first
        | ((with_reducible refine sN 57 ?_);refine wpList_len_own _ rfl (.tmp 56) 69 rfl 3 81 Tryz.underlying69 g4b m N D rfl M2.out ?_;rw[HSZ.out])
        | fail)
       go_ret2;obtain⟨t,e⟩:=STILL.out _ L2.out (by rw[HE.out];decide);exact⟨by rw[HE.out,e];rfl,t⟩
     ·rw[if_neg h256] at hEE;have HE:=hI hEE;have HI:Hid (c2a (T+1)):=by show c2a (T+1);unfold c2a;omega
      have MADE1:=hI (MADE.out hEE);have CNEW1:=hI (CNEW0.out HK.out);clear hEE STILL MADE CNEW0;rcases TK.out with ta | ⟨ta,tb⟩
      all_goals
       go_enter Tryz.func28,Tryz.ntmps28;go_wp2_with fail;refine CN.out.mono ?_;rintro e w0 ⟨rfl,rfl⟩;go_wp2_with fail;refine CS.out.mono ?_;rintro e w1 ⟨rfl,l1⟩;have L1:=hI l1;obtain⟨j1,j2,j3,j4,ca⟩:=STEP.out w1 l1;have CA:=hI ca;clear l1 ca;go_wp2_with fail;refine CA.out.mono ?_;rintro e w2 ⟨rfl,l2⟩;have L2:=hI (step L1.out l2);obtain⟨i1,_⟩:=STEP.out w2 L2.out;have M2:=hI (MP.out w2 L2.out);have B2:=hI (BQ.out w2 L2.out);have i2:w2.cell? ⟨q,2,none⟩=some (.int .i64 T):=B2.out.cell 2;clear l2;go_upto_region 16 with(first
        | ((with_reducible refine sN 57 ?_);refine wpList_len_own _ rfl (.tmp 56) 69 rfl 3 81 Tryz.underlying69 g4b m N D rfl M2.out ?_;rw[HSZ.out])
        | ((with_reducible refine sT 65 ?_);go_loud (refine q0a rfl _ (.tmp 65) (.tmp 63) rfl q 2 rfl _ _ (.int .i64 (T+1)) rfl B2 (show 2<3 by omega) (by kernel_rfl) rfl ?_);intro w4 B4 O4 hg4)
        | fail)
       have B4':Hid (Blk w4 q 71 [.int .i64 Q0,.map (some m),.int .i64 (T+1)]):=B4.out;have j1:w4.cell? ⟨q,1,none⟩=some (.map (some m)):=B4'.out.cell 1;have j2:w4.cell? ⟨q,2,none⟩=some (.int .i64 (T+1)):=B4'.out.cell 2;have A4:=hI (g0a.of_only O4.out);have L4s:Hid (w.heap.size<=w4.drew.heap.size):=Nat.le_trans L2.out.size A4.out.size;have CNEW:=hI (CNEW1.out w2 w4 L2.out A4.out);have MM0:Hid (∀w5,Below w4.drew.heap.size w4.drew w5->q0b w5 m N D):=λw5 hb=>F1a (w:=w4) (F1a M2.out (A4.out.rest m (World.ownsMap.lt M2.out) λe=>HQM.out e.symm)) (hb.block m (Nat.lt_of_lt_of_le (World.ownsMap.lt M2.out) A4.out.size))
       refine wp_region_held (S:=λw'=>w'.cell? ⟨q,1,none⟩=some (.map (some m))/\w'.cell? ⟨q,2,none⟩=some (.int .i64 (T+1))) (by kernel_rfl) ?_;change wpAnyH _ _ _ _ _ _ _ _ w4.drew
       have Sr0:Hid (w4.drew.cell? ⟨q,1,none⟩=some (.map (some m))/\w4.drew.cell? ⟨q,2,none⟩=some (.int .i64 (T+1))):=⟨j1,j2⟩;have br0:Hid (Below w.heap.size w4.drew w4.drew):=(Below.refl w4.drew.heap.size w4.drew).mono (L4s.out);refine tK 0 _ rfl (a0a (by kernel_rfl) (.tmp 0) rfl (.pointer (some ⟨q,0,none⟩)) (by kernel_rfl)) Sr0.out ?_;refine tK 1 _ rfl (p0a (by kernel_rfl) (.tmp 66) rfl ⟨q,0,none⟩ (by kernel_rfl)) Sr0.out ?_;refine tK 2 _ rfl (e0a (by kernel_rfl) _ (.tmp 67) 1 rfl (.pointer (some ⟨q,0,none⟩)) (.pointer (some ⟨q,1,none⟩)) (by kernel_rfl) (λw=>by go_simp)) Sr0.out ?_;refine tK 3 _ rfl (b0a (by kernel_rfl) _ (.tmp 68) rfl q (1) (by kernel_rfl) (.map (some m)) (λ_ h=>h.1) _ Tryz.underlying69 rfl) Sr0.out ?_;refine tK 4 _ rfl (a0a (by kernel_rfl) (.tmp 0) rfl (.pointer (some ⟨q,0,none⟩)) (by kernel_rfl)) Sr0.out ?_;refine tK 5 _ rfl (p0a (by kernel_rfl) (.tmp 70) rfl ⟨q,0,none⟩ (by kernel_rfl)) Sr0.out ?_;refine tK 6 _ rfl (e0a (by kernel_rfl) _ (.tmp 71) 2 rfl (.pointer (some ⟨q,0,none⟩)) (.pointer (some ⟨q,2,none⟩)) (by kernel_rfl) (λw=>by go_simp)) Sr0.out ?_;refine tK 7 _ rfl (b0a (by kernel_rfl) _ (.tmp 72) rfl q (2) (by kernel_rfl) (.int .i64 (T+1)) (λ_ h=>h.2) _ Tryz.underlying3 rfl) Sr0.out ?_;refine tK 8 _ rfl (a0a (by kernel_rfl) (.tmp 2) rfl (.int .u8 k) (by kernel_rfl)) Sr0.out ?_;refine oN 9 _ rfl λK hK=>?_
       go_simp;refine(CNEW.out).mono ?_;rintro e w5 ⟨P,rfl,nn⟩;have Sr1:Hid (w5.cell? ⟨q,1,none⟩=some (.map (some m))/\w5.cell? ⟨q,2,none⟩=some (.int .i64 (T+1))):=⟨(nn.2.2.2.2.2.cell (d0a j1)).trans j1,(nn.2.2.2.2.2.cell (d0a j2)).trans j2⟩;have br1:Hid (Below w.heap.size w4.drew w5):=(nn.2.2.2.2.2).mono (L4s.out);have NN:=hI nn;have MM:=hI (MM0.out _ nn.2.2.2.2.2);obtain⟨g,hg⟩:∃g,g=P.g:=⟨_,rfl⟩;rw[<-hg];have HG:=hI hg;clear nn hg;refine hK _ _ Sr1.out ?_;clear hK K;refine oN 10 _ rfl λK hK=>?_
       refine B0c rfl (.tmp 69) (.tmp 73) (.tmp 75) _ rfl Tryz.underlying69 m N D (by kernel_rfl) MM.out (by unfold maxLen;omega) (T+1) g (by kernel_rfl) (by kernel_rfl) HI.out ?_;intro w6 M6 T6;have X6:=hI (g0a.of_turned T6.out);have c61:w6.cell? ⟨q,1,none⟩=some (.map (some m)):=(Y1a X6.out HQM.out (d0a Sr1.out.1)).trans Sr1.out.1;have c62:w6.cell? ⟨q,2,none⟩=some (.int .i64 (T+1)):=(Y1a X6.out HQM.out (d0a Sr1.out.2)).trans Sr1.out.2;refine hK _ _ ⟨c61,c62⟩ ?_;clear hK K;refine dN ?_;have M6':=M6.out;rw[HG.out] at M6';have CE:=hI (MADE1.out w2 w4 w5 w6 P _ L2.out A4.out B4'.out NN.out M6' T6.out);clear M6' MADE1 CNEW1 CNEW MM0 MM;go_wp2_with fail;refine CE.out.mono ?_;rintro e w7 ⟨rfl,t7,c7⟩;have T7:=hI t7;clear t7 CE;go_wp2_with fail;go_ret2;refine⟨?_,T7.out⟩;have e9:r2a V s k=V.last+1:=if_pos HE.out;rw[HE.out,e9,<-HT9.out];rfl
   ·rw[if_pos hC0] at hEE;rw[if_neg hC0] at STEP;have HE:=hI hEE;clear hEE MADE CNEW0 MP BQ hC0;go_enter Tryz.func28,Tryz.ntmps28;go_wp2_with fail;refine CN.out.mono ?_;rintro e w0 ⟨rfl,rfl⟩;go_wp2_with fail;refine CS.out.mono ?_;rintro e w1 ⟨rfl,l1⟩;have L1:=hI l1;obtain⟨j1,j2,j3,j4,ca⟩:=STEP.out w1 l1;have CA:=hI ca;clear l1 ca STEP;go_wp2_with fail;refine CA.out.mono ?_;rintro e w2 ⟨rfl,l2⟩;have L2:=hI (step L1.out l2);clear l2;go_wp2_with fail;go_ret2;obtain⟨t,e⟩:=STILL.out _ L2.out (by rw[HE.out];decide);exact⟨by rw[HE.out,e];rfl,t⟩
  ·exact s8a HT h hs (.inr ⟨hne,.inr hv⟩)
 ·exact s8a HT h hs (.inr ⟨hne,.inl hp⟩)
end
def e3a(V:X0a)(n AE:Int)(B A:List Int):Int:=if r1a V.l n≠0 then r1a V.l n else if AE≠0 then AE else if V.quota<(T0a V.l:Int)-B.length+A.length then 13 else 0
def P3a(V:X0a)(n AE:Int)(B A:List Int)(L:List k0a):X0a:=if e3a V n AE B A=0 then ⟨V.quota,V.last,L⟩ else V
def K7a(DI:DrI)(EI:FiI)(w:World)(base q m:Nat)(V:X0a)(M:List VN)(n AE:Int)(B A:List Int)(L:List k0a)(e:Ending)(w':World):Prop:=e=.returned (.int .i64 (e3a V n AE B A))/\B3a (isV DI EI) w base q (pvS q m M) (P3a V n AE B A L) w'
theorem D7b{L:List k0a}{n:Int}{B:List Int}{Z:List Bool}:l5a L=l5a (v4a L n B Z):=by
 unfold l5a v4a;rw[List.map_map];refine List.map_congr_left λx hx=>?_
 simp only[Function.comp];by_cases h:x.n=n
 ·rw[if_pos h];rfl
 ·rw[if_neg h]
section
variable {DI:DrI} {EI:FiI} {w w':World} {base q m:Nat} {D:DataW Unit} {V:X0a} {M:List VN} {y z:VN} {x:k0a} {n k:Int} {s:o0a}
theorem E7b{Q T:Int}{R:List (Int×I0a)}(h:o2a DI EI w base q m D Q T M R)(hy:y∈M)(P:PN)(B:List Int)(Z:List Bool):(G4b M y.1.n (⟨y.1.n,y.1.kind,y.1.par,y.1.name,B,Z⟩,P)).map (·.1)=v4a (M.map (·.1)) y.1.n B Z:=by
 unfold G4b v4a;rw[List.map_map,List.map_map];refine List.map_congr_left λz hz=>?_
 simp only[Function.comp];by_cases hn:z.1.n=y.1.n
 ·rw[if_pos hn,if_pos hn,h.same hz hy hn]
 ·rw[if_neg hn,if_neg hn]
theorem PV.fileErr(h:PV DI EI w base q m D V M)(hn:c2a n)(hD:r1a V.l n≠0):Calls Tryz.prog 62 #[R0a q,.int .i64 n] w λe w'=>e=.returned (.tuple #[.pointer none,.int .i64 (r1a V.l n)])/\w=w':=by
 cases hat:vAt V.l n with
 | none=>
  have e:r1a V.l n=7:=by unfold r1a;rw[hat];rfl
  rw[e];exact K3b h.p hn (h.no hat)
 | some x=>
  obtain⟨y,hy,ey,en⟩:=h.at hat;have hkk:z0a V.l n=y.1.kind:=by rw[<-en];exact h.kindOf hy
  rcases h.p.kind y hy with hk | hk
  ·have e:r1a V.l n=9:=by unfold r1a;rw[hat,hkk,hk];rfl
   rw[e];exact l1b h.p hy en hk
  ·have e:r1a V.l n=0:=by unfold r1a;rw[hat,hkk,hk];rfl
   exact absurd e hD
theorem M4b(h:PV DI EI w base q m D V M)(hn:c2a n)(F:Nat)(hent:∀(args:Array Value) (w:World),(callFunc F args).run Tryz.prog w=.ok (.enter F args) w)(x1 x2:Value)(AE:Int)(fB:List Int->List Int)(fZ:List Bool->List Bool)(B:List Int)(Z:List Bool)(hB:H0a V.l n=B)(hZ:b1b V.l n=Z)
(ca:∀w' b qq B Z S,Below w.heap.size w w'->EI.is w' b qq B Z S->base<=b->b<=w'.heap.size->(∀j,S j->pvS q m M j∨w.heap.size<=j)->Calls Tryz.prog F #[ptr qq,x1,x2] w' λe w2=>e=.returned (.int .i64 AE)/\∃S',EI.is w2 b qq (fB B) (fZ Z) S'/\g0a S w' w2/\∀j,S' j->S j∨w'.heap.size<=j)
(hlB:(fB []).length<=65536)(hok:e3a V n AE B (fB [])=0->Vok ⟨V.quota,V.last,v4a V.l n (fB B) (fZ Z)⟩) :
  Calls Tryz.prog 74 #[R0a q,.int .i64 n,.func (.func F) #[] #[x1,x2]] w (K7a DI EI w base q m V M n AE B (fB []) (v4a V.l n (fB B) (fZ Z))):=by
 have STILL:Hid (∀w',Below w.heap.size w w'->e3a V n AE B (fB [])≠0->B3a (isV DI EI) w base q (pvS q m M) (P3a V n AE B (fB []) (v4a V.l n (fB B) (fZ Z))) w'):=λw' hb he=>by unfold P3a;rw[if_neg he];exact h.still hb
 by_cases hD:r1a V.l n≠0
 ·have C:=hI (h.fileErr hn hD);have HE:Hid (e3a V n AE B (fB [])=r1a V.l n):=if_pos hD;have td:(r1a V.l n != 0)=true:=by simpa using hD
  have HD:=hI hD;obtain⟨E,hE⟩:∃E,E=r1a V.l n:=⟨_,rfl⟩;rw[<-hE] at C td HE HD;clear h hn hB hZ ca hlB hok hD hE;unfold R0a at C⊢;go_enter Tryz.func74,Tryz.ntmps74;go_wp2_with fail;refine C.out.mono ?_;rintro e w0 ⟨rfl,rfl⟩;go_wp2_with fail;go_ret;exact⟨by rw[HE.out];rfl,STILL.out _ (Below.refl _ _) (by rw[HE.out];exact HD.out)⟩
 ·obtain⟨x,hx,hk2,hb1,hz1⟩:=p6a (L:=V.l) (n:=n) (by simpa using hD);obtain⟨y,hy,ey,en⟩:=h.at hx;have hk:y.1.kind=2:=by rw[ey,hk2]
  have hyB:y.1.B=B:=by rw[ey,<-hb1,hB]
  have hyZ:y.1.Z=Z:=by rw[ey,<-hz1,hZ]
  have C:=hI (Z8a h.p hy en hk);have hl:B.length<=T0a V.l:=by have:=Q8a (B:=[]) (Z:=[]) h.ok.rise hx;rw[<-ey,hyB] at this;simp at this;omega
  have hu:=h.ok.used;have hq1:=h.ok.q1;have hq0:=h.ok.q0;have FD:=h.p.files y hy hk;rw[hyB,hyZ] at FD;have CU:Hid (∀w',Below w.heap.size w w'->Calls Tryz.prog 24 #[R0a q] w' λe w2=>e=.returned (.int .i64 (T0a V.l:Nat))/\Below w'.heap.size w' w2):=λw' hb=>n1b (h.below hb)
  have CD:Hid (∀w',Below w.heap.size w w'->Calls Tryz.prog 61 #[ptr y.2.q] w' λe w2=>e=.returned (.int .i64 (B.length:Nat))/\∃k,w'.drewN k=w2):=λw' hb=>EI.size (EI.keep FD (g0a.of_over (λ_=>False) hb) λ_ _ e=>e)
  have J0:Hid (∀w',Below w.heap.size w w'->w'.cell? ⟨q,0,none⟩=some (.int .i64 V.quota)):=λw' hb=>(h.p.below hb).c0
  have FIN:Hid (e3a V n AE B (fB [])=0->∀w3,Below w.heap.size w w3->Calls Tryz.prog F #[ptr y.2.q,x1,x2] w3 λe w4=>e=.returned (.int .i64 AE)/\B3a (isV DI EI) w base q (pvS q m M) (P3a V n AE B (fB []) (v4a V.l n (fB B) (fZ Z))) w4):=λhe w3 hb=>by
   have h3:=h.below hb;refine(ca w3 base y.2.q B Z y.2.S hb (EI.keep FD (g0a.of_over (λ_=>False) hb) λ_ _ e=>e) (Nat.le_refl _) h3.p.hb λj hj=>.inl (.inr (.inr ⟨y,hy,.inr hj⟩))).mono ?_;rintro e w4 ⟨he4,S',f4,a4,n4⟩;refine⟨he4,?_⟩;have t:=h3.p.up (R':=l5a V.l) hy (y':=(⟨y.1.n,y.1.kind,y.1.par,y.1.name,fB B,fZ Z⟩,⟨y.2.g,y.2.q,S'⟩)) rfl rfl rfl (a4.mono λj _ hj=>.inr hj) ((h3.p.node y hy).2.spare a4 λhj=>(h.p.own y hy _ hj).2.2 y hy rfl) (λe=>by rw[hk] at e;cases e) (λ_=>f4) n4 λ_ _ _=>Iff.rfl
   have e5:(G4b M y.1.n (⟨y.1.n,y.1.kind,y.1.par,y.1.name,fB B,fZ Z⟩,⟨y.2.g,y.2.q,S'⟩)).map (·.1)=v4a V.l n (fB B) (fZ Z):=by rw[<-h.is,<-en];exact E7b h.p hy _ _ _
   unfold P3a;rw[if_pos he];have hreg:l5a V.l=l5a (v4a V.l n (fB B) (fZ Z)):=D7b;rw[hreg] at t;exact s6a (V':=⟨V.quota,V.last,v4a V.l n (fB B) (fZ Z)⟩) ((m3a.refl h.p hb).trans t) e5 (hok he) h.big
  have CA1:Hid (∀w1 q0 S0,Below w.heap.size w w1->EI.is w1 w.heap.size q0 [] [] S0->Calls Tryz.prog F #[ptr q0,x1,x2] w1 λe w2=>e=.returned (.int .i64 AE)/\Below w.heap.size w w2/\∀w3,Below w2.heap.size w2 w3->Calls Tryz.prog 61 #[ptr q0] w3 λe w4=>e=.returned (.int .i64 ((fB []).length:Nat))/\∃k,w3.drewN k=w4):=λw1 q0 S0 hb f0=>by refine(ca w1 w.heap.size q0 [] [] S0 hb f0 h.p.hb hb.size λj hj=>.inr (EI.ge f0 j hj).1).mono ?_;rintro e w2 ⟨he,S',f2,a2,n2⟩;exact⟨he,hb.trans (a2.below (λj hj=>(EI.ge f0 j hj).1) hb.size),λw3 h3=>EI.size (EI.keep f2 (g0a.of_over (λ_=>False) h3) λ_ _ e=>e)⟩
  have NEW:=hI (EI.new w);have HEE:Hid (e3a V n AE B (fB [])=if AE≠0 then AE else if V.quota<(T0a V.l:Int)-B.length+(fB []).length then 13 else 0):=if_neg hD;obtain⟨E,hE⟩:∃E,E=e3a V n AE B (fB []):=⟨_,rfl⟩;obtain⟨VV,hVV⟩:∃E,E=P3a V n AE B (fB []) (v4a V.l n (fB B) (fZ Z)):=⟨_,rfl⟩;unfold K7a;rw[<-hE,<-hVV] at FIN STILL⊢;rw[<-hE] at HEE;obtain⟨Q0,hQ0⟩:∃E,E=V.quota:=⟨_,rfl⟩;obtain⟨u,hu9⟩:∃E,E=T0a V.l:=⟨_,rfl⟩;obtain⟨lb,hlb⟩:∃E,E=B.length:=⟨_,rfl⟩;obtain⟨lf,hlf⟩:∃E,E=(fB []).length:=⟨_,rfl⟩;obtain⟨qd,hqd⟩:∃E,E=y.2.q:=⟨_,rfl⟩;rw[<-hQ0] at J0 HEE hu hq1 hq0;rw[<-hu9] at CU HEE hl hu;rw[<-hlb] at CD HEE hl;rw[<-hlf] at CA1 HEE hlB;rw[<-hqd] at C CD FIN;clear h hn hB hZ ca hok hD hx hk2 hb1 hz1 hy ey en hk hyB hyZ FD hE hVV hQ0 hu9 hlb hlf hqd;unfold R0a at C CU⊢;unfold ptr at C CD CA1 FIN NEW;obtain⟨t1,ht1⟩:∃t,t=(u:Int)-(lb:Int):=⟨_,rfl⟩;have hsub:IntKind.i64.wrap ((u:Int)-(lb:Int))=t1:=by rw[IntKind.wrap_i64,ht1];omega
  obtain⟨t2,ht2⟩:∃t,t=t1+(lf:Int):=⟨_,rfl⟩;have hadd:IntKind.i64.wrap (t1+(lf:Int))=t2:=by rw[IntKind.wrap_i64,ht2];omega
  have HEE2:Hid (E=if AE≠0 then AE else if Q0<t2 then 13 else 0):=by have:=HEE.out;rw[<-ht1,<-ht2] at this;exact this
  obtain⟨z,hz⟩:∃z,z=decide (Q0<t2):=⟨_,rfl⟩;have HZ:=hI hz;have hz':decide (Q0<t2)=z:=hz.symm;clear HEE ht1 ht2 hl hu hq1 hq0 hlB hz;go_enter Tryz.func74,Tryz.ntmps74;go_wp2_with fail;refine C.out.mono ?_;rintro e w0 ⟨rfl,rfl⟩;go_wp2_with fail;refine NEW.out.mono ?_;rintro e w1 ⟨q0,S0,rfl,f1,l1⟩;have L1:=hI l1;have CA2:=hI (CA1.out w1 q0 S0 l1 f1);clear f1 l1 CA1 NEW C;go_wp2_with fail;refine CA2.out.mono ?_;rintro e w2 ⟨rfl,l2,cz⟩;have L2:=hI l2;have CZ:=hI cz;have j0:=J0.out w2 l2;clear l2 cz CA2 J0;by_cases hA:AE=0
  ·subst hA;rw[if_neg (by decide)] at HEE2;go_upto_region 8 with fail
   refine wp_region_held (S:=λw'=>w'.cell? ⟨q,0,none⟩=some (.int .i64 Q0)) (by kernel_rfl) ?_;change wpAnyH _ _ _ _ _ _ _ _ w2.drew
   have Sr0:Hid (w2.drew.cell? ⟨q,0,none⟩=some (.int .i64 Q0)):=j0;have br0:Hid (Below w2.heap.size w2 w2.drew):=(Below.refl _ _).drew;refine tK 0 _ rfl (a0a (by kernel_rfl) (.tmp 0) rfl (.pointer (some ⟨q,0,none⟩)) (by kernel_rfl)) Sr0.out ?_;refine tK 2 _ rfl (a0a (by kernel_rfl) (.tmp 7) rfl (.pointer (some ⟨qd,0,none⟩)) (by kernel_rfl)) Sr0.out ?_;refine tK 5 _ rfl (a0a (by kernel_rfl) (.tmp 9) rfl (.pointer (some ⟨q0,0,none⟩)) (by kernel_rfl)) Sr0.out ?_;refine tK 8 _ rfl (a0a (by kernel_rfl) (.tmp 0) rfl (.pointer (some ⟨q,0,none⟩)) (by kernel_rfl)) Sr0.out ?_;refine tK 9 _ rfl (p0a (by kernel_rfl) (.tmp 35) rfl ⟨q,0,none⟩ (by kernel_rfl)) Sr0.out ?_;refine tK 10 _ rfl (e0a (by kernel_rfl) _ (.tmp 36) 0 rfl (.pointer (some ⟨q,0,none⟩)) (.pointer (some ⟨q,0,none⟩)) (by kernel_rfl) (λw=>by go_simp)) Sr0.out ?_;refine tK 11 _ rfl (b0a (by kernel_rfl) _ (.tmp 37) rfl q (0) (by kernel_rfl) (.int .i64 Q0) (λ_ h=>h) _ Tryz.underlying3 rfl) Sr0.out ?_;refine oN 1 _ rfl λK hK=>?_
   go_simp;refine(CU.out _ (step L2.out br0.out)).mono ?_;rintro e vr1 ⟨rfl,l⟩;have Sr1:Hid (vr1.cell? ⟨q,0,none⟩=some (.int .i64 Q0)):=(l.cell (d0a Sr0.out)).trans Sr0.out;have br1:Hid (Below w2.heap.size w2 vr1):=step br0.out l;refine hK _ _ Sr1.out ?_;clear hK K l;refine oN 3 _ rfl λK hK=>?_
   go_simp;refine(CD.out _ (step L2.out br1.out)).mono ?_;rintro e vr2 ⟨rfl,k1,rfl⟩;have Sr2:Hid ((vr1.drewN k1).cell? ⟨q,0,none⟩=some (.int .i64 Q0)):=Sr1.out;have br2:Hid (Below w2.heap.size w2 (vr1.drewN k1)):=br1.out.trans ((E0a vr1 k1).mono (Below.size br1.out));refine hK _ _ Sr2.out ?_;clear hK K;refine tK 4 (.int .i64 t1) rfl (.inl ⟨by kernel_rfl,λw _=>by go_simp⟩) Sr2.out ?_;refine oN 6 _ rfl λK hK=>?_
   go_simp;refine(CZ.out _ br2.out).mono ?_;rintro e vr3 ⟨rfl,k2,rfl⟩;have Sr3:Hid (((vr1.drewN k1).drewN k2).cell? ⟨q,0,none⟩=some (.int .i64 Q0)):=Sr2.out;have br3:Hid (Below w2.heap.size w2 ((vr1.drewN k1).drewN k2)):=br2.out.trans ((E0a (vr1.drewN k1) k2).mono (Below.size br2.out));refine hK _ _ Sr3.out ?_;clear hK K;refine oN 7 _ rfl λK hK=>?_
   go_simp;refine hK _ _ Sr3.out ?_;clear hK K;refine oN 12 _ rfl λK hK=>?_
   go_simp;refine hK _ _ Sr3.out ?_;clear hK K;refine dN ?_;obtain⟨w3,hw3⟩:∃x,x=vr1.drewN (k1+k2):=⟨_,rfl⟩;have L3:Hid (Below w.heap.size w w3):=by rw[hw3];exact step L2.out (br1.out.trans ((E0a vr1 (k1+k2)).mono (Below.size br1.out)))
   rw[<-hw3];clear hw3;cases z with
   | true=>
    have HE:Hid (E=13):=by have:=HEE2.out;rw[if_pos (of_decide_eq_true hz')] at this;exact this
    go_wp2_with fail;go_ret;exact⟨by rw[HE.out];rfl,STILL.out _ L3.out (by rw[HE.out];decide)⟩
   | false=>
    have HE:Hid (E=0):=by have:=HEE2.out;rw[if_neg (of_decide_eq_false hz')] at this;exact this
    go_wp2_with fail;refine(FIN.out HE.out w3 L3.out).mono ?_;rintro e w4 ⟨rfl,t4⟩;have T4:=hI t4;clear t4;go_wp2_with fail;go_ret;exact⟨by rw[HE.out];rfl,T4.out⟩
  ·have HE:Hid (E=AE):=by have:=HEE2.out;rw[if_pos hA] at this;exact this
   have ta:(AE != 0)=true:=by simpa using hA
   have HA:=hI hA;clear hA;go_wp2_with fail;go_ret;exact⟨by rw[HE.out];rfl,STILL.out _ L2.out (by rw[HE.out];exact HA.out)⟩
theorem N4b(h:PV DI EI w base q m D V M)(hn:c2a n)(F:Nat)(hent:∀(args:Array Value) (w:World),(callFunc F args).run Tryz.prog w=.ok (.enter F args) w)(x1:Value)(AE:Int)(fB:List Int->List Int)(fZ:List Bool->List Bool)(B:List Int)(Z:List Bool)(hB:H0a V.l n=B)(hZ:b1b V.l n=Z)
(ca:∀w' b qq B Z S,Below w.heap.size w w'->EI.is w' b qq B Z S->base<=b->b<=w'.heap.size->(∀j,S j->pvS q m M j∨w.heap.size<=j)->Calls Tryz.prog F #[ptr qq,x1] w' λe w2=>e=.returned (.int .i64 AE)/\∃S',EI.is w2 b qq (fB B) (fZ Z) S'/\g0a S w' w2/\∀j,S' j->S j∨w'.heap.size<=j)
(hlB:(fB []).length<=65536)(hok:e3a V n AE B (fB [])=0->Vok ⟨V.quota,V.last,v4a V.l n (fB B) (fZ Z)⟩) :
  Calls Tryz.prog 74 #[R0a q,.int .i64 n,.func (.func F) #[] #[x1]] w (K7a DI EI w base q m V M n AE B (fB []) (v4a V.l n (fB B) (fZ Z))):=by
 have STILL:Hid (∀w',Below w.heap.size w w'->e3a V n AE B (fB [])≠0->B3a (isV DI EI) w base q (pvS q m M) (P3a V n AE B (fB []) (v4a V.l n (fB B) (fZ Z))) w'):=λw' hb he=>by unfold P3a;rw[if_neg he];exact h.still hb
 by_cases hD:r1a V.l n≠0
 ·have C:=hI (h.fileErr hn hD);have HE:Hid (e3a V n AE B (fB [])=r1a V.l n):=if_pos hD;have td:(r1a V.l n != 0)=true:=by simpa using hD
  have HD:=hI hD;obtain⟨E,hE⟩:∃E,E=r1a V.l n:=⟨_,rfl⟩;rw[<-hE] at C td HE HD;clear h hn hB hZ ca hlB hok hD hE;unfold R0a at C⊢;go_enter Tryz.func74,Tryz.ntmps74;go_wp2_with fail;refine C.out.mono ?_;rintro e w0 ⟨rfl,rfl⟩;go_wp2_with fail;go_ret;exact⟨by rw[HE.out];rfl,STILL.out _ (Below.refl _ _) (by rw[HE.out];exact HD.out)⟩
 ·obtain⟨x,hx,hk2,hb1,hz1⟩:=p6a (L:=V.l) (n:=n) (by simpa using hD);obtain⟨y,hy,ey,en⟩:=h.at hx;have hk:y.1.kind=2:=by rw[ey,hk2]
  have hyB:y.1.B=B:=by rw[ey,<-hb1,hB]
  have hyZ:y.1.Z=Z:=by rw[ey,<-hz1,hZ]
  have C:=hI (Z8a h.p hy en hk);have hl:B.length<=T0a V.l:=by have:=Q8a (B:=[]) (Z:=[]) h.ok.rise hx;rw[<-ey,hyB] at this;simp at this;omega
  have hu:=h.ok.used;have hq1:=h.ok.q1;have hq0:=h.ok.q0;have FD:=h.p.files y hy hk;rw[hyB,hyZ] at FD;have CU:Hid (∀w',Below w.heap.size w w'->Calls Tryz.prog 24 #[R0a q] w' λe w2=>e=.returned (.int .i64 (T0a V.l:Nat))/\Below w'.heap.size w' w2):=λw' hb=>n1b (h.below hb)
  have CD:Hid (∀w',Below w.heap.size w w'->Calls Tryz.prog 61 #[ptr y.2.q] w' λe w2=>e=.returned (.int .i64 (B.length:Nat))/\∃k,w'.drewN k=w2):=λw' hb=>EI.size (EI.keep FD (g0a.of_over (λ_=>False) hb) λ_ _ e=>e)
  have J0:Hid (∀w',Below w.heap.size w w'->w'.cell? ⟨q,0,none⟩=some (.int .i64 V.quota)):=λw' hb=>(h.p.below hb).c0
  have FIN:Hid (e3a V n AE B (fB [])=0->∀w3,Below w.heap.size w w3->Calls Tryz.prog F #[ptr y.2.q,x1] w3 λe w4=>e=.returned (.int .i64 AE)/\B3a (isV DI EI) w base q (pvS q m M) (P3a V n AE B (fB []) (v4a V.l n (fB B) (fZ Z))) w4):=λhe w3 hb=>by
   have h3:=h.below hb;refine(ca w3 base y.2.q B Z y.2.S hb (EI.keep FD (g0a.of_over (λ_=>False) hb) λ_ _ e=>e) (Nat.le_refl _) h3.p.hb λj hj=>.inl (.inr (.inr ⟨y,hy,.inr hj⟩))).mono ?_;rintro e w4 ⟨he4,S',f4,a4,n4⟩;refine⟨he4,?_⟩;have t:=h3.p.up (R':=l5a V.l) hy (y':=(⟨y.1.n,y.1.kind,y.1.par,y.1.name,fB B,fZ Z⟩,⟨y.2.g,y.2.q,S'⟩)) rfl rfl rfl (a4.mono λj _ hj=>.inr hj) ((h3.p.node y hy).2.spare a4 λhj=>(h.p.own y hy _ hj).2.2 y hy rfl) (λe=>by rw[hk] at e;cases e) (λ_=>f4) n4 λ_ _ _=>Iff.rfl
   have e5:(G4b M y.1.n (⟨y.1.n,y.1.kind,y.1.par,y.1.name,fB B,fZ Z⟩,⟨y.2.g,y.2.q,S'⟩)).map (·.1)=v4a V.l n (fB B) (fZ Z):=by rw[<-h.is,<-en];exact E7b h.p hy _ _ _
   unfold P3a;rw[if_pos he];have hreg:l5a V.l=l5a (v4a V.l n (fB B) (fZ Z)):=D7b;rw[hreg] at t;exact s6a (V':=⟨V.quota,V.last,v4a V.l n (fB B) (fZ Z)⟩) ((m3a.refl h.p hb).trans t) e5 (hok he) h.big
  have CA1:Hid (∀w1 q0 S0,Below w.heap.size w w1->EI.is w1 w.heap.size q0 [] [] S0->Calls Tryz.prog F #[ptr q0,x1] w1 λe w2=>e=.returned (.int .i64 AE)/\Below w.heap.size w w2/\∀w3,Below w2.heap.size w2 w3->Calls Tryz.prog 61 #[ptr q0] w3 λe w4=>e=.returned (.int .i64 ((fB []).length:Nat))/\∃k,w3.drewN k=w4):=λw1 q0 S0 hb f0=>by refine(ca w1 w.heap.size q0 [] [] S0 hb f0 h.p.hb hb.size λj hj=>.inr (EI.ge f0 j hj).1).mono ?_;rintro e w2 ⟨he,S',f2,a2,n2⟩;exact⟨he,hb.trans (a2.below (λj hj=>(EI.ge f0 j hj).1) hb.size),λw3 h3=>EI.size (EI.keep f2 (g0a.of_over (λ_=>False) h3) λ_ _ e=>e)⟩
  have NEW:=hI (EI.new w);have HEE:Hid (e3a V n AE B (fB [])=if AE≠0 then AE else if V.quota<(T0a V.l:Int)-B.length+(fB []).length then 13 else 0):=if_neg hD;obtain⟨E,hE⟩:∃E,E=e3a V n AE B (fB []):=⟨_,rfl⟩;obtain⟨VV,hVV⟩:∃E,E=P3a V n AE B (fB []) (v4a V.l n (fB B) (fZ Z)):=⟨_,rfl⟩;unfold K7a;rw[<-hE,<-hVV] at FIN STILL⊢;rw[<-hE] at HEE;obtain⟨Q0,hQ0⟩:∃E,E=V.quota:=⟨_,rfl⟩;obtain⟨u,hu9⟩:∃E,E=T0a V.l:=⟨_,rfl⟩;obtain⟨lb,hlb⟩:∃E,E=B.length:=⟨_,rfl⟩;obtain⟨lf,hlf⟩:∃E,E=(fB []).length:=⟨_,rfl⟩;obtain⟨qd,hqd⟩:∃E,E=y.2.q:=⟨_,rfl⟩;rw[<-hQ0] at J0 HEE hu hq1 hq0;rw[<-hu9] at CU HEE hl hu;rw[<-hlb] at CD HEE hl;rw[<-hlf] at CA1 HEE hlB;rw[<-hqd] at C CD FIN;clear h hn hB hZ ca hok hD hx hk2 hb1 hz1 hy ey en hk hyB hyZ FD hE hVV hQ0 hu9 hlb hlf hqd;unfold R0a at C CU⊢;unfold ptr at C CD CA1 FIN NEW;obtain⟨t1,ht1⟩:∃t,t=(u:Int)-(lb:Int):=⟨_,rfl⟩;have hsub:IntKind.i64.wrap ((u:Int)-(lb:Int))=t1:=by rw[IntKind.wrap_i64,ht1];omega
  obtain⟨t2,ht2⟩:∃t,t=t1+(lf:Int):=⟨_,rfl⟩;have hadd:IntKind.i64.wrap (t1+(lf:Int))=t2:=by rw[IntKind.wrap_i64,ht2];omega
  have HEE2:Hid (E=if AE≠0 then AE else if Q0<t2 then 13 else 0):=by have:=HEE.out;rw[<-ht1,<-ht2] at this;exact this
  obtain⟨z,hz⟩:∃z,z=decide (Q0<t2):=⟨_,rfl⟩;have HZ:=hI hz;have hz':decide (Q0<t2)=z:=hz.symm;clear HEE ht1 ht2 hl hu hq1 hq0 hlB hz;go_enter Tryz.func74,Tryz.ntmps74;go_wp2_with fail;refine C.out.mono ?_;rintro e w0 ⟨rfl,rfl⟩;go_wp2_with fail;refine NEW.out.mono ?_;rintro e w1 ⟨q0,S0,rfl,f1,l1⟩;have L1:=hI l1;have CA2:=hI (CA1.out w1 q0 S0 l1 f1);clear f1 l1 CA1 NEW C;go_wp2_with fail;refine CA2.out.mono ?_;rintro e w2 ⟨rfl,l2,cz⟩;have L2:=hI l2;have CZ:=hI cz;have j0:=J0.out w2 l2;clear l2 cz CA2 J0;by_cases hA:AE=0
  ·subst hA;rw[if_neg (by decide)] at HEE2;go_upto_region 8 with fail
   refine wp_region_held (S:=λw'=>w'.cell? ⟨q,0,none⟩=some (.int .i64 Q0)) (by kernel_rfl) ?_;change wpAnyH _ _ _ _ _ _ _ _ w2.drew
   have Sr0:Hid (w2.drew.cell? ⟨q,0,none⟩=some (.int .i64 Q0)):=j0;have br0:Hid (Below w2.heap.size w2 w2.drew):=(Below.refl _ _).drew;refine tK 0 _ rfl (a0a (by kernel_rfl) (.tmp 0) rfl (.pointer (some ⟨q,0,none⟩)) (by kernel_rfl)) Sr0.out ?_;refine tK 2 _ rfl (a0a (by kernel_rfl) (.tmp 7) rfl (.pointer (some ⟨qd,0,none⟩)) (by kernel_rfl)) Sr0.out ?_;refine tK 5 _ rfl (a0a (by kernel_rfl) (.tmp 9) rfl (.pointer (some ⟨q0,0,none⟩)) (by kernel_rfl)) Sr0.out ?_;refine tK 8 _ rfl (a0a (by kernel_rfl) (.tmp 0) rfl (.pointer (some ⟨q,0,none⟩)) (by kernel_rfl)) Sr0.out ?_;refine tK 9 _ rfl (p0a (by kernel_rfl) (.tmp 35) rfl ⟨q,0,none⟩ (by kernel_rfl)) Sr0.out ?_;refine tK 10 _ rfl (e0a (by kernel_rfl) _ (.tmp 36) 0 rfl (.pointer (some ⟨q,0,none⟩)) (.pointer (some ⟨q,0,none⟩)) (by kernel_rfl) (λw=>by go_simp)) Sr0.out ?_;refine tK 11 _ rfl (b0a (by kernel_rfl) _ (.tmp 37) rfl q (0) (by kernel_rfl) (.int .i64 Q0) (λ_ h=>h) _ Tryz.underlying3 rfl) Sr0.out ?_;refine oN 1 _ rfl λK hK=>?_
   go_simp;refine(CU.out _ (step L2.out br0.out)).mono ?_;rintro e vr1 ⟨rfl,l⟩;have Sr1:Hid (vr1.cell? ⟨q,0,none⟩=some (.int .i64 Q0)):=(l.cell (d0a Sr0.out)).trans Sr0.out;have br1:Hid (Below w2.heap.size w2 vr1):=step br0.out l;refine hK _ _ Sr1.out ?_;clear hK K l;refine oN 3 _ rfl λK hK=>?_
   go_simp;refine(CD.out _ (step L2.out br1.out)).mono ?_;rintro e vr2 ⟨rfl,k1,rfl⟩;have Sr2:Hid ((vr1.drewN k1).cell? ⟨q,0,none⟩=some (.int .i64 Q0)):=Sr1.out;have br2:Hid (Below w2.heap.size w2 (vr1.drewN k1)):=br1.out.trans ((E0a vr1 k1).mono (Below.size br1.out));refine hK _ _ Sr2.out ?_;clear hK K;refine tK 4 (.int .i64 t1) rfl (.inl ⟨by kernel_rfl,λw _=>by go_simp⟩) Sr2.out ?_;refine oN 6 _ rfl λK hK=>?_
   go_simp;refine(CZ.out _ br2.out).mono ?_;rintro e vr3 ⟨rfl,k2,rfl⟩;have Sr3:Hid (((vr1.drewN k1).drewN k2).cell? ⟨q,0,none⟩=some (.int .i64 Q0)):=Sr2.out;have br3:Hid (Below w2.heap.size w2 ((vr1.drewN k1).drewN k2)):=br2.out.trans ((E0a (vr1.drewN k1) k2).mono (Below.size br2.out));refine hK _ _ Sr3.out ?_;clear hK K;refine oN 7 _ rfl λK hK=>?_
   go_simp;refine hK _ _ Sr3.out ?_;clear hK K;refine oN 12 _ rfl λK hK=>?_
   go_simp;refine hK _ _ Sr3.out ?_;clear hK K;refine dN ?_;obtain⟨w3,hw3⟩:∃x,x=vr1.drewN (k1+k2):=⟨_,rfl⟩;have L3:Hid (Below w.heap.size w w3):=by rw[hw3];exact step L2.out (br1.out.trans ((E0a vr1 (k1+k2)).mono (Below.size br1.out)))
   rw[<-hw3];clear hw3;cases z with
   | true=>
    have HE:Hid (E=13):=by have:=HEE2.out;rw[if_pos (of_decide_eq_true hz')] at this;exact this
    go_wp2_with fail;go_ret;exact⟨by rw[HE.out];rfl,STILL.out _ L3.out (by rw[HE.out];decide)⟩
   | false=>
    have HE:Hid (E=0):=by have:=HEE2.out;rw[if_neg (of_decide_eq_false hz')] at this;exact this
    go_wp2_with fail;refine(FIN.out HE.out w3 L3.out).mono ?_;rintro e w4 ⟨rfl,t4⟩;have T4:=hI t4;clear t4;go_wp2_with fail;go_ret;exact⟨by rw[HE.out];rfl,T4.out⟩
  ·have HE:Hid (E=AE):=by have:=HEE2.out;rw[if_pos hA] at this;exact this
   have ta:(AE != 0)=true:=by simpa using hA
   have HA:=hI hA;clear hA;go_wp2_with fail;go_ret;exact⟨by rw[HE.out];rfl,STILL.out _ L2.out (by rw[HE.out];exact HA.out)⟩
end
section
variable {DI:DrI} {EI:FiI} {w w' w2:World} {base q m:Nat} {D:DataW Unit} {V V':X0a} {M:List VN} {y z:VN} {x:k0a} {n a:Int} {s:o0a} {S:Nat->Prop} {xs:List Int}
theorem B3a.over{is:World->Nat->Nat->X0a->(Nat->Prop)->Prop}(hb:Below w.heap.size w w2)(t:B3a is w2 base q S V' w'):B3a is w base q S V' w':=by obtain⟨S',x,a,n⟩:=t;exact⟨S',x,(g0a.of_over S hb).trans a λj _ h=>h,λj hj=>(n j hj).imp id λh=>Nat.le_trans hb.size h⟩
theorem d3c(h:Vok V):((H0a V.l n).length:Int)<=T0a V.l:=by
 unfold H0a;cases hq:vAt V.l n with
 | none=>simp
 | some x=>have:=Q8a (B:=[]) (Z:=[]) h.rise hq;simp at this⊢;omega
theorem f6b(h:Vok V):e3a V n (q3a a xs.length) (H0a V.l n) (Y3a 0 [] a xs)=A0b V n a xs:=by
 unfold e3a A0b;by_cases h1:r1a V.l n≠0
 ·rw[if_pos h1,if_pos h1]
 ·rw[if_neg h1,if_neg h1];by_cases h2:q3a a xs.length≠0
  ·rw[if_pos h2,if_pos h2]
  ·rw[if_neg h2,if_neg h2];have hu:=h.used;have hl:=d3c (n:=n) h;have h2':q3a a xs.length=0:=by simpa using h2
   by_cases h3:xs=[]
   ·have e1:Y3a 0 [] a xs=[]:=if_neg λq=>q.2 h3
    have e2:Y3a 0 (H0a V.l n) a xs=H0a V.l n:=if_neg λq=>q.2 h3
    rw[e1,e2];simp only[List.length_nil];rw[if_neg (by omega),if_neg (by omega)]
   ·have e1:Y3a 0 [] a xs=N3a 0 [] a.toNat xs:=if_pos ⟨h2',h3⟩;have e2:Y3a 0 (H0a V.l n) a xs=N3a 0 (H0a V.l n) a.toNat xs:=if_pos ⟨h2',h3⟩;rw[e1,e2,f2a,f2a];simp only[List.length_nil];by_cases h4:V.quota<(T0a V.l:Int)-(H0a V.l n).length+(max (H0a V.l n).length (a.toNat+xs.length):Nat)
    ·rw[if_pos h4,if_pos (by omega)]
    ·rw[if_neg h4,if_neg (by omega)]
theorem L3b(h:Vok V):e3a V n (C2a a) (H0a V.l n) (T1a 0 [] a)=n6a V n a:=by
 unfold e3a n6a;by_cases h1:r1a V.l n≠0
 ·rw[if_pos h1,if_pos h1]
 ·rw[if_neg h1,if_neg h1];by_cases h2:C2a a≠0
  ·rw[if_pos h2,if_pos h2]
  ·rw[if_neg h2,if_neg h2];have h2':C2a a=0:=by simpa using h2
   have e1:(T1a (0:Int) [] a).length=a.toNat:=by unfold T1a;rw[if_pos h2',h1a]
   have e2:(T1a 0 (H0a V.l n) a).length=a.toNat:=by unfold T1a;rw[if_pos h2',h1a]
   rw[e1,e2]
theorem g6b(w:World)(p1 p2:Nat)(u:Value)(A:Option Addr)(l c:Nat)(E:Int)(R:World->Prop)(c1:w.cell? ⟨p1,0,none⟩=some (.int .i64 a))(c2:w.cell? ⟨p2,0,none⟩=some (.slice A l c))(ca:Calls Tryz.prog 76 #[u,.int .i64 a,.slice A l c] w λe w'=>e=.returned (.int .i64 E)/\R w') :
  Calls Tryz.prog 75 #[u,.pointer (some ⟨p1,0,none⟩),.pointer (some ⟨p2,0,none⟩)] w λe w'=>e=.returned (.int .i64 E)/\R w':=by
 have CA:=hI ca;clear ca;go_enter Tryz.func75,Tryz.ntmps75;go_wp2_with fail;refine CA.out.mono ?_;rintro e w1 ⟨rfl,r⟩;have RR:=hI r;clear r;go_wp2_with fail;go_ret;exact⟨rfl,RR.out⟩
theorem F0c(w:World)(p1:Nat)(u:Value)(E:Int)(R:World->Prop)(c1:w.cell? ⟨p1,0,none⟩=some (.int .i64 a))(ca:Calls Tryz.prog 78 #[u,.int .i64 a] w λe w'=>e=.returned (.int .i64 E)/\R w') :
  Calls Tryz.prog 77 #[u,.pointer (some ⟨p1,0,none⟩)] w λe w'=>e=.returned (.int .i64 E)/\R w':=by
 have CA:=hI ca;clear ca;go_enter Tryz.func77,Tryz.ntmps77;go_wp2_with fail;refine CA.out.mono ?_;rintro e w1 ⟨rfl,r⟩;have RR:=hI r;clear r;go_wp2_with fail;go_ret;exact⟨rfl,RR.out⟩
def a4c(DI:DrI)(EI:FiI)(w:World)(base q m:Nat)(V:X0a)(M:List VN)(n a:Int)(xs:List Int)(e:Ending)(w':World):Prop:=e=.returned (.int .i64 (A0b V n a xs))/\B3a (isV DI EI) w base q (pvS q m M) (vWr V n a xs) w'
def O4b(DI:DrI)(EI:FiI)(w:World)(base q m:Nat)(V:X0a)(M:List VN)(n a:Int)(e:Ending)(w':World):Prop:=e=.returned (.int .i64 (n6a V n a))/\B3a (isV DI EI) w base q (pvS q m M) (b2b V n a) w'
theorem l8b(h:PV DI EI w base q m D V M)(hn:c2a n)(ha:c2a a){A:Option Addr}{l c:Nat}(hh:Holds w w.heap.size A l c xs)(hoff:0<l->∀x,A=some x->¬pvS q m M x.block)(hc:c<=140737488355328):Calls Tryz.prog 30 #[R0a q,.int .i64 n,.int .i64 a,.slice A l c] w (a4c DI EI w base q m V M n a xs):=by
 have hmf:∀(fn:Fn) (first cap:Array Value) (w:World),(Instr.makeFunc fn first cap).run Tryz.prog w=.ok (.func fn first cap) w:=λ_ _ _ _=>rfl
 have CC:Hid (∀w2 p6 p7,Below w.heap.size w w2->Blk w2 p6 3 [.int .i64 a]->Blk w2 p7 51 [.slice A l c]->Calls Tryz.prog 74 #[R0a q,.int .i64 n,.func (.func 75) #[] #[.pointer (some ⟨p6,0,none⟩),.pointer (some ⟨p7,0,none⟩)]] w2 (a4c DI EI w base q m V M n a xs)):=λw2 p6 p7 hb b6 b7=>by
  have ok:=h.ok.wr n a hh.byte;refine(M4b (h.below hb) hn 75 (enters_of Tryz.func75 (by kernel_rfl) rfl) _ _ (q3a a xs.length) (λB=>Y3a 0 B a xs) (λZ=>Y3a false Z a (List.replicate xs.length true)) (H0a V.l n) (b1b V.l n) rfl rfl (λw3 b q3 B Z S3 hb3 f3 hbb hbs hS3=>?_) (r2b 0 (by simp) a) (λhe=>?_)).mono ?_
  ·have hw3:Below w.heap.size w w3:=hb.trans (hb3.mono hb.size);have hh3:=hh.over hw3;refine g6b w3 p6 p7 _ A l c _ _ ((hb3.cell (d0a (b6.cell 0))).trans (b6.cell 0)) ((hb3.cell (d0a (b7.cell 0))).trans (b7.cell 0)) (EI.write f3 ha hh3 hc (λh0 x hx hs=>?_) hbs);rcases hS3 _ hs with h1 | h1
   ·exact hoff h0 x hx h1
   ·obtain⟨bb,off,e,hlt,_⟩:=hh.cells h0;rw[hx] at e;injection e with e
    rw[e] at h1;have h2:w2.heap.size<=bb:=h1;have:=hb.size;omega
  ·rw[f6b h.ok] at he;have ev:vWr V n a xs=⟨V.quota,V.last,v4a V.l n (Y3a 0 (H0a V.l n) a xs) (Y3a false (b1b V.l n) a (List.replicate xs.length true))⟩:=if_pos he;rw[ev] at ok;exact ok
  ·rintro e w' ⟨he,t⟩;rw[f6b h.ok] at he;have ev:P3a V n (q3a a xs.length) (H0a V.l n) (Y3a 0 [] a xs) (v4a V.l n (Y3a 0 (H0a V.l n) a xs) (Y3a false (b1b V.l n) a (List.replicate xs.length true)))=vWr V n a xs:=by unfold P3a vWr;rw[f6b h.ok]
   rw[ev] at t;exact⟨he,t.over hb⟩
 clear h hn ha hh hc hoff;unfold R0a at CC⊢;go_enter Tryz.func30,Tryz.ntmps30;go_wp2_with(first
  | ((with_reducible refine sN 6 ?_);refine w0a rfl _ (.tmp 2) rfl (.int .i64 a) rfl rfl ?_;intro p6 w1 g1 g2 B1 L1)
  | ((with_reducible refine sN 7 ?_);refine w0a rfl _ (.tmp 3) rfl (.slice A l c) rfl rfl ?_;intro p7 w2 g3 g4 B2 L2;have B12:=hI (B1.out.over L2.out);have L12:=hI (step L1.out L2.out))
  | fail)
 refine(CC.out w2 p6 p7 L12.out B12.out B2.out).mono ?_;rintro e w3 ⟨rfl,t⟩;have T:=hI t;clear t;go_wp2_with fail;go_ret;exact⟨rfl,T.out⟩
theorem e3c(h:PV DI EI w base q m D V M)(hn:c2a n)(ha:c2a a):Calls Tryz.prog 31 #[R0a q,.int .i64 n,.int .i64 a] w (O4b DI EI w base q m V M n a):=by
 have hmf:∀(fn:Fn) (first cap:Array Value) (w:World),(Instr.makeFunc fn first cap).run Tryz.prog w=.ok (.func fn first cap) w:=λ_ _ _ _=>rfl
 have CC:Hid (∀w2 p6,Below w.heap.size w w2->Blk w2 p6 3 [.int .i64 a]->Calls Tryz.prog 74 #[R0a q,.int .i64 n,.func (.func 77) #[] #[.pointer (some ⟨p6,0,none⟩)]] w2 (O4b DI EI w base q m V M n a)):=λw2 p6 hb b6=>by
  have ok:=h.ok.cut n a;refine(N4b (h.below hb) hn 77 (enters_of Tryz.func77 (by kernel_rfl) rfl) _ (C2a a) (λB=>T1a 0 B a) (λZ=>T1a false Z a) (H0a V.l n) (b1b V.l n) rfl rfl (λw3 b q3 B Z S3 hb3 f3 hbb hbs hS3=>?_) (T0b 0 (by simp) a) (λhe=>?_)).mono ?_
  ·exact F0c w3 p6 _ _ _ ((hb3.cell (d0a (b6.cell 0))).trans (b6.cell 0)) (EI.cut f3 ha hbs)
  ·rw[L3b h.ok] at he;have ev:b2b V n a=⟨V.quota,V.last,v4a V.l n (T1a 0 (H0a V.l n) a) (T1a false (b1b V.l n) a)⟩:=if_pos he;rw[ev] at ok;exact ok
  ·rintro e w' ⟨he,t⟩;rw[L3b h.ok] at he;have ev:P3a V n (C2a a) (H0a V.l n) (T1a 0 [] a) (v4a V.l n (T1a 0 (H0a V.l n) a) (T1a false (b1b V.l n) a))=b2b V n a:=by unfold P3a b2b;rw[L3b h.ok]
   rw[ev] at t;exact⟨he,t.over hb⟩
 clear h hn ha;unfold R0a at CC⊢;go_enter Tryz.func31,Tryz.ntmps31;go_wp2_with(first
  | ((with_reducible refine sN 5 ?_);refine w0a rfl _ (.tmp 2) rfl (.int .i64 a) rfl rfl ?_;intro p6 w1 g1 g2 B1 L1)
  | fail)
 refine(CC.out w1 p6 L1.out B1.out).mono ?_;rintro e w3 ⟨rfl,t⟩;have T:=hI t;clear t;go_wp2_with fail;go_ret;exact⟨rfl,T.out⟩
end
open Go Go.RowKit
section
variable {P:Program} {ops:Array Oper} {Q:Exit->Act->World->Prop} {r n:Nat}
theorem G0c{row:String}{args:Array Value}{w:World}{R:Value->World->Prop}(h:Rows P row args w R):RowsIn (Fence.wide.inRound r) n P row args w R:=λc cs _=>
 let ⟨v,w',a,b⟩:=h c cs
 ⟨v,w',a,stepsIn_wide.2 b⟩
theorem H0c{o:Oper}{a:Act}{next next':Act->World->Prop}(hn:∀a w,next a w->next' a w):∀(res:Result Next),o.upon P a next Q res->o.uponIn (Fence.wide.inRound r) n P a next' Q res
 | .ok (.value v) w',h=>hn _ _ h
 | .ok .skip w',h=>hn _ _ h
 | .ok (.defer d) w',h=>hn _ _ h
 | .ok (.enter f args) w',h=>⟨λq=>(by cases q),CallsIn.inRound r (callsIn_wide.2 (Calls.mono h λe w q=>by
   cases e with
   | returned v=>exact hn _ _ q
   | panicked c=>exact q
   | outgrown=>exact q))⟩
 | .ok (.row row args) w',h=>⟨λq=>(by cases q),G0c (Rows.mono h λv w q=>hn _ _ q)⟩
 | .halt (.panic v) w',h=>h
 | .ok (.round _ _ _ _ _) _,h=>h.elim
theorem L7a(hd:∀(i:Nat) (o:Oper),ops[i]? = some o->∀c,o.op≠.defer c)(hL:¬LetsOut Q):∀(l:List Nat) (a:Act) (w:World),wpOps P ops Q l a w->wpOpsIn (Fence.wide.inRound r) n P ops Q l a w
 | [],_,_,h=>h
 | i::rest,a,w,h=>by
  unfold wpOps at h;unfold wpOpsIn;cases ho:ops[i]? with
  | none=>
   simp only[ho] at h⊢;exact L7a hd hL rest a w h
  | some o=>
   simp only[ho] at h⊢;split
   ·rename_i hw;rw[if_pos hw] at h;rcases h with h | h
    ·refine⟨λf _=>trivial,?_⟩;rw[Oper.semAt_eq _ _ _ (hd i o ho)];exact H0c (λa w q=>L7a hd hL rest a w q) _ h
    ·exact absurd h.2 hL
   ·rename_i hw;rw[if_neg hw] at h;exact⟨λf _=>trivial,L7a hd hL rest _ w h⟩
def h6b(ops:Array Oper):Bool:=ops.all λo=>match o.op with | .defer _=>false | _=>true
theorem P4b(h:h6b ops=true):∀(i:Nat) (o:Oper),ops[i]? = some o->∀c,o.op≠.defer c:=λi o hi c e=>by unfold h6b at h;obtain⟨hl,hv⟩:=Array.getElem?_eq_some_iff.1 hi;have h1:=Array.all_eq_true.1 h i hl;rw[hv,e] at h1;cases h1
theorem x5a{id:Nat}{a:Act}{w:World}(k:Nat)(S:World->Prop)(hm:P.follows .mixedOrders=true)(hd:h6b ops=true)(hL:¬LetsOut Q)
(h:K2a P .any ops Q S k ops.size (Array.replicate ops.size false) a { w with drawn:=w.drawn+1 }):(Code.region id ops true).wpIn (Fence.wide.inRound r) n P Q a w:=
 wpIn_region_draw λt=>L7a (P4b hd) hL _ _ _ (by simp only[Region.schedule,hm,Bool.true_or,if_true];exact wpAny_sound ops.size t _ a _ (D9a _ _ _ _ h))
end
section
variable {S:Nat->Prop} {w w':World}
theorem y5a(w:World)(l:Nat)(o:Obj)(h:S l):g0a S w (w.putObj l o):=by have g:=grownBy_putObj' w l o;exact⟨g.os,g.tape,g.output,g.size,λj hj hs=>g.block j hj λe=>hs (by injection e with e;rw[e];exact h)⟩
theorem t6a(w:World)(g i:Nat)(v:Value)(h:S g):g0a S w (w.setCell ⟨g,i,none⟩ v):=(g0a.of_only ((S1a.refl g w).setCell i v)).mono λj _ e=>by rw[e];exact h
theorem KeepsOthers.of_spare(a:g0a S w w')(h:∀j o,S j->w.heap[j]? = some o->o.isCells=true):KeepsOthers w w':=
 ⟨a.size,λk o hk ho=>by have hlt:=(Array.getElem?_eq_some_iff.1 hk).1;rw[a.rest k hlt λhs=>by rw[h k o hs hk] at ho;cases ho];exact hk⟩
theorem g0a.of_row{row:Option Nat}{B:Nat}(hg:w.grownBy w' row)(hr:∀r,row=some r->B<=r/\∃o:Obj,w.heap[r]? = some o/\o.isCells=false):g0a (λj=>B<=j/\∃o:Obj,w.heap[j]? = some o/\o.isCells=false) w w':=⟨hg.os,hg.tape,hg.output,hg.size,λj hj hs=>hg.block j hj λe=>hs (hr j e.symm)⟩
end
theorem I2b(w:World)(base q:Nat)(v:Value)(m:Nat)(D:DataW Unit)(L:List I0a)(d:PDr w base q v m D L)(hb:base<=w.heap.size)(htb:F2a base w)(p:ByteArray)(hp:p.size<=1048576) :
  Calls Tryz.prog 100 #[.pointer (some ⟨q,0,none⟩),.string p] w λe w'=>e=.returned (.int .i64 (Z6a L p))/\Below w.heap.size w w':=by
 have hsm:=d.small;have hG:Z6a L p=if M0a p.data.toList []≠0 then M0a p.data.toList [] else a1b L p:=rfl
 have C1:Hid (∀w',Below w.heap.size w w'->Calls Tryz.prog 151 #[.string p,.string ⟨#[]⟩] w' (y3a w' p.data.toList [])):=λw' h=>w3b p ⟨#[]⟩ w' (by omega) (by decide) (htb.at h hb)
 have C2:Hid (∀(x:ByteArray) w',x.size<=1048576->Below w.heap.size w w'->Calls Tryz.prog 151 #[.string ⟨#[]⟩,.string x] w' (y3a w' [] x.data.toList)):=λx w' hx h=>w3b ⟨#[]⟩ x w' (by decide) (by omega) (htb.at h hb)
 unfold y3a at C1 C2;obtain⟨z1,hz1⟩:∃z,z=E3a p.data.toList []:=⟨_,rfl⟩;obtain⟨e1,he1⟩:∃e,e=M0a p.data.toList []:=⟨_,rfl⟩;rw[<-hz1,<-he1] at C1;rw[<-he1] at hG;by_cases h1:e1=0
 ·have hp0:Hid (M0a p.data.toList []=0):=he1.symm.trans h1;rw[if_neg (λq=>q h1)] at hG;have HG:=hI hG;rw[h1] at C1;clear hG he1 hz1 h1;obtain⟨A,c,rfl⟩:=d.len;have k0:w.cell? ⟨q,0,none⟩=some (.slice A L.length c):=d.c0;have D0:=hI d;obtain⟨n,hn⟩:∃n,n=L.length:=⟨_,rfl⟩;rw[<-hn] at k0 hsm;have HN:=hI hn;clear d hn;go_enter Tryz.func100,Tryz.ntmps100;go_wp2_with fail;refine(C1.out w (Below.refl _ _)).mono ?_;rintro e w1 ⟨rfl,l1⟩;have L1:=hI l1;have k1:w1.cell? ⟨q,0,none⟩=some (.slice A n c):=(L1.out.cell (d0a k0)).trans k0;clear l1 C1;go_wp2_with fail;go_loopw [24] (λI wr=>∃i:Nat,i<=n/\I=.int .i64 (i:Nat)/\Hid (∀j (hj:j<L.length),j<i->M0a p.data.toList L[j].1.data.toList=0)/\Hid (Below w.heap.size w wr)) (λI _=>n-(intOf I).toNat)
  case atStart=>exact⟨0,Nat.zero_le _,rfl,(λj _ h=>absurd h (Nat.not_lt_zero _)),L1.out⟩
  case round=>
   obtain⟨i,hi,rfl,NO,LR⟩:=hrel;by_cases hlt:i<n
   ·have hil:i<L.length:=by have:=HN.out;omega
    obtain⟨g,c',e,hnc,hcm,k4⟩:=D0.out.at hil;injection e with e1 e2 e3
    subst e1 e3;have k4':wr.cell? ⟨g,i,none⟩=some (.string L[i].1):=(LR.out.cell (d0a k4)).trans k4;have CF:=hI (C2.out L[i].1 wr (D0.out.text _ (List.getElem_mem hil)) LR.out);have hpe:M0a p.data.toList L[i].1.data.toList=M0a [] L[i].1.data.toList:=v2b hp0.out _;obtain⟨z,hz⟩:∃z,z=E3a [] L[i].1.data.toList:=⟨_,rfl⟩;obtain⟨er,her⟩:∃e,e=M0a [] L[i].1.data.toList:=⟨_,rfl⟩;rw[<-hz,<-her] at CF;rw[<-her] at hpe;have HPE:=hI hpe;obtain⟨x,hx⟩:∃x,x=L[i].1:=⟨_,rfl⟩;rw[<-hx] at k4' CF;clear hz her hpe k4 e2 hx;by_cases h0:er=0
    ·go_wp2_with fail;refine CF.out.mono ?_;rintro e w2 ⟨rfl,l2⟩;have L2:=hI (LR.out.trans (l2.mono LR.out.size));clear l2 CF;have HPE0:Hid (M0a p.data.toList L[i].1.data.toList=0):=HPE.out.trans h0;clear HPE;subst h0;go_wp2_with fail;go_roundw
     case rel=>exact⟨i+1,by omega,by go_num,(λj hj hji=>by
      rcases Nat.lt_or_ge j i with h | h
      ·exact NO.out j hj h
      ·obtain rfl:j=i:=by omega
       exact HPE0.out),L2.out⟩
     case measure=>simp[intOf];omega
    ·have HR:Hid (Z6a L p=er):=HG.out.trans ((K2c hil (λj hj hji=>NO.out j hj hji) (by rw[HPE.out];exact h0)).trans HPE.out);go_wp2_with fail;refine CF.out.mono ?_;rintro e w2 ⟨rfl,l2⟩;have L2:=hI (LR.out.trans (l2.mono LR.out.size));clear l2 CF;go_wp2_with fail;go_ret;exact⟨by rw[HR.out];rfl,L2.out⟩
   ·obtain rfl:i=n:=by omega
    have HR:Hid (Z6a L p=0):=HG.out.trans (x2b λj hj=>NO.out j hj (by have:=HN.out;omega));go_wp2_with fail;go_ret;exact⟨by rw[HR.out];rfl,LR.out⟩
 ·rw[if_pos h1] at hG;rw[hG];clear hG d htb he1 hz1;go_enter Tryz.func100,Tryz.ntmps100;go_wp2_with fail;refine(C1.out w (Below.refl _ _)).mono ?_;rintro e w1 ⟨rfl,l1⟩;have L1:=hI l1;clear l1 C1;go_wp2_with fail;go_ret;exact⟨rfl,L1.out⟩
theorem Q4b(w:World)(q:Nat)(p a:ByteArray) :
  Calls Tryz.prog 102 #[.pointer (some ⟨q,0,none⟩),.string p,.string a] w λe w'=>∃pd pp pa,e=.returned (.func (.func 153) #[] #[.pointer (some ⟨pd,0,none⟩),.pointer (some ⟨pa,0,none⟩),.pointer (some ⟨pp,0,none⟩)])/\
   w.heap.size<=pd/\w.heap.size<=pp/\w.heap.size<=pa/\w'.cell? ⟨pd,0,none⟩=some (.pointer (some ⟨q,0,none⟩))/\w'.cell? ⟨pp,0,none⟩=some (.string p)/\w'.cell? ⟨pa,0,none⟩=some (.string a)/\Below w.heap.size w w':=by
 have hmf:∀(fn:Fn) (first cap:Array Value) (w:World),(Instr.makeFunc fn first cap).run Tryz.prog w=.ok (.func fn first cap) w:=λ_ _ _ _=>rfl
 go_enter Tryz.func102,Tryz.ntmps102;go_wp2_with(first
  | ((with_reducible refine sN 3 ?_);refine w0a rfl _ (.tmp 0) rfl (.pointer (some ⟨q,0,none⟩)) rfl rfl ?_;intro p1 w1 hg1 hg2 B1 L1)
  | ((with_reducible refine sN 4 ?_);refine w0a rfl _ (.tmp 1) rfl (.string p) rfl rfl ?_;intro p2 w2 hg3 hg4 B2 L2)
  | ((with_reducible refine sN 5 ?_);refine w0a rfl _ (.tmp 2) rfl (.string a) rfl rfl ?_;intro p3 w3 hg5 hg6 B3 L3)
  | fail)
 go_ret;have q2:=L1.out.trans (L2.out.mono L1.out.size);exact⟨p1,p2,p3,rfl,hg1,Nat.le_trans L1.out.size hg3,Nat.le_trans q2.size hg5,(L3.out.cell (Nat.lt_of_lt_of_le hg2 L2.out.size)).trans ((L2.out.cell hg2).trans (B1.out.cell 0)),(L3.out.cell hg4).trans (B2.out.cell 0),B3.out.cell 0,q2.trans (L3.out.mono q2.size)⟩
theorem p1a{P:Program}(w:World)(ad:Addr)(v:Value)(h:w.cell? ad=some v)(T:TypeId)(d:TypeDesc)(hu:P.underlying T=some d)(hd:(match d with | .struct _ | .array _ _=>true | _=>false)=false):(loadVar T ad).run P w=.ok v w:=by
 have hagg:(isAgg T).run P w=.ok false w:=by unfold isAgg;rw[Sem.run_bind,run_underlying hu];cases d<;>simp_all [Result.andThen]
 simp[loadVar,hagg,h,Result.andThen]
theorem K4a{fn:Func}{p1 p2 p3:Tmp}{t1 t2 t3:TypeId}(h:fn.results=#[.cell p1 t1,.cell p2 t2,.cell p3 t3])(tmps:Array Value)(P:Program)(w:World)(a1 a2 a3:Addr)(v1 v2 v3:Value)
(e1:tmps.getD p1 undef=.pointer (some a1))(e2:tmps.getD p2 undef=.pointer (some a2))(e3:tmps.getD p3 undef=.pointer (some a3))(h1:(loadVar t1 a1).run P w=.ok v1 w)(h2:(loadVar t2 a2).run P w=.ok v2 w)(h3:(loadVar t3 a3).run P w=.ok v3 w) :
  (results fn tmps).run P w=.ok (.tuple #[v1,v2,v3]) w:=by
 have e1':tmps[p1]?.getD undef=.pointer (some a1):=by simpa using e1
 have e2':tmps[p2]?.getD undef=.pointer (some a2):=by simpa using e2
 have e3':tmps[p3]?.getD undef=.pointer (some a3):=by simpa using e3
 simp[results,h,e1',e2',e3',asAddr,h1,h2,h3,Result.andThen]
theorem i6b(w:World)(A:Option Addr)(n c k:Nat)(hk:k<=n)(hnc:n<=c)(hc:c<=maxLen)(hA:A=none->c=0)(ho:∀ad,A=some ad->∃g,ad=⟨g,0,none⟩) :
  ∃A1 c1,(∀w,(Instr.sliceAt 78 (.slice A n c) (some (.int .i64 (k:Nat))) none none).run Tryz.prog w=.ok (.slice A1 (n-k) c1) w)/\n-k<=c1/\(0<n-k->∃g,A=some ⟨g,0,none⟩/\A1=some ⟨g,k,none⟩):=by
 unfold maxLen at hc;have e1:(k:Int)<=(n:Int):=by omega
 have e2:(n:Int)<=(c:Int):=by omega
 rcases A with _ | ad
 ·obtain rfl:c=0:=hA rfl;obtain rfl:n=0:=by omega
  obtain rfl:k=0:=by omega
  exact⟨none,0,λw=>by go_simp,Nat.le_refl _,λh=>absurd h (Nat.lt_irrefl _)⟩
 ·obtain⟨g,rfl⟩:=ho ad rfl;by_cases hck:c=k
  ·have hnk:n=k:=by omega
   subst hck;exact⟨some ⟨g,0,none⟩,0,λw=>by go_simp,by omega,λh=>by omega⟩
  ·by_cases hc0:c=0
   ·omega
   ·exact⟨some ⟨g,k,none⟩,c-k,λw=>by go_simp,by omega,λ_=>⟨g,rfl,rfl⟩⟩
open Go.RowKit Go.Shelf
attribute [local go_sem] Oper.semAt_some
abbrev NmD:={ x:ByteArray // x.size<=1048576 }
theorem a8a{w w':World}(h:Below w.heap.size w w'):w.grownBy w' none:=⟨h.os,h.tape,h.output,h.size,λi hi _=>h.block i hi⟩
structure ItD (w:World) (T:Nat->Prop) (q pd pp pa:Nat) (p a:ByteArray) (W:World):Prop where
 b:Below w.heap.size w W
 td:T pd
 tp:T pp
 ta:T pa
 tw:∀j,j<w.heap.size->T j
 cd:W.cell? ⟨pd,0,none⟩=some (.pointer (some ⟨q,0,none⟩))
 cp:W.cell? ⟨pp,0,none⟩=some (.string p)
 ca:W.cell? ⟨pa,0,none⟩=some (.string a)
section
variable {w W W':World} {T:Nat->Prop} {q pd pp pa:Nat} {p a:ByteArray}
theorem ItD.below(h:ItD w T q pd pp pa p a W)(hb:Below W.heap.size W W'):ItD w T q pd pp pa p a W':=⟨h.b.trans (hb.mono h.b.size),h.td,h.tp,h.ta,h.tw,(hb.cell (d0a h.cd)).trans h.cd,(hb.cell (d0a h.cp)).trans h.cp,(hb.cell (d0a h.ca)).trans h.ca⟩
theorem ItD.stay(h:ItD w T q pd pp pa p a W)(hb:g0a (λj=>¬T j) W W'):ItD w T q pd pp pa p a W':=⟨h.b.trans (hb.below (λj hj=>Nat.le_of_not_lt λq=>hj (h.tw j q)) h.b.size),h.td,h.tp,h.ta,h.tw,(Y1a hb (λq=>q h.td) (d0a h.cd)).trans h.cd,(Y1a hb (λq=>q h.tp) (d0a h.cp)).trans h.cp,(Y1a hb (λq=>q h.ta) (d0a h.ca)).trans h.ca⟩
end
noncomputable def c9a (X:List ByteArray) (p:ByteArray) (k j:Nat):List ByteArray:=((X.drop k).take j).filter (f2c p)
section
variable {X:List ByteArray} {p:ByteArray} {k j:Nat} {x:ByteArray}
theorem m8b:c9a X p k 0=[]:=by unfold c9a;rw[List.take_zero];rfl
theorem n8b(hx:X[k+j]? = some x):c9a X p k (j+1)=if f2c p x=true then c9a X p k j++[x] else c9a X p k j:=by
 have h1:(X.drop k)[j]? = some x:=by rw[List.getElem?_drop];exact hx
 obtain⟨h2,h3⟩:=List.getElem?_eq_some_iff.1 h1;unfold c9a;rw[List.take_succ_eq_append_getElem h2,List.filter_append,h3];simp only[List.filter_cons,List.filter_nil];split
 ·rfl
 ·rw[List.append_nil]
theorem I0c(h:X.length<=k+j):c9a X p k j=(X.drop k).filter (f2c p):=by unfold c9a;rw[List.take_of_length_le (by rw[List.length_drop];omega)]
theorem J0c:(c9a X p k j).length<=j:=by unfold c9a;exact Nat.le_trans (List.length_filter_le _ _) (by rw[List.length_take];omega)
theorem K0c:c9a X p k j <+: (X.drop k).filter (f2c p):=by unfold c9a;exact(List.take_prefix _ _).filter _
end
theorem L0c(n:Nat)(w:World)(base q:Nat)(v:Value)(m:Nat)(D:DataW Unit)(L:List I0a)(d:PDr w base q v m D L)(hb:base<=w.heap.size)(htb:F2a base w)(p a:ByteArray)(hp:p.size<=1048576)(ha:a.size<=1048576)(T:Nat->Prop)(pd pp pa:Nat)
(l:Nat)(J Jx:List NmD->World->Prop)(W:World)(hJ:AbidesFrom W.heap.size J)(it:ItD w T q pd pp pa p a W)
(hY:∀pre x W1,J pre W1->pre.length<4096->YieldAt Fence.wide n Tryz.prog l #[.string x.1] W1 λe W'=>(e=.returned (.bool true)/\J (pre++[x]) W'/\g0a (λj=>¬T j) W1 W')∨(e=.returned (.bool false)/\Jx (pre++[x]) W'))
(h0:J [] W) :
  CallsIn Fence.wide (n+1) Tryz.prog 153 #[.func (.yield l) #[] #[],.pointer (some ⟨pd,0,none⟩),.pointer (some ⟨pa,0,none⟩),.pointer (some ⟨pp,0,none⟩)] W λe W'=>(∃v,e=.returned v)/\
   ((∃xs:List NmD,xs.map (·.1)=Y2a L p a/\J xs W')∨(∃pre:List NmD,pre.map (·.1) <+: Y2a L p a/\Jx pre W')):=by
 have hmf:∀(fn:Fn) (first cap:Array Value) (w:World),(Instr.makeFunc fn first cap).run Tryz.prog w=.ok (.func fn first cap) w:=λ_ _ _ _=>rfl
 obtain⟨A,c,rfl⟩:=d.len;have hsm:=d.small;have hkle:dFr L a<=L.length:=e0c;have hNM:Y2a L p a=((dNm L).drop (dFr L a)).filter (f2c p):=g0c d.ok;have hshape:L.length<=c/\c<=maxLen/\(A=none->c=0)/\∀ad,A=some ad->∃g,ad=⟨g,0,none⟩:=by
  rcases d.row.2 with⟨h1,h2⟩ | ⟨g,cap,cur,h1,_,_,h3,h4,_⟩
  ·injection h1 with e1 e2 e3
   subst e1 e3;exact⟨by omega,by unfold maxLen;omega,λ_=>rfl,λad h=>by cases h⟩
  ·injection h1 with e1 e2 e3
   rw[Y6a] at h3;subst e1 e3;exact⟨h3,h4,(λh=>by cases h),λad h=>⟨g,by injection h with h;exact h.symm⟩⟩
 obtain⟨hnc,hcm,hA0,hA1⟩:=hshape;obtain⟨A1,c1,hsl,hnk,hat⟩:=i6b w A L.length c (dFr L a) hkle hnc hcm hA0 hA1;have D0:=hI d;have k0:∀W,Below w.heap.size w W->W.cell? ⟨q,0,none⟩=some (.slice A L.length c):=λW h=>(d.below h).c0
 have CS:Hid (∀W,ItD w T q pd pp pa p a W->CallsIn Fence.wide n Tryz.prog 144 #[.int .i64 (L.length:Nat),.func (.func 154) #[] #[.pointer (some ⟨pa,0,none⟩),.pointer (some ⟨pd,0,none⟩)]] W λe w'=>e=.returned (.int .i64 (dFr L a:Nat))/\Below W.heap.size W w'):=λW it=>callsIn_wide.2 (d.frS hb htb a ha W pd pa it.b it.cd it.ca)
 have CF:Hid (∀W (x:ByteArray),Below w.heap.size w W->x.size<=1048576->CallsIn Fence.wide n Tryz.prog 151 #[.string p,.string x] W (y3a W p.data.toList x.data.toList)):=λW x h hx=>callsIn_wide.2 (w3b p x W (by omega) (by omega) (htb.at h hb))
 unfold y3a at CF;obtain⟨N,hN⟩:∃N,N=L.length:=⟨_,rfl⟩;obtain⟨k,hk⟩:∃k,k=dFr L a:=⟨_,rfl⟩;rw[<-hN] at k0 CS hsl hkle hnk hat hsm hnc;rw[<-hk] at CS hsl hkle hnk hat hNM;have HN:=hI hN;have HNM:=hI hNM;have HJ:=hI hJ;have HY:=hI hY;have ITW:=hI it;have J0:=hI h0;have HAT:=hI hat;have K0:=hI k0;have k0W:=k0 W it.b;have cdW:=it.cd;have caW:=it.ca;have kT:Hid (∀W',Below W.heap.size W W'->J [] W'/\ItD w T q pd pp pa p a W'):=λW' h=>⟨hJ _ _ _ none h0 (a8a h) (λr e=>by cases e),it.below h⟩
 clear hN hk d htb hb hNM hJ hY it h0 hat k0 hA0 hA1;refine callsIn_of_wp Tryz.func153 rfl trivial ?_ rfl;simp only[Tryz.ntmps153,List.size_toArray,List.length_cons,List.length_nil,Nat.reduceAdd,Nat.reduceSub,Array.replicate_succ,Array.replicate_zero,List.push_toArray,List.append_toArray,List.nil_append,List.cons_append]
 gi_wp2_with fail
 refine⟨trivial,?_⟩;refine(CS.out W ITW.out).mono ?_;rintro e W1 ⟨rfl,l1⟩;have L1:=hI l1;have IT1:=hI (kT.out W1 l1).2;have J1:=hI (kT.out W1 l1).1;have k01:=K0.out W1 IT1.out.b;have cd1:=IT1.out.cd;clear l1 CS kT
 gi_wp2_with fail
 gi_loopw [24] (λI wr=>∃(j:Nat) (pre:List NmD),j<=N-k/\I=.int .i64 (j:Nat)/\Hid (pre.map (·.1)=c9a (dNm L) p k j)/\Hid (J pre wr)/\Hid (ItD w T q pd pp pa p a wr)) (λI _=>N-k-(intOf I).toNat)
 case atStart=>exact⟨0,[],Nat.zero_le _,rfl,m8b.symm,J1.out,IT1.out⟩
 case round=>
  obtain⟨j,pre,hj,rfl,TP,JR,IR⟩:=hrel;by_cases hlt:j<N-k
  ·obtain⟨g,hAg,hA1g⟩:=HAT.out (by omega);have hil:k+j<L.length:=by have:=HN.out;omega
   obtain⟨g',c',e,_,_,k4⟩:=(D0.out.below IR.out.b).at hil;rw[hAg] at e;injection e with e1 e2 e3
   injection e1 with e1
   injection e1 with e1
   subst e1;have hxs:L[k+j].1.size<=1048576:=D0.out.text _ (List.getElem_mem hil);have hX:(dNm L)[k+j]? = some L[k+j].1:=c0c hil;obtain⟨x,hx⟩:∃x,x=L[k+j].1:=⟨_,rfl⟩;rw[<-hx] at k4 hxs hX;have cpr:=IR.out.cp;have hSN:=hI (n8b (p:=p) hX);have hpl:pre.length<=j:=by have:=congrArg List.length TP.out;rw[List.length_map] at this;rw[this];exact J0c
   have CF1:=hI (CF.out wr x IR.out.b hxs);obtain⟨z,hz⟩:∃z,z=E3a p.data.toList x.data.toList:=⟨_,rfl⟩;obtain⟨er,her⟩:∃e,e=M0a p.data.toList x.data.toList:=⟨_,rfl⟩;rw[<-hz,<-her] at CF1;have hz':f2c p x=z:=hz.symm;rw[hz'] at hSN;subst hA1g;clear hz hz' her hX hx e2 e3 hAg
   gi_wp2_with fail
   refine⟨trivial,?_⟩;refine CF1.out.mono ?_;rintro e W2 ⟨rfl,l2⟩;have IT2:=hI (IR.out.below l2);have J2:=hI (HJ.out _ _ _ none JR.out (a8a l2) (λr e=>by cases e));clear l2 CF1;cases z with
   | false=>
    rw[if_neg (by decide)] at hSN
    gi_wp2_with fail
    refine⟨λ_ h=>(by cases h),?_⟩
    gi_wp2_with fail
    go_roundw
    case rel=>exact⟨j+1,pre,by omega,by go_num,TP.out.trans hSN.out.symm,J2.out,IT2.out⟩
    case measure=>simp[intOf];omega
   | true=>
    rw[if_pos rfl] at hSN;obtain⟨fn,tmps,assign,body,hy,hR⟩:=HY.out pre ⟨x,hxs⟩ W2 J2.out (by omega);dsimp only at hy;have HR:=hI hR;have hpx:Hid ((pre++[(⟨x,hxs⟩:NmD)]).map (·.1)=c9a (dNm L) p k (j+1)):=by
     show _=_
     rw[List.map_append,TP.out,hSN.out];rfl
    clear hR
    gi_wp2_with fail
    refine HR.out.mono ?_;rintro e W3 (⟨rfl,hJ3,hk3⟩ | ⟨rfl,hJx3⟩)
    ·have J3:=hI hJ3;have IT3:=hI (IT2.out.stay hk3);clear hJ3 hk3
     gi_wp2_with fail
     go_roundw
     case rel=>exact⟨j+1,_,by omega,by go_num,hpx.out,J3.out,IT3.out⟩
     case measure=>simp[intOf];omega
    ·have J3:=hI hJx3;clear hJx3
     gi_wp2_with fail
     refine bodyPost_ret (results_none rfl _ _ _) rfl ?_;exact⟨⟨_,rfl⟩,.inr ⟨_,by rw[hpx.out,HNM.out];exact K0c,J3.out⟩⟩
  ·obtain rfl:j=N-k:=by omega
   gi_wp2_with fail
   go_end0;exact⟨⟨_,rfl⟩,.inl ⟨pre,by rw[TP.out,HNM.out];exact I0c (by rw[Y6a];have:=HN.out;omega),JR.out⟩⟩
theorem o8b{w:World}{m N:Nat}{D:DataW Unit}(h:w.ownsMap Tryz.prog 9 (plainElem Tryz.prog 3) m N D)(s:ByteArray)(hs:s.size<=1048576):(Instr.lookup 136 (.map (some m)) (.string (g1b s)) false).run Tryz.prog w=.ok (.int .i64 (x9b D s)) w:=by obtain⟨u,ps,hrun,hu⟩:=h.lookup c7a Tryz.underlying136 (E3b w) (plainElem_int (H:=Unit) Tryz.underlying3 (a:=0) (by decide)) (h1b hs);obtain⟨c,rfl,hc,_⟩:=plainElem_int_inv Tryz.underlying3 hu;rw[hrun,D3b (congrArg Prod.fst hc)]
structure MpC (w:World) (q m N:Nat) (D:DataW Unit):Prop where
 c1:w.cell? ⟨q,1,none⟩=some (.map (some m))
 map:w.ownsMap Tryz.prog 9 (plainElem Tryz.prog 3) m N D
theorem MpC.below{w w':World}{q m N:Nat}{D:DataW Unit}(h:MpC w q m N D)(hb:Below w.heap.size w w'):MpC w' q m N D:=⟨(hb.cell (d0a h.c1)).trans h.c1,F1a h.map (hb.block m h.map.lt)⟩
structure FnC (w:World) (q g n c k:Nat) (x:ByteArray) (m N:Nat) (D:DataW Unit):Prop where
 c0:w.cell? ⟨q,0,none⟩=some (.slice (some ⟨g,0,none⟩) n c)
 c1:w.cell? ⟨q,1,none⟩=some (.map (some m))
 c4:w.cell? ⟨g,k,none⟩=some (.string x)
 map:w.ownsMap Tryz.prog 9 (plainElem Tryz.prog 3) m N D
theorem FnC.below{w w':World}{q g n c k:Nat}{x:ByteArray}{m N:Nat}{D:DataW Unit}(h:FnC w q g n c k x m N D)(hb:Below w.heap.size w w'):FnC w' q g n c k x m N D:=⟨(hb.cell (d0a h.c0)).trans h.c0,(hb.cell (d0a h.c1)).trans h.c1,(hb.cell (d0a h.c4)).trans h.c4,F1a h.map (hb.block m h.map.lt)⟩
theorem v5a.over{w w2 w':World}{base q m:Nat}{v v':Value}{L':List I0a}{D':DataW Unit}(t:v5a w2 base q m v L' w' v' D')(hb:Below w.heap.size w w2):v5a w base q m v L' w' v' D':=
 ⟨t.d,(g0a.of_over (u7b q m v) hb).trans t.a λj _ h=>h,λj hj=>by
  rcases t.n j hj with h | h
  ·exact .inl h
  ·exact .inr (Nat.le_trans hb.size h)⟩
theorem M0c(w:World)(base q:Nat)(v:Value)(m:Nat)(D:DataW Unit)(L:List I0a)(d:PDr w base q v m D L)(hb:base<=w.heap.size)(htb:F2a base w)(s:ByteArray)(hs:s.size<=1048576) :
  Calls Tryz.prog 42 #[.pointer (some ⟨q,0,none⟩),.string s] w λe w'=>e=.returned (.tuple #[.int .i64 (T6a L s).2,.string (T6a L s).1,.int .i64 (O1a L s)])/\Below w.heap.size w w':=by
 have hE:O1a L s=if J8a s=true then 5 else if s5a L s=true then 0 else 7:=rfl
 have hF:O1a L s≠0->T6a L s=(.empty,0):=h7b;have CN:=hI (d7a w q m d.c1);have TB:Hid (∀w',Below w.heap.size w w'->k5a w'):=λw' hb'=>htb.at hb' hb
 have CM:Hid (∀w',Below w.heap.size w w'->Calls Tryz.prog 92 #[.string s] w' λe w2=>e=.returned (.bool (!J8a s))/\Below w'.heap.size w' w2):=λw' hb'=>j1b s w' hs (htb.at hb' hb)
 have CH:Hid (∀w',Below w.heap.size w w'->Calls Tryz.prog 93 #[.pointer (some ⟨q,0,none⟩),.string s] w' λe w2=>e=.returned (.bool (s5a L s))/\Below w'.heap.size w' w2):=λw' hb'=>F3b w' base q v m D L (d.below hb') (Nat.le_trans hb hb'.size) (htb.next (hb'.mono hb)) s hs
 have SAME:Hid (∀w',Below w.heap.size w w'->∃v' D',v5a w base q m v L w' v' D'):=λw' h=>⟨v,D,d.below h,g0a.of_over _ h,λj hj=>.inl hj⟩
 have D0:=hI d;obtain⟨b,hbb⟩:∃b,b=J8a s:=⟨_,rfl⟩;obtain⟨z,hz⟩:∃z,z=s5a L s:=⟨_,rfl⟩;rw[<-hbb] at hE CM;rw[<-hz] at hE CH;cases b with
 | true=>
  rw[if_pos rfl] at hE;rw[hF (by rw[hE];decide),hE];clear hE hF d hbb htb hz;go_enter Tryz.func42,Tryz.ntmps42;go_wp2_with fail;refine CN.out.mono ?_;rintro e w0 ⟨rfl,rfl⟩;go_wp2_with fail;refine(CM.out _ (Below.refl _ _)).mono ?_;rintro e w1 ⟨rfl,l1⟩;have L1:=hI (l1);clear l1;go_wp2_with fail;go_ret3;exact⟨rfl,L1.out⟩
 | false=>
  rw[if_neg (by decide)] at hE;cases z with
  | false=>
   rw[if_neg (by decide)] at hE;rw[hF (by rw[hE];decide),hE];clear hE hF d hbb htb hz;go_enter Tryz.func42,Tryz.ntmps42;go_wp2_with fail;refine CN.out.mono ?_;rintro e w0 ⟨rfl,rfl⟩;go_wp2_with fail;refine(CM.out _ (Below.refl _ _)).mono ?_;rintro e w1 ⟨rfl,l1⟩;have L1:=hI (l1);clear l1;go_wp2_with fail;refine(CH.out _ L1.out).mono ?_;rintro e w2 ⟨rfl,l1⟩;have L2:=hI ((L1.out).trans (l1.mono (Below.size L1.out)));clear l1;go_wp2_with fail;go_ret3;exact⟨rfl,L2.out⟩
  | true=>
   rw[if_pos rfl] at hE;have hlt:=b0c d.ok hE;have hfd:=I2c d.ok hE;have hnm:=d.num hE;obtain⟨g,c,rfl,_,_,k4⟩:=d.at hlt;have hx:(L[dPl L s]'hlt).1.size<=1048576:=d.text _ (List.getElem_mem hlt);have CP:Hid (∀w',Below w.heap.size w w'->Calls Tryz.prog 95 #[.pointer (some ⟨q,0,none⟩),.string s] w' λe w2=>e=.returned (.int .i64 (dPl L s:Nat))/\Below w'.heap.size w' w2):=λw' hb'=>J9a w' base q _ m D L (d.below hb') (Nat.le_trans hb hb'.size) (htb.next (hb'.mono hb)) s hs
   rw[hE,<-hnm,hfd];have FC0:FnC w q g L.length c (dPl L s) (L[dPl L s]'hlt).1 m L.length D:=⟨d.c0,d.c1,k4,d.map⟩;have hsm:=d.small;obtain⟨x,hxx⟩:∃x,x=(L[dPl L s]'hlt).1:=⟨_,rfl⟩;rw[<-hxx] at FC0 hx⊢;clear hxx hfd k4 hnm;obtain⟨n,hn⟩:∃n,n=L.length:=⟨_,rfl⟩;obtain⟨k,hk⟩:∃k,k=dPl L s:=⟨_,rfl⟩;rw[<-hn,<-hk] at FC0 hlt;rw[<-hk] at CP;rw[<-hn] at hsm;have FC:Hid (∀w',Below w.heap.size w w'->FnC w' q g n c k x m n D):=λw' h=>FC0.below h
   clear hE hF d hbb htb hz hn hk FC0 SAME D0;go_enter Tryz.func42,Tryz.ntmps42;go_wp2_with fail;refine CN.out.mono ?_;rintro e w0 ⟨rfl,rfl⟩;go_wp2_with fail;refine(CM.out _ (Below.refl _ _)).mono ?_;rintro e w1 ⟨rfl,l1⟩;have L1:=hI (l1);clear l1;go_wp2_with fail;refine(CH.out _ L1.out).mono ?_;rintro e w2 ⟨rfl,l1⟩;have L2:=hI ((L1.out).trans (l1.mono (Below.size L1.out)));clear l1;go_upto_region 7 with fail
   refine wp_region_held (S:=λw'=>FnC w' q g n c k x m n D) (by kernel_rfl) ?_;change wpAnyH _ _ _ _ _ _ _ _ w2.drew
   have Sr0:Hid (FnC w2.drew q g n c k x m n D):=(FC.out _ L2.out).below (Below.refl _ _).drew;have br0:Hid (Below w.heap.size w w2.drew):=L2.out.drew;refine tK 0 _ rfl (a0a (by kernel_rfl) (.tmp 0) rfl (.pointer (some ⟨q,0,none⟩)) (by kernel_rfl)) Sr0.out ?_;refine tK 1 _ rfl (p0a (by kernel_rfl) (.tmp 19) rfl ⟨q,0,none⟩ (by kernel_rfl)) Sr0.out ?_;refine tK 2 _ rfl (e0a (by kernel_rfl) _ (.tmp 20) 1 rfl (.pointer (some ⟨q,0,none⟩)) (.pointer (some ⟨q,1,none⟩)) (by kernel_rfl) (λw=>by go_simp)) Sr0.out ?_;refine tK 3 _ rfl (b0a (by kernel_rfl) _ (.tmp 21) rfl q (1) (by kernel_rfl) (.map (some m)) (λ_ h=>h.c1) _ Tryz.underlying136 rfl) Sr0.out ?_;refine tK 4 _ rfl (a0a (by kernel_rfl) (.tmp 1) rfl (.string s) (by kernel_rfl)) Sr0.out ?_;refine tK 7 _ rfl (a0a (by kernel_rfl) (.tmp 0) rfl (.pointer (some ⟨q,0,none⟩)) (by kernel_rfl)) Sr0.out ?_;refine tK 8 _ rfl (p0a (by kernel_rfl) (.tmp 26) rfl ⟨q,0,none⟩ (by kernel_rfl)) Sr0.out ?_;refine tK 9 _ rfl (e0a (by kernel_rfl) _ (.tmp 27) 0 rfl (.pointer (some ⟨q,0,none⟩)) (.pointer (some ⟨q,0,none⟩)) (by kernel_rfl) (λw=>by go_simp)) Sr0.out ?_;refine tK 10 _ rfl (b0a (by kernel_rfl) _ (.tmp 28) rfl q (0) (by kernel_rfl) (.slice (some ⟨g,0,none⟩) n c) (λ_ h=>h.c0) _ Tryz.underlying78 rfl) Sr0.out ?_;refine tK 11 _ rfl (a0a (by kernel_rfl) (.tmp 0) rfl (.pointer (some ⟨q,0,none⟩)) (by kernel_rfl)) Sr0.out ?_;refine tK 12 _ rfl (a0a (by kernel_rfl) (.tmp 1) rfl (.string s) (by kernel_rfl)) Sr0.out ?_;refine oN 5 _ rfl λK hK=>?_
   go_simp;refine(U8a s _ hs (TB.out _ br0.out)).mono ?_;rintro e vr1 ⟨rfl,l1⟩;have Sr1:Hid (FnC vr1 q g n c k x m n D):=FnC.below Sr0.out l1;have br1:Hid (Below w.heap.size w vr1):=Below.trans br0.out (l1.mono (Below.size br0.out));refine hK _ _ Sr1.out ?_;clear hK K l1;refine tK 6 (.int .i64 (x9b D s)) rfl (J4a (by kernel_rfl) _ (.tmp 22) (.tmp 24) false rfl (.map (some m)) (.string (g1b s)) (by kernel_rfl) (by kernel_rfl) (λw' h=>o8b h.map s hs)) Sr1.out ?_;refine oN 13 _ rfl λK hK=>?_
   go_simp;refine(CP.out _ br1.out).mono ?_;rintro e vr2 ⟨rfl,l1⟩;have Sr2:Hid (FnC vr2 q g n c k x m n D):=FnC.below Sr1.out l1;have br2:Hid (Below w.heap.size w vr2):=Below.trans br1.out (l1.mono (Below.size br1.out));refine hK _ _ Sr2.out ?_;clear hK K l1;refine tK 14 (.pointer (some ⟨g,k,none⟩)) rfl (.inl ⟨by kernel_rfl,λw _=>by go_simp⟩) Sr2.out ?_;refine tK 15 _ rfl (b0a (by kernel_rfl) _ (.tmp 33) rfl g (k) (by kernel_rfl) (.string x) (λ_ h=>h.c4) _ Tryz.underlying9 rfl) Sr2.out ?_;refine oN 16 _ rfl λK hK=>?_
   go_simp;refine(K9a x _ hx).mono ?_;rintro e vr3 ⟨rfl,l1⟩;have Sr3:Hid (FnC vr3 q g n c k x m n D):=FnC.below Sr2.out l1;have br3:Hid (Below w.heap.size w vr3):=Below.trans br2.out (l1.mono (Below.size br2.out));refine hK _ _ Sr3.out ?_;clear hK K l1;refine tK 17 _ rfl (T3a (by kernel_rfl) (.tmp 25) rfl (.int .i64 (x9b D s)) (by kernel_rfl)) Sr3.out ?_;refine tK 18 _ rfl (T3a (by kernel_rfl) (.tmp 35) rfl (.string x) (by kernel_rfl)) Sr3.out ?_;refine oN 19 _ rfl λK hK=>?_
   go_simp;refine hK _ _ Sr3.out ?_;clear hK K;refine dN ?_;go_wp2_with fail;go_ret3;exact⟨rfl,br3.out⟩
theorem f3c(w:World)(base q:Nat)(v:Value)(m:Nat)(D:DataW Unit)(L:List I0a)(d:PDr w base q v m D L)(hb:base<=w.heap.size)(htb:F2a base w)(s:ByteArray)(hs:s.size<=1048576)(n:Int)(hn:K4c n)(hL:L.length<4096) :
  Calls Tryz.prog 119 #[.pointer (some ⟨q,0,none⟩),.string s,.int .i64 n] w (e5a w base q m v (d2c L s n) (.int .i64 (a2b L s))):=by
 have hE:a2b L s=if J8a s=true then 5 else if s5a L s=true then 8 else 0:=rfl
 have hF:a2b L s≠0->d2c L s n=L:=λh=>if_neg h
 unfold e5a;have CN:=hI (d7a w q m d.c1);have TB:Hid (∀w',Below w.heap.size w w'->k5a w'):=λw' hb'=>htb.at hb' hb
 have CM:Hid (∀w',Below w.heap.size w w'->Calls Tryz.prog 92 #[.string s] w' λe w2=>e=.returned (.bool (!J8a s))/\Below w'.heap.size w' w2):=λw' hb'=>j1b s w' hs (htb.at hb' hb)
 have CH:Hid (∀w',Below w.heap.size w w'->Calls Tryz.prog 93 #[.pointer (some ⟨q,0,none⟩),.string s] w' λe w2=>e=.returned (.bool (s5a L s))/\Below w'.heap.size w' w2):=λw' hb'=>F3b w' base q v m D L (d.below hb') (Nat.le_trans hb hb'.size) (htb.next (hb'.mono hb)) s hs
 have SAME:Hid (∀w',Below w.heap.size w w'->∃v' D',v5a w base q m v L w' v' D'):=λw' h=>⟨v,D,d.below h,g0a.of_over _ h,λj hj=>.inl hj⟩
 have D0:=hI d;obtain⟨b,hbb⟩:∃b,b=J8a s:=⟨_,rfl⟩;obtain⟨z,hz⟩:∃z,z=s5a L s:=⟨_,rfl⟩;rw[<-hbb] at hE CM;rw[<-hz] at hE CH;cases b with
 | true=>
  rw[if_pos rfl] at hE;rw[hF (by rw[hE];decide),hE];clear hE hF d hbb htb hz;go_enter Tryz.func119,Tryz.ntmps119;go_wp2_with fail;refine CN.out.mono ?_;rintro e w0 ⟨rfl,rfl⟩;go_wp2_with fail;refine(CM.out _ (Below.refl _ _)).mono ?_;rintro e w1 ⟨rfl,l1⟩;have L1:=hI (l1);clear l1;go_wp2_with fail;go_ret;exact⟨rfl,SAME.out _ L1.out⟩
 | false=>
  rw[if_neg (by decide)] at hE;cases z with
  | true=>
   rw[if_pos rfl] at hE;rw[hF (by rw[hE];decide),hE];clear hE hF d hbb htb hz;go_enter Tryz.func119,Tryz.ntmps119;go_wp2_with fail;refine CN.out.mono ?_;rintro e w0 ⟨rfl,rfl⟩;go_wp2_with fail;refine(CM.out _ (Below.refl _ _)).mono ?_;rintro e w1 ⟨rfl,l1⟩;have L1:=hI (l1);clear l1;go_wp2_with fail;refine(CH.out _ L1.out).mono ?_;rintro e w2 ⟨rfl,l1⟩;have L2:=hI ((L1.out).trans (l1.mono (Below.size L1.out)));clear l1;go_wp2_with fail;go_ret;exact⟨rfl,SAME.out _ L2.out⟩
  | false=>
   rw[if_neg (by decide)] at hE;have hA:d2c L s n=Z1b L s n:=by unfold d2c;rw[if_pos hE]
   rw[hE,hA];have CU:Hid (∀w',Below w.heap.size w w'->Calls Tryz.prog 164 #[.pointer (some ⟨q,0,none⟩),.string s,.int .i64 n] w' (e5a w' base q m v (Z1b L s n) (.tuple #[]))):=λw' hb'=>Q2c w' base q v m D L (d.below hb') (Nat.le_trans hb hb'.size) (htb.next (hb'.mono hb)) s hs n hn hbb.symm hz.symm hL
   obtain⟨L',hL'⟩:∃L',L'=Z1b L s n:=⟨_,rfl⟩;rw[<-hL'] at CU⊢;clear hE hF hA d hbb htb hz hL' SAME D0;go_enter Tryz.func119,Tryz.ntmps119;go_wp2_with fail;refine CN.out.mono ?_;rintro e w0 ⟨rfl,rfl⟩;go_wp2_with fail;refine(CM.out _ (Below.refl _ _)).mono ?_;rintro e w1 ⟨rfl,l1⟩;have L1:=hI (l1);clear l1;go_wp2_with fail;refine(CH.out _ L1.out).mono ?_;rintro e w2 ⟨rfl,l1⟩;have L2:=hI ((L1.out).trans (l1.mono (Below.size L1.out)));clear l1;go_wp2_with fail;refine(CU.out _ L2.out).mono ?_;rintro e w3 ⟨rfl,v',D',t⟩;have TT:=hI t;clear t;go_wp2_with fail;go_ret;exact⟨rfl,v',D',TT.out.over L2.out⟩
theorem j6b(w:World)(base q:Nat)(v:Value)(m:Nat)(D:DataW Unit)(L:List I0a)(d:PDr w base q v m D L)(hb:base<=w.heap.size)(htb:F2a base w)(s:ByteArray)(hs:s.size<=1048576) :
  Calls Tryz.prog 118 #[.pointer (some ⟨q,0,none⟩),.string s] w (e5a w base q m v (n0b L s) (.int .i64 (O1a L s))):=by
 have hE:O1a L s=if J8a s=true then 5 else if s5a L s=true then 0 else 7:=rfl
 have hF:O1a L s≠0->n0b L s=L:=λh=>if_neg h
 unfold e5a;have CN:=hI (d7a w q m d.c1);have TB:Hid (∀w',Below w.heap.size w w'->k5a w'):=λw' hb'=>htb.at hb' hb
 have CM:Hid (∀w',Below w.heap.size w w'->Calls Tryz.prog 92 #[.string s] w' λe w2=>e=.returned (.bool (!J8a s))/\Below w'.heap.size w' w2):=λw' hb'=>j1b s w' hs (htb.at hb' hb)
 have CH:Hid (∀w',Below w.heap.size w w'->Calls Tryz.prog 93 #[.pointer (some ⟨q,0,none⟩),.string s] w' λe w2=>e=.returned (.bool (s5a L s))/\Below w'.heap.size w' w2):=λw' hb'=>F3b w' base q v m D L (d.below hb') (Nat.le_trans hb hb'.size) (htb.next (hb'.mono hb)) s hs
 have SAME:Hid (∀w',Below w.heap.size w w'->∃v' D',v5a w base q m v L w' v' D'):=λw' h=>⟨v,D,d.below h,g0a.of_over _ h,λj hj=>.inl hj⟩
 have D0:=hI d;obtain⟨b,hbb⟩:∃b,b=J8a s:=⟨_,rfl⟩;obtain⟨z,hz⟩:∃z,z=s5a L s:=⟨_,rfl⟩;rw[<-hbb] at hE CM;rw[<-hz] at hE CH;cases b with
 | true=>
  rw[if_pos rfl] at hE;rw[hF (by rw[hE];decide),hE];clear hE hF d hbb htb hz;go_enter Tryz.func118,Tryz.ntmps118;go_wp2_with fail;refine CN.out.mono ?_;rintro e w0 ⟨rfl,rfl⟩;go_wp2_with fail;refine(CM.out _ (Below.refl _ _)).mono ?_;rintro e w1 ⟨rfl,l1⟩;have L1:=hI (l1);clear l1;go_wp2_with fail;go_ret;exact⟨rfl,SAME.out _ L1.out⟩
 | false=>
  rw[if_neg (by decide)] at hE;cases z with
  | false=>
   rw[if_neg (by decide)] at hE;rw[hF (by rw[hE];decide),hE];clear hE hF d hbb htb hz;go_enter Tryz.func118,Tryz.ntmps118;go_wp2_with fail;refine CN.out.mono ?_;rintro e w0 ⟨rfl,rfl⟩;go_wp2_with fail;refine(CM.out _ (Below.refl _ _)).mono ?_;rintro e w1 ⟨rfl,l1⟩;have L1:=hI (l1);clear l1;go_wp2_with fail;refine(CH.out _ L1.out).mono ?_;rintro e w2 ⟨rfl,l1⟩;have L2:=hI ((L1.out).trans (l1.mono (Below.size L1.out)));clear l1;go_wp2_with fail;go_ret;exact⟨rfl,SAME.out _ L2.out⟩
  | true=>
   rw[if_pos rfl] at hE;have CU:Hid (∀w',Below w.heap.size w w'->Calls Tryz.prog 163 #[.pointer (some ⟨q,0,none⟩),.string s] w' (e5a w' base q m v (n0b L s) (.tuple #[]))):=λw' hb'=>r0c w' base q v m D L (d.below hb') (Nat.le_trans hb hb'.size) (htb.next (hb'.mono hb)) s hs hE
   rw[hE];obtain⟨L',hL'⟩:∃L',L'=n0b L s:=⟨_,rfl⟩;rw[<-hL'] at CU⊢;clear hE hF d hbb htb hz hL' SAME D0;go_enter Tryz.func118,Tryz.ntmps118;go_wp2_with fail;refine CN.out.mono ?_;rintro e w0 ⟨rfl,rfl⟩;go_wp2_with fail;refine(CM.out _ (Below.refl _ _)).mono ?_;rintro e w1 ⟨rfl,l1⟩;have L1:=hI (l1);clear l1;go_wp2_with fail;refine(CH.out _ L1.out).mono ?_;rintro e w2 ⟨rfl,l1⟩;have L2:=hI ((L1.out).trans (l1.mono (Below.size L1.out)));clear l1;go_wp2_with fail;refine(CU.out _ L2.out).mono ?_;rintro e w3 ⟨rfl,v',D',t⟩;have TT:=hI t;clear t;go_wp2_with fail;go_ret;exact⟨rfl,v',D',TT.out.over L2.out⟩
section
variable {P:Program} {w:World} {ops:Array Oper} {rest:List Oper} {o:Oper} {a:Act} {Q:Exit->Act->World->Prop}
theorem O0a(hg:o.guard=none)(T:TypeId)(ho:o.op=.alloc T)(z:Value)(hi:(P.info? T).map (λi=>(i.zero,i.size))=some (some z,1))(hz:z.cells=#[z])
(h:∀g w',w.heap.size<=g->g<w'.heap.size->Hid (Blk w' g T [z])->Hid (Below w.heap.size w w')->wpList P ops Q rest (a.put o.dst (.pointer (some ⟨g,0,none⟩))) w'):wpList P ops Q (o::rest) a w:=by
 refine wpList_plain hg λK hK=>?_
 unfold Oper.wp execOp;have hz0:=(zero_of_info hi).1;simp only[ho,Sem.run_bind,Instr.alloc,hz0,newVar,newRow,hz,run_newObj_alloc,Sem.run_pure,Result.andThen_ok];refine hK _ _ (h _ _ (Nat.le_refl _) (by simp) ?_ ((Below.refl _ _).alloc (Nat.le_refl _) _));exact Blk.new w T [z]
end
theorem F7b{w w1 w2 w3 w4:World}{p7 p8 p9 p10:Nat}{T7 T8 T9 T10:TypeId}{a7 a8 a9 a10:List Value}{ad:Addr}{u:Value}(g7:w.heap.size<=p7)(h7:p7<w1.heap.size)(B7:Hid (Blk w1 p7 T7 a7))(L1:Hid (Below w.heap.size w w1))(g8:w1.heap.size<=p8)(h8:p8<w2.heap.size)(B8:Hid (Blk w2 p8 T8 a8))(L2:Hid (Below w1.heap.size w1 w2))
(g9:w2.heap.size<=p9)(h9:p9<w3.heap.size)(B9:Hid (Blk w3 p9 T9 a9))(L3:Hid (Below w2.heap.size w2 w3))(g10:w3.heap.size<=p10)(h10:p10<w4.heap.size)(B10:Hid (Blk w4 p10 T10 a10))(L4:Hid (Below w3.heap.size w3 w4))(k0:w.cell? ad=some u) :
  Hid (Below w.heap.size w w4)/\Hid (Blk w4 p7 T7 a7)/\Hid (Blk w4 p8 T8 a8)/\Hid (Blk w4 p9 T9 a9)/\Hid (Blk w4 p10 T10 a10)/\Hid (p9≠p8/\p10≠p8/\p7≠p8)/\Hid (p8≠p9/\p10≠p9/\p7≠p9)/\Hid (p8≠p10/\p9≠p10/\p7≠p10)/\Hid (w4.cell? ad=some u):=by
 have q2:=L1.out.trans (L2.out.mono L1.out.size);have q3:=q2.trans (L3.out.mono q2.size);have q4:=q3.trans (L4.out.mono q3.size);have s2:=L2.out.size;have s3:=L3.out.size;exact⟨q4,((B7.out.over L2.out).over L3.out).over L4.out,(B8.out.over L3.out).over L4.out,B9.out.over L4.out,B10.out,(by show _/\_/\_;omega),(by show _/\_/\_;omega),(by show _/\_/\_;omega),(q4.cell (d0a k0)).trans k0⟩
theorem k6b{w v v1 v2 v3:World}{p8 p9 p10:Nat}(h:Below w.heap.size w v)(P1:S1a p8 v v1)(P2:S1a p9 v1 v2)(P3:S1a p10 v2 v3)(h8:w.heap.size<=p8)(h9:w.heap.size<=p9)(h10:w.heap.size<=p10):Below w.heap.size w v3:=h.trans (((P1.below h8).trans (P2.below h9)).trans (P3.below h10))
theorem N0c(w:World)(base q:Nat)(v:Value)(m:Nat)(D:DataW Unit)(L:List I0a)(d:PDr w base q v m D L)(hb:base<=w.heap.size)(htb:F2a base w)(p a:ByteArray)(hp:p.size<=1048576)(ha:a.size<=1048576)(mo:Int)(E:Int)(hE:B6a L p a mo=E)(h0:E≠0) :
  Calls Tryz.prog 54 #[.pointer (some ⟨q,0,none⟩),.string p,.string a,.int .i64 mo] w (E6a w [] false E):=by
 rw[o8a] at hE;have k0:w.cell? ⟨q,1,none⟩=some (.map (some m)):=d.c1;have CN:Hid (∀w',Below w.heap.size w w'->Calls Tryz.prog 91 #[.pointer (some ⟨q,0,none⟩)] w' λe w2=>e=.returned (.bool false)/\w'=w2):=λw' h=>d7a w' q m (d.below h).c1
 have CG:Hid (∀w',Below w.heap.size w w'->Calls Tryz.prog 100 #[.pointer (some ⟨q,0,none⟩),.string p] w' λe w2=>e=.returned (.int .i64 (Z6a L p))/\Below w'.heap.size w' w2):=λw' h=>I2b w' base q v m D L (d.below h) (Nat.le_trans hb h.size) (htb.next (h.mono hb)) p hp
 have CT:Hid (∀w',Below w.heap.size w w'->Calls Tryz.prog 101 #[.string a] w' λe w2=>e=.returned (.bool (u0a a.data.toList))/\Below w'.heap.size w' w2):=λw' h=>i1b a w' ha (htb.at h hb)
 have E0:Hid (∀v0 v1 v2 v3 (p8 p9 p10:Nat) (w1 w2 w3:World),Below w.heap.size w v0->S1a p8 v0 v1->S1a p9 v1 v2->S1a p10 v2 v3->w.heap.size<=w1.heap.size->w1.heap.size<=p8->w1.heap.size<=w2.heap.size->w2.heap.size<=p9->w2.heap.size<=w3.heap.size->w3.heap.size<=p10->Below w.heap.size w v3):=λv0 v1 v2 v3 p8 p9 p10 w1 w2 w3 a1 a2 a3 a4 a5 a6 a7 a8 a9 a10=>k6b a1 a2 a3 a4 (by omega) (by omega) (by omega)
 by_cases h1:mo<0
 ·rw[if_pos h1] at hE;subst hE;clear d htb CG CT;go_enter Tryz.func54,Tryz.ntmps54;go_wp2_with(first
   | ((with_reducible refine sN 7 ?_);refine w0a rfl _ (.tmp 3) rfl (.int .i64 mo) rfl rfl ?_;intro p7 w1 g7 h7 B7 L1)
   | ((with_reducible refine sN 8 ?_);refine O0a rfl 78 rfl (.slice none 0 0) (by kernel_rfl) rfl ?_;intro p8 w2 g8 h8 B8 L2)
   | ((with_reducible refine sN 9 ?_);refine O0a rfl 4 rfl (.bool false) (by kernel_rfl) rfl ?_;intro p9 w3 g9 h9 B9 L3)
   | ((with_reducible refine sN 10 ?_);refine O0a rfl 29 rfl (.int .i64 0) (by kernel_rfl) rfl ?_;intro p10 w4 g10 h10 B10 L4;go_loud (obtain⟨K4,C7,C8,C9,C10,E1,E2,E3,Q0⟩:=F7b g7 h7 B7 L1 g8 h8 B8 L2 g9 h9 B9 L3 g10 h10 B10 L4 k0);go_loud (have c7:=C7.out.cell 0;have c8:=C8.out.cell 0;have c9:=C9.out.cell 0;have c10:=C10.out.cell 0))
   | fail)
  refine(CN.out w4 K4.out).mono ?_;rintro e w0 ⟨rfl,rfl⟩;have X8:=C8;have X9:=C9;have X10:=C10;go_wp2_with(first
   | ((with_reducible refine sT 8 ?_);go_loud (refine q0a rfl 78 _ _ rfl p8 0 rfl 78 [.slice none 0 0] (.slice none 0 0) rfl X8 (show 0<1 by omega) (by kernel_rfl) rfl ?_);intro v1 Y8 P1 _;have Y9:=hI (X9.out.only P1.out E1.out.1);have Y10:=hI (X10.out.only P1.out E1.out.2.1))
   | ((with_reducible refine sT 9 ?_);go_loud (refine q0a rfl 4 _ _ rfl p9 0 rfl 4 [.bool false] (.bool false) rfl Y9 (show 0<1 by omega) (by kernel_rfl) rfl ?_);intro v2 Z9 P2 _;have Z8:=hI (Y8.out.only P2.out E2.out.1);have Z10:=hI (Y10.out.only P2.out E2.out.2.1))
   | ((with_reducible refine sT 10 ?_);go_loud (refine q0a rfl 29 _ _ rfl p10 0 rfl 29 [.int .i64 0] (.int .i64 2) rfl Z10 (show 0<1 by omega) (by kernel_rfl) rfl ?_);intro v3 U10 P3 _;have U8:=hI (Z8.out.only P3.out E3.out.1);have U9:=hI (Z9.out.only P3.out E3.out.2.1))
   | fail)
  refine bodyPost_ret (K4a rfl _ _ _ ⟨p8,0,none⟩ ⟨p9,0,none⟩ ⟨p10,0,none⟩ (.slice none 0 0) (.bool false) (.int .i64 2) rfl rfl rfl (p1a _ _ _ (U8.out.cell 0) _ _ Tryz.underlying78 rfl) (p1a _ _ _ (U9.out.cell 0) _ _ Tryz.underlying4 rfl) (p1a _ _ _ (U10.out.cell 0) _ _ Tryz.underlying29 rfl)) rfl ?_;exact E6a.err (E0.out _ _ _ _ p8 p9 p10 w1 w2 w3 K4.out P1.out P2.out P3.out L1.out.size g8 L2.out.size g9 L3.out.size g10)
 ·rw[if_neg h1] at hE;obtain⟨G,hG⟩:∃G,G=Z6a L p:=⟨_,rfl⟩;rw[<-hG] at hE CG;by_cases h2:G=0
  ·rw[if_neg (λq=>q h2)] at hE;cases ht:u0a a.data.toList with
   | true=>
    rw[ht,if_pos rfl] at hE;exact absurd hE.symm h0
   | false=>
    rw[ht,if_neg (by decide)] at hE;rw[ht] at CT;subst hE;rw[h2] at CG;clear d htb ht hG h2 G;go_enter Tryz.func54,Tryz.ntmps54;go_wp2_with(first
     | ((with_reducible refine sN 7 ?_);refine w0a rfl _ (.tmp 3) rfl (.int .i64 mo) rfl rfl ?_;intro p7 w1 g7 h7 B7 L1)
     | ((with_reducible refine sN 8 ?_);refine O0a rfl 78 rfl (.slice none 0 0) (by kernel_rfl) rfl ?_;intro p8 w2 g8 h8 B8 L2)
     | ((with_reducible refine sN 9 ?_);refine O0a rfl 4 rfl (.bool false) (by kernel_rfl) rfl ?_;intro p9 w3 g9 h9 B9 L3)
     | ((with_reducible refine sN 10 ?_);refine O0a rfl 29 rfl (.int .i64 0) (by kernel_rfl) rfl ?_;intro p10 w4 g10 h10 B10 L4;go_loud (obtain⟨K4,C7,C8,C9,C10,E1,E2,E3,Q0⟩:=F7b g7 h7 B7 L1 g8 h8 B8 L2 g9 h9 B9 L3 g10 h10 B10 L4 k0);go_loud (have c7:=C7.out.cell 0;have c8:=C8.out.cell 0;have c9:=C9.out.cell 0;have c10:=C10.out.cell 0))
     | fail)
    refine(CN.out w4 K4.out).mono ?_;rintro e w0 ⟨rfl,rfl⟩;go_wp2_with fail;refine(CG.out w4 K4.out).mono ?_;rintro e w5 ⟨rfl,l1⟩;have K5:=hI (K4.out.trans (l1.mono (Below.size K4.out)));have D7:=hI (C7.out.over l1);have D8:=hI (C8.out.over l1);have D9:=hI (C9.out.over l1);have D10:=hI (C10.out.over l1);have c7:=D7.out.cell 0;clear l1;go_wp2_with fail;refine(CT.out w5 K5.out).mono ?_;rintro e w6 ⟨rfl,l1⟩;have K6:=hI (K5.out.trans (l1.mono (Below.size K5.out)));have E7:=hI (D7.out.over l1);have E8:=hI (D8.out.over l1);have E9:=hI (D9.out.over l1);have E10:=hI (D10.out.over l1);have c7:=E7.out.cell 0;clear l1;have X8:=E8;have X9:=E9;have X10:=E10;go_wp2_with(first
     | ((with_reducible refine sT 8 ?_);go_loud (refine q0a rfl 78 _ _ rfl p8 0 rfl 78 [.slice none 0 0] (.slice none 0 0) rfl X8 (show 0<1 by omega) (by kernel_rfl) rfl ?_);intro v1 Y8 P1 _;have Y9:=hI (X9.out.only P1.out E1.out.1);have Y10:=hI (X10.out.only P1.out E1.out.2.1))
     | ((with_reducible refine sT 9 ?_);go_loud (refine q0a rfl 4 _ _ rfl p9 0 rfl 4 [.bool false] (.bool false) rfl Y9 (show 0<1 by omega) (by kernel_rfl) rfl ?_);intro v2 Z9 P2 _;have Z8:=hI (Y8.out.only P2.out E2.out.1);have Z10:=hI (Y10.out.only P2.out E2.out.2.1))
     | ((with_reducible refine sT 10 ?_);go_loud (refine q0a rfl 29 _ _ rfl p10 0 rfl 29 [.int .i64 0] (.int .i64 5) rfl Z10 (show 0<1 by omega) (by kernel_rfl) rfl ?_);intro v3 U10 P3 _;have U8:=hI (Z8.out.only P3.out E3.out.1);have U9:=hI (Z9.out.only P3.out E3.out.2.1))
     | fail)
    refine bodyPost_ret (K4a rfl _ _ _ ⟨p8,0,none⟩ ⟨p9,0,none⟩ ⟨p10,0,none⟩ (.slice none 0 0) (.bool false) (.int .i64 5) rfl rfl rfl (p1a _ _ _ (U8.out.cell 0) _ _ Tryz.underlying78 rfl) (p1a _ _ _ (U9.out.cell 0) _ _ Tryz.underlying4 rfl) (p1a _ _ _ (U10.out.cell 0) _ _ Tryz.underlying29 rfl)) rfl ?_;exact E6a.err (E0.out _ _ _ _ p8 p9 p10 w1 w2 w3 K6.out P1.out P2.out P3.out L1.out.size g8 L2.out.size g9 L3.out.size g10)
  ·rw[if_pos h2] at hE;subst hE;clear d htb CT hG;go_enter Tryz.func54,Tryz.ntmps54;go_wp2_with(first
    | ((with_reducible refine sN 7 ?_);refine w0a rfl _ (.tmp 3) rfl (.int .i64 mo) rfl rfl ?_;intro p7 w1 g7 h7 B7 L1)
    | ((with_reducible refine sN 8 ?_);refine O0a rfl 78 rfl (.slice none 0 0) (by kernel_rfl) rfl ?_;intro p8 w2 g8 h8 B8 L2)
    | ((with_reducible refine sN 9 ?_);refine O0a rfl 4 rfl (.bool false) (by kernel_rfl) rfl ?_;intro p9 w3 g9 h9 B9 L3)
    | ((with_reducible refine sN 10 ?_);refine O0a rfl 29 rfl (.int .i64 0) (by kernel_rfl) rfl ?_;intro p10 w4 g10 h10 B10 L4;go_loud (obtain⟨K4,C7,C8,C9,C10,E1,E2,E3,Q0⟩:=F7b g7 h7 B7 L1 g8 h8 B8 L2 g9 h9 B9 L3 g10 h10 B10 L4 k0);go_loud (have c7:=C7.out.cell 0;have c8:=C8.out.cell 0;have c9:=C9.out.cell 0;have c10:=C10.out.cell 0))
    | fail)
   refine(CN.out w4 K4.out).mono ?_;rintro e w0 ⟨rfl,rfl⟩;go_wp2_with fail;refine(CG.out w4 K4.out).mono ?_;rintro e w5 ⟨rfl,l1⟩;have K5:=hI (K4.out.trans (l1.mono (Below.size K4.out)));have D7:=hI (C7.out.over l1);have D8:=hI (C8.out.over l1);have D9:=hI (C9.out.over l1);have D10:=hI (C10.out.over l1);have c7:=D7.out.cell 0;clear l1;have X8:=D8;have X9:=D9;have X10:=D10;go_wp2_with(first
    | ((with_reducible refine sT 8 ?_);go_loud (refine q0a rfl 78 _ _ rfl p8 0 rfl 78 [.slice none 0 0] (.slice none 0 0) rfl X8 (show 0<1 by omega) (by kernel_rfl) rfl ?_);intro v1 Y8 P1 _;have Y9:=hI (X9.out.only P1.out E1.out.1);have Y10:=hI (X10.out.only P1.out E1.out.2.1))
    | ((with_reducible refine sT 9 ?_);go_loud (refine q0a rfl 4 _ _ rfl p9 0 rfl 4 [.bool false] (.bool false) rfl Y9 (show 0<1 by omega) (by kernel_rfl) rfl ?_);intro v2 Z9 P2 _;have Z8:=hI (Y8.out.only P2.out E2.out.1);have Z10:=hI (Y10.out.only P2.out E2.out.2.1))
    | ((with_reducible refine sT 10 ?_);go_loud (refine q0a rfl 29 _ _ rfl p10 0 rfl 29 [.int .i64 0] (.int .i64 G) rfl Z10 (show 0<1 by omega) (by kernel_rfl) rfl ?_);intro v3 U10 P3 _;have U8:=hI (Z8.out.only P3.out E3.out.1);have U9:=hI (Z9.out.only P3.out E3.out.2.1))
    | fail)
   refine bodyPost_ret (K4a rfl _ _ _ ⟨p8,0,none⟩ ⟨p9,0,none⟩ ⟨p10,0,none⟩ (.slice none 0 0) (.bool false) (.int .i64 G) rfl rfl rfl (p1a _ _ _ (U8.out.cell 0) _ _ Tryz.underlying78 rfl) (p1a _ _ _ (U9.out.cell 0) _ _ Tryz.underlying4 rfl) (p1a _ _ _ (U10.out.cell 0) _ _ Tryz.underlying29 rfl)) rfl ?_;exact E6a.err (E0.out _ _ _ _ p8 p9 p10 w1 w2 w3 K5.out P1.out P2.out P3.out L1.out.size g8 L2.out.size g9 L3.out.size g10)
theorem O0c(n:Nat)(w:World)(base q:Nat)(v:Value)(m:Nat)(D:DataW Unit)(L:List I0a)(d:PDr w base q v m D L)(hb:base<=w.heap.size)(htb:F2a base w)(p a:ByteArray)(hp:p.size<=1048576)(ha:a.size<=1048576)(T:Nat->Prop)(pd pp pa:Nat)(W0:World)(it:ItD w T q pd pp pa p a W0) :
  SeqStopsK Fence.wide (n+1) Tryz.prog 153 #[.pointer (some ⟨pd,0,none⟩),.pointer (some ⟨pa,0,none⟩),.pointer (some ⟨pp,0,none⟩)] (λx:NmD=>#[.string x.1]) (λW W'=>g0a (λj=>¬T j) W W')
   (λxs=>xs.map (·.1)=Y2a L p a) (λpre=>pre.map (·.1) <+: Y2a L p a) 4096 W0:=λl J Jx W hW hJ _ hY h0=>
 L0c n w base q v m D L d hb htb p a hp ha T pd pp pa l J Jx W hJ (it.below hW) hY h0
structure LiD (w:World) (T:Nat->Prop) (q pd pp pa:Nat) (p a:ByteArray) (B p7 p8 p9 p10:Nat) (mo:Int) (v:Value) (z:Bool) (xs:List ByteArray) (W:World):Prop where
 it:ItD w T q pd pp pa p a W
 b7:Blk W p7 3 [.int .i64 mo]
 b8:Blk W p8 78 [v]
 b9:Blk W p9 4 [.bool z]
 b10:Blk W p10 29 [.int .i64 0]
 row:j1a G0a 1 9 W B v xs
 hB:B<=W.heap.size
theorem LiD.turn{w:World}{T:Nat->Prop}{q pd pp pa:Nat}{p a:ByteArray}{B p7 p8 p9 p10:Nat}{mo:Int}{v:Value}{z:Bool}{xs:List ByteArray}{W W':World}{S:Nat->Prop}(h:LiD w T q pd pp pa p a B p7 p8 p9 p10 mo v z xs W)(s:g0a S W W')(hT:∀j,T j->¬S j)(h7:¬S p7)(h8:¬S p8)(h9:¬S p9)(h10:¬S p10)(hv:∀i,v.ownBlock=some i->¬S i) :
  LiD w T q pd pp pa p a B p7 p8 p9 p10 mo v z xs W':=
 ⟨h.it.stay (s.mono λj _ hs ht=>hT j ht hs),h.b7.spare s h7,h.b8.spare s h8,h.b9.spare s h9,h.b10.spare s h10,h.row.sparS s hv,Nat.le_trans h.hB s.size⟩
theorem g7a{W:World}{g:Nat}{T:TypeId}{cs:List Value}(h:Blk W g T cs):¬∃o:Obj,W.heap[g]? = some o/\o.isCells=false:=fun⟨o,h1,h2⟩=>by
 rw[show W.heap[g]? = _ from h] at h1;injection h1 with h1
 subst h1;cases h2
theorem LiD.row'{w:World}{T:Nat->Prop}{q pd pp pa:Nat}{p a:ByteArray}{B B' p7 p8 p9 p10:Nat}{mo:Int}{v:Value}{z:Bool}{xs:List ByteArray}{W W':World}{row:Option Nat}(h:LiD w T q pd pp pa p a B p7 p8 p9 p10 mo v z xs W)(hg:W.grownBy W' row)(hr:∀r,row=some r->B'<=r/\∃o:Obj,W.heap[r]? = some o/\o.isCells=false)(hT:∀j,T j->j<B') :
  LiD w T q pd pp pa p a B p7 p8 p9 p10 mo v z xs W':=
 h.turn (g0a.of_row hg hr) (λj ht hs=>by have:=hT j ht;omega) (λhs=>g7a h.b7 hs.2) (λhs=>g7a h.b8 hs.2) (λhs=>g7a h.b9 hs.2) (λhs=>g7a h.b10 hs.2) λi hi hs=>by
  obtain⟨_,cs,hcs⟩:=h.row.block hi;obtain⟨_,o,ho,hf⟩:=hs;rw[hcs] at ho;injection ho with ho
  subst ho;cases hf
theorem P0c{e:TypeId}{w:World}{base:Nat}{v:Value}{xs:List ByteArray}:j1a G0a 1 e w base v xs↔t1a Value.string e w base v xs:=by unfold j1a t1a;rw[o0c]
section
variable {w:World} {T:Nat->Prop} {q pd pp pa:Nat} {p a:ByteArray} {B p7 p8 p9 p10:Nat} {mo:Int} {v v':Value} {z:Bool} {xs ys:List ByteArray} {W W' w3 w4 w5:World}
theorem LiD.below(h:LiD w T q pd pp pa p a B p7 p8 p9 p10 mo v z xs W)(hb:Below W.heap.size W W'):LiD w T q pd pp pa p a B p7 p8 p9 p10 mo v z xs W':=h.turn (g0a.of_over (λ_=>False) hb) (λ_ _ h=>h) (λh=>h) (λh=>h) (λh=>h) (λh=>h) λ_ _ h=>h
theorem LiD.cellsS(h:LiD w T q pd pp pa p a B p7 p8 p9 p10 mo v z xs W):∀j o,(v.ownBlock=some j∨j=p8∨j=p9∨j=p10)->W.heap[j]? = some o->o.isCells=true:=λj o hj ho=>by
 have bl:∀{g T' cs},Blk W g T' cs->W.heap[g]? = some o->o.isCells=true:=λb ho=>by
  rw[show W.heap[_]? = _ from b] at ho;injection ho with ho
  subst ho;rfl
 rcases hj with hj | rfl | rfl | rfl
 ·obtain⟨_,cs,hcs⟩:=h.row.block hj;rw[hcs] at ho;injection ho with ho
  subst ho;rfl
 ·exact bl h.b8 ho
 ·exact bl h.b9 ho
 ·exact bl h.b10 ho
theorem LiD.grow(h:LiD w T q pd pp pa p a B p7 p8 p9 p10 mo v z xs W)(hT:∀j,T j->j<B)(q7:p7<B)(q8:p8<B)(q9:p9<B)(q10:p10<B)(hT8:¬T p8)(n7:p7≠p8)(n9:p9≠p8)(n10:p10≠p8)(L3:Below W.heap.size W w3)(O4:j1a G0a 1 9 w4 B v' ys)(S4:g0a (λj=>v.ownBlock=some j) w3 w4)
(B5:Blk w5 p8 78 [v'])(P5:S1a p8 w4 w5):KeepsOthers W w5/\g0a (λj=>¬T j) W w5/\LiD w T q pd pp pa p a B p7 p8 p9 p10 mo v' z ys w5:=by
 have h3:=h.below L3;have hv:∀i,v.ownBlock=some i->B<=i:=λi hi=>(h3.row.block hi).1
 have hv':∀i,v'.ownBlock=some i->B<=i:=λi hi=>(O4.block hi).1
 have nv:∀j,j<B->¬v.ownBlock=some j:=λj hj e=>by have:=hv j e;omega
 have P:g0a (λj=>j=p8) w4 w5:=g0a.of_only P5;have i5:=(h3.it.stay (S4.mono λj _ e ht=>nv j (hT j ht) e)).stay (P.mono λj _ e ht=>hT8 (by rw[<-e];exact ht));have all:g0a (λj=>v.ownBlock=some j∨j=p8∨j=p9∨j=p10) W w5:=((g0a.of_over _ L3).trans (S4.mono λj _ e=>.inl e) λj _ h=>h).trans (P.mono λj _ e=>.inr (.inl e)) λj _ h=>h
 have allT:g0a (λj=>¬T j) W w5:=((g0a.of_over (λj=>¬T j) L3).trans (S4.mono (S':=λj=>¬T j) λj _ e ht=>nv j (hT j ht) e) λj _ h=>h).trans (P.mono (S':=λj=>¬T j) λj _ e ht=>hT8 (by rw[<-e];exact ht)) λj _ h=>h
 exact⟨KeepsOthers.of_spare all h.cellsS,allT,i5,(h3.b7.spare S4 (nv _ q7)).spare P n7,B5,(h3.b9.spare S4 (nv _ q9)).spare P n9,(h3.b10.spare S4 (nv _ q10)).spare P n10,O4.sparS P λi hi e=>by have:=hv' i hi;omega,Nat.le_trans h3.hB (Nat.le_trans S4.size (Nat.le_of_eq P5.size.symm))⟩
theorem LiD.tell(h:LiD w T q pd pp pa p a B p7 p8 p9 p10 mo v z xs W)(z':Bool)(hT:∀j,T j->j<B)(q7:p7<B)(q8:p8<B)(q9:p9<B)(q10:p10<B)(t8:¬T p8)(t9:¬T p9)(t10:¬T p10)(n1:p9≠p8/\p10≠p8/\p7≠p8)(n2:p8≠p9/\p10≠p9/\p7≠p9)(n3:p8≠p10/\p9≠p10/\p7≠p10) :
  KeepsOthers W (((W.setCell ⟨p8,0,none⟩ v).setCell ⟨p9,0,none⟩ (.bool z')).setCell ⟨p10,0,none⟩ (.int .i64 0))/\LiD w T q pd pp pa p a B p7 p8 p9 p10 mo v z' xs (((W.setCell ⟨p8,0,none⟩ v).setCell ⟨p9,0,none⟩ (.bool z')).setCell ⟨p10,0,none⟩ (.int .i64 0)):=by
 have nv:∀j,j<B->¬v.ownBlock=some j:=λj hj e=>by have:=(h.row.block e).1;omega
 have s1:g0a (λj=>j=p8) W (W.setCell ⟨p8,0,none⟩ v):=t6a W p8 0 v rfl;obtain⟨W1,hW1⟩:∃W1,W1=W.setCell ⟨p8,0,none⟩ v:=⟨_,rfl⟩;have b81:Blk W1 p8 78 [v]:=by rw[hW1];exact h.b8.set 0 v
 have s2:g0a (λj=>j=p9) W1 (W1.setCell ⟨p9,0,none⟩ (.bool z')):=t6a W1 p9 0 _ rfl;rw[<-hW1] at s1⊢;obtain⟨W2,hW2⟩:∃W2,W2=W1.setCell ⟨p9,0,none⟩ (.bool z'):=⟨_,rfl⟩;have b91:Blk W1 p9 4 [.bool z]:=h.b9.spare s1 n1.1;have b92:Blk W2 p9 4 [.bool z']:=by rw[hW2];exact b91.set 0 (.bool z')
 rw[<-hW2] at s2⊢;have s3:g0a (λj=>j=p10) W2 (W2.setCell ⟨p10,0,none⟩ (.int .i64 0)):=t6a W2 p10 0 _ rfl;have b102:Blk W2 p10 29 [.int .i64 0]:=(h.b10.spare s1 n1.2.1).spare s2 n2.2.1;have b103:Blk (W2.setCell ⟨p10,0,none⟩ (.int .i64 0)) p10 29 [.int .i64 0]:=b102.set 0 (.int .i64 0);have all:g0a (λj=>v.ownBlock=some j∨j=p8∨j=p9∨j=p10) W (W2.setCell ⟨p10,0,none⟩ (.int .i64 0)):=((s1.mono λj _ e=>.inr (.inl e)).trans (s2.mono (S':=λj=>v.ownBlock=some j∨j=p8∨j=p9∨j=p10) λj _ e=>.inr (.inr (.inl e))) λj _ h=>h).trans (s3.mono λj _ e=>.inr (.inr (.inr e))) λj _ h=>h
 have cut:∀{u:Nat} {A C:World},u<B->¬T u->ItD w T q pd pp pa p a A->g0a (λj=>j=u) A C->ItD w T q pd pp pa p a C:=λ_ ht i s=>i.stay (s.mono λj _ e ht'=>ht (by rw[<-e];exact ht'))
 have row3:=((h.row.sparS s1 λi hi e=>nv p8 q8 (by rw[<-e];exact hi)).sparS s2 λi hi e=>nv p9 q9 (by rw[<-e];exact hi)).sparS s3 λi hi e=>nv p10 q10 (by rw[<-e];exact hi)
 exact⟨KeepsOthers.of_spare all h.cellsS,cut q10 t10 (cut q9 t9 (cut q8 t8 h.it s1) s2) s3,((h.b7.spare s1 n1.2.2).spare s2 n2.2.2).spare s3 n3.2.2,(b81.spare s2 n2.1).spare s3 n3.1,b92.spare s3 n3.2.1,b103,row3,Nat.le_trans h.hB (Nat.le_trans s1.size (Nat.le_trans s2.size s3.size))⟩
theorem LiD.len(h:LiD w T q pd pp pa p a B p7 p8 p9 p10 mo v z xs W):∃A c,v=.slice A xs.length c:=by
 rcases h.row.2 with⟨h1,h2⟩ | ⟨g,cap,cur,h1,_⟩
 ·exact⟨none,0,by rw[h1,h2]⟩
 ·exact⟨_,_,h1⟩
theorem LiD.taken(h:LiD w T q pd pp pa p a B p7 p8 p9 p10 mo v z xs W)(hT:∀j,T j->j<B)(q7:p7<B)(q8:p8<B)(q9:p9<B)(q10:p10<B){D:Nat}{o:Obj}(hD:B<=D)(hK:W.heap[D]? = some o)(ho:o.isCells=false)(o':Obj):LiD w T q pd pp pa p a B p7 p8 p9 p10 mo v z xs (W.putObj D o'):=
 h.turn (S:=λj=>j=D) (y5a W D o' rfl) (λj ht e=>by have:=hT j ht;omega) (by omega) (by omega) (by omega) (by omega) λi hi e=>by have:=h.cellsS i o (.inl hi) (by rw[e];exact hK);rw[ho] at this;cases this
theorem LiD.post(h:LiD w T q pd pp pa p a B p7 p8 p9 p10 mo v z xs W)(hw:w.heap.size<=B):E6a w xs z 0 (.returned (.tuple #[v,.bool z,.int .i64 0])) W:=⟨v,rfl,h.row.mono hw,h.it.b⟩
theorem LiD.results(h:LiD w T q pd pp pa p a B p7 p8 p9 p10 mo v z xs W){fn:Func}{r1 r2 r3:Tmp}(hf:fn.results=#[.cell r1 78,.cell r2 4,.cell r3 29])(tmps:Array Value)
(e1:tmps.getD r1 undef=.pointer (some ⟨p8,0,none⟩))(e2:tmps.getD r2 undef=.pointer (some ⟨p9,0,none⟩))(e3:tmps.getD r3 undef=.pointer (some ⟨p10,0,none⟩)):(results fn tmps).run Tryz.prog W=.ok (.tuple #[v,.bool z,.int .i64 0]) W:=K4a hf tmps _ _ _ _ _ _ _ _ e1 e2 e3 (p1a _ _ _ (h.b8.cell 0) _ _ Tryz.underlying78 rfl) (p1a _ _ _ (h.b9.cell 0) _ _ Tryz.underlying4 rfl) (p1a _ _ _ (h.b10.cell 0) _ _ Tryz.underlying29 rfl)
end
attribute [local go_sem] Oper.semAt_some
theorem g3c(w:World)(base q:Nat)(v:Value)(m:Nat)(D:DataW Unit)(L:List I0a)(d:PDr w base q v m D L)(hb:base<=w.heap.size)(htb:F2a base w)(p a:ByteArray)(hp:p.size<=1048576)(ha:a.size<=1048576)(mx:Nat)(hmx:K4c (mx:Int))(hE:B6a L p a (mx:Int)=0) :
  Calls Tryz.prog 54 #[.pointer (some ⟨q,0,none⟩),.string p,.string a,.int .i64 (mx:Int)] w (E6a w ((Y2a L p a).take mx) (decide ((mx:Int)<((Y2a L p a).length:Int))) 0):=by
 rw[o8a,if_neg (by omega)] at hE;have k0:w.cell? ⟨q,1,none⟩=some (.map (some m)):=d.c1;have CN:Hid (∀w',Below w.heap.size w w'->Calls Tryz.prog 91 #[.pointer (some ⟨q,0,none⟩)] w' λe w2=>e=.returned (.bool false)/\w'=w2):=λw' h=>d7a w' q m (d.below h).c1
 have CG:Hid (∀w',Below w.heap.size w w'->Calls Tryz.prog 100 #[.pointer (some ⟨q,0,none⟩),.string p] w' λe w2=>e=.returned (.int .i64 (Z6a L p))/\Below w'.heap.size w' w2):=λw' h=>I2b w' base q v m D L (d.below h) (Nat.le_trans hb h.size) (htb.next (h.mono hb)) p hp
 have CT:Hid (∀w',Below w.heap.size w w'->Calls Tryz.prog 101 #[.string a] w' λe w2=>e=.returned (.bool (u0a a.data.toList))/\Below w'.heap.size w' w2):=λw' h=>i1b a w' ha (htb.at h hb)
 obtain⟨G,hG⟩:∃G,G=Z6a L p:=⟨_,rfl⟩;rw[<-hG] at hE CG;have h2:G=0:=by
  by_cases q:G=0
  ·exact q
  ·rw[if_pos q] at hE;exact absurd hE q
 have ht:u0a a.data.toList=true:=by
  rw[if_neg (λq=>q h2)] at hE;cases q:u0a a.data.toList with
  | true=>rfl
  | false=>rw[q,if_neg (by decide)] at hE;cases hE
 rw[h2] at CG;rw[ht] at CT;have D0:=hI d;have TB0:=hI htb;have HB0:=hI hb;obtain⟨mo,hmo⟩:∃mo:Int,mo=(mx:Int):=⟨_,rfl⟩;have hmo0:0<=mo:=by omega
 rw[<-hmo];have HM:=hI hmo;clear d htb hb hE ht hG h2 G hmo;refine(callsIn_wide (n:=9)).1 ?_;refine callsIn_of_wp_marks Tryz.func54 rfl trivial ?_ rfl;simp only[Tryz.ntmps54,List.size_toArray,List.length_cons,List.length_nil,Nat.reduceAdd,Nat.reduceSub,Array.replicate_succ,Array.replicate_zero,List.push_toArray,List.append_toArray,List.nil_append,List.cons_append];refine wpIn_wide.2 ?_;go_wp2_with(first
  | ((with_reducible refine sN 7 ?_);refine w0a rfl _ (.tmp 3) rfl (.int .i64 mo) rfl rfl ?_;intro p7 w1 g7 h7 B7 L1)
  | ((with_reducible refine sN 8 ?_);refine O0a rfl 78 rfl (.slice none 0 0) (by kernel_rfl) rfl ?_;intro p8 w2 g8 h8 B8 L2)
  | ((with_reducible refine sN 9 ?_);refine O0a rfl 4 rfl (.bool false) (by kernel_rfl) rfl ?_;intro p9 w3 g9 h9 B9 L3)
  | ((with_reducible refine sN 10 ?_);refine O0a rfl 29 rfl (.int .i64 0) (by kernel_rfl) rfl ?_;intro p10 w4 g10 h10 B10 L4;go_loud (obtain⟨K4,C7,C8,C9,C10,E1,E2,E3,Q0⟩:=F7b g7 h7 B7 L1 g8 h8 B8 L2 g9 h9 B9 L3 g10 h10 B10 L4 k0);go_loud (have c7:=C7.out.cell 0;have c8:=C8.out.cell 0;have c9:=C9.out.cell 0;have c10:=C10.out.cell 0))
  | fail)
 refine(CN.out w4 K4.out).mono ?_;rintro e w0 ⟨rfl,rfl⟩;go_wp2_with fail;refine(CG.out w4 K4.out).mono ?_;rintro e w5 ⟨rfl,l1⟩;have K5:=hI (K4.out.trans (l1.mono (Below.size K4.out)));have D7:=hI (C7.out.over l1);have D8:=hI (C8.out.over l1);have D9:=hI (C9.out.over l1);have D10:=hI (C10.out.over l1);have c7:=D7.out.cell 0;clear l1;go_wp2_with fail;refine(CT.out w5 K5.out).mono ?_;rintro e w6 ⟨rfl,l1⟩;have K6:=hI (K5.out.trans (l1.mono (Below.size K5.out)));have E7:=hI (D7.out.over l1);have E8:=hI (D8.out.over l1);have E9:=hI (D9.out.over l1);have E10:=hI (D10.out.over l1);have c7:=E7.out.cell 0;clear l1;go_wp2_with fail;refine(Q4b w6 q p a).mono ?_;rintro e w7 ⟨pd,pp,pa,rfl,gd,gp,ga,cd,cp,ca,l1⟩;have K7:=hI (K6.out.trans (l1.mono (Below.size K6.out)));have F7:=hI (E7.out.over l1);have F8:=hI (E8.out.over l1);have F9:=hI (E9.out.over l1);have F10:=hI (E10.out.over l1);go_wp2_with fail;obtain⟨T,hT⟩:∃T:Nat->Prop,T=λj=>j<w.heap.size∨j=pd∨j=pp∨j=pa:=⟨_,rfl⟩
 have hTd:T pd:=by rw[hT];exact .inr (.inl rfl)
 have hTp:T pp:=by rw[hT];exact .inr (.inr (.inl rfl))
 have hTa:T pa:=by rw[hT];exact .inr (.inr (.inr rfl))
 have hTw:∀j,j<w.heap.size->T j:=λj hj=>by rw[hT];exact .inl hj
 have hTB:∀j,T j->j<w7.heap.size:=λj hj=>by
  rw[hT] at hj;have:=K7.out.size;rcases hj with h | rfl | rfl | rfl
  ·omega
  ·exact d0a cd
  ·exact d0a cp
  ·exact d0a ca
 have q7:=E7.out.lt;have q8:=E8.out.lt;have q9:=E9.out.lt;have q10:=E10.out.lt;have s1:=L1.out.size;have s2:=L2.out.size;have s3:=L3.out.size;have s4:=L4.out.size;have s6:=Below.size K6.out;have r7:p7<w7.heap.size:=F7.out.lt;have r8:p8<w7.heap.size:=F8.out.lt;have r9:p9<w7.heap.size:=F9.out.lt;have r10:p10<w7.heap.size:=F10.out.lt;have hT7:¬T p7:=by rw[hT];rintro(h | h | h | h)<;>omega
 have hT8:¬T p8:=by rw[hT];rintro(h | h | h | h)<;>omega
 have hT9:¬T p9:=by rw[hT];rintro(h | h | h | h)<;>omega
 have hT10:¬T p10:=by rw[hT];rintro(h | h | h | h)<;>omega
 have it7:ItD w T q pd pp pa p a w7:=⟨K7.out,hTd,hTp,hTa,hTw,cd,cp,ca⟩;have lid7:LiD w T q pd pp pa p a w7.heap.size p7 p8 p9 p10 mo (.slice none 0 0) false [] w7:=⟨it7,F7.out,F8.out,F9.out,F10.out,j1a.nil _ _ _ _ _,Nat.le_refl _⟩;refine(wpIn_wide (n:=9)).1 ?_;refine wpIn_rangeFunc_ownF (F:=Fence.wide) (n:=9) rfl (by decide) (gf:=153) (lb:=#[.pointer (some ⟨pd,0,none⟩),.pointer (some ⟨pa,0,none⟩),.pointer (some ⟨pp,0,none⟩)]) rfl trivial (enters_of Tryz.func153 (by kernel_rfl) rfl)
  (O0c 7 w base q v m D L D0.out HB0.out TB0.out p a hp ha T pd pp pa w7 it7) (λh k=>h.trans k λj _ hs=>hs) (λW l o o' hl _ _ _=>y5a W l o' λht=>by have:=hTB l ht;omega) (Below.refl _ _) (λ_=>rfl)
  (λpre W=>pre.length<=mx/\∃v,LiD w T q pd pp pa p a w7.heap.size p7 p8 p9 p10 mo v false (pre.map (·.1)) W)
  (λc pre W=>c=.ret/\∃v x0 pre0,pre=pre0++[x0]/\pre0.length=mx/\LiD w T q pd pp pa p a w7.heap.size p7 p8 p9 p10 mo v true (pre0.map (·.1)) W)
  (λpre W W' row hs hg hr=>⟨hs.1,by obtain⟨_,v,h⟩:=hs;exact⟨v,h.row' hg hr hTB⟩⟩)
  (λc pre W W' row hs hg hr=>by obtain⟨rfl,v,x0,pre0,h1,h2,h⟩:=hs;exact⟨rfl,v,x0,pre0,h1,h2,h.row' hg hr hTB⟩)
  ⟨Nat.zero_le _,_,lid7⟩
  (λx=>{ tmps:=#[.pointer (some ⟨q,0,none⟩),.string p,.string a,.int .i64 mo,undef,undef,undef,.pointer (some ⟨p7,0,none⟩),.pointer (some ⟨p8,0,none⟩),.pointer (some ⟨p9,0,none⟩),.pointer (some ⟨p10,0,none⟩),.int .i64 0,.string x.1,.bool false,.pointer (some ⟨q,0,none⟩),.bool false,.bool (decide (mo<0)),.int .i64 mo,.bool (decide (mo<0)),.pointer (some ⟨q,0,none⟩),.string p,.int .i64 0,.int .i64 0,.bool false,undef,.string a,.bool true,.bool false,.pointer (some ⟨q,0,none⟩),.string p,.string a,.func (.func 153) #[] #[.pointer (some ⟨pd,0,none⟩),.pointer (some ⟨pa,0,none⟩),.pointer (some ⟨pp,0,none⟩)],.string x.1,undef,undef,undef,undef,undef,undef,undef,undef,undef,undef,undef],defers:=[] }) ?assign ?body ?done ?stop
 case assign=>
  intro l x W K hK
  gi_wp2
  exact hK
 case body=>
  rintro l pre x W ⟨hle,v,h⟩ hlen;obtain⟨A,c,rfl⟩:=h.len;rw[List.length_map] at h;have c7:=h.b7.cell 0;have c8:=h.b8.cell 0;have c9:=h.b9.cell 0;have c10:=h.b10.cell 0;have f8:=h.b8.frozen 0;have f9:=h.b9.frozen 0;have f10:=h.b10.frozen 0;simp only[List.getElem?_cons_zero] at c7 c8 c9 c10;obtain⟨n,hn⟩:∃n,n=pre.length:=⟨_,rfl⟩;rw[<-hn] at h c8 hle hlen;have HN:=hI hn;have HH:=hI h;clear hn h;by_cases hnm:n=mx
  ·have hq:((n:Int)==mo)=true:=by rw[HM.out,hnm];exact beq_self_eq_true _
   have RT:=HH.out.tell true hTB r7 r8 r9 r10 hT8 hT9 hT10 E1.out E2.out E3.out;have RT':=hI RT;clear RT;subst hnm
   gi_wp2_with fail
   exact⟨RT'.out.1,rfl,_,x,pre,rfl,HN.out.symm,RT'.out.2⟩
  ·have hq:((n:Int)==mo)=false:=by rw[HM.out];simp only[beq_eq_false_iff_ne,ne_eq];omega
   gi_wp2_with fail
   refine x5a 5 (λw'=>w'.cell? ⟨p8,0,none⟩=some (.slice A n c)) (by kernel_rfl) (by kernel_rfl) (fun⟨_,_,h0⟩=>h0) ?_;change K2a _ _ _ _ _ _ _ _ _ W.drew
   have Sr0:Hid (W.drew.cell? ⟨p8,0,none⟩=some (.slice A n c)):=c8;have br0:Hid (True):=trivial;have K0:Hid (Below W.heap.size W W.drew):=(Below.refl _ _).drew;obtain⟨XS,hXS⟩:∃XS,XS=List.map (λx:NmD=>x.val) pre:=⟨_,rfl⟩;have HXS:=hI hXS;have hXL:XS.length=n:=by rw[hXS,List.length_map];exact HN.out.symm
   rw[<-hXS] at HH;clear hXS;refine c0a (i:=0) (v:=_) rfl (by kernel_rfl) (by kernel_rfl) (by kernel_rfl) (λ_ _ _ h=>h) rfl (by kernel_rfl) (by kernel_rfl) (by decide) (b0a (by kernel_rfl) _ (.tmp 8) rfl p8 (0) (by kernel_rfl) (.slice A n c) (λ_ h=>h) _ Tryz.underlying78 rfl) Sr0.out ?_;refine c0a (i:=1) (v:=_) rfl (by kernel_rfl) (by kernel_rfl) (by kernel_rfl) (λ_ _ _ h=>h) rfl (by kernel_rfl) (by kernel_rfl) (by decide) (a0a (by kernel_rfl) (.tmp 12) rfl (.string x.1) (by kernel_rfl)) Sr0.out ?_;refine n0a 2 _ (by kernel_rfl) rfl λK hK=>?_
   go_simp;refine(K9a x.1 _ x.2).mono ?_;rintro e vr1 ⟨rfl,l1⟩;have Sr1:Hid (vr1.cell? ⟨p8,0,none⟩=some (.slice A n c)):=(l1.cell (d0a Sr0.out)).trans Sr0.out;have br1:Hid (True):=trivial;have K1:=hI (K0.out.trans (l1.mono K0.out.size));refine hK _ _ (λ_=>Sr1.out) ?_;clear hK K;clear l1;refine n0a 3 _ (by kernel_rfl) rfl λK hK=>?_
   refine b2a rfl _ _ _ _ rfl Tryz.underlying78 [.string x.1] (by kernel_rfl) ?_;intro gv w3' hgv hgv2 V3 l3;have K3:=hI (K1.out.trans (l3.out.mono K1.out.size));have Sr3:Hid (w3'.cell? ⟨p8,0,none⟩=some (.slice A n c)):=(l3.out.cell (d0a Sr1.out)).trans Sr1.out;have O3:Hid (t1a Value.string 9 w3' w7.heap.size (.slice A n c) XS):=P0c.1 (HH.out.row.below K3.out);have hb3:w7.heap.size<=w3'.heap.size:=Nat.le_trans HH.out.hB K3.out.size;clear l3;refine hK _ _ (λ_=>Sr3.out) ?_;clear hK K;refine n0a 4 _ (by kernel_rfl) rfl λK hK=>?_
   refine W6a Value.string (λ_=>rfl) (.string ⟨#[]⟩) rfl 78 9 16 rfl (.tmp 38) (.tmp 41) Tryz.underlying78 r4a rfl w7.heap.size _ XS [x.1] 1 1 gv rfl (by kernel_rfl) (by kernel_rfl) V3.out O3.out (by omega) (by omega) hb3 ?_;intro v' w4' O4 S4 N4;have n8:Hid (¬(Value.slice A n c).ownBlock=some p8):=λe=>by have:=(HH.out.row.block e).1;omega
   have Sr4:Hid (w4'.cell? ⟨p8,0,none⟩=some (.slice A n c)):=(Y1a S4.out n8.out (d0a Sr3.out)).trans Sr3.out;refine hK _ _ (λ_=>Sr4.out) ?_;clear hK K;refine Q1a λa1 ha1=>?_
   have e1_8:a1.eval (.tmp 8)=.pointer (some ⟨p8,0,none⟩):=by rw[ha1];kernel_rfl
   have e1_42:a1.eval (.tmp 42)=v':=by rw[ha1];kernel_rfl
   refine n0a 5 _ (by kernel_rfl) rfl λK hK=>?_
   have B84:Hid (Blk w4' p8 78 [.slice A n c]):=(HH.out.b8.over K3.out).spare S4.out n8.out;refine B1a (by kernel_rfl) 78 (.tmp 8) (.tmp 42) (by kernel_rfl) p8 0 e1_8 78 [.slice A n c] v' e1_42 B84 (show 0<1 by omega) (by kernel_rfl) (P0c.2 O4.out).oneCD ?_;intro w5' BQ5 P5 hq5;refine hK _ _ (λh=>Bool.noConfusion (show true=false from h)) ?_;clear hK K;rw[ha1];refine K1a (by kernel_rfl) ?_ _;obtain⟨r1,r2,r3⟩:=HH.out.grow hTB r7 r8 r9 r10 hT8 E1.out.2.2 E1.out.1 E1.out.2.1 K3.out (P0c.2 O4.out) S4.out BQ5.out P5.out;refine⟨r1,r2,by rw[List.length_append,<-HN.out];show n+1<=mx;omega,v',?_⟩;rw[List.map_append,<-HXS.out];exact r3
 case done=>
  rintro DD xs W hD hxs ⟨hle,v,h⟩ hK;obtain⟨A,c,rfl⟩:=h.len;have c8:=h.b8.cell 0;have c9:=h.b9.cell 0;have c10:=h.b10.cell 0;have f8:=h.b8.frozen 0;have f9:=h.b9.frozen 0;have f10:=h.b10.frozen 0;simp only[List.getElem?_cons_zero] at c8 c9 c10;obtain⟨n,hn⟩:∃n,n=(List.map (λx:NmD=>x.val) xs).length:=⟨_,rfl⟩;rw[<-hn] at h c8;have RT:=hI (h.tell false hTB r7 r8 r9 r10 hT8 hT9 hT10 E1.out E2.out E3.out);have HXX:=hI hxs;have HLE:Hid ((List.map (λx:NmD=>x.val) xs).length<=mx):=by show _<=_;rw[List.length_map];exact hle
  have HK:=hI hK;clear h hxs hle hn hK;go_wp2_with fail;have hK':=RT.out.1.same DD _ HK.out rfl;have t:=RT.out.2.taken hTB r7 r8 r9 r10 hD hK' rfl (.deferred none);refine⟨by simp,.inl ⟨_,_,rfl,run_takeDeferred hK',?_⟩⟩;refine⟨_,t.results rfl _ rfl rfl rfl,?_⟩;have h1:=HXX.out;have h2:=HLE.out;have e1:(Y2a L p a).take mx=List.map (λx:NmD=>x.val) xs:=by rw[<-h1];exact List.take_of_length_le h2
  have e2:decide (mo<((Y2a L p a).length:Int))=false:=by rw[<-h1,HM.out];exact decide_eq_false (by omega)
  rw[e1,e2];exact t.post K7.out.size
 case stop=>
  rintro DD cc pre W hD hpre ⟨rfl,v,x0,pre0,hpp,hlen,h⟩ hK;have t:=h.taken hTB r7 r8 r9 r10 hD hK rfl (.deferred none);have TT:=hI t;have HK:=hI hK;have HP:=hI hpre;have HPP:=hI hpp;have HL:=hI hlen;clear h t hK hpre hpp hlen
  gi_wp2_with fail
  refine⟨by simp,.inl ⟨_,_,rfl,run_takeDeferred HK.out,?_⟩⟩;refine⟨_,TT.out.results rfl _ rfl rfl rfl,?_⟩;obtain⟨rest,hr⟩:=HP.out;rw[HPP.out,List.map_append] at hr;have hl:(List.map (λx:NmD=>x.val) pre0).length=mx:=by rw[List.length_map];exact HL.out
  have e1:(Y2a L p a).take mx=List.map (λx:NmD=>x.val) pre0:=by rw[<-hr,List.append_assoc];exact List.take_left' hl
  have e2:decide (mo<((Y2a L p a).length:Int))=true:=by rw[<-hr,HM.out];refine decide_eq_true ?_;rw[List.length_append,List.length_append,hl];simp;omega
  rw[e1,e2];exact TT.out.post K7.out.size
end Go.Proofs.YtdgpbhdihhchgaaGreatDoor
