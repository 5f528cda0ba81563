import Derived.Test.YtdgpbhdihhchgaaGreatDoorSAM
import Derived.Test.YtdgpbhdihhchgaaGreatDoorSAN
import Derived.Test.YtdgpbhdihhchgaaGreatDoorS0
set_option linter.all false
set_option maxHeartbeats 8000000
set_option maxRecDepth 100000
namespace Go.Proofs.YtdgpbhdihhchgaaGreatDoor
theorem S1c{p t:List Int}(h:∀c∈p,c≠42/\c≠63):Fit p t↔p=t:=by
 induction p generalizing t with
 | nil=>rw[q5a];exact eq_comm
 | cons c p ih=>
  obtain⟨h1,h2⟩:=h c List.mem_cons_self;have hp:=λd hd=>h d (List.mem_cons_of_mem _ hd)
  rw[C8a h1];constructor
  ·rintro⟨x,r,rfl,h3,h4⟩;rw[(ih hp).1 h4,h3.resolve_left h2]
  ·rintro rfl;exact⟨c,p,rfl,.inr rfl,(ih hp).2 rfl⟩
open Go.Lib
theorem i9b{r:Int}:D2a r=42↔r=42:=by unfold D2a;split<;>omega
theorem j9b{r:Int}:D2a r=63↔r=63:=by unfold D2a;split<;>omega
def m5c(p t:List UInt8):Prop:=Fit (s0a p) (s0a t)
def X3b(p:List UInt8):Bool:=u0a p&&p.all λb=>decide (b.toNat≠42)&&decide (b.toNat≠63)
theorem L3c:enc 42=[42]:=by decide
theorem M3c:enc 63=[63]:=by decide
theorem Y3b{p:List UInt8}(h:∀b∈p,b.toNat≠42/\b.toNat≠63):∀c∈s0a p,c≠42/\c≠63:=by
 intro c hc;obtain⟨r,hr,rfl⟩:=List.mem_map.1 hc;have hm:∀b∈enc r,b∈p:=λb hb=>by rw[<-j6a p];exact List.mem_flatMap.2 ⟨r,hr,hb⟩
 refine⟨λhe=>?_,λhe=>?_⟩
 ·rw[i9b] at he;subst he;exact(h 42 (hm 42 (by rw[L3c];exact List.mem_cons_self))).1 rfl
 ·rw[j9b] at he;subst he;exact(h 63 (hm 63 (by rw[M3c];exact List.mem_cons_self))).2 rfl
theorem i3b{p t:List UInt8}(h:X3b p=true):m5c p t↔B0a p=B0a t:=by unfold X3b at h;rw[Bool.and_eq_true,List.all_eq_true] at h;unfold m5c;rw[S1c (Y3b λb hb=>by have:=h.2 b hb;simpa using this),J0b]
theorem e6a{l:List UInt8}(h:nameOf l=true):u0a l=true:=by unfold nameOf at h;rw[Bool.and_eq_true] at h;exact h.1
open Go.RowKit
theorem j3b{p t:List UInt8}(h:M0a p t=0):E3a p t=true↔m5c p t:=by unfold E3a;rw[if_pos h,N0b _ _ _ (Nat.le_refl _)];exact Iff.rfl
open Go.RowKit Go.Lib
section
variable {L:List k0a} {V:X0a} {n m d k:Int} {x y:k0a} {s p:o0a} {ps qs ws rs us:List o0a} {tp un:o0a} {over:Bool}
theorem k9b(h:Vok V)(hx:x∈V.l):I2a V.l x.n=0/\A1a V.l (i1a V.l x.n)=(x.n,0)/\N2a V.l x.n=0:=by
 obtain⟨ps,hw,h8⟩:=h.way x hx;obtain⟨p1,p2,p3,p4⟩:=V5a h hw h8;refine⟨p2,?_,?_⟩
 ·rw[p1];exact h.find hw h8 (hw.good h)
 ·unfold N2a;rw[h.at hx];rfl
theorem k3b{l:o0a}(h:nameOf l=true):X3b l=true:=by
 unfold X3b;rw[e6a h,Bool.true_and,List.all_eq_true];intro b hb;unfold nameOf j8a at h;simp only[Bool.and_eq_true] at h;have hall:=h.2.1.1.2;have key:b.toNat<128->p3b (b.toNat:Int)=false:=λhv=>by have:=List.all_eq_true.1 hall _ (M6a hb hv);simpa using this
 have h1:b.toNat≠42:=λe=>by have:=key (by omega);rw[e] at this;revert this;decide
 have h2:b.toNat≠63:=λe=>by have:=key (by omega);rw[e] at this;revert this;decide
 simp[h1,h2]
theorem N3c:∀{l:List k0a},l.Pairwise (λu v=>e1a u.name v.name=true)->(∀y∈l,y=x)->x∈l->l=[x]
 | [],_,_,h=>by cases h
 | [y],_,h,_=>by rw[h y List.mem_cons_self]
 | y::z::r,hp,h,_=>by have h1:=(List.pairwise_cons.1 hp).1 z List.mem_cons_self;have h2:ahd (ba y.name) (ba z.name)=true:=h1;rw[h y List.mem_cons_self,h z (List.mem_cons_of_mem _ List.mem_cons_self)] at h2;have:=S6a h2;rw[h2] at this;cases this
theorem O3c(h:Vok V)(hx:x∈V.l)(h1:x.n≠1):F0a (i1a V.l x.n)=0/\lastOf (i1a V.l x.n)=x.name/\A1a V.l (n2a (i1a V.l x.n))=(x.par,0)/\Z3a V.l x.par x.name [] 9=0/\N8a V.l x.par x.name [] 9=false/\D4a V.l x.par x.name [] 9=[x]:=by
 obtain⟨ps,hw,h8⟩:=h.way x hx;obtain⟨p1,p2,p3,p4⟩:=V5a h hw h8;obtain⟨qs,rfl,hq⟩:=hw.cut (h.at hx) h1;have hname:=h.good x hx h1;have hpe:F0a (i1a V.l x.n)=0:=a2a.2 ⟨by rw[p1];exact p3,λe=>by rw[p1] at e;have:=(l4a p3).2 e;rw[p4] at this;simp at this⟩
 have hk0:=h.up x hx h1;obtain⟨z,hz⟩:=t2a (V:=V) (n:=x.par) (by rw[hk0];decide);obtain⟨z1,z2⟩:=y0a hz;have hd1:1<=x.par:=by rw[<-z2];exact(h.num z z1).1
 have pat:M0a x.name []=0:=a0b.2 ⟨e6a hname,by have:=s7a hname;omega⟩;have hE:Z3a V.l x.par x.name [] 9=0:=by unfold Z3a;rw[hz,if_neg (by simp),if_neg (by rw[hk0];decide),if_neg (by decide),if_neg (by rw[pat];decide),if_pos (by decide +kernel)]
 obtain⟨srt,mem⟩:=p8a h x.par;have hold:U7a V.l x.par x.name []=[x]:=by
  unfold U7a;refine N3c (srt.filter _) (λy hy=>?_) ?_
  ·obtain⟨y1,y2⟩:=List.mem_filter.1 hy;obtain⟨y3,y4,y5⟩:=F7a h hd1 y1;simp only[Bool.and_eq_true] at y2;have pe:M0a x.name y.name=0:=Y4a.2 ⟨e6a hname,e6a y5,by have:=s7a hname;omega,by have:=s7a y5;omega⟩;have hf:=(i3b (k3b hname)).1 ((j3b pe).1 y2.1);exact h.apart y y3 x hx y4 (X1a.2 hf.symm)
  ·have pe:M0a x.name x.name=0:=Y4a.2 ⟨e6a hname,e6a hname,by have:=s7a hname;omega,by have:=s7a hname;omega⟩;exact List.mem_filter.2 ⟨(mem x).2 ⟨hx,rfl⟩,by simp[(j3b pe).2 ((i3b (k3b hname)).2 rfl)]⟩
 refine⟨hpe,?_,?_,hE,?_,?_⟩
 ·unfold lastOf;rw[if_pos hpe,p1,p4];simp
 ·unfold n2a;rw[if_pos hpe,p1,p4,List.dropLast_concat];exact h.find hq (by rw[List.length_append] at h8;omega) (hq.good h)
 ·unfold N8a;rw[if_pos hE,hold];rfl
 ·unfold D4a;rw[if_pos hE,hold];rfl
end
set_option maxRecDepth 100000
section
variable {P:Program} {ops:Array Oper} {rest:List Oper} {o:Oper} {a:Act} {w:World} {Q:Exit->Act->World->Prop}
theorem W9a(hw:Region.wanted o (yielded ops a.tmps)=true)(T:TypeId)(parts:Array (Nat×Operand))(ho:o.op=.build T parts)(cs:List Value)(hf:P.built T (parts.map fun (i,x)=>(i,a.eval x)).toList=some cs.toArray)
(h:wpList P ops Q rest (a.put o.dst (.agg cs.toArray)) w):wpList P ops Q (o::rest) a w:=
 wpList_step λK hK=>by rw[if_pos hw];unfold Oper.wp execOp;simp only[ho,Sem.run_bind,run_build w T _ _ hf,Result.andThen_ok];exact hK _ _ h
theorem X9a(hw:Region.wanted o (yielded ops a.tmps)=true)(t e:TypeId)(len:Nat)(parts:Array (Nat×Operand))(ho:o.op=.buildSlice t len parts)(hu:P.underlying t=some (.slice e))(cs:List Value)
(hf:P.builtSlice e len (parts.map fun (i,x)=>(i,a.eval x)).toList=some cs.toArray)
(h:∀g w',w.heap.size<=g->g<w'.heap.size->Hid (Blk w' g e cs)->Hid (Below w.heap.size w w')->wpList P ops Q rest (a.put o.dst (.slice (some ⟨g,0,none⟩) len len)) w'):wpList P ops Q (o::rest) a w:=
 wpList_step λK hK=>by
  rw[if_pos hw];unfold Program.builtSlice at hf;cases hie:P.info? e with
  | none=>simp[hie] at hf
  | some ie=>
   simp only[hie] at hf;cases hz:ie.zero with
   | none=>simp[hz] at hf
   | some z=>
    simp only[hz] at hf;by_cases hc:len*ie.size>2^24∨len*ie.size=0
    ·simp[hc] at hf
    ·rw[if_neg hc] at hf;exact wp_buildSlice t e len parts ho _ ie z hu hie hz (λh'=>hc (Or.inl h')) (λh'=>hc (Or.inr h')) hf (hK _ _ (h _ _ (Nat.le_refl _) (by simp) (Blk.new w e cs) ((Below.refl _ _).alloc (Nat.le_refl _) _)))
end
section
variable {V:X0a} {x:k0a}
theorem T1c(h:Vok V)(hx:x∈V.l):(n2a (i1a V.l x.n)).length<=1048576/\(x.n≠1->x.name.length<=1048576):=by
 refine⟨?_,λh1=>by have:=S0a (h.good x hx h1);omega⟩;unfold n2a;split
 ·rename_i hp;have h1:=(a2a.1 hp).1;have hg:=(w1a.1 (P4a h1).1).1;have h8:=D8a h1;have:=C7a (m0a (i1a V.l x.n)).dropLast 128 λp hp=>S0a (hg p (List.dropLast_subset _ hp))
  rw[List.length_dropLast] at this;have h2:((m0a (i1a V.l x.n)).length-1)*(128+1)<=8*(128+1):=Nat.mul_le_mul_right _ (by omega);omega
 ·exact Nat.zero_le _
theorem l9b(L:List k0a){i:Nat}{y:k0a}(h:L[i]? = some y):T0a (L.take (i+1))=T0a (L.take i)+y.B.length:=by obtain⟨h1,h2⟩:=List.getElem?_eq_some_iff.1 h;rw[List.take_succ_eq_append_getElem h1,w4a,h2];unfold T0a;simp
theorem Z3b(L:List k0a)(i:Nat):T0a (L.take i)<=T0a L:=by have h:=w4a (L.take i) (L.drop i);rw[List.take_append_drop] at h;omega
end
theorem N6b{V:X0a}{s:o0a}{k:Int}:(F3a V s k).quota=V.quota:=by unfold F3a;split<;>rfl
theorem m9b{V:X0a}{n:Int}:(U6a V n).quota=V.quota:=by unfold U6a;split<;>rfl
theorem O6b{V:X0a}{n:Int}{s:o0a}{o:Bool}:(h2a V n s o).quota=V.quota:=by unfold h2a;split<;>rfl
theorem U1c{V:X0a}{n a:Int}{xs:List Int}:(vWr V n a xs).quota=V.quota:=by unfold vWr;split<;>rfl
theorem n9b{V:X0a}{n s:Int}:(b2b V n s).quota=V.quota:=by unfold b2b;split<;>rfl
theorem o9b{a:M2a}{V:X0a}:(J6b a V).quota=V.quota:=by
 unfold J6b;split
 ·exact N6b
 ·split
  ·exact m9b
  ·split
   ·exact O6b
   ·split
    ·exact U1c
    ·split
     ·exact n9b
     ·rfl
theorem P6b{q:Int}{l:List M2a}(k:Nat):(N4a q l k).quota=q:=by
 induction k with
 | zero=>rfl
 | succ k ih=>
  rcases Nat.lt_or_ge k l.length with h | h
  ·rw[S9a (List.getElem?_eq_getElem h),o9b,ih]
  ·have e:N4a q l (k+1)=N4a q l k:=by unfold N4a;rw[List.take_of_length_le h,List.take_of_length_le (by omega)]
   rw[e,ih]
theorem L0a.oneEnt{w:World}{g:Nat}{T:TypeId}{x:k0a}(h:Blk w g T (W0a x)):L0a W0a 3 w (g+1) (some ⟨g,0,none⟩) 1 1 [x]:=by
 refine⟨rfl,Nat.le_refl _,(λhA=>by cases hA),λ_=>⟨g,0,rfl,Nat.lt_succ_self _,λi z hi j u hj=>?_⟩⟩;cases i with
 | succ i=>simp at hi
 | zero=>simp at hi;subst hi;rw[Nat.zero_mul,Nat.zero_add,Nat.zero_add,h.cell,hj]
def r5c(I:e0b):Prop:=∀{w:World} {b:Nat},I.tb b w->∀{s:ByteArray},s.size<=1048576->
 Calls Tryz.prog 23 #[.string s] w λe w'=>e=.returned (.tuple #[.string ⟨(n2a s.data.toList).toArray⟩,.string ⟨(lastOf s.data.toList).toArray⟩,.int .i64 (F0a s.data.toList)])/\Below w.heap.size w w'
theorem p9b:r5c j7a:=by intro w b h s hs;exact B9a s w (by omega) (F2a.tabs h)
theorem x5b(I:e0b)(W:World)(htb:I.tb W.heap.size W)(k:Int)(hk:c2a k)(A:Option Addr)(n c:Nat)(l:List M2a)(hl:e4a W W.heap.size A n c l)(hn:n<=1048576)(hPL:r5c I) :
  Calls Tryz.prog 5 #[.int .i64 k,.slice A n c] W λe w'=>e=.returned (.bool true)/\Below W.heap.size W w':=by
 have C1:=hI (R3a I W k hk A n c l hl hn htb);have HTB:=hI htb;have CW:Hid (∀w1,Below W.heap.size W w1->_):=λw1 (h:Below W.heap.size W w1)=>U2a I w1 (I.tbUp (I.tbNext htb h) h.size)
 have HLV:=p4a (q:=k) (l:=l) (min n 40);have hm40:min n 40<=40:=Nat.min_le_right _ _;obtain⟨V,hV⟩:∃V,V=N4a k l (min n 40):=⟨_,rfl⟩;unfold C4a at C1;rw[<-hV] at C1 HLV;have ZN:Hid ((Tryz.prog.info? 34).map (λi=>(i.zero,i.size))=some (some (.agg ([.int .u8 0,.int .i64 0]:List Value).toArray),2)):=w2a;have SZ:Hid ((Tryz.prog.info? 34).map (·.size)=some 2):=J0a;have HQ:Hid (V.quota=k):=by show _=_;rw[hV];exact P6b _
 clear hl htb hV;go_enter Tryz.func5,Tryz.ntmps5;go_wp2_with fail;refine C1.out.mono ?_;rintro e w1 ⟨h1,h2⟩;by_cases hE:O3a k=0
 ·obtain⟨q,g,S,v,M,rfl,t1,l1⟩:=h2 hE;have L1:=hI l1;have T1:=hI t1;have hok:=(I.ok t1.x).1;have X1:=hI t1.x;have TB1:=hI t1.tb;have HB1:=hI t1.hb;have HOK:=hI hok;have HLA:=hI (I.ok t1.x).2;have C2:=hI (I.nodes t1.x t1.tb);have HLE:Hid ((T0a V.l:Int)<=k):=by rw[<-HQ.out];exact hok.used
  have HUB:Hid (T0a V.l<=1048576):=by have:=hok.used;have:=hok.q1;show _<=_;omega
  have CU:Hid (∀w2,Below w1.heap.size w1 w2->_):=λw2 (h:Below w1.heap.size w1 w2)=>I.used (t1.below h).x (t1.below h).tb
  obtain⟨su,hsu⟩:∃su:Nat->Nat,su=λi=>T0a (V.l.take i):=⟨_,rfl⟩
  have SU0:su 0=0:=by rw[hsu];rfl
  have SUB:∀i,su i<=1048576:=λi=>by rw[hsu];exact Nat.le_trans (Z3b V.l i) HUB.out
  have SU1:Hid (∀i y,V.l[i]? = some y->su (i+1)=su i+y.B.length):=λi y hy=>by rw[hsu];exact l9b V.l hy
  have SUN:Hid (su V.l.length=T0a V.l):=by rw[hsu];show T0a (V.l.take V.l.length)=_;rw[List.take_length]
  have HML:Hid (V.l.length<=256):=hok.many;unfold R0a at C2 CU⊢;clear h1 h2 t1 l1 C1 hok hsu HQ;go_wp2_with fail;refine C2.out.mono ?_;rintro e w2 ⟨u2,rfl,o2,l2⟩;obtain⟨A2,n2,c2,rfl,hh2⟩:=o2.holds;have hlen2:n2=V.l.length:=by have:=hh2.len;unfold Y0a at this;rw[List.length_map] at this;exact this.symm
  have HN2:=hI hlen2;have hn256:n2<=256:=by have:=HML.out;omega
  have R2:=hI hh2;have L2:=hI l2;have hl02:((0:Nat):Int)=0:=rfl;clear o2 l2 hh2 C2 hlen2;go_wp2_with fail;go_loopw [9,10] (λsv I' wr=>∃i:Nat,i<=n2/\sv=.int .i64 (su i:Nat)/\I'=.int .i64 (i:Nat)/\Hid (Below w2.heap.size w2 wr)) (λ_ I' _=>n2-(intOf I').toNat)
  case atStart=>exact⟨0,Nat.zero_le _,by rw[SU0];rfl,rfl,Below.refl _ _⟩
  case round=>
   obtain⟨i,hi,rfl,rfl,LR⟩:=hrel;by_cases hlt:i<n2
   ·obtain⟨bn,off,rfl,hbn,hc⟩:=R2.out.cells (by omega);obtain⟨y,hy⟩:∃y,V.l[i]? = some y:=⟨_,List.getElem?_eq_getElem (by have:=HN2.out;omega)⟩;have hym:=List.mem_of_getElem? hy;have hyc:(Y0a V.l)[i]? = some y.n:=by unfold Y0a;rw[List.getElem?_map,hy];rfl
    have HC0:Hid (∀w',Below w2.heap.size w2 w'->w'.cell? ⟨bn,off+i,none⟩=some (.int .i64 y.n)):=λw' l=>(l.cell hbn).trans (hc i _ hyc)
    have hs1:=SU1.out i y hy;obtain⟨f1,f2,f3⟩:=k9b HOK.out hym;have hIx:=V3b HOK.out HLA.out (List.mem_of_getElem? hyc);have hps:=M7a HOK.out y.n;have LW:Hid (Below w1.heap.size w1 wr):=L2.out.trans (LR.out.mono L2.out.size);have PC:Hid (∀w',Below w1.heap.size w1 w'->_):=λw' (h:Below w1.heap.size w1 w')=>I.path (I.below X1.out h) (I.tbNext TB1.out (h.mono HB1.out)) (Nat.le_trans HB1.out h.size) hIx
    have FC:Hid (∀w',Below w1.heap.size w1 w'->Calls Tryz.prog 13 #[R0a q,V0a (i1a V.l y.n)] w' λe w3=>e=.returned (.tuple #[.int .i64 y.n,.int .i64 0])/\Below w'.heap.size w' w3):=λw' h=>by have:=I.find (I.below X1.out h) (I.tbNext TB1.out (h.mono HB1.out)) (Nat.le_trans HB1.out h.size) hps;rw[f2] at this;exact this
    have SC:Hid (∀w',Below w1.heap.size w1 w'->Calls Tryz.prog 15 #[R0a q,.int .i64 y.n] w' λe w3=>e=.returned (.tuple #[.agg #[.int .u8 y.kind,.int .i64 (y.B.length:Nat)],.int .i64 0])/\Below w'.heap.size w' w3):=λw' h=>by
     have:=I.stat (I.below X1.out h) hIx;rw[f3] at this;have k1:z0a V.l y.n=y.kind:=by unfold z0a;rw[HOK.out.at hym]
     have k2:I4a V.l y.n=y.B.length:=by unfold I4a;rw[HOK.out.at hym]
     rw[k1,k2] at this;exact this
    rw[f1] at PC;have HDS:=hI (T1c HOK.out hym);have HUP:Hid (y.n≠1->F0a (i1a V.l y.n)=0/\lastOf (i1a V.l y.n)=y.name/\A1a V.l (n2a (i1a V.l y.n))=(y.par,0)/\Z3a V.l y.par y.name [] 9=0/\N8a V.l y.par y.name [] 9=false/\D4a V.l y.par y.name [] 9=[y]):=λh=>O3c HOK.out hym h
    have HPI:Hid (y.n≠1->c2a y.par):=λh=>by have hk0:=HOK.out.up y hym h;obtain⟨z,hz⟩:=t2a (V:=V) (n:=y.par) (by rw[hk0];decide);obtain⟨z1,z2⟩:=y0a hz;rw[<-z2];exact V3b HOK.out HLA.out (by unfold Y0a;exact List.mem_map.2 ⟨z,z1,rfl⟩)
    have PAR:Hid (∀w',Below w1.heap.size w1 w'->Calls Tryz.prog 23 #[V0a (i1a V.l y.n)] w' λe w3=>e=.returned (.tuple #[V0a (n2a (i1a V.l y.n)),V0a (lastOf (i1a V.l y.n)),.int .i64 (F0a (i1a V.l y.n))])/\Below w'.heap.size w' w3):=λw' h=>hPL (I.tbNext TB1.out (h.mono HB1.out)) (s:=⟨(i1a V.l y.n).toArray⟩) (by rw[W1a];exact hps)
    have GC:Hid (y.n≠1->∀w',Below w1.heap.size w1 w'->Calls Tryz.prog 13 #[R0a q,V0a (n2a (i1a V.l y.n))] w' λe w3=>e=.returned (.tuple #[.int .i64 y.par,.int .i64 0])/\Below w'.heap.size w' w3):=λh1 w' h=>by have:=I.find (I.below X1.out h) (I.tbNext TB1.out (h.mono HB1.out)) (Nat.le_trans HB1.out h.size) HDS.out.1;rw[(HUP.out h1).2.2.1] at this;exact this
    have LC:Hid (y.n≠1->∀w',Below w1.heap.size w1 w'->Calls Tryz.prog 19 #[R0a q,.int .i64 y.par,V0a y.name,.string ⟨#[]⟩,.int .i64 9] w' λe w3=>∃u,e=.returned (.tuple #[u,.bool false,.int .i64 0])/\j1a W0a 3 49 w3 w'.heap.size u [y]/\Below w'.heap.size w' w3):=λh1 w' h=>by have:=I.list (I.below X1.out h) (I.tbNext TB1.out (h.mono HB1.out)) (Nat.le_trans HB1.out h.size) (HPI.out h1) (m:=9) (by unfold c2a;omega) (HDS.out.2 h1) (a:=[]) (Nat.zero_le _);obtain⟨_,_,_,e4,e5,e6⟩:=HUP.out h1;rw[e4,e5,e6] at this;exact this
    have PAE:Hid (y.n≠1->lastOf (i1a V.l y.n)=y.name/\F0a (i1a V.l y.n)=0):=λh=>⟨(HUP.out h).2.1,(HUP.out h).1⟩
    have HCS:Hid (W0a y=[V0a y.name,.int .u8 y.kind,.int .i64 (y.B.length:Nat)]):=rfl;obtain⟨UD,hUD⟩:∃z,z=V0a (n2a (i1a V.l y.n)):=⟨_,rfl⟩;rw[<-hUD] at PAR GC;have hUDs:∃b:ByteArray,UD=.string b:=⟨_,hUD⟩;obtain⟨ud,rfl⟩:=hUDs;obtain⟨LN,hLN⟩:∃z,z=lastOf (i1a V.l y.n):=⟨_,rfl⟩;obtain⟨pE,hpE⟩:∃z,z=F0a (i1a V.l y.n):=⟨_,rfl⟩;rw[<-hLN,<-hpE] at PAE PAR;unfold V0a at PC FC PAR LC HCS;obtain⟨P,hP⟩:∃z,z=(⟨(i1a V.l y.n).toArray⟩:ByteArray):=⟨_,rfl⟩;rw[<-hP] at PC FC PAR;obtain⟨yn,hyn⟩:∃z,z=y.n:=⟨_,rfl⟩;obtain⟨K,hK⟩:∃z,z=y.kind:=⟨_,rfl⟩;obtain⟨Z,hZ⟩:∃z,z=y.B.length:=⟨_,rfl⟩;obtain⟨yp,hyp⟩:∃z,z=y.par:=⟨_,rfl⟩;obtain⟨NM,hNM⟩:∃z:ByteArray,z=⟨y.name.toArray⟩:=⟨_,rfl⟩;have HNA:Hid (∀s:o0a,s=y.name->(⟨s.toArray⟩:ByteArray)=NM):=λs hs=>by rw[hs,hNM]
    rw[<-hyn] at HC0 PC FC SC GC LC PAE;rw[<-hyp] at GC LC;rw[<-hK,<-hZ] at SC HCS;rw[<-hNM] at LC HCS;rw[<-hZ] at hs1;have HS1:=hI hs1;have hsb:=SUB i;have hsb1:=SUB (i+1);rw[hs1] at hsb1;have g0:=HC0.out _ LR.out;have HT:Hid (([.int .u8 K,.int .i64 (Z:Nat)]:List Value).length=2):=rfl;have hi':i+1<=n2:=hlt;clear hc hy hym hyc hs1 f1 f2 f3 hIx hps HUP HPI HDS hUD hLN hpE hP hyn hK hZ hyp hNM hbn;unfold R0a at PC FC SC GC LC;go_wp2_with fail;refine(PC.out _ LW.out).mono ?_;rintro e w3 ⟨rfl,l3⟩;have L3:=hI (LR.out.trans (l3.mono LR.out.size));have M3:=hI (LW.out.trans (l3.mono LW.out.size));clear l3 g0 PC;go_wp2_with fail;refine(FC.out _ M3.out).mono ?_;rintro e w4 ⟨rfl,l4⟩;have L4:=hI (L3.out.trans (l4.mono L3.out.size));have M4:=hI (M3.out.trans (l4.mono M3.out.size));have g4:=HC0.out _ L4.out;clear l4 FC L3 M3;go_wp2_with fail;refine(SC.out _ M4.out).mono ?_;rintro e w5 ⟨rfl,l5⟩;have L5:=hI (L4.out.trans (l5.mono L4.out.size));have M5:=hI (M4.out.trans (l5.mono M4.out.size));clear l5 SC g4 L4 M4;by_cases h1:yn=1
    ·subst h1;clear PAR GC LC PAE;go_wp2_with(first
     | ((with_reducible refine sN 15 ?_);refine i0a rfl _ rfl [.int .u8 0,.int .i64 0] 2 ZN ?_;intro b15 v15 hb15 hbb15 X15 M15)
     | ((with_reducible refine sT 15 ?_);go_loud (refine l0a rfl _ (.tmp 15) (.tmp 62) rfl b15 rfl _ _ [.int .u8 K,.int .i64 (Z:Nat)] rfl X15 2 SZ.out rfl rfl (by intro u hu;simp only[List.mem_cons,List.not_mem_nil,or_false] at hu;rcases hu with rfl | rfl<;>rfl) ?_);intro y15 Y15 O15 hg15;have lb15:=r0a M15.out O15.out hb15;have L6:=hI (L5.out.trans (lb15.mono L5.out.size));have g6:=HC0.out _ L6.out;have d6:=Y15.out.cell 1)
     | fail)
     go_roundw
     case rel=>exact⟨i+1,hi',by rw[HS1.out];go_num,by go_num,L6.out⟩
     case measure=>simp[intOf];omega
    ·have hb1:(yn==1)=false:=by simpa using h1
     obtain⟨pa1,pa2⟩:=PAE.out h1;have hn1:=HNA.out _ pa1;rw[hn1,pa2] at PAR;have GC1:=hI (GC.out h1);have LC1:=hI (LC.out h1);clear GC LC PAE pa1 pa2 hn1;go_wp2_with(first
     | ((with_reducible refine sN 15 ?_);refine i0a rfl _ rfl [.int .u8 0,.int .i64 0] 2 ZN ?_;intro b15 v15 hb15 hbb15 X15 M15)
     | ((with_reducible refine sT 15 ?_);go_loud (refine l0a rfl _ (.tmp 15) (.tmp 62) rfl b15 rfl _ _ [.int .u8 K,.int .i64 (Z:Nat)] rfl X15 2 SZ.out rfl rfl (by intro u hu;simp only[List.mem_cons,List.not_mem_nil,or_false] at hu;rcases hu with rfl | rfl<;>rfl) ?_);intro y15 Y15 O15 hg15;have lb15:=r0a M15.out O15.out hb15;have L6:=hI (L5.out.trans (lb15.mono L5.out.size));have g6:=HC0.out _ L6.out;have d6:=Y15.out.cell 1)
     | fail)
     have M6:=hI (M5.out.trans (lb15.mono M5.out.size));refine(PAR.out _ M6.out).mono ?_;rintro e w7 ⟨rfl,l7⟩;have L7:=hI (L6.out.trans (l7.mono L6.out.size));have M7:=hI (M6.out.trans (l7.mono M6.out.size));have Y7:=hI (Y15.out.over l7);clear l7 PAR X15 M15 O15 lb15 g6 d6 L6 M6 L5 M5 Y15;go_wp2_with fail;refine(GC1.out _ M7.out).mono ?_;rintro e w8 ⟨rfl,l8⟩;have L8:=hI (L7.out.trans (l8.mono L7.out.size));have M8:=hI (M7.out.trans (l8.mono M7.out.size));have Y8:=hI (Y7.out.over l8);clear l8 GC1 L7 M7 Y7;go_wp2_with fail;refine(LC1.out _ M8.out).mono ?_;rintro e w9 ⟨u9,rfl,o9,l9⟩;obtain⟨A9,n9,c9,rfl,hh9⟩:=o9.holds (by decide) x2a;have N9:Hid (n9<=281474976710656):=by have:=hh9.len;simp at this;show _<=_;omega
     have R9:=hI hh9;have L9:=hI (L8.out.trans (l9.mono L8.out.size));have Y9:=hI (Y8.out.over l9);clear o9 l9 hh9 LC1 L8 M8 Y8;go_wp2_with(first
      | ((with_reducible refine sN 124 ?_);go_loud (refine a3a rfl _ (.tmp 15) rfl b15 rfl _ [.int .u8 K,.int .i64 (Z:Nat)] Y9 2 _ Tryz.underlying34 rfl SZ.out HT ?_))
      | ((with_reducible refine sN 125 ?_);go_loud (refine W9a rfl _ _ rfl [.string NM,.int .u8 K,.int .i64 (Z:Nat)] (by kernel_rfl) ?_))
      | ((with_reducible refine sN 126 ?_);go_loud (refine X9a rfl _ _ _ _ rfl Tryz.underlying39 [.string NM,.int .u8 K,.int .i64 (Z:Nat)] (by kernel_rfl) ?_);intro gv wv hgv hgv2 VV lv)
      | fail)
     have V10:Hid (Blk wv gv 49 (W0a y)):=by rw[HCS.out];exact VV.out
     have L10:=hI (L9.out.trans (lv.out.mono L9.out.size));have R10:=hI (R9.out.over lv.out);have CE:Hid (Calls Tryz.prog 21 #[.slice A9 n9 c9,.slice (some ⟨gv,0,none⟩) 1 1] wv λe w'=>e=.returned (.bool true)/\∃k,wv.drewN k=w'):=by have:=y8a wv _ _ _ _ _ _ _ _ _ _ R10.out.ents (L0a.oneEnt V10.out).ents N9.out (by decide);rw[decide_eq_true rfl] at this;exact this
     clear VV lv V10 R10 R9 N9 Y9 L9 HCS;refine CE.out.mono ?_;rintro e w11 ⟨rfl,j11,hw11⟩;have l11:Below wv.heap.size wv w11:=by rw[<-hw11];exact E0a _ _
     have L11:=hI (L10.out.trans (l11.mono L10.out.size));clear hw11 l11 CE L10;go_wp2_with fail;go_roundw
     case rel=>exact⟨i+1,hi',by rw[HS1.out];go_num,by go_num,L11.out⟩
     case measure=>simp[intOf];omega
   ·obtain rfl:i=n2:=by omega
    have LW:Hid (Below w1.heap.size w1 wr):=L2.out.trans (LR.out.mono L2.out.size);have CU1:=hI (CU.out _ LW.out);have hsn:su i=T0a V.l:=by rw[HN2.out];exact SUN.out
    have hle:(su i:Int)<=k:=by rw[hsn];exact HLE.out
    rw[<-hsn] at CU1;have LZ:=hI (L1.out.trans (LW.out.mono L1.out.size));clear hsn CU SU1 SUN HLE HUB SUB SU0;go_wp2_with fail;refine CU1.out.mono ?_;rintro e w3 ⟨rfl,l3⟩;have L3:=hI (LZ.out.trans (l3.mono LZ.out.size));clear l3 CU1;go_wp2_with fail;refine(CW.out _ L3.out).mono ?_;rintro e wz ⟨rfl,lz⟩;go_wp2_with fail;go_ret;exact⟨rfl,L3.out.trans (lz.mono L3.out.size)⟩
 ·obtain⟨rfl,l1⟩:=h1 hE;have L1:=hI l1;have h0:NoV w1 (.pointer none):=.inl rfl;clear h1 h2 l1 C1;go_wp2_with fail;refine(n7a _ _ h0).mono ?_;rintro e w2 ⟨rfl,l2⟩;have n2:=h0.below l2;have L2:=hI (L1.out.trans (l2.mono L1.out.size));clear l2 h0;go_wp2_with fail;go_loopw [9,10] (λsv I' wr=>sv=.int .i64 0/\I'=.int .i64 0/\wr=w2) (λ_ _ _=>0)
  case atStart=>exact⟨rfl,rfl,rfl⟩
  case round=>obtain⟨rfl,rfl,rfl⟩:=hrel;go_wp2_with fail;refine(W3b _ _ n2).mono ?_;rintro e w3 ⟨rfl,l3⟩;have L3:=hI (L2.out.trans (l3.mono L2.out.size));clear l3;go_wp2_with fail;refine(CW.out _ L3.out).mono ?_;rintro e wz ⟨rfl,lz⟩;go_wp2_with fail;go_ret;exact⟨rfl,L3.out.trans (lz.mono L3.out.size)⟩
theorem walk_VolFound(W:World)(hT:k5a W)(a0:Int)(w0:-9223372036854775808<=a0/\a0<=9223372036854775807)(A1:Option Addr)(n1 c1:Nat)(z1:List M2a)(h1:e4a W W.heap.size A1 n1 c1 z1)(r1:n1<=1048576) :
  Calls Tryz.prog 5 #[.int .i64 a0,.slice A1 n1 c1] W λe w'=>e=.returned (.bool true)/\Below W.heap.size W w':=
 x5b j7a W (F2a.of hT) a0 w0 A1 n1 c1 z1 h1 r1 p9b
end Go.Proofs.YtdgpbhdihhchgaaGreatDoor
