import Derived.Test.YtjpcifmeimcikaaGreatDoorSAI
import Derived.Test.YtjpcifmeimcikaaGreatDoorS0
set_option linter.all false
set_option maxHeartbeats 8000000
set_option maxRecDepth 100000
namespace Go.Proofs.YtjpcifmeimcikaaGreatDoor
open Go.Proofs.Tryz
open Go.RowKit Go.ChangeShapes Go.WideShapes
section
variable {H:Type} {enc:TypeId×Value->H} {P:Program} {W:World} {base:Nat} {t e:TypeId} {v:Value} {d:DataW H} {p:List MemPlace}
theorem i5b{l:List (DataW H)}{x:DataW H}(h:x∈l):Rows.uptoBulk x<=Rows.uptoBulkAll l:=by
 induction l with
 | nil=>cases h
 | cons y r ih=>
  simp only[Rows.uptoBulkAll];rcases List.mem_cons.1 h with rfl | h
  ·omega
  ·have:=ih h;omega
theorem J1b{l:List (DataW H)}{x:DataW H}(h:x∈l):Rows.uptoBulk x<Rows.uptoBulk (.agg l):=by have:=i5b h;simp only[Rows.uptoBulk];omega
theorem c3b{k:IntKind}{fuel:Nat}{cs:List Value}{x:DataW H×List MemPlace}(ht:P.underlying t=some (.slice e))(he:P.underlying e=some (.int k))(hc:P.cellsOf e=1)
(hf:DataW.trod enc P W 0 (λ_=>true) true fuel t cs=some x) :
  ∃A n c zs,cs=[.slice A n c]/\n<=c/\c<Rows.uptoBulk x.1/\J1a (Value.int k) W W.heap.size A c c zs/\∀z∈zs,(Lit.int k z).wf=true:=by
 rcases open_ints ht he hc hf with⟨hcs,hx⟩ | ⟨y,l,cp,zs,hcs,_,hl,hm,hz,hx,hcell,hwz⟩
 ·exact⟨none,0,0,[],hcs,Nat.le_refl _,u5a _,J1a.nil _ _ _,λz h=>by cases h⟩
 ·subst hx;simp only[if_true] at hz;refine⟨some y,l,cp,zs,hcs,hl,?_,⟨hz,Nat.le_refl _,(λhA=>by cases hA),λh0=>?_⟩,hwz⟩
  ·have h1:=G2a (lits (H:=H) k (zs.take l));have h2:=G2a (lits (H:=H) k (zs.drop l));rw[show(lits (H:=H) k (zs.take l)).length=(zs.take l).length from by simp[lits],List.length_take] at h1;rw[show(lits (H:=H) k (zs.drop l)).length=(zs.drop l).length from by simp[lits],List.length_drop] at h2;simp only[Rows.uptoBulk];omega
  ·obtain⟨b,off,spot⟩:=y;have h1:=hcell 0 (by omega);have hspot:spot=none:=by simpa[Addr.add] using World.cell?_spot h1
   subst hspot;refine⟨b,off,rfl,?_,λi z hi=>?_⟩
   ·have:=World.block_lt_of_cell? W _ h1;simpa[Addr.add] using this
   ·have hil:=(List.getElem?_eq_some_iff.1 hi).1;have h2:=hcell i (by omega);have ea:(⟨b,off,none⟩:Addr).add i=⟨b,off+i,none⟩:=by
     by_cases hj0:i=0
     ·subst hj0;simp[Addr.add]
     ·simp[Addr.add,hj0]
    rw[ea] at h2;rw[h2]
    congr 2
    simp[List.getD_eq_getElem?_getD,hi]
theorem G2c{α:Type}[Inhabited α]{f:α->List Value}{s:Nat}{ok:α->Prop}{fuel:Nat}{cs:List Value}{x:DataW H×List MemPlace}(ht:P.underlying t=some (.slice e))(hc:P.cellsOf e=s)(hs:0<s)(hfl:∀y,(f y).length=s)
(hel:∀(n:Nat) (cs:List Value) (x:DataW H×List MemPlace),DataW.trod enc P W 0 (λ_=>true) true n e cs=some x->∃y:α,cs=f y/\ok y)
(hf:DataW.trod enc P W 0 (λ_=>true) true fuel t cs=some x) :
  ∃A n c zs,cs=[.slice A n c]/\n<=c/\c<Rows.uptoBulk x.1/\c1a f s W W.heap.size A c c zs/\∀z∈zs,ok z:=by
 rcases Go.Deep.open_slice ht hf with⟨hcs,hx⟩ | ⟨a,len,cap,m,n,D,Pl,hcs,_,hl,hm,hmm,hx,hcell⟩
 ·exact⟨none,0,0,[],hcs,Nat.le_refl _,u5a _,c1a.nil _ _ _ _,λz h=>by cases h⟩
 ·subst hx;simp only[if_true] at hmm;subst hmm;rw[hc] at hcell;have each:∀i,i<m->∃y:α,W.cells? 0 (a.add (i*s)) s=some (f y)/\ok y:=λi hi=>by obtain⟨cs',h1,h2⟩:=hcell i hi;obtain⟨y,rfl,hy⟩:=hel _ _ _ h2;exact⟨y,h1,hy⟩
  obtain⟨Y,hY⟩:=Go.Deep.choose_lt each;refine⟨some a,len,m,(List.range m).map Y,hcs,hl,?_,⟨by simp,Nat.le_refl _,(λhA=>by cases hA),λh0=>?_⟩,λz hz=>?_⟩
  ·have h1:=G2a ((List.range len).map D);have h2:=G2a ((List.range (m-len)).map λj=>D (len+j));rw[List.length_map,List.length_range] at h1 h2;simp only[Rows.uptoBulk];omega
  ·obtain⟨b,off,spot⟩:=a;obtain⟨_,h01,h02⟩:=World.cells?_some (hY 0 h0).1;have hf0:0<(f (Y 0)).length:=by rw[hfl];exact hs
   have h03:=h02 0 (by omega);rw[List.getElem?_eq_getElem hf0] at h03;have hspot:spot=none:=by simpa[Addr.add] using World.cell?_spot h03
   subst hspot;have add_at:∀i,(⟨b,off,none⟩:Addr).add i=⟨b,off+i,none⟩:=λi=>by
    by_cases hj0:i=0
    ·subst hj0;simp[Addr.add]
    ·simp[Addr.add,hj0]
   have add_at2:∀i j,(⟨b,off+i,none⟩:Addr).add j=⟨b,off+(i+j),none⟩:=λi j=>by
    by_cases hj0:j=0
    ·subst hj0;simp[Addr.add]
    ·simp[Addr.add,hj0,Nat.add_assoc]
   refine⟨b,off,rfl,?_,λi z hi j u hj=>?_⟩
   ·have:=World.block_lt_of_cell? W _ h03;simpa[Addr.add] using this
   ·rw[List.getElem?_map] at hi;have him:i<m:=by
     rcases Nat.lt_or_ge i m with h | h
     ·exact h
     ·rw[List.getElem?_eq_none (by simpa using h)] at hi;cases hi
    rw[List.getElem?_range him] at hi;injection hi with hi
    subst hi;obtain⟨_,_,h2⟩:=World.cells?_some (hY i him).1;have hjl:j<s:=by rw[<-hfl (Y i)];exact(List.getElem?_eq_some_iff.1 hj).1
    have h3:=h2 j hjl;rw[add_at,add_at2,hj] at h3;exact h3
  ·obtain⟨i,hi,rfl⟩:=List.mem_map.1 hz;exact(hY i (List.mem_range.1 hi)).2
end
set_option maxRecDepth 100000
section
variable {H:Type} {enc:TypeId×Value->H} {W:World} {base:Nat} {v:Value} {d:DataW H} {p:List MemPlace}
instance:Inhabited r2a:=⟨⟨0,0,0,0⟩⟩
instance:Inhabited y1a:=⟨⟨.empty,0,0⟩⟩
theorem x2a{l:List Value}{i:Nat}{a:Value}(h:(l.drop i).take 1=[a]):l.drop i=a::l.drop (i+1):=by
 have e:l.drop (i+1)=(l.drop i).drop 1:=by rw[List.drop_drop]
 rw[e];cases hq:l.drop i with
 | nil=>rw[hq] at h;cases h
 | cons u r=>rw[hq] at h;simp at h;rw[h];rfl
theorem d9a{P:Program}{t:TypeId}{k:IntKind}{fuel:Nat}{cs:List Value}{y:Option (DataW H×List MemPlace)}(he:P.underlying t=some (.int k))(hy:y.isSome=true)
(hf:DataW.trod enc P W 0 (λ_=>true) true fuel t cs=y):∃x,cs=[.int k x]/\(Lit.int k x).wf=true:=by obtain⟨z,rfl⟩:=Option.isSome_iff_exists.1 hy;obtain⟨x,e0,_,wx⟩:=DataW.trod_int he hf;exact⟨x,e0,wx⟩
theorem H2c(n:Nat)(cs:List Value)(x:DataW H×List MemPlace)(hf:DataW.trod enc prog W 0 (λ_=>true) true n 104 cs=some x):∃l:r2a,cs=H0a l/\l.ok:=by
 obtain⟨xs,m,_,_,hl,hx,hel⟩:=DataW.trod_struct underlying104 hf;have hx4:xs.length=4:=hx;have h4:cs.length=4:=hl.trans (by kernel_rfl);have some_at:∀i,i<4->(xs[i]?).isSome=true:=λi hi=>by simp[hx4,hi]
 have c1:∀t,t=3∨t=25∨t=22->prog.cellsOf t=1:=by rintro t (rfl | rfl | rfl)<;>kernel_rfl
 have e0:=hel 0 _ rfl;have e1:=hel 1 _ rfl;have e2:=hel 2 _ rfl;have e3:=hel 3 _ rfl;rw[c1 _ (by simp)] at e0 e1 e2 e3;obtain⟨x0,d0,w0⟩:=d9a underlying3 (some_at 0 (by omega)) e0;obtain⟨x1,d1,w1⟩:=d9a underlying25 (some_at 1 (by omega)) e1;obtain⟨x2,d2,w2⟩:=d9a underlying25 (some_at 2 (by omega)) e2;obtain⟨x3,d3,w3⟩:=d9a underlying22 (some_at 3 (by omega)) e3;refine⟨⟨x0,x1,x2,x3⟩,?_,⟨B8a w0,a2a w1,a2a w2,q2a w3⟩⟩;have f0:=x2a (i:=0) d0;have f1:=x2a (i:=1) d1;have f2:=x2a (i:=2) d2;have f3:=x2a (i:=3) d3;rw[List.drop_zero] at f0;rw[f0,f1,f2,f3,List.drop_of_length_le (by omega)];rfl
end
section
variable {H:Type} {enc:TypeId×Value->H} {P:Program} {W:World} {base:Nat} {t e:TypeId} {v:Value} {d:DataW H} {p:List MemPlace}
theorem Q3c{k:IntKind}{m b fuel:Nat}{sp:Nat->Bool}{hd:Bool}{l:List Value}{x:DataW H×List MemPlace}(ht:P.underlying t=some (.array m e))(he:P.underlying e=some (.int k))(hc:P.cellsOf e=1)(hl:l.length=m)
(hf:DataW.trod enc P W b sp hd fuel t l=some x):∃xs:List Int,l=xs.map (Value.int k)/\∀x∈xs,(Lit.int k x).wf=true:=by
 obtain⟨ys,n,_,_,hlc,hyl,hel⟩:=DataW.trod_array ht hf;rw[hc] at hel;have each:∀i (h:i<l.length),∃x,l[i]=.int k x/\(Lit.int k x).wf=true:=by
  intro i hi;have h1:=hel i (by omega);rw[Nat.mul_one] at h1;rw[List.drop_eq_getElem_cons hi,List.take_succ_cons,List.take_zero] at h1;have hy:i<ys.length:=by omega
  rw[List.getElem?_eq_getElem hy] at h1;obtain⟨x,e0,_,wx⟩:=DataW.trod_int he h1;exact⟨x,by simpa using e0,wx⟩
 clear hf hel hl hlc hyl
 induction l with
 | nil=>exact⟨[],rfl,λ_ h=>by cases h⟩
 | cons u r ih=>
  obtain⟨x,hx,wx⟩:=each 0 (by simp);obtain⟨xs,hr,hw⟩:=ih λi hi=>by have:=each (i+1) (by simpa using hi);simpa using this
  refine⟨x::xs,by rw[hr];simpa using hx,λy hy=>?_⟩;rcases List.mem_cons.1 hy with rfl | hy
  ·exact wx
  ·exact hw y hy
end
section
variable {H:Type} {enc:TypeId×Value->H} {W:World} {base:Nat} {v:Value} {d:DataW H} {p:List MemPlace}
theorem k4b{w:World}{B:Nat}{A:Option Addr}{n c:Nat}{xs:List Int}(h:J1a (Value.int .u8) w B A n c xs)(hr:n<=281474976710656)(hb:Bytes xs):Holds w B A n c xs:=
 ⟨h.len,h.fit,hr,hb,h.bare,λh0=>by
  obtain⟨b,off,e1,e2,e3⟩:=h.cells h0;refine⟨b,off,e1,e2,λi hi=>?_⟩;have hil:i<xs.length:=by rw[h.len];exact hi
  rw[e3 i xs[i] (List.getElem?_eq_getElem hil)];simp[List.getD_eq_getElem?_getD,hil]⟩
end
section
variable {H:Type} {enc:TypeId×Value->H} {P:Program} {W:World} {base:Nat} {t e:TypeId} {v:Value} {d:DataW H} {p:List MemPlace}
theorem V7b{α:Type}[Inhabited α]{f:α->List Value}{s:Nat}{ok:α->Prop}{g:α->Nat}{fuel:Nat}{cs:List Value}{x:DataW H×List MemPlace}(ht:P.underlying t=some (.slice e))(hc:P.cellsOf e=s)(hs:0<s)(hfl:∀y,(f y).length=s)
(hel:∀(n:Nat) (cs:List Value) (x:DataW H×List MemPlace),DataW.trod enc P W 0 (λ_=>true) true n e cs=some x->∃y:α,cs=f y/\ok y/\g y<Rows.uptoBulk x.1)
(hf:DataW.trod enc P W 0 (λ_=>true) true fuel t cs=some x) :
  ∃A n c zs,cs=[.slice A n c]/\n<=c/\c<Rows.uptoBulk x.1/\c1a f s W W.heap.size A c c zs/\(∀z∈zs,ok z)/\∀z∈zs,g z<Rows.uptoBulk x.1:=by
 rcases Go.Deep.open_slice ht hf with⟨hcs,hx⟩ | ⟨a,len,cap,m,n,D,Pl,hcs,_,hl,hm,hmm,hx,hcell⟩
 ·exact⟨none,0,0,[],hcs,Nat.le_refl _,u5a _,c1a.nil _ _ _ _,(λz h=>by cases h),λz h=>by cases h⟩
 ·subst hx;simp only[if_true] at hmm;subst hmm;rw[hc] at hcell;have each:∀i,i<m->∃y:α,W.cells? 0 (a.add (i*s)) s=some (f y)/\ok y/\g y<Rows.uptoBulk (D i):=λi hi=>by obtain⟨cs',h1,h2⟩:=hcell i hi;obtain⟨y,rfl,hy⟩:=hel _ _ _ h2;exact⟨y,h1,hy⟩
  obtain⟨Y,hY⟩:=Go.Deep.choose_lt each;refine⟨some a,len,m,(List.range m).map Y,hcs,hl,?_,⟨by simp,Nat.le_refl _,(λhA=>by cases hA),λh0=>?_⟩,λz hz=>?_,λz hz=>?_⟩
  ·have h1:=G2a ((List.range len).map D);have h2:=G2a ((List.range (m-len)).map λj=>D (len+j));rw[List.length_map,List.length_range] at h1 h2;simp only[Rows.uptoBulk];omega
  ·obtain⟨b,off,spot⟩:=a;obtain⟨_,h01,h02⟩:=World.cells?_some (hY 0 h0).1;have hf0:0<(f (Y 0)).length:=by rw[hfl];exact hs
   have h03:=h02 0 (by omega);rw[List.getElem?_eq_getElem hf0] at h03;have hspot:spot=none:=by simpa[Addr.add] using World.cell?_spot h03
   subst hspot;have add_at:∀i,(⟨b,off,none⟩:Addr).add i=⟨b,off+i,none⟩:=λi=>by
    by_cases hj0:i=0
    ·subst hj0;simp[Addr.add]
    ·simp[Addr.add,hj0]
   have add_at2:∀i j,(⟨b,off+i,none⟩:Addr).add j=⟨b,off+(i+j),none⟩:=λi j=>by
    by_cases hj0:j=0
    ·subst hj0;simp[Addr.add]
    ·simp[Addr.add,hj0,Nat.add_assoc]
   refine⟨b,off,rfl,?_,λi z hi j u hj=>?_⟩
   ·have:=World.block_lt_of_cell? W _ h03;simpa[Addr.add] using this
   ·rw[List.getElem?_map] at hi;have him:i<m:=by
     rcases Nat.lt_or_ge i m with h | h
     ·exact h
     ·rw[List.getElem?_eq_none (by simpa using h)] at hi;cases hi
    rw[List.getElem?_range him] at hi;injection hi with hi
    subst hi;obtain⟨_,_,h2⟩:=World.cells?_some (hY i him).1;have hjl:j<s:=by rw[<-hfl (Y i)];exact(List.getElem?_eq_some_iff.1 hj).1
    have h3:=h2 j hjl;rw[add_at,add_at2,hj] at h3;exact h3
  ·obtain⟨i,hi,rfl⟩:=List.mem_map.1 hz;exact(hY i (List.mem_range.1 hi)).2.1
  ·obtain⟨i,hi,rfl⟩:=List.mem_map.1 hz;have hi':=List.mem_range.1 hi;have hw:=(hY i hi').2.2;simp only[Rows.uptoBulk];rcases Nat.lt_or_ge i len with h | h
   ·have:=i5b (l:=(List.range len).map D) (List.mem_map.2 ⟨i,List.mem_range.2 h,rfl⟩);omega
   ·have:=i5b (l:=(List.range (m-len)).map λj=>D (len+j)) (List.mem_map.2 ⟨i-len,List.mem_range.2 (by omega),rfl⟩);rw[show len+(i-len)=i from by omega] at this;omega
end
section
variable {H:Type} {enc:TypeId×Value->H} {W:World} {base:Nat} {v:Value} {d:DataW H} {p:List MemPlace}
theorem F6b(n:Nat)(cs:List Value)(x:DataW H×List MemPlace)(hf:DataW.trod enc prog W 0 (λ_=>true) true n 108 cs=some x):∃l:y1a,cs=B0a l/\l.ok/\l.name.size<Rows.uptoBulk x.1:=by
 obtain⟨xs,m,_,hd,hl,hx,hel⟩:=DataW.trod_struct underlying108 hf;have hx2:xs.length=2:=hx;have h3:cs.length=3:=hl.trans (by kernel_rfl);have e0:=hel 0 _ rfl;have e1:=hel 1 _ rfl;have cs1:prog.cellsOf 9=1:=by kernel_rfl
 have cs2:prog.cellsOf 106=2:=by kernel_rfl
 change DataW.trod enc prog W 0 (λ_=>true) true m 9 ((cs.drop 0).take (prog.cellsOf 9))=xs[0]? at e0
 change DataW.trod enc prog W 0 (λ_=>true) true m 106 ((cs.drop 1).take (prog.cellsOf 106))=xs[1]? at e1
 rw[cs1] at e0;rw[cs2] at e1;obtain⟨z0,hz0⟩:=Option.isSome_iff_exists.1 (show(xs[0]?).isSome=true by simp[hx2]);obtain⟨z1,hz1⟩:=Option.isSome_iff_exists.1 (show(xs[1]?).isSome=true by simp[hx2]);rw[hz0] at e0;rw[hz1] at e1;obtain⟨s,d0,q0,_⟩:=DataW.trod_string (P:=prog) underlying9 e0;obtain⟨ys,m2,_,_,hl2,hy,hel2⟩:=DataW.trod_struct underlying106 e1;have hy2:ys.length=2:=hy;have g0:=hel2 0 _ rfl;have g1:=hel2 1 _ rfl;have c1:∀t,t=3∨t=36->prog.cellsOf t=1:=by rintro t (rfl | rfl)<;>kernel_rfl
 rw[c1 _ (by simp)] at g0 g1;obtain⟨x1,d1,w1⟩:=d9a underlying36 (by simp[hy2]) g0;obtain⟨x2,d2,w2⟩:=d9a underlying3 (by simp[hy2]) g1;have hq:s.size<Rows.uptoBulk x.1:=by
  have hdd:x.1=.agg (xs.map (·.1)):=by rw[hd]
  have h0:=J1b (List.mem_map.2 ⟨z0,List.mem_of_getElem? hz0,rfl⟩:z0.1∈xs.map (·.1));rw[<-hdd,q0] at h0;simp only[Rows.uptoBulk] at h0;have:s.data.toList.length=s.size:=by rw[Array.length_toList];rfl
  omega
 refine⟨⟨s,x1,x2⟩,?_,⟨B1a w1,B8a w2⟩,hq⟩
 match cs,h3 with
 | [a,b,c],_=>simp at d0 d1 d2;simp[B0a,d0,d1,d2]
end
section
variable {H:Type} {enc:TypeId×Value->H} {P:Program} {W:World} {base:Nat} {t e:TypeId} {v:Value} {d:DataW H} {p:List MemPlace}
theorem R3c{k:IntKind}{m b fuel:Nat}{sp:Nat->Bool}{hd:Bool}{l:List Value}{x:DataW H×List MemPlace}(ht:P.underlying t=some (.array m e))(he:P.underlying e=some (.int k))(hc:P.cellsOf e=1)(hl:l.length=m)
(hf:DataW.trod enc P W b sp hd fuel t l=some x):∃xs:List Int,l=xs.map (Value.int k)/\∀x∈xs,(Lit.int k x).wf=true:=by
 obtain⟨ys,n,_,_,hlc,hyl,hel⟩:=DataW.trod_array ht hf;rw[hc] at hel;have each:∀i (h:i<l.length),∃x,l[i]=.int k x/\(Lit.int k x).wf=true:=by
  intro i hi;have h1:=hel i (by omega);rw[Nat.mul_one] at h1;rw[List.drop_eq_getElem_cons hi,List.take_succ_cons,List.take_zero] at h1;have hy:i<ys.length:=by omega
  rw[List.getElem?_eq_getElem hy] at h1;obtain⟨x,e0,_,wx⟩:=DataW.trod_int he h1;exact⟨x,by simpa using e0,wx⟩
 clear hf hel hl hlc hyl
 induction l with
 | nil=>exact⟨[],rfl,λ_ h=>by cases h⟩
 | cons u r ih=>
  obtain⟨x,hx,wx⟩:=each 0 (by simp);obtain⟨xs,hr,hw⟩:=ih λi hi=>by have:=each (i+1) (by simpa using hi);simpa using this
  refine⟨x::xs,by rw[hr];simpa using hx,λy hy=>?_⟩;rcases List.mem_cons.1 hy with rfl | hy
  ·exact wx
  ·exact hw y hy
theorem w0b{l:List Value}{i:Nat}{a:Value}(h:(l.drop i).take 1=[a]):l.drop i=a::l.drop (i+1):=by
 have e:l.drop (i+1)=(l.drop i).drop 1:=by rw[List.drop_drop]
 rw[e];cases hq:l.drop i with
 | nil=>rw[hq] at h;cases h
 | cons u r=>rw[hq] at h;simp at h;rw[h];rfl
theorem M4a{k:IntKind}{b fuel i:Nat}{sp:Nat->Bool}{hd:Bool}{l:List Value}{y:Option (DataW H×List MemPlace)}(he:P.underlying e=some (.int k))(hy:y.isSome=true)
(hf:DataW.trod enc P W b sp hd fuel e ((l.drop i).take 1)=y):∃x,l.drop i=.int k x::l.drop (i+1)/\(Lit.int k x).wf=true:=by obtain⟨z,rfl⟩:=Option.isSome_iff_exists.1 hy;obtain⟨x,e0,_,wx⟩:=DataW.trod_int he hf;exact⟨x,w0b e0,wx⟩
end
section
variable {H:Type} {enc:TypeId×Value->H} {W:World} {base:Nat} {v:Value} {d:DataW H} {p:List MemPlace}
theorem Z9b{fuel:Nat}{l:List Value}{x:DataW H×List MemPlace}(hf:DataW.trod enc prog W 0 (λ_=>true) true fuel 28 l=some x):∃h:Hd,h.ok/\l=m0a h:=by
 obtain⟨d,p⟩:=x;have h26:prog.cellsOf 28=26:=by kernel_rfl
 obtain⟨xs,n,_,_,hln,hx,hel⟩:=DataW.trod_struct underlying28 hf;rw[h26] at hln;have hx11:xs.length=11:=hx;have some_at:∀i,i<11->(xs[i]?).isSome=true:=λi hi=>by simp[hx11,hi]
 have c1:∀t,t=22∨t=23∨t=25∨t=24->prog.cellsOf t=1:=by rintro t (rfl | rfl | rfl | rfl)<;>kernel_rfl
 have e0:=hel 0 _ rfl;have e1:=hel 1 _ rfl;have e2:=hel 2 _ rfl;have e3:=hel 3 _ rfl;have e4:=hel 4 _ rfl;have e5:=hel 5 _ rfl;have e6:=hel 6 _ rfl;have e7:=hel 7 _ rfl;have e8:=hel 8 _ rfl;have e9:=hel 9 _ rfl;have e10:=hel 10 _ rfl;rw[c1 _ (by simp)] at e0 e1 e2 e3 e4 e5 e6 e7 e8 e9;obtain⟨x0,d0,w0⟩:=M4a (i:=0) underlying22 (some_at 0 (by omega)) e0;obtain⟨x1,d1,w1⟩:=M4a (i:=1) underlying23 (some_at 1 (by omega)) e1;obtain⟨x2,d2,w2⟩:=M4a (i:=2) underlying24 (some_at 2 (by omega)) e2;obtain⟨x3,d3,w3⟩:=M4a (i:=3) underlying22 (some_at 3 (by omega)) e3;obtain⟨x4,d4,w4⟩:=M4a (i:=4) underlying23 (some_at 4 (by omega)) e4;obtain⟨x5,d5,w5⟩:=M4a (i:=5) underlying23 (some_at 5 (by omega)) e5;obtain⟨x6,d6,w6⟩:=M4a (i:=6) underlying25 (some_at 6 (by omega)) e6;obtain⟨x7,d7,w7⟩:=M4a (i:=7) underlying25 (some_at 7 (by omega)) e7;obtain⟨x8,d8,w8⟩:=M4a (i:=8) underlying23 (some_at 8 (by omega)) e8;obtain⟨x9,d9,w9⟩:=M4a (i:=9) underlying25 (some_at 9 (by omega)) e9;have c16:prog.cellsOf 26=16:=by kernel_rfl
 change DataW.trod enc prog W 0 (λ_=>true) true n 26 ((l.drop 10).take (prog.cellsOf 26))=xs[10]? at e10
 rw[c16] at e10;obtain⟨z,hz⟩:=Option.isSome_iff_exists.1 (some_at 10 (by omega));rw[hz] at e10;have ht:(l.drop 10).take 16=l.drop 10:=List.take_of_length_le (by simp;omega);rw[ht] at e10;obtain⟨ss,hss,wss⟩:=R3c underlying26 underlying5 (by kernel_rfl) (by simp;omega) e10;have hsl:ss.length=16:=by have:=congrArg List.length hss;simp at this;omega
 refine⟨⟨x0,x1,x2,x3,x4,x5,x6,x7,x8,x9,ss⟩,⟨q2a w0,Z1a w1,q2a w2,q2a w3,Z1a w4,Z1a w5,a2a w6,a2a w7,Z1a w8,a2a w9,hsl,λy hy=>B1a (wss y hy)⟩,?_⟩;rw[<-List.drop_zero (l:=l),d0,d1,d2,d3,d4,d5,d6,d7,d8,d9,hss];rfl
theorem f3a{t:TypeId}{k:IntKind}{fuel off i:Nat}{l:List Value}{xs:List (DataW H×List MemPlace)}(he:prog.underlying t=some (.int k))(hc:prog.cellsOf t=1)(hy:(xs[i]?).isSome=true)
(hf:DataW.trod enc prog W 0 (λ_=>true) true fuel t ((l.drop off).take (prog.cellsOf t))=xs[i]?):∃x,l.drop off=.int k x::l.drop (off+1)/\(Lit.int k x).wf=true:=by rw[hc] at hf;obtain⟨x,d,w⟩:=d9a he hy hf;exact⟨x,x2a d,w⟩
theorem d3b{t:TypeId}{fuel off i:Nat}{l:List Value}{d:DataW H}{xs:List (DataW H×List MemPlace)}(he:prog.underlying t=some .string)(hc:prog.cellsOf t=1)(hy:(xs[i]?).isSome=true)
(wt:∀z,xs[i]? = some z->Rows.uptoBulk z.1<Rows.uptoBulk d)(hu:Rows.uptoBulk d<=1048577)
(hf:DataW.trod enc prog W 0 (λ_=>true) true fuel t ((l.drop off).take (prog.cellsOf t))=xs[i]?):∃x:ByteArray,l.drop off=.string x::l.drop (off+1)/\x.size<=1048576:=by
 rw[hc] at hf;obtain⟨z,hz⟩:=Option.isSome_iff_exists.1 hy;have wz:=wt z hz;rw[hz] at hf;obtain⟨x,d3,q3,_⟩:=DataW.trod_string he hf;refine⟨x,x2a d3,?_⟩;rw[q3] at wz;simp only[Rows.uptoBulk] at wz;have:x.data.toList.length=x.size:=by rw[Array.length_toList];rfl
 omega
theorem W7b{t e:TypeId}{k:IntKind}{n fuel off i:Nat}{l:List Value}{xs:List (DataW H×List MemPlace)}(ht:prog.underlying t=some (.array n e))(he:prog.underlying e=some (.int k))(hc:prog.cellsOf e=1)(hn:prog.cellsOf t=n)(hl:off+n<=l.length)(hy:(xs[i]?).isSome=true)
(hf:DataW.trod enc prog W 0 (λ_=>true) true fuel t ((l.drop off).take (prog.cellsOf t))=xs[i]?):∃s:List Int,s.length=n/\l.drop off=s.map (Value.int k)++l.drop (off+n)/\∀x∈s,(Lit.int k x).wf=true:=by
 rw[hn] at hf;obtain⟨z,hz⟩:=Option.isSome_iff_exists.1 hy;rw[hz] at hf;obtain⟨s,d,w⟩:=Q3c ht he hc (by simp;omega) hf;refine⟨s,?_,?_,w⟩
 ·have:=congrArg List.length d;simp at this;omega
 ·rw[<-d,show l.drop (off+n)=(l.drop off).drop n from by rw[List.drop_drop]];exact(List.take_append_drop _ _).symm
theorem I2c{fuel:Nat}{l:List Value}{x:DataW H×List MemPlace}(hf:DataW.trod enc prog W 0 (λ_=>true) true fuel 34 l=some x)(hu:Rows.uptoBulk x.1<=1048577):∃a:l1a,a.ok/\g1a W W.heap.size l a/\a.dial.length<=1048576/\a.data.length<=1048576/\a.locks.length<=1048576/\a.user.size<=1048576/\a.share.size<=1048576/\a.name.size<=1048576/\a.pat.size<=1048576/\a.aft.size<=1048576:=by
 obtain⟨d,p⟩:=x;change Rows.uptoBulk d<=_ at hu
 have htot:prog.cellsOf 34=69:=by kernel_rfl
 obtain⟨xs,m,_,hd,hl,hx,hel⟩:=DataW.trod_struct underlying34 hf;have hxl:xs.length=23:=hx;have some_at:∀i,i<23->(xs[i]?).isSome=true:=λi hi=>by simp[hxl,hi]
 have hdd:d=.agg (xs.map (·.1)):=by injection hd
 have wt:∀(i:Nat) (z:DataW H×List MemPlace),xs[i]? = some z->Rows.uptoBulk z.1<Rows.uptoBulk d:=λi z hz=>by rw[hdd];exact J1b (List.mem_map.2 ⟨z,List.mem_of_getElem? hz,rfl⟩)
 rw[htot] at hl;have e0:=hel 0 _ rfl;change DataW.trod enc prog W 0 (λ_=>true) true m 29 ((l.drop 0).take (prog.cellsOf 29))=xs[0]? at e0
 rw[show prog.cellsOf 29=1 from by kernel_rfl] at e0;obtain⟨z0,hz0⟩:=Option.isSome_iff_exists.1 (some_at 0 (by omega));have wz0:=wt 0 z0 hz0;rw[hz0] at e0;obtain⟨A0,n0,k0,s0,d0,l0,b0,h0,w0⟩:=c3b underlying29 underlying22 (by kernel_rfl) e0;have c0:=x2a (i:=0) d0;obtain⟨s1,t1,c1,w1⟩:=W7b (off:=1) (n:=16) underlying26 underlying5 (by kernel_rfl) (by kernel_rfl) (by omega) (some_at 1 (by omega)) (hel 1 _ rfl);obtain⟨s2,t2,c2,w2⟩:=W7b (off:=17) (n:=32) underlying30 underlying5 (by kernel_rfl) (by kernel_rfl) (by omega) (some_at 2 (by omega)) (hel 2 _ rfl);obtain⟨x3,c3,k3⟩:=d3b (off:=49) underlying9 (by kernel_rfl) (some_at 3 (by omega)) (wt 3) hu (hel 3 _ rfl);obtain⟨x4,c4,k4⟩:=d3b (off:=50) underlying9 (by kernel_rfl) (some_at 4 (by omega)) (wt 4) hu (hel 4 _ rfl);obtain⟨x5,c5,w5⟩:=f3a (off:=51) underlying23 (by kernel_rfl) (some_at 5 (by omega)) (hel 5 _ rfl);obtain⟨x6,c6,w6⟩:=f3a (off:=52) underlying23 (by kernel_rfl) (some_at 6 (by omega)) (hel 6 _ rfl);obtain⟨x7,c7,w7⟩:=f3a (off:=53) underlying23 (by kernel_rfl) (some_at 7 (by omega)) (hel 7 _ rfl);obtain⟨x8,c8,w8⟩:=f3a (off:=54) underlying23 (by kernel_rfl) (some_at 8 (by omega)) (hel 8 _ rfl);obtain⟨x9,c9,w9⟩:=f3a (off:=55) underlying5 (by kernel_rfl) (some_at 9 (by omega)) (hel 9 _ rfl);obtain⟨x10,c10,w10⟩:=f3a (off:=56) underlying5 (by kernel_rfl) (some_at 10 (by omega)) (hel 10 _ rfl);obtain⟨x11,c11,w11⟩:=f3a (off:=57) underlying25 (by kernel_rfl) (some_at 11 (by omega)) (hel 11 _ rfl);obtain⟨x12,c12,k12⟩:=d3b (off:=58) underlying9 (by kernel_rfl) (some_at 12 (by omega)) (wt 12) hu (hel 12 _ rfl);obtain⟨x13,c13,w13⟩:=f3a (off:=59) underlying25 (by kernel_rfl) (some_at 13 (by omega)) (hel 13 _ rfl);obtain⟨x14,c14,w14⟩:=f3a (off:=60) underlying23 (by kernel_rfl) (some_at 14 (by omega)) (hel 14 _ rfl);have e15:=hel 15 _ rfl;change DataW.trod enc prog W 0 (λ_=>true) true m 31 ((l.drop 61).take (prog.cellsOf 31))=xs[15]? at e15
 rw[show prog.cellsOf 31=1 from by kernel_rfl] at e15;obtain⟨z15,hz15⟩:=Option.isSome_iff_exists.1 (some_at 15 (by omega));have wz15:=wt 15 z15 hz15;rw[hz15] at e15;obtain⟨A15,n15,k15,s15,d15,l15,b15,h15,w15⟩:=c3b underlying31 underlying5 (by kernel_rfl) e15;have c15:=x2a (i:=61) d15;have e16:=hel 16 _ rfl;change DataW.trod enc prog W 0 (λ_=>true) true m 32 ((l.drop 62).take (prog.cellsOf 32))=xs[16]? at e16
 rw[show prog.cellsOf 32=1 from by kernel_rfl] at e16;obtain⟨z16,hz16⟩:=Option.isSome_iff_exists.1 (some_at 16 (by omega));have wz16:=wt 16 z16 hz16;rw[hz16] at e16;obtain⟨A16,n16,k16,s16,d16,l16,b16,h16,w16⟩:=G2c (f:=H0a) (s:=4) (ok:=r2a.ok) underlying32 (by kernel_rfl) (by omega) i5a H2c e16;have c16:=x2a (i:=62) d16;obtain⟨x17,c17,w17⟩:=f3a (off:=63) underlying22 (by kernel_rfl) (some_at 17 (by omega)) (hel 17 _ rfl);obtain⟨x18,c18,k18⟩:=d3b (off:=64) underlying9 (by kernel_rfl) (some_at 18 (by omega)) (wt 18) hu (hel 18 _ rfl);obtain⟨x19,c19,k19⟩:=d3b (off:=65) underlying9 (by kernel_rfl) (some_at 19 (by omega)) (wt 19) hu (hel 19 _ rfl);obtain⟨x20,c20,w20⟩:=f3a (off:=66) underlying22 (by kernel_rfl) (some_at 20 (by omega)) (hel 20 _ rfl);obtain⟨x21,c21,w21⟩:=f3a (off:=67) underlying25 (by kernel_rfl) (some_at 21 (by omega)) (hel 21 _ rfl);have e22:=hel 22 _ rfl;change DataW.trod enc prog W 0 (λ_=>true) true m 4 ((l.drop 68).take (prog.cellsOf 4))=xs[22]? at e22
 rw[show prog.cellsOf 4=1 from by kernel_rfl] at e22;obtain⟨z22,hz22⟩:=Option.isSome_iff_exists.1 (some_at 22 (by omega));have wz22:=wt 22 z22 hz22;rw[hz22] at e22;obtain⟨x22,d22,_⟩:=DataW.trod_bool underlying4 e22;have c22:=x2a (i:=68) d22;refine⟨⟨s0.take n0,s1,s2,x3,x4,x5,x6,x7,x8,x9,x10,x11,x12,x13,x14,s15.take n15,s16.take n16,x17,x18,x19,x20,x21,x22⟩,⟨λy hy=>q2a (w0 y (List.mem_of_mem_take hy)),t1,λy hy=>B1a (w1 y hy),t2,λy hy=>B1a (w2 y hy),Z1a w5,Z1a w6,Z1a w7,Z1a w8,B1a w9,B1a w10,a2a w11,a2a w13,Z1a w14,λy hy=>B1a (w15 y (List.mem_of_mem_take hy)),λy hy=>w16 y (List.mem_of_mem_take hy),q2a w17,q2a w20,a2a w21⟩,⟨A0,n0,k0,A15,n15,k15,A16,n16,k16,?_,h0.head l0,(k4b h15 (by omega) (λy hy=>B1a (w15 y hy))).head l15,h16.head l16⟩,by simp;omega,by simp;omega,by simp;omega,k3,k4,k12,k18,k19⟩;have c:=c0;rw[List.drop_zero] at c;rw[c,c1,c2,c3,c4,c5,c6,c7,c8,c9,c10,c11,c12,c13,c14,c15,c16,c17,c18,c19,c20,c21,c22,List.drop_of_length_le (by omega)];rfl
theorem J2c{fuel:Nat}{l:List Value}{x:DataW H×List MemPlace}(hf:DataW.trod enc prog W 0 (λ_=>true) true fuel 39 l=some x)(hu:Rows.uptoBulk x.1<=1048577):∃a:O1a,a.ok/\s1a W W.heap.size l a/\a.data.length<=1048576/\a.ents.length<=1048576/\∀e∈a.ents,e.name.size<=1048576:=by
 obtain⟨d,p⟩:=x;change Rows.uptoBulk d<=_ at hu
 have htot:prog.cellsOf 39=20:=by kernel_rfl
 obtain⟨xs,m,_,hd,hl,hx,hel⟩:=DataW.trod_struct underlying39 hf;have hxl:xs.length=13:=hx;have some_at:∀i,i<13->(xs[i]?).isSome=true:=λi hi=>by simp[hxl,hi]
 have hdd:d=.agg (xs.map (·.1)):=by injection hd
 have wt:∀(i:Nat) (z:DataW H×List MemPlace),xs[i]? = some z->Rows.uptoBulk z.1<Rows.uptoBulk d:=λi z hz=>by rw[hdd];exact J1b (List.mem_map.2 ⟨z,List.mem_of_getElem? hz,rfl⟩)
 rw[htot] at hl;obtain⟨x0,c0,w0⟩:=f3a (off:=0) underlying22 (by kernel_rfl) (some_at 0 (by omega)) (hel 0 _ rfl);obtain⟨x1,c1,w1⟩:=f3a (off:=1) underlying25 (by kernel_rfl) (some_at 1 (by omega)) (hel 1 _ rfl);obtain⟨s2,t2,c2,w2⟩:=W7b (off:=2) (n:=8) underlying35 underlying5 (by kernel_rfl) (by kernel_rfl) (by omega) (some_at 2 (by omega)) (hel 2 _ rfl);obtain⟨x3,c3,w3⟩:=f3a (off:=10) underlying5 (by kernel_rfl) (some_at 3 (by omega)) (hel 3 _ rfl);obtain⟨x4,c4,w4⟩:=f3a (off:=11) underlying5 (by kernel_rfl) (some_at 4 (by omega)) (hel 4 _ rfl);obtain⟨x5,c5,w5⟩:=f3a (off:=12) underlying22 (by kernel_rfl) (some_at 5 (by omega)) (hel 5 _ rfl);obtain⟨x6,c6,w6⟩:=f3a (off:=13) underlying25 (by kernel_rfl) (some_at 6 (by omega)) (hel 6 _ rfl);obtain⟨x7,c7,w7⟩:=f3a (off:=14) underlying36 (by kernel_rfl) (some_at 7 (by omega)) (hel 7 _ rfl);have e8:=hel 8 _ rfl;change DataW.trod enc prog W 0 (λ_=>true) true m 31 ((l.drop 15).take (prog.cellsOf 31))=xs[8]? at e8
 rw[show prog.cellsOf 31=1 from by kernel_rfl] at e8;obtain⟨z8,hz8⟩:=Option.isSome_iff_exists.1 (some_at 8 (by omega));have wz8:=wt 8 z8 hz8;rw[hz8] at e8;obtain⟨A8,n8,k8,s8,d8,l8,b8,h8,w8⟩:=c3b underlying31 underlying5 (by kernel_rfl) e8;have c8:=x2a (i:=15) d8;obtain⟨x9,c9,w9⟩:=f3a (off:=16) underlying23 (by kernel_rfl) (some_at 9 (by omega)) (hel 9 _ rfl);have e10:=hel 10 _ rfl;change DataW.trod enc prog W 0 (λ_=>true) true m 37 ((l.drop 17).take (prog.cellsOf 37))=xs[10]? at e10
 rw[show prog.cellsOf 37=1 from by kernel_rfl] at e10;obtain⟨z10,hz10⟩:=Option.isSome_iff_exists.1 (some_at 10 (by omega));have wz10:=wt 10 z10 hz10;rw[hz10] at e10;obtain⟨A10,n10,k10,s10,d10,l10,b10,h10,w10,g10⟩:=V7b (g:=λy=>y.name.size) (f:=B0a) (s:=3) (ok:=y1a.ok) underlying37 (by kernel_rfl) (by omega) I4a F6b e10;have c10:=x2a (i:=17) d10;have e11:=hel 11 _ rfl;change DataW.trod enc prog W 0 (λ_=>true) true m 4 ((l.drop 18).take (prog.cellsOf 4))=xs[11]? at e11
 rw[show prog.cellsOf 4=1 from by kernel_rfl] at e11;obtain⟨z11,hz11⟩:=Option.isSome_iff_exists.1 (some_at 11 (by omega));have wz11:=wt 11 z11 hz11;rw[hz11] at e11;obtain⟨x11,d11,_⟩:=DataW.trod_bool underlying4 e11;have c11:=x2a (i:=18) d11;have e12:=hel 12 _ rfl;change DataW.trod enc prog W 0 (λ_=>true) true m 4 ((l.drop 19).take (prog.cellsOf 4))=xs[12]? at e12
 rw[show prog.cellsOf 4=1 from by kernel_rfl] at e12;obtain⟨z12,hz12⟩:=Option.isSome_iff_exists.1 (some_at 12 (by omega));have wz12:=wt 12 z12 hz12;rw[hz12] at e12;obtain⟨x12,d12,_⟩:=DataW.trod_bool underlying4 e12;have c12:=x2a (i:=19) d12;refine⟨⟨x0,x1,s2,x3,x4,x5,x6,x7,s8.take n8,x9,s10.take n10,x11,x12⟩,⟨q2a w0,a2a w1,t2,λy hy=>B1a (w2 y hy),B1a w3,B1a w4,q2a w5,a2a w6,B1a w7,λy hy=>B1a (w8 y (List.mem_of_mem_take hy)),Z1a w9,λy hy=>w10 y (List.mem_of_mem_take hy)⟩,⟨A8,n8,k8,A10,n10,k10,?_,(k4b h8 (by omega) (λy hy=>B1a (w8 y hy))).head l8,h10.head l10⟩,by simp;omega,by simp;omega,λy hy=>by have:=g10 y (List.mem_of_mem_take hy);omega⟩;have c:=c0;rw[List.drop_zero] at c;rw[c,c1,c2,c3,c4,c5,c6,c7,c8,c9,c10,c11,c12,List.drop_of_length_le (by omega)];rfl
structure A6c (m:W4a):Prop where
 al:m.a.dial.length<=1048576/\m.a.data.length<=1048576/\m.a.locks.length<=1048576
 at_:m.a.user.size<=1048576/\m.a.share.size<=1048576/\m.a.name.size<=1048576/\m.a.pat.size<=1048576/\m.a.aft.size<=1048576
 sl:m.s.data.length<=1048576/\m.s.ents.length<=1048576/\∀e∈m.s.ents,e.name.size<=1048576
theorem S3c(hv:Value.okWide prog W .any base 41 v)(hk:DataW.Trod enc prog W 0 (λ_=>true) true 41 v d p)(hu:Rows.uptoBulk d<=1048577):∃(cs:List Value) (m:W4a),v=.agg cs.toArray/\m.ok/\G4a W W.heap.size cs m/\A6c m:=by
 obtain⟨cs,rfl,hsz,_⟩:∃cs,v=.agg cs/\cs.size=prog.cellsOf 41/\Row.okWide prog W .any base 41 cs:=by simpa[Value.okWide,underlying41] using hv
 have htot:prog.cellsOf 41=115:=by kernel_rfl
 obtain⟨fuel,hf⟩:=hk;obtain⟨xs,n,_,hd,hl,hx,hel⟩:=DataW.trod_struct underlying41 hf;have hxl:xs.length=3:=hx;have some_at:∀i,i<3->(xs[i]?).isSome=true:=λi hi=>by simp[hxl,hi]
 have hdd:d=.agg (xs.map (·.1)):=by injection hd
 have wt:∀(i:Nat) (z:DataW H×List MemPlace),xs[i]? = some z->Rows.uptoBulk z.1<Rows.uptoBulk d:=λi z hz=>by rw[hdd];exact J1b (List.mem_map.2 ⟨z,List.mem_of_getElem? hz,rfl⟩)
 have hcl:(Value.agg cs).cells.toList=cs.toList:=rfl;rw[hcl] at hel hl;obtain⟨l,hll⟩:=xX cs.toList;rw[<-hll] at hel hl;rw[htot] at hl;have e0:=hel 0 _ rfl;change DataW.trod enc prog W 0 (λ_=>true) true n 28 ((l.drop 0).take (prog.cellsOf 28))=xs[0]? at e0
 rw[show prog.cellsOf 28=26 from by kernel_rfl] at e0;obtain⟨z0,hz0⟩:=Option.isSome_iff_exists.1 (some_at 0 (by omega));rw[hz0] at e0;obtain⟨h,hok,hh⟩:=Z9b e0;have e1:=hel 1 _ rfl;change DataW.trod enc prog W 0 (λ_=>true) true n 34 ((l.drop 26).take (prog.cellsOf 34))=xs[1]? at e1
 rw[show prog.cellsOf 34=69 from by kernel_rfl] at e1;obtain⟨z1,hz1⟩:=Option.isSome_iff_exists.1 (some_at 1 (by omega));have wz1:=wt 1 z1 hz1;rw[hz1] at e1;obtain⟨a,aok,hA,a1,a2,a3,a4⟩:=I2c e1 (by omega);have e2:=hel 2 _ rfl;change DataW.trod enc prog W 0 (λ_=>true) true n 39 ((l.drop 95).take (prog.cellsOf 39))=xs[2]? at e2
 rw[show prog.cellsOf 39=20 from by kernel_rfl] at e2;obtain⟨z2,hz2⟩:=Option.isSome_iff_exists.1 (some_at 2 (by omega));have wz2:=wt 2 z2 hz2;rw[hz2] at e2;obtain⟨s,sok,hS,s1,s2,s3⟩:=J2c e2 (by omega);refine⟨l,⟨h,a,s⟩,by rw[hll],⟨hok,aok,sok⟩,⟨_,_,?_,hA,hS⟩,⟨⟨a1,a2,a3⟩,a4,s1,s2,s3⟩⟩;have h95:(l.drop 95).take 20=l.drop 95:=List.take_of_length_le (by simp;omega);rw[<-hh,h95,List.drop_zero,show l.drop 95=(l.drop 26).drop 69 from by rw[List.drop_drop],List.take_append_drop,List.take_append_drop]
end
end Go.Proofs.YtjpcifmeimcikaaGreatDoor
