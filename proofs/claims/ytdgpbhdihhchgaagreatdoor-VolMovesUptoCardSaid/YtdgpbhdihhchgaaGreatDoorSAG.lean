import Derived.Test.YtdgpbhdihhchgaaGreatDoorSAF
import Derived.Test.YtdgpbhdihhchgaaGreatDoorS0
set_option linter.all false
set_option maxHeartbeats 8000000
set_option maxRecDepth 100000
namespace Go.Proofs.YtdgpbhdihhchgaaGreatDoor
open Go.RowKit
section
variable {w w':World} {B B':Nat} {A:Option Addr} {n c:Nat} {xs:List Int}
theorem Holds.part(h:Holds w B A n c xs){k m c':Nat}(hk:k+m<=n)(hm:0<m)(hc':m<=c'):Holds w B (A.map (·.add k)) m c' ((xs.drop k).take m):=by have h1:=h.cut hk hm;exact⟨h1.len,hc',h1.room,h1.byte,λhA=>by have:=h1.bare hA;omega,h1.cells⟩
end
section
variable {w w':World} {g B base:Nat} {xs:List Int}
end
theorem h5a{w:World}{ops:Array Oper}{rest:List Oper}{o:Oper}{a:Act}{Q:Exit->Act->World->Prop}(hgd:o.guard=none)(s x:Operand)
(ho:o.op=.call { callee:=.builtin .append,args:=#[s,x],argTypes:=#[51,51] })
(base:Nat)(v:Value)(xs:List Int)(hs:a.eval s=v)(hown:Own w base v xs)(B:Nat)(A:Option Addr)(m c:Nat)(ys:List Int)(hx:a.eval x=.slice A m c)
(hr:Holds w B A m c ys)(hlen:xs.length+ys.length<=140737488355328)(hbase:base<=w.heap.size)
(h:∀v' w',Hid (Own w' base v' (xs++ys))->Below base w w'->w.grownBy w' v.ownBlock->wpList Tryz.prog ops Q rest (a.put o.dst v') w') :
  wpList Tryz.prog ops Q (o::rest) a w:=by
 obtain⟨i0,hi,hz0,hz1,hz2⟩:=info_parts U4a;have hl:=hr.len;rcases A with _ | ad
 ·have hc:=hr.bare rfl;have hf:=hr.fit;have hm:m=0:=by omega
  subst hm;subst hc;have:ys=[]:=List.eq_nil_of_length_eq_zero hl;subst this;refine wpList_append_own_none hgd s x 51 ho base 5 i0 1 Tryz.underlying51 hi v xs.length _ hs hown hx ?_;exact h v w (by rw[List.append_nil];exact hown) (Below.refl _ _) (World.grownBy.refl w _)
 ·refine wpList_append_own w hgd s x 51 ho base 5 i0 (.int .u8 0) 1 1 Tryz.underlying51 hi hz0 hz1 hz2 rfl (by omega) v xs.length _ hs hown ad m c (ys.map (Value.int .u8)) hx (by simp[hl]) ?_
   (by intro v hv;obtain⟨x,_,rfl⟩:=List.mem_map.1 hv;rfl) (by unfold maxLen;omega) (by omega) hbase ?_
  ·intro j u hj;have hjl:j<ys.length:=by
    by_cases hj':j<ys.length
    ·exact hj'
    ·rw[List.getElem?_eq_none (by simp;omega)] at hj;cases hj
   obtain⟨b,off,he,_,hcl⟩:=hr.cells (by omega);obtain rfl:=Option.some.inj he;have e:(⟨b,off,none⟩:Addr).add j=⟨b,off+j,none⟩:=by
    by_cases hj0:j=0
    ·subst hj0;simp[Addr.add]
    ·simp[Addr.add,hj0]
   rw[e,hcl j (by omega),<-hj];simp[hjl]
  ·intro v' w' hown' hgr _;refine h v' w' ?_ ((Below.refl _ _).grown hgr hbase (λk hk=>(hown.lt k hk).1)) hgr;show World.ownsRow _ _ _ _ _ _ _
   rw[List.length_append,List.map_append,hl];exact hown'
open Go.RowKit Go.ChangeShapes Go.WideShapes
section
variable {H:Type} {enc:TypeId×Value->H} {P:Program} {W:World} {base:Nat} {t e:TypeId} {v:Value} {d:DataW H} {p:List MemPlace}
theorem x6a(d:DataW H):1<=Rows.uptoBulk d:=by
 cases d with
 | lit l=>cases l<;>simp[Rows.uptoBulk]
 | nil=>simp[Rows.uptoBulk]
 | ptr d=>simp[Rows.uptoBulk]
 | slice elems spare=>simp[Rows.uptoBulk]
 | agg parts=>simp[Rows.uptoBulk]
 | iface t d=>simp[Rows.uptoBulk]
 | map entries=>simp[Rows.uptoBulk]
 | held h=>simp[Rows.uptoBulk]
theorem c3a(l:List (DataW H)):l.length<=Rows.uptoBulkAll l:=by
 induction l with
 | nil=>simp[Rows.uptoBulkAll]
 | cons x r ih=>have:=x6a x;simp only[Rows.uptoBulkAll,List.length_cons];omega
end
section
variable {α:Type} {f:α->Value} {P:Program} {w:World} {ops:Array Oper} {rest:List Oper} {o:Oper} {a:Act} {Q:Exit->Act->World->Prop}
theorem n1a(hgd:o.guard=none)(s x:Operand)(f:α->Value)(hf:∀y,(f y).oneCell'=true)(z:Value)(hzc:z.cells.size=1)(T e:TypeId)(bytes:Nat)
(ht:P.underlying T=some (.slice e))(hi:(P.info? e).map (λi=>(i.zero,i.size,i.bytes))=some (some z,1,bytes))
(ho:o.op=.call { callee:=.builtin .append,args:=#[s,x],argTypes:=#[T,T] })
(base:Nat)(v:Value)(xs:List α)(hs:a.eval s=v)(hown:t1a f e w base v xs)(B:Nat)(A:Option Addr)(m c:Nat)(ys:List α)(hx:a.eval x=.slice A m c)
(hr:U0a f w B A m c ys)(hlen:(xs.length+ys.length)*bytes<=140737488355328)(h63:xs.length+ys.length<=9223372036854775807)(hbase:base<=w.heap.size)
(h:∀v' w',Hid (t1a f e w' base v' (xs++ys))->Hid (Below base w w')->wpList P ops Q rest (a.put o.dst v') w') :
  wpList P ops Q (o::rest) a w:=by
 obtain⟨i0,hi0,hz0,hz1,hz2⟩:=info_parts hi;have hl:=hr.len;rcases A with _ | ad
 ·have hc:=hr.bare rfl;have hft:=hr.fit;have hm:m=0:=by omega
  subst hm;subst hc;have:ys=[]:=List.eq_nil_of_length_eq_zero hl;subst this;refine wpList_append_own_none hgd s x T ho base e i0 1 ht hi0 v xs.length _ hs hown hx ?_;exact h v w (by rw[List.append_nil];exact hown) (Below.refl _ _)
 ·refine wpList_append_own w hgd s x T ho base e i0 z 1 bytes ht hi0 hz0 hz1 hz2 hzc (by omega) v xs.length _ hs hown ad m c (ys.map f) hx (by simp[hl]) ?_
   (by intro v hv;obtain⟨x,_,rfl⟩:=List.mem_map.1 hv;exact hf x) (by unfold maxLen;omega) (by rw[<-hl];exact hlen) hbase ?_
  ·intro j u hj;have hjl:j<ys.length:=by
    by_cases hj':j<ys.length
    ·exact hj'
    ·rw[List.getElem?_eq_none (by simp;omega)] at hj;cases hj
   obtain⟨b,off,he,_,hcl⟩:=hr.cells (by omega);injection he with he
   subst he;have e:(⟨b,off,none⟩:Addr).add j=⟨b,off+j,none⟩:=by
    by_cases hj0:j=0
    ·subst hj0;simp[Addr.add]
    ·simp[Addr.add,hj0]
   rw[e,hcl j ys[j] (List.getElem?_eq_getElem hjl),<-hj];simp[hjl]
  ·intro v' w' hown' hgr _;refine h v' w' ?_ ((Below.refl _ _).grown hgr hbase (λk hk=>(World.ownsRow.lt hown k hk).1));show World.ownsRow _ _ _ _ _ _ _
   rw[List.length_append,List.map_append,hl];exact hown'
end
section
variable {α:Type} {f:α->Value} {e:TypeId} {w:World} {base g n c:Nat} {xs:List α}
end
section
open Go.ChangeShapes Go.WideShapes
variable {H:Type} {enc:TypeId×Value->H} {P:Program} {W:World} {base:Nat} {t e:TypeId} {v:Value} {d:DataW H} {p:List MemPlace}
theorem u1b{l:List (DataW H)}{x:DataW H}{k:Nat}(h:x∈l)(hk:k∈x.weights P e):k∈DataW.weightsAll P e l:=by
 induction l with
 | nil=>cases h
 | cons y r ih=>
  simp only[DataW.weightsAll,List.mem_append];rcases List.mem_cons.1 h with rfl | h
  ·exact .inl hk
  ·exact .inr (ih h)
end
section
variable {w w':World} {B B':Nat} {A:Option Addr} {n c:Nat} {ps:List f6a}
end
section
variable {H:Type} {enc:TypeId×Value->H} {P:Program} {W:World} {base:Nat} {t e q:TypeId} {v:Value} {d:DataW H} {p:List MemPlace}
theorem v1b{l:List (DataW H)}{x:DataW H}(h:x∈l):Rows.uptoBulk x<=Rows.uptoBulkAll l:=by
 induction l with
 | nil=>cases h
 | cons y r ih=>
  simp only[Rows.uptoBulkAll];rcases List.mem_cons.1 h with rfl | h
  ·omega
  ·have:=ih h;omega
theorem y8b{fuel:Nat}{cs:List Value}{x:DataW H×List MemPlace}(ht:P.underlying t=some (.slice e))(he:P.underlying e=some (.int .u8))(hc:P.cellsOf e=1)(hb:P.bytesOf e=1)
(hf:DataW.trod enc P W 0 (λ_=>true) true fuel t cs=some x)(hs:∀n∈x.1.weights P t,n<=reachBytes) :
  ∃y:f6a,cs=[o3a y]/\Holds W W.heap.size y.1 y.2.1 y.2.2.1 y.2.2.2/\y.2.2.1<=140737488351232/\y.2.2.1<Rows.uptoBulk x.1:=by
 rcases open_ints ht he hc hf with⟨hcs,hx⟩ | ⟨a,l,cp,zs,hcs,_,hl,hm,hz,hx,hcell,hwz⟩
 ·exact⟨(none,0,0,[]),hcs,Holds.nil _ _,by show 0<=_;omega,x6a _⟩
 ·subst hx;simp only[if_true] at hz;have hcap:cp<=140737488351232:=by
   have h1:=hs ((lits (H:=H) .u8 (zs.take l)).length*1+(lits (H:=H) .u8 (zs.drop l)).length*1) (by simp only[DataW.weights,ht,hb];rw[<-Nat.add_mul];exact List.mem_cons_self)
   simp[lits,reachBytes] at h1;omega
  have hH:Holds W W.heap.size (some a) cp cp zs:=by
   refine⟨hz,Nat.le_refl _,by omega,?_,(λhA=>by cases hA),λh0=>?_⟩
   ·intro y hy;have:=hwz y hy;simpa[Lit.wf,IntKind.min,IntKind.max,IntKind.signed,IntKind.bits] using this
   ·obtain⟨b,off,spot⟩:=a;have h1:=hcell 0 (by omega);have hspot:spot=none:=by simpa[Addr.add] using World.cell?_spot h1
    subst hspot;refine⟨b,off,rfl,?_,λi hi=>?_⟩
    ·have:=World.block_lt_of_cell? W _ h1;simpa[Addr.add] using this
    ·have h2:=hcell i (by omega);have e:(⟨b,off,none⟩:Addr).add i=⟨b,off+i,none⟩:=by
      by_cases hj0:i=0
      ·subst hj0;simp[Addr.add]
      ·simp[Addr.add,hj0]
     rwa [e] at h2
  refine⟨(some a,l,cp,zs.take l),hcs,hH.head hl,hcap,?_⟩;have h1:=c3a (lits (H:=H) .u8 (zs.take l));have h2:=c3a (lits (H:=H) .u8 (zs.drop l));rw[show(lits (H:=H) .u8 (zs.take l)).length=(zs.take l).length from by simp[lits],List.length_take] at h1;rw[show(lits (H:=H) .u8 (zs.drop l)).length=(zs.drop l).length from by simp[lits],List.length_drop] at h2;show cp<_
  simp only[Rows.uptoBulk];omega
end
section
variable {α:Type} {f:α->List Value} {s:Nat} {w w' w2:World} {B B' base base' b:Nat} {A:Option Addr} {n c:Nat} {xs ys:List α} {e e' T:TypeId} {v v' u:Value}
end
section
variable {α:Type} {f:α->List Value} {s:Nat} {P:Program} {w:World} {ops:Array Oper} {rest:List Oper} {o:Oper} {a:Act} {Q:Exit->Act->World->Prop}
theorem o1a(hgd:o.guard=none)(l x:Operand)(f:α->List Value)(s:Nat)(hs0:0<s)(hfl:∀y,(f y).length=s)(hf:∀y,∀u∈f y,u.oneCell'=true)(z:Value)(hzc:z.cells.size=s)(T e:TypeId)(bytes:Nat)
(ht:P.underlying T=some (.slice e))(hi:(P.info? e).map (λi=>(i.zero,i.size,i.bytes))=some (some z,s,bytes))
(ho:o.op=.call { callee:=.builtin .append,args:=#[l,x],argTypes:=#[T,T] })
(base:Nat)(v:Value)(xs:List α)(hs:a.eval l=v)(hown:j1a f s e w base v xs)(B:Nat)(A:Option Addr)(m c:Nat)(ys:List α)(hx:a.eval x=.slice A m c)
(hr:L0a f s w B A m c ys)(hlen:(xs.length+ys.length)*bytes<=140737488355328)(h63:xs.length+ys.length<=9223372036854775807)(hbase:base<=w.heap.size)
(h:∀v' w',Hid (j1a f s e w' base v' (xs++ys))->Hid (Below base w w')->wpList P ops Q rest (a.put o.dst v') w') :
  wpList P ops Q (o::rest) a w:=by
 obtain⟨i0,hi0,hz0,hz1,hz2⟩:=info_parts hi;have hl:=hr.len;rcases A with _ | ad
 ·have hc:=hr.bare rfl;have hft:=hr.fit;have hm:m=0:=by omega
  subst hm;subst hc;have:ys=[]:=List.eq_nil_of_length_eq_zero hl;subst this;refine wpList_append_own_none hgd l x T ho base e i0 s ht hi0 v xs.length _ hs hown hx ?_;exact h v w (by rw[List.append_nil];exact hown) (Below.refl _ _)
 ·refine wpList_append_own w hgd l x T ho base e i0 z s bytes ht hi0 hz0 hz1 hz2 hzc hs0 v xs.length _ hs hown ad m c (ys.flatMap f) hx (by rw[C1a hfl,hl]) ?_
   (by intro v hv;obtain⟨x,_,hx⟩:=List.mem_flatMap.1 hv;exact hf x v hx) (by unfold maxLen;omega) (by rw[<-hl];exact hlen) hbase ?_
  ·intro j u hj;have hjl:j<(ys.flatMap f).length:=(List.getElem?_eq_some_iff.1 hj).1;rw[C1a hfl] at hjl;have hm0:0<m:=by
    rcases Nat.eq_zero_or_pos m with h0 | h0
    ·rw[hl,h0,Nat.zero_mul] at hjl;omega
    ·exact h0
   obtain⟨b,off,he,_,hcl⟩:=hr.cells hm0;injection he with he
   subst he;have e:(⟨b,off,none⟩:Addr).add j=⟨b,off+j,none⟩:=by
    by_cases hj0:j=0
    ·subst hj0;simp[Addr.add]
    ·simp[Addr.add,hj0]
   rw[e];rw[g6a hs0 hfl,Option.bind_eq_some_iff] at hj;obtain⟨y,hy,hu⟩:=hj;have:=hcl _ y hy _ u hu
   rwa [Nat.mul_comm,Nat.div_add_mod] at this
  ·intro v' w' hown' hgr _;refine h v' w' ?_ ((Below.refl _ _).grown hgr hbase (λk hk=>(World.ownsRow.lt hown k hk).1));show World.ownsRow _ _ _ _ _ _ _
   rw[List.length_append,List.flatMap_append,hl];exact hown'
end
section
variable {H:Type} {enc:TypeId×Value->H} {P:Program} {W:World} {base:Nat} {t e:TypeId} {v:Value} {d:DataW H} {p:List MemPlace}
theorem w1b{t:TypeId}{k:Nat}{x:DataW H}(hk:k∈x.weights P t):∀{i:Nat} {ts:List TypeId} {l:List (DataW H)},ts[i]? = some t->l[i]? = some x->k∈DataW.weightsEach P ts l
 | _,[],_,h,_=>by simp at h
 | _,_::_,[],_,h=>by simp at h
 | 0,_::_,_::_,h,g=>by simp only[List.getElem?_cons_zero,Option.some.injEq] at h g;subst h;subst g;simp only[DataW.weightsEach,List.mem_append];exact .inl hk
 | i+1,_::_,_::_,h,g=>by simp only[List.getElem?_cons_succ] at h g;simp only[DataW.weightsEach,List.mem_append];exact .inr (w1b hk h g)
theorem F0b{l:List (DataW H)}{x:DataW H}(h:x∈l):Rows.uptoBulk x<Rows.uptoBulk (.agg l):=by have:=v1b h;simp only[Rows.uptoBulk];omega
theorem d1c{α:Type}[Inhabited α]{f:α->List Value}{s q:Nat}{ok:α->Prop}{g:α->Nat}(ht:P.underlying t=some (.slice e))(hc:P.cellsOf e=s)(hs:0<s)(hb:P.bytesOf e=q)(hfl:∀y,(f y).length=s)
(hel:∀(n:Nat) (cs:List Value) (x:DataW H×List MemPlace),DataW.trod enc P W 0 (λ_=>true) true n e cs=some x->(∀k∈x.1.weights P e,k<=reachBytes)->∃y:α,cs=f y/\ok y/\g y<Rows.uptoBulk x.1)
(hv:Value.okWide P W .any base t v)(hk:DataW.Trod enc P W 0 (λ_=>true) true t v d p)(hw:∀n∈d.weights P t,n<=reachBytes) :
  ∃A n c zs,v=.slice A n c/\n<=c/\c*q<=140737488351232/\c<Rows.uptoBulk d/\L0a f s W W.heap.size A c c zs/\∀z∈zs,ok z/\g z<Rows.uptoBulk d:=by
 obtain⟨A,n,c,rfl⟩:=okWide_slice ht hv;obtain⟨fuel,hf⟩:=hk;rcases Go.Deep.open_slice ht hf with⟨hcs,hx⟩ | ⟨a,len,cap,m,n',D,Pl,hcs,_,hl,hm,hmm,hx,hcell⟩
 ·simp[Value.cells] at hcs;obtain⟨rfl,rfl,rfl⟩:=hcs;exact⟨none,0,0,[],rfl,Nat.le_refl _,by omega,x6a _,L0a.nil _ _ _ _,λz h=>by cases h⟩
 ·simp[Value.cells] at hcs;obtain⟨rfl,rfl,rfl⟩:=hcs;simp only[Prod.mk.injEq] at hx;obtain⟨rfl,rfl⟩:=hx;simp only[if_true] at hmm;subst hmm;simp only[DataW.weights,ht,hb] at hw;have hcap:m*q<=140737488351232:=by have h1:=hw _ List.mem_cons_self;simp only[reachBytes,List.length_map,List.length_range] at h1;rw[show n+(m-n)=m by omega] at h1;omega
  have hwi:∀i,i<m->∀k∈(D i).weights P e,k<=reachBytes:=λi hi k hk=>hw k (List.mem_cons_of_mem _ (List.mem_append.2 (by
   by_cases hin:i<n
   ·left;exact u1b (List.mem_map.2 ⟨i,List.mem_range.2 hin,rfl⟩) hk
   ·right;refine u1b (List.mem_map.2 ⟨i-n,List.mem_range.2 (by omega),rfl⟩) ?_;rw[show n+(i-n)=i by omega];exact hk)))
  rw[hc] at hcell;have each:∀i,i<m->∃y:α,W.cells? 0 (a.add (i*s)) s=some (f y)/\ok y/\g y<Rows.uptoBulk (D i):=λi hi=>by obtain⟨cs',h1,h2⟩:=hcell i hi;obtain⟨y,rfl,hy⟩:=hel _ _ _ h2 (hwi i hi);exact⟨y,h1,hy⟩
  obtain⟨Y,hY⟩:=Go.Deep.choose_lt each;have hbk:∀i,i<m->Rows.uptoBulk (D i)<Rows.uptoBulk (DataW.slice ((List.range n).map D) ((List.range (m-n)).map λj=>D (n+j))):=λi hi=>by
   simp only[Rows.uptoBulk];rcases Nat.lt_or_ge i n with h | h
   ·have:=v1b (l:=(List.range n).map D) (List.mem_map.2 ⟨i,List.mem_range.2 h,rfl⟩);omega
   ·have:=v1b (l:=(List.range (m-n)).map λj=>D (n+j)) (List.mem_map.2 ⟨i-n,List.mem_range.2 (by omega),rfl⟩);rw[show n+(i-n)=i from by omega] at this;omega
  refine⟨some a,n,m,(List.range m).map Y,rfl,hl,hcap,?_,⟨by simp,Nat.le_refl _,(λhA=>by cases hA),λh0=>?_⟩,λz hz=>?_⟩
  ·have h1:=c3a ((List.range n).map D);have h2:=c3a ((List.range (m-n)).map λj=>D (n+j));rw[List.length_map,List.length_range] at h1 h2;simp only[Rows.uptoBulk];omega
  ·obtain⟨b,off,spot⟩:=a;obtain⟨_,h01,h02⟩:=World.cells?_some (hY 0 h0).1;have hf0:0<(f (Y 0)).length:=by rw[hfl];exact hs
   have h03:=h02 0 (by omega);rw[List.getElem?_eq_getElem hf0] at h03;have hspot:spot=none:=by simpa[Addr.add] using World.cell?_spot h03
   subst hspot;have add_at:∀i,(⟨b,off,none⟩:Addr).add i=⟨b,off+i,none⟩:=λi=>by
    by_cases hj0:i=0
    ·subst hj0;simp[Addr.add]
    ·simp[Addr.add,hj0]
   have add_at2:∀i j,(⟨b,off+i,none⟩:Addr).add j=⟨b,off+(i+j),none⟩:=λi j=>by
    by_cases hj0:j=0
    ·subst hj0;simp[Addr.add]
    ·simp[Addr.add,hj0,Nat.add_assoc]
   refine⟨b,off,rfl,?_,λi z hi j u hj=>?_⟩
   ·have:=World.block_lt_of_cell? W _ h03;simpa[Addr.add] using this
   ·rw[List.getElem?_map] at hi;have him:i<m:=by
     rcases Nat.lt_or_ge i m with h | h
     ·exact h
     ·rw[List.getElem?_eq_none (by simpa using h)] at hi;cases hi
    rw[List.getElem?_range him] at hi;injection hi with hi
    subst hi;obtain⟨_,_,h2⟩:=World.cells?_some (hY i him).1;have hjl:j<s:=by rw[<-hfl (Y i)];exact(List.getElem?_eq_some_iff.1 hj).1
    have h3:=h2 j hjl;rw[add_at,add_at2,hj] at h3;exact h3
  ·obtain⟨i,hi,rfl⟩:=List.mem_map.1 hz;have hi':=List.mem_range.1 hi;exact⟨(hY i hi').2.1,Nat.lt_trans (hY i hi').2.2 (hbk i hi')⟩
end
open Go.Lib
def h9a(l:List UInt8):List Int:=l.map λb=>(b.toNat:Int)
def i0b:List Int->List Int->Int
 | [],[]=>0
 | [],y::ys=>-((y::ys).length:Int)
 | x::xs,[]=>((x::xs).length:Int)
 | x::xs,y::ys=>if D2a x=D2a y then i0b xs ys else D2a x-D2a y
theorem e1c(xs ys:List Int):i0b xs ys=0↔xs.map D2a=ys.map D2a:=by
 induction xs generalizing ys with
 | nil=>cases ys with
  | nil=>simp[i0b]
  | cons y ys=>simp[i0b];omega
 | cons x xs ih=>cases ys with
  | nil=>simp[i0b];omega
  | cons y ys=>
   unfold i0b;split
   ·rename_i h;rw[ih,List.map_cons,List.map_cons,h];simp
   ·rename_i h;constructor
    ·intro h2;omega
    ·intro h2;rw[List.map_cons,List.map_cons] at h2;exact absurd (List.cons.inj h2).1 h
section
variable {α:Type} {z:α} {l ys:List α} {n a:Nat}
end
theorem z8b{B:List Int}(h:Bytes B)(a k:Int):Bytes (d0b B a k):=by
 unfold d0b;split
 ·exact(h.drop _).take _
 ·exact Bytes.nil
theorem t3c(B:List Int)(a k:Int):(d0b B a k).length<=B.length:=by
 unfold d0b;split
 ·rw[List.length_take,List.length_drop];omega
 ·exact Nat.zero_le _
theorem Y4b{xs ys:List Int}{k:Nat}(hx:k<xs.length)(hy:k<ys.length)(h:xs.take k=ys.take k)(he:xs.getD k 0=ys.getD k 0):xs.take (k+1)=ys.take (k+1):=by
 rw[List.take_succ_eq_append_getElem hx,List.take_succ_eq_append_getElem hy,h];have e:xs[k]=ys[k]:=by simpa[List.getD_eq_getElem?_getD,hx,hy] using he
 rw[e]
theorem A8b{xs ys:List Int}{k:Nat}(he:¬xs.getD k 0=ys.getD k 0):decide (xs=ys)=false:=by rw[decide_eq_false_iff_not];rintro rfl;exact he rfl
theorem B8b{xs ys:List Int}{n:Nat}(hx:xs.length=n)(hy:ys.length=n)(h:xs.take n=ys.take n):decide (xs=ys)=true:=by
 rw[decide_eq_true_iff]
 rwa [List.take_of_length_le (by omega),List.take_of_length_le (by omega)] at h
theorem i9a(w:World)(B B':Nat)(A A':Option Addr)(n c n' c':Nat)(xs ys:List Int)(h:Holds w B A n c xs)(h':Holds w B' A' n' c' ys) :
  Calls Tryz.prog 27 #[.slice A n c,.slice A' n' c'] w λe w'=>e=.returned (.bool (decide (xs=ys)))/\∃k,w.drewN k=w':=by
 have hl:=h.len;have hl':=h'.len;have hf:=h.fit;have hr:=h.room;have hf':=h'.fit;have hr':=h'.room;by_cases hn:n=n'
 ·subst hn;have HL:=hI hl;have HL':=hI hl';clear hl hl';go_enter Tryz.func27,Tryz.ntmps27;go_wp2;go_loopw [5] (λi wr=>∃k:Nat,k<=n/\i=.int .i64 k/\Hid (xs.take k=ys.take k)/\∃j,wr=w.drewN j) (λi _=>n-(intOf i).toNat)
  case atStart=>exact⟨0,Nat.zero_le _,rfl,by simp[Hid],0,rfl⟩
  case round=>
   obtain⟨k,hk,rfl,HT,j,rfl⟩:=hrel;by_cases hlt:k<n
   ·obtain⟨b,off,rfl,hb,hc⟩:=h.cells (by omega);obtain⟨b',off',rfl,hb',hc'⟩:=h'.cells (by omega);have gc:=hc k hlt;have gc':=hc' k hlt;clear hc hc';obtain⟨x,hx⟩:∃x,x=xs.getD k 0:=⟨_,rfl⟩;obtain⟨y,hy⟩:∃y,y=ys.getD k 0:=⟨_,rfl⟩;rw[<-hx] at gc;rw[<-hy] at gc';have HX:=hI hx;have HY:=hI hy;clear hx hy;by_cases he:x=y
    ·have hS:Hid (xs.take (k+1)=ys.take (k+1)):=Y4b (by have:=HL.out;omega) (by have:=HL'.out;omega) HT.out (by rw[<-HX.out,<-HY.out,he]);clear HX HY HT;subst he;have hb0:(x != x)=false:=by simp
     go_wp2;go_quiet (fail);go_wp2;go_roundw
     case rel=>exact⟨k+1,by omega,by go_num,hS,_,rfl⟩
     case measure=>simp[intOf];omega
    ·have hS:=hI (A8b (xs:=xs) (ys:=ys) (k:=k) (by rw[<-HX.out,<-HY.out];exact he));clear HX HY HT;have hb0:(x != y)=true:=by simpa using he
     clear he;go_wp2;go_quiet (fail);go_wp2;go_ret;exact⟨a1a hS.out.symm,_,(World.drewN_drewN ..).symm⟩
   ·have hS:=hI (B8b (n:=n) HL.out HL'.out (by have:=HT.out;rwa [show k=n from by omega] at this));clear HT;go_wp2;go_ret;exact⟨a1a hS.out.symm,_,rfl⟩
 ·have e1:decide (xs=ys)=false:=by rw[decide_eq_false_iff_not];rintro rfl;omega
  have hne:((n:Int)==(n':Int))=false:=by simp;omega
  have hne':((n:Int) != (n':Int))=true:=by simp;omega
  rw[e1];clear e1 hl hl';go_enter Tryz.func27,Tryz.ntmps27;go_wp2;go_ret;exact⟨rfl,0,rfl⟩
set_option maxRecDepth 100000
section
variable {w w' w2:World} {g g' B:Nat} {T T':TypeId} {cs cs':List Value} {h h':Hd} {k:IntKind} {xs:List Int}
end
section
variable {P:Program} {ops:Array Oper} {rest:List Oper} {o:Oper} {a:Act} {w:World} {Q:Exit->Act->World->Prop}
theorem s0b(hg:o.guard=none)(t e:TypeId)(len:Nat)(parts:Array (Nat×Operand))(ho:o.op=.buildSlice t len parts)(hu:P.underlying t=some (.slice e))(cs:List Value)
(hf:P.builtSlice e len (parts.map fun (i,x)=>(i,a.eval x)).toList=some cs.toArray)
(h:∀g w',w.heap.size<=g->g<w'.heap.size->Hid (Blk w' g e cs)->Hid (Below w.heap.size w w')->wpList P ops Q rest (a.put o.dst (.slice (some ⟨g,0,none⟩) len len)) w'):wpList P ops Q (o::rest) a w:=_root_.Go.Great.wpList_buildSliceTo hg t e len parts ho w.heap.size rfl _ rfl hu cs.toArray hf (h _ _ (Nat.le_refl _) (by simp) (Blk.new w e cs) ((Below.refl _ _).alloc (Nat.le_refl _) _))
end
section
variable {α:Type} {f:α->Value} {S:Nat->Prop} {w w':World} {base base' g:Nat} {e e' T:TypeId} {cs:List Value} {v v' u:Value} {xs:List α} {β:Type} {h':β->Value} {ys:List β}
theorem t1a.unlike(h:t1a f e w base v xs)(k:t1a h' e' w base' u ys)(hne:e≠e'):∀i,v.ownBlock=some i->u.ownBlock≠some i:=λi hi hui=>by obtain⟨_,cs',hcs⟩:=h.block hi;obtain⟨_,cs2,hcs2⟩:=k.block hui;rw[hcs] at hcs2;simp only[Option.some.injEq,Obj.cells.injEq] at hcs2;exact hne hcs2.2.1
theorem t1a.offBlk(h:t1a f e w base v xs)(hB:Blk w g T cs)(hT:T≠e):v.ownBlock≠some g:=λhi=>by obtain⟨_,cs',hcs⟩:=h.block hi;rw[show w.heap[g]? = _ from hB] at hcs;simp only[Option.some.injEq,Obj.cells.injEq] at hcs;exact hT hcs.2.1
theorem t1a.cutTo{A:Option Addr}{n c m:Nat}(h:t1a f e w base (.slice A n c) xs)(hm:m<=n):t1a f e w base (.slice A m c) (xs.take m):=by
 rcases h.2 with⟨h1,h2⟩ | ⟨q,cap,cur,h1,hb,hg,hnc,hcm,hcs,htk⟩
 ·cases h1;obtain rfl:m=0:=by omega
  exact⟨by simp,.inl ⟨rfl,by simp⟩⟩
 ·have hl:xs.length=n:=by injection h1 with _ h3 _;exact h3.symm
  cases h1;have hml:(xs.take m).length=m:=by rw[List.length_take];omega
  refine⟨by simp,.inr ⟨q,c,cur,by rw[hml],hb,hg,by omega,hcm,hcs,?_⟩⟩;rw[hml,Nat.mul_one];rw[Nat.mul_one] at htk;have:=congrArg (List.take m) htk;rw[List.take_take,Nat.min_eq_left (by omega),<-List.map_take] at this;exact this
theorem g0a.of_grew(hg:i2b w w' v):g0a (λj=>v.ownBlock=some j) w w':=by obtain⟨o,hg⟩:=hg;exact⟨hg.os.trans (by rfl),hg.tape.trans (by rfl),hg.output.trans (by rfl),Nat.le_trans (by simp) hg.size,λj hj hs=>(hg.block j (by simp;omega) λh=>hs h.symm).trans (Below.heap_alloc _ _ _ hj)⟩
end
section
variable {α:Type} {f:α->Value} {P:Program} {w:World} {ops:Array Oper} {rest:List Oper} {o:Oper} {a:Act} {Q:Exit->Act->World->Prop}
theorem X5a(hg:o.guard=none)(T:TypeId)(x y:Operand)(ho:o.op=.store T x y)(q i n c base:Nat)(e:TypeId)(hx:a.eval x=.pointer (some ⟨q,i,none⟩))(f:α->Value)(xs:List α)(u:α)(hy:a.eval y=f u)
(hown:t1a f e w base (.slice (some ⟨q,0,none⟩) n c) xs)(hi:i<n)(hs:(P.info? T).map (·.size)=some 1)(h1:(f u).oneCell'=true)
(h:∀w',Hid (t1a f e w' base (.slice (some ⟨q,0,none⟩) n c) (xs.set i u))->Hid (S1a q w w')->wpList P ops Q rest a w')(hd:o.dst=none:=by rfl):wpList P ops Q (o::rest) a w:=by
 obtain⟨hb,hn,cur,hgg,hns,htk,hnc,hcm,hcs⟩:=hown.heap;have hB:Blk w q e cur.toList:=by unfold Blk;rw[hgg]
 have hp:a.put o.dst undef=a:=by rw[hd];rfl
 refine wpList_plain hg λK hK=>?_
 unfold Oper.wp execOp;simp only[ho,hx,hy,Instr.storeAt,Instr.sureAddr,Sem.run_bind,Sem.run_pure,Result.andThen_ok,J3a w q i e T cur.toList (f u) hB (by simp;omega) hs h1];show K (a.put o.dst undef) _
 rw[hp];exact hK _ _ (h _ (hown.set i u) (r3a w q i (f u)))
end
section
variable {w w':World} {base base' g:Nat} {vB vZ:Value} {B:List Int} {Z:List Bool} {S:Nat->Prop}
end
theorem s6b(w:World)(base g:Nat)(vB vZ:Value)(B:List Int)(Z:List Bool)(h:D6a w base g vB vZ B Z)(a k:Int)(ha:-9223372036854775808<=a/\a<=9223372036854775807)(hk:-9223372036854775808<=k/\k<=9223372036854775807) :
  Calls Tryz.prog 136 #[.pointer (some ⟨g,0,none⟩),.int .i64 a,.int .i64 k] w λe w'=>∃v,e=.returned (.tuple #[v,.int .i64 (G4a B.length a k)])/\Own w' w.heap.size v (d0b B a k)/\Below w.heap.size w w':=by
 obtain⟨A,c,rfl,hh⟩:=h.holds;have hsm:=h.small;have c0:w.cell? ⟨g,0,none⟩=some (.slice A B.length c):=h.blk.cell 0;have hE:G4a B.length a k=if a<0∨k<0 then 2 else if k=0 then 0 else if (B.length:Int)<=a then 22 else 0:=rfl
 have hO:d0b B a k=if G4a B.length a k=0 then (B.drop a.toNat).take k.toNat else []:=rfl
 obtain⟨a0,a1⟩:=ha;obtain⟨k0,k1⟩:=hk;obtain⟨n,hn⟩:∃n,n=B.length:=⟨_,rfl⟩;rw[<-hn] at hE hO c0 hh hsm;rw[hO,hn,<-hn];have HH:=hI hh;have HN:=hI hn;clear h hh hO hn;by_cases h1:a<0
 ·rw[if_pos (.inl h1)] at hE;rw[hE,if_neg (by decide)];clear hE;go_enter Tryz.func136,Tryz.ntmps136;go_wp2;go_ret2;exact⟨_,rfl,Own.nil _ _,Below.refl _ _⟩
 ·by_cases h2:k<0
  ·rw[if_pos (.inr h2)] at hE;rw[hE,if_neg (by decide)];clear hE;go_enter Tryz.func136,Tryz.ntmps136;go_wp2;go_ret2;exact⟨_,rfl,Own.nil _ _,Below.refl _ _⟩
  ·rw[if_neg (by omega)] at hE;by_cases h3:k=0
   ·subst h3;rw[if_pos rfl] at hE;rw[hE,if_pos rfl];clear hE;have hq:(B.drop a.toNat).take (0:Int).toNat=[]:=by simp
    rw[hq];go_enter Tryz.func136,Tryz.ntmps136;go_wp2;go_ret2;exact⟨_,rfl,Own.nil _ _,Below.refl _ _⟩
   ·rw[if_neg h3] at hE;have hk3:(k==0)=false:=by simpa using h3
    by_cases h4:(n:Int)<=a
    ·rw[if_pos h4] at hE;rw[hE,if_neg (by decide)];clear hE;go_enter Tryz.func136,Tryz.ntmps136;go_wp2;go_ret2;exact⟨_,rfl,Own.nil _ _,Below.refl _ _⟩
    ·rw[if_neg h4] at hE;rw[hE,if_pos rfl];clear hE;obtain⟨p,rfl⟩:=Int.eq_ofNat_of_zero_le (show 0<=a by omega);obtain⟨q,rfl⟩:=Int.eq_ofNat_of_zero_le (show 0<=k by omega);rw[Int.toNat_natCast,Int.toNat_natCast];obtain⟨b,off,rfl,hbb,C6a⟩:=HH.out.cells (by omega);have hfit:=HH.out.fit;obtain⟨m,hm⟩:∃m,m=min q (n-p):=⟨_,rfl⟩;obtain⟨r,hr⟩:∃r,r=n-p:=⟨_,rfl⟩;obtain⟨t,ht⟩:∃t,t=p+m:=⟨_,rfl⟩;have hsub:IntKind.i64.wrap ((n:Int)-(p:Int))=(r:Int):=by rw[IntKind.wrap_i64];omega
     have hmin:min (q:Int) (r:Int)=(m:Int):=by omega
     have hadd:IntKind.i64.wrap ((p:Int)+(m:Int))=(t:Int):=by rw[IntKind.wrap_i64];omega
     have hpt:p<=t:=by omega
     have htc:t<=c:=by omega
     have htm:t-p=m:=by omega
     have hcp:¬c=p:=by omega
     have hm0:0<m:=by omega
     have hmn:p+m<=n:=by omega
     have hXH:Hid (∀w2,Below w.heap.size w w2->Holds w2 w.heap.size (some ⟨b,off+p,none⟩) m (c-p) ((B.drop p).take q)):=λw2 hb=>by
      have h1:=(HH.out.amidE (p:=p) (N:=m) hmn hm0 (c-p) (by omega)).below hb;have e:(B.drop p).take m=(B.drop p).take q:=by
       rw[hm];by_cases hq:q<=n-p
       ·rw[Nat.min_eq_left hq]
       ·rw[Nat.min_eq_right (by omega),List.take_of_length_le (by rw[List.length_drop];have:=HN.out;omega),List.take_of_length_le (by rw[List.length_drop];have:=HN.out;omega)]
      rwa [e] at h1
     have hXL:Hid (((B.drop p).take q).length<=140737488355328):=by show _<=_;rw[List.length_take,List.length_drop];have:=HN.out;omega
     obtain⟨X,hX⟩:∃X,X=(B.drop p).take q:=⟨_,rfl⟩;rw[<-hX] at hXH hXL⊢;clear C6a hm hX hr ht;go_enter Tryz.func136,Tryz.ntmps136;go_wp2_with fail;go_still_tail 18,(by kernel_rfl);change wpList _ _ _ _ _ w.drew
     have hd:Hid (Below w.heap.size w w.drew):=(Below.refl _ _).drew;have hds:w.drew.heap.size=w.heap.size:=rfl;have HXd:=hI (hXH.out w.drew hd.out);go_wp2_with(first
      | (at_builtin;refine h5a rfl (.tmp 24) (.tmp 41) rfl w.heap.size (.slice none 0 0) [] rfl (Own.nil _ _) w.heap.size (some ⟨b,off+p,none⟩) m (c-p) X rfl HXd.out (by simpa using hXL.out) (Nat.le_of_eq hds.symm) ?_;intro v1 w1 o1 b1 g1;rw[List.nil_append] at o1)
      | fail)
     go_ret2;exact⟨_,rfl,o1.out,hd.out.trans b1⟩
theorem N2b{α:Type}{z:α}{l:List α}{k:Nat}(h:l.length<=k):y1a z l k++[z]=y1a z l (k+1):=by unfold y1a;rw[List.take_of_length_le h,List.take_of_length_le (by omega),List.append_assoc,<-List.replicate_succ',show k+1-l.length=k-l.length+1 by omega]
theorem O2b{α:Type}{z:α}{l:List α}{k:Nat}(h:k<=l.length):y1a z l k=l.take k:=by unfold y1a;rw[show k-l.length=0 by omega,List.replicate_zero,List.append_nil]
def x1b(w:World)(g i:Nat):Nat:=match w.cell? ⟨g,i,none⟩ with | some (.slice _ n _)=>n | _=>0
theorem P2b{w:World}{g i n c:Nat}{A:Option Addr}(h:w.cell? ⟨g,i,none⟩=some (.slice A n c)):x1b w g i=n:=by unfold x1b;rw[h]
theorem Q2b:(Tryz.prog.info? 102).map (·.size)=some 1:=by kernel_rfl
theorem R2b:(Tryz.prog.info? 51).map (·.size)=some 1:=by kernel_rfl
theorem Z4b:(Tryz.prog.info? 4).map (λi=>(i.zero,i.size,i.bytes))=some (some (.bool false),1,1):=by kernel_rfl
theorem P7a{α:Type}{z:α}{l:List α}{s:Nat}(h:s<=65536):T1a z l (s:Int)=y1a z l s/\C2a (s:Int)=0:=by
 have e:C2a (s:Int)=0:=by unfold C2a;rw[if_neg (by omega),if_neg (by omega)]
 exact⟨by unfold T1a;rw[if_pos e,Int.toNat_natCast],e⟩
theorem j9a{α:Type}{z:α}{l:List α}{s:Int}(h:C2a s≠0):T1a z l s=l:=by unfold T1a;rw[if_neg h]
theorem S2b(w:World)(base g:Nat)(vB vZ:Value)(B:List Int)(Z:List Bool)(h:D6a w base g vB vZ B Z)(s:Int)(hs:-9223372036854775808<=s/\s<=9223372036854775807)(hbase:base<=w.heap.size) :
  Calls Tryz.prog 135 #[.pointer (some ⟨g,0,none⟩),.int .i64 s] w λe w'=>e=.returned (.int .i64 (C2a s))/\∃vB' vZ',D6a w' base g vB' vZ' (T1a 0 B s) (T1a false Z s)/\g0a (rdS g vB vZ) w w'/\Z0a w vB vB'/\Z0a w vZ vZ':=by
 obtain⟨s0,s1⟩:=hs;by_cases h1:s<0
 ·have hE:C2a s=2:=by unfold C2a;rw[if_pos h1]
  rw[j9a (by rw[hE];decide),j9a (by rw[hE];decide),hE];go_enter Tryz.func135,Tryz.ntmps135;go_wp2;go_ret;exact⟨rfl,vB,vZ,h,g0a.refl _ _,Z0a.refl _ _,Z0a.refl _ _⟩
 ·by_cases h2:65536<s
  ·have hE:C2a s=3:=by unfold C2a;rw[if_neg h1,if_pos h2]
   rw[j9a (by rw[hE];decide),j9a (by rw[hE];decide),hE];go_enter Tryz.func135,Tryz.ntmps135;go_wp2;go_ret;exact⟨rfl,vB,vZ,h,g0a.refl _ _,Z0a.refl _ _,Z0a.refl _ _⟩
  ·obtain⟨t,rfl⟩:=Int.eq_ofNat_of_zero_le (show 0<=s by omega);have ht:t<=65536:=by omega
   rw[(P7a (z:=(0:Int)) (l:=B) ht).2,(P7a ht).1,(P7a ht).1];obtain⟨AB,n,cB,rfl,hBl,hBf,_,_,_⟩:=h.rowB.open;obtain⟨AZ,nZ,cZ,rfl,hZl,hZf,_,_,_⟩:=h.rowZ.open;obtain rfl:n=nZ:=by have:=h.len;omega
   obtain⟨m,hm⟩:∃m,m=min n t:=⟨_,rfl⟩;have hmin:min (n:Int) (t:Int)=(m:Int):=by omega
   have hmn:m<=n:=by omega
   have hmt:m<=t:=by omega
   have hmB:m<=cB:=by omega
   have hmZ:m<=cZ:=by omega
   have c0:w.cell? ⟨g,0,none⟩=some (.slice AB n cB):=h.blk.cell 0;have c1:w.cell? ⟨g,1,none⟩=some (.slice AZ n cZ):=h.blk.cell 1;have hgb:=h.ge;have HR:=hI h;have HBL:=hI hBl;have HZL:=hI hZl;have HM:Hid (m<t->n<=m):=by show _->_;omega
   have hnsm:n<=65536:=by have:=h.small;omega
   clear h hBl hZl hm;go_enter Tryz.func135,Tryz.ntmps135;go_wp2_with fail;go_still_tail 15,(by kernel_rfl);change wpList _ _ _ _ _ w.drew
   have B0:=HR.out.blk;go_wp2_with(first
    | ((with_reducible refine sT 23 ?_);refine q0a rfl _ (.tmp 23) (.tmp 21) rfl g 0 rfl _ [.slice AB n cB,.slice AZ n cZ] (.slice AB m cB) rfl (show Hid (Blk w.drew g _ _) from B0) (by decide:0<2) R2b rfl ?_;intro w1 X1 O1 hg1)
    | fail)
   have X1':Hid (Blk w1 g 104 [.slice AB m cB,.slice AZ n cZ]):=X1;have k0:w1.cell? ⟨g,0,none⟩=some (.slice AB m cB):=X1'.out.cell 0;have k1:w1.cell? ⟨g,1,none⟩=some (.slice AZ n cZ):=X1'.out.cell 1;have fB:=HR.out.rowB.offBlk HR.out.blk (by decide);have fZ:=HR.out.rowZ.offBlk HR.out.blk (by decide);have O1':S1a g w w1:=⟨O1.out.os,O1.out.tape,O1.out.output,O1.out.size,O1.out.rest⟩;have RB1:=hI (HR.out.rowB.sparS (g0a.of_only O1') (λi hi hj=>fB (by rw[hi,hj])));have RZ1:=hI (HR.out.rowZ.sparS (g0a.of_only O1') (λi hi hj=>fZ (by rw[hi,hj])));have S1:=hI (g0a.of_only O1');clear X1 O1 c0 c1;go_still_tail 13,(by kernel_rfl);change wpList _ _ _ _ _ w1.drew
   go_wp2_with(first
    | ((with_reducible refine sT 36 ?_);refine q0a rfl _ (.tmp 36) (.tmp 34) rfl g 1 rfl _ [.slice AB m cB,.slice AZ n cZ] (.slice AZ m cZ) rfl (show Hid (Blk w1.drew g _ _) from X1'.out) (by decide:1<2) Q2b rfl ?_;intro w2 X2 O2 hg2)
    | fail)
   have X2':Hid (Blk w2 g 104 [.slice AB m cB,.slice AZ m cZ]):=X2;have O2':S1a g w1 w2:=⟨O2.out.os,O2.out.tape,O2.out.output,O2.out.size,O2.out.rest⟩;have RB2:=hI ((RB1.out.sparS (g0a.of_only O2') (λi hi hj=>fB (by rw[hi,hj]))).cutTo hmn);have RZ2:=hI ((RZ1.out.sparS (g0a.of_only O2') (λi hi hj=>fZ (by rw[hi,hj]))).cutTo hmn);have S2:Hid (g0a (rdS g (.slice AB n cB) (.slice AZ n cZ)) w w2):=(S1.out.trans (g0a.of_only O2') (λ_ _ h=>h)).mono (λj _ h=>.inl h);have W2B:Hid (Z0a w (.slice AB n cB) (.slice AB m cB)):=Z0a.cut w;have W2Z:Hid (Z0a w (.slice AZ n cZ) (.slice AZ m cZ)):=Z0a.cut w;have hs2:base<=w2.heap.size:=by have:=S2.out.size;omega
   clear X1' O1' RB1 RZ1 S1 X2 O2 O2' k0 k1;go_loopw [41] (λ_ wr=>∃(m' cB' cZ':Nat) (AB' AZ':Option Addr),m'<=t/\base<=wr.heap.size/\Hid (m'<t->n<=m')/\Hid (Blk wr g 104 [.slice AB' m' cB',.slice AZ' m' cZ'])/\Hid (t1a (Value.int .u8) 5 wr base (.slice AB' m' cB') (y1a 0 B m'))/\Hid (t1a Value.bool 4 wr base (.slice AZ' m' cZ') (y1a false Z m'))/\Hid (g0a (rdS g (.slice AB n cB) (.slice AZ n cZ)) w wr)/\Hid (Z0a w (.slice AB n cB) (.slice AB' m' cB'))/\Hid (Z0a w (.slice AZ n cZ) (.slice AZ' m' cZ'))) (λ_ wr=>t-x1b wr g 0)
   case atStart=>exact⟨m,cB,cZ,AB,AZ,hmt,hs2,HM,X2',by rw[O2b (by rw[HBL.out];exact hmn)];exact RB2,by rw[O2b (by rw[HZL.out];exact hmn)];exact RZ2,S2,W2B,W2Z⟩
   case round=>
    clear RB2 RZ2 S2 W2B W2Z X2' HM hs2 hmin hmn hmt hmB hmZ;obtain⟨m',cB',cZ',AB',AZ',hmt,hbs,HM,X2,RB2,RZ2,S2,W2B,W2Z⟩:=hrel;have k0:wr.cell? ⟨g,0,none⟩=some (.slice AB' m' cB'):=X2.out.cell 0;have k1:wr.cell? ⟨g,1,none⟩=some (.slice AZ' m' cZ'):=X2.out.cell 1;by_cases hlt:m'<t
    ·have hnm:=HM.out hlt;have fB2:=hI (RB2.out.offBlk X2.out (by decide));have fZ2:=hI (RZ2.out.offBlk X2.out (by decide));have uZB:=hI (RZ2.out.unlike RB2.out (by decide));have HLB:Hid (((y1a 0 B m').length+1)*1<=140737488355328/\(y1a 0 B m').length+1<=9223372036854775807):=by show _/\_;rw[h1a];omega
     have HLZ:Hid (((y1a false Z m').length+1)*1<=140737488355328/\(y1a false Z m').length+1<=9223372036854775807):=by show _/\_;rw[h1a];omega
     have HPB:Hid (y1a 0 B m'++[0]=y1a 0 B (m'+1)):=N2b (by rw[HBL.out];exact hnm);have HPZ:Hid (y1a false Z m'++[false]=y1a false Z (m'+1)):=N2b (by rw[HZL.out];exact hnm);clear hnm;go_wp2_with(first
      | (at_builtin;refine g1a rfl (.tmp 48) (.tmp 49) (Value.int .u8) (λ_=>rfl) (.int .u8 0) rfl 51 5 1 Tryz.underlying51 U4a rfl base (.slice AB' m' cB') (y1a 0 B m') [0] _ rfl 1 1 rfl rfl rfl RB2.out HLB.out.1 HLB.out.2 hbs ?_;intro v3 w3 o3 g3 n3;rw[HPB.out] at o3;have B3:=hI (X2.out.spare (g0a.of_grew g3.out) fB2.out);have RZ3:=hI (RZ2.out.sparS (g0a.of_grew g3.out) uZB.out);have s3:=hI (g0a.of_grew g3.out);obtain⟨A3,m3,c3,rfl,hl3,_⟩:=o3.out.open;rw[h1a] at hl3;obtain rfl:m3=m'+1:=hl3.symm;have f3:=hI (o3.out.offBlk B3.out (by decide));have fZ3:=hI (RZ3.out.offBlk B3.out (by decide));have uZ3:=hI (RZ3.out.unlike o3.out (by decide));have uB3:=hI (o3.out.unlike RZ3.out (by decide)))
      | ((with_reducible refine sT 52 ?_);refine q0a rfl _ (.tmp 52) (.tmp 50) rfl g 0 rfl _ [.slice AB' m' cB',.slice AZ' m' cZ'] (.slice A3 (m'+1) c3) rfl B3 (by decide:0<2) R2b rfl ?_;intro w4 X4 O4 hg4;have X4':Hid (Blk w4 g 104 [.slice A3 (m'+1) c3,.slice AZ' m' cZ']):=X4;have k4:w4.cell? ⟨g,1,none⟩=some (.slice AZ' m' cZ'):=X4'.out.cell 1;have RB4:=hI (o3.out.sparS (g0a.of_only O4.out) (λi hi hj=>f3.out (by rw[hi,hj])));have RZ4:=hI (RZ3.out.sparS (g0a.of_only O4.out) (λi hi hj=>fZ3.out (by rw[hi,hj])));have s4:=hI ((s3.out.mono (S':=λj=>j=g∨(Value.slice AB' m' cB').ownBlock=some j) (λ_ _ h=>.inr h)).trans (g0a.of_only O4.out) (λ_ _ h=>.inl h));have hb4:base<=w4.heap.size:=(by have:=s4.out.size;omega);have f4:=hI (RB4.out.offBlk X4'.out (by decide));have fZ4:=hI (RZ4.out.offBlk X4'.out (by decide));have uB4:=hI (RB4.out.unlike RZ4.out (by decide)))
      | (at_builtin;refine g1a rfl (.tmp 57) (.tmp 58) Value.bool (λ_=>rfl) (.bool false) rfl 102 4 1 Tryz.underlying102 Z4b rfl base (.slice AZ' m' cZ') (y1a false Z m') [false] _ rfl 1 1 rfl rfl rfl RZ4.out HLZ.out.1 HLZ.out.2 hb4 ?_;intro v5 w5 o5 g5 n5;rw[HPZ.out] at o5;have X5:=hI (X4'.out.spare (g0a.of_grew g5.out) fZ4.out);have RB5:=hI (RB4.out.sparS (g0a.of_grew g5.out) uB4.out);have s5:=hI (g0a.of_grew g5.out);obtain⟨A5,m5,c5,rfl,hl5,_⟩:=o5.out.open;rw[h1a] at hl5;obtain rfl:m5=m'+1:=hl5.symm;have f5:=hI (RB5.out.offBlk X5.out (by decide));have fZ5:=hI (o5.out.offBlk X5.out (by decide)))
      | ((with_reducible refine sT 61 ?_);refine q0a rfl _ (.tmp 61) (.tmp 59) rfl g 1 rfl _ [.slice A3 (m'+1) c3,.slice AZ' m' cZ'] (.slice A5 (m'+1) c5) rfl X5 (by decide:1<2) Q2b rfl ?_;intro w6 X6 O6 hg6)
      | fail)
     have X6':Hid (Blk w6 g 104 [.slice A3 (m'+1) c3,.slice A5 (m'+1) c5]):=X6;have RB6:=hI (RB5.out.sparS (g0a.of_only O6.out) (λi hi hj=>f5.out (by rw[hi,hj])));have RZ6:=hI (o5.out.sparS (g0a.of_only O6.out) (λi hi hj=>fZ5.out (by rw[hi,hj])));have sr:Hid (g0a (λj=>j=g∨(Value.slice AB' m' cB').ownBlock=some j∨(Value.slice AZ' m' cZ').ownBlock=some j) wr w6):=((((s4.out.mono (λj _ h=>h.elim .inl λh=>.inr (.inl h))).trans s5.out (λj _ h=>.inr (.inr h))).trans (g0a.of_only O6.out) (λj _ h=>.inl h)))
     have S6:Hid (g0a (rdS g (.slice AB n cB) (.slice AZ n cZ)) w w6):=S2.out.trans sr.out (λj hj h=>by
      rcases h with h | h | h
      ·exact .inl h
      ·rcases W2B.out j h with h | h
       ·exact .inr (.inl h)
       ·omega
      ·rcases W2Z.out j h with h | h
       ·exact .inr (.inr h)
       ·omega)
     have hws:=S2.out.size;have hs4:=s3.out.size;have W6B:Hid (Z0a w (.slice AB n cB) (.slice A3 (m'+1) c3)):=W2B.out.trans (Z0a.of_whither n3.out) hws;have W6Z:Hid (Z0a w (.slice AZ n cZ) (.slice A5 (m'+1) c5)):=W2Z.out.trans (Z0a.of_whither n5.out) (by have:=s4.out.size;omega);have hb6:base<=w6.heap.size:=by have:=sr.out.size;omega
     have HM6:Hid (m'+1<t->n<=m'+1):=λ_=>by have:=HM.out hlt;omega
     have k6:x1b w6 g 0=m'+1:=P2b (X6'.out.cell 0);have kr:x1b wr g 0=m':=P2b k0;go_roundw
     case rel=>exact⟨m'+1,c3,c5,A3,A5,hlt,hb6,HM6,X6',RB6,RZ6,S6,W6B,W6Z⟩
     case measure=>rw[k6,kr];omega
    ·obtain rfl:m'=t:=by omega
     have HD:D6a wr base g (.slice AB' m' cB') (.slice AZ' m' cZ') (y1a 0 B m') (y1a false Z m'):=⟨hgb,X2.out,RB2.out,RZ2.out,by rw[h1a,h1a],by rw[h1a];exact ht,l6a HR.out.byte _⟩
     have HD':=hI HD;clear HD;go_wp2_with fail;go_ret;exact⟨rfl,_,_,HD'.out,S2.out,W2B.out,W2Z.out⟩
def d4a{α:Type}(l:List α)(p:Nat)(ys:List α)(k:Nat):List α:=l.take p++(ys.take k++l.drop (p+k))
theorem y1b{α:Type}(l:List α)(p:Nat)(ys:List α):d4a l p ys 0=l:=by simp[d4a]
theorem T2b{α:Type}{l ys:List α}{p k:Nat}(h:p+ys.length<=l.length)(hk:k<ys.length)(u:α)(hu:ys[k]? = some u):(d4a l p ys k).set (p+k) u=d4a l p ys (k+1):=by
 unfold d4a;have h1:(l.take p).length=p:=by rw[List.length_take];omega
 have h2:(ys.take k).length=k:=by rw[List.length_take];omega
 have h3:l.drop (p+k)=l[p+k]'(by omega)::l.drop (p+k+1):=List.drop_eq_getElem_cons (by omega);obtain⟨_,hu⟩:=List.getElem?_eq_some_iff.1 hu;rw[List.set_append_right _ _ (by omega),h1,Nat.add_sub_cancel_left,List.set_append_right _ _ (by omega),h2,Nat.sub_self,h3,List.set_cons_zero,List.take_succ_eq_append_getElem hk,hu,List.append_assoc,<-Nat.add_assoc];rfl
theorem f1c{α:Type}{z:α}{l:List α}{t:Nat}:(y1a z l (max l.length t)).drop t=l.drop t:=by
 by_cases h:t<=l.length
 ·rw[Nat.max_eq_left h,y7a]
 ·rw[Nat.max_eq_right (by omega),List.drop_of_length_le (by rw[h1a];exact Nat.le_refl _),List.drop_of_length_le (by omega)]
theorem z1b{α:Type}{z:α}{l ys:List α}{p:Nat}:d4a (y1a z l (max l.length (p+ys.length))) p ys ys.length=N3a z l p ys:=by unfold d4a N3a;rw[List.take_length,f1c,List.append_assoc]
theorem M7b{α:Type}{z:α}{l ys:List α}{a:Int}(h:q3a a ys.length≠0∨ys=[]):Y3a z l a ys=l:=by
 unfold Y3a;rw[if_neg];rintro⟨h1,h2⟩;rcases h with h | h
 ·exact h h1
 ·exact h2 h
theorem g1c{α:Type}{z:α}{l ys:List α}{p:Nat}(h0:0<ys.length)(h:p+ys.length<=65536):Y3a z l (p:Int) ys=N3a z l p ys/\q3a (p:Int) ys.length=0:=by
 have e:q3a (p:Int) ys.length=0:=by unfold q3a;rw[if_neg (by omega),if_neg (by omega),if_neg (by omega)]
 unfold Y3a;rw[if_pos ⟨e,List.length_pos_iff.1 h0⟩,Int.toNat_natCast];exact⟨rfl,e⟩
def P9a(w:World)(base g:Nat)(vB vZ:Value)(B:List Int)(Z:List Bool)(a:Int)(xs:List Int)(e:Ending)(w':World):Prop:=e=.returned (.int .i64 (q3a a xs.length))/\∃vB' vZ',D6a w' base g vB' vZ' (Y3a 0 B a xs) (Y3a false Z a (List.replicate xs.length true))/\g0a (rdS g vB vZ) w w'/\Z0a w vB vB'/\Z0a w vZ vZ'
theorem a5b(w:World)(base g:Nat)(vB vZ:Value)(B:List Int)(Z:List Bool)(h:D6a w base g vB vZ B Z)(a:Int)(ha:-9223372036854775808<=a/\a<=9223372036854775807)(hbase:base<=w.heap.size)
(A:Option Addr)(n c:Nat)(xs:List Int)(hx:Holds w base A n c xs) :
  Calls Tryz.prog 134 #[.pointer (some ⟨g,0,none⟩),.int .i64 a,.slice A n c] w (P9a w base g vB vZ B Z a xs):=by
 obtain⟨a0,a1⟩:=ha;have hxl:=hx.len;have hxr:=hx.room;have HQ0:Hid (∀E e w',q3a a n=E->(E≠0∨n=0)->e=.returned (.int .i64 E)->w=w'->P9a w base g vB vZ B Z a xs e w'):=by intro E e w' h1 h2 h3 h4;unfold P9a;subst h4;have e1:Y3a 0 B a xs=B:=M7b (by rw[hxl,h1];exact h2.elim .inl λh2=>.inr (List.eq_nil_of_length_eq_zero (by omega)));have e2:Y3a false Z a (List.replicate xs.length true)=Z:=M7b (by rw[List.length_replicate,hxl,h1];exact h2.elim .inl λh2=>.inr (by rw[h2];rfl));rw[e1,e2,hxl,h1];exact⟨h3,vB,vZ,h,g0a.refl _ _,Z0a.refl _ _,Z0a.refl _ _⟩
 by_cases h1:a<0
 ·have hE:q3a a n=2:=by unfold q3a;rw[if_pos h1]
  have HQ1:=hI (λe w'=>HQ0.out 2 e w' hE (.inl (by decide)));clear hE HQ0 h hx hxl;go_enter Tryz.func134,Tryz.ntmps134;go_wp2;go_ret;exact HQ1.out _ _ rfl rfl
 ·by_cases h2:n=0
  ·subst h2;have hE:q3a a 0=0:=by unfold q3a;rw[if_neg h1,if_pos rfl]
   have HQ1:=hI (λe w'=>HQ0.out 0 e w' hE (.inr rfl));clear hE HQ0 h hx hxl;go_enter Tryz.func134,Tryz.ntmps134;go_wp2;go_ret;exact HQ1.out _ _ rfl rfl
  ·have hn0:((n:Int)==0)=false:=by simpa using h2
   by_cases h3:65536<a+n
   ·have hE:q3a a n=3:=by unfold q3a;rw[if_neg h1,if_neg h2,if_pos h3]
    have HQ1:=hI (λe w'=>HQ0.out 3 e w' hE (.inl (by decide)));clear hE HQ0 h hx hxl;by_cases h4:65536<a
    ·go_enter Tryz.func134,Tryz.ntmps134;go_wp2;go_ret;exact HQ1.out _ _ rfl rfl
    ·go_enter Tryz.func134,Tryz.ntmps134;go_wp2;go_ret;exact HQ1.out _ _ rfl rfl
   ·obtain⟨p,rfl⟩:=Int.eq_ofNat_of_zero_le (show 0<=a by omega);obtain⟨t,ht⟩:∃t,t=p+n:=⟨_,rfl⟩;have hn6:n<=65536:=by omega
    have hp6:decide ((65536:Int)<(p:Int))=false:=by rw[decide_eq_false_iff_not];omega
    have ht6:t<=65536:=by omega
    have hpt:p<t:=by omega
    have HQ1:Hid (∀e w' vB' vZ',e=.returned (.int .i64 0)->D6a w' base g vB' vZ' (N3a 0 B p xs) (N3a false Z p (List.replicate n true))->g0a (rdS g vB vZ) w w'->Z0a w vB vB'->Z0a w vZ vZ'->P9a w base g vB vZ B Z (p:Int) xs e w'):=by intro e w' vB' vZ' h1 h2 h3 h4 h5;unfold P9a;have e1:=g1c (z:=(0:Int)) (l:=B) (ys:=xs) (p:=p) (by omega) (by omega);have e2:=g1c (z:=false) (l:=Z) (ys:=List.replicate n true) (p:=p) (by rw[List.length_replicate];omega) (by rw[List.length_replicate];omega);rw[e1.1,e1.2,hxl,e2.1];exact⟨h1,vB',vZ',h2,h3,h4,h5⟩
    obtain⟨AB,nB,cB,rfl,hBl,hBf,_,_,_⟩:=h.rowB.open;have c0:w.cell? ⟨g,0,none⟩=some (.slice AB nB cB):=h.blk.cell 0;have cc:=S2b w base g (.slice AB nB cB) vZ B Z h (t:Int) (by omega) hbase;rw[(P7a (z:=(0:Int)) (l:=B) ht6).2,(P7a ht6).1,(P7a ht6).1,show((t:Nat):Int)=(p:Int)+(n:Int) by omega] at cc;have CC:=hI cc;have HR:=hI h;have HX:=hI hx;have HXL:=hI hxl;have HBL:=hI hBl;have HZL:=hI h.len;have hgb:=h.ge;have HMB:Hid (nB<t->y1a (0:Int) B (max B.length t)=y1a 0 B t/\y1a false Z (max Z.length t)=y1a false Z t):=λhh=>by have h1:=h.len;rw[Nat.max_eq_right (by omega),Nat.max_eq_right (by omega)];exact⟨rfl,rfl⟩
    have HMC:Hid (¬nB<t->y1a (0:Int) B (max B.length t)=B/\y1a false Z (max Z.length t)=Z):=λhh=>by have h1:=h.len;rw[Nat.max_eq_left (by omega),Nat.max_eq_left (by omega),y7a,y7a];exact⟨rfl,rfl⟩
    clear h hx hxl hBl HQ0 cc;go_enter Tryz.func134,Tryz.ntmps134;go_upto_if 31 with fail
    go_cut [32] (λ_ wx=>∃vB1 vZ1,Hid (D6a wx base g vB1 vZ1 (y1a 0 B (max B.length t)) (y1a false Z (max Z.length t)))/\Hid (g0a (rdS g (.slice AB nB cB) vZ) w wx)/\Hid (Z0a w (.slice AB nB cB) vB1)/\Hid (Z0a w vZ vZ1))
    case first=>
     by_cases hlt:nB<t
     ·have hlt':(nB:Int)<(p:Int)+(n:Int):=by omega
      go_wp2_with fail;refine CC.out.mono ?_;rintro e w1 ⟨rfl,vB1,vZ1,r1,s1,n1,m1⟩;obtain⟨e1,e2⟩:=HMB.out hlt;have R1:Hid (D6a w1 base g vB1 vZ1 (y1a 0 B (max B.length t)) (y1a false Z (max Z.length t))):=by rw[e1,e2];exact r1
      have S1:=hI s1;have N1:=hI n1;have M1:=hI m1;clear e1 e2 r1 s1 n1 m1;go_wp2_with fail;go_meet;exact⟨vB1,vZ1,R1,S1,N1,M1⟩
     ·have hlt':¬(nB:Int)<(p:Int)+(n:Int):=by omega
      obtain⟨e1,e2⟩:=HMC.out hlt;have R1:Hid (D6a w base g (.slice AB nB cB) vZ (y1a 0 B (max B.length t)) (y1a false Z (max Z.length t))):=by rw[e1,e2];exact HR
      clear e1 e2;go_wp2_with fail;go_meet;exact⟨_,_,R1,g0a.refl _ _,Z0a.refl _ _,Z0a.refl _ _⟩
    case rest=>
     obtain⟨vB1,vZ1,R1,S1,N1,M1⟩:=hcut;clear HMB HMC CC c0;go_wp2_with fail;have hl1:(y1a (0:Int) B (max B.length t)).length=max B.length t:=h1a;have hl2:(y1a false Z (max Z.length t)).length=max Z.length t:=h1a;have hf1:d4a (y1a (0:Int) B (max B.length (p+xs.length))) p xs xs.length=N3a 0 B p xs:=z1b;have hf2:d4a (y1a false Z (max Z.length (p+(List.replicate n true).length))) p (List.replicate n true) (List.replicate n true).length=N3a false Z p (List.replicate n true):=z1b;rw[HXL.out,<-ht] at hf1;rw[List.length_replicate,<-ht] at hf2;have hZB:=HZL.out;obtain⟨N,hN⟩:∃N,N=max B.length t:=⟨_,rfl⟩;rw[<-hZB,<-hN] at hf2 hl2;rw[<-hN] at hf1 hl1;have r1:=R1.out;rw[<-hZB,<-hN] at r1;obtain⟨B1,hB1⟩:∃X,X=y1a (0:Int) B N:=⟨_,rfl⟩;obtain⟨Z1,hZ1⟩:∃X,X=y1a false Z N:=⟨_,rfl⟩;rw[<-hB1] at hf1 hl1 r1;rw[<-hZ1] at hf2 hl2 r1;have htN:t<=N:=by omega
     obtain⟨AB1,n2,cB1,rfl,hBl1,hBf1,_,_,hBc⟩:=r1.rowB.open;obtain⟨AZ1,n3,cZ1,rfl,hZl1,hZf1,_,_,hZc⟩:=r1.rowZ.open;obtain rfl:N=n2:=by omega
     obtain rfl:N=n3:=by omega
     obtain⟨qb,rfl,_,_,_⟩:=hBc (by omega);obtain⟨qz,rfl,_,_,_⟩:=hZc (by omega);obtain⟨b,off,rfl,hbb,hxc⟩:=HX.out.cells (by omega);have HF1:=hI hf1;have HF2:=hI hf2;have HR1:=hI r1;have HBL1:=hI hl1;have HZL1:=hI hl2;have HXC:=hI hxc;have HGE:=hI HR.out.set_ge;have HRB:=hI r1.rowB;have HRZ:=hI r1.rowZ;have HRX:Hid (Blk wc g 104 [.slice (some ⟨qb,0,none⟩) N cB1,.slice (some ⟨qz,0,none⟩) N cZ1]):=r1.blk;have hqb:qb≠g:=λh=>r1.rowB.offBlk r1.blk (by decide) (by rw[h];rfl)
     have hqz:qz≠g:=λh=>r1.rowZ.offBlk r1.blk (by decide) (by rw[h];rfl)
     have hqq:qz≠qb:=λh=>r1.rowZ.unlike r1.rowB (by decide) qz rfl (by rw[h];rfl)
     have hbz:base<=qb/\base<=qz:=⟨(r1.rowB.block rfl).1,(r1.rowZ.block rfl).1⟩;have hlen:Hid (Bytes B1):=r1.byte;have hNs:N<=65536:=by have:=r1.small;omega
     clear hf1 hf2 r1 hl1 hl2 hBc hZc hxc hBl1 hZl1 hB1 hZ1 hN hZB R1;go_loopw [7] (λi wr=>∃k:Nat,k<=n/\i=.int .i64 k/\Hid (t1a (Value.int .u8) 5 wr base (.slice (some ⟨qb,0,none⟩) N cB1) (d4a B1 p xs k))/\Hid (t1a Value.bool 4 wr base (.slice (some ⟨qz,0,none⟩) N cZ1) (d4a Z1 p (List.replicate n true) k))/\Hid (Blk wr g 104 [.slice (some ⟨qb,0,none⟩) N cB1,.slice (some ⟨qz,0,none⟩) N cZ1])/\Hid (g0a (rdS g (.slice AB nB cB) vZ) w wr)) (λi _=>n-(intOf i).toNat)
     case atStart=>exact⟨0,Nat.zero_le _,rfl,by rw[y1b];exact HRB,by rw[y1b];exact HRZ,HRX,S1⟩
     case round=>
      clear HRB HRZ HRX S1;obtain⟨k,hk,rfl,HRB,HRZ,HRX,S1⟩:=hrel;by_cases hlt:k<n
      ·have hbw:=S1.out.below HGE.out hbase;have hcx:=hbw.cell (p:=⟨b,off+k,none⟩) hbb;rw[HXC.out k hlt] at hcx;have k0:wr.cell? ⟨g,0,none⟩=some (.slice (some ⟨qb,0,none⟩) N cB1):=HRX.out.cell 0;have hxk:xs[k]? = some (xs.getD k 0):=by rw[List.getD_eq_getElem?_getD,List.getElem?_eq_getElem (show k<xs.length by rw[HXL.out];exact hlt)];rfl
       have hxk2:(List.replicate n true)[k]? = some true:=by rw[List.getElem?_replicate,if_pos hlt]
       obtain⟨x,hx⟩:∃x,x=xs.getD k 0:=⟨_,rfl⟩;rw[<-hx] at hcx hxk;obtain⟨s,hs⟩:∃s,s=p+k:=⟨_,rfl⟩;have hw:IntKind.i64.wrap ((p:Int)+(k:Int))=(s:Int):=by rw[IntKind.wrap_i64];omega
       have hsN:s<N:=by omega
       have e1:(d4a B1 p xs k).set s x=d4a B1 p xs (k+1):=by rw[hs];exact T2b (by rw[HXL.out,HBL1.out];omega) (by rw[HXL.out];exact hlt) x hxk
       have e2:(d4a Z1 p (List.replicate n true) k).set s true=d4a Z1 p (List.replicate n true) (k+1):=by rw[hs];exact T2b (by rw[List.length_replicate,HZL1.out];omega) (by rw[List.length_replicate];exact hlt) true hxk2
       have E1:=hI e1;have E2:=hI e2;clear hbw hx hxk hxk2 e1 e2 hs ht;go_wp2_with fail;go_still_tail 12,(by kernel_rfl);change wpList _ _ _ _ _ wr.drew
       have D1:Hid (t1a (Value.int .u8) 5 wr.drew base (.slice (some ⟨qb,0,none⟩) N cB1) (d4a B1 p xs k)):=HRB;go_wp2_with(first
        | ((with_reducible refine sT 55 ?_);refine X5a rfl _ (.tmp 55) (.tmp 54) rfl qb s N cB1 base 5 rfl (Value.int .u8) (d4a B1 p xs k) x rfl D1.out hsN (by kernel_rfl) rfl ?_;intro w3 o3 O3;rw[E1.out] at o3;have k3:w3.cell? ⟨g,1,none⟩=some (.slice (some ⟨qz,0,none⟩) N cZ1):=((HRX.out.only (g':=qb) (w':=w3) ⟨O3.out.os,O3.out.tape,O3.out.output,O3.out.size,O3.out.rest⟩ (Ne.symm hqb)).cell 1);have O3':Hid (S1a qb wr w3):=⟨O3.out.os,O3.out.tape,O3.out.output,O3.out.size,O3.out.rest⟩;have HRZ3:Hid (t1a Value.bool 4 w3 base (.slice (some ⟨qz,0,none⟩) N cZ1) (d4a Z1 p (List.replicate n true) k)):=HRZ.out.sparS (g0a.of_only O3'.out) (λi hi hj=>hqq (by injection hi with hi;exact hi.trans hj)))
        | ((with_reducible refine sT 63 ?_);refine X5a rfl _ (.tmp 63) (.const (.bool true)) rfl qz s N cZ1 base 4 rfl Value.bool (d4a Z1 p (List.replicate n true) k) true rfl HRZ3.out hsN (by kernel_rfl) rfl ?_;intro w4 o4 O4;rw[E2.out] at o4)
        | fail)
       have HRX4:=hI ((HRX.out.only O3'.out (Ne.symm hqb)).only O4.out (Ne.symm hqz));have HRB4:=hI (o3.out.sparS (g0a.of_only O4.out) (λi hi hj=>hqq (by injection hi with hi;exact hj.symm.trans hi.symm)));have S4:Hid (g0a (rdS g (.slice AB nB cB) vZ) w w4):=by
        refine(S1.out.trans (g0a.of_only O3'.out) λj hj h=>?_).trans (g0a.of_only O4.out) λj hj h=>?_
        ·have hq:j=qb:=h;rcases N1.out qb rfl with h1 | h1
         ·rw[hq];exact .inr (.inl h1)
         ·omega
        ·have hq:j=qz:=h;rcases M1.out qz rfl with h1 | h1
         ·rw[hq];exact .inr (.inr h1)
         ·omega
       go_roundw
       case rel=>exact⟨k+1,by omega,by go_num,HRB4,o4,HRX4,S4⟩
       case measure=>simp[intOf];omega
      ·obtain rfl:k=n:=by omega
       have HD:D6a wr base g (.slice (some ⟨qb,0,none⟩) N cB1) (.slice (some ⟨qz,0,none⟩) N cZ1) (N3a 0 B p xs) (N3a false Z p (List.replicate k true)):=by
        have hb:=HRB.out;have hz:=HRZ.out;rw[HF1.out] at hb;rw[HF2.out] at hz;have h1:=hb.1;refine⟨hgb,HRX.out,hb,hz,?_,?_,k8a HR.out.byte HX.out.byte _⟩
        ·rw[f2a,f2a,List.length_replicate,HXL.out,HZL.out]
        ·rw[f2a,HXL.out];have:=HR.out.small;omega
       have HD':=hI HD;clear HD HRB HRZ HRX;go_wp2_with fail;go_ret;exact HQ1.out _ _ _ _ rfl HD'.out S1.out N1.out M1.out
def i2a(n:Int):Bool:=decide (0<=n)&&decide (n<=1114111)&&(decide (n<55296)||decide (57343<n))
theorem C8b(w:World)(n:Int)(_hn:-9223372036854775808<=n/\n<=9223372036854775807) :
  Calls Tryz.prog 185 #[.int .i64 n] w λe w'=>e=.returned (.bool (i2a n))/\w=w':=by
 by_cases h1:0<=n
 ·by_cases h2:n<=1114111
  ·by_cases h3:n<55296
   ·have e:i2a n=true:=by simp[i2a,h1,h2,h3]
    rw[e];clear e;go_enter Tryz.func185,Tryz.ntmps185;go_wp2;go_ret;exact⟨rfl,rfl⟩
   ·by_cases h4:57343<n
    ·have e:i2a n=true:=by simp[i2a,h1,h2,h4]
     rw[e];clear e;go_enter Tryz.func185,Tryz.ntmps185;go_wp2;go_ret;exact⟨rfl,rfl⟩
    ·have e:i2a n=false:=by simp[i2a,h3,h4]
     rw[e];clear e;go_enter Tryz.func185,Tryz.ntmps185;go_wp2;go_ret;exact⟨rfl,rfl⟩
  ·have e:i2a n=false:=by simp[i2a,h2]
   rw[e];clear e;go_enter Tryz.func185,Tryz.ntmps185;go_wp2;go_ret;exact⟨rfl,rfl⟩
 ·have e:i2a n=false:=by simp[i2a,h1]
  rw[e];clear e;go_enter Tryz.func185,Tryz.ntmps185;go_wp2;go_ret;exact⟨rfl,rfl⟩
def L4a(b:Int):Nat:=if b<128 then 1 else if b<192 then 0 else if b<224 then 2 else if b<240 then 3 else if b<248 then 4 else 0
def A1b(b:Int):Int:=if b<128 then b else if b<192 then 0 else if b<224 then b-192 else if b<240 then b-224 else if b<248 then b-240 else 0
def t8a(b:Int):Int:=if b<128 then 0 else if b<192 then 0 else if b<224 then 128 else if b<240 then 2048 else if b<248 then 65536 else 0
theorem u3c(w:World)(b:Int)(hb:0<=b/\b<=255) :
  Calls Tryz.prog 184 #[.int .u8 b] w λe w'=>e=.returned (.tuple #[.int .i64 (L4a b),.int .i64 (A1b b),.int .i64 (t8a b)])/\w=w':=by
 obtain⟨hb0,hb1⟩:=hb;unfold L4a A1b t8a;by_cases h1:b<128
 ·rw[if_pos h1,if_pos h1,if_pos h1];go_enter Tryz.func184,Tryz.ntmps184;go_wp2;go_ret3;exact⟨rfl,rfl⟩
 rw[if_neg h1,if_neg h1,if_neg h1];by_cases h2:b<192
 ·rw[if_pos h2,if_pos h2,if_pos h2];go_enter Tryz.func184,Tryz.ntmps184;go_wp2;go_ret3;exact⟨rfl,rfl⟩
 rw[if_neg h2,if_neg h2,if_neg h2];by_cases h3:b<224
 ·rw[if_pos h3,if_pos h3,if_pos h3];go_enter Tryz.func184,Tryz.ntmps184;go_wp2;go_ret3;exact⟨rfl,rfl⟩
 rw[if_neg h3,if_neg h3,if_neg h3];by_cases h4:b<240
 ·rw[if_pos h4,if_pos h4,if_pos h4];go_enter Tryz.func184,Tryz.ntmps184;go_wp2;go_ret3;exact⟨rfl,rfl⟩
 rw[if_neg h4,if_neg h4,if_neg h4];by_cases h5:b<248
 ·rw[if_pos h5,if_pos h5,if_pos h5];go_enter Tryz.func184,Tryz.ntmps184;go_wp2;go_ret3;exact⟨rfl,rfl⟩
 ·rw[if_neg h5,if_neg h5,if_neg h5];go_enter Tryz.func184,Tryz.ntmps184;go_wp2;go_ret3;exact⟨rfl,rfl⟩
def gB(l:List UInt8)(i:Nat):Int:=((l.getD i 0).toNat:Int)
def d8a(l:List UInt8):Nat->Int
 | 0=>A1b (gB l 0)
 | k+1=>64*d8a l k+gB l (k+1)-128
def M4a(x:Int):Bool:=decide (128<=x)&&decide (x<192)
def z2a(l:List UInt8):Nat->Bool
 | 0=>true
 | k+1=>z2a l k&&M4a (gB l (k+1))
def f3a(l:List UInt8):Int×Nat:=
 if L4a (gB l 0)=0∨l.length<L4a (gB l 0) then (0,0)
 else if z2a l (L4a (gB l 0)-1)=false then (0,0)
 else if d8a l (L4a (gB l 0)-1)<t8a (gB l 0)∨i2a (d8a l (L4a (gB l 0)-1))=false then (0,0)
 else (d8a l (L4a (gB l 0)-1),L4a (gB l 0))
theorem B1b(l:List UInt8)(i:Nat):0<=gB l i/\gB l i<=255:=by have:=(l.getD i 0).toNat_lt;unfold gB;omega
theorem v3c(b:Int):L4a b<=4:=by
 unfold L4a;repeat' split
 all_goals omega
theorem j0b{b:Int}(h:0<=b/\b<=255):0<=A1b b/\A1b b<=127:=by unfold A1b;repeat' split<;>omega
theorem b5b(b:Int):0<=t8a b/\t8a b<=65536:=by unfold t8a;repeat' split<;>omega
theorem Z1a(x:Int):M4a x=true↔128<=x/\x<192:=by simp[M4a]
theorem t6b(l:List UInt8){k:Nat}(h:z2a l k=false):∀j,k<=j->z2a l j=false:=by
 intro j hj
 induction j with
 | zero=>
  obtain rfl:k=0:=by omega
  exact h
 | succ j ih=>
  by_cases e:k=j+1
  ·rw[<-e];exact h
  ·rw[z2a,ih (by omega)];rfl
theorem u6b(l:List UInt8)(k:Nat)(hk:k<=3)(hc:z2a l k=true):0<=d8a l k/\d8a l k<=67108864:=by
 have h0:=j0b (B1b l 0);have hcase:k=0∨k=1∨k=2∨k=3:=by omega
 rcases hcase with rfl | rfl | rfl | rfl
 ·simp only[d8a];omega
 ·simp only[z2a,Bool.and_eq_true,Z1a,true_and] at hc;simp only[d8a];omega
 ·simp only[z2a,Bool.and_eq_true,Z1a,true_and] at hc;simp only[d8a];omega
 ·simp only[z2a,Bool.and_eq_true,Z1a,true_and] at hc;simp only[d8a];omega
theorem i5a(n:Int):i2a n=true↔R2a n:=by unfold i2a R2a;simp only[Bool.and_eq_true,Bool.or_eq_true,decide_eq_true_eq];omega
theorem k9a(n:Int):i2a n=false↔¬R2a n:=by rw[<-i5a];simp
def pick(d:Nat×Nat):Int×Nat:=if d.1=65533/\d.2=1 then (0,0) else ((d.1:Int),d.2)
theorem B5a:pick (65533,1)=(0,0):=rfl
theorem Q3b(x w:Nat)(h:¬(x=65533/\w=1)):pick (x,w)=((x:Int),w):=if_neg h
theorem h1c(l:List UInt8):(if (Lib.decodeL l).1=65533/\(Lib.decodeL l).2=1 then ((0:Int),0) else (S3a l,(Lib.decodeL l).2))=pick (Lib.decodeL l):=by
 unfold pick;by_cases c:(Lib.decodeL l).1=65533/\(Lib.decodeL l).2=1
 ·rw[if_pos c,if_pos c]
 ·rw[if_neg c,if_neg c];unfold S3a;rw[if_neg c]
theorem c5b(l:List UInt8)(hne:l≠[]) :
  f3a l=if (Lib.decodeL l).1=65533/\(Lib.decodeL l).2=1 then (0,0) else (S3a l,(Lib.decodeL l).2):=by
 have hl:0<l.length:=List.length_pos_iff.2 hne;have k0:=(l.getD 0 0).toNat_lt;have k1:=(l.getD 1 0).toNat_lt;have k2:=(l.getD 2 0).toNat_lt;have k3:=(l.getD 3 0).toNat_lt;rw[h1c,Lib.decodeL_N];have g0:gB l 0=((l.getD 0 0).toNat:Int):=rfl;have g1:gB l 1=((l.getD 1 0).toNat:Int):=rfl;have g2:gB l 2=((l.getD 2 0).toNat:Int):=rfl;have g3:gB l 3=((l.getD 3 0).toNat:Int):=rfl;unfold f3a;generalize (l.getD 0 0).toNat=b0 at *;generalize (l.getD 1 0).toNat=b1 at *;generalize (l.getD 2 0).toNat=b2 at *;generalize (l.getD 3 0).toNat=b3 at *;generalize l.length=n at *;by_cases c1:b0<128
 ·have e1:L4a (gB l 0)=1:=by rw[g0];unfold L4a;rw[if_pos (by omega)]
  have e2:t8a (gB l 0)=0:=by rw[g0];unfold t8a;rw[if_pos (by omega)]
  have e3:d8a l 0=b0:=by rw[d8a,g0];unfold A1b;rw[if_pos (by omega)]
  have e4:i2a (b0:Int)=true:=by rw[i5a];exact⟨by omega,by omega,by omega⟩
  rw[Lib.decodeN_ascii _ _ _ _ _ c1,Q3b _ _ (by omega),e1,e2,Nat.sub_self,if_neg (by omega),z2a,if_neg (by decide),e3,e4,if_neg (by simp)]
 by_cases c2:b0<192
 ·have e1:L4a (gB l 0)=0:=by rw[g0];unfold L4a;rw[if_neg (by omega),if_pos (by omega)]
  have hd:Lib.decodeN n b0 b1 b2 b3=(65533,1):=by unfold Lib.decodeN;rw[if_neg c1,if_neg (by omega),if_neg (by omega),if_neg (by omega)]
  rw[hd,B5a,if_pos (.inl e1)]
 by_cases c3:b0<224
 ·have e1:L4a (gB l 0)=2:=by rw[g0];unfold L4a;rw[if_neg (by omega),if_neg (by omega),if_pos (by omega)]
  have e2:t8a (gB l 0)=128:=by rw[g0];unfold t8a;rw[if_neg (by omega),if_neg (by omega),if_pos (by omega)]
  have e3:d8a l 1=64*(b0-192)+b1-128:=by rw[d8a,d8a,g0,g1];unfold A1b;rw[if_neg (by omega),if_neg (by omega),if_pos (by omega)]
  have e4:z2a l 1=M4a (gB l 1):=by rw[z2a,z2a,Bool.true_and]
  by_cases d1:1<n/\b1/64=2
  ·have f1:M4a (b1:Int)=true:=by rw[Z1a];omega
   by_cases d2:b0%32*64+b1%64≥128
   ·have hd:Lib.decodeN n b0 b1 b2 b3=(b0%32*64+b1%64,2):=by unfold Lib.decodeN;rw[if_neg c1,if_pos ⟨by omega,d1⟩,if_pos d2]
    have e5:i2a (64*((b0:Int)-192)+b1-128)=true:=by rw[i5a];exact⟨by omega,by omega,by omega⟩
    rw[hd,Q3b _ _ (by omega),e1,e2,show 2-1=1 from rfl,e3,e4,g1,f1,e5,if_neg (by omega),if_neg (by decide),if_neg (by simp;omega)];exact Prod.ext (by dsimp only;omega) rfl
   ·have hd:Lib.decodeN n b0 b1 b2 b3=(65533,1):=by unfold Lib.decodeN;rw[if_neg c1,if_pos ⟨by omega,d1⟩,if_neg d2]
    rw[hd,B5a,e1,e2,show 2-1=1 from rfl,e3,e4,g1,f1,if_neg (by omega),if_neg (by decide),if_pos (.inl (by omega))]
  ·have hd:Lib.decodeN n b0 b1 b2 b3=(65533,1):=by unfold Lib.decodeN;rw[if_neg c1,if_neg (λh=>d1 h.2),if_neg (by omega),if_neg (by omega)]
   rw[hd,B5a,e1,show 2-1=1 from rfl,e4,g1];by_cases d2:n<2
   ·rw[if_pos (.inr d2)]
   ·have f1:M4a (b1:Int)=false:=by rw[Bool.eq_false_iff,Ne,Z1a];omega
    rw[if_neg (by omega),f1,if_pos rfl]
 by_cases c4:b0<240
 ·have e1:L4a (gB l 0)=3:=by rw[g0];unfold L4a;rw[if_neg (by omega),if_neg (by omega),if_neg (by omega),if_pos (by omega)]
  have e2:t8a (gB l 0)=2048:=by rw[g0];unfold t8a;rw[if_neg (by omega),if_neg (by omega),if_neg (by omega),if_pos (by omega)]
  have e3:d8a l 2=64*(64*(b0-224)+b1-128)+b2-128:=by rw[d8a,d8a,d8a,g0,g1,g2];unfold A1b;rw[if_neg (by omega),if_neg (by omega),if_neg (by omega),if_pos (by omega)]
  have e4:z2a l 2=(M4a (gB l 1)&&M4a (gB l 2)):=by rw[z2a,z2a,z2a,Bool.true_and]
  by_cases d1:(1<n/\b1/64=2)/\(2<n/\b2/64=2)
  ·have f1:M4a (b1:Int)=true:=by rw[Z1a];omega
   have f2:M4a (b2:Int)=true:=by rw[Z1a];omega
   by_cases d2:b0%16*4096+b1%64*64+b2%64≥2048/\(b0%16*4096+b1%64*64+b2%64<55296∨(57344<=b0%16*4096+b1%64*64+b2%64/\b0%16*4096+b1%64*64+b2%64<=1114111))
   ·have hd:Lib.decodeN n b0 b1 b2 b3=(b0%16*4096+b1%64*64+b2%64,3):=by unfold Lib.decodeN;rw[if_neg c1,if_neg (by omega),if_pos ⟨by omega,d1⟩,if_pos d2]
    have e5:i2a (64*(64*((b0:Int)-224)+b1-128)+b2-128)=true:=by rw[i5a];exact⟨by omega,by omega,by omega⟩
    rw[hd,Q3b _ _ (by omega),e1,e2,show 3-1=2 from rfl,e3,e4,g1,g2,f1,f2,e5,if_neg (by omega),if_neg (by decide),if_neg (by simp;omega)];exact Prod.ext (by dsimp only;omega) rfl
   ·have hd:Lib.decodeN n b0 b1 b2 b3=(65533,1):=by unfold Lib.decodeN;rw[if_neg c1,if_neg (by omega),if_pos ⟨by omega,d1⟩,if_neg d2]
    rw[hd,B5a,e1,e2,show 3-1=2 from rfl,e3,e4,g1,g2,f1,f2,if_neg (by omega),if_neg (by decide),if_pos];rw[k9a];unfold R2a;omega
  ·have hd:Lib.decodeN n b0 b1 b2 b3=(65533,1):=by unfold Lib.decodeN;rw[if_neg c1,if_neg (by omega),if_neg (λh=>d1 h.2),if_neg (by omega)]
   rw[hd,B5a,e1,show 3-1=2 from rfl,e4,g1,g2];by_cases d2:n<3
   ·rw[if_pos (.inr d2)]
   ·have f1:(M4a (b1:Int)&&M4a (b2:Int))=false:=by rw[Bool.eq_false_iff,Ne,Bool.and_eq_true,Z1a,Z1a];omega
    rw[if_neg (by omega),f1,if_pos rfl]
 by_cases c5:b0<248
 ·have e1:L4a (gB l 0)=4:=by rw[g0];unfold L4a;rw[if_neg (by omega),if_neg (by omega),if_neg (by omega),if_neg (by omega),if_pos (by omega)]
  have e2:t8a (gB l 0)=65536:=by rw[g0];unfold t8a;rw[if_neg (by omega),if_neg (by omega),if_neg (by omega),if_neg (by omega),if_pos (by omega)]
  have e3:d8a l 3=64*(64*(64*(b0-240)+b1-128)+b2-128)+b3-128:=by rw[d8a,d8a,d8a,d8a,g0,g1,g2,g3];unfold A1b;rw[if_neg (by omega),if_neg (by omega),if_neg (by omega),if_neg (by omega),if_pos (by omega)]
  have e4:z2a l 3=(M4a (gB l 1)&&M4a (gB l 2)&&M4a (gB l 3)):=by rw[z2a,z2a,z2a,z2a,Bool.true_and]
  by_cases d1:(1<n/\b1/64=2)/\(2<n/\b2/64=2)/\(3<n/\b3/64=2)
  ·have f1:M4a (b1:Int)=true:=by rw[Z1a];omega
   have f2:M4a (b2:Int)=true:=by rw[Z1a];omega
   have f3:M4a (b3:Int)=true:=by rw[Z1a];omega
   by_cases d2:b0%8*262144+b1%64*4096+b2%64*64+b3%64≥65536/\(b0%8*262144+b1%64*4096+b2%64*64+b3%64<55296∨(57344<=b0%8*262144+b1%64*4096+b2%64*64+b3%64/\b0%8*262144+b1%64*4096+b2%64*64+b3%64<=1114111))
   ·have hd:Lib.decodeN n b0 b1 b2 b3=(b0%8*262144+b1%64*4096+b2%64*64+b3%64,4):=by unfold Lib.decodeN;rw[if_neg c1,if_neg (by omega),if_neg (by omega),if_pos ⟨by omega,d1⟩,if_pos d2]
    have e5:i2a (64*(64*(64*((b0:Int)-240)+b1-128)+b2-128)+b3-128)=true:=by rw[i5a];exact⟨by omega,by omega,by omega⟩
    rw[hd,Q3b _ _ (by omega),e1,e2,show 4-1=3 from rfl,e3,e4,g1,g2,g3,f1,f2,f3,e5,if_neg (by omega),if_neg (by decide),if_neg (by simp;omega)];exact Prod.ext (by dsimp only;omega) rfl
   ·have hd:Lib.decodeN n b0 b1 b2 b3=(65533,1):=by unfold Lib.decodeN;rw[if_neg c1,if_neg (by omega),if_neg (by omega),if_pos ⟨by omega,d1⟩,if_neg d2]
    rw[hd,B5a,e1,e2,show 4-1=3 from rfl,e3,e4,g1,g2,g3,f1,f2,f3,if_neg (by omega),if_neg (by decide),if_pos];rw[k9a];unfold R2a;omega
  ·have hd:Lib.decodeN n b0 b1 b2 b3=(65533,1):=by unfold Lib.decodeN;rw[if_neg c1,if_neg (by omega),if_neg (by omega),if_neg (λh=>d1 h.2)]
   rw[hd,B5a,e1,show 4-1=3 from rfl,e4,g1,g2,g3];by_cases d2:n<4
   ·rw[if_pos (.inr d2)]
   ·have f1:(M4a (b1:Int)&&M4a (b2:Int)&&M4a (b3:Int))=false:=by rw[Bool.eq_false_iff,Ne,Bool.and_eq_true,Bool.and_eq_true,Z1a,Z1a,Z1a];omega
    rw[if_neg (by omega),f1,if_pos rfl]
 ·have e1:L4a (gB l 0)=0:=by rw[g0];unfold L4a;rw[if_neg (by omega),if_neg (by omega),if_neg (by omega),if_neg (by omega),if_neg (by omega)]
  have hd:Lib.decodeN n b0 b1 b2 b3=(65533,1):=by unfold Lib.decodeN;rw[if_neg c1,if_neg (by omega),if_neg (by omega),if_neg (by omega)]
  rw[hd,B5a,if_pos (.inl e1)]
theorem i1c(s:ByteArray)(pos i:Nat)(h:pos+i<s.size):gB (s.data.toList.drop pos) i=((s[pos+i]'h).toNat:Int):=by unfold gB;have e:s.data[pos+i]? = some (s[pos+i]'h):=Array.getElem?_eq_getElem h;rw[List.getD_eq_getElem?_getD,List.getElem?_drop,Array.getElem?_toList,e];rfl
theorem j1c(s:ByteArray)(pos:Nat)(w:World)(hp:pos<s.size)(hs:s.size<=4398046511104) :
  Calls Tryz.prog 156 #[.string s,.int .i64 pos] w λe w'=>e=.returned (.tuple #[.int .i64 (f3a (s.data.toList.drop pos)).1,.int .i64 (f3a (s.data.toList.drop pos)).2])/\w=w':=by
 obtain⟨l,hl⟩:∃l,l=s.data.toList.drop pos:=⟨_,rfl⟩;have hll:l.length=s.size-pos:=by rw[hl,List.length_drop,<-Lib.size_eq]
 have hb0:=B1b l 0;have hg0:gB (s.data.toList.drop pos) 0=((s[pos]'hp).toNat:Int):=i1c s pos 0 (by omega);have hge:∀i,(h:pos+i<s.size)->gB l i=((s[pos+i]'h).toNat:Int):=λi h=>by rw[hl];exact i1c s pos i h
 have hq:∀r:Int×Nat,f3a l=r->∀(e:Ending) (w':World),(e=.returned (.tuple #[.int .i64 r.1,.int .i64 r.2])/\w=w')->(e=.returned (.tuple #[.int .i64 (f3a l).1,.int .i64 (f3a l).2])/\w=w'):=λr hr e w' h=>by rw[hr];exact h
 rw[<-hl];rw[<-hl] at hg0;have HQ:=hI hq;have c1:=u3c w (gB l 0) hb0;have hN4:=v3c (gB l 0);have hL:=b5b (gB l 0);have hV:=j0b hb0;have hf:∀r,f3a l=r↔f3a l=r:=λ_=>Iff.rfl
 unfold f3a at hf;obtain⟨N,hN⟩:∃N,N=L4a (gB l 0):=⟨_,rfl⟩;obtain⟨M,hM⟩:∃M,M=t8a (gB l 0):=⟨_,rfl⟩;obtain⟨V,hVV⟩:∃V,V=A1b (gB l 0):=⟨_,rfl⟩;rw[<-hN,<-hM,<-hVV] at c1;rw[<-hN] at hN4;rw[<-hM] at hL;rw[<-hVV] at hV;rw[hg0] at c1;obtain⟨hL0,hL1⟩:=hL;obtain⟨hV0,hV1⟩:=hV;have C1:=hI c1;have HN:=hI hN;have HM:=hI hM;have HV:=hI hVV;have HG:=hI hge;have HLL:=hI hll;have hf0:(N=0∨l.length<N)->f3a l=(0,0):=λh=>by unfold f3a;rw[<-HN.out,if_pos h]
 have hf1:¬(N=0∨l.length<N)->z2a l (N-1)=false->f3a l=(0,0):=λh h1=>by unfold f3a;rw[<-HN.out,if_neg h,if_pos h1]
 have hf2:¬(N=0∨l.length<N)->z2a l (N-1)=true->(d8a l (N-1)<M∨i2a (d8a l (N-1))=false)->f3a l=(0,0):=λh h1 h2=>by unfold f3a;rw[<-HN.out,<-HM.out,if_neg h,if_neg (by rw[h1];decide),if_pos h2]
 have hf3:¬(N=0∨l.length<N)->z2a l (N-1)=true->¬(d8a l (N-1)<M∨i2a (d8a l (N-1))=false)->f3a l=(d8a l (N-1),N):=λh h1 h2=>by unfold f3a;rw[<-HN.out,<-HM.out,if_neg h,if_neg (by rw[h1];decide),if_neg h2]
 have HF0:=hI hf0;have HF1:=hI hf1;have HF2:=hI hf2;have HF3:=hI hf3;clear hl hb0 hg0 hge hq c1 hf hN hM hVV hll hf0 hf1 hf2 hf3;by_cases h0:N=0
 ·have HE:=hI (HF0.out (.inl h0));subst h0;go_enter Tryz.func156,Tryz.ntmps156;go_wp2_with fail;refine C1.out.mono ?_;rintro e w' ⟨rfl,rfl⟩;go_wp2;go_ret2;exact HQ.out _ HE.out _ _ ⟨rfl,rfl⟩
 have h0b:((N:Int)==0)=false:=by rw[beq_eq_false_iff_ne];omega
 by_cases hlen:s.size<pos+N
 ·have HE:=hI (HF0.out (.inr (by rw[HLL.out];omega)));go_enter Tryz.func156,Tryz.ntmps156;go_wp2_with fail;refine C1.out.mono ?_;rintro e w' ⟨rfl,rfl⟩;go_wp2;go_ret2;exact HQ.out _ HE.out _ _ ⟨rfl,rfl⟩
 have HNN:Hid (¬(N=0∨l.length<N)):=by show ¬_;rw[HLL.out];omega
 have cL:=λw n h=>hI (C8b w n h)
 go_enter Tryz.func156,Tryz.ntmps156;go_wp2_with fail;refine C1.out.mono ?_;rintro e w' ⟨rfl,rfl⟩;clear C1;go_wp2;go_loop [7,9,10] (λn i _=>∃k:Nat,i=.int .i64 (k+1:Nat)/\k+1<=N/\Hid (z2a l k=true)/\∃z:Int,n=.int .i64 z/\Hid (z=d8a l k)) (λ_ i _=>N-(intOf i).toNat)
 case atStart=>exact⟨0,rfl,by omega,rfl,V,rfl,HV.out⟩
 case round=>
  obtain⟨k,rfl,hk,HC,z,rfl,HZ⟩:=hrel;have hzb:=u6b l k (by omega) HC.out;rw[<-HZ.out] at hzb;obtain⟨hz0,hz1⟩:=hzb;by_cases hlt:k+1<N
  ·have hi:pos+(k+1)<s.size:=by omega
   have hx:=HG.out (k+1) hi;have hxb:=B1b l (k+1);obtain⟨x,hxx⟩:∃x,x=gB l (k+1):=⟨_,rfl⟩;rw[<-hxx] at hx hxb;have HX:=hI hxx;have hxv:((s[pos+(k+1)]'hi).toNat:Int)=x:=hx.symm;have hmc:=λh=>t6b l (k:=k+1) h (N-1) (by omega)
   have hcs:z2a l (k+1)=(z2a l k&&M4a (gB l (k+1))):=rfl;rw[HC.out,Bool.true_and,<-HX.out] at hcs;obtain⟨hx0,hx1⟩:=hxb;by_cases hb1:x<128
   ·have HE:=hI (HF1.out HNN.out (hmc (by rw[hcs];simp[M4a];omega)));clear hxx hmc hcs hx;go_wp2;go_ret2;exact HQ.out _ HE.out _ _ ⟨rfl,rfl⟩
   by_cases hb2:192<=x
   ·have HE:=hI (HF1.out HNN.out (hmc (by rw[hcs];simp[M4a];omega)));clear hxx hmc hcs hx;go_wp2;go_ret2;exact HQ.out _ HE.out _ _ ⟨rfl,rfl⟩
   ·have HC':Hid (z2a l (k+1)=true):=by show _=_;rw[hcs,Z1a];omega
    have HZ':Hid (64*z+x-128=d8a l (k+1)):=by show _=_;rw[d8a,<-HX.out,<-HZ.out]
    clear hxx hmc hcs hx;go_wp2;go_round
    case rel=>exact⟨k+1,by go_num,hlt,HC',_,by go_num,HZ'⟩
    case measure=>simp[intOf];omega
  ·obtain rfl:N=k+1:=by omega
   rw[Nat.add_sub_cancel] at HF1 HF2 HF3;by_cases hm:z<M
   ·have HE:=hI (HF2.out HNN.out HC.out (.inl (by rw[<-HZ.out];exact hm)));go_wp2;go_ret2;exact HQ.out _ HE.out _ _ ⟨rfl,rfl⟩
   ·by_cases hlb:i2a z=true
    ·have HE:=hI (HF3.out HNN.out HC.out (by rw[<-HZ.out,hlb];simp;omega));have c2:=(cL w z (by omega)).out;rw[hlb] at c2;have C2:=hI c2;clear c2 cL hlb;go_wp2_with fail;refine C2.out.mono ?_;rintro e w' ⟨rfl,rfl⟩;go_wp2;go_ret2;exact HQ.out _ HE.out _ _ ⟨by rw[HZ.out];rfl,rfl⟩
    ·have hlb':i2a z=false:=by simpa using hlb
     have HE:=hI (HF2.out HNN.out HC.out (.inr (by rw[<-HZ.out];exact hlb')));have c2:=(cL w z (by omega)).out;rw[hlb'] at c2;have C2:=hI c2;clear c2 cL hlb hlb';go_wp2_with fail;refine C2.out.mono ?_;rintro e w' ⟨rfl,rfl⟩;go_wp2;go_ret2;exact HQ.out _ HE.out _ _ ⟨rfl,rfl⟩
def Q3a(w:World)(l:List UInt8)(e:Ending)(w':World):Prop:=∃v,e=.returned (.tuple #[v,.bool (u0a l)])/\v1a .i64 3 w' w.heap.size v (j0a l)/\Below w.heap.size w w'
theorem j5a(s:ByteArray)(w:World)(hs:s.size<=4398046511104) :
  Calls Tryz.prog 105 #[.string s] w (Q3a w s.data.toList):=by
 have hq:∀b,u0a s.data.toList=b->∀(e:Ending) (w':World),(∃v,e=.returned (.tuple #[v,.bool b])/\v1a .i64 3 w' w.heap.size v (j0a s.data.toList)/\Below w.heap.size w w')->Q3a w s.data.toList e w':=λb hb e w' h=>by unfold Q3a;rw[hb];exact h
 have HQ:=hI hq;have HS:=hI (Lib.size_eq s);clear hq;go_enter Tryz.func105,Tryz.ntmps105;go_wp2;go_loopw [4,5,6,7,8] (λv b i _ _ wr=>∃(pos:Nat) (zs:List Int) (t:Bool),i=.int .i64 pos/\b=.bool t/\Hid (v1a .i64 3 wr w.heap.size v zs)/\Below w.heap.size w wr/\Hid (zs++j0a (s.data.toList.drop pos)=j0a s.data.toList)/\Hid ((t&&u0a (s.data.toList.drop pos))=u0a s.data.toList)/\zs.length<=pos/\pos<=s.size) (λ_ _ i _ _ _=>s.size-(intOf i).toNat)
 case atStart=>
  refine⟨0,[],true,rfl,rfl,v1a.nil _ _ _ _,Below.refl _ _,?_,?_,by simp,by omega⟩
  ·show _=_;rw[List.drop_zero,List.nil_append]
  ·show _=_;rw[List.drop_zero,Bool.true_and]
 case round=>
  obtain⟨pos,zs,t,rfl,rfl,HO,hb,HE,HT,hzl,hps⟩:=hrel;have hbs:=hb.size;by_cases hp:pos<s.size
  ·have hne:s.data.toList.drop pos≠[]:=by intro e;have:=congrArg List.length e;rw[List.length_drop,<-HS.out] at this;simp at this;omega
   obtain⟨n1,n2,n3⟩:=p7a s pos hp;have hfd:=c5b _ hne;have hts:=g8a _ hne;rw[Lib.decodeL_drop] at hfd hts;rw[List.drop_drop] at hts;have c1:=j1c s pos wr hp hs;have hh:=E9b s pos hp;obtain⟨h,hh0⟩:∃h,h=S3a (s.data.toList.drop pos):=⟨_,rfl⟩;rw[<-hh0] at n1 hfd hts hh;obtain⟨Z,hZ⟩:∃Z,Z=(Utf8.decode s pos).2:=⟨_,rfl⟩;rw[<-hZ] at n1 n2 n3 hfd hts hh;rcases hh with⟨h1,h2,h3⟩ | ⟨h1,h2,h3⟩
   ·rw[if_pos ⟨h1,h2⟩] at hfd;rw[hfd] at c1;have C1:=hI c1;subst h2;have HN:Hid (zs++[1114112+((s[pos]'hp).toNat:Int)]++j0a (s.data.toList.drop (pos+1))=j0a s.data.toList):=by
     show _=_
     rw[<-HE.out,n1,h3];simp
    have HT':Hid ((false&&u0a (s.data.toList.drop (pos+1)))=u0a s.data.toList):=by
     show _=_
     rw[<-HT.out,hts,h3,decide_eq_false (by omega)];simp
    have hbyte:0<=((s[pos]'hp).toNat:Int)/\((s[pos]'hp).toNat:Int)<=255:=by have:=(s[pos]'hp).toNat_lt;omega
    obtain⟨hy0,hy1⟩:=hbyte;clear hne hfd hts c1 hh0 hZ n1 h1 h3 HE HT;go_wp2_with fail;refine C1.out.mono ?_;rintro e w' ⟨rfl,rfl⟩;go_wp2_with(at_builtin;go_loud (refine c1a rfl (.tmp 21) (.tmp 27) .i64 44 3 8 Tryz.underlying44 k2a rfl w.heap.size _ zs [1114112+((s[pos]'hp).toNat:Int)] _ rfl 1 1 rfl rfl rfl HO.out (by omega) (by omega) hbs ?_;intro v5 w5 ho5 hg5));have hb5:=hg5.out.below HO.out hbs;clear hg5;go_roundw
    case rel=>exact⟨pos+1,_,false,by go_num,rfl,ho5,hb.trans hb5,HN,HT',by simp;omega,by omega⟩
    case measure=>simp[intOf];omega
   ·rw[if_neg h1] at hfd;rw[hfd] at c1;have C1:=hI c1;have HN:Hid (zs++[h]++j0a (s.data.toList.drop (pos+Z))=j0a s.data.toList):=by
     show _=_
     rw[<-HE.out,n1];simp
    have HT':Hid ((t&&u0a (s.data.toList.drop (pos+Z)))=u0a s.data.toList):=by
     show _=_
     have:=h3.2.1;rw[<-HT.out,hts,h2,decide_eq_true (by omega),Bool.true_and]
    have hZb:((Z:Int)==0)=false:=by rw[beq_eq_false_iff_ne];omega
    have hbd:0<=h/\h<=1114111:=by rw[h2];exact⟨h3.1,h3.2.1⟩
    obtain⟨hy0,hy1⟩:=hbd;clear hne hfd hts c1 hh0 hZ n1 h1 h2 h3 HE HT;go_wp2_with fail;refine C1.out.mono ?_;rintro e w' ⟨rfl,rfl⟩;go_wp2_with(at_builtin;go_loud (refine c1a rfl (.tmp 31) (.tmp 33) .i64 44 3 8 Tryz.underlying44 k2a rfl w.heap.size _ zs [h] _ rfl 1 1 rfl rfl rfl HO.out (by omega) (by omega) hbs ?_;intro v5 w5 ho5 hg5));have hb5:=hg5.out.below HO.out hbs;clear hg5;go_roundw
    case rel=>exact⟨pos+Z,_,t,by go_num,rfl,ho5,hb.trans hb5,HN,HT',by simp;omega,n3⟩
    case measure=>simp[intOf];omega
  ·obtain rfl:pos=s.size:=by omega
   have HEE:Hid (zs=j0a s.data.toList):=by have:=HE.out;rw[p5a s _ hp,List.append_nil] at this;exact this
   have HTT:Hid (u0a s.data.toList=t):=by
    show _=_
    rw[<-HT.out,List.drop_of_length_le (by rw[<-HS.out];omega),j2b,Bool.and_true]
   clear HE HT;go_wp2;go_ret2;refine HQ.out t HTT.out _ _ ⟨_,rfl,?_,hb⟩;rw[<-HEE.out];exact HO.out
theorem S4a{P:Program}{f:FuncId}{args:Array Value}{w:World}{n:Nat}{v:Value}
(h:∀w,Calls P f args w λe w'=>e=.returned v/\w=w'):Calls P f args (w.drewN n) λe w''=>e=.returned v/\∃m,w''=w.drewN m:=(h _).mono λ_ _ ⟨he,hm⟩=>⟨he,n,hm.symm⟩
theorem d5b(r:Int)(w:World)(h0:0<=r)(h1:r<=2000000) :
  Calls Tryz.prog 157 #[.int .i64 r] w λe w'=>e=.returned (.int .i64 (D2a r))/\w=w':=by
 unfold D2a;by_cases h:65<=r/\r<=90
 ·rw[if_pos h];obtain⟨h2,h3⟩:=h;go_enter Tryz.func157,Tryz.ntmps157;go_wp2;go_ret;exact⟨rfl,rfl⟩
 ·rw[if_neg h];have h':r<65∨90<r:=by omega
  clear h;rcases h' with h | h
  all_goals
   go_enter Tryz.func157,Tryz.ntmps157;go_wp2;go_ret;exact⟨rfl,rfl⟩
theorem w3c{xs ys:List Int}{k:Nat}{x y:Int}(hx:xs[k]? = some x)(hy:ys[k]? = some y):i0b (xs.drop k) (ys.drop k)=if D2a x=D2a y then i0b (xs.drop (k+1)) (ys.drop (k+1)) else D2a x-D2a y:=by obtain⟨h1,h2⟩:=List.getElem?_eq_some_iff.1 hx;obtain⟨h3,h4⟩:=List.getElem?_eq_some_iff.1 hy;rw[List.drop_eq_getElem_cons h1,List.drop_eq_getElem_cons h3,h2,h4,i0b]
theorem k1c{xs ys:List Int}{k:Nat}(hk:k<=xs.length)(hk2:k<=ys.length)(h:¬k<xs.length∨¬k<ys.length):i0b (xs.drop k) (ys.drop k)=(xs.length:Int)-(ys.length:Int):=by
 by_cases h1:k<xs.length
 ·rw[List.drop_of_length_le (l:=ys) (by omega),List.drop_eq_getElem_cons h1,i0b];simp;omega
 ·rw[List.drop_of_length_le (l:=xs) (by omega)];by_cases h2:k<ys.length
  ·rw[List.drop_eq_getElem_cons h2,i0b];simp;omega
  ·rw[List.drop_of_length_le (l:=ys) (by omega),i0b];omega
theorem k0b{r:Int}(h0:0<=r)(h1:r<=1114367):0<=D2a r/\D2a r<=1114367:=by unfold D2a;split<;>omega
theorem D8b(a b:List UInt8):(i0b (j0a a) (j0a b)==0)=f1a a b:=by
 unfold f1a;rw[Bool.eq_iff_iff,beq_iff_eq,decide_eq_true_eq,e1c];constructor
 ·intro h;rw[<-L5a a,<-L5a b];unfold s0a;rw[h]
 ·intro h;rw[<-W4a,<-W4a,h]
theorem U2b(s t:ByteArray)(w:World)(hs:s.size<=4398046511104)(ht:t.size<=4398046511104) :
  Calls Tryz.prog 106 #[.string s,.string t] w λe w'=>e=.returned (.int .i64 (i0b (j0a s.data.toList) (j0a t.data.toList)))/\Below w.heap.size w w':=by
 have c1:=j5a s w hs;have c2:=λw=>j5a t w ht
 unfold Q3a at c1 c2;have o1:=i6a s.data.toList;have o2:=i6a t.data.toList;have hl1:=o7a s.data.toList;have hl2:=o7a t.data.toList;rw[<-Lib.size_eq] at hl1 hl2;obtain⟨L,hL⟩:∃L,L=j0a s.data.toList:=⟨_,rfl⟩;obtain⟨M,hM⟩:∃L,L=j0a t.data.toList:=⟨_,rfl⟩;obtain⟨b1,hb1⟩:∃b,b=u0a s.data.toList:=⟨_,rfl⟩;obtain⟨b2,hb2⟩:∃b,b=u0a t.data.toList:=⟨_,rfl⟩;rw[<-hL,<-hb1] at c1;rw[<-hM,<-hb2] at c2;rw[<-hL] at o1 hl1;rw[<-hM] at o2 hl2;rw[<-hL,<-hM];obtain⟨R,hR⟩:∃R,R=i0b L M:=⟨_,rfl⟩;rw[<-hR];have HR:=hI hR;have C1:=hI c1;have C2:=hI c2;clear c1 c2 hL hM hb1 hb2 hR;go_enter Tryz.func106,Tryz.ntmps106;go_wp2_with fail;refine C1.out.mono ?_;rintro e w1 ⟨v,rfl,ho1,hb1⟩;have HO1:=hI ho1;clear ho1;go_wp2_with fail;refine(C2.out _).mono ?_;rintro e w2 ⟨u,rfl,ho2,hb2⟩;have HO1':=hI (HO1.out.below hb2);obtain⟨A,n,c,rfl,hn,_,hm,_,hc⟩:=HO1'.out.open;obtain⟨A',n',c',rfl,hn',_,hm',_,hc'⟩:=ho2.open;have HN:=hI hn;have HN':=hI hn';have hns:n<=s.size:=by omega
 have hns':n'<=t.size:=by omega
 have hB2:=step hb1 hb2;clear ho2 HO1 HO1' hn hn' hl1 hl2 C1 C2;go_wp2;go_loopw [9] (λi wr=>∃k:Nat,i=.int .i64 k/\k<=n/\k<=n'/\Hid (i0b (L.drop k) (M.drop k)=R)/\∃j,wr=w2.drewN j) (λi _=>n-(intOf i).toNat)
 case atStart=>exact⟨0,rfl,Nat.zero_le _,Nat.zero_le _,HR.out.symm,0,rfl⟩
 case round=>
  obtain⟨k,rfl,hk,hk',HE,j,rfl⟩:=hrel;have hB3:=hI (hB2.trans ((E0a w2 j).mono hB2.size));by_cases h1:k<n
  ·by_cases h2:k<n'
   ·obtain⟨g,rfl,_,_,hcc⟩:=hc (by omega);obtain⟨g',rfl,_,_,hcc'⟩:=hc' (by omega);have gc:=hcc k h1;have gc':=hcc' k h2;have hkl:k<L.length:=by have:=HN.out;omega
    have hkm:k<M.length:=by have:=HN'.out;omega
    have ex:L[k]? = some (L.getD k 0):=by rw[List.getD_eq_getElem?_getD,List.getElem?_eq_getElem hkl];rfl
    have ey:M[k]? = some (M.getD k 0):=by rw[List.getD_eq_getElem?_getD,List.getElem?_eq_getElem hkm];rfl
    have bx:=(o1 (L.getD k 0) (List.mem_of_getElem? ex)).bounds;have by_:=(o2 (M.getD k 0) (List.mem_of_getElem? ey)).bounds;have hst:=w3c ex ey;obtain⟨x,hx⟩:∃x,x=L.getD k 0:=⟨_,rfl⟩;obtain⟨y,hy⟩:∃y,y=M.getD k 0:=⟨_,rfl⟩;rw[<-hx] at gc bx hst;rw[<-hy] at gc' by_ hst;obtain⟨bx0,bx1⟩:=bx;obtain⟨by0,by1⟩:=by_;have fx:=k0b bx0 bx1;have fy:=k0b by0 by1;have cx:=λw=>d5b x w bx0 (by omega)
    have cy:=λw=>d5b y w by0 (by omega)
    obtain⟨X,hX⟩:∃z,z=D2a x:=⟨_,rfl⟩;obtain⟨Y,hY⟩:∃z,z=D2a y:=⟨_,rfl⟩;rw[<-hX] at fx cx hst;rw[<-hY] at fy cy hst;obtain⟨fx0,fx1⟩:=fx;obtain⟨fy0,fy1⟩:=fy;have CX:=hI cx;have CY:=hI cy;rw[HE.out] at hst;obtain⟨wa,hwa⟩:∃wa,wa=w2.drewN j:=⟨_,rfl⟩;rw[<-hwa] at hB3⊢;have gc:wa.cell? ⟨g,k,none⟩=some (.int .i64 x):=by rw[hwa];exact gc
    have gc':wa.cell? ⟨g',k,none⟩=some (.int .i64 y):=by rw[hwa];exact gc'
    have HWA:=hI hwa;clear hwa hcc hcc' hc hc' hx hy hX hY hkl hkm ex ey cx cy o1 o2;by_cases he:X=Y
    ·subst he;rw[if_pos rfl] at hst;have HE2:Hid (i0b (L.drop (k+1)) (M.drop (k+1))=R):=hst.symm;have t1:(X != X)=false:=by simp
     clear hst HE;go_wp2;go_quiet ((go_at_call 157;(first | ((with_reducible exact S4a CX.out)) | ((with_reducible exact S4a CY.out)))));go_wp2;go_roundw
     case rel=>exact⟨k+1,by go_num,h1,h2,HE2,j+_,by rw[HWA.out];exact World.drewN_drewN ..⟩
     case measure=>simp[intOf];omega
    ·rw[if_neg he] at hst;have HST:=hI hst;have t1:(X != Y)=true:=by simpa using he
     have t2:IntKind.i64.wrap (X-Y)=X-Y:=by simp[IntKind.wrap,IntKind.signed,IntKind.bits];omega
     clear hst HE he;go_wp2;go_quiet ((go_at_call 157;(first | ((with_reducible exact S4a CX.out)) | ((with_reducible exact S4a CY.out)))));go_wp2;obtain⟨wb,hwb⟩:∃wq,wq=wa.drewN nq:=⟨_,rfl⟩;rw[<-hwb];have gc:wb.cell? ⟨g,k,none⟩=some (.int .i64 x):=by rw[hwb];exact gc
     have gc':wb.cell? ⟨g',k,none⟩=some (.int .i64 y):=by rw[hwb];exact gc'
     have HB4:Hid (Below w.heap.size w wb):=by rw[hwb];exact hB3.out.trans ((E0a _ _).mono hB3.out.size)
     clear hwb hB3;go_quiet ((go_at_call 157;(first | ((with_reducible exact S4a CX.out)) | ((with_reducible exact S4a CY.out)))));go_wp2;go_ret;exact⟨f8a HST.out.symm,HB4.out.trans ((E0a _ _).mono HB4.out.size)⟩
   ·have hE:=HE.out;rw[k1c (by have:=HN.out;omega) (by have:=HN'.out;omega) (.inr (by have:=HN'.out;omega)),HN.out,HN'.out] at hE;have HE2:=hI hE;clear hE HE hc hc' o1 o2;go_wp2;go_ret;exact⟨f8a HE2.out,hB3.out⟩
  ·have hE:=HE.out;rw[k1c (by have:=HN.out;omega) (by have:=HN'.out;omega) (.inl (by have:=HN.out;omega)),HN.out,HN'.out] at hE;have HE2:=hI hE;clear hE HE hc hc' o1 o2;go_wp2;go_ret;exact⟨f8a HE2.out,hB3.out⟩
theorem C1b(s t:ByteArray)(w:World)(hs:s.size<=4398046511104)(ht:t.size<=4398046511104) :
  Calls Tryz.prog 97 #[.string s,.string t] w λe w'=>e=.returned (.bool (f1a s.data.toList t.data.toList))/\Below w.heap.size w w':=by
 have c1:=U2b s t w hs ht;rw[<-D8b];obtain⟨R,hR⟩:∃R,R=i0b (j0a s.data.toList) (j0a t.data.toList):=⟨_,rfl⟩;rw[<-hR] at c1⊢;have C1:=hI c1;clear c1 hR;go_enter Tryz.func97,Tryz.ntmps97;go_wp2_with fail;refine C1.out.mono ?_;rintro e w1 ⟨rfl,hb1⟩;go_wp2;go_ret;exact⟨rfl,hb1⟩
def bars:List Int:=[92,47,58,42,63,34,60,62,124]
theorem l1c(n:Int):p3b n=(decide (n<32)||bars.any (n == ·)):=by unfold p3b bars;simp only[List.any_cons,List.any_nil,Bool.or_false,Bool.or_assoc]
theorem v6b(n:Int)(w:World) :
  Calls Tryz.prog 147 #[.int .i64 n] w λe w'=>e=.returned (.bool (p3b n))/\w=w':=by
 rw[l1c];by_cases h:n<32
 ·rw[decide_eq_true h,Bool.true_or];go_enter Tryz.func147,Tryz.ntmps147;go_wp2;go_ret;exact⟨rfl,rfl⟩
 ·rw[decide_eq_false h,Bool.false_or];obtain⟨R,hR⟩:∃R,R=bars.any (n == ·):=⟨_,rfl⟩;rw[<-hR];have HR:=hI hR;clear hR;go_enter Tryz.func147,Tryz.ntmps147;go_wp2;go_loop [3] (λi=>∃k:Nat,i=.int .i64 k/\k<=9/\Hid ((bars.drop k).any (n == ·)=R)) (λi=>9-(intOf i).toNat)
  case atStart=>exact⟨0,rfl,by omega,HR.out.symm⟩
  case round=>
   obtain⟨k,rfl,hk,HE⟩:=hrel;have hc:k=0∨k=1∨k=2∨k=3∨k=4∨k=5∨k=6∨k=7∨k=8∨k=9:=by omega
   have hE:=HE.out;rcases hc with rfl | rfl | rfl | rfl | rfl | rfl | rfl | rfl | rfl | rfl
   ·have hv:wrap64 (((⟨#[92,47,58,42,63,34,60,62,124]⟩:ByteArray)[0]'(by decide)).toNat:Int)=92:=by decide +kernel
    rw[show bars.drop 0=92::bars.drop 1 from rfl,List.any_cons] at hE;by_cases he:n=92
    ·have t1:(n==wrap64 (((⟨#[92,47,58,42,63,34,60,62,124]⟩:ByteArray)[0]'(by decide)).toNat:Int))=true:=by rw[hv,he];rfl
     rw[show(n==92)=true by rw[he];rfl,Bool.true_or] at hE;have HE2:=hI hE;clear hE HE he hv;go_wp2;go_ret;exact⟨a1a HE2.out,rfl⟩
    ·have t1:(n==wrap64 (((⟨#[92,47,58,42,63,34,60,62,124]⟩:ByteArray)[0]'(by decide)).toNat:Int))=false:=by rw[hv];simpa using he
     rw[show(n==92)=false by simpa using he,Bool.false_or] at hE;have HE2:=hI hE;clear hE HE he hv;go_wp2;go_round
     case rel=>exact⟨1,by go_num,by omega,HE2⟩
     case measure=>simp[intOf]
   ·have hv:wrap64 (((⟨#[92,47,58,42,63,34,60,62,124]⟩:ByteArray)[1]'(by decide)).toNat:Int)=47:=by decide +kernel
    rw[show bars.drop 1=47::bars.drop 2 from rfl,List.any_cons] at hE;by_cases he:n=47
    ·have t1:(n==wrap64 (((⟨#[92,47,58,42,63,34,60,62,124]⟩:ByteArray)[1]'(by decide)).toNat:Int))=true:=by rw[hv,he];rfl
     rw[show(n==47)=true by rw[he];rfl,Bool.true_or] at hE;have HE2:=hI hE;clear hE HE he hv;go_wp2;go_ret;exact⟨a1a HE2.out,rfl⟩
    ·have t1:(n==wrap64 (((⟨#[92,47,58,42,63,34,60,62,124]⟩:ByteArray)[1]'(by decide)).toNat:Int))=false:=by rw[hv];simpa using he
     rw[show(n==47)=false by simpa using he,Bool.false_or] at hE;have HE2:=hI hE;clear hE HE he hv;go_wp2;go_round
     case rel=>exact⟨2,by go_num,by omega,HE2⟩
     case measure=>simp[intOf]
   ·have hv:wrap64 (((⟨#[92,47,58,42,63,34,60,62,124]⟩:ByteArray)[2]'(by decide)).toNat:Int)=58:=by decide +kernel
    rw[show bars.drop 2=58::bars.drop 3 from rfl,List.any_cons] at hE;by_cases he:n=58
    ·have t1:(n==wrap64 (((⟨#[92,47,58,42,63,34,60,62,124]⟩:ByteArray)[2]'(by decide)).toNat:Int))=true:=by rw[hv,he];rfl
     rw[show(n==58)=true by rw[he];rfl,Bool.true_or] at hE;have HE2:=hI hE;clear hE HE he hv;go_wp2;go_ret;exact⟨a1a HE2.out,rfl⟩
    ·have t1:(n==wrap64 (((⟨#[92,47,58,42,63,34,60,62,124]⟩:ByteArray)[2]'(by decide)).toNat:Int))=false:=by rw[hv];simpa using he
     rw[show(n==58)=false by simpa using he,Bool.false_or] at hE;have HE2:=hI hE;clear hE HE he hv;go_wp2;go_round
     case rel=>exact⟨3,by go_num,by omega,HE2⟩
     case measure=>simp[intOf]
   ·have hv:wrap64 (((⟨#[92,47,58,42,63,34,60,62,124]⟩:ByteArray)[3]'(by decide)).toNat:Int)=42:=by decide +kernel
    rw[show bars.drop 3=42::bars.drop 4 from rfl,List.any_cons] at hE;by_cases he:n=42
    ·have t1:(n==wrap64 (((⟨#[92,47,58,42,63,34,60,62,124]⟩:ByteArray)[3]'(by decide)).toNat:Int))=true:=by rw[hv,he];rfl
     rw[show(n==42)=true by rw[he];rfl,Bool.true_or] at hE;have HE2:=hI hE;clear hE HE he hv;go_wp2;go_ret;exact⟨a1a HE2.out,rfl⟩
    ·have t1:(n==wrap64 (((⟨#[92,47,58,42,63,34,60,62,124]⟩:ByteArray)[3]'(by decide)).toNat:Int))=false:=by rw[hv];simpa using he
     rw[show(n==42)=false by simpa using he,Bool.false_or] at hE;have HE2:=hI hE;clear hE HE he hv;go_wp2;go_round
     case rel=>exact⟨4,by go_num,by omega,HE2⟩
     case measure=>simp[intOf]
   ·have hv:wrap64 (((⟨#[92,47,58,42,63,34,60,62,124]⟩:ByteArray)[4]'(by decide)).toNat:Int)=63:=by decide +kernel
    rw[show bars.drop 4=63::bars.drop 5 from rfl,List.any_cons] at hE;by_cases he:n=63
    ·have t1:(n==wrap64 (((⟨#[92,47,58,42,63,34,60,62,124]⟩:ByteArray)[4]'(by decide)).toNat:Int))=true:=by rw[hv,he];rfl
     rw[show(n==63)=true by rw[he];rfl,Bool.true_or] at hE;have HE2:=hI hE;clear hE HE he hv;go_wp2;go_ret;exact⟨a1a HE2.out,rfl⟩
    ·have t1:(n==wrap64 (((⟨#[92,47,58,42,63,34,60,62,124]⟩:ByteArray)[4]'(by decide)).toNat:Int))=false:=by rw[hv];simpa using he
     rw[show(n==63)=false by simpa using he,Bool.false_or] at hE;have HE2:=hI hE;clear hE HE he hv;go_wp2;go_round
     case rel=>exact⟨5,by go_num,by omega,HE2⟩
     case measure=>simp[intOf]
   ·have hv:wrap64 (((⟨#[92,47,58,42,63,34,60,62,124]⟩:ByteArray)[5]'(by decide)).toNat:Int)=34:=by decide +kernel
    rw[show bars.drop 5=34::bars.drop 6 from rfl,List.any_cons] at hE;by_cases he:n=34
    ·have t1:(n==wrap64 (((⟨#[92,47,58,42,63,34,60,62,124]⟩:ByteArray)[5]'(by decide)).toNat:Int))=true:=by rw[hv,he];rfl
     rw[show(n==34)=true by rw[he];rfl,Bool.true_or] at hE;have HE2:=hI hE;clear hE HE he hv;go_wp2;go_ret;exact⟨a1a HE2.out,rfl⟩
    ·have t1:(n==wrap64 (((⟨#[92,47,58,42,63,34,60,62,124]⟩:ByteArray)[5]'(by decide)).toNat:Int))=false:=by rw[hv];simpa using he
     rw[show(n==34)=false by simpa using he,Bool.false_or] at hE;have HE2:=hI hE;clear hE HE he hv;go_wp2;go_round
     case rel=>exact⟨6,by go_num,by omega,HE2⟩
     case measure=>simp[intOf]
   ·have hv:wrap64 (((⟨#[92,47,58,42,63,34,60,62,124]⟩:ByteArray)[6]'(by decide)).toNat:Int)=60:=by decide +kernel
    rw[show bars.drop 6=60::bars.drop 7 from rfl,List.any_cons] at hE;by_cases he:n=60
    ·have t1:(n==wrap64 (((⟨#[92,47,58,42,63,34,60,62,124]⟩:ByteArray)[6]'(by decide)).toNat:Int))=true:=by rw[hv,he];rfl
     rw[show(n==60)=true by rw[he];rfl,Bool.true_or] at hE;have HE2:=hI hE;clear hE HE he hv;go_wp2;go_ret;exact⟨a1a HE2.out,rfl⟩
    ·have t1:(n==wrap64 (((⟨#[92,47,58,42,63,34,60,62,124]⟩:ByteArray)[6]'(by decide)).toNat:Int))=false:=by rw[hv];simpa using he
     rw[show(n==60)=false by simpa using he,Bool.false_or] at hE;have HE2:=hI hE;clear hE HE he hv;go_wp2;go_round
     case rel=>exact⟨7,by go_num,by omega,HE2⟩
     case measure=>simp[intOf]
   ·have hv:wrap64 (((⟨#[92,47,58,42,63,34,60,62,124]⟩:ByteArray)[7]'(by decide)).toNat:Int)=62:=by decide +kernel
    rw[show bars.drop 7=62::bars.drop 8 from rfl,List.any_cons] at hE;by_cases he:n=62
    ·have t1:(n==wrap64 (((⟨#[92,47,58,42,63,34,60,62,124]⟩:ByteArray)[7]'(by decide)).toNat:Int))=true:=by rw[hv,he];rfl
     rw[show(n==62)=true by rw[he];rfl,Bool.true_or] at hE;have HE2:=hI hE;clear hE HE he hv;go_wp2;go_ret;exact⟨a1a HE2.out,rfl⟩
    ·have t1:(n==wrap64 (((⟨#[92,47,58,42,63,34,60,62,124]⟩:ByteArray)[7]'(by decide)).toNat:Int))=false:=by rw[hv];simpa using he
     rw[show(n==62)=false by simpa using he,Bool.false_or] at hE;have HE2:=hI hE;clear hE HE he hv;go_wp2;go_round
     case rel=>exact⟨8,by go_num,by omega,HE2⟩
     case measure=>simp[intOf]
   ·have hv:wrap64 (((⟨#[92,47,58,42,63,34,60,62,124]⟩:ByteArray)[8]'(by decide)).toNat:Int)=124:=by decide +kernel
    rw[show bars.drop 8=124::bars.drop 9 from rfl,List.any_cons] at hE;by_cases he:n=124
    ·have t1:(n==wrap64 (((⟨#[92,47,58,42,63,34,60,62,124]⟩:ByteArray)[8]'(by decide)).toNat:Int))=true:=by rw[hv,he];rfl
     rw[show(n==124)=true by rw[he];rfl,Bool.true_or] at hE;have HE2:=hI hE;clear hE HE he hv;go_wp2;go_ret;exact⟨a1a HE2.out,rfl⟩
    ·have t1:(n==wrap64 (((⟨#[92,47,58,42,63,34,60,62,124]⟩:ByteArray)[8]'(by decide)).toNat:Int))=false:=by rw[hv];simpa using he
     rw[show(n==124)=false by simpa using he,Bool.false_or] at hE;have HE2:=hI hE;clear hE HE he hv;go_wp2;go_round
     case rel=>exact⟨9,by go_num,by omega,HE2⟩
     case measure=>simp[intOf]
   ·have HE2:Hid (false=R):=hE;clear hE HE;go_wp2;go_ret;exact⟨a1a HE2.out,rfl⟩
theorem e5b(s:ByteArray)(w:World)(hs:s.size<=4398046511104) :
  Calls Tryz.prog 96 #[.string s] w λe w'=>e=.returned (.bool (nameOf s.data.toList))/\Below w.heap.size w w':=by
 have c1:=j5a s w hs;unfold Q3a at c1;have c3:=λr w=>hI (v6b r w)
 unfold nameOf;by_cases ht':u0a s.data.toList=false
 ·rw[ht'] at c1;rw[ht',Bool.false_and];obtain⟨L,hL⟩:∃L,L=j0a s.data.toList:=⟨_,rfl⟩;rw[<-hL] at c1;have C1:=hI c1;clear c1 hL ht' c3;go_enter Tryz.func96,Tryz.ntmps96;go_wp2_with fail;refine C1.out.mono ?_;rintro e w1 ⟨v,rfl,ho1,hb1⟩;go_wp2;go_ret;exact⟨rfl,hb1⟩
 have ht:u0a s.data.toList=true:=by simpa using ht'
 rw[ht] at c1;rw[ht,Bool.true_and];clear ht ht';obtain⟨L,hL⟩:∃L,L=j0a s.data.toList:=⟨_,rfl⟩;rw[<-hL] at c1⊢;clear hL;by_cases hn:1<=L.length/\L.length<=32
 ·obtain⟨n1,n2⟩:=hn;have hname:j8a L=(L.all (λr=>!p3b r)&&(!(L.getD (L.length-1) 0==32) && !(L.getD (L.length-1) 0==46))):=by rw[v7a,decide_eq_true n1,decide_eq_true n2];rfl
  obtain⟨R,hR⟩:∃R,R=j8a L:=⟨_,rfl⟩;rw[<-hR] at hname⊢;have HR:=hI hname;have C1:=hI c1;clear c1 hR hname;go_enter Tryz.func96,Tryz.ntmps96;go_wp2_with fail;refine C1.out.mono ?_;rintro e w1 ⟨v,rfl,ho1,hb1⟩;obtain⟨A,n,c,rfl,hn,_,hm,_,hc⟩:=ho1.open;have t1:1<=(n:Int):=by omega
  have t2:(n:Int)<=32:=by omega
  obtain⟨g,rfl,_,_,hcc⟩:=hc (by omega);have HN:=hI hn;clear ho1 hn hc C1 n1 n2;go_wp2;go_loopw [5] (λi wr=>∃k:Nat,i=.int .i64 k/\k<=n/\Hid ((L.take k).all (λr=>!p3b r)=true)/\wr=w1) (λi _=>n-(intOf i).toNat)
  case atStart=>exact⟨0,rfl,Nat.zero_le _,rfl,rfl⟩
  case round=>
   obtain⟨k,rfl,hk,HA,rfl⟩:=hrel;by_cases hlt:k<n
   ·have gc:=hcc k hlt;have hkl:k<L.length:=by have:=HN.out;omega
    have htk:L.take (k+1)=L.take k++[L.getD k 0]:=by rw[List.take_succ_eq_append_getElem hkl];simp[hkl]
    have hmem:L.getD k 0∈L:=by rw[List.getD_eq_getElem?_getD,List.getElem?_eq_getElem hkl];exact List.getElem_mem hkl
    obtain⟨x,hx⟩:∃x,x=L.getD k 0:=⟨_,rfl⟩;rw[<-hx] at gc htk hmem;have d3:=(c3 x wr).out;clear hx hkl hcc c3;cases hb:p3b x
    ·rw[hb] at d3;have D3:=hI d3;have HA2:Hid ((L.take (k+1)).all (λr=>!p3b r)=true):=by
      show _=_
      rw[htk,List.all_append,HA.out];simp[hb]
     clear htk hmem hb d3 HA;go_wp2_with fail;refine D3.out.mono ?_;rintro e w2 ⟨rfl,rfl⟩;go_wp2;go_roundw
     case rel=>exact⟨k+1,by go_num,hlt,HA2,by trivial⟩
     case measure=>simp[intOf];omega
    ·rw[hb] at d3;have D3:=hI d3;have HF:Hid (false=R):=by
      show _=_
      rw[HR.out,show L.all (λr=>!p3b r)=false by rw[List.all_eq_false];exact⟨x,hmem,by simp[hb]⟩];rfl
     clear htk hmem hb d3 HA;go_wp2_with fail;refine D3.out.mono ?_;rintro e w2 ⟨rfl,rfl⟩;go_wp2;go_ret;exact⟨a1a HF.out,hb1⟩
   ·obtain rfl:k=n:=by omega
    have gc:=hcc (k-1) (by omega);have hall:L.all (λr=>!p3b r)=true:=by
     have:=HA.out
     rwa [List.take_of_length_le (by have:=HN.out;omega)] at this
    have hE:=HR.out;rw[hall,Bool.true_and,HN.out] at hE;obtain⟨x,hx⟩:∃x,x=L.getD (k-1) 0:=⟨_,rfl⟩;rw[<-hx] at gc hE;have k0:(0:Int)<=(k:Int)-1:=by omega
    clear hx hcc c3 HA hall;by_cases e1:x=32
    ·subst e1;have HE':Hid (false=R):=hE.symm;clear hE;go_wp2;go_ret;exact⟨a1a HE'.out,hb1⟩
    ·by_cases e2:x=46
     ·subst e2;have HE':Hid (false=R):=hE.symm;clear hE;go_wp2;go_ret;exact⟨a1a HE'.out,hb1⟩
     ·have t3:(x != 32)=true:=by simpa using e1
      have t4:(x != 46)=true:=by simpa using e2
      have HE':Hid (true=R):=by
       show _=_
       rw[hE];simp[e1,e2]
      clear hE;go_wp2;go_ret;exact⟨a1a HE'.out,hb1⟩
 ·have hf:j8a L=false:=by rw[v7a,Bool.eq_false_iff];intro h;simp only[Bool.and_eq_true,decide_eq_true_eq] at h;exact hn ⟨h.1.1.1,h.1.1.2⟩
  rw[hf];have C1:=hI c1;clear c1 hf c3;by_cases h1:L.length<1
  ·go_enter Tryz.func96,Tryz.ntmps96;go_wp2_with fail;refine C1.out.mono ?_;rintro e w1 ⟨v,rfl,ho1,hb1⟩;obtain⟨A,n,c,rfl,hnl,_,hm,_,hc⟩:=ho1.open;obtain rfl:n=0:=by omega
   clear ho1 hnl hc hn h1 C1;go_wp2;go_ret;exact⟨rfl,hb1⟩
  ·go_enter Tryz.func96,Tryz.ntmps96;go_wp2_with fail;refine C1.out.mono ?_;rintro e w1 ⟨v,rfl,ho1,hb1⟩;obtain⟨A,n,c,rfl,hnl,_,hm,_,hc⟩:=ho1.open;have hgt:32<(n:Int):=by omega
   have hge:1<=(n:Int):=by omega
   clear ho1 hnl hc hn h1 C1;go_wp2;go_ret;exact⟨rfl,hb1⟩
theorem m1c(l:List UInt8):(h9a l).length=l.length:=by simp[h9a]
theorem w6b(l:List UInt8):Bytes (h9a l):=λx hx=>by obtain⟨b,_,rfl⟩:=List.mem_map.1 hx;have:=b.toNat_lt;omega
theorem x6b(l:List UInt8):strOfNums (h9a l)=⟨l.toArray⟩:=by
 unfold strOfNums h9a;rw[List.map_map]
 congr 2
 have e:l.map (((λn:Int=>UInt8.ofNat n.toNat)) ∘ λb:UInt8=>(b.toNat:Int))=l.map id:=by apply List.map_congr_left;intro b _;simp
 exact e.trans (List.map_id l)
theorem G6a{ops:Array Oper}{rest:List Oper}{o:Oper}{a:Act}{w:World}{Q:Exit->Act->World->Prop}(hg:o.guard=none)(x y:Operand)(ho:o.op=.index 9 x y)(s:ByteArray)(hx:a.eval x=.string s)(i:Nat)(hy:a.eval y=.int .i64 i)(hi:i<s.size)
(h:wpList Tryz.prog ops Q rest (a.put o.dst (.int .u8 ((h9a s.data.toList).getD i 0))) w):wpList Tryz.prog ops Q (o::rest) a w:=by
 refine wpList_plain hg λK hK=>?_
 unfold Oper.wp execOp;have hv:(h9a s.data.toList).getD i 0=(s[i]'hi).toNat:=by have hi':i<s.data.size:=hi;unfold h9a;simp only[List.getD_eq_getElem?_getD,List.getElem?_map,Array.getElem?_toList,Array.getElem?_eq_getElem hi'];rfl
 have hr:(Instr.index 9 (.string s) (.int .i64 i)).run Tryz.prog w=.ok (.int .u8 ((h9a s.data.toList).getD i 0)) w:=by rw[run_index_string w 9 s .i64 i Tryz.underlying9,dif_pos ⟨by omega,by omega⟩,hv];rfl
 simp only[ho,hx,hy,hr,Sem.run_bind,Sem.run_pure,Result.andThen_ok];exact hK _ _ h
theorem C4c(s:ByteArray)(w:World)(hs:s.size<=4398046511104) :
  Calls Tryz.prog 56 #[.string s] w λe w'=>e=.returned (.bool (u0a s.data.toList))/\Below w.heap.size w w':=by
 have c1:=j5a s w hs;unfold Q3a at c1;obtain⟨t,ht⟩:∃t,t=u0a s.data.toList:=⟨_,rfl⟩;rw[<-ht] at c1⊢;have C1:=hI c1;clear c1 ht;go_enter Tryz.func56,Tryz.ntmps56;go_wp2_with fail;refine C1.out.mono ?_;rintro e w1 ⟨v,rfl,_,hb1⟩;go_wp2;go_ret;exact⟨rfl,hb1⟩
def x3c(c:Int):Int:=if 65<=c/\c<=90 then c+32 else c
theorem n1c(l:List UInt8):h9a (B0a l)=(h9a l).map x3c:=by unfold h9a B0a;rw[List.map_map,List.map_map];apply List.map_congr_left;intro b _;simp only[Function.comp,k2b];unfold x3c w0b;split<;>split<;>omega
theorem o1c(s:ByteArray)(w:World)(hs:s.size<=4398046511104) :
  Calls Tryz.prog 183 #[.string s] w λe w'=>e=.returned (.string ⟨(B0a s.data.toList).toArray⟩)/\Below w.heap.size w w':=by
 have hX:=m1c s.data.toList;rw[<-Lib.size_eq] at hX;have hby:=w6b s.data.toList;have hlo:=n1c s.data.toList;have hst:=x6b (B0a s.data.toList);obtain⟨X,hXX⟩:∃X,X=h9a s.data.toList:=⟨_,rfl⟩;obtain⟨R,hR⟩:∃R:ByteArray,R=⟨(B0a s.data.toList).toArray⟩:=⟨_,rfl⟩;rw[<-hXX] at hX hby hlo;rw[hlo,<-hR] at hst;rw[<-hR];have HX:=hI hX;have HXX:=hI hXX;have HBY:=hI hby;have HST:=hI hst;clear hX hXX hby hlo hst hR;go_enter Tryz.func183,Tryz.ntmps183;go_wp2;go_loopw [3,4,5] (λv i _ wr=>∃k:Nat,i=.int .i64 k/\k<=s.size/\Hid (v1a .u8 5 wr w.heap.size v ((X.take k).map x3c))/\Hid (Below w.heap.size w wr)) (λ_ i _ _=>s.size-(intOf i).toNat)
 case atStart=>exact⟨0,rfl,Nat.zero_le _,v1a.nil _ _ _ _,Below.refl _ _⟩
 case round=>
  obtain⟨k,rfl,hk,HO,HBl⟩:=hrel;have hbs:=HBl.out.size;by_cases hlt:k<s.size
  ·have hc:=HBY.out.getD k;obtain⟨c,hcc⟩:∃c,c=X.getD k 0:=⟨_,rfl⟩;rw[<-hcc] at hc;obtain⟨hc0,hc1⟩:=hc;have htk:(X.take (k+1)).map x3c=(X.take k).map x3c++[x3c c]:=by have:=HX.out;rw[List.take_succ_eq_append_getElem (by omega),List.map_append,hcc];simp[show k<X.length by omega]
   have hidx:(h9a s.data.toList).getD k 0=c:=by rw[hcc,HXX.out]
   have hlen:((X.take k).map x3c).length<=k:=by rw[List.length_map,List.length_take];omega
   have HI:=hI hidx;clear hcc hidx;by_cases hl:65<=c/\c<=90
   ·have e:x3c c=c+32:=if_pos hl;rw[e] at htk;have HT:=hI htk;obtain⟨hl0,hl1⟩:=hl;clear htk e;go_wp2_with(first
     | ((with_reducible refine sN 14 ?_);refine G6a rfl (.tmp 12) (.tmp 13) rfl s rfl k rfl hlt ?_;rw[HI.out])
     | (at_builtin;go_loud (refine c1a rfl (.tmp 23) (.tmp 25) .u8 51 5 1 Tryz.underlying51 U4a rfl w.heap.size _ _ [c+32] _ rfl 1 1 rfl rfl rfl HO.out (by omega) (by omega) hbs ?_;intro v1 w1 ho1 hg1))
     | fail)
    have hb1:=hI (HBl.out.trans (hg1.out.below HO.out hbs));rw[<-HT.out] at ho1;clear hg1;go_roundw
    case rel=>exact⟨k+1,by go_num,hlt,ho1,hb1⟩
    case measure=>simp[intOf];omega
   ·have e:x3c c=c:=if_neg hl;rw[e] at htk;have HT:=hI htk;have hl':c<65∨90<c:=by omega
    clear htk e hl;rcases hl' with hl | hl
    all_goals
     go_wp2_with(first
      | ((with_reducible refine sN 14 ?_);refine G6a rfl (.tmp 12) (.tmp 13) rfl s rfl k rfl hlt ?_;rw[HI.out])
      | (at_builtin;go_loud (refine c1a rfl (.tmp 23) (.tmp 25) .u8 51 5 1 Tryz.underlying51 U4a rfl w.heap.size _ _ [c] _ rfl 1 1 rfl rfl rfl HO.out (by omega) (by omega) hbs ?_;intro v1 w1 ho1 hg1))
      | fail)
     have hb1:=hI (HBl.out.trans (hg1.out.below HO.out hbs));rw[<-HT.out] at ho1;clear hg1;go_roundw
     case rel=>exact⟨k+1,by go_num,hlt,ho1,hb1⟩
     case measure=>simp[intOf];omega
  ·have hcv:=W7a (P:=Tryz.prog) (src:=51) Tryz.underlying51 Tryz.underlying5 HO.out;rw[List.take_of_length_le (by have:=HX.out;omega),HST.out] at hcv;have hkn:¬k<s.size:=hlt;clear HO;go_wp2;go_ret;exact⟨rfl,HBl.out⟩
def k7a(w:World)(l:List UInt8)(e:Ending)(w':World):Prop:=∃v,e=.returned (.tuple #[v,.bool (u0a l)])/\v1a .i64 3 w' w.heap.size v (s0a l)/\Below w.heap.size w w'
theorem l0b(s:ByteArray)(w:World)(hs:s.size<=4398046511104) :
  Calls Tryz.prog 155 #[.string s] w (k7a w s.data.toList):=by
 have c1:=hI (o1c s w hs);have hxs:(⟨(B0a s.data.toList).toArray⟩:ByteArray).size<=4398046511104:=by rw[v3b,K6a,<-Lib.size_eq];exact hs
 have c2:=λw=>j5a ⟨(B0a s.data.toList).toArray⟩ w hxs
 have e1:u0a (⟨(B0a s.data.toList).toArray⟩:ByteArray).data.toList=u0a s.data.toList:=i8a _;have e2:j0a (⟨(B0a s.data.toList).toArray⟩:ByteArray).data.toList=s0a s.data.toList:=(j4a _).symm;unfold Q3a at c2;rw[e1,e2] at c2;have hq:∀e w',(∃v,e=.returned (.tuple #[v,.bool (u0a s.data.toList)])/\v1a .i64 3 w' w.heap.size v (s0a s.data.toList)/\Below w.heap.size w w')->k7a w s.data.toList e w':=λ_ _ h=>h
 obtain⟨X,hX⟩:∃X:ByteArray,X=⟨(B0a s.data.toList).toArray⟩:=⟨_,rfl⟩;obtain⟨t,ht⟩:∃t,t=u0a s.data.toList:=⟨_,rfl⟩;obtain⟨L,hL⟩:∃L,L=s0a s.data.toList:=⟨_,rfl⟩;rw[<-hX] at c1 c2;rw[<-ht,<-hL] at c2 hq;have C2:=hI c2;have HQ:=hI hq;clear c2 e1 e2 hxs hX ht hL hq;go_enter Tryz.func155,Tryz.ntmps155;go_wp2_with fail;refine c1.out.mono ?_;rintro e w1 ⟨rfl,hb1⟩;go_wp2_with fail;refine(C2.out _).mono ?_;rintro e w2 ⟨v,rfl,ho2,hb2⟩;have HO:=hI ho2;clear ho2;go_wp2;go_ret2;exact HQ.out _ _ ⟨v,rfl,HO.out.mono hb1.size,step hb1 hb2⟩
def l9a(w:World)(p t:List UInt8)(e:Ending)(w':World):Prop:=∃v u,e=.returned (.tuple #[v,u,.int .i64 (M0a p t)])/\(M0a p t=0->v1a .i64 3 w' w.heap.size v (s0a p)/\v1a .i64 3 w' w.heap.size u (s0a t))/\Below w.heap.size w w'
theorem p1c(p s:ByteArray)(w:World)(hp:p.size<=4398046511104)(hs:s.size<=4398046511104) :
  Calls Tryz.prog 103 #[.string p,.string s] w (l9a w p.data.toList s.data.toList):=by
 have c1:=λw=>hI (l0b p w hp)
 have c2:=λw=>hI (l0b s w hs)
 unfold k7a at c1 c2;have lp:=H2a p.data.toList;have ls:=H2a s.data.toList;have hq:∀n,M0a p.data.toList s.data.toList=n->∀e w',(∃v u,e=.returned (.tuple #[v,u,.int .i64 n])/\(n=0->v1a .i64 3 w' w.heap.size v (s0a p.data.toList)/\v1a .i64 3 w' w.heap.size u (s0a s.data.toList))/\Below w.heap.size w w')->l9a w p.data.toList s.data.toList e w':=λn hn e w' h=>by unfold l9a;rw[hn];exact h
 by_cases tp':u0a p.data.toList=false
 ·have HQ:=hI (hq _ (m6a (.inl tp')));rw[tp'] at c1;obtain⟨t,ht⟩:∃t,t=u0a s.data.toList:=⟨_,rfl⟩;rw[<-ht] at c2;clear hq tp' lp ls ht;cases t;all_goals
   go_enter Tryz.func103,Tryz.ntmps103;go_wp2_with fail;refine(c1 _).out.mono ?_;rintro e w1 ⟨v,rfl,ho1,hb1⟩;obtain⟨A1,n1,k1,rfl,hn1,_,hm1,_,_⟩:=ho1.open;have HO1:=hI ho1;clear ho1;go_wp2_with fail;refine(c2 _).out.mono ?_;rintro e w2 ⟨u,rfl,ho2,hb2⟩;obtain⟨A2,n2,k2,rfl,hn2,_,hm2,_,_⟩:=ho2.open;have HO2:=hI ho2;have HN1:=hI hn1;have HN2:=hI hn2;clear ho2 hn1 hn2;go_wp2;go_ret3;exact HQ.out _ _ ⟨_,_,rfl,(λh=>absurd h (by decide)),step hb1 hb2⟩
 have tp:u0a p.data.toList=true:=by simpa using tp'
 rw[tp] at c1;by_cases ts':u0a s.data.toList=false
 ·have HQ:=hI (hq _ (m6a (.inr ts')));rw[ts'] at c2;clear hq tp tp' ts' lp ls;go_enter Tryz.func103,Tryz.ntmps103;go_wp2_with fail;refine(c1 _).out.mono ?_;rintro e w1 ⟨v,rfl,ho1,hb1⟩;obtain⟨A1,n1,k1,rfl,hn1,_,hm1,_,_⟩:=ho1.open;have HO1:=hI ho1;clear ho1;go_wp2_with fail;refine(c2 _).out.mono ?_;rintro e w2 ⟨u,rfl,ho2,hb2⟩;obtain⟨A2,n2,k2,rfl,hn2,_,hm2,_,_⟩:=ho2.open;have HO2:=hI ho2;have HN1:=hI hn1;have HN2:=hI hn2;clear ho2 hn1 hn2;go_wp2;go_ret3;exact HQ.out _ _ ⟨_,_,rfl,(λh=>absurd h (by decide)),step hb1 hb2⟩
 have ts:u0a s.data.toList=true:=by simpa using ts'
 rw[ts] at c2;clear tp' ts';by_cases l1:64<(j0a p.data.toList).length
 ·have HQ:=hI (hq _ (r5a tp ts (.inl l1)));rw[<-lp] at l1;have HL1:=hI l1;clear hq tp ts lp ls l1;go_enter Tryz.func103,Tryz.ntmps103;go_wp2_with fail;refine(c1 _).out.mono ?_;rintro e w1 ⟨v,rfl,ho1,hb1⟩;obtain⟨A1,n1,k1,rfl,hn1,_,hm1,_,_⟩:=ho1.open;have HO1:=hI ho1;clear ho1;go_wp2_with fail;refine(c2 _).out.mono ?_;rintro e w2 ⟨u,rfl,ho2,hb2⟩;obtain⟨A2,n2,k2,rfl,hn2,_,hm2,_,_⟩:=ho2.open;have HO2:=hI ho2;have HN1:=hI hn1;have HN2:=hI hn2;clear ho2 hn1 hn2;have hgt:(64:Int)<(n1:Int):=by have:=HL1.out;have:=HN1.out;omega
  go_wp2;go_ret3;exact HQ.out _ _ ⟨_,_,rfl,(λh=>absurd h (by decide)),step hb1 hb2⟩
 by_cases l2:256<(j0a s.data.toList).length
 ·have HQ:=hI (hq _ (r5a tp ts (.inr l2)));rw[<-lp] at l1;rw[<-ls] at l2;have HL1:=hI l1;have HL2:=hI l2;clear hq tp ts lp ls l1 l2;go_enter Tryz.func103,Tryz.ntmps103;go_wp2_with fail;refine(c1 _).out.mono ?_;rintro e w1 ⟨v,rfl,ho1,hb1⟩;obtain⟨A1,n1,k1,rfl,hn1,_,hm1,_,_⟩:=ho1.open;have HO1:=hI ho1;clear ho1;go_wp2_with fail;refine(c2 _).out.mono ?_;rintro e w2 ⟨u,rfl,ho2,hb2⟩;obtain⟨A2,n2,k2,rfl,hn2,_,hm2,_,_⟩:=ho2.open;have HO2:=hI ho2;have HN1:=hI hn1;have HN2:=hI hn2;clear ho2 hn1 hn2;have hle:(n1:Int)<=64:=by have:=HL1.out;have:=HN1.out;omega
  have hgt:(256:Int)<(n2:Int):=by have:=HL2.out;have:=HN2.out;omega
  go_wp2;go_ret3;exact HQ.out _ _ ⟨_,_,rfl,(λh=>absurd h (by decide)),step hb1 hb2⟩
 ·have HQ:=hI (hq _ (Y4a.2 ⟨tp,ts,by omega,by omega⟩));rw[<-lp] at l1;rw[<-ls] at l2;have HL1:=hI l1;have HL2:=hI l2;clear hq tp ts lp ls l1 l2;go_enter Tryz.func103,Tryz.ntmps103;go_wp2_with fail;refine(c1 _).out.mono ?_;rintro e w1 ⟨v,rfl,ho1,hb1⟩;obtain⟨A1,n1,k1,rfl,hn1,_,hm1,_,_⟩:=ho1.open;have HO1:=hI ho1;clear ho1;go_wp2_with fail;refine(c2 _).out.mono ?_;rintro e w2 ⟨u,rfl,ho2,hb2⟩;obtain⟨A2,n2,k2,rfl,hn2,_,hm2,_,_⟩:=ho2.open;have HO2:=hI ho2;have HN1:=hI hn1;have HN2:=hI hn2;clear ho2 hn1 hn2;have hle:(n1:Int)<=64:=by have:=HL1.out;have:=HN1.out;omega
  have hle2:(n2:Int)<=256:=by have:=HL2.out;have:=HN2.out;omega
  go_wp2;go_ret3;exact HQ.out _ _ ⟨_,_,rfl,(λ_=>⟨HO1.out.below hb2,HO2.out.mono hb1.size⟩),step hb1 hb2⟩
theorem V2b:(Tryz.prog.info? 4).map (λi=>(i.zero,i.size,i.bytes))=some (some (.bool false),1,1):=by kernel_rfl
section
variable {w w':World} {g g' B:Nat} {bs cs:List Bool}
theorem Y5a{ops:Array Oper}{rest:List Oper}{o:Oper}{a:Act}{Q:Exit->Act->World->Prop}
(hg:o.guard=none)(l c:Operand)(hop:o.op=Op.makeSlice 102 l c)(L C:Int)(n:Nat)(hl:a.eval l=.int .i64 L)(hc:a.eval c=.int .i64 C)(hL:L=(n:Int))(hC:C=(n:Int))(hn:n<=281474976710656)
(hK:∀w',Hid (Y7a w' w.heap.size (List.replicate n false))->Hid (Below w.heap.size w w')->wpList Tryz.prog ops Q rest (a.put o.dst (.slice (some ⟨w.heap.size,0,none⟩) n n)) w') :
  wpList Tryz.prog ops Q (o::rest) a w:=by
 obtain⟨i0,hi,hz0,hz1,hz2⟩:=info_parts V2b;refine wpList_make_full w hg l c 102 hop w.heap.size 4 i0 (.bool false) 1 Tryz.underlying102 hi hz0 hz1 .i64 .i64 L C n hl hc hL hC (by rw[hz2];omega) (by unfold maxLen;omega) (Nat.le_refl _) ?_;intro w' hown hgr;refine hK w' ?_ ((Below.refl _ _).grown hgr (Nat.le_refl _) (λk hk=>by cases hk));rcases hown.2 with⟨h0,_⟩ | ⟨g,cap,cur,hv,_,hh,_,_,hcs,htk⟩
 ·cases h0
 ·simp only[Value.slice.injEq,Option.some.injEq,Addr.mk.injEq,and_true,true_and] at hv;obtain⟨rfl,rfl⟩:=hv;show w'.heap[_]? = _
  rw[hh];have e:cur.toList=List.replicate n (.bool false):=by have h1:cur.toList.take (n*1)=cur.toList:=List.take_of_length_le (by simp[hcs]);rw[<-h1,htk];rw[Nat.mul_one];exact toList_madeCells_one (.bool false) n
  rw[List.map_replicate,<-e]
theorem M1a{ops:Array Oper}{rest:List Oper}{o:Oper}{a:Act}{Q:Exit->Act->World->Prop}(hgd:o.guard=none)(x y:Operand)(ho:o.op=.store 4 x y)(g i:Nat)(hx:a.eval x=.pointer (some ⟨g,i,none⟩))
(b:Bool)(hy:a.eval y=.bool b)(hB:Y7a w g bs)(hi:i<bs.length)
(h:∀w',Hid (Y7a w' g (bs.set i b))->Hid (S1a g w w')->wpList Tryz.prog ops Q rest a w')(hd:o.dst=none:=by rfl):wpList Tryz.prog ops Q (o::rest) a w:=by
 have hp:a.put o.dst undef=a:=by rw[hd];rfl
 obtain⟨i0,hi0,_,hz1,_⟩:=info_parts V2b;have hrun:(storeVar 4 ⟨g,i,none⟩ (.bool b)).run Tryz.prog w=.ok () (w.setCell ⟨g,i,none⟩ (.bool b)):=by
  have hc:=hB.cell hi;have hf:=hB.frozen i;have ha:(⟨g,i,none⟩:Addr).add 0=⟨g,i,none⟩:=by simp[Addr.add]
  simp[storeVar,sizeOf,typeInfo,hi0,hz1,Value.cells,storeCells,run_store_bool,stored];rw[ha,hc,hf];rfl
 refine wpList_plain hgd λK hK=>?_
 unfold Oper.wp execOp;simp only[ho,hx,hy,Instr.storeAt,Instr.sureAddr,Sem.run_bind,Sem.run_pure,Result.andThen_ok,hrun];show K (a.put o.dst undef) _
 rw[hp];refine hK _ _ (h _ ?_ ((S1a.refl g w).setCell i _));have h1:=heap_setCell_same w g i _ 4 (.bool b) hB;unfold Y7a;show _=_
 rw[h1];simp[List.map_set]
end
def H6a(n k:Nat):List Bool:=(List.range (n+1)).map λj=>decide (j<=k)
noncomputable def Z5a (p t:List Int) (k:Nat):List Bool:=(List.range (p.length+1)).map λj=>decide (j<=k)&&m2a p j t
theorem R3b(p t:List Int):(rowB p t).length=p.length+1:=by simp[rowB]
theorem E8b(n k:Nat):(H6a n k).length=n+1:=by simp[H6a]
theorem a6a(p t:List Int)(k:Nat):(Z5a p t k).length=p.length+1:=by simp[Z5a]
theorem y6b(p t:List Int)(j:Nat)(hj:j<=p.length):(rowB p t).getD j false=m2a p j t:=by simp[rowB,List.getD_eq_getElem?_getD,show j<p.length+1 by omega]
theorem y3c(p t:List Int)(k j:Nat)(hj:j<=p.length)(hk:j<=k):(Z5a p t k).getD j false=m2a p j t:=by simp[Z5a,List.getD_eq_getElem?_getD,show j<p.length+1 by omega,hk]
theorem z6b(n:Nat):(List.replicate (n+1) false).set 0 true=H6a n 0:=by
 apply List.ext_getElem
 ·simp[H6a]
 ·intro i h1 h2;simp only[H6a,List.getElem_map,List.getElem_range,List.getElem_set,List.getElem_replicate];by_cases h:i=0
  ·subst h;simp
  ·rw[if_neg (by omega)];simp;omega
theorem F8b(n k:Nat):(H6a n k).set (k+1) true=H6a n (k+1):=by
 apply List.ext_getElem
 ·simp[H6a]
 ·intro i h1 h2;simp only[H6a,List.getElem_map,List.getElem_range,List.getElem_set];by_cases h:k+1=i
  ·rw[if_pos h];simp;omega
  ·rw[if_neg h];exact decide_eq_decide.2 (by omega)
theorem A6b(p:List Int)(k:Nat)(hk:k<=p.length)(hs:∀j,j<k->p.getD j 0=42)(he:k=p.length∨p.getD k 0≠42)(j:Nat)(hj:j<=p.length):m2a p j []=decide (j<=k):=by
 induction j with
 | zero=>rw[m2b];simp
 | succ j ih=>
  have ih:=ih (by omega);by_cases hc:p.getD j 0=42
  ·rw[X7a p j (by omega) hc,ih];refine decide_eq_decide.2 ?_;rcases he with he | he
   ·omega
   ·by_cases h:j=k
    ·subst h;exact absurd hc he
    ·omega
  ·rw[L6a p j (by omega) hc];by_cases h:j<k
   ·exact absurd (hs j h) hc
   ·exact(decide_eq_false (by omega)).symm
theorem D1b(p:List Int)(k:Nat)(hk:k<=p.length)(hs:∀j,j<k->p.getD j 0=42)(he:k=p.length∨p.getD k 0≠42):H6a p.length k=rowB p []:=by unfold H6a rowB;apply List.map_congr_left;intro j hj;exact(A6b p k hk hs he j (by have:=List.mem_range.1 hj;omega)).symm
theorem G8b(p t:List Int)(x:Int):List.replicate (p.length+1) false=Z5a p (t++[x]) 0:=by
 apply List.ext_getElem
 ·simp[Z5a]
 ·intro i h1 h2;simp only[Z5a,List.getElem_map,List.getElem_range,List.getElem_replicate];by_cases h:i=0
  ·subst h;rw[n2b];rfl
  ·rw[decide_eq_false (by omega)];rfl
theorem q1c(p t:List Int)(k:Nat):(Z5a p t k).set (k+1) (m2a p (k+1) t)=Z5a p t (k+1):=by
 apply List.ext_getElem
 ·simp[Z5a]
 ·intro i h1 h2;simp only[Z5a,List.getElem_map,List.getElem_range,List.getElem_set];by_cases h:k+1=i
  ·rw[if_pos h,h];simp
  ·rw[if_neg h]
   congr 1
   exact decide_eq_decide.2 (by omega)
theorem H8b(p t:List Int)(k:Nat)(h:m2a p (k+1) t=false):Z5a p t k=Z5a p t (k+1):=by
 unfold Z5a;apply List.map_congr_left;intro j _;by_cases hj:j=k+1
 ·subst hj;rw[h,Bool.and_false,Bool.and_false]
 ·congr 1
  exact decide_eq_decide.2 (by omega)
theorem I8b(p t:List Int):Z5a p t p.length=rowB p t:=by unfold Z5a rowB;apply List.map_congr_left;intro j hj;rw[decide_eq_true (by have:=List.mem_range.1 hj;omega),Bool.true_and]
theorem r1c(w:World)(base base':Nat)(v u:Value)(p t:List Int)(hp:v1a .i64 3 w base v p)(ht:v1a .i64 3 w base' u t)(hpl:p.length<=1000)(htl:t.length<=1000) :
  Calls Tryz.prog 104 #[v,u] w λe w'=>e=.returned (.bool (m2a p p.length t))/\Below w.heap.size w w':=by
 obtain⟨Ap,np,cp,rfl,hnp,_,_,_,hcp⟩:=hp.open;obtain⟨At,nt,ct,rfl,hnt,_,_,_,hct⟩:=ht.open;have HNP:=hI hnp;have HNT:=hI hnt;have HK:Hid (RK w w base base' (.slice Ap np cp) (.slice At nt ct) p t):=⟨hp,ht,Below.refl _ _⟩;have hpl':np<=1000:=by omega
 have htl':nt<=1000:=by omega
 clear hnp hnt hp ht hpl htl;go_enter Tryz.func104,Tryz.ntmps104;go_upto_block 0 with(first
  | ((with_reducible refine sN 13 ?_);refine Y5a rfl (.tmp 12) (.tmp 12) rfl _ _ (np+1) rfl rfl (by omega) (by omega) (by omega) ?_;intro w1 R1 b1)
  | ((with_reducible show wpList _ _ _ (⟨none,_,_,_,_,_⟩::_) _ _);refine M1a rfl (.tmp 15) _ rfl w.heap.size 0 rfl true rfl R1.out (by simp) ?_;intro w2 R2 O2)
  | fail)
 rw[z6b] at R2;have K2:Hid (RK w w2 base base' (.slice Ap np cp) (.slice At nt ct) p t):=(HK.out.over b1.out).only R1.out (Nat.le_refl _) O2.out;clear R1 b1 O2 HK;go_cut [6] (λ_ wx=>Hid (Y7a wx w.heap.size (rowB p []))/\Hid (RK w wx base base' (.slice Ap np cp) (.slice At nt ct) p t))
 case first=>
  go_wp2_with fail;go_loopw [6] (λi wr=>∃k:Nat,i=.int .i64 k/\k<=np/\Hid (∀j,j<k->p.getD j 0=42)/\Hid (Y7a wr w.heap.size (H6a np k))/\Hid (RK w wr base base' (.slice Ap np cp) (.slice At nt ct) p t)) (λi _=>np-(intOf i).toNat)
  case atStart=>exact⟨0,rfl,Nat.zero_le _,λj hj=>absurd hj (Nat.not_lt_zero _),R2,K2⟩
  case round=>
   clear R2 K2;obtain⟨k,rfl,hk,HS,R2,K2⟩:=hrel;by_cases hlt:k<np
   ·obtain⟨gp,rfl,_,_,_⟩:=hcp (by omega);have gk:=K2.out.pat.at hlt;obtain⟨c,hc⟩:∃c,c=p.getD k 0:=⟨_,rfl⟩;rw[<-hc] at gk;by_cases h42:c=42
    ·have HS':Hid (∀j,j<k+1->p.getD j 0=42):=λj hj=>by
      by_cases h:j=k
      ·rw[h,<-hc,h42]
      ·exact HS.out j (by omega)
     have ht:(c==42)=true:=by simpa using h42
     clear hc h42 hcp hct HS;go_wp2_with(first
      | ((with_reducible show wpList _ _ _ (⟨none,_,_,_,_,_⟩::_) _ _);go_loud (refine M1a rfl (.tmp 32) _ rfl w.heap.size (k+1) rfl true rfl R2.out (by rw[E8b];omega) ?_;intro w3 R3 O3))
      | fail)
     have K3:=hI (K2.out.only R2.out (Nat.le_refl _) O3.out);rw[F8b] at R3;go_roundw
     case rel=>exact⟨k+1,by go_num,hlt,HS',R3,K3⟩
     case measure=>simp[intOf];omega
    ·have hd:=D1b p k (by have:=HNP.out;omega) HS.out (.inr (by rw[<-hc];exact h42));rw[HNP.out] at hd;rw[hd] at R2;have ht:(c==42)=false:=by simpa using h42
     clear hc h42 hcp hct HS hd;go_wp2_with fail;go_meet;exact⟨R2,K2⟩
   ·have hd:=D1b p k (by have:=HNP.out;omega) HS.out (.inl (by have:=HNP.out;omega));rw[HNP.out] at hd;rw[hd] at R2;clear hcp hct HS hd;go_wp2_with fail;go_meet;exact⟨R2,K2⟩
 case rest=>
  clear R2 K2;obtain⟨R2,K2⟩:=hcut;go_wp2_with fail;have hw0:w.heap.size<=w.heap.size:=Nat.le_refl _;go_loopw [5,7] (λa i wr=>∃(j g:Nat),i=.int .i64 j/\j<=nt/\a=.slice (some ⟨g,0,none⟩) (np+1) (np+1)/\w.heap.size<=g/\Hid (Y7a wr g (rowB p (t.take j)))/\Hid (RK w wr base base' (.slice Ap np cp) (.slice At nt ct) p t)) (λ_ i _=>nt-(intOf i).toNat)
  case atStart=>exact⟨0,_,rfl,Nat.zero_le _,rfl,hw0,by simpa using R2,K2⟩
  case round=>
   clear R2 K2 hw0;obtain⟨j,g1,rfl,hj,rfl,hg1,R1,K1⟩:=hrel;by_cases hlt:j<nt
   ·obtain⟨gt,rfl,_,_,_⟩:=hct (by omega);obtain⟨x,hxx⟩:∃x,x=t.getD j 0:=⟨_,rfl⟩;obtain⟨T,hTT⟩:∃T,T=t.take j:=⟨_,rfl⟩;have hTn:t.take (j+1)=T++[x]:=by have:=HNT.out;rw[List.take_succ_eq_append_getElem (by omega),hTT,hxx];simp[show j<t.length by omega]
    rw[<-hTT] at R1;have HTN:=hI hTn;have HX:=hI hxx;have hlt1:=R1.out.lt;have hnz:=G8b p T x;rw[HNP.out] at hnz;have HNZ:=hI hnz;clear hTT hTn hxx hct hnz;go_wp2_with(first
     | ((with_reducible refine sN 42 ?_);refine Y5a rfl (.tmp 41) (.tmp 41) rfl _ _ (np+1) rfl rfl (by omega) (by omega) (by omega) ?_;intro w3 R3 b3)
     | fail)
    have K3:=hI (K1.out.over b3.out);have R1':=hI (R1.out.below b3.out);obtain⟨g2,hg2⟩:∃g,g=wr.heap.size:=⟨_,rfl⟩;rw[<-hg2] at R3⊢;have hg12:g1≠g2:=by omega
    have hwg2:w.heap.size<=g2:=by omega
    rw[HNZ.out] at R3;clear R1 K1 b3 hg2 hlt1 HNZ;go_loopw [9] (λi wr=>∃k:Nat,i=.int .i64 k/\k<=np/\Hid (Y7a wr g2 (Z5a p (T++[x]) k))/\Hid (Y7a wr g1 (rowB p T))/\Hid (RK w wr base base' (.slice Ap np cp) (.slice (some ⟨gt,0,none⟩) nt ct) p t)) (λi _=>np-(intOf i).toNat)
    case atStart=>exact⟨0,rfl,Nat.zero_le _,R3,R1',K3⟩
    case round=>
     clear R3 R1' K3;obtain⟨k,rfl,hk,S2,S1,KK⟩:=hrel;by_cases hlk:k<np
     ·obtain⟨gp,rfl,_,_,_⟩:=hcp (by omega);have gk:=KK.out.pat.at hlk;have gx:=KK.out.text.at hlt;rw[<-HX.out] at gx;have gS:=q1c p (T++[x]) k;have hlp:k<p.length:=by have:=HNP.out;omega
      have a0c:=S1.out.cell (i:=k) (by rw[R3b];omega);have a1c:=S1.out.cell (i:=k+1) (by rw[R3b];omega);have n0c:=S2.out.cell (i:=k) (by rw[a6a];omega);rw[y6b p T k (by omega)] at a0c;rw[y6b p T (k+1) (by omega)] at a1c;rw[y3c p (T++[x]) k k (by omega) (Nat.le_refl _)] at n0c;have hst:=t9a p T x k hlp;have hon:=O0b p T x k hlp;have hot:=P0b p T x k hlp;have hsame:=H8b p (T++[x]) k;obtain⟨c,hc⟩:∃c,c=p.getD k 0:=⟨_,rfl⟩;rw[<-hc] at gk hst hon hot;obtain⟨a0,ha0⟩:∃b,b=m2a p k T:=⟨_,rfl⟩;obtain⟨a1,ha1⟩:∃b,b=m2a p (k+1) T:=⟨_,rfl⟩;obtain⟨n0,hn0⟩:∃b,b=m2a p k (T++[x]):=⟨_,rfl⟩;obtain⟨n1,hn1⟩:∃b,b=m2a p (k+1) (T++[x]):=⟨_,rfl⟩;rw[<-ha0,<-ha1,<-hn0,<-hn1] at hst;rw[<-ha0,<-hn1] at hon;rw[<-hn1] at hot hsame gS;rw[<-ha0] at a0c;rw[<-ha1] at a1c;rw[<-hn0] at n0c;clear hc ha0 ha1 hn0 hn1 hlp;by_cases h42:c=42
      ·have hcb:(c==42)=true:=by simpa using h42
       have hst:=hst h42;cases a1
       ·cases a0
        ·have hn1:n1=n0:=by rw[hst];simp
         rw[hn1] at gS;have HSET:=hI gS;clear gS hst hon hot hsame h42 hn1 hcp;go_wp2_with(first
          | ((with_reducible show wpList _ _ _ (⟨none,_,_,_,_,_⟩::_) _ _);go_loud (refine M1a rfl (.tmp 75) _ rfl g2 (k+1) rfl _ rfl S2.out (by rw[a6a,HNP.out];omega) ?_;intro w4 S4 O4))
          | fail)
         have K4:=hI (KK.out.only S2.out (by omega) O4.out);have S1':=hI (S1.out.only O4.out hg12);rw[HSET.out] at S4;go_roundw
         case rel=>exact⟨k+1,by go_num,hlk,S4,S1',K4⟩
         case measure=>simp[intOf];omega
        ·have hn1:n1=true:=by rw[hst];simp
         rw[hn1] at gS;have HSET:=hI gS;clear gS hst hon hot hsame h42 hn1 hcp;go_wp2_with(first
          | ((with_reducible show wpList _ _ _ (⟨none,_,_,_,_,_⟩::_) _ _);go_loud (refine M1a rfl (.tmp 75) _ rfl g2 (k+1) rfl _ rfl S2.out (by rw[a6a,HNP.out];omega) ?_;intro w4 S4 O4))
          | fail)
         have K4:=hI (KK.out.only S2.out (by omega) O4.out);have S1':=hI (S1.out.only O4.out hg12);rw[HSET.out] at S4;go_roundw
         case rel=>exact⟨k+1,by go_num,hlk,S4,S1',K4⟩
         case measure=>simp[intOf];omega
       ·have hn1:n1=true:=by rw[hst];simp
        rw[hn1] at gS;have HSET:=hI gS;clear gS hst hon hot hsame h42 hn1 hcp;go_wp2_with(first
          | ((with_reducible show wpList _ _ _ (⟨none,_,_,_,_,_⟩::_) _ _);go_loud (refine M1a rfl (.tmp 75) _ rfl g2 (k+1) rfl _ rfl S2.out (by rw[a6a,HNP.out];omega) ?_;intro w4 S4 O4))
          | fail)
        have K4:=hI (KK.out.only S2.out (by omega) O4.out);have S1':=hI (S1.out.only O4.out hg12);rw[HSET.out] at S4;go_roundw
        case rel=>exact⟨k+1,by go_num,hlk,S4,S1',K4⟩
        case measure=>simp[intOf];omega
      ·have hcb:(c==42)=false:=by simpa using h42
       obtain⟨wq,hwq⟩:∃x,x=wr:=⟨_,rfl⟩;rw[<-hwq] at S1 S2 KK gk gx a0c a1c n0c⊢;by_cases h63:c=63
       ·have hcb2:(c==63)=true:=by simpa using h63
        have hn1:n1=a0:=hon h42 (.inl h63);rw[hn1] at gS;have HSET:=hI gS;clear gS hst hon hot hsame h42 h63 hn1 hcp hwq;go_wp2;go_quiet (fail);obtain⟨wz,hwz⟩:∃x,x=wq.drewN nq:=⟨_,rfl⟩;have Z1:Hid (Y7a wz g1 (rowB p T)):=by rw[hwz];exact S1.out.drewN nq
        have Z2:Hid (Y7a wz g2 (Z5a p (T++[x]) k)):=by rw[hwz];exact S2.out.drewN nq
        have ZK:Hid (RK w wz base base' (.slice (some ⟨gp,0,none⟩) np cp) (.slice (some ⟨gt,0,none⟩) nt ct) p t):=by rw[hwz];exact KK.out.drewN nq
        have z0c:wz.cell? ⟨g1,k,none⟩=some (.bool a0):=by rw[hwz];exact a0c
        rw[<-hwz];clear S1 S2 KK a0c a1c n0c gk gx hwz;go_wp2_with(first
         | ((with_reducible show wpList _ _ _ (⟨none,_,_,_,_,_⟩::_) _ _);go_loud (refine M1a rfl (.tmp 100) _ rfl g2 (k+1) rfl _ rfl Z2.out (by rw[a6a,HNP.out];omega) ?_;intro w4 S4 O4))
         | fail)
        have K4:=hI (ZK.out.only Z2.out (by omega) O4.out);have S1':=hI (Z1.out.only O4.out hg12);rw[HSET.out] at S4;go_roundw
        case rel=>exact⟨k+1,by go_num,hlk,S4,S1',K4⟩
        case measure=>simp[intOf];omega
       ·have hcb2:(c==63)=false:=by simpa using h63
        by_cases hcx:c=x
        ·have hcb3:(c==x)=true:=by simpa using hcx
         have hn1:n1=a0:=hon h42 (.inr hcx);rw[hn1] at gS;have HSET:=hI gS;clear gS hst hon hot hsame h42 h63 hcx hn1 hcp hwq;go_wp2;go_quiet (fail);obtain⟨wz,hwz⟩:∃x,x=wq.drewN nq:=⟨_,rfl⟩;have Z1:Hid (Y7a wz g1 (rowB p T)):=by rw[hwz];exact S1.out.drewN nq
         have Z2:Hid (Y7a wz g2 (Z5a p (T++[x]) k)):=by rw[hwz];exact S2.out.drewN nq
         have ZK:Hid (RK w wz base base' (.slice (some ⟨gp,0,none⟩) np cp) (.slice (some ⟨gt,0,none⟩) nt ct) p t):=by rw[hwz];exact KK.out.drewN nq
         have z0c:wz.cell? ⟨g1,k,none⟩=some (.bool a0):=by rw[hwz];exact a0c
         rw[<-hwz];clear S1 S2 KK a0c a1c n0c gk gx hwz;go_wp2_with(first
          | ((with_reducible show wpList _ _ _ (⟨none,_,_,_,_,_⟩::_) _ _);go_loud (refine M1a rfl (.tmp 100) _ rfl g2 (k+1) rfl _ rfl Z2.out (by rw[a6a,HNP.out];omega) ?_;intro w4 S4 O4))
          | fail)
         have K4:=hI (ZK.out.only Z2.out (by omega) O4.out);have S1':=hI (Z1.out.only O4.out hg12);rw[HSET.out] at S4;go_roundw
         case rel=>exact⟨k+1,by go_num,hlk,S4,S1',K4⟩
         case measure=>simp[intOf];omega
        ·have hcb3:(c==x)=false:=by simpa using hcx
         have hn1:n1=false:=hot h42 (by rintro(h | h)<;>contradiction);have hsame:=hsame hn1;have HSAME:=hI hsame;clear gS hst hon hot hsame h42 h63 hcx hn1 hcp hwq;go_wp2;go_quiet (fail);obtain⟨wz,hwz⟩:∃x,x=wq.drewN nq:=⟨_,rfl⟩;have Z1:Hid (Y7a wz g1 (rowB p T)):=by rw[hwz];exact S1.out.drewN nq
         have Z2:Hid (Y7a wz g2 (Z5a p (T++[x]) (k+1))):=by rw[hwz,<-HSAME.out];exact S2.out.drewN nq
         have ZK:Hid (RK w wz base base' (.slice (some ⟨gp,0,none⟩) np cp) (.slice (some ⟨gt,0,none⟩) nt ct) p t):=by rw[hwz];exact KK.out.drewN nq
         rw[<-hwz];clear S1 S2 KK a0c a1c n0c gk gx hwz;go_wp2;go_roundw
         case rel=>exact⟨k+1,by go_num,hlk,Z2,Z1,ZK⟩
         case measure=>simp[intOf];omega
     ·have hd:=I8b p (T++[x]);rw[HNP.out] at hd;obtain rfl:k=np:=by omega
      rw[hd,<-HTN.out] at S2;clear hd hcp;go_wp2;go_roundw
      case rel=>exact⟨j+1,g2,by go_num,hlt,rfl,hwg2,S2,KK⟩
      case measure=>simp[intOf];omega
   ·obtain rfl:j=nt:=by omega
    rw[List.take_of_length_le (by have:=HNT.out;omega)] at R1;have ge:=R1.out.cell (i:=np) (by rw[R3b,HNP.out];omega);rw[y6b p t np (by rw[HNP.out];exact Nat.le_refl _)] at ge;have HG:Hid (m2a p p.length t=m2a p np t):=by show _=_;rw[HNP.out]
    obtain⟨R,hR⟩:∃R,R=m2a p np t:=⟨_,rfl⟩;rw[<-hR] at ge HG;have HBl:=hI K1.out.below;clear R1 K1 hR hct hcp;go_wp2;go_ret;exact⟨a1a HG.out.symm,HBl.out⟩
theorem f5b(p s:ByteArray)(w:World)(hp:p.size<=4398046511104)(hs:s.size<=4398046511104) :
  Calls Tryz.prog 55 #[.string p,.string s] w (y3a w p.data.toList s.data.toList):=by
 have c1:=p1c p s w hp hs;unfold l9a at c1;have hq:∀(b:Bool) (n:Int),E3a p.data.toList s.data.toList=b->M0a p.data.toList s.data.toList=n->∀e w',e=.returned (.tuple #[.bool b,.int .i64 n])/\Below w.heap.size w w'->y3a w p.data.toList s.data.toList e w':=λb n hb hn e w' h=>by unfold y3a;rw[hb,hn];exact h
 by_cases he:M0a p.data.toList s.data.toList=0
 ·have hf:E3a p.data.toList s.data.toList=m2a (s0a p.data.toList) (s0a p.data.toList).length (s0a s.data.toList):=if_pos he;obtain⟨_,_,l1,l2⟩:=Y4a.1 he;have HQ:=hI (hq _ _ hf he);have c2:=λw base base' v u h1 h2=>hI (r1c w base base' v u (s0a p.data.toList) (s0a s.data.toList) h1 h2 (by rw[H2a];omega) (by rw[H2a];omega))
  rw[he] at c1;obtain⟨L,hL⟩:∃L,L=s0a p.data.toList:=⟨_,rfl⟩;obtain⟨M,hM⟩:∃L,L=s0a s.data.toList:=⟨_,rfl⟩;rw[<-hL,<-hM] at c1 c2 HQ;have C1:=hI c1;clear c1 hq he hf hL hM l1 l2;go_enter Tryz.func55,Tryz.ntmps55;go_wp2_with fail;refine C1.out.mono ?_;rintro e w1 ⟨v,u,rfl,ho,hb1⟩;obtain⟨ho1,ho2⟩:=ho (by trivial);have HO1:=hI ho1;have HO2:=hI ho2;clear ho ho1 ho2;go_wp2_with fail;refine(c2 _ _ _ _ _ HO1.out HO2.out).out.mono ?_;rintro e w2 ⟨rfl,hb2⟩;go_wp2;go_ret2;exact HQ.out _ _ ⟨rfl,step hb1 hb2⟩
 ·obtain⟨E,hE⟩:∃E,E=M0a p.data.toList s.data.toList:=⟨_,rfl⟩;have HQ:=hI (hq _ _ (T5a he) hE.symm);rw[<-hE] at c1 he;have C1:=hI c1;have hne:(E != 0)=true:=by simpa using he
  clear c1 hq he hE;go_enter Tryz.func55,Tryz.ntmps55;go_wp2_with fail;refine C1.out.mono ?_;rintro e w1 ⟨v,u,rfl,_,hb1⟩;go_wp2;go_ret2;exact HQ.out _ _ ⟨rfl,hb1⟩
section
variable {α:Type} {f:α->List Value} {s:Nat} {w w':World} {base q n c:Nat} {e:TypeId} {xs:List α} {v:Value} {S:Nat->Prop}
theorem E1b(hs:0<s)(hf:∀x,(f x).length=s)(u:Value)(y:α){j:Nat}(hj:j<s):∀(xs:List α) (k:Nat) (x:α),xs[k]? = some x->f y=(f x).set j u->(xs.flatMap f).set (k*s+j) u=(xs.set k y).flatMap f
 | [],_,_,h,_=>by cases h
 | z::r,0,x,h,hy=>by
  injection h with h
  subst h;rw[List.flatMap_cons,List.set_cons_zero,List.flatMap_cons,Nat.zero_mul,Nat.zero_add,List.set_append_left _ _ (by rw[hf];exact hj),hy]
 | z::r,k+1,x,h,hy=>by rw[List.flatMap_cons,List.set_cons_succ,List.flatMap_cons,List.set_append_right _ _ (by rw[hf,Nat.add_mul];omega),hf,show(k+1)*s+j-s=k*s+j by rw[Nat.add_mul];omega,E1b hs hf u y hj r k x h hy]
theorem j1a.setFld(hs:0<s)(hf:∀x,(f x).length=s)(h:j1a f s e w base (.slice (some ⟨q,0,none⟩) n c) xs){k j:Nat}{x y:α}(hk:xs[k]? = some x)(hj:j<s)(u:Value)(hy:f y=(f x).set j u) :
  j1a f s e (w.setCell ⟨q,k*s+j,none⟩ u) base (.slice (some ⟨q,0,none⟩) n c) (xs.set k y):=by
 obtain⟨hb,hn,cur,hg,hns,htk,hnc,hcm,hcs⟩:=h.heap;have h1:=heap_setCell_same w q (k*s+j) cur e u hg;have hl:(xs.set k y).length=n:=by rw[List.length_set,hn]
 refine⟨by rw[C1a hf],.inr ⟨q,c,_,by rw[hl],hb,h1,by rw[hl];exact hnc,hcm,by simp[hcs],?_⟩⟩;rw[hl,Array.toList_setIfInBounds,List.take_set,htk,E1b hs hf u y hj xs k x hk hy]
end
section
variable {α:Type} {P:Program} {w:World} {ops:Array Oper} {rest:List Oper} {o:Oper} {a:Act} {Q:Exit->Act->World->Prop} {K:Act->World->Prop} {E:Prop}
theorem C5a(f:α->List Value)(s:Nat)(hs0:0<s)(hfl:∀y,(f y).length=s)(hf:∀y,∀u∈f y,u.oneCell'=true)(z:Value)(hzc:z.cells.size=s)(T e:TypeId)(bytes:Nat)(hgd:o.guard=none)(l x:Operand)
(ht:P.underlying T=some (.slice e))(hi:(P.info? e).map (λi=>(i.zero,i.size,i.bytes))=some (some z,s,bytes))
(ho:o.op=.call { callee:=.builtin .append,args:=#[l,x],argTypes:=#[T,T] })
(base:Nat)(v:Value)(xs:List α)(y:α)(cs:Array Value)(hcs:cs=(f y).toArray)(hs:a.eval l=v)(hx:a.eval x=.slice (some ⟨w.heap.size,0,none⟩) 1 1)
(hown:j1a f s e w base v xs)(hlen:(xs.length+1)*bytes<=140737488355328)(h63:xs.length+1<=9223372036854775807)(hbase:base<=w.heap.size)
(h:∀v' w',Hid (j1a f s e w' base v' (xs++[y]))->Hid (g0a (λj=>v.ownBlock=some j) w w')->wpList P ops Q rest (a.put o.dst v') w') :
  wpList P ops Q (o::rest) a (w.alloc (.cells cs e)):=by
 obtain⟨i0,hi0,hz0,hz1,hz2⟩:=info_parts hi;subst hcs;have hr:(w.alloc (.cells (f y).toArray e)).heap[w.heap.size]? = some (.cells (f y).toArray e (0,0)):=heap_alloc_new w _;refine wpList_append_own _ hgd l x T ho base e i0 z s bytes ht hi0 hz0 hz1 hz2 hzc hs0 v xs.length _ hs (World.ownsRow.alloc hown _) ⟨w.heap.size,0,none⟩ 1 1 (f y) hx (by rw[hfl,Nat.one_mul]) ?_ (hf y) (by unfold maxLen;omega) hlen (by simp;omega) ?_
 ·intro j u hj;have e1:(⟨w.heap.size,0,none⟩:Addr).add j=⟨w.heap.size,j,none⟩:=by
   by_cases hj0:j=0
   ·subst hj0;simp[Addr.add]
   ·simp[Addr.add,hj0]
  rw[e1,cell_of_row _ w.heap.size j _ e (0,0) hr,<-hj];simp
 ·intro v' w' hown' hgr _;refine h v' w' ?_ (g0a.of_grew ⟨_,hgr⟩);show World.ownsRow _ _ _ _ _ _ _
  rw[List.length_append,List.flatMap_append];simpa using hown'
theorem L2a(f:α->List Value)(s:Nat)(hs0:0<s)(hfl:∀y,(f y).length=s)(hg:o.guard=none)(T:TypeId)(x y:Operand)(ho:o.op=.store T x y)(q k j n c base:Nat)(e:TypeId)(hx:a.eval x=.pointer (some ⟨q,k*s+j,none⟩))(xs:List α)(x0 y0:α)(u:Value)(hy:a.eval y=u)
(hown:j1a f s e w base (.slice (some ⟨q,0,none⟩) n c) xs)(hk:xs[k]? = some x0)(hj:j<s)(hset:f y0=(f x0).set j u)(hsz:(P.info? T).map (·.size)=some 1)(h1:u.oneCell'=true)
(h:∀w',Hid (j1a f s e w' base (.slice (some ⟨q,0,none⟩) n c) (xs.set k y0))->Hid (S1a q w w')->K a w')(hd:o.dst=none:=by rfl) :
  if Region.wanted o (yielded ops a.tmps)=true then Oper.wp P o a w K Q else E:=by
 have hw:Region.wanted o (yielded ops a.tmps)=true:=by simp[Region.wanted,hg]
 rw[if_pos hw];obtain⟨hb,hn,cur,hgg,hns,htk,hnc,hcm,hcs⟩:=hown.heap;have hB:Blk w q e cur.toList:=by unfold Blk;rw[hgg]
 have hkl:=(List.getElem?_eq_some_iff.1 hk).1;have hin:k*s+j<cur.size:=by have:(k+1)*s<=n*s:=Nat.mul_le_mul_right s (by omega);rw[Nat.add_mul] at this;omega
 have hp:a.put o.dst undef=a:=by rw[hd];rfl
 unfold Oper.wp execOp;simp only[ho,hx,hy,Instr.storeAt,Instr.sureAddr,Sem.run_bind,Sem.run_pure,Result.andThen_ok,J3a w q (k*s+j) e T cur.toList u hB (by simpa using hin) hsz h1];show K (a.put o.dst undef) _
 rw[hp];exact h _ (hown.setFld hs0 hfl hk hj u hset) (r3a w q _ u)
end
section
variable {P:Program} {w:World} {ops:Array Oper} {rest:List Oper} {o:Oper} {a:Act} {Q:Exit->Act->World->Prop}
end
section
variable {α:Type} {f:α->List Value} {s:Nat} {w w':World} {base q n c:Nat} {e:TypeId} {xs:List α} {v:Value} {A:Option Addr}
theorem j1a.cutTo(hf:∀x,(f x).length=s){m:Nat}(h:j1a f s e w base (.slice A n c) xs)(hm:m<=n):j1a f s e w base (.slice A m c) (xs.take m):=by
 rcases h.2 with⟨h1,h2⟩ | ⟨q,cap,cur,h1,hb,hg,hnc,hcm,hcs,htk⟩
 ·cases h1;obtain rfl:m=0:=by omega
  exact⟨by simp,.inl ⟨rfl,by simp⟩⟩
 ·have hl:xs.length=n:=by injection h1 with _ h3 _;exact h3.symm
  cases h1;have hml:(xs.take m).length=m:=by rw[List.length_take];omega
  refine⟨by rw[C1a hf],.inr ⟨q,c,cur,by rw[hml],hb,hg,by omega,hcm,hcs,?_⟩⟩;rw[hml];have hle:m*s<=xs.length*s:=Nat.mul_le_mul_right s (by omega);have:=congrArg (List.take (m*s)) htk;rw[List.take_take,Nat.min_eq_left hle] at this;rw[this]
  conv=>lhs;rw[<-List.take_append_drop m xs]
  rw[List.flatMap_append,List.take_left' (by rw[C1a hf,hml])]
end
theorem z3c(xs ys:List Int):i0b xs ys<0↔J6a (xs.map D2a) (ys.map D2a)<0:=by
 induction xs generalizing ys with
 | nil=>cases ys with
  | nil=>simp[i0b,J6a]
  | cons y ys=>
   constructor<;>intro<;>simp[i0b,J6a]
 | cons x xs ih=>cases ys with
  | nil=>
   constructor<;>intro h<;>simp[i0b,J6a] at h
   omega
  | cons y ys=>
   rw[List.map_cons,List.map_cons];unfold i0b J6a;by_cases h:D2a x=D2a y
   ·rw[if_pos h,if_neg (by omega),if_neg (by omega)];exact ih ys
   ·rw[if_neg h];by_cases h2:D2a x<D2a y
    ·rw[if_pos h2];constructor<;>intro<;>omega
    ·rw[if_neg h2,if_pos (by omega)];constructor<;>intro<;>omega
theorem J8b(a b:List UInt8):decide (i0b (j0a a) (j0a b)<0)=e1a a b:=by unfold e1a s0a;rw[decide_eq_decide];exact z3c _ _
theorem F1b(s t:ByteArray)(w:World)(hs:s.size<=4398046511104)(ht:t.size<=4398046511104) :
  Calls Tryz.prog 58 #[.string s,.string t] w λe w'=>e=.returned (.bool (ahd s t))/\Below w.heap.size w w':=by
 have c1:=U2b s t w hs ht;unfold ahd;rw[<-J8b];obtain⟨R,hR⟩:∃R,R=i0b (j0a s.data.toList) (j0a t.data.toList):=⟨_,rfl⟩;rw[<-hR] at c1⊢;have C1:=hI c1;clear c1 hR;go_enter Tryz.func58,Tryz.ntmps58;go_wp2_with fail;refine C1.out.mono ?_;rintro e w1 ⟨rfl,hb1⟩;go_wp2;go_ret;exact⟨rfl,hb1⟩
section
variable {w w':World} {base base' g:Nat} {v:Value} {L:List I0a} {S:Nat->Prop}
end
theorem A3c{l:List UInt8}{f k:Nat}(hf:f<=k)(hk:k<l.length)(h:l[k]? = some 92):l.drop f=(l.drop f).take (k-f)++92::l.drop (k+1):=by
 have h1:(l.drop f).drop (k-f)=l.drop k:=by rw[List.drop_drop];congr 1;omega
 have h2:l.drop k=92::l.drop (k+1):=by
  rw[List.drop_eq_getElem_cons hk]
  congr 1
  exact(List.getElem?_eq_some_iff.1 h).2
 rw[<-h2,<-h1,List.take_append_drop]
theorem s1c{l:List UInt8}{f k:Nat}(hf:f<=k)(hk:k<l.length){c:UInt8}(h:l[k]? = some c):(l.drop f).take (k+1-f)=(l.drop f).take (k-f)++[c]:=by
 have hkl:k-f<(l.drop f).length:=by rw[List.length_drop];omega
 rw[show k+1-f=(k-f)+1 by omega,List.take_succ_eq_append_getElem hkl]
 congr 2
 rw[List.getElem_drop];have e:=(List.getElem?_eq_some_iff.1 h).2;rw[<-e]
 congr 1
 omega
theorem t1c{l:List UInt8}{f k:Nat}(hf:f<=k)(hk:k<=l.length)(hb:∀b∈(l.drop f).take (k-f),b≠92)(h:k=l.length∨l[k]? = some 92) :
  E8a (decide (f<=l.length)) (l.drop f)=(l.drop f).take (k-f)::E8a (decide (k+1<=l.length)) (l.drop (k+1)):=by
 rw[decide_eq_true (by omega)];show splitB (l.drop f)=_
 by_cases h2:k<l.length
 ·have h3:l[k]? = some 92:=by
   rcases h with h | h
   ·omega
   ·exact h
  rw[decide_eq_true (by omega)];show _=_::splitB _
  generalize hp:(l.drop f).take (k-f)=p at hb⊢;have:=A3c hf h2 h3;rw[hp] at this;rw[this,k4a hb]
 ·obtain rfl:k=l.length:=by omega
  rw[decide_eq_false (by omega)];have e:(l.drop f).take (l.length-f)=l.drop f:=List.take_of_length_le (by rw[List.length_drop];omega);rw[e] at hb⊢;exact k6a hb
theorem T4a(s:ByteArray)(w:World)(hs:s.size<=4294967296) :
  Calls Tryz.prog 43 #[.string s] w (e2a w s.data.toList):=by
 have c2:=fun (s:ByteArray) (w:World) hs=>hI (e5b s w hs)
 have hq:∀(n:Int) ps,h0a s.data.toList=n->m0a s.data.toList=ps->∀e w',(∃v,e=.returned (.tuple #[v,.int .i64 n])/\t1a V0a 9 w' w.heap.size v ps/\Below w.heap.size w w')->e2a w s.data.toList e w':=λn ps hn hp e w' h=>by unfold e2a;rw[hn,hp];exact h
 by_cases h0:s.data.toList=[]
 ·have e0:s=⟨#[]⟩:=by apply ByteArray.ext;exact Array.toList_inj.1 h0
  have h1:h0a s.data.toList=0/\m0a s.data.toList=[]:=by rw[h0];exact⟨by decide,by decide⟩
  have HF:=hI (hq _ _ h1.1 h1.2);clear hq h0 h1 c2;subst e0;go_enter Tryz.func43,Tryz.ntmps43;go_wp2;go_ret2;exact HF.out _ _ ⟨_,rfl,t1a.nil _ _ _ _,Below.refl _ _⟩
 have HQ:=hI hq;have hpo:partsOf s.data.toList=splitB s.data.toList:=if_neg h0;have hsz:=Lib.size_eq s;have HS:=hI hsz;have HPO:=hI hpo;have t0:(s.toList==[])=false:=by rw[Lib.toList_data];simpa using h0
 have t0':s.toList.isEmpty=false:=by rw[Lib.toList_data];simpa using h0
 clear hq hpo h0 hsz;go_enter Tryz.func43,Tryz.ntmps43;go_wp2;go_loopw [4,5,6] (λv f i wr=>∃(a k:Nat) (ps:List (List UInt8)),f=.int .i64 a/\i=.int .i64 k/\a<=k/\k<=s.size+1/\Hid (k=s.size+1->a=k)/\Hid (t1a V0a 9 wr w.heap.size v ps)/\Hid (Below w.heap.size w wr)/\Hid (ps++E8a (decide (a<=s.data.toList.length)) (s.data.toList.drop a)=splitB s.data.toList)/\Hid (∀b∈(s.data.toList.drop a).take (k-a),b≠92)/\Hid (∀p∈ps,nameOf p=true)/\ps.length<=a) (λ_ _ i _=>s.size+1-(intOf i).toNat)
 case atStart=>exact⟨0,0,[],rfl,rfl,Nat.le_refl _,by omega,λh=>by omega,t1a.nil _ _ _ _,Below.refl _ _,by simp[Hid,E8a],λb hb=>by simp at hb,λp hp=>by simp at hp,by simp⟩
 case round=>
  obtain⟨a,k,ps,rfl,rfl,hak,hk,HK,HO,HBl,HP,HC,HN,hpa⟩:=hrel;have hbs:=HBl.out.size;by_cases hks:k<=s.size
  ·have hkl:k<=s.data.toList.length:=by rw[<-HS.out];exact hks
   have stepA:∀(hend:k=s.size∨s.data.toList[k]? = some 92),Hid (ps++(s.data.toList.drop a).take (k-a)::E8a (decide (k+1<=s.data.toList.length)) (s.data.toList.drop (k+1))=splitB s.data.toList):=λhend=>by
    show _=_
    rw[<-HP.out,t1c hak hkl HC.out (by rw[<-HS.out];exact hend)]
   have hext:=extract_mk s a k;have hpl:((s.data.toList.drop a).take (k-a)).length<=s.size:=by rw[List.length_take,List.length_drop,<-HS.out];omega
   by_cases hlt:k<s.size
   ·have hl:k<s.data.toList.length:=by rw[<-HS.out];exact hlt
    have hsk:s.data.toList[k]? = some (s[k]'hlt):=by rw[List.getElem?_eq_getElem hl,Array.getElem_toList];rfl
    by_cases h92:(s[k]'hlt)=92
    ·rw[h92] at hsk;have HA:=stepA (.inr hsk);have t1:(((s[k]'hlt).toNat:Int) != 92)=false:=by rw[h92];rfl
     obtain⟨p,hp⟩:∃p,p=(s.data.toList.drop a).take (k-a):=⟨_,rfl⟩;rw[<-hp] at HA hext hpl;have d2:=λw=>c2 ⟨p.toArray⟩ w (by rw[W1a];omega)
     rw[show(⟨p.toArray⟩:ByteArray).data.toList=p from rfl,<-hext] at d2;have HX:=hI hext;clear hp hext hsk h92 stepA HC HP c2 hl hkl;by_cases hnm:nameOf p=true
     ·rw[hnm] at d2;have HN2:Hid (∀q∈ps++[p],nameOf q=true):=λq hq=>by
       rcases List.mem_append.1 hq with hq | hq
       ·exact HN.out q hq
       ·rw[List.mem_singleton.1 hq];exact hnm
      have HP2:Hid ((ps++[p])++E8a (decide (k+1<=s.data.toList.length)) (s.data.toList.drop (k+1))=splitB s.data.toList):=by
       show _=_
       rw[<-HA.out,List.append_assoc];rfl
      have hcs:#[Value.string (s.extract a k)]=([p].map V0a).toArray:=by rw[HX.out];rfl
      have HCS:=hI hcs;clear hnm HN HA hcs;go_wp2_with fail;refine(d2 _).out.mono ?_;rintro e w1 ⟨rfl,hb1⟩;have hbs1:=hb1.size;have HO1:=hI (HO.out.below hb1);clear d2 HO;go_wp2_with(first
       | (at_builtin;go_loud (refine g1a rfl (.tmp 31) (.tmp 36) V0a x7a (.string ⟨#[]⟩) rfl 78 9 16 Tryz.underlying78 r4a rfl w.heap.size _ ps [p] _ HCS.out 1 1 rfl rfl rfl HO1.out (by omega) (by omega) (by omega) ?_;intro v1 w4 ho4 hg4 hw4))
       | fail)
      have hb4:=hg4.out.belowF HO1.out (by omega);have HB4:=hI ((HBl.out.trans (hb1.mono hbs)).trans hb4);clear hg4 hw4 hb4;go_wp2;go_roundw
      case rel=>exact⟨k+1,k+1,ps++[p],by go_num,by go_num,Nat.le_refl _,by omega,λ_=>rfl,ho4,HB4,HP2,λb hb=>by simp at hb,HN2,by simp;omega⟩
      case measure=>simp[intOf];omega
     ·have hnm':nameOf p=false:=by simpa using hnm
      rw[hnm'] at d2;have hA:=HA.out;rw[<-HPO.out] at hA;obtain⟨h1,h2⟩:=S0b hA hnm';have HF:=hI (HQ.out _ _ h1 h2);clear hnm hnm' hA h1 h2 HA HN HO HQ;go_wp2_with fail;refine(d2 _).out.mono ?_;rintro e w1 ⟨rfl,hb1⟩;have HB1:=hI (HBl.out.trans (hb1.mono hbs));clear hb1 d2;go_wp2;go_ret2;exact HF.out _ _ ⟨_,rfl,t1a.nil _ _ _ _,HB1.out⟩
    ·have HC2:Hid (∀b∈(s.data.toList.drop a).take (k+1-a),b≠92):=λb hb=>by
      rw[s1c hak hl hsk] at hb;rcases List.mem_append.1 hb with hb | hb
      ·exact HC.out b hb
      ·rw[List.mem_singleton.1 hb];exact h92
     have t1:(((s[k]'hlt).toNat:Int) != 92)=true:=by rw[bne_iff_ne];intro h;exact h92 (UInt8.toNat_inj.1 (show(s[k]'hlt).toNat=92 by omega))
     clear hsk h92 stepA hext hpl hl hkl HC c2 HQ HPO HK t0 t0';go_wp2;go_roundw
     case rel=>exact⟨a,k+1,ps,rfl,by go_num,by omega,by omega,λh=>by omega,HO,HBl,HP,HC2,HN,hpa⟩
     case measure=>simp[intOf];omega
   ·have hke:k=s.size:=by omega
    have HA:=stepA (.inl hke);obtain⟨p,hp⟩:∃p,p=(s.data.toList.drop a).take (k-a):=⟨_,rfl⟩;rw[<-hp] at HA hext hpl;have d2:=λw=>c2 ⟨p.toArray⟩ w (by rw[W1a];omega)
    rw[show(⟨p.toArray⟩:ByteArray).data.toList=p from rfl,<-hext] at d2;have HX:=hI hext;clear hp hext stepA HC HP c2 hkl hke;by_cases hnm:nameOf p=true
    ·rw[hnm] at d2;have HN2:Hid (∀q∈ps++[p],nameOf q=true):=λq hq=>by
      rcases List.mem_append.1 hq with hq | hq
      ·exact HN.out q hq
      ·rw[List.mem_singleton.1 hq];exact hnm
     have HP2:Hid ((ps++[p])++E8a (decide (k+1<=s.data.toList.length)) (s.data.toList.drop (k+1))=splitB s.data.toList):=by
      show _=_
      rw[<-HA.out,List.append_assoc];rfl
     have hcs:#[Value.string (s.extract a k)]=([p].map V0a).toArray:=by rw[HX.out];rfl
     have HCS:=hI hcs;clear hnm HN HA hcs;go_wp2_with fail;refine(d2 _).out.mono ?_;rintro e w1 ⟨rfl,hb1⟩;have hbs1:=hb1.size;have HO1:=hI (HO.out.below hb1);clear d2 HO;go_wp2_with(first
      | (at_builtin;go_loud (refine g1a rfl (.tmp 31) (.tmp 36) V0a x7a (.string ⟨#[]⟩) rfl 78 9 16 Tryz.underlying78 r4a rfl w.heap.size _ ps [p] _ HCS.out 1 1 rfl rfl rfl HO1.out (by omega) (by omega) (by omega) ?_;intro v1 w4 ho4 hg4 hw4))
      | fail)
     have hb4:=hg4.out.belowF HO1.out (by omega);have HB4:=hI ((HBl.out.trans (hb1.mono hbs)).trans hb4);clear hg4 hw4 hb4;go_wp2;go_roundw
     case rel=>exact⟨k+1,k+1,ps++[p],by go_num,by go_num,Nat.le_refl _,by omega,λ_=>rfl,ho4,HB4,HP2,λb hb=>by simp at hb,HN2,by simp;omega⟩
     case measure=>simp[intOf];omega
    ·have hnm':nameOf p=false:=by simpa using hnm
     rw[hnm'] at d2;have hA:=HA.out;rw[<-HPO.out] at hA;obtain⟨h1,h2⟩:=S0b hA hnm';have HF:=hI (HQ.out _ _ h1 h2);clear hnm hnm' hA h1 h2 HA HN HO HQ;go_wp2_with fail;refine(d2 _).out.mono ?_;rintro e w1 ⟨rfl,hb1⟩;have HB1:=hI (HBl.out.trans (hb1.mono hbs));clear hb1 d2;go_wp2;go_ret2;exact HF.out _ _ ⟨_,rfl,t1a.nil _ _ _ _,HB1.out⟩
  ·have hke:k=s.size+1:=by omega
   have hae:=HK.out hke;have hP:=HP.out;rw[hae,hke,decide_eq_false (by rw[<-HS.out];omega),<-HPO.out] at hP;obtain⟨h1,h2⟩:=r4b (show ps++[]=_ from hP) HN.out;obtain⟨A,n,c,rfl,hn,_,h63,_,_⟩:=HO.out.open;have HNN:=hI hn;by_cases h8:8<n
   ·rw[if_pos (by omega)] at h1 h2;have HF:=hI (HQ.out _ _ h1 h2);clear hP h1 h2 hn hae hke HQ HP HC HN HK HPO c2 hpa;go_wp2;go_ret2;exact HF.out _ _ ⟨_,rfl,t1a.nil _ _ _ _,HBl.out⟩
   ·rw[if_neg (by omega)] at h1 h2;rw[List.take_of_length_le (by omega)] at h2;have HF:=hI (HQ.out _ _ h1 h2);clear hP h1 h2 hn hae hke HQ HP HC HN HK HPO c2 hpa;go_wp2;go_ret2;exact HF.out _ _ ⟨_,rfl,HO.out,HBl.out⟩
theorem u1c{ps:List (List UInt8)}(h:ps≠[])(p:List UInt8):l2a (ps++[p])=l2a ps++92::p:=by
 induction ps with
 | nil=>exact absurd rfl h
 | cons q qs ih=>
  by_cases hq:qs=[]
  ·subst hq;rfl
  ·rw[List.cons_append,join_cons q (by simp),ih hq,join_cons q hq];simp
def l7a(n:Nat)(ps:List (List UInt8)):List UInt8:=if 8<n then [] else l2a ps
theorem v1c{n:Nat}{xs:List (List UInt8)}(hn:xs.length<=n)(h:∀p∈xs,nameOf p=true):(l7a n xs).length<=2000:=by
 unfold l7a;split
 ·simp
 ·have h1:=C7a xs 128 λp hp=>S0a (h p hp)
  have h2:xs.length*(128+1)<=8*129:=Nat.mul_le_mul (by omega) (Nat.le_refl _);omega
theorem g5b(w:World)(A:Option Addr)(n c:Nat)(xs:List (List UInt8))(hx:U0a V0a w w.heap.size A n c xs)(hl:∀p∈xs,p.length<=4398046511104)(hn63:n<=9223372036854775807) :
  Calls Tryz.prog 52 #[.slice A n c] w (K3a w xs):=by
 have c2:=fun (s:ByteArray) (w:World) hs=>hI (e5b s w hs)
 have hq:∀(p:ByteArray) (m:Int),h4a xs=p.data.toList->s1a xs=m->∀e w',e=.returned (.tuple #[.string p,.int .i64 m])/\Below w.heap.size w w'->K3a w xs e w':=λp m hp hm e w' h=>by unfold K3a;rw[hp,hm];exact h
 have HQ:=hI hq;have HX:=hI hx;have hxl:=hx.len;have HXL:=hI hxl;clear hq hx hxl;go_enter Tryz.func52,Tryz.ntmps52;go_wp2;go_loopw [4,5] (λo i wr=>∃(k:Nat) (os:ByteArray),o=.string os/\i=.int .i64 k/\k<=n/\Hid (Below w.heap.size w wr)/\Hid (∀p∈xs.take k,nameOf p=true)/\Hid (os.data.toList=l7a n (xs.take k))/\os.size<=2000) (λ_ i _=>n-(intOf i).toNat)
 case atStart=>exact⟨0,⟨#[]⟩,rfl,rfl,Nat.zero_le _,Below.refl _ _,(λp hp=>by simp at hp),(by show _=_;unfold l7a;split<;>rfl),by decide⟩
 case round=>
  obtain⟨k,os,rfl,rfl,hk,HBl,HN,HJ,hos⟩:=hrel;by_cases hlt:k<n
  ·obtain⟨b,off,rfl,hbk,hc⟩:=(HX.out.below HBl.out).cells (by omega);have hkx:k<xs.length:=by have:=HXL.out;omega
   obtain⟨p,hp⟩:∃p,p=xs[k]:=⟨_,rfl⟩;have gc:=hc k p (by rw[hp];exact List.getElem?_eq_getElem hkx);have hpl:p.length<=4398046511104:=hl p (by rw[hp];exact List.getElem_mem hkx);have htk:xs.take (k+1)=xs.take k++[p]:=by rw[hp];exact List.take_succ_eq_append_getElem hkx
   have hpm:p∈xs:=by rw[hp];exact List.getElem_mem hkx
   have hk1:(xs.take (k+1)).length<=n:=by rw[List.length_take];omega
   have hkl:(xs.take k).length=k:=by rw[List.length_take];omega
   unfold V0a at gc;have d2:=c2 ⟨p.toArray⟩ wr (by rw[W1a];exact hpl);rw[show(⟨p.toArray⟩:ByteArray).data.toList=p from rfl] at d2;clear hc hp c2;by_cases hnm:nameOf p=true
   ·rw[hnm] at d2;have hpb:=S0a hnm;have hN2:∀p∈xs.take (k+1),nameOf p=true:=λq hq=>by
     rw[htk] at hq;rcases List.mem_append.1 hq with hq | hq
     ·exact HN.out q hq
     ·rw[List.mem_singleton.1 hq];exact hnm
    have hle:=v1c hk1 hN2;have HN2:=hI hN2;have gcs:∀w2,Below wr.heap.size wr w2->w2.cell? ⟨b,off+k,none⟩=some (.string ⟨p.toArray⟩):=λw2 hb=>(hb.cell (p:=⟨b,off+k,none⟩) (Nat.lt_of_lt_of_le hbk HBl.out.size)).trans gc
    obtain⟨P,hP⟩:∃P:ByteArray,P=⟨p.toArray⟩:=⟨_,rfl⟩;have hPl:P.data.toList=p:=by rw[hP]
    have hPs:P.size<=128:=by rw[hP,W1a];exact hpb
    rw[<-hP] at d2 gc gcs;have GCS:=hI gcs;clear hnm HN hpm hN2 hP hpb hkx gcs;by_cases h8:8<n
    ·have HJ2:Hid (os.data.toList=l7a n (xs.take (k+1))):=by
      show _=_
      rw[HJ.out];unfold l7a;rw[if_pos h8,if_pos h8]
     clear HJ htk hle hPl hk1 hkl;go_wp2_with fail;refine d2.out.mono ?_;rintro e w2 ⟨rfl,hb2⟩;have HB2:=hI (HBl.out.trans (hb2.mono HBl.out.size));clear hb2;go_wp2;go_roundw
     case rel=>exact⟨k+1,os,rfl,by go_num,hlt,HB2,HN2,HJ2,hos⟩
     case measure=>simp[intOf];omega
    ·by_cases h0:k=0
     ·subst h0;have HJ2:Hid ((os++P).data.toList=l7a n (xs.take (0+1))):=by
       show _=_
       rw[ByteArray.data_append,Array.toList_append,HJ.out,hPl,htk];unfold l7a;rw[if_neg h8,if_neg h8];rfl
      have hsz:(os++P).size<=2000:=by rw[Lib.size_eq,HJ2.out];exact hle
      clear HJ htk hle hPl hk1 hkl;rw[Nat.add_zero] at gc GCS;go_wp2_with fail;refine d2.out.mono ?_;rintro e w2 ⟨rfl,hb2⟩;have HB2:=hI (HBl.out.trans (hb2.mono HBl.out.size));have gc2:=GCS.out w2 hb2;clear hb2 gc;go_wp2;go_roundw
      case rel=>exact⟨1,_,rfl,by go_num,hlt,HB2,HN2,HJ2,hsz⟩
      case measure=>simp[intOf];omega
     ·have HJ2:Hid ((os++⟨#[92]⟩++P).data.toList=l7a n (xs.take (k+1))):=by
       show _=_
       rw[ByteArray.data_append,ByteArray.data_append,Array.toList_append,Array.toList_append,HJ.out,hPl,htk];unfold l7a;rw[if_neg h8,if_neg h8,u1c (by intro h;rw[h] at hkl;simp at hkl;omega),List.append_assoc];rfl
      have hsz:(os++⟨#[92]⟩++P).size<=2000:=by rw[Lib.size_eq,HJ2.out];exact hle
      have hk0:0<(k:Int):=by omega
      clear HJ htk hle hPl hk1 hkl;go_wp2_with fail;refine d2.out.mono ?_;rintro e w2 ⟨rfl,hb2⟩;have HB2:=hI (HBl.out.trans (hb2.mono HBl.out.size));have gc2:=GCS.out w2 hb2;clear hb2 gc;go_wp2;go_roundw
      case rel=>exact⟨k+1,_,rfl,by go_num,hlt,HB2,HN2,HJ2,hsz⟩
      case measure=>simp[intOf];omega
   ·have hnm':nameOf p=false:=by simpa using hnm
    rw[hnm'] at d2;have h1:=N6a hpm hnm';have HF:=hI (HQ.out ⟨#[]⟩ _ (D7a (by omega)) h1);clear htk hpm hnm hnm' HN h1 HQ HJ hkx hk1 hkl;go_wp2_with fail;refine d2.out.mono ?_;rintro e w2 ⟨rfl,hb2⟩;have HB2:=hI (HBl.out.trans (hb2.mono HBl.out.size));clear hb2;go_wp2;go_ret2;exact HF.out _ _ ⟨rfl,HB2.out⟩
  ·obtain rfl:k=n:=by omega
   have htk:xs.take k=xs:=List.take_of_length_le (by have:=HXL.out;omega);have hall:∀p∈xs,nameOf p=true:=by
    have:=HN.out
    rwa [htk] at this
   have hJ:=HJ.out;rw[htk] at hJ;have hE:=O6a hall;rw[HXL.out] at hE;by_cases h8:8<k
   ·rw[if_pos h8] at hE;have HF:=hI (HQ.out ⟨#[]⟩ _ (D7a (by omega)) hE);clear hE hall HQ HN c2 hJ HJ htk;go_wp2;go_ret2;exact HF.out _ _ ⟨rfl,HBl.out⟩
   ·rw[if_neg h8] at hE;have hjo:h4a xs=os.data.toList:=by rw[hJ];unfold h4a l7a;rw[if_pos hE,if_neg h8]
    have HF:=hI (HQ.out os _ hjo hE);clear hE hall HQ HN c2 hJ HJ htk hjo;go_wp2;go_ret2;exact HF.out _ _ ⟨rfl,HBl.out⟩
theorem B6b(s:ByteArray)(w:World)(hs:s.size<=4294967296) :
  Calls Tryz.prog 170 #[.string s] w (A3a w s.data.toList):=by
 have c1:=T4a s w hs;unfold e2a at c1;have hq:∀(p q:List UInt8) (m:Int),n2a s.data.toList=p->lastOf s.data.toList=q->F0a s.data.toList=m->∀e w',e=.returned (.tuple #[.string ⟨p.toArray⟩,.string ⟨q.toArray⟩,.int .i64 m])/\Below w.heap.size w w'->A3a w s.data.toList e w':=λp q m hp hq hm e w' h=>by unfold A3a;rw[hp,hq,hm];exact h
 by_cases he:h0a s.data.toList=0
 ·rw[he] at c1;by_cases hn:s.data.toList=[]
  ·have h1:F0a s.data.toList=2:=by unfold F0a;rw[if_neg (by simp[he]),if_pos hn]
   obtain⟨h2,h3⟩:=E7a (l:=s.data.toList) (by omega);have HF:=hI (hq _ _ _ h2 h3 h1);rw[(l4a he).2 hn] at c1;have C1:=hI c1;clear c1 hq he hn h1 h2 h3;go_enter Tryz.func170,Tryz.ntmps170;go_wp2_with fail;refine C1.out.mono ?_;rintro e w1 ⟨v,rfl,ho,hb1⟩;obtain⟨A,k,c,rfl,hk,_,_,_,_⟩:=ho.open;obtain rfl:k=0:=hk.symm;clear ho;go_wp2;go_ret3;exact HF.out _ _ ⟨rfl,hb1⟩
  ·have h1:F0a s.data.toList=0:=a2a.2 ⟨he,hn⟩;have h2:n2a s.data.toList=l2a (m0a s.data.toList).dropLast:=if_pos h1;have h3:lastOf s.data.toList=(m0a s.data.toList).getLast?.getD []:=if_pos h1;have hne:m0a s.data.toList≠[]:=λh=>hn ((l4a he).1 h)
   have hnm:=B2a (l:=s.data.toList);have h8:=t3a s.data.toList;obtain⟨L,hL⟩:∃L,L=m0a s.data.toList:=⟨_,rfl⟩;rw[<-hL] at c1 h2 h3 hne hnm h8;have hd:s1a L.dropLast=0:=w1a.2 ⟨λp hp=>hnm p (List.dropLast_subset _ hp),by rw[List.length_dropLast];omega⟩;have hj:h4a L.dropLast=l2a L.dropLast:=if_pos hd;have hpos:=List.length_pos_iff.2 hne;have hlast:L[L.length-1]? = some (L.getLast?.getD []):=by rw[List.getLast?_eq_getElem?];rw[List.getElem?_eq_getElem (by omega)];rfl
   obtain⟨Z,hZ⟩:∃Z,Z=L.getLast?.getD []:=⟨_,rfl⟩;rw[<-hZ] at h3 hlast;rw[<-hj] at h2;have hq':=hq _ _ _ h2 h3 h1;have c5:=fun (w:World) A n c hx=>g5b w A n c L.dropLast hx (λp hp=>by have:=S0a (hnm p (List.dropLast_subset _ hp));omega)
   unfold K3a at c5;rw[hd] at c5;obtain⟨D,hD⟩:∃D:ByteArray,D=⟨(h4a L.dropLast).toArray⟩:=⟨_,rfl⟩;rw[<-hD] at c5 hq';have HF:=hI hq';have C1:=hI c1;have C5:=hI c5;have HLAST:=hI hlast;have HDL:Hid (L.dropLast=L.take (L.length-1)):=List.dropLast_eq_take;clear c1 c5 hq hq' he hn h1 h2 h3 hne hnm hL hd hj hlast hZ hD;go_enter Tryz.func170,Tryz.ntmps170;go_wp2_with fail;refine C1.out.mono ?_;rintro e w1 ⟨v,rfl,ho,hb1⟩;obtain⟨A,k,c,rfl,hh⟩:=ho.holds;have hk:=hh.len;have hkc:=hh.fit;rw[hk] at h8 hpos;have hk1:1<=k:=by omega
   have hne0:((k:Int)==0)=false:=by rw[beq_eq_false_iff_ne];omega
   obtain⟨b,off,rfl,hbk,hc⟩:=hh.cells (by omega);have HK:=hI hk;have hpre:=hh.pre (m:=k-1) (by omega);rw[<-hk,<-HDL.out,hk] at hpre;have HPRE:=hI hpre;have hcl:=hc (k-1) Z (by rw[<-hk];exact HLAST.out);have HCL:=hI hcl;clear ho hh hk hc C1 hpre hcl hpos;go_wp2_with fail;refine(C5.out _ _ _ _ HPRE.out (by omega)).mono ?_;rintro e w2 ⟨rfl,hb2⟩;have gc:=(hb2.cell (p:=⟨b,off+(k-1),none⟩) hbk).trans HCL.out;unfold V0a at gc;have hB2:=hI (step hb1 hb2);have hk0:(0:Int)<=(k:Int)-1:=by omega
   have hk2:(1:Int)<=(k:Int):=by omega
   clear HPRE HCL HDL HLAST hb2 C5;go_wp2;go_quiet (fail);go_wp2;go_ret3;refine HF.out _ _ ⟨rfl,?_⟩;exact hB2.out.trans ((E0a _ _).mono hB2.out.size)
 ·obtain⟨E,hE⟩:∃E,E=h0a s.data.toList:=⟨_,rfl⟩;have h1:F0a s.data.toList=E:=by rw[hE];exact if_pos he
  rw[<-hE] at c1 he;obtain⟨h2,h3⟩:=E7a (l:=s.data.toList) (by omega);have HF:=hI (hq _ _ _ h2 h3 h1);have hne:(E != 0)=true:=by simpa using he
  have C1:=hI c1;clear c1 hq hE he h1 h2 h3;go_enter Tryz.func170,Tryz.ntmps170;go_wp2_with fail;refine C1.out.mono ?_;rintro e w1 ⟨v,rfl,ho,hb1⟩;go_wp2;go_ret3;exact HF.out _ _ ⟨rfl,hb1⟩
theorem K8b{xs ys:List (List UInt8)}{k:Nat}{x y:List UInt8}(hx:xs[k]? = some x)(hy:ys[k]? = some y):(((xs.take ys.length).drop k).map B0a=(ys.drop k).map B0a)↔(B0a x=B0a y/\((xs.take ys.length).drop (k+1)).map B0a=(ys.drop (k+1)).map B0a):=by refine y4b ?_ hy;have:=(List.getElem?_eq_some_iff.1 hy).1;rw[List.getElem?_take,if_pos this,hx]
theorem L8b(w:World)(A A':Option Addr)(n c n' c':Nat)(xs ys:List (List UInt8))(hx:U0a V0a w w.heap.size A n c xs)(hy:U0a V0a w w.heap.size A' n' c' ys)(lx:∀p∈xs,p.length<=4398046511104)(ly:∀p∈ys,p.length<=4398046511104)(hn63:n<=9223372036854775807)(hn63':n'<=9223372036854775807) :
  Calls Tryz.prog 200 #[.slice A n c,.slice A' n' c'] w λe w'=>e=.returned (.bool (decide (ys.length<=xs.length/\(xs.take ys.length).map B0a=ys.map B0a)))/\Below w.heap.size w w':=by
 have c2:=fun (s t:ByteArray) (w:World) hs ht=>hI (C1b s t w hs ht)
 have hxl:=hx.len;have hyl:=hy.len;by_cases hnn:n'<=n
 ·obtain⟨R,hR⟩:∃R,R=decide (ys.length<=xs.length/\(xs.take ys.length).map B0a=ys.map B0a):=⟨_,rfl⟩;rw[<-hR];have hR2:R=decide ((xs.take ys.length).map B0a=ys.map B0a):=by rw[hR];refine decide_eq_decide.2 ⟨λh=>h.2,λh=>⟨by omega,h⟩⟩
  have HR:=hI hR2;have HX:=hI hx;have HY:=hI hy;have HXL:=hI hxl;have HYL:=hI hyl;have hnlt:¬n<n':=by omega
  clear hx hy hR hxl hyl hR2;go_enter Tryz.func200,Tryz.ntmps200;go_wp2;go_loopw [5] (λi wr=>∃k:Nat,i=.int .i64 k/\k<=n'/\Hid (Below w.heap.size w wr)/\Hid (R=decide (((xs.take ys.length).drop k).map B0a=(ys.drop k).map B0a))) (λi _=>n'-(intOf i).toNat)
  case atStart=>exact⟨0,rfl,Nat.zero_le _,Below.refl _ _,by rw[List.drop_zero,List.drop_zero];exact HR.out⟩
  case round=>
   obtain⟨k,rfl,hk,HBl,HE⟩:=hrel;by_cases hlt:k<n'
   ·obtain⟨b,off,rfl,hbk,hc⟩:=(HX.out.below HBl.out).cells (by omega);obtain⟨b',off',rfl,hbk',hc'⟩:=(HY.out.below HBl.out).cells (by omega);have hkx:k<xs.length:=by have:=HXL.out;omega
    have hky:k<ys.length:=by have:=HYL.out;omega
    obtain⟨p,hp⟩:∃p,p=xs[k]:=⟨_,rfl⟩;obtain⟨q,hq⟩:∃q,q=ys[k]:=⟨_,rfl⟩;have ex:xs[k]? = some p:=by rw[hp];exact List.getElem?_eq_getElem hkx
    have ey:ys[k]? = some q:=by rw[hq];exact List.getElem?_eq_getElem hky
    have gc:=hc k p ex;have gc':=hc' k q ey;unfold V0a at gc gc';have d2:=λw=>c2 ⟨p.toArray⟩ ⟨q.toArray⟩ w (by rw[W1a,hp];exact lx _ (List.getElem_mem hkx)) (by rw[W1a,hq];exact ly _ (List.getElem_mem hky))
    rw[show(⟨p.toArray⟩:ByteArray).data.toList=p from rfl,show(⟨q.toArray⟩:ByteArray).data.toList=q from rfl] at d2;unfold f1a at d2;have hst:=K8b ex ey;have hltn:k<n:=by omega
    have HBS:=HBl.out.size;clear hc hc' hp hq hkx hky ex ey c2;by_cases hal:B0a p=B0a q
    ·rw[decide_eq_true hal] at d2;have HE2:Hid (R=decide (((xs.take ys.length).drop (k+1)).map B0a=(ys.drop (k+1)).map B0a)):=by
      show _=_
      rw[HE.out];refine decide_eq_decide.2 (hst.trans ?_);simp[hal]
     clear hst hal HE HR;go_upto_region 6 with(fail)
     go_cut [26] (λt wx=>t=.bool false/\Hid (Below w.heap.size w wx))
     case first=>
      go_region_with (first
       | (go_at_call 97;go_loud (refine(d2 _).out.mono ?_;rintro e w2 ⟨rfl,hb2⟩))
       | fail)
      all_goals go_wp2_with fail
      all_goals go_meet
      all_goals exact⟨rfl,HBl.out.drew.trans (hb2.mono HBS)⟩
     case rest=>
      obtain⟨rfl,HB2⟩:=hcut;go_wp2;go_roundw
      case rel=>exact⟨k+1,by go_num,hlt,HB2,HE2⟩
      case measure=>simp[intOf];omega
    ·rw[decide_eq_false hal] at d2;have HE2:Hid (R=false):=by
      show _=_
      rw[HE.out];exact decide_eq_false λh=>hal (hst.1 h).1
     clear hst hal HE HR;go_upto_region 6 with(fail)
     go_cut [26] (λt wx=>t=.bool true/\Hid (Below w.heap.size w wx))
     case first=>
      go_region_with (first
       | (go_at_call 97;go_loud (refine(d2 _).out.mono ?_;rintro e w2 ⟨rfl,hb2⟩))
       | fail)
      all_goals go_wp2_with fail
      all_goals go_meet
      all_goals exact⟨rfl,HBl.out.drew.trans (hb2.mono HBS)⟩
     case rest=>obtain⟨rfl,HB2⟩:=hcut;go_wp2;go_ret;exact⟨a1a HE2.out.symm,HB2.out⟩
   ·obtain rfl:k=n':=by omega
    have HE2:Hid (R=true):=by
     show _=_
     rw[HE.out,List.drop_of_length_le (by rw[List.length_take];have:=HYL.out;omega),List.drop_of_length_le (by have:=HYL.out;omega)];rfl
    clear HE c2;go_wp2;go_ret;exact⟨a1a HE2.out.symm,HBl.out⟩
 ·have hf:decide (ys.length<=xs.length/\(xs.take ys.length).map B0a=ys.map B0a)=false:=decide_eq_false λh=>by omega
  rw[hf];have hlt:n<n':=by omega
  clear hf hnn hx hy hxl hyl c2;go_enter Tryz.func200,Tryz.ntmps200;go_wp2;go_ret;exact⟨rfl,Below.refl _ _⟩
theorem C6b(s t:ByteArray)(w:World)(hs:s.size<=4294967296)(ht:t.size<=4294967296) :
  Calls Tryz.prog 171 #[.string s,.string t] w λe w'=>e=.returned (.bool (g3a s.data.toList t.data.toList))/\Below w.heap.size w w':=by
 have c1:=T4a s w hs;have c2:=λw=>T4a t w ht
 unfold e2a at c1 c2;unfold g3a;have n1:=B2a (l:=s.data.toList);have n2:=B2a (l:=t.data.toList);have l1:=t3a s.data.toList;have l2:=t3a t.data.toList;obtain⟨L,hL⟩:∃L,L=m0a s.data.toList:=⟨_,rfl⟩;obtain⟨M,hM⟩:∃L,L=m0a t.data.toList:=⟨_,rfl⟩;obtain⟨E,hE⟩:∃E,E=h0a s.data.toList:=⟨_,rfl⟩;obtain⟨F,hF⟩:∃E,E=h0a t.data.toList:=⟨_,rfl⟩;rw[<-hL,<-hE] at c1;rw[<-hM,<-hF] at c2;rw[<-hL,<-hM,<-hE,<-hF];rw[<-hL] at n1 l1;rw[<-hM] at n2 l2;have c3:=fun (w:World) A A' n c n' c' hx hy=>L8b w A A' n c n' c' L M hx hy (λp hp=>by have:=S0a (n1 p hp);omega) (λp hp=>by have:=S0a (n2 p hp);omega)
 have HL1:=hI l1;have HL2:=hI l2;have C1:=hI c1;have C2:=hI c2;clear c1 c2 hL hM hE hF n1 n2 l1 l2;by_cases he:E=0
 ·subst he;by_cases hf:F=0
  ·subst hf;by_cases hlen:M.length<L.length
   ·have hd:decide (M.length<=L.length/\(L.take M.length).map B0a=M.map B0a)=decide ((0:Int)=0/\(0:Int)=0/\M.length<L.length/\(L.take M.length).map B0a=M.map B0a):=by refine decide_eq_decide.2 ⟨λh=>⟨rfl,rfl,hlen,h.2⟩,λh=>⟨by omega,h.2.2.2⟩⟩
    rw[hd] at c3;obtain⟨R,hR⟩:∃R,R=decide ((0:Int)=0/\(0:Int)=0/\M.length<L.length/\(L.take M.length).map B0a=M.map B0a):=⟨_,rfl⟩;rw[<-hR] at c3⊢;have C3:=hI c3;have HLEN:=hI hlen;clear c3 hd hR hlen;go_enter Tryz.func171,Tryz.ntmps171;go_wp2_with fail;refine C1.out.mono ?_;rintro e w1 ⟨v,rfl,ho1,hb1⟩;have HO1:=hI ho1;clear ho1;go_wp2_with fail;refine(C2.out _).mono ?_;rintro e w2 ⟨u,rfl,ho2,hb2⟩;obtain⟨A,k,c,rfl,hh⟩:=(HO1.out.below hb2).holds;obtain⟨A',k',c',rfl,hh'⟩:=ho2.holds;have e1:=hh.len;have e2:=hh'.len;have tk:(k':Int)<k:=by have:=HLEN.out;omega
    have d3:=hI (C3.out _ _ _ _ _ _ _ hh hh' (by have:=HL1.out;omega) (by have:=HL2.out;omega));have hB2:=step hb1 hb2;clear ho2 HO1 hh hh' e1 e2 C1 C2 C3;go_wp2_with fail;refine d3.out.mono ?_;rintro e w3 ⟨rfl,hb3⟩;go_wp2;go_ret;exact⟨rfl,step hB2 hb3⟩
   ·rw[decide_eq_false (λh=>hlen h.2.2.1)];have HLEN:=hI hlen;clear c3 hlen;go_enter Tryz.func171,Tryz.ntmps171;go_wp2_with fail;refine C1.out.mono ?_;rintro e w1 ⟨v,rfl,ho1,hb1⟩;have HO1:=hI ho1;clear ho1;go_wp2_with fail;refine(C2.out _).mono ?_;rintro e w2 ⟨u,rfl,ho2,hb2⟩;obtain⟨A,k,c,rfl,hh⟩:=(HO1.out.below hb2).holds;obtain⟨A',k',c',rfl,hh'⟩:=ho2.holds;have e1:=hh.len;have e2:=hh'.len;have tk:¬(k':Int)<k:=by have:=HLEN.out;omega
    have hB2:=step hb1 hb2;clear ho2 HO1 hh hh' e1 e2 C1 C2;go_wp2;go_ret;exact⟨rfl,hB2⟩
  ·rw[decide_eq_false (λh=>hf h.2.1)];have tf:(F==0)=false:=by simpa using hf
   clear c3 hf;go_enter Tryz.func171,Tryz.ntmps171;go_wp2_with fail;refine C1.out.mono ?_;rintro e w1 ⟨v,rfl,ho1,hb1⟩;go_wp2_with fail;refine(C2.out _).mono ?_;rintro e w2 ⟨u,rfl,ho2,hb2⟩;go_wp2;go_ret;exact⟨rfl,step hb1 hb2⟩
 ·rw[decide_eq_false (λh=>he h.1)];have te:(E==0)=false:=by simpa using he
  clear c3 he;go_enter Tryz.func171,Tryz.ntmps171;go_wp2_with fail;refine C1.out.mono ?_;rintro e w1 ⟨v,rfl,ho1,hb1⟩;go_wp2_with fail;refine(C2.out _).mono ?_;rintro e w2 ⟨u,rfl,ho2,hb2⟩;go_wp2;go_ret;exact⟨rfl,step hb1 hb2⟩
theorem N1a(y:VP):∀u∈C0a y,u.oneCell'=true:=by intro u hu;simp only[C0a,List.mem_cons,List.not_mem_nil,or_false] at hu;rcases hu with rfl | rfl | rfl | rfl | rfl<;>rfl
theorem H3a:(Tryz.prog.info? 98).map (·.size)=some 5:=by kernel_rfl
section
variable {w w':World} {base base' g i:Nat} {v:Value} {V:X0a} {M:List VP} {S:Nat->Prop} {n:Int}
theorem W2b{L:List k0a}(hn:∀j (hj:j<L.length),L[j].n≠n):C3a L n=-1/\vAt L n=none:=by
 have h2:¬vIx L n<L.length:=λh=>by have:decide ((L[vIx L n]'h).n=n)=true:=List.findIdx_getElem (p:=λx:k0a=>decide (x.n=n)) (w:=h);exact hn _ h (of_decide_eq_true this)
 unfold C3a vAt;rw[if_neg h2,List.getElem?_eq_none (by omega)];exact⟨rfl,rfl⟩
theorem Q7a{L:List k0a}:C3a L n=-1/\vAt L n=none∨∃hi:vIx L n<L.length,C3a L n=(vIx L n:Int)/\vAt L n=some (L[vIx L n]'hi):=by
 by_cases h:vIx L n<L.length
 ·exact .inr ⟨h,if_pos h,List.getElem?_eq_getElem h⟩
 ·refine .inl ⟨if_neg h,?_⟩;unfold vAt;exact List.getElem?_eq_none (by omega)
end
theorem R7a(w:World)(base g:Nat)(v:Value)(V:X0a)(M:List VP)(d:T2a w base g v V M)(m:Int) :
  Calls Tryz.prog 48 #[.pointer (some ⟨g,0,none⟩),.int .i64 m] w λe w'=>e=.returned (.int .i64 (C3a V.l m))/\Below w.heap.size w w':=by
 obtain⟨A,c,rfl⟩:=d.len;have k0:w.cell? ⟨g,2,none⟩=some (.slice A V.l.length c):=d.blk.cell 2;have hsm:=d.ok.many;have D:=hI d;obtain⟨n,hn⟩:∃n,n=V.l.length:=⟨_,rfl⟩;rw[<-hn] at k0 hsm;have HN:=hI hn;clear d hn;go_enter Tryz.func48,Tryz.ntmps48;go_wp2_with fail;go_loopw [5] (λI wr=>∃i:Nat,i<=n/\I=.int .i64 (i:Nat)/\Hid (∀j (hj:j<V.l.length),j<i->V.l[j].n≠m)/\Hid (Below w.heap.size w wr)) (λI _=>n-(intOf I).toNat)
 case atStart=>exact⟨0,Nat.zero_le _,rfl,(λj _ h=>absurd h (Nat.not_lt_zero _)),Below.refl _ _⟩
 case round=>
  obtain⟨i,hi,rfl,NO,LR⟩:=hrel;have k0':wr.cell? ⟨g,2,none⟩=some (.slice A n c):=(LR.out.cell (d0a k0)).trans k0;by_cases hlt:i<n
  ·have hil:i<V.l.length:=by have:=HN.out;omega
   obtain⟨q,c',e,hnc,hcm,k1,_⟩:=(D.out.below LR.out).at hil;injection e with e1 e2 e3
   subst e1 e3;obtain⟨x,hx⟩:∃x,x=V.l[i].n:=⟨_,rfl⟩;rw[<-hx] at k1;have HX:=hI hx;clear hx e2;by_cases he:x=m
   ·have HR:Hid (C3a V.l m=(i:Int)):=(C9a hil (HX.out.symm.trans he) λj hj=>NO.out j _ hj).1;have t:(x==m)=true:=by rw[he];exact beq_self_eq_true _
    go_wp2_with fail;go_ret;exact⟨by rw[HR.out];rfl,LR.out⟩
   ·have t:(x==m)=false:=by simpa using he
    have HE:=hI he;clear he;go_wp2_with fail;go_roundw
    case rel=>exact⟨i+1,by omega,by go_num,(λj hj hji=>by
     rcases Nat.lt_or_ge j i with h | h
     ·exact NO.out j hj h
     ·obtain rfl:j=i:=by omega
      rw[<-HX.out];exact HE.out),LR.out⟩
    case measure=>simp[intOf];omega
  ·obtain rfl:i=n:=by omega
   have HR:Hid (C3a V.l m=-1):=(W2b λj hj=>NO.out j hj (by have:=HN.out;omega)).1;go_wp2_with fail;go_ret;exact⟨by rw[HR.out];rfl,LR.out⟩
theorem M8b{L:List k0a}{i:Nat}{d:Int}{s:o0a}(hi:i<L.length)(h:L[i].par=d/\f1a L[i].name s=true)(hn:∀j (hj:j<i),¬((L[j]'(by omega)).par=d/\f1a (L[j]'(by omega)).name s=true)):x0a L d s=L[i].n:=by
 have e:L.find? (λx=>decide (x.par=d)&&f1a x.name s)=some L[i]:=by
  rw[List.find?_eq_some_iff_getElem];refine⟨by simp[h.1,h.2],i,hi,rfl,λj hj=>?_⟩;have:=hn j hj;simp only[Bool.not_eq_true',Bool.and_eq_false_iff,decide_eq_false_iff_not];by_cases hp:(L[j]'(by omega)).par=d
  ·refine .inr ?_;cases hq:f1a (L[j]'(by omega)).name s with
   | false=>rfl
   | true=>exact absurd ⟨hp,hq⟩ this
  ·exact .inl hp
 unfold x0a;rw[e]
theorem N8b{L:List k0a}{d:Int}{s:o0a}(hn:∀j (hj:j<L.length),¬(L[j].par=d/\f1a L[j].name s=true)):x0a L d s=0:=by
 have e:L.find? (λx=>decide (x.par=d)&&f1a x.name s)=none:=by rw[List.find?_eq_none];intro x hx;obtain⟨j,hj,rfl⟩:=List.mem_iff_getElem.1 hx;have:=hn j hj;simpa using this
 unfold x0a;rw[e]
theorem Q9a(w:World)(base g:Nat)(v:Value)(V:X0a)(M:List VP)(d:T2a w base g v V M)(m:Int)(s:o0a)(hs:s.length<=1048576) :
  Calls Tryz.prog 45 #[.pointer (some ⟨g,0,none⟩),.int .i64 m,V0a s] w λe w'=>e=.returned (.int .i64 (x0a V.l m s))/\Below w.heap.size w w':=by
 obtain⟨A,c,rfl⟩:=d.len;have k0:w.cell? ⟨g,2,none⟩=some (.slice A V.l.length c):=d.blk.cell 2;have hsm:=d.ok.many;have D:=hI d;obtain⟨n,hn⟩:∃n,n=V.l.length:=⟨_,rfl⟩;rw[<-hn] at k0 hsm;have HN:=hI hn;obtain⟨S,hS⟩:∃S:ByteArray,S=⟨s.toArray⟩:=⟨_,rfl⟩;have hS1:V0a s=.string S:=by rw[hS];rfl
 have hS2:Hid (S.data.toList=s):=by rw[hS];rfl
 have hS3:S.size<=1048576:=by rw[Lib.size_eq,hS2.out];exact hs
 rw[hS1];clear d hn hS hS1;go_enter Tryz.func45,Tryz.ntmps45;go_wp2_with fail;go_loopw [7] (λI wr=>∃i:Nat,i<=n/\I=.int .i64 (i:Nat)/\Hid (∀j (hj:j<V.l.length),j<i->¬(V.l[j].par=m/\f1a V.l[j].name s=true))/\Hid (Below w.heap.size w wr)) (λI _=>n-(intOf I).toNat)
 case atStart=>exact⟨0,Nat.zero_le _,rfl,(λj _ h=>absurd h (Nat.not_lt_zero _)),Below.refl _ _⟩
 case round=>
  obtain⟨i,hi,rfl,NO,LR⟩:=hrel;have k0':wr.cell? ⟨g,2,none⟩=some (.slice A n c):=(LR.out.cell (d0a k0)).trans k0;by_cases hlt:i<n
  ·have hil:i<V.l.length:=by have:=HN.out;omega
   obtain⟨q,c',e,hnc,hcm,k1,_,k2,k3,_⟩:=(D.out.below LR.out).at hil;injection e with e1 e2 e3
   subst e1 e3;have hmem:=List.getElem_mem hil;obtain⟨x,hx⟩:∃x,x=V.l[i].par:=⟨_,rfl⟩;obtain⟨y,hy⟩:∃y,y=V.l[i].n:=⟨_,rfl⟩;obtain⟨N,hNm⟩:∃N:ByteArray,N=⟨V.l[i].name.toArray⟩:=⟨_,rfl⟩;have k3':wr.cell? ⟨q,i*5+3,none⟩=some (.string N):=by rw[k3,hNm];rfl
   have hN2:Hid (N.data.toList=V.l[i].name):=by rw[hNm];rfl
   have hN3:N.size<=1048576:=by
    rw[Lib.size_eq,hN2.out];by_cases h1:V.l[i].n=1
    ·rw[D.out.ok.one hmem h1];decide
    ·have:=S0a (D.out.ok.good _ hmem h1);omega
   rw[<-hx] at k2;rw[<-hy] at k1;have HX:=hI hx;have HY:=hI hy;clear hx hy e2 k3 hNm hmem;have ROUND:Hid (¬(V.l[i].par=m/\f1a V.l[i].name s=true)->∀j (hj:j<V.l.length),j<i+1->¬(V.l[j].par=m/\f1a V.l[j].name s=true)):=λh j hj hji=>by
    rcases Nat.lt_or_ge j i with h' | h'
    ·exact NO.out j hj h'
    ·obtain rfl:j=i:=by omega
     exact h
   by_cases he:x=m
   ·have t:(x==m)=true:=by rw[he];exact beq_self_eq_true _
    have CA:=hI (C1b N S wr (by omega) (by omega));rw[hN2.out,hS2.out] at CA;obtain⟨z,hz⟩:∃z,z=f1a V.l[i].name s:=⟨_,rfl⟩;rw[<-hz] at CA;have HZ:=hI hz;have HE:=hI he;clear hz he;go_wp2_with fail;refine CA.out.mono ?_;rintro e w1 ⟨rfl,l1⟩;have L1:=hI (LR.out.trans (l1.mono LR.out.size));have j0:w1.cell? ⟨g,2,none⟩=some (.slice (some ⟨q,0,none⟩) n c):=(L1.out.cell (d0a k0)).trans k0;have j1:w1.cell? ⟨q,i*5,none⟩=some (.int .i64 y):=(l1.cell (d0a k1)).trans k1;clear l1 CA;cases z with
    | true=>
     have HR:Hid (x0a V.l m s=y):=(M8b hil ⟨HX.out.symm.trans HE.out,HZ.out.symm⟩ λj hj=>NO.out j _ hj).trans HY.out.symm;go_wp2_with fail;go_ret;exact⟨by rw[HR.out];rfl,L1.out⟩
    | false=>
     go_wp2_with fail;go_roundw
     case rel=>exact⟨i+1,by omega,by go_num,ROUND.out (λh=>by rw[<-HZ.out] at h;cases h.2),L1.out⟩
     case measure=>simp[intOf];omega
   ·have t:(x==m)=false:=by simpa using he
    have HE:=hI he;clear he;go_wp2_with fail;go_roundw
    case rel=>exact⟨i+1,by omega,by go_num,ROUND.out (λh=>HE.out (HX.out.trans h.1)),LR.out⟩
    case measure=>simp[intOf];omega
  ·obtain rfl:i=n:=by omega
   have HR:Hid (x0a V.l m s=0):=N8b λj hj=>NO.out j hj (by have:=HN.out;omega)
   go_wp2_with fail;go_ret;exact⟨by rw[HR.out];rfl,LR.out⟩
theorem y6a(w:World)(base g:Nat)(v:Value)(V:X0a)(M:List VP)(d:T2a w base g v V M)(m:Int) :
  Calls Tryz.prog 44 #[.pointer (some ⟨g,0,none⟩),.int .i64 m] w λe w'=>e=.returned (.int .u8 (z0a V.l m))/\Below w.heap.size w w':=by
 obtain⟨A,c,rfl⟩:=d.len;have k0:w.cell? ⟨g,2,none⟩=some (.slice A V.l.length c):=d.blk.cell 2;have hsm:=d.ok.many;have CP:=hI (R7a w base g _ V M d m);have D:=hI d;obtain⟨n,hn⟩:∃n,n=V.l.length:=⟨_,rfl⟩;rw[<-hn] at k0 hsm;have HN:=hI hn;clear d hn;rcases Q7a (L:=V.l) (n:=m) with⟨p1,p2⟩ | ⟨hi,p1,p2⟩
 ·have hk:z0a V.l m=0:=by unfold z0a;rw[p2]
  rw[p1] at CP;rw[hk];go_enter Tryz.func44,Tryz.ntmps44;go_wp2_with fail;refine CP.out.mono ?_;rintro e w1 ⟨rfl,l1⟩;have L1:=hI l1;clear l1 CP;go_wp2_with fail;go_ret;exact⟨rfl,L1.out⟩
 ·have hk:z0a V.l m=(V.l[vIx V.l m]'hi).kind:=by unfold z0a;rw[p2]
  rw[p1] at CP;rw[hk];obtain⟨q,c',e,hnc,hcm,_,k1,_⟩:=D.out.at hi;injection e with e1 e2 e3
  subst e1 e3;obtain⟨x,hx⟩:∃x,x=(V.l[vIx V.l m]'hi).kind:=⟨_,rfl⟩;rw[<-hx] at k1⊢;obtain⟨i,hii⟩:∃i,i=vIx V.l m:=⟨_,rfl⟩;rw[<-hii] at CP hi k1;have hin:i<n:=by have:=HN.out;omega
  clear hx hii hi p1 p2 hk e2;go_enter Tryz.func44,Tryz.ntmps44;go_wp2_with fail;refine CP.out.mono ?_;rintro e w1 ⟨rfl,l1⟩;have L1:=hI l1;have j0:w1.cell? ⟨g,2,none⟩=some (.slice (some ⟨q,0,none⟩) n c):=(l1.cell (d0a k0)).trans k0;have j1:w1.cell? ⟨q,i*5+1,none⟩=some (.int .u8 x):=(l1.cell (d0a k1)).trans k1;clear l1 CP;go_wp2_with fail;go_ret;exact⟨rfl,L1.out⟩
end Go.Proofs.YtdgpbhdihhchgaaGreatDoor
