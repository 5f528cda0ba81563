import Derived.Lib.SlBytesConst
import Derived.Test.YtdgpbhdihhchgaaGreatDoorSAB
import Derived.Test.YtdgpbhdihhchgaaGreatDoorS0
set_option linter.all false
set_option maxHeartbeats 8000000
set_option maxRecDepth 100000
namespace Go.Proofs.YtdgpbhdihhchgaaGreatDoor
set_option maxRecDepth 100000
open Go.RowKit
theorem m4c{L:List k0a}{n:Int}{B:List Int}{Z:List Bool}{x:k0a}(h:o6a L)(hx:vAt L n=some x):v4a L n B Z=L.set (vIx L n) ⟨x.n,x.kind,x.par,x.name,B,Z⟩:=by
 obtain⟨hi,hx'⟩:=List.getElem?_eq_some_iff.1 hx;have hxn:=(y0a hx).2;unfold v4a;refine List.ext_getElem (by rw[List.length_map,List.length_set]) λj h1 h2=>?_
 have hj:j<L.length:=by rw[List.length_map] at h1;exact h1
 rw[List.getElem_map,List.getElem_set];by_cases e:vIx L n=j
 ·subst e;rw[if_pos rfl,hx',if_pos hxn]
 ·rw[if_neg e,if_neg];intro hn;have hr:=List.pairwise_iff_getElem.1 h;rcases Nat.lt_or_gt_of_ne e with k | k
  ·have:=hr _ _ hi hj k;rw[hx',hxn,hn] at this;omega
  ·have:=hr _ _ hj hi k;rw[hx',hxn,hn] at this;omega
theorem T2a.laid{w w3 w5:World}{base g q c b:Nat}{V V':X0a}{M:List VP}{n:Int}{x:k0a}{B:List Int}{Z:List Bool}{vB vZ:Value}(D:T2a w base g (.slice (some ⟨q,0,none⟩) V.l.length c) V M)(hx:vAt V.l n=some x)(hk:x.kind=2)(hm:vIx V.l n<M.length)
(hb:Below w.heap.size w w3)(hd:D6a w3 w.heap.size b vB vZ B Z)(hbase:base<=w.heap.size)
(ho:j1a C0a 5 98 w5 base (.slice (some ⟨q,0,none⟩) V.l.length c) (M.set (vIx V.l n) (⟨x.n,x.kind,x.par,x.name,B,Z⟩,some (b,vB,vZ))))(hO:S1a q w3 w5)
(hV:V'=⟨V.quota,V.last,v4a V.l n B Z⟩)(ok:Vok V'):u1a w base g (.slice (some ⟨q,0,none⟩) V.l.length c) M V' w5:=by
 subst hV;have hq:(Value.slice (some ⟨q,0,none⟩) V.l.length c).ownBlock=some q:=rfl;have hqw:q<w.heap.size:=D.row.lt hq;have hne:∀j,rdS b vB vZ j->j≠q:=λj hj e=>by have:=hd.set_ge j hj;omega
 refine D.turned ((g0a.of_over (rvS g (.slice (some ⟨q,0,none⟩) V.l.length c)) hb).trans (g0a.of_only hO) (λj _ e=>by rw[e];exact .inr hq)) ((D.blk.over hb).only hO λe=>D.own_ne (by rw[e];exact hq)) ho (Z0a.refl _ _) ?_ (λy hy=>?_) ok D.big
 ·show(M.set _ _).map (·.1)=v4a V.l n B Z
  rw[m4c D.ok.rise hx,List.map_set,D.is]
 ·rcases List.mem_or_eq_of_mem_set hy with h | h
  ·exact .inl ⟨y,h,rfl,rfl,rfl,rfl⟩
  ·subst h;exact .inr (.inr ⟨hk,b,vB,vZ,rfl,⟨Nat.le_trans hbase hd.ge,(hd.spare (g0a.of_only hO) hne).blk,(hd.spare (g0a.of_only hO) hne).rowB.mono hbase,(hd.spare (g0a.of_only hO) hne).rowZ.mono hbase,hd.len,hd.small,hd.byte⟩,λj hj=>hd.set_ge j hj⟩)
def putRow(n:Int)(s k:Nat):List Int:=(le n s).take k++List.replicate (s-k) 0
theorem D5b.over{w w' w2:World}{g:Nat}(a:D5b g w w')(hb:Below w'.heap.size w' w2):D5b g w w2:=a.trans (D5b.of_below hb g)
theorem d2a{P:Program}{fn:Func}{p q:Tmp}{ty:TypeId}(h:fn.results=#[.cell p ty,.tmp q])(tmps:Array Value)(w:World)(g:Nat)(t:TypeId)(cs:Array Value)(fr:Nat×Nat)(d:TypeDesc)
(hp:tmps.getD p undef=.pointer (some ⟨g,0,none⟩))(hg:w.heap[g]? = some (.cells cs t fr))
(hu:P.underlying ty=some d)(hd:(match d with | .struct _ | .array _ _=>true | _=>false)=true)(hi:(P.info? ty).map (·.size)=some cs.size){v:Value}(hv:tmps.getD q undef=v) :
  (results fn tmps).run P w=.ok (.tuple #[.agg cs,v]) w:=by
 have hp':tmps[p]?.getD undef=.pointer (some ⟨g,0,none⟩):=by simpa using hp
 have hv':tmps[q]?.getD undef=v:=by simpa using hv
 simp[results,h,hp',hv',asAddr,run_loadVar_row w g t ty cs fr d hg hu hd hi]
theorem w2a:(Tryz.prog.info? 34).map (λi=>(i.zero,i.size))=some (some (.agg ([.int .u8 0,.int .i64 0]:List Value).toArray),2):=by kernel_rfl
theorem J0a:(Tryz.prog.info? 34).map (·.size)=some 2:=by kernel_rfl
def c2a(x:Int):Prop:=-9223372036854775808<=x/\x<=9223372036854775807
def R0a(q:Nat):Value:=.pointer (some ⟨q,0,none⟩)
def W0a(x:k0a):List Value:=[V0a x.name,.int .u8 x.kind,.int .i64 (x.B.length:Nat)]
theorem x2a(x:k0a):(W0a x).length=3:=rfl
def B3a(is:World->Nat->Nat->X0a->(Nat->Prop)->Prop)(w:World)(b q:Nat)(S:Nat->Prop)(V':X0a)(w':World):Prop:=∃S',is w' b q V' S'/\g0a S w w'/\∀j,S' j->S j∨w.heap.size<=j
structure e0b where
 tb:Nat->World->Prop
 tbNext:∀{b:Nat} {w w':World},tb b w->Below b w w'->tb b w'
 tbUp:∀{b b':Nat} {w:World},tb b w->b<=b'->tb b' w
 is:World->Nat->Nat->X0a->(Nat->Prop)->Prop
 ge:∀{w:World} {b q:Nat} {V:X0a} {S:Nat->Prop},is w b q V S->∀j,S j->b<=j/\j<w.heap.size
 ok:∀{w:World} {b q:Nat} {V:X0a} {S:Nat->Prop},is w b q V S->Vok V/\V.last<=1048576
 keep:∀{w w':World} {b q:Nat} {V:X0a} {S S':Nat->Prop},is w b q V S->g0a S' w w'->(∀j,S j->¬S' j)->is w' b q V S
 mono:∀{w:World} {b b' q:Nat} {V:X0a} {S:Nat->Prop},is w b q V S->b'<=b->is w b' q V S
 new:∀{w:World} {b:Nat} {k:Int},tb b w->b<=w.heap.size->c2a k->Calls Tryz.prog 37 #[.int .i64 k] w λe w'=>(O3a k≠0->e=.returned (.tuple #[.pointer none,.int .i64 (O3a k)])/\Below w.heap.size w w')/\
  (O3a k=0->∃q S,e=.returned (.tuple #[R0a q,.int .i64 0])/\is w' w.heap.size q (e2c k) S/\Below w.heap.size w w')
 find:∀{w:World} {b q:Nat} {V:X0a} {S:Nat->Prop},is w b q V S->tb b w->b<=w.heap.size->∀{s:o0a},s.length<=1048576->Calls Tryz.prog 13 #[R0a q,V0a s] w λe w'=>e=.returned (.tuple #[.int .i64 (A1a V.l s).1,.int .i64 (A1a V.l s).2])/\Below w.heap.size w w'
 make:∀{w:World} {b q:Nat} {V:X0a} {S:Nat->Prop},is w b q V S->tb b w->b<=w.heap.size->V.last<1048576->∀{s:o0a} {k:Int},s.length<=1048576->Calls Tryz.prog 28 #[R0a q,V0a s,.int .u8 k] w λe w'=>e=.returned (.tuple #[.int .i64 (r2a V s k),.int .i64 (I1a V s k)])/\B3a is w b q S (F3a V s k) w'
 remove:∀{w:World} {b q:Nat} {V:X0a} {S:Nat->Prop},is w b q V S->tb b w->b<=w.heap.size->∀{n:Int},c2a n->Calls Tryz.prog 29 #[R0a q,.int .i64 n] w λe w'=>e=.returned (.int .i64 (D3a V.l n))/\B3a is w b q S (U6a V n) w'
 move:∀{w:World} {b q:Nat} {V:X0a} {S:Nat->Prop},is w b q V S->tb b w->b<=w.heap.size->∀{n:Int} {s:o0a} {o:Bool},c2a n->s.length<=1048576->Calls Tryz.prog 26 #[R0a q,.int .i64 n,V0a s,.bool o] w λe w'=>e=.returned (.int .i64 (x1a V.l n s o))/\B3a is w b q S (h2a V n s o) w'
 write:∀{w:World} {b q:Nat} {V:X0a} {S:Nat->Prop},is w b q V S->tb b w->b<=w.heap.size->∀{n a:Int} {A:Option Addr} {m c:Nat} {xs:List Int},c2a n->c2a a->Holds w w.heap.size A m c xs->(0<m->∀x,A=some x->¬S x.block)->c<=140737488355328->Calls Tryz.prog 30 #[R0a q,.int .i64 n,.int .i64 a,.slice A m c] w λe w'=>e=.returned (.int .i64 (A0b V n a xs))/\B3a is w b q S (vWr V n a xs) w'
 cut:∀{w:World} {b q:Nat} {V:X0a} {S:Nat->Prop},is w b q V S->tb b w->b<=w.heap.size->∀{n s:Int},c2a n->c2a s->Calls Tryz.prog 31 #[R0a q,.int .i64 n,.int .i64 s] w λe w'=>e=.returned (.int .i64 (n6a V n s))/\B3a is w b q S (b2b V n s) w'
 stat:∀{w:World} {b q:Nat} {V:X0a} {S:Nat->Prop},is w b q V S->∀{n:Int},c2a n->Calls Tryz.prog 15 #[R0a q,.int .i64 n] w λe w'=>e=.returned (.tuple #[.agg #[.int .u8 (z0a V.l n),.int .i64 (I4a V.l n:Nat)],.int .i64 (N2a V.l n)])/\Below w.heap.size w w'
 path:∀{w:World} {b q:Nat} {V:X0a} {S:Nat->Prop},is w b q V S->tb b w->b<=w.heap.size->∀{n:Int},c2a n->Calls Tryz.prog 17 #[R0a q,.int .i64 n] w λe w'=>e=.returned (.tuple #[V0a (i1a V.l n),.int .i64 (I2a V.l n)])/\Below w.heap.size w w'
 read:∀{w:World} {b q:Nat} {V:X0a} {S:Nat->Prop},is w b q V S->∀{n a k:Int},c2a n->c2a a->c2a k->Calls Tryz.prog 25 #[R0a q,.int .i64 n,.int .i64 a,.int .i64 k] w λe w'=>∃u,e=.returned (.tuple #[u,.int .i64 (s2a V.l n a k)])/\Own w' w.heap.size u (E2a V.l n a k)/\Below w.heap.size w w'
 list:∀{w:World} {b q:Nat} {V:X0a} {S:Nat->Prop},is w b q V S->tb b w->b<=w.heap.size->∀{n m:Int} {p a:o0a},c2a n->c2a m->p.length<=1048576->a.length<=1048576->Calls Tryz.prog 19 #[R0a q,.int .i64 n,V0a p,V0a a,.int .i64 m] w λe w'=>∃u,e=.returned (.tuple #[u,.bool (N8a V.l n p a m),.int .i64 (Z3a V.l n p a m)])/\j1a W0a 3 49 w' w.heap.size u (D4a V.l n p a m)/\Below w.heap.size w w'
 used:∀{w:World} {b q:Nat} {V:X0a} {S:Nat->Prop},is w b q V S->tb b w->Calls Tryz.prog 24 #[R0a q] w λe w'=>e=.returned (.int .i64 (T0a V.l:Nat))/\Below w.heap.size w w'
 nodes:∀{w:World} {b q:Nat} {V:X0a} {S:Nat->Prop},is w b q V S->tb b w->Calls Tryz.prog 22 #[R0a q] w λe w'=>∃u,e=.returned u/\t1a (Value.int .i64) 3 w' w.heap.size u (Y0a V.l)/\Below w.heap.size w w'
structure z8a (I:e0b) (w:World) (b q:Nat) (S:Nat->Prop) (g:Nat) (v:Value) (V V':X0a) (M:List VP):Prop where
 x:I.is w b q V S
 r:T2a w b g v V' M
 off:∀j,S j->¬rvA g v M j
 hb:b<=w.heap.size
 tb:I.tb b w
section
variable {I:e0b} {w w':World} {b q g:Nat} {S S':Nat->Prop} {v v':Value} {V V' V2:X0a} {M M':List VP}
theorem e0b.below(I:e0b)(h:I.is w b q V S)(hb:Below w.heap.size w w'):I.is w' b q V S:=I.keep h (g0a.of_over (λ_=>False) hb) λ_ _ h=>h
theorem z8a.below(h:z8a I w b q S g v V V' M)(hb:Below w.heap.size w w'):z8a I w' b q S g v V V' M:=⟨I.below h.x hb,h.r.below hb,h.off,Nat.le_trans h.hb hb.size,I.tbNext h.tb (hb.mono h.hb)⟩
theorem z8a.left(h:z8a I w b q S g v V V' M)(k:B3a I.is w b q S V2 w'):∃S',z8a I w' b q S' g v V2 V' M:=by
 obtain⟨S',x,a,n⟩:=k;refine⟨S',x,h.r.spare a λj hj hs=>h.off j hs hj,λj hj hr=>?_,Nat.le_trans h.hb a.size,I.tbNext h.tb (a.below (λj hj=>(I.ge h.x j hj).1) h.hb)⟩;rcases n j hj with h1 | h1
 ·exact h.off j h1 hr
 ·have:=(h.r.set_ge j hr).2;omega
theorem z8a.right(h:z8a I w b q S g v V V' M)(k:u1a w b g v M V2 w'):∃v' M',z8a I w' b q S g v' V V2 M':=by
 obtain⟨v',M',r,a,n⟩:=k;refine⟨v',M',I.keep h.x a h.off,r,λj hj hr=>?_,Nat.le_trans h.hb a.size,I.tbNext h.tb (a.below (λj hj=>(h.r.set_ge j hj).1) h.hb)⟩;rcases n j hr with h1 | h1
 ·exact h.off j hj h1
 ·have:=(I.ge h.x j hj).2;omega
end
open Go.RowKit Go.ChangeShapes Go.WideShapes
structure F2c where
 act:Int
 name:ByteArray
 nto:ByteArray
 num:Int
deriving Inhabited
def C4b(a:F2c):List Value:=[.int .i64 a.act,.string a.name,.string a.nto,.int .i64 a.num]
structure W3c (R:Nat) (a:F2c):Prop where
 act:-9223372036854775808<=a.act/\a.act<=9223372036854775807
 num:-9223372036854775808<=a.num/\a.num<=9223372036854775807
 name:a.name.size<=R
 nto:a.nto.size<=R
structure F9a (R:Nat) (w:World) (B:Nat) (A:Option Addr) (n c:Nat) (l:List F2c):Prop where
 row:L0a C4b 4 w B A n c l
 each:∀x∈l,W3c R x
section
variable {R:Nat} {w w':World} {B B':Nat} {A:Option Addr} {n c:Nat} {l:List F2c}
theorem F9a.below(h:F9a R w B A n c l)(hb:Below B w w'):F9a R w' B A n c l:=⟨h.row.below hb,h.each⟩
theorem F9a.mono(h:F9a R w B A n c l)(hB:B<=B'):F9a R w B' A n c l:=⟨h.row.mono hB,h.each⟩
theorem F9a.over(h:F9a R w w.heap.size A n c l)(hb:Below w.heap.size w w'):F9a R w' w'.heap.size A n c l:=(h.below hb).mono hb.size
theorem F9a.len(h:F9a R w B A n c l):l.length=n:=h.row.len
theorem F9a.at(h:F9a R w B A n c l){i:Nat}(hi:i<n):∃b off x,A=some ⟨b,off,none⟩/\b<B/\l[i]? = some x/\W3c R x/\w.rangeAt b (off+i*4) (C4b x):=by obtain⟨b,off,e,hb,hc⟩:=h.row.cells (by omega);have hl:=h.row.len;have hx:l[i]? = some l[i]:=List.getElem?_eq_getElem (by omega);exact⟨b,off,l[i],e,hb,hx,h.each _ (List.getElem_mem _),h.row.range e hi hx⟩
end
section
variable {H:Type} {enc:TypeId×Value->H} {W:World} {base:Nat} {v:Value} {d:DataW H} {p:List MemPlace}
end
def K4c(x:Int):Prop:=-9223372036854775808<=x/\x<=9223372036854775807
def T1b(q:Nat):Value:=.pointer (some ⟨q,0,none⟩)
def G2c(is:World->Nat->Nat->List I0a->(Nat->Prop)->Prop)(w:World)(b q:Nat)(S:Nat->Prop)(E:Int)(L':List I0a)(e:Ending)(w':World):Prop:=e=.returned (.int .i64 E)/\∃S',is w' b q L' S'/\g0a S w w'/\∀j,S' j->S j∨w.heap.size<=j
section
variable {w w':World} {b q g:Nat} {S S':Nat->Prop} {v v':Value} {L L' M M':List I0a}
end
section
variable {P:Program} {ops:Array Oper} {md:Region.Mode} {S S':World->Prop} {Q:Exit->Act->World->Prop}
end
theorem T2a.name{w:World}{base g:Nat}{v:Value}{V:X0a}{M:List VP}(d:T2a w base g v V M){y:VP}(hy:y∈M):y.1.name.length<=1048576:=by
 have hm:y.1∈V.l:=by rw[<-d.is];exact List.mem_map.2 ⟨y,hy,rfl⟩
 by_cases h1:y.1.n=1
 ·rw[d.ok.one hm h1];decide
 ·have:=S0a (d.ok.good _ hm h1);omega
open Go.RowKit Go.Lib
section
variable {L:List I0a} {s t p a:ByteArray} {n:Int} {i k:Nat}
def dPl(L:List I0a)(s:ByteArray):Nat:=L.findIdx λy=>!ahd y.1 s
theorem W9b:dPl L s<=L.length:=List.findIdx_le_length
theorem X9b(h:i<dPl L s)(hi:i<L.length):ahd (L[i]).1 s=true:=by have:=List.not_of_lt_findIdx (p:=λy:I0a=>!ahd y.1 s) h;simpa using this
theorem Y9b(h:dPl L s<L.length):ahd (L[dPl L s]'h).1 s=false:=by have h2:(!ahd (L[dPl L s]'h).1 s)=true:=List.findIdx_getElem (p:=λy:I0a=>!ahd y.1 s) (w:=h);simpa using h2
theorem Dok.lt(ok:Dok L)(hik:i<k)(hk:k<L.length):ahd (L[i]'(by omega)).1 L[k].1=true:=List.pairwise_iff_getElem.1 ok.rise i k (by omega) hk hik
theorem H2c(ok:Dok L)(h:dPl L s<=i)(hi:i<L.length):ahd L[i].1 s=false:=by
 rcases Nat.lt_or_ge (dPl L s) i with h1 | h1
 ·cases hq:ahd L[i].1 s with
  | false=>rfl
  | true=>have h2:=L8a (ok.lt h1 hi) hq;rw[Y9b (by omega)] at h2;cases h2
 ·obtain rfl:i=dPl L s:=by omega
  exact Y9b hi
theorem Z9b(ok:Dok L)(hh:s5a L s=true):dPl L s=dIx L s:=by
 have hl:=u2b hh;have hg:=R5b hl;rcases Nat.lt_trichotomy (dPl L s) (dIx L s) with h | h | h
 ·have h1:=ok.lt h hl;rw[z2c hg,Y9b (by omega)] at h1;cases h1
 ·exact h
 ·have h1:=m4a (X9b h hl);rw[hg] at h1;cases h1
theorem n4c(hn:s5a L s=false):Z1b L s n=L.take (dPl L s)++[(s,n)]++L.drop (dPl L s):=by
 induction L with
 | nil=>rfl
 | cons y r ih=>
  unfold s5a at hn;rw[List.any_cons,Bool.or_eq_false_iff] at hn;unfold Z1b dPl;rw[List.findIdx_cons];rcases Z0b y.1 s with h | h | h
  ·rw[hn.1] at h;cases h
  ·rw[if_neg (by rw[S6a h];decide),ih hn.2,h];rfl
  ·rw[if_pos h,S6a h];rfl
theorem o4c(ok:Dok L)(he:O1a L s=0):n0b L s=L.take (dPl L s)++L.drop (dPl L s+1):=by unfold n0b;rw[if_pos he,Z9b ok (g2a.1 he).2,List.eraseIdx_eq_take_drop_succ]
theorem b0c(ok:Dok L)(he:O1a L s=0):dPl L s<L.length:=by rw[Z9b ok (g2a.1 he).2];exact u2b (g2a.1 he).2
theorem I2c(ok:Dok L)(he:O1a L s=0):T6a L s=L[dPl L s]'(b0c ok he):=by
 have e:=Z9b ok (g2a.1 he).2;have hl:=u2b (g2a.1 he).2;unfold T6a;rw[if_pos he,List.getD_eq_getElem?_getD,List.getElem?_eq_getElem hl];show L[dIx L s]=_
 simp only[e]
def dNm(L:List I0a):List ByteArray:=L.map (·.1)
theorem Y6a:(dNm L).length=L.length:=List.length_map _
theorem c0c(h:i<L.length):(dNm L)[i]? = some L[i].1:=by unfold dNm;rw[List.getElem?_map,List.getElem?_eq_getElem h];rfl
theorem p4c(hn:s5a L s=false):dNm (Z1b L s n)=(dNm L).take (dPl L s)++[s]++(dNm L).drop (dPl L s):=by unfold dNm;rw[n4c hn,List.map_append,List.map_append,List.map_take,List.map_drop];rfl
theorem q4c(ok:Dok L)(he:O1a L s=0):dNm (n0b L s)=(dNm L).take (dPl L s)++(dNm L).drop (dPl L s+1):=by unfold dNm;rw[o4c ok he,List.map_append,List.map_take,List.map_drop]
def E4a(s:ByteArray):Lit:=.string (B0a s.data.toList)
theorem d5a:E4a s=E4a t↔alk s t=true:=by rw[G5a,<-J0b];unfold E4a;exact⟨λh=>by injection h,λh=>by rw[h]⟩
structure G9a (D:DataW Unit) (L:List I0a):Prop where
 tidy:Maps.Tidy D
 has:∀s,Maps.has D (E4a s)=s5a L s
 val:∀y∈L,D.atKey (E4a y.1) (.lit (.int .i64 0))=.lit (.int .i64 y.2)
 size:Maps.size D=L.length
theorem G9a.nil:G9a (.map []) []:=⟨Maps.tidy_empty,λs=>rfl,(λy hy=>by cases hy),rfl⟩
theorem H9a:WideAt.IsKeyLit (E4a s):=trivial
theorem J2c:s5a (Z1b L s n) t=(alk s t||s5a L t):=by
 rw[Bool.eq_iff_iff,Bool.or_eq_true,I3a,I3a];constructor
 ·rintro⟨x,hx,ha⟩;rcases t5a.1 hx with rfl | hx
  ·exact .inl ha
  ·exact .inr ⟨x,hx,ha⟩
 ·rintro(h | ⟨x,hx,ha⟩)
  ·exact⟨(s,n),t5a.2 (.inl rfl),h⟩
  ·exact⟨x,t5a.2 (.inr hx),ha⟩
theorem G9a.put{D:DataW Unit}(h:G9a D L)(hn:s5a L s=false):G9a (D.put (E4a s) (.lit (.int .i64 n))) (Z1b L s n):=by
 refine⟨h.tidy.put H9a _,λt=>?_,λy hy=>?_,?_⟩
 ·rw[J2c];cases hq:alk s t with
  | true=>
   rw[d5a.2 hq] at *;rw[Maps.has_put_same h.tidy.isMap H9a];rfl
  | false=>
   have hne:E4a t≠E4a s:=λe=>by rw[d5a.1 e.symm] at hq;cases hq
   rw[Maps.has_put_other hne,h.has];rfl
 ·rcases t5a.1 hy with rfl | hy
  ·exact Maps.atKey_put_same h.tidy.isMap H9a _ _
  ·have hne:E4a y.1≠E4a s:=λe=>by have h1:s5a L s=true:=I3a.2 ⟨y,hy,d5a.1 e⟩;rw[hn] at h1;cases h1
   rw[Maps.atKey_put_other hne,h.val y hy]
 ·rw[Maps.size_put h.tidy,if_neg (by rw[h.has,hn];decide),h.size,i7b]
theorem G9a.del{D:DataW Unit}(h:G9a D L)(ok:Dok L)(he:O1a L s=0):G9a (D.del (E4a s)) (n0b L s):=by
 obtain⟨hb,hh⟩:=g2a.1 he;have hmem:∀y,y∈n0b L s↔y∈L/\alk y.1 s=false:=λy=>by
  rw[M8a ok];constructor
  ·rintro⟨h1,h2⟩;exact⟨h1,h2.resolve_left (by rw[hb];decide)⟩
  ·rintro⟨h1,h2⟩;exact⟨h1,.inr h2⟩
 refine⟨h.tidy.del _,λt=>?_,λy hy=>?_,?_⟩
 ·cases hq:alk s t with
  | true=>
   rw[<-d5a.2 hq,Maps.has_del_same];symm;cases hz:s5a (n0b L s) t with
   | false=>rfl
   | true=>
    obtain⟨x,hx,ha⟩:=I3a.1 hz;have h1:=((hmem x).1 hx).2;rw[R6a ha (z7a hq)] at h1;cases h1
  | false=>
   have hne:E4a t≠E4a s:=λe=>by rw[d5a.1 e.symm] at hq;cases hq
   rw[Maps.has_del_other hne,h.has,Bool.eq_iff_iff,I3a,I3a];constructor
   ·rintro⟨x,hx,ha⟩;refine⟨x,(hmem x).2 ⟨hx,?_⟩,ha⟩;cases hz:alk x.1 s with
    | false=>rfl
    | true=>have h1:=R6a (z7a hz) ha;rw[hq] at h1;cases h1
   ·rintro⟨x,hx,ha⟩;exact⟨x,((hmem x).1 hx).1,ha⟩
 ·obtain⟨h1,h2⟩:=(hmem y).1 hy;have hne:E4a y.1≠E4a s:=λe=>by rw[d5a.1 e] at h2;cases h2
  rw[Maps.atKey_del_other hne,h.val y h1]
 ·have h1:=Maps.size_del h.tidy (k:=E4a s);rw[h.has,hh,h.size] at h1;have h2:=j7b he;simp at h1;omega
theorem G9a.num{D:DataW Unit}(h:G9a D L)(he:O1a L s=0):D.atKey (E4a s) (.lit (.int .i64 0))=.lit (.int .i64 (T6a L s).2):=by obtain⟨hb,hh⟩:=g2a.1 he;obtain⟨_,h2,h3⟩:=g7b hb hh;rw[<-d5a.2 h3];exact h.val _ h2
theorem I9a{P:Program}{kt:TypeId}{R:Value->Option (DataW Unit×List MemPlace)}{w:World}{m N:Nat}{D:DataW Unit}(h:w.ownsMap P kt R m N D):w.ownsMap P kt R m (Maps.size D) D:=by obtain⟨es,clock,hb,F,hs,rfl⟩:=h;exact⟨es,clock,hb,F,by simp[Maps.size,length_sorted],rfl⟩
theorem v2b(hp:M0a p.data.toList []=0)(t:List UInt8):M0a p.data.toList t=M0a [] t:=by
 obtain⟨h1,h2⟩:=a0b.1 hp;unfold M0a;rw[h1,j2b,M3a];have h3:¬64<(j0a p.data.toList).length:=by omega
 simp[h3]
theorem x2b(h:∀i (hi:i<L.length),M0a p.data.toList L[i].1.data.toList=0):a1b L p=0:=by
 have e:L.find? (λy=>decide (M0a p.data.toList y.1.data.toList≠0))=none:=by rw[List.find?_eq_none];intro y hy;obtain⟨i,hi,rfl⟩:=List.mem_iff_getElem.1 hy;simp[h i hi]
 unfold a1b;rw[e]
theorem K2c(hk:k<L.length)(h:∀i (hi:i<L.length),i<k->M0a p.data.toList L[i].1.data.toList=0)(he:M0a p.data.toList L[k].1.data.toList≠0):a1b L p=M0a p.data.toList L[k].1.data.toList:=by
 have e:L.find? (λy=>decide (M0a p.data.toList y.1.data.toList≠0))=some L[k]:=by rw[List.find?_eq_some_iff_getElem];refine⟨by simpa using he,k,hk,rfl,λj hj=>?_⟩;simp[h j (by omega) hj]
 unfold a1b;rw[e]
def Z6a(L:List I0a)(p:ByteArray):Int:=if M0a p.data.toList []≠0 then M0a p.data.toList [] else a1b L p
theorem o8a:B6a L p a n=if n<0 then 2 else if Z6a L p≠0 then Z6a L p else if u0a a.data.toList=true then 0 else 5:=by
 unfold B6a Z6a;by_cases h1:M0a p.data.toList []=0
 ·simp[h1]
 ·simp[h1]
theorem D4b{l:List UInt8}(h:l≠[]):∃r u,j0a l=r::u:=by rw[q2a l h];exact⟨_,_,rfl⟩
theorem d0c(h0:a.size=0)(hb:J8a t=false):ahd a t=true:=by
 have ha:a.data.toList=[]:=by have:=Lib.size_eq a;exact List.eq_nil_of_length_eq_zero (by omega)
 have ht:t.data.toList≠[]:=λe=>by unfold J8a at hb;rw[Bool.or_eq_false_iff,decide_eq_false_iff_not,Lib.size_eq,e] at hb;exact hb.1 rfl
 obtain⟨r,u,e⟩:=D4b ht;rw[a5a,ha];unfold s0a;rw[e,M3a];simp[J6a]
def dFr(L:List I0a)(a:ByteArray):Nat:=L.findIdx λy=>ahd a y.1
theorem e0c:dFr L a<=L.length:=List.findIdx_le_length
theorem f0c(h:i<dFr L a)(hi:i<L.length):ahd a L[i].1=false:=by have:=List.not_of_lt_findIdx (p:=λy:I0a=>ahd a y.1) h;simpa using this
theorem r7b(ok:Dok L)(h:dFr L a<=i)(hi:i<L.length):ahd a L[i].1=true:=by
 have h0:ahd a (L[dFr L a]'(by omega)).1=true:=List.findIdx_getElem (p:=λy:I0a=>ahd a y.1) (w:=show dFr L a<L.length by omega);rcases Nat.lt_or_ge (dFr L a) i with h1 | h1
 ·exact L8a h0 (ok.lt h1 hi)
 ·obtain rfl:i=dFr L a:=by omega
  exact h0
noncomputable def f2c (p:ByteArray) (x:ByteArray):Bool:=E3a p.data.toList x.data.toList
theorem g0c(ok:Dok L):Y2a L p a=((dNm L).drop (dFr L a)).filter (f2c p):=by
 have e:∀(M:List I0a) (k:Nat),(∀i (hi:i<M.length),(k<=i->(decide (a.size=0)||ahd a M[i].1)=true)/\(i<k->(decide (a.size=0)||ahd a M[i].1)=false))->Y2a M p a=((dNm M).drop k).filter (f2c p):=by
  intro M
  induction M with
  | nil=>intro k h;simp[Y2a,dNm]
  | cons y r ih=>
   intro k h;have h0:=h 0 (by simp);have hr:=λj=>ih j
   cases k with
   | zero=>
    have h1:(decide (a.size=0)||ahd a y.1)=true:=h0.1 (Nat.le_refl _);have h2:=hr 0 (λi hi=>⟨λ_=>(h (i+1) (by simp;omega)).1 (by omega),λq=>by omega⟩);unfold Y2a dNm f2c at h2⊢;simp only[List.drop_zero,List.map_cons,List.filter_cons,h1,Bool.and_true] at h2⊢;split
    ·rw[List.map_cons,h2]
    ·exact h2
   | succ k=>have h1:(decide (a.size=0)||ahd a y.1)=false:=h0.2 (by omega);have h2:=hr k (λi hi=>⟨λq=>(h (i+1) (by simp;omega)).1 (by omega),λq=>(h (i+1) (by simp;omega)).2 (by omega)⟩);unfold Y2a dNm f2c at h2⊢;simp only[List.map_cons,List.drop_succ_cons,List.filter_cons,h1,Bool.and_false] at h2⊢;exact h2
 refine e L (dFr L a) λi hi=>⟨λh=>by rw[r7b ok h hi,Bool.or_true],λh=>?_⟩
 have h1:=f0c h hi;have h2:¬a.size=0:=λq=>by rw[d0c q (ok.good _ (List.getElem_mem hi))] at h1;cases h1
 simp[h1,h2]
end
def ba(s:o0a):ByteArray:=⟨s.toArray⟩
theorem r4c(s:o0a):(ba s).data.toList=s:=rfl
theorem V5b(s:o0a):(ba s).size=s.length:=rfl
theorem S4c(s t:o0a):alk (ba s) (ba t)=f1a s t:=rfl
theorem T4c(s t:o0a):ahd (ba s) (ba t)=e1a s t:=rfl
theorem L2c{s:o0a}(h:nameOf s=true):s≠[]:=λe=>by subst e;revert h;unfold nameOf;rw[M3a];unfold j8a;simp
theorem y2b{s:o0a}(h:nameOf s=true):u0a s=true:=by unfold nameOf at h;rw[Bool.and_eq_true] at h;exact h.1
theorem h0c{s:o0a}(h:nameOf s=true):(j0a s).length<=32:=by unfold nameOf j8a at h;simp only[Bool.and_eq_true,decide_eq_true_eq] at h;exact h.2.1.1.1.2
theorem W5b{s:o0a}(h:nameOf s=true):J8a (ba s)=false:=by
 unfold J8a;rw[r4c,y2b h,V5b];have:=L2c h;cases s with
 | nil=>exact absurd rfl this
 | cons x r=>simp
def itm(x:k0a):I0a:=(ba x.name,x.n)
def l5a(L:List k0a):List (Int×I0a):=L.map λx=>(x.par,itm x)
structure Kid (R:List (Int×I0a)) (d:Int) (K:List I0a):Prop where
 ok:Dok K
 mem:∀p,p∈K↔(d,p)∈R
section
variable {R R':List (Int×I0a)} {L:List k0a} {V:X0a} {K:List I0a} {d n:Int} {x y:k0a} {s:o0a} {p:I0a}
theorem y2a:(d,p)∈l5a L↔∃x∈L,x.par=d/\itm x=p:=by
 unfold l5a;rw[List.mem_map];constructor
 ·rintro⟨x,hx,e⟩;injection e with e1 e2
  exact⟨x,hx,e1,e2⟩
 ·rintro⟨x,hx,e1,e2⟩;exact⟨x,hx,by rw[e1,e2]⟩
theorem Kid.same(k:Kid R d K)(h:∀p,(d,p)∈R↔(d,p)∈R'):Kid R' d K:=⟨k.ok,λp=>(k.mem p).trans (h p)⟩
theorem Kid.nil(h:∀p,(d,p)∉R):Kid R d []:=⟨Dok.nil,λp=>⟨λq=>(by cases q),λq=>absurd q (h p)⟩⟩
theorem seven(hb:J8a (ba s)=false)(h:s5a K (ba s)=false):O1a K (ba s)=7:=by unfold O1a;rw[hb,h];rfl
theorem Kid.child(h:Vok V)(k:Kid (l5a V.l) d K)(hs:nameOf s=true):O1a K (ba s)=(if x0a V.l d s=0 then 7 else 0)/\(T6a K (ba s)).2=x0a V.l d s:=by
 have hb:=W5b hs;by_cases h0:x0a V.l d s=0
 ·have hh:s5a K (ba s)=false:=by
   cases hq:s5a K (ba s) with
   | false=>rfl
   | true=>obtain⟨p,hp,ha⟩:=I3a.1 hq;obtain⟨x,hx,e1,rfl⟩:=y2a.1 ((k.mem p).1 hp);have h2:=c5a (λy hy=>(h.num y hy).1) h0 x hx e1;have h3:f1a x.name s=true:=ha;rw[h2] at h3;cases h3
  have e:=seven hb hh;rw[if_pos h0,h0];refine⟨e,?_⟩;rw[h7b (by rw[e];decide)]
 ·obtain⟨x,hx,e1,e2,e3⟩:=J1a h0;obtain⟨f1,f2⟩:=k.ok.found ((k.mem (itm x)).2 (y2a.2 ⟨x,hx,e1,rfl⟩)) (show alk (itm x).1 (ba s)=true from e2) hb;rw[if_neg h0];refine⟨f1,?_⟩;rw[f2];exact e3
theorem Kid.put(k:Kid R d K)(hs:nameOf s=true)(hn:∀p,(d,p)∈R->alk p.1 (ba s)=false):a2b K (ba s)=0/\Kid ((d,(ba s,n))::R) d (d2c K (ba s) n):=by
 have hb:=W5b hs;have hh:s5a K (ba s)=false:=by
  cases hq:s5a K (ba s) with
  | false=>rfl
  | true=>obtain⟨p,hp,ha⟩:=I3a.1 hq;rw[hn p ((k.mem p).1 hp)] at ha;cases ha
 have he:a2b K (ba s)=0:=by unfold a2b;rw[hb,hh];rfl
 refine⟨he,k.ok.add,λp=>?_⟩;have e:d2c K (ba s) n=Z1b K (ba s) n:=if_pos he;rw[e,t5a,List.mem_cons,k.mem];constructor
 ·rintro(rfl | h)
  ·exact .inl rfl
  ·exact .inr h
 ·rintro(h | h)
  ·injection h with _ h
   exact .inl h
  ·exact .inr h
theorem T8a(h:Vok V)(ha:vAt V.l n=some y):(d,p)∈l5a (z1a V.l n)↔(d,p)∈l5a V.l/\(d=y.par->alk p.1 (ba y.name)=false):=by
 obtain⟨hy,hn⟩:=y0a ha;rw[y2a,y2a];constructor
 ·rintro⟨x,hx,e1,rfl⟩;obtain⟨h1,h2⟩:=(h3a h.rise ha).1 hx;refine⟨⟨x,h1,e1,rfl⟩,λe=>?_⟩;cases hq:alk (itm x).1 (ba y.name) with
  | false=>rfl
  | true=>exact absurd ((h.apart x h1 y hy (e1.trans e) hq)▸hn) h2
 ·rintro⟨⟨x,hx,e1,rfl⟩,h2⟩;refine⟨x,(h3a h.rise ha).2 ⟨hx,λe=>?_⟩,e1,rfl⟩;obtain rfl:x=y:=h.rise.same hx hy (e.trans hn.symm);have h3:=h2 e1.symm;have h4:alk (itm x).1 (ba x.name)=true:=K8a _;rw[h3] at h4;cases h4
theorem Kid.drop(h:Vok V)(ha:vAt V.l n=some y)(h1:n≠1)(k:Kid (l5a V.l) y.par K):O1a K (ba y.name)=0/\Kid (l5a (z1a V.l n)) y.par (n0b K (ba y.name)):=by
 obtain⟨hy,hn⟩:=y0a ha;have hs:nameOf y.name=true:=h.good y hy (by rw[hn];exact h1);have hb:=W5b hs;refine⟨(k.ok.found ((k.mem (itm y)).2 (y2a.2 ⟨y,hy,rfl,rfl⟩)) (K8a _) hb).1,k.ok.rem,λp=>?_⟩;rw[M8a k.ok,k.mem,T8a h ha];constructor
 ·rintro⟨a,b⟩;exact⟨a,λ_=>b.resolve_left (by rw[hb];decide)⟩
 ·rintro⟨a,b⟩;exact⟨a,.inr (b rfl)⟩
theorem Kid.else(h:Vok V)(ha:vAt V.l n=some y)(hd:d≠y.par)(k:Kid (l5a V.l) d K):Kid (l5a (z1a V.l n)) d K:=k.same λp=>by rw[T8a h ha];exact⟨λa=>⟨a,λe=>absurd e hd⟩,λa=>a.1⟩
theorem Kid.empty(k:Kid (l5a V.l) d K):s4a V.l d=decide (K.length=0):=by
 unfold s4a;rw[Bool.eq_iff_iff,List.all_eq_true,decide_eq_true_eq];constructor
 ·intro h;cases K with
  | nil=>rfl
  | cons p r=>obtain⟨x,hx,e1,_⟩:=y2a.1 ((k.mem p).1 (List.mem_cons_self ..));have:=h x hx;simp[e1] at this
 ·intro h x hx;obtain rfl:K=[]:=List.eq_nil_of_length_eq_zero h;refine decide_eq_true λe=>?_
  have:=(k.mem (itm x)).2 (y2a.2 ⟨x,hx,e,rfl⟩);cases this
theorem Kid.le(h:o6a L)(k:Kid (l5a L) d K):K.length<=L.length:=by
 have h1:(K.map (·.2)).Nodup:=by refine List.nodup_iff_pairwise_ne.2 (List.pairwise_map.2 (k.ok.rise.imp_of_mem fun {p q} hp hq ha e=>?_));obtain⟨x,hx,_,rfl⟩:=y2a.1 ((k.mem p).1 hp);obtain⟨y,hy,_,rfl⟩:=y2a.1 ((k.mem q).1 hq);have e2:=h.same hx hy e;rw[e2] at ha;have:=m4a ha;rw[K8a] at this;cases this
 have h2:(K.map (·.2)).length<=(L.map (·.n)).length:=List.Nodup.length_le_of_subset h1 λm hm=>by obtain⟨p,hp,rfl⟩:=List.mem_map.1 hm;obtain⟨x,hx,_,rfl⟩:=y2a.1 ((k.mem p).1 hp);exact List.mem_map.2 ⟨x,hx,rfl⟩
 rw[List.length_map,List.length_map] at h2;exact h2
end
section
variable {R:List (Int×I0a)} {L:List k0a} {V:X0a} {K:List I0a} {d n m:Int} {x y z:k0a} {s p a:o0a}
theorem s7b{out:List k0a}:z∈k7b out x↔z=x∨z∈out:=by
 unfold k7b;generalize out.findIdx _=k;have e:z∈out↔z∈out.take k∨z∈out.drop k:=by rw[<-List.mem_append,List.take_append_drop]
 rw[List.mem_append,List.mem_append,List.mem_singleton,e];constructor
 ·rintro((h | h) | h)
  ·exact .inr (.inl h)
  ·exact .inl h
  ·exact .inr (.inr h)
 ·rintro(h | h | h)
  ·exact .inl (.inr h)
  ·exact .inl (.inl h)
  ·exact .inr h
theorem i0c{out:List k0a}(h:out.Pairwise λu v=>e1a u.name v.name=true)(hn:∀u∈out,f1a u.name x.name=false):(k7b out x).Pairwise λu v=>e1a u.name v.name=true:=by
 have tr:∀{u v t:o0a},e1a u v=true->e1a v t=true->e1a u t=true:=fun {u v t} h k=>L8a (s:=ba u) (t:=ba v) (u:=ba t) h k
 unfold k7b;obtain⟨k,hk⟩:∃k,k=out.findIdx λy=>!e1a y.name x.name:=⟨_,rfl⟩
 rw[<-hk];have h1:∀u∈out.take k,e1a u.name x.name=true:=λu hu=>by
  obtain⟨i,hi,rfl⟩:=List.mem_iff_getElem.1 hu;rw[List.length_take] at hi;have hik:i<out.findIdx λy=>!e1a y.name x.name:=by omega
  have:=List.not_of_lt_findIdx hik;rw[List.getElem_take];simpa using this
 have h2:∀u∈out.drop k,e1a x.name u.name=true:=λu hu=>by
  obtain⟨i,hi,rfl⟩:=List.mem_iff_getElem.1 hu;rw[List.length_drop] at hi;have hkl:k<out.length:=by omega
  have h0:e1a out[k].name x.name=false:=by
   have hk2:out.findIdx (λy=>!e1a y.name x.name)<out.length:=by omega
   have:=List.findIdx_getElem (w:=hk2);simp only[<-hk] at this;simpa using this
  have h3:e1a x.name out[k].name=true:=by
   rcases Z0b (ba out[k].name) (ba x.name) with e | e | e
   ·rw[S4c,hn _ (List.getElem_mem hkl)] at e;cases e
   ·rw[T4c,h0] at e;cases e
   ·exact e
  rw[List.getElem_drop];by_cases hi0:i=0
  ·subst hi0;exact h3
  ·exact tr h3 (List.pairwise_iff_getElem.1 h k (k+i) hkl (by omega) (by omega))
 refine List.pairwise_append.2 ⟨List.pairwise_append.2 ⟨h.sublist (List.take_sublist ..),List.pairwise_singleton ..,?_⟩,h.sublist (List.drop_sublist ..),?_⟩
 ·intro u hu v hv;rw[List.mem_singleton] at hv;subst hv;exact h1 u hu
 ·intro u hu v hv;rcases List.mem_append.1 hu with hu | hu
  ·exact tr (h1 u hu) (h2 v hv)
  ·rw[List.mem_singleton] at hu;subst hu;exact h2 v hv
theorem z2b:∀(l out:List k0a),l.Pairwise (λu v=>f1a u.name v.name=false)->out.Pairwise (λu v=>e1a u.name v.name=true)->(∀u∈out,∀v∈l,f1a u.name v.name=false)->
  (l.foldl k7b out).Pairwise (λu v=>e1a u.name v.name=true)/\∀z,z∈l.foldl k7b out↔z∈l∨z∈out
 | [],out,_,h,_=>⟨h,λz=>by simp⟩
 | x::r,out,hl,h,ho=>by
  obtain⟨h1,h2⟩:=List.pairwise_cons.1 hl;obtain⟨e1,e2⟩:=z2b r (k7b out x) h2 (i0c h λu hu=>ho u hu x (List.mem_cons_self ..)) (λu hu v hv=>by
   rcases s7b.1 hu with rfl | hu
   ·exact h1 v hv
   ·exact ho u hu v (List.mem_cons_of_mem _ hv))
  refine⟨e1,λz=>?_⟩;rw[List.foldl_cons,e2,s7b,List.mem_cons];constructor
  ·rintro(h | h | h)
   ·exact .inl (.inr h)
   ·exact .inl (.inl h)
   ·exact .inr h
  ·rintro((h | h) | h)
   ·exact .inr (.inl h)
   ·exact .inl h
   ·exact .inr (.inr h)
theorem p8a(h:Vok V)(d:Int):(o0b V.l d).Pairwise (λu v=>e1a u.name v.name=true)/\∀z,z∈o0b V.l d↔z∈V.l/\z.par=d:=by
 have hp:(V.l.filter λx=>decide (x.par=d)).Pairwise λu v=>f1a u.name v.name=false:=by
  refine List.Pairwise.imp_of_mem ?_ (h.rise.sublist (List.filter_sublist ..));intro u v hu hv hlt;obtain⟨u1,u2⟩:=List.mem_filter.1 hu;obtain⟨v1,v2⟩:=List.mem_filter.1 hv;cases hq:f1a u.name v.name with
  | false=>rfl
  | true=>have:=h.apart u u1 v v1 ((of_decide_eq_true u2).trans (of_decide_eq_true v2).symm) hq;subst this;omega
 obtain⟨e1,e2⟩:=z2b _ [] hp List.Pairwise.nil (λu hu=>by cases hu);refine⟨e1,λz=>?_⟩;have:=e2 z;unfold o0b;rw[this,List.mem_filter];simp
theorem t7b:∀{l r:List I0a},l.Pairwise (λu v=>ahd u.1 v.1=true)->r.Pairwise (λu v=>ahd u.1 v.1=true)->(∀z,z∈l↔z∈r)->l=r
 | [],[],_,_,_=>rfl
 | [],b::r,_,_,h=>by cases(h b).2 (List.mem_cons_self ..)
 | b::l,[],_,_,h=>by cases(h b).1 (List.mem_cons_self ..)
 | b::l,c::r,h1,h2,h=>by
  obtain⟨b1,b2⟩:=List.pairwise_cons.1 h1;obtain⟨c1,c2⟩:=List.pairwise_cons.1 h2;have irr:∀{u:I0a},ahd u.1 u.1=true->False:=fun {u} hu=>by have:=S6a hu;rw[hu] at this;cases this
  have e:b=c:=by
   rcases List.mem_cons.1 ((h b).1 (List.mem_cons_self ..)) with e | e
   ·exact e
   ·rcases List.mem_cons.1 ((h c).2 (List.mem_cons_self ..)) with e3 | e3
    ·exact e3.symm
    ·have k1:=c1 b e;have k2:=b1 c e3;rw[S6a k1] at k2;cases k2
  subst e;rw[t7b b2 c2 λz=>?_];constructor
  ·intro hz;rcases List.mem_cons.1 ((h z).1 (List.mem_cons_of_mem _ hz)) with rfl | e
   ·exact absurd (b1 _ hz) λk=>irr k
   ·exact e
  ·intro hz;rcases List.mem_cons.1 ((h z).2 (List.mem_cons_of_mem _ hz)) with rfl | e
   ·exact absurd (c1 _ hz) λk=>irr k
   ·exact e
theorem Kid.sorted(h:Vok V)(k:Kid (l5a V.l) d K):K=(o0b V.l d).map itm:=by
 obtain⟨e1,e2⟩:=p8a h d;refine t7b k.ok.rise (List.pairwise_map.2 (e1.imp λe=>e)) λz=>?_
 rw[k.mem,y2a,List.mem_map];constructor
 ·rintro⟨x,hx,e3,e4⟩;exact⟨x,(e2 x).2 ⟨hx,e3⟩,e4⟩
 ·rintro⟨x,hx,e4⟩;exact⟨x,((e2 x).1 hx).1,((e2 x).1 hx).2,e4⟩
theorem F7a(h:Vok V)(hd:1<=d)(hx:x∈o0b V.l d):x∈V.l/\x.par=d/\nameOf x.name=true:=by obtain⟨h1,h2⟩:=((p8a h d).2 x).1 hx;refine⟨h1,h2,h.good x h1 λe=>?_⟩;have:=h.one h1 e;rw[this] at h2;have:(0:Int)=d:=h2;omega
theorem Kid.names(h:Vok V)(k:Kid (l5a V.l) d K):Y2a K (ba p) (ba a)=(U7a V.l d p a).map λx=>ba x.name:=by
 rw[k.sorted h];unfold Y2a U7a;rw[List.filter_map,List.map_map];have e:((λy:I0a=>E3a (ba p).data.toList y.1.data.toList&&(decide ((ba a).size=0)||ahd (ba a) y.1)) ∘ itm)=λx:k0a=>E3a p x.name&&(decide (a=[])||e1a a x.name):=by
  funext x;show(E3a p x.name&&(decide (a.length=0)||e1a a x.name))=_
  cases a<;>simp
 rw[e];rfl
theorem Kid.patE(h:Vok V)(hd:1<=d)(k:Kid (l5a V.l) d K)(hp:M0a p []=0):a1b K (ba p)=0:=by
 rw[k.sorted h];refine x2b λi hi=>?_
 rw[v2b (p:=ba p) hp];have hi2:i<(o0b V.l d).length:=by rw[List.length_map] at hi;exact hi
 rw[List.getElem_map];show M0a [] (o0b V.l d)[i].name=0
 obtain⟨_,_,h3⟩:=F7a h hd (List.getElem_mem hi2);refine Y4a.2 ⟨by decide,y2b h3,by simp[M3a],?_⟩;have:=h0c h3;omega
theorem Kid.listE(h:Vok V)(hd:1<=d)(k:Kid (l5a V.l) d K)(m:Int):B6a K (ba p) (ba a) m=if m<0 then 2 else if M0a p []≠0 then M0a p [] else if u0a a=true then 0 else 5:=by
 have e:B6a K (ba p) (ba a) m=if m<0 then 2 else if M0a p []≠0 then M0a p [] else if a1b K (ba p)≠0 then a1b K (ba p) else if u0a a=true then 0 else 5:=rfl
 rw[e];by_cases hp:M0a p []=0
 ·rw[k.patE h hd hp];simp
 ·rw[if_pos hp,if_pos hp]
theorem X5b(h:Vok V)(hd:1<=d)(hx:x∈U7a V.l d p a):x∈V.l/\x.par=d/\nameOf x.name=true:=F7a h hd (List.mem_filter.1 hx).1
end
section
variable {L:List k0a} {V:X0a} {p a s:o0a} {k:Nat} {n m:Int} {x:k0a} {w w':World}
theorem M2c:(Tryz.prog.info? 49).map (·.size)=some 3:=by kernel_rfl
theorem C3b:(Tryz.prog.info? 49).map (λi=>(i.zero,i.size,i.bytes))=some (some (.agg #[.string ⟨#[]⟩,.int .u8 0,.int .i64 0]),3,32):=by kernel_rfl
theorem a7a(x:k0a):∀u∈W0a x,u.oneCell'=true:=by intro u hu;unfold W0a at hu;simp only[List.mem_cons,List.not_mem_nil,or_false] at hu;rcases hu with rfl | rfl | rfl<;>rfl
def d3a(w:World)(L:List k0a)(n:Int)(p a:o0a)(k:Int)(e:Ending)(w':World):Prop:=∃u,e=.returned (.tuple #[u,.bool (N8a L n p a k),.int .i64 (Z3a L n p a k)])/\j1a W0a 3 49 w' w.heap.size u (D4a L n p a k)/\Below w.heap.size w w'
theorem d3a.err{L:List k0a}{E k:Int}(hE:Z3a L n p a k=E)(h0:E≠0)(hb:Below w.heap.size w w'):d3a w L n p a k (.returned (.tuple #[.slice none 0 0,.bool false,.int .i64 E])) w':=by
 have e1:N8a L n p a k=false:=by unfold N8a;rw[if_neg (by rw[hE];exact h0)]
 have e2:D4a L n p a k=[]:=by unfold D4a;rw[if_neg (by rw[hE];exact h0)]
 exact⟨_,by rw[e1,hE],by rw[e2];exact j1a.nil _ _ _ _ _,hb⟩
end
section
variable {ops:Array Oper} {rest:List Oper} {o:Oper} {a:Act} {w:World} {Q:Exit->Act->World->Prop}
theorem Holds.litM(w:World)(xs:List Int)(fr:Nat×Nat)(T:TypeId)(n:Nat)(hl:xs.length=n)(hx:Bytes xs)(hn:n<=281474976710656) :
  Holds (w.alloc (.cells (xs.map (Value.int .u8)).toArray T fr)) (w.heap.size+1) (some ⟨w.heap.size,0,none⟩) n n xs:=by
 subst hl;exact⟨rfl,Nat.le_refl _,hn,hx,λhA=>(by cases hA),λ_=>⟨w.heap.size,0,rfl,by omega,λi hi=>by have hr:(w.alloc (.cells (xs.map (Value.int .u8)).toArray T fr)).heap[w.heap.size]? = some (.cells (xs.map (Value.int .u8)).toArray T fr):=heap_alloc_new w _;rw[Nat.zero_add,cell_of_row _ w.heap.size i _ T fr hr];simp[hi]⟩⟩
theorem b7a{o2:Oper}(hg:o.guard=none)(hg2:o2.guard=none)(n:Nat)(parts:Array (Nat×Operand))(ho:o.op=.buildSlice 51 n parts)(x2:Operand)(ho2:o2.op=.convert 51 51 x2)(hx2:∀v,(a.put o.dst v).eval x2=v)
(zs:List Int)(hl:zs.length=n)(hz:Bytes zs)(hn:n<=281474976710656)
(hf:Tryz.prog.builtSlice 5 n (parts.map fun (i,x)=>(i,a.eval x)).toList=some (zs.map (Value.int .u8)).toArray)
(h:∀g w',w.heap.size=g->Hid (Holds w' w'.heap.size (some ⟨g,0,none⟩) n n zs)->Hid (Below w.heap.size w w')->wpList Tryz.prog ops Q rest ((a.put o.dst (.slice (some ⟨g,0,none⟩) n n)).put o2.dst (.slice (some ⟨g,0,none⟩) n n)) w') :
  wpList Tryz.prog ops Q (o::o2::rest) a w:=by
 refine Great.wpList_buildSliceTo hg _ _ _ parts ho w.heap.size rfl _ rfl Tryz.underlying51 _ hf ?_;refine wpList_plain hg2 λK hK=>?_
 unfold Oper.wp execOp;simp only[ho2,hx2,Sem.run_bind,Lib.run_convert_bytes_const w 51 5 _ n n Tryz.underlying51 Tryz.underlying5,Sem.run_pure,Result.andThen_ok];refine hK _ _ (h _ _ rfl ?_ ((Below.refl _ _).alloc (Nat.le_refl _) _));exact(Holds.litM w zs _ _ n hl hz hn).mono (by simp)
end
def f5c:X0a:=F3a (e2c 5) [102] 2
def g5c:X0a:=vWr f5c 2 0 [97,98,99]
def h5c:X0a:=vWr g5c 2 3 [100,101,102]
def o5c:X0a:=b2b h5c 2 5
theorem v5c:O3a 5=0:=by decide +kernel
theorem p5c:I1a (e2c 5) [102] 2=0/\r2a (e2c 5) [102] 2=2:=by decide +kernel
theorem w5c:A0b f5c 2 0 [97,98,99]=0:=by decide +kernel
theorem x5c:A0b g5c 2 3 [100,101,102]=13:=by decide +kernel
theorem y5c:n6a h5c 2 5=0:=by decide +kernel
theorem z5c:(T0a o5c.l:Int)=5:=by decide +kernel
theorem U2a(I:e0b)(w:World)(htb:I.tb w.heap.size w):Calls Tryz.prog 12 #[] w λe w'=>e=.returned (.bool true)/\Below w.heap.size w w':=by
 have HTB:=hI htb;have CN:=hI ((I.new htb (Nat.le_refl _) (k:=5) (by unfold c2a;omega)).mono λe w' h=>h.2 v5c);clear htb;go_enter Tryz.func12,Tryz.ntmps12;go_wp2_with fail;refine CN.out.mono ?_;rintro e w1 ⟨q,S0,rfl,x0,l0⟩;have L1:=hI l0;have B1:=hI (I.tbNext HTB.out l0);have C1:=hI (I.make x0 B1.out l0.size (show(1:Int)<1048576 by decide) (s:=[102]) (k:=2) (by decide));rw[p5c.1,p5c.2] at C1;have X0:=hI x0;clear l0 x0 CN;go_wp2_with fail;refine C1.out.mono ?_;rintro e w2 ⟨rfl,S1,x1,a1,n1⟩;have l2:=a1.below (λj hj=>(I.ge X0.out j hj).1) L1.out.size;have L2:=hI (L1.out.trans l2);have B2:=hI (I.tbNext B1.out l2);have X1:Hid (I.is w2 w.heap.size q f5c S1):=x1;clear x1 a1 n1 l2 X0 C1 L1 B1;go_wp2_with(first
  | ((with_reducible refine sN 18 ?_);refine b7a rfl rfl 3 _ rfl (.tmp 18) rfl (λ_=>rfl) [97,98,99] rfl (Bytes.of_all rfl) (by omega) (by kernel_rfl) ?_;intro g1 w3 hg1 H1 b1)
  | fail)
 have X2:=hI (I.below X1.out b1.out);have L3:=hI (L2.out.trans (b1.out.mono L2.out.size));have B3:=hI (I.tbNext B2.out (b1.out.mono L2.out.size));have C2:=hI (I.write X2.out B3.out L3.out.size (n:=2) (a:=0) (by unfold c2a;omega) (by unfold c2a;omega) H1.out (λ_ x hx hS=>by cases hx;have:=(I.ge X1.out _ hS).2;simp only at this;omega) (by decide));rw[w5c] at C2;clear X1 L2 B2 H1 b1 hg1;go_wp2_with fail;refine C2.out.mono ?_;rintro e w4 ⟨rfl,S2,x2,a2,n2⟩;have l4:=a2.below (λj hj=>(I.ge X2.out j hj).1) L3.out.size;have L4:=hI (L3.out.trans l4);have B4:=hI (I.tbNext B3.out l4);have X3:Hid (I.is w4 w.heap.size q g5c S2):=x2;clear x2 a2 n2 l4 X2 C2 L3 B3;go_wp2_with(first
  | ((with_reducible refine sN 22 ?_);refine b7a rfl rfl 3 _ rfl (.tmp 22) rfl (λ_=>rfl) [100,101,102] rfl (Bytes.of_all rfl) (by omega) (by kernel_rfl) ?_;intro g1 w5 hg1 H1 b1)
  | fail)
 have X4:=hI (I.below X3.out b1.out);have L5:=hI (L4.out.trans (b1.out.mono L4.out.size));have B5:=hI (I.tbNext B4.out (b1.out.mono L4.out.size));have C3:=hI (I.write X4.out B5.out L5.out.size (n:=2) (a:=3) (by unfold c2a;omega) (by unfold c2a;omega) H1.out (λ_ x hx hS=>by cases hx;have:=(I.ge X3.out _ hS).2;simp only at this;omega) (by decide));rw[x5c] at C3;clear X3 L4 B4 H1 b1 hg1;go_wp2_with fail;refine C3.out.mono ?_;rintro e w6 ⟨rfl,S3,x3,a3,n3⟩;have l6:=a3.below (λj hj=>(I.ge X4.out j hj).1) L5.out.size;have L6:=hI (L5.out.trans l6);have B6:=hI (I.tbNext B5.out l6);have X5:Hid (I.is w6 w.heap.size q h5c S3):=x3;have C4:=hI (I.cut X5.out B6.out L6.out.size (n:=2) (s:=5) (by unfold c2a;omega) (by unfold c2a;omega));rw[y5c] at C4;clear x3 a3 n3 l6 X4 C3 L5 B5;go_wp2_with fail;refine C4.out.mono ?_;rintro e w7 ⟨rfl,S4,x4,a4,n4⟩;have l7:=a4.below (λj hj=>(I.ge X5.out j hj).1) L6.out.size;have L7:=hI (L6.out.trans l7);have B7:=hI (I.tbNext B6.out l7);have X6:Hid (I.is w7 w.heap.size q o5c S4):=x4;have C5:=hI (I.used X6.out B7.out);rw[z5c] at C5;clear x4 a4 n4 l7 X5 C4 L6 B6;go_wp2_with fail;refine C5.out.mono ?_;rintro e w8 ⟨rfl,l8⟩;have L8:=hI (L7.out.trans (l8.mono L7.out.size));clear l8 C5 X6 L7 B7;go_wp2_with fail;go_ret;exact⟨rfl,L8.out⟩
def a5c(xs:List ByteArray):List (List UInt8):=xs.map λb=>b.data.toList
theorem j0c(xs:List ByteArray):xs.flatMap G0a=(a5c xs).map V0a:=by
 induction xs with
 | nil=>rfl
 | cons x xs ih=>rw[List.flatMap_cons,ih];rfl
theorem j1a.txts{e:TypeId}{w:World}{base:Nat}{v:Value}{xs:List ByteArray}(h:j1a G0a 1 e w base v xs):t1a V0a e w base v (a5c xs):=by
 unfold j1a at h;unfold t1a;rw[<-j0c];show w.ownsRow base e 1 v (xs.map _).length _
 rw[List.length_map];exact h
def g1b(s:ByteArray):ByteArray:=⟨(B0a s.data.toList).toArray⟩
theorem A2b(s:ByteArray):(g1b s).data.toList=B0a s.data.toList:=rfl
section
variable {L:List I0a} {s t u:ByteArray} {n:Int}
end
section
variable {L:List I0a} {i:Nat}
end
theorem G7a(w:World)(F:Nat)(hent:∀(args:Array Value) (w:World),(callFunc F args).run Tryz.prog w=.ok (.enter F args) w)(x y:Value)(n k:Nat)(p:Nat->Bool)(hk:k<=n)(hn:n<=4611686018427387903)
(h0:∀i,i<k->p i=false)(h1:∀i,k<=i->i<n->p i=true)
(hf:∀w1 i,Below w.heap.size w w1->i<n->Calls Tryz.prog F #[.int .i64 (i:Nat),x,y] w1 λe w'=>e=.returned (.bool (p i))/\Below w1.heap.size w1 w') :
  Calls Tryz.prog 144 #[.int .i64 (n:Nat),.func (.func F) #[] #[x,y]] w λe w'=>e=.returned (.int .i64 (k:Nat))/\Below w.heap.size w w':=by
 have HF:=hI hf;have H0:=hI h0;have H1:=hI h1;clear hf h0 h1;go_enter Tryz.func144,Tryz.ntmps144;go_wp2_with fail;go_loopw [5,6,7] (λI J _ wr=>∃i j:Nat,i<=k/\k<=j/\j<=n/\I=.int .i64 (i:Nat)/\J=.int .i64 (j:Nat)/\Hid (Below w.heap.size w wr)) (λI J _ _=>(intOf J).toNat-(intOf I).toNat)
 case atStart=>exact⟨0,n,Nat.zero_le _,hk,Nat.le_refl _,rfl,rfl,Below.refl _ _⟩
 case round=>
  obtain⟨i,j,hi,hj,hjn,rfl,rfl,LR⟩:=hrel;by_cases hlt:i<j
  ·obtain⟨m,hm⟩:∃m,m=(i+j)/2:=⟨_,rfl⟩;have hadd:IntKind.i64.wrap ((i:Int)+(j:Int))=(i:Int)+(j:Int):=by rw[IntKind.wrap_i64];omega
   have hcv:IntKind.u64.wrap ((i:Int)+(j:Int))=(i:Int)+(j:Int):=by rw[IntKind.wrap_u64];omega
   have hsh:((i:Int)+(j:Int))/2=(m:Int):=by omega
   have him:i<=m:=by omega
   have hmj:m<j:=by omega
   have CF:=hI (HF.out wr m LR.out (by omega));obtain⟨z,hz⟩:∃z,z=p m:=⟨_,rfl⟩;rw[<-hz] at CF;have HZ:=hI hz;clear hz hm;go_wp2_with fail;refine CF.out.mono ?_;rintro e w1 ⟨rfl,l1⟩;have L1:=hI (LR.out.trans (l1.mono LR.out.size));clear l1 CF;cases z with
   | false=>
    go_wp2_with fail;go_roundw
    case rel=>
     refine⟨m+1,j,?_,hj,hjn,by go_num,rfl,L1⟩;rcases Nat.lt_or_ge m k with h | h
     ·exact h
     ·have:=H1.out m h (by omega);rw[<-HZ.out] at this;cases this
    case measure=>simp[intOf];omega
   | true=>
    go_wp2_with fail;go_roundw
    case rel=>
     refine⟨i,m,hi,?_,by omega,rfl,rfl,L1⟩;rcases Nat.lt_or_ge m k with h | h
     ·have:=H0.out m h;rw[<-HZ.out] at this;cases this
     ·exact h
    case measure=>simp[intOf];omega
  ·obtain rfl:i=k:=by omega
   obtain rfl:j=i:=by omega
   go_wp2_with fail;go_ret;exact⟨rfl,LR.out⟩
def F2a(base:Nat)(w:World):Prop:=∀w',Below base w w'->k5a w'
theorem F2a.of{w:World}(h:k5a w):F2a w.heap.size w:=λw' hb=>h.below hb
theorem F2a.next{base:Nat}{w w':World}(h:F2a base w)(hb:Below base w w'):F2a base w':=λw2 h2=>h w2 (hb.trans h2)
theorem F2a.up{base b':Nat}{w:World}(h:F2a base w)(hb:base<=b'):F2a b' w:=λw2 h2=>h w2 (h2.mono hb)
theorem F2a.at{base:Nat}{w w':World}(h:F2a base w)(hb:Below w.heap.size w w')(hs:base<=w.heap.size):k5a w':=h w' (hb.mono hs)
theorem F2a.tabs{base:Nat}{w:World}(h:F2a base w):k5a w:=h w (Below.refl _ _)
section
variable {P:Program} {ops:Array Oper} {S:World->Prop}
theorem J4a{op:Oper}{a:Act}(hw:Region.wanted op (yielded ops a.tmps)=true)(T:TypeId)(m x:Operand)(ok:Bool)(ho:op.op=.lookup T m x ok)(u k:Value)(hm:a.eval m=u)(hx:a.eval x=k){r:Value}
(hr:∀w,S w->(Instr.lookup T u k ok).run P w=.ok r w):YieldsIf P ops S op r a:=
 .inl ⟨hw,λw hw'=>by unfold execOp;simp only[ho,hm,hx,Sem.run_bind,hr w hw',Result.andThen_ok];rfl⟩
end
def x9b(D:DataW Unit)(s:ByteArray):Int:=match D.atKey (E4a s) (.lit (.int .i64 0)) with
 | .lit (.int .i64 c)=>c
 | _=>0
theorem D3b{D:DataW Unit}{s:ByteArray}{c:Int}(h:D.atKey (E4a s) (.lit (.int .i64 0))=.lit (.int .i64 c)):x9b D s=c:=by unfold x9b;rw[h]
theorem c7a:Maps.Keyed Tryz.prog 9:=Maps.string_keyed Tryz.underlying9
theorem E3b(w:World):(zeroValue 3).run Tryz.prog w=.ok (.int .i64 0) w:=by kernel_rfl
theorem h1b{s:ByteArray}(hs:s.size<=1048576):keyOf Tryz.prog 9 (.string (g1b s))=some (E4a s):=by
 have h1:(g1b s).size<=maxLen:=by rw[Lib.size_eq,A2b];unfold B0a maxLen;rw[List.length_map,<-Lib.size_eq];omega
 have h2:=WideMaps.keyOf_string_mk (P:=Tryz.prog) Tryz.underlying9 h1;rw[A2b] at h2;exact h2
structure PDr (w:World) (base q:Nat) (v:Value) (m:Nat) (D:DataW Unit) (L:List I0a):Prop where
 ge:base<=q
 gem:base<=m
 blk:Blk w q 138 [v,.map (some m)]
 row:j1a G0a 1 9 w base v (dNm L)
 is:G9a D L
 map:w.ownsMap Tryz.prog 9 (plainElem Tryz.prog 3) m L.length D
 ok:Dok L
 small:L.length<=4096
 text:∀x∈L,x.1.size<=1048576
def u7b(q m:Nat)(v:Value):Nat->Prop:=λj=>j=q∨j=m∨v.ownBlock=some j
theorem F1a{P:Program}{kt:TypeId}{R:Value->Option (DataW Unit×List MemPlace)}{w w':World}{m N:Nat}{D:DataW Unit}(h:w.ownsMap P kt R m N D)(e:w'.heap[m]? = w.heap[m]?):w'.ownsMap P kt R m N D:=by obtain⟨es,clock,hb,r⟩:=h;exact⟨es,clock,e.trans hb,r⟩
section
variable {w w':World} {base base' q m:Nat} {v:Value} {D:DataW Unit} {L:List I0a} {S:Nat->Prop}
theorem PDr.spare(h:PDr w base q v m D L)(a:g0a S w w')(hs:∀j,u7b q m v j->¬S j):PDr w' base q v m D L:=⟨h.ge,h.gem,h.blk.spare a (hs q (.inl rfl)),h.row.sparS a λi hi=>hs i (.inr (.inr hi)),h.is,F1a h.map (a.rest m h.map.lt (hs m (.inr (.inl rfl)))),h.ok,h.small,h.text⟩
theorem PDr.below(h:PDr w base q v m D L)(hb:Below w.heap.size w w'):PDr w' base q v m D L:=h.spare (g0a.of_over (λ_=>False) hb) λ_ _ h=>h
theorem PDr.mono(h:PDr w base q v m D L)(hb:base'<=base):PDr w base' q v m D L:=⟨Nat.le_trans hb h.ge,Nat.le_trans hb h.gem,h.blk,h.row.mono hb,h.is,h.map,h.ok,h.small,h.text⟩
theorem PDr.set_lt(h:PDr w base q v m D L):∀j,u7b q m v j->base<=j/\j<w.heap.size:=λj hj=>by
 rcases hj with rfl | rfl | hj
 ·exact⟨h.ge,h.blk.lt⟩
 ·exact⟨h.gem,h.map.lt⟩
 ·exact⟨(h.row.block hj).1,h.row.lt hj⟩
theorem PDr.c0(h:PDr w base q v m D L):w.cell? ⟨q,0,none⟩=some v:=h.blk.cell 0
theorem PDr.c1(h:PDr w base q v m D L):w.cell? ⟨q,1,none⟩=some (.map (some m)):=h.blk.cell 1
theorem PDr.len(h:PDr w base q v m D L):∃A c,v=.slice A L.length c:=by
 rcases h.row.2 with⟨h1,h2⟩ | ⟨g,cap,cur,h1,_⟩
 ·rw[Y6a] at h2;exact⟨none,0,by rw[h1,h2]⟩
 ·rw[Y6a] at h1;exact⟨_,_,h1⟩
theorem PDr.at(h:PDr w base q v m D L){i:Nat}(hi:i<L.length):∃g c,v=.slice (some ⟨g,0,none⟩) L.length c/\L.length<=c/\c<=maxLen/\w.cell? ⟨g,i,none⟩=some (.string L[i].1):=by
 have hn:(dNm L).length=L.length:=Y6a;obtain⟨A,n,c,rfl,hh⟩:=h.row.holds (by decide) H1a;rcases h.row.2 with⟨h1,h2⟩ | ⟨g,cap,cur,h1,_,_,h3,h4,_⟩
 ·omega
 ·injection h1 with e1 e2 e3
  subst e1 e2 e3;obtain⟨b,off,e,_,hc⟩:=hh.cells (by omega);injection e with e
  injection e with e1 e2
  subst e1 e2;have k0:=hc i _ (c0c hi) 0 _ rfl;rw[Nat.zero_add,Nat.mul_one] at k0;rw[hn] at h3⊢;exact⟨g,c,rfl,h3,h4,k0⟩
theorem PDr.look2(h:PDr w base q v m D L)(s:ByteArray)(hs:s.size<=1048576):(Instr.lookup 136 (.map (some m)) (.string (g1b s)) true).run Tryz.prog w=.ok (.tuple #[.int .i64 (x9b D s),.bool (s5a L s)]) w:=by obtain⟨u,ps,hrun,hu⟩:=h.map.look_ok c7a Tryz.underlying136 (E3b w) (plainElem_int (H:=Unit) Tryz.underlying3 (a:=0) (by decide)) (h1b hs);obtain⟨c,rfl,hc,_⟩:=plainElem_int_inv Tryz.underlying3 hu;rw[hrun,h.is.has,D3b (congrArg Prod.fst hc)]
theorem PDr.look1(h:PDr w base q v m D L)(s:ByteArray)(hs:s.size<=1048576):(Instr.lookup 136 (.map (some m)) (.string (g1b s)) false).run Tryz.prog w=.ok (.int .i64 (x9b D s)) w:=by obtain⟨u,ps,hrun,hu⟩:=h.map.lookup c7a Tryz.underlying136 (E3b w) (plainElem_int (H:=Unit) Tryz.underlying3 (a:=0) (by decide)) (h1b hs);obtain⟨c,rfl,hc,_⟩:=plainElem_int_inv Tryz.underlying3 hu;rw[hrun,D3b (congrArg Prod.fst hc)]
theorem PDr.num(h:PDr w base q v m D L){s:ByteArray}(he:O1a L s=0):x9b D s=(T6a L s).2:=D3b (h.is.num he)
end
theorem U8a(s:ByteArray)(w:World)(hs:s.size<=1048576)(hT:k5a w):Calls Tryz.prog 94 #[.string s] w λe w'=>e=.returned (.string (g1b s))/\Below w.heap.size w w':=F8a s w (by omega) hT
theorem B2b(s t:ByteArray)(w:World)(hs:s.size<=1048576)(ht:t.size<=1048576)(hT:k5a w):Calls Tryz.prog 146 #[.string s,.string t] w λe w'=>e=.returned (.bool (ahd s t))/\Below w.heap.size w w':=J9b s t w (by omega) (by omega) hT
theorem i1b(s:ByteArray)(w:World)(hs:s.size<=1048576)(hT:k5a w):Calls Tryz.prog 101 #[.string s] w λe w'=>e=.returned (.bool (u0a s.data.toList))/\Below w.heap.size w w':=by have c1:=L0b s w (by omega) hT;rw[<-c0b];obtain⟨U,hU⟩:∃U,U=q7a s.data.toList:=⟨_,rfl⟩;obtain⟨E,hE⟩:∃E,E=F5a s.data.toList:=⟨_,rfl⟩;rw[<-hU,<-hE] at c1;rw[<-hE];have C1:=hI c1;clear c1 hU hE;go_enter Tryz.func101,Tryz.ntmps101;go_wp2_with fail;refine C1.out.mono ?_;rintro e w1 ⟨rfl,hb1⟩;go_wp2;go_ret;exact⟨rfl,hb1⟩
theorem j1b(s:ByteArray)(w:World)(hs:s.size<=1048576)(hT:k5a w):Calls Tryz.prog 92 #[.string s] w λe w'=>e=.returned (.bool (!J8a s))/\Below w.heap.size w w':=by
 have hB:J8a s=(decide (s.size=0) || !u0a s.data.toList):=rfl;have C1:=hI (i1b s w hs hT);by_cases h0:s.size=0
 ·rw[hB,decide_eq_true h0];have t0:(s.toList==[])=true:=by rw[b4a];exact decide_eq_true h0
  have t1:s.toList.isEmpty=true:=by rw[S2a];exact decide_eq_true h0
  clear hB h0;go_enter Tryz.func92,Tryz.ntmps92;go_wp2_with fail;go_ret;exact⟨rfl,Below.refl _ _⟩
 ·have t0:(s.toList==[])=false:=by rw[b4a];exact decide_eq_false h0
  have t1:s.toList.isEmpty=false:=by rw[S2a];exact decide_eq_false h0
  rw[hB,decide_eq_false h0,Bool.false_or,Bool.not_not];obtain⟨b,hb⟩:∃b,b=u0a s.data.toList:=⟨_,rfl⟩;rw[<-hb] at C1⊢;clear hB h0 hb;go_enter Tryz.func92,Tryz.ntmps92;go_wp2_with fail;refine C1.out.mono ?_;rintro e w1 ⟨rfl,l1⟩;have L1:=hI l1;clear l1 C1;go_wp2_with fail;go_ret;exact⟨rfl,L1.out⟩
theorem q8a(t k e:TypeId)(p:Option Nat)(h:Tryz.prog.underlying t=some (.map k e))(w:World):(binOp .eql t (.map p) (.map none)).run Tryz.prog w=.ok (.bool p.isNone) w:=by
 have h1:∀d,(Op.equalIn (d+1) t (.map p) (.map none)).run Tryz.prog w=.ok p.isNone w:=λd=>by cases p<;>simp[Op.equalIn,run_underlying h]
 simp only[binOp];simp[show Op.equal t (.map p) (.map none)=Op.equalIn (9999+1) t (.map p) (.map none) from rfl,h1 9999]
theorem d7a(w:World)(q m:Nat)(h:w.cell? ⟨q,1,none⟩=some (.map (some m))):Calls Tryz.prog 91 #[.pointer (some ⟨q,0,none⟩)] w λe w'=>e=.returned (.bool false)/\w=w':=by
 have hml:∀w,(binOp .eql 136 (.map (some m)) (.map none)).run Tryz.prog w=.ok (.bool false) w:=λw=>q8a _ _ _ _ Tryz.underlying136 w
 go_enter Tryz.func91,Tryz.ntmps91;go_wp2_with fail;go_ret;exact⟨rfl,rfl⟩
theorem N2c(w:World)(q n c:Nat)(A:Option Addr)(h:w.cell? ⟨q,0,none⟩=some (.slice A n c)):Calls Tryz.prog 73 #[.pointer (some ⟨q,0,none⟩)] w λe w'=>e=.returned (.int .i64 (n:Nat))/\w=w':=by go_enter Tryz.func73,Tryz.ntmps73;go_wp2_with fail;go_ret;exact⟨rfl,rfl⟩
theorem k0c(m:Nat):Tryz.prog.built 138 [(1,.map (some m))]=some ([.slice none 0 0,.map (some m)]:List Value).toArray:=by kernel_rfl
theorem O2c(w:World):Calls Tryz.prog 120 #[] w λe w'=>∃q m,e=.returned (.pointer (some ⟨q,0,none⟩))/\PDr w' w.heap.size q (.slice none 0 0) m (.map []) []/\Below w.heap.size w w':=by
 have hmm:=@run_makeMap Tryz.prog;have L0:Hid (Below w.heap.size w (w.alloc (.map #[] 0))):=(Below.refl _ _).alloc (Nat.le_refl _) _;have M0:Hid ((w.alloc (.map #[] 0)).ownsMap Tryz.prog 9 (plainElem (H:=Unit) Tryz.prog 3) w.heap.size 0 (.map [])):=World.ownsMap_made _ _ _ _;have Z0:Hid (w.heap.size<(w.alloc (.map #[] 0)).heap.size):=by show _<_;simp
 go_enter Tryz.func120,Tryz.ntmps120;go_wp2_with(first
  | ((with_reducible refine sN 2 ?_);refine A0a rfl _ _ rfl [.slice none 0 0,.map (some w.heap.size)] (k0c _) ?_)
  | ((with_reducible refine sN 3 ?_);refine v0a rfl _ (.tmp 2) rfl [.slice none 0 0,.map (some w.heap.size)] rfl ?_;intro q w1 hg1 hg2 B1 L1)
  | fail)
 go_ret;exact⟨q,w.heap.size,rfl,⟨Nat.le_trans (Nat.le_of_lt Z0.out) hg1,Nat.le_refl _,B1.out,j1a.nil _ _ _ _ _,G9a.nil,F1a M0.out (L1.out.block _ Z0.out),Dok.nil,by decide,λx h=>by cases h⟩,L0.out.trans (L1.out.mono L0.out.size)⟩
theorem F3b(w:World)(base q:Nat)(v:Value)(m:Nat)(D:DataW Unit)(L:List I0a)(d:PDr w base q v m D L)(hb:base<=w.heap.size)(htb:F2a base w)(s:ByteArray)(hs:s.size<=1048576) :
  Calls Tryz.prog 93 #[.pointer (some ⟨q,0,none⟩),.string s] w λe w'=>e=.returned (.bool (s5a L s))/\Below w.heap.size w w':=by
 go_enter Tryz.func93,Tryz.ntmps93;go_upto_region 1 with fail
 refine wp_region_held (S:=λw'=>PDr w' base q v m D L) (by kernel_rfl) ?_;change wpAnyH _ _ _ _ _ _ _ _ w.drew
 have Sr0:Hid (PDr w.drew base q v m D L):=d.below (Below.refl _ _).drew;have br0:Hid (Below w.heap.size w w.drew):=(Below.refl _ _).drew;refine tK 0 _ rfl (a0a (by kernel_rfl) (.tmp 0) rfl (.pointer (some ⟨q,0,none⟩)) (by kernel_rfl)) Sr0.out ?_;refine tK 1 _ rfl (p0a (by kernel_rfl) (.tmp 8) rfl ⟨q,0,none⟩ (by kernel_rfl)) Sr0.out ?_;refine tK 2 _ rfl (e0a (by kernel_rfl) _ (.tmp 9) 1 rfl (.pointer (some ⟨q,0,none⟩)) (.pointer (some ⟨q,1,none⟩)) (by kernel_rfl) (λw=>by go_simp)) Sr0.out ?_;refine tK 3 _ rfl (b0a (by kernel_rfl) _ (.tmp 10) rfl q (1) (by kernel_rfl) (.map (some m)) (λ_ h=>h.c1) _ Tryz.underlying136 rfl) Sr0.out ?_;refine tK 4 _ rfl (a0a (by kernel_rfl) (.tmp 1) rfl (.string s) (by kernel_rfl)) Sr0.out ?_;refine oN 5 _ rfl λK hK=>?_
 go_simp;refine(U8a s _ hs (htb.at br0.out hb)).mono ?_;rintro e vr1 ⟨rfl,l1⟩;have Sr1:Hid (PDr vr1 base q v m D L):=PDr.below Sr0.out l1;have br1:Hid (Below w.heap.size w vr1):=Below.trans br0.out (l1.mono (Below.size br0.out));refine hK _ _ Sr1.out ?_;clear hK K l1;refine tK 6 (.tuple #[.int .i64 (x9b D s),.bool (s5a L s)]) rfl (J4a (by kernel_rfl) _ (.tmp 11) (.tmp 13) true rfl (.map (some m)) (.string (g1b s)) (by kernel_rfl) (by kernel_rfl) (λw' h=>h.look2 s hs)) Sr1.out ?_;refine tK 7 _ rfl (a0a (by kernel_rfl) (.tmp 14) rfl (.tuple #[.int .i64 (x9b D s),.bool (s5a L s)]) (by kernel_rfl)) Sr1.out ?_;refine tK 8 (.int .i64 (x9b D s)) rfl (.inl ⟨by kernel_rfl,λw _=>by go_simp⟩) Sr1.out ?_;refine tK 9 (.bool (s5a L s)) rfl (.inl ⟨by kernel_rfl,λw _=>by go_simp⟩) Sr1.out ?_;refine tK 10 _ rfl (T3a (by kernel_rfl) (.tmp 15) rfl (.int .i64 (x9b D s)) (by kernel_rfl)) Sr1.out ?_;refine tK 11 _ rfl (T3a (by kernel_rfl) (.tmp 16) rfl (.bool (s5a L s)) (by kernel_rfl)) Sr1.out ?_;refine dN ?_;go_wp2_with fail;go_ret;exact⟨rfl,br1.out⟩
structure PlC (w:World) (p1 p2 q g n c i:Nat) (x s:ByteArray):Prop where
 c1:w.cell? ⟨p1,0,none⟩=some (.pointer (some ⟨q,0,none⟩))
 c2:w.cell? ⟨p2,0,none⟩=some (.string s)
 c3:w.cell? ⟨q,0,none⟩=some (.slice (some ⟨g,0,none⟩) n c)
 c4:w.cell? ⟨g,i,none⟩=some (.string x)
theorem PlC.below{w w':World}{p1 p2 q g n c i:Nat}{x s:ByteArray}(h:PlC w p1 p2 q g n c i x s)(hb:Below w.heap.size w w'):PlC w' p1 p2 q g n c i x s:=⟨(hb.cell (d0a h.c1)).trans h.c1,(hb.cell (d0a h.c2)).trans h.c2,(hb.cell (d0a h.c3)).trans h.c3,(hb.cell (d0a h.c4)).trans h.c4⟩
theorem f8b(w:World)(p1 p2 q g n c i:Nat)(x s:ByteArray)(h:PlC w p1 p2 q g n c i x s)(hi:i<n)(z:Bool)(ca:∀w',Below w.heap.size w w'->Calls Tryz.prog 146 #[.string x,.string s] w' λe w2=>e=.returned (.bool z)/\Below w'.heap.size w' w2) :
  Calls Tryz.prog 145 #[.int .i64 (i:Nat),.pointer (some ⟨p1,0,none⟩),.pointer (some ⟨p2,0,none⟩)] w λe w'=>e=.returned (.bool (!z))/\Below w.heap.size w w':=by
 have CA:=hI ca;clear ca;go_enter Tryz.func145,Tryz.ntmps145;go_upto_region 1 with fail
 refine wp_region_held (S:=λw'=>PlC w' p1 p2 q g n c i x s) (by kernel_rfl) ?_;change wpAnyH _ _ _ _ _ _ _ _ w.drew
 have Sr0:Hid (PlC w.drew p1 p2 q g n c i x s):=h.below (Below.refl _ _).drew;have br0:Hid (Below w.heap.size w w.drew):=(Below.refl _ _).drew;refine tK 0 _ rfl (b0a (by kernel_rfl) _ (.tmp 1) rfl p1 (0) (by kernel_rfl) (.pointer (some ⟨q,0,none⟩)) (λ_ h=>h.c1) _ Tryz.underlying84 rfl) Sr0.out ?_;refine tK 1 _ rfl (p0a (by kernel_rfl) (.tmp 5) rfl ⟨q,0,none⟩ (by kernel_rfl)) Sr0.out ?_;refine tK 2 _ rfl (e0a (by kernel_rfl) _ (.tmp 6) 0 rfl (.pointer (some ⟨q,0,none⟩)) (.pointer (some ⟨q,0,none⟩)) (by kernel_rfl) (λw=>by go_simp)) Sr0.out ?_;refine tK 3 _ rfl (b0a (by kernel_rfl) _ (.tmp 7) rfl q (0) (by kernel_rfl) (.slice (some ⟨g,0,none⟩) n c) (λ_ h=>h.c3) _ Tryz.underlying78 rfl) Sr0.out ?_;refine tK 4 _ rfl (a0a (by kernel_rfl) (.tmp 0) rfl (.int .i64 (i:Nat)) (by kernel_rfl)) Sr0.out ?_;refine tK 5 (.pointer (some ⟨g,i,none⟩)) rfl (.inl ⟨by kernel_rfl,λw _=>by go_simp⟩) Sr0.out ?_;refine tK 6 _ rfl (b0a (by kernel_rfl) _ (.tmp 10) rfl g (i) (by kernel_rfl) (.string x) (λ_ h=>h.c4) _ Tryz.underlying9 rfl) Sr0.out ?_;refine tK 7 _ rfl (b0a (by kernel_rfl) _ (.tmp 2) rfl p2 (0) (by kernel_rfl) (.string s) (λ_ h=>h.c2) _ Tryz.underlying9 rfl) Sr0.out ?_;refine oN 8 _ rfl λK hK=>?_
 go_simp;refine(CA.out _ br0.out).mono ?_;rintro e vr1 ⟨rfl,l1⟩;have Sr1:Hid (PlC vr1 p1 p2 q g n c i x s):=Sr0.out.below l1;have br1:Hid (Below w.heap.size w vr1):=Below.trans br0.out (l1.mono (Below.size br0.out));refine hK _ _ Sr1.out ?_;clear hK K l1;refine tK 9 (.bool (!z)) rfl (.inl ⟨by kernel_rfl,λw _=>by go_simp⟩) Sr1.out ?_;refine tK 10 _ rfl (T3a (by kernel_rfl) (.tmp 14) rfl (.bool (!z)) (by kernel_rfl)) Sr1.out ?_;refine dN ?_;go_wp2_with fail;go_ret;exact⟨rfl,br1.out⟩
theorem P2c(w:World)(p1 p2 q g n c i:Nat)(x s:ByteArray)(h:PlC w p1 p2 q g n c i x s)(hi:i<n)(z:Bool)(ca:∀w',Below w.heap.size w w'->Calls Tryz.prog 146 #[.string s,.string x] w' λe w2=>e=.returned (.bool z)/\Below w'.heap.size w' w2) :
  Calls Tryz.prog 154 #[.int .i64 (i:Nat),.pointer (some ⟨p2,0,none⟩),.pointer (some ⟨p1,0,none⟩)] w λe w'=>e=.returned (.bool z)/\Below w.heap.size w w':=by
 have CA:=hI ca;clear ca;go_enter Tryz.func154,Tryz.ntmps154;go_upto_region 1 with fail
 refine wp_region_held (S:=λw'=>PlC w' p1 p2 q g n c i x s) (by kernel_rfl) ?_;change wpAnyH _ _ _ _ _ _ _ _ w.drew
 have Sr0:Hid (PlC w.drew p1 p2 q g n c i x s):=h.below (Below.refl _ _).drew;have br0:Hid (Below w.heap.size w w.drew):=(Below.refl _ _).drew;refine tK 0 _ rfl (b0a (by kernel_rfl) _ (.tmp 1) rfl p2 (0) (by kernel_rfl) (.string s) (λ_ h=>h.c2) _ Tryz.underlying9 rfl) Sr0.out ?_;refine tK 1 _ rfl (b0a (by kernel_rfl) _ (.tmp 2) rfl p1 (0) (by kernel_rfl) (.pointer (some ⟨q,0,none⟩)) (λ_ h=>h.c1) _ Tryz.underlying84 rfl) Sr0.out ?_;refine tK 2 _ rfl (p0a (by kernel_rfl) (.tmp 6) rfl ⟨q,0,none⟩ (by kernel_rfl)) Sr0.out ?_;refine tK 3 _ rfl (e0a (by kernel_rfl) _ (.tmp 7) 0 rfl (.pointer (some ⟨q,0,none⟩)) (.pointer (some ⟨q,0,none⟩)) (by kernel_rfl) (λw=>by go_simp)) Sr0.out ?_;refine tK 4 _ rfl (b0a (by kernel_rfl) _ (.tmp 8) rfl q (0) (by kernel_rfl) (.slice (some ⟨g,0,none⟩) n c) (λ_ h=>h.c3) _ Tryz.underlying78 rfl) Sr0.out ?_;refine tK 5 _ rfl (a0a (by kernel_rfl) (.tmp 0) rfl (.int .i64 (i:Nat)) (by kernel_rfl)) Sr0.out ?_;refine tK 6 (.pointer (some ⟨g,i,none⟩)) rfl (.inl ⟨by kernel_rfl,λw _=>by go_simp⟩) Sr0.out ?_;refine tK 7 _ rfl (b0a (by kernel_rfl) _ (.tmp 11) rfl g (i) (by kernel_rfl) (.string x) (λ_ h=>h.c4) _ Tryz.underlying9 rfl) Sr0.out ?_;refine oN 8 _ rfl λK hK=>?_
 go_simp;refine(CA.out _ br0.out).mono ?_;rintro e vr1 ⟨rfl,l1⟩;have Sr1:Hid (PlC vr1 p1 p2 q g n c i x s):=Sr0.out.below l1;have br1:Hid (Below w.heap.size w vr1):=Below.trans br0.out (l1.mono (Below.size br0.out));refine hK _ _ Sr1.out ?_;clear hK K l1;refine tK 9 _ rfl (T3a (by kernel_rfl) (.tmp 13) rfl (.bool z) (by kernel_rfl)) Sr1.out ?_;refine dN ?_;go_wp2_with fail;go_ret;exact⟨rfl,br1.out⟩
def pPl(L:List I0a)(s:ByteArray)(i:Nat):Bool:=match L[i]? with
 | some x=>!ahd x.1 s
 | none=>true
def pFr(L:List I0a)(a:ByteArray)(i:Nat):Bool:=match L[i]? with
 | some x=>ahd a x.1
 | none=>true
theorem l0c{L:List I0a}{s:ByteArray}{i:Nat}(h:i<L.length):pPl L s i = !ahd L[i].1 s:=by unfold pPl;rw[List.getElem?_eq_getElem h]
theorem m0c{L:List I0a}{a:ByteArray}{i:Nat}(h:i<L.length):pFr L a i=ahd a L[i].1:=by unfold pFr;rw[List.getElem?_eq_getElem h]
theorem PDr.plS{w:World}{base q:Nat}{v:Value}{m:Nat}{D:DataW Unit}{L:List I0a}(d:PDr w base q v m D L)(hb:base<=w.heap.size)(htb:F2a base w)(s:ByteArray)(hs:s.size<=1048576)(w1:World)(p1 p2:Nat)(h1:Below w.heap.size w w1)
(e1:w1.cell? ⟨p1,0,none⟩=some (.pointer (some ⟨q,0,none⟩)))(e2:w1.cell? ⟨p2,0,none⟩=some (.string s)) :
  Calls Tryz.prog 144 #[.int .i64 (L.length:Nat),.func (.func 145) #[] #[.pointer (some ⟨p1,0,none⟩),.pointer (some ⟨p2,0,none⟩)]] w1 λe w'=>e=.returned (.int .i64 (dPl L s:Nat))/\Below w1.heap.size w1 w':=by
 have hsm:=d.small;refine G7a w1 145 (enters_of Tryz.func145 (by kernel_rfl) rfl) _ _ L.length (dPl L s) (pPl L s) W9b (by omega) (λi hi=>?_) (λi hi hin=>?_) λw2 i hb2 hi=>?_
 ·have hl:i<L.length:=Nat.lt_of_lt_of_le hi W9b;rw[l0c hl,X9b hi hl];rfl
 ·rw[l0c hin,H2c d.ok hi hin];rfl
 ·have hb3:Below w.heap.size w w2:=h1.trans (hb2.mono h1.size);obtain⟨g,c,rfl,_,_,k1⟩:=(d.below hb3).at hi;rw[l0c hi];refine f8b w2 p1 p2 q g L.length c i L[i].1 s ⟨(hb2.cell (d0a e1)).trans e1,(hb2.cell (d0a e2)).trans e2,(d.below hb3).c0,k1⟩ hi _ λw3 hb4=>?_
  exact B2b _ _ w3 (d.text _ (List.getElem_mem hi)) hs (htb.at (hb3.trans (hb4.mono hb3.size)) hb)
theorem PDr.frS{w:World}{base q:Nat}{v:Value}{m:Nat}{D:DataW Unit}{L:List I0a}(d:PDr w base q v m D L)(hb:base<=w.heap.size)(htb:F2a base w)(s:ByteArray)(hs:s.size<=1048576)(w1:World)(p1 p2:Nat)(h1:Below w.heap.size w w1)
(e1:w1.cell? ⟨p1,0,none⟩=some (.pointer (some ⟨q,0,none⟩)))(e2:w1.cell? ⟨p2,0,none⟩=some (.string s)) :
  Calls Tryz.prog 144 #[.int .i64 (L.length:Nat),.func (.func 154) #[] #[.pointer (some ⟨p2,0,none⟩),.pointer (some ⟨p1,0,none⟩)]] w1 λe w'=>e=.returned (.int .i64 (dFr L s:Nat))/\Below w1.heap.size w1 w':=by
 have hsm:=d.small;refine G7a w1 154 (enters_of Tryz.func154 (by kernel_rfl) rfl) _ _ L.length (dFr L s) (pFr L s) e0c (by omega) (λi hi=>?_) (λi hi hin=>?_) λw2 i hb2 hi=>?_
 ·have hl:i<L.length:=Nat.lt_of_lt_of_le hi e0c;rw[m0c hl,f0c hi hl]
 ·rw[m0c hin,r7b d.ok hi hin]
 ·have hb3:Below w.heap.size w w2:=h1.trans (hb2.mono h1.size);obtain⟨g,c,rfl,_,_,k1⟩:=(d.below hb3).at hi;rw[m0c hi];refine P2c w2 p1 p2 q g L.length c i L[i].1 s ⟨(hb2.cell (d0a e1)).trans e1,(hb2.cell (d0a e2)).trans e2,(d.below hb3).c0,k1⟩ hi _ λw3 hb4=>?_
  exact B2b _ _ w3 hs (d.text _ (List.getElem_mem hi)) (htb.at (hb3.trans (hb4.mono hb3.size)) hb)
theorem J9a(w:World)(base q:Nat)(v:Value)(m:Nat)(D:DataW Unit)(L:List I0a)(d:PDr w base q v m D L)(hb:base<=w.heap.size)(htb:F2a base w)(s:ByteArray)(hs:s.size<=1048576) :
  Calls Tryz.prog 95 #[.pointer (some ⟨q,0,none⟩),.string s] w λe w'=>e=.returned (.int .i64 (dPl L s:Nat))/\Below w.heap.size w w':=by
 have hmf:∀(fn:Fn) (first cap:Array Value) (w:World),(Instr.makeFunc fn first cap).run Tryz.prog w=.ok (.func fn first cap) w:=λ_ _ _ _=>rfl
 obtain⟨A,c,rfl⟩:=d.len;have k0:=d.c0;have CS:=hI (d.plS hb htb s hs);obtain⟨n,hn⟩:∃n,n=L.length:=⟨_,rfl⟩;obtain⟨k,hk⟩:∃k,k=dPl L s:=⟨_,rfl⟩;rw[<-hn] at k0 CS;rw[<-hk] at CS⊢;clear hn hk d;go_enter Tryz.func95,Tryz.ntmps95;go_wp2_with(first
  | ((with_reducible refine sN 2 ?_);refine w0a rfl _ (.tmp 0) rfl (.pointer (some ⟨q,0,none⟩)) rfl rfl ?_;intro p1 w1 hg1 hg2 B1 L1)
  | ((with_reducible refine sN 3 ?_);refine w0a rfl _ (.tmp 1) rfl (.string s) rfl rfl ?_;intro p2 w2 hg3 hg4 B2 L2;have L3:=hI (L1.out.trans (L2.out.mono L1.out.size));have c1:w2.cell? ⟨p1,0,none⟩=some (.pointer (some ⟨q,0,none⟩)):=(L2.out.cell hg2).trans (B1.out.cell 0);have c2:w2.cell? ⟨p2,0,none⟩=some (.string s):=B2.out.cell 0;have k2:w2.cell? ⟨q,0,none⟩=some (.slice A n c):=(L3.out.cell (d0a k0)).trans k0)
  | fail)
 refine(CS.out w2 p1 p2 L3.out c1 c2).mono ?_;rintro e w3 ⟨rfl,l3⟩;have L4:=hI (L3.out.trans (l3.mono L3.out.size));clear l3;go_wp2_with fail;go_ret;exact⟨rfl,L4.out⟩
theorem H7a:(Tryz.prog.info? 9).map (·.size)=some 1:=by kernel_rfl
theorem v7b:(Tryz.prog.info? 9).map (λi=>(i.zero,i.size))=some (some (.string ⟨#[]⟩),1):=by kernel_rfl
theorem o0c(l:List ByteArray):l.flatMap G0a=l.map Value.string:=by
 induction l with
 | nil=>rfl
 | cons x r ih=>rw[List.flatMap_cons,ih];rfl
section
variable {P:Program} {w:World} {ops:Array Oper} {rest:List Oper} {o:Oper} {a:Act} {Q:Exit->Act->World->Prop}
theorem c4a(hgd:o.guard=none)(d x:Operand)(dT elem t:TypeId)(k:Nat)
(ho:o.op=.call { callee:=.builtin .copy,args:=#[d,x],argTypes:=#[dT,dT] })(hu:P.underlying dT=some (.slice elem))(hs:(P.info? elem).map (·.size)=some 1)
(g off dLen dCap:Nat)(b so sLen sCap:Nat)(hd:a.eval d=.slice (some ⟨g,off,none⟩) dLen dCap)(hx:a.eval x=.slice (some ⟨b,so,none⟩) sLen sCap)
(cur cs:List Value)(hg:Blk w g t cur)(hk:Nat.min sLen dLen=k)(hn:cs.length=k)(hsrc:∀j v,cs[j]? = some v->w.cell? ⟨b,so+j,none⟩=some v)(hfit:off+k<=cur.length)(h1:∀v∈cs,v.oneCell'=true)
(h:∀w',Hid (Blk w' g t (splice cur off cs))->Hid (S1a g w w')->wpList P ops Q rest (a.put o.dst (goInt k)) w'):wpList P ops Q (o::rest) a w:=E1a hgd d x dT elem t 1 k ho hu hs g off dLen dCap b so sLen sCap hd hx cur cs hg hk (by rw[Nat.mul_one];exact hn) hsrc (by rw[Nat.mul_one];exact hfit) h1 h
theorem F6a(hgd:o.guard=none)(x:Operand)(T elem t:TypeId)(z:Value)
(ho:o.op=.call { callee:=.builtin .clear,args:=#[x],argTypes:=#[T] })(hu:P.underlying T=some (.slice elem))(hi:(P.info? elem).map (λi=>(i.zero,i.size))=some (some z,1))(hz:z.cells.size=1)(hz1:∀v∈z.cells,v.oneCell'=true)
(g off n c:Nat)(A:Option Addr)(hx:a.eval x=.slice A n c)(hA:0<n->A=some ⟨g,off,none⟩)
(cur:List Value)(hg:Blk w g t cur)(hfit:off+n<=cur.length)
(h:∀w' cs,Hid (cs.length=n)->Hid (Blk w' g t (splice cur off cs))->Hid (S1a g w w')->wpList P ops Q rest (a.put o.dst (.tuple #[])) w'):wpList P ops Q (o::rest) a w:=p2a hgd x T elem t 1 z [] ho hu hi hz hz1 (by decide) g off n c A hx hA cur hg (by rw[Nat.mul_one];exact hfit) λw' cs q=>h w' cs (by have:=q.out;rw[Nat.mul_one] at this;exact this)
theorem wpList_append_room1(hgd:o.guard=none)(l x:Operand)(T elem:TypeId)
(ho:o.op=.call { callee:=.builtin .append,args:=#[l,x],argTypes:=#[T,T] })(hu:P.underlying T=some (.slice elem))(hs:(P.info? elem).map (·.size)=some 1)
(g sLen sCap b so m c:Nat)(hl:a.eval l=.slice (some ⟨g,0,none⟩) sLen sCap)(hx:a.eval x=.slice (some ⟨b,so,none⟩) m c)
(cur cs:List Value)(hg:Blk w g elem cur)(hn:cs.length=m)(hsrc:∀j v,cs[j]? = some v->w.cell? ⟨b,so+j,none⟩=some v)(hroom:sLen+m<=sCap)(hfit:sLen+m<=cur.length)(h1:∀v∈cs,v.oneCell'=true){t:Nat}(ht:sLen+m=t)
(h:∀w',Hid (Blk w' g elem (splice cur sLen cs))->Hid (S1a g w w')->wpList P ops Q rest (a.put o.dst (.slice (some ⟨g,0,none⟩) t sCap)) w'):wpList P ops Q (o::rest) a w:=by
 subst ht;refine v2a hgd l x T elem 1 ho hu hs g sLen sCap b so m c hl hx cur cs hg (by rw[Nat.mul_one];exact hn) hsrc hroom (by rw[Nat.mul_one,Nat.mul_one];exact hfit) h1 λw' q=>h w' ?_
 rw[Nat.mul_one] at q;exact q
theorem r8a(hgd:o.guard=none)(l x:Operand)(T tn elem t:TypeId)(bytes:Nat)(z:Value)(kn:IntKind)
(ho:o.op=.call { callee:=.builtin .append,args:=#[l,x],argTypes:=#[T,tn] })(hu:P.underlying T=some (.slice elem))(htn:P.underlying tn=some (.int kn))(hi:(P.info? elem).map (λi=>(i.zero,i.size,i.bytes))=some (some z,1,bytes))(hz:z.cells.size=1)(hs0:0<1)
(g sLen sCap k:Nat)(hl:a.eval l=.slice (some ⟨g,0,none⟩) sLen sCap)(kk:IntKind)(C:Int)(hx:a.eval x=.int kk C)(hC:C=(k:Int))
(cur:List Value)(hg:Blk w g t cur)(hfit:sLen<=cur.length)(hgrow:sCap<sLen+k)(h0:0<k)(hlen:(sLen+k)*bytes<=140737488355328)(h63:sLen+k<=9223372036854775807)
(h:∀w' h' cap cs,Hid (w.heap.size<=h'/\h'<w'.heap.size)->Hid (Blk w' h' elem (cur.take sLen++cs))->Hid ((cur.take sLen++cs).length=cap)->sLen+k<=cap->cap<=maxLen->Hid (Below w.heap.size w w')->
   wpList P ops Q rest (a.put o.dst (.slice (some ⟨h',0,none⟩) (sLen+k) cap)) w'):wpList P ops Q (o::rest) a w:=by
 refine u5a hgd l x T tn elem t 1 bytes z kn ho hu htn hi hz hs0 g sLen sCap k hl kk C hx hC cur hg (by rw[Nat.mul_one];exact hfit) hgrow h0 hlen h63 λw' h' cap cs q1 q2 q3 q4 q5 q6=>h w' h' cap cs q1 ?_ ?_ q4 q5 q6
 ·rw[Nat.mul_one] at q2;exact q2
 ·rw[Nat.mul_one,Nat.mul_one] at q3;exact q3
end
section
variable {w:World} {base q n c:Nat} {xs:List ByteArray}
theorem j1a.blk1(h:j1a G0a 1 9 w base (.slice (some ⟨q,0,none⟩) n c) xs):base<=q/\xs.length=n/\n<=c/\c<=maxLen/\∃cs,Blk w q 9 cs/\cs.length=c/\cs.take n=xs.flatMap G0a:=by have h1:=h.blk;rw[Nat.mul_one,Nat.mul_one] at h1;exact h1
theorem j1a.of_blk1{cs:List Value}(hb:base<=q)(hB:Blk w q 9 cs)(hc:cs.length=c)(hcm:c<=maxLen)(hn:xs.length=n)(hnc:n<=c)(ht:cs.take n=xs.flatMap G0a):j1a G0a 1 9 w base (.slice (some ⟨q,0,none⟩) n c) xs:=j1a.of_blk H1a hb hB (by rw[Nat.mul_one];exact hc) hcm hn hnc (by rw[Nat.mul_one];exact ht)
end
def V8a(w:World)(base:Nat)(v:Value)(l:List ByteArray)(i j:Nat)(J:ByteArray)(e:Ending)(w':World):Prop:=∃v',e=.returned v'/\j1a G0a 1 9 w' base v' (l.take i++[J]++l.drop j)/\g0a (λk=>v.ownBlock=some k) w w'/\Z0a w v v'
theorem G3b{L X Y:List Value}{a:Nat}(ha:a<=L.length)(hX:X.length=1)(hY:a+1+Y.length<=L.length):(splice (splice L a X) (a+1) Y).take (a+1+Y.length)=L.take a++X++Y:=by
 have h1:(splice L a X).take (a+1)=L.take a++X:=by unfold splice;rw[<-List.append_assoc,List.take_left' (by rw[List.length_append,List.length_take,hX,Nat.min_eq_left ha])]
 unfold splice at h1⊢;rw[h1,<-List.append_assoc,List.take_left' (by rw[List.length_append,List.length_append,List.length_take,hX,Nat.min_eq_left ha])]
theorem c2b{L X Y:List Value}{a:Nat}(ha:a<=L.length)(hX:X.length=1)(hY:a+1+Y.length<=L.length):(splice (splice L (a+1) Y) a X).take (a+1+Y.length)=L.take a++X++Y:=by
 have h2:(L.take (a+1)).length=a+1:=by rw[List.length_take];omega
 have h1:(splice L (a+1) Y).take a=L.take a:=by unfold splice;rw[List.take_append_of_le_length (by rw[h2];omega),List.take_take,Nat.min_eq_left (by omega)]
 have h3:(splice L (a+1) Y).drop (a+X.length)=Y++L.drop (a+1+Y.length):=by unfold splice;rw[hX,List.drop_left' h2]
 show(List.take a (splice L (a+1) Y)++(X++(splice L (a+1) Y).drop (a+X.length))).take _=_
 rw[h1,h3,<-List.append_assoc,<-List.append_assoc,List.take_left' (by rw[List.length_append,List.length_append,List.length_take,hX,Nat.min_eq_left ha])]
theorem Y5b(l:List ByteArray)(i j n:Nat)(J:ByteArray)(hn:l.length=n)(hij:i<=j)(hj:j<=n)(cs:List Value)(ht:cs.take (n)=l.flatMap G0a) :
  (l.take i++[J]++l.drop j).flatMap G0a=cs.take (i)++G0a J++(cs.take (n)).drop (j):=by
 have h1:(l.take i).flatMap G0a=cs.take (i):=by
  have h4:=congrArg (List.take (i)) ht;rw[List.take_take,Nat.min_eq_left (by omega)] at h4;rw[h4]
  conv=>rhs;rw[<-List.take_append_drop i l]
  rw[List.flatMap_append,List.take_left' (by rw[C1a H1a,List.length_take,hn];omega)]
 have h2:(l.drop j).flatMap G0a=(cs.take (n)).drop (j):=by
  rw[ht]
  conv=>rhs;rw[<-List.take_append_drop j l]
  rw[List.flatMap_append,List.drop_left' (by rw[C1a H1a,List.length_take,hn];omega)]
 rw[List.flatMap_append,List.flatMap_append,h1,h2];simp
theorem Z5b(w:World)(base:Nat)(A:Option Addr)(n c i vb:Nat)(l:List ByteArray)(J:ByteArray)(ho:j1a G0a 1 9 w base (.slice A n c) l)(hi:i<=n)(hn:l.length=n)(hn2:n<=65536)(hb:base<=w.heap.size)
(hv:Blk w vb 9 (G0a J))(hvn:(Value.slice A n c).ownBlock≠some vb) :
  Calls Tryz.prog 198 #[.slice A n c,.int .i64 (i:Nat),.slice (some ⟨vb,0,none⟩) 1 1] w (V8a w base (.slice A n c) l i i J):=by
 have hJ:Hid (∀w2,Blk w2 vb 9 (G0a J)->∀j u,(G0a J)[j]? = some u->w2.cell? ⟨vb,0+j,none⟩=some u):=λw2 h j u hj=>by rw[Nat.zero_add,h.cell,hj]
 have HV:=hI hv;have HO:=hI ho;by_cases hin:i=n
 ·subst hin;have hl:l.take i++[J]++l.drop i=l++[J]:=by rw[List.take_of_length_le (by omega),List.drop_of_length_le (by omega),List.append_nil]
  unfold V8a;rw[hl];have hlen:Hid ((l.length+[J].length)*16<=140737488355328/\l.length+[J].length<=9223372036854775807):=by show _/\_;simp;omega
  have hJ2:Hid (∀w2,Blk w2 vb 9 (G0a J)->∀j u,([J].flatMap G0a)[j]? = some u->w2.cell? ⟨vb,0+j,none⟩=some u):=λw2 h j u hj=>hJ.out w2 h j u (by simpa using hj)
  have hcm:c<=9223372036854775807/\i<=c:=by
   rcases ho.2 with⟨h1,_⟩ | ⟨g,cap,cur,h1,_,_,h2,h3,_⟩
   ·injection h1 with _ h3 h4
    omega
   ·injection h1 with _ h4 h5
    unfold maxLen at h3;omega
  obtain⟨hcm,hic⟩:=hcm;clear ho hv hl hJ hvn hn;rcases A with _ | ad
  ·have hc:i=0/\c=0:=by
    rcases HO.out.2 with⟨h1,_⟩ | ⟨g,cap,cur,h1,_⟩
    ·injection h1 with _ h2 h3
     exact⟨h2,h3⟩
    ·injection h1 with h2
     cases h2
   obtain⟨rfl,rfl⟩:=hc;go_enter Tryz.func198,Tryz.ntmps198;go_wp2_with(first
    | (at_builtin;refine G2a rfl (.tmp 23) (.tmp 24) G0a 1 (by decide) H1a x4a (.string ⟨#[]⟩) rfl 78 9 16 Tryz.underlying78 r4a rfl base _ l rfl HO.out vb 0 1 1 [J] rfl rfl (hJ2.out _ HV.out) hlen.out.1 hlen.out.2 hb ?_;intro v1 w1 O1 S1 W1)
    | fail)
   go_ret;exact⟨_,rfl,O1.out,S1.out,W1.out⟩
  ·go_enter Tryz.func198,Tryz.ntmps198;go_wp2_with(first
    | (at_builtin;refine G2a rfl (.tmp 23) (.tmp 24) G0a 1 (by decide) H1a x4a (.string ⟨#[]⟩) rfl 78 9 16 Tryz.underlying78 r4a rfl base _ l rfl HO.out vb 0 1 1 [J] rfl rfl (hJ2.out _ HV.out) hlen.out.1 hlen.out.2 hb ?_;intro v1 w1 O1 S1 W1)
    | fail)
   all_goals go_ret
   all_goals exact⟨_,rfl,O1.out,S1.out,W1.out⟩
 ·obtain⟨g,c',hg⟩:=ho.form (show 0<l.length by omega);obtain rfl:A=some ⟨g,0,none⟩:=by injection hg
  clear hg;obtain⟨hbg,hln,hnc,hcm,cs,hB,hcl,htk⟩:=ho.blk1;have hcm':c<=9223372036854775807:=by unfold maxLen at hcm;omega
  have hgv:g≠vb:=λh=>hvn (by rw[h];rfl)
  have hparts:=Y5b l i i n J hn (Nat.le_refl _) hi cs htk;have hlen3:(l.take i++[J]++l.drop i).length=n+1:=by simp;omega
  obtain⟨L3,hL3⟩:∃L3,L3=l.take i++[J]++l.drop i:=⟨_,rfl⟩;unfold V8a;rw[<-hL3] at hparts hlen3⊢;obtain⟨Y,hY⟩:∃Y,Y=(cs.take (n)).drop (i):=⟨_,rfl⟩;rw[<-hY] at hparts;have hYl:Y.length=(n-i):=by rw[hY,List.length_drop,List.length_take,hcl];omega
  have hYc:Hid (∀w2,Blk w2 g 9 cs->∀j v,Y[j]? = some v->w2.cell? ⟨g,i+j,none⟩=some v):=λw2 h j v hj=>by rw[h.cell,<-hj,hY,List.getElem?_drop,List.getElem?_take,if_pos];have:=(List.getElem?_eq_some_iff.1 hj).1;omega
  have hY1:Hid (∀v∈Y,v.oneCell'=true):=λv hv=>by rw[hY,htk] at hv;obtain⟨y,_,hy⟩:=List.mem_flatMap.1 (List.mem_of_mem_drop hv);exact x4a y v hy
  have HB0:=hI hB;have HL:=hI hcl;have HP:=hI hparts;have H3:=hI hlen3;have HYL:=hI hYl;have hic:¬c=i:=by omega
  have hic2:i<=c:=by omega
  have hc0:¬c=0:=by omega
  have hne:¬(i:Int)=(n:Int):=by omega
  clear hB hcl htk ho hln hn hL3 hY hYl hparts hlen3 hvn hv;have h01:(0:Int)<=(i:Int)+1:=by omega
  have hui:IntKind.i64.wrap ((i:Int)+1)=(i:Int)+1:=by rw[IntKind.wrap_i64];omega
  have htn:((i:Int)+1).toNat=i+1:=by omega
  have fin:Hid (∀w2 q cap cur,base<=q->Blk w2 q 9 cur->cur.length=cap->cap<=maxLen->n+1<=cap->cur.take (i+1+Y.length)=cs.take (i)++G0a J++Y->j1a G0a 1 9 w2 base (.slice (some ⟨q,0,none⟩) (n+1) cap) L3):=λw2 q cap cur h1 h2 h3 h4 h5 h6=>by
   refine j1a.of_blk1 h1 h2 h3 h4 H3.out h5 ?_;rw[HP.out,<-h6,HYL.out]
   congr 1
   omega
  have one:Hid (∀v∈G0a J,v.oneCell'=true):=x4a J;by_cases hgrow:n+1<=c
  ·have hgt:decide ((c:Int)<(n:Int)+1)=false:=decide_eq_false (by omega);have hin1:¬c=i+1:=by omega
   have hgt2:(n:Int)+1<=(c:Int):=by omega
   have htn2:((n:Int)+1).toNat=n+1:=by omega
   have h02:(0:Int)<=(n:Int)+1:=by omega
   have hnil:n+1-(i+1)=n-i:=by omega
   have hil:(i:Int)<=(n:Int):=by omega
   have hil1:(i:Int)<=(n:Int)+1:=by omega
   have hov:∀lb cb,(callFunc 219 #[.slice (some ⟨vb,0,none⟩) 1 1,.slice (some ⟨g,(i+1),none⟩) lb cb]).run Tryz.prog w=.ok (.value (.bool false)) w:=λlb cb=>by
    rw[run_callFunc_extern Tryz.func219 (by kernel_rfl) (by kernel_rfl) (by kernel_rfl) (e:=Extern.SlicesOverlaps.overlaps #[78,78] #[4]) (by kernel_rfl),
     Lib.run_overlaps_apart w 78 4 9 Tryz.underlying78 1 (λw=>by simp[sizeOf,typeInfo];rfl) ⟨vb,0,none⟩ ⟨g,(i+1),none⟩ 1 1 lb cb (λh=>hgv h.symm) 9 9 1 cs.length (by unfold World.shape?;rw[HV.out];rfl) (by unfold World.shape?;rw[HB0.out];rfl) (by rw[HL.out];omega) (HV.out.frozen 0) (HV.out.frozen 1)]
    rfl
   go_enter Tryz.func198,Tryz.ntmps198;go_upto_region 15 with(simp only[hov])
   have F1:Hid ((i+1)+(n-i)<=cs.length):=by show _<=_;rw[HL.out];omega
   have F2:Hid (i+1<=(splice cs ((i+1)) Y).length):=by show _<=_;rw[length_splice _ _ _ (by rw[HYL.out,HL.out];omega),HL.out];omega
   go_still_tail 8,(by kernel_rfl);change wpList _ _ _ _ _ w.drew
   go_wp2_with(first
    | ((with_reducible refine sN 77 ?_);go_loud (refine c4a rfl (.tmp 73) (.tmp 76) 78 9 9 (n-i) rfl Tryz.underlying78 H7a _ _ _ _ _ _ _ _ rfl rfl _ Y HB0.out.drew (Nat.min_eq_right (by omega)) HYL.out (hYc.out _ HB0.out.drew) F1.out hY1.out ?_);intro w1 B1 O1;go_loud (have HV1:=hI ((HV.out.drew).only O1.out (λh=>hgv h.symm))))
    | ((with_reducible refine sN 82 ?_);go_loud (refine c4a rfl (.tmp 80) (.tmp 81) 78 9 9 1 rfl Tryz.underlying78 H7a _ _ _ _ _ _ _ _ rfl rfl _ (G0a J) B1.out (Nat.min_eq_left (by omega)) rfl (hJ.out _ HV1.out) F2.out one.out ?_);intro w2 B2 O2)
    | fail)
   go_ret;have q2:S1a g w w2:=⟨O2.out.os.trans O1.out.os,O2.out.tape.trans O1.out.tape,O2.out.output.trans O1.out.output,O2.out.size.trans O1.out.size,λj hj=>(O2.out.rest j hj).trans (O1.out.rest j hj)⟩;have ea:i+1=(i+1):=by omega
   have hl1:i<=cs.length:=by rw[HL.out];omega
   have hl2:i+1+Y.length<=cs.length:=by rw[HL.out,HYL.out];omega
   refine⟨_,rfl,?_,(g0a.of_only q2).mono λj _ hj=>by rw[hj];rfl,λj hj=>.inl hj⟩;refine fin.out w2 g c _ hbg B2.out ?_ hcm (by omega) ?_
   ·rw[length_splice _ _ _ (by rw[length_splice _ _ _ (by rw[HYL.out,HL.out];omega),H1a,HL.out];omega),length_splice _ _ _ (by rw[HYL.out,HL.out];omega),HL.out]
   ·rw[<-ea,c2b hl1 (H1a J) hl2]
  ·obtain⟨k,hk⟩:∃k,n+1=i+k:=⟨n+1-i,by omega⟩;have hk':(n:Int)+1-(i:Int)=(k:Int):=by omega
   have hgt:decide ((c:Int)<(n:Int)+1)=true:=decide_eq_true (by omega);have hlen:Hid ((i+k)*16<=140737488355328):=by show _<=_;omega
   have hfit:Hid (i<=cs.length):=by show _<=_;rw[HL.out];omega
   go_enter Tryz.func198,Tryz.ntmps198;go_upto_region 11 with(first
    | (at_builtin;go_loud (refine r8a rfl (.tmp 34) (.tmp 39) 78 3 9 9 16 (.string ⟨#[]⟩) .i64 rfl Tryz.underlying78 Tryz.underlying3 r4a rfl (by decide) g i c k rfl .i64 _ rfl rfl cs HB0.out hfit.out (by omega) (by omega) hlen.out (by omega) ?_);intro w1 h1 cap zs R1 B1 E1 hge hcap L1;go_loud (have hcapi:¬cap=i:=by omega);go_loud (have HV1:=hI (HV.out.over L1.out));go_loud (have HG1:=hI (HB0.out.over L1.out));go_loud (have F1:Hid (i+1<=(cs.take (i)++zs).length):=(by show _<=_;rw[E1.out];omega)))
    | ((with_reducible refine sN 45 ?_);go_loud (refine c4a rfl (.tmp 43) (.tmp 44) 78 9 9 1 rfl Tryz.underlying78 H7a _ _ _ _ _ _ _ _ rfl rfl _ (G0a J) B1.out (Nat.min_eq_left (show 1<=k by omega)) rfl (hJ.out _ HV1.out) F1.out one.out ?_);intro w2 B2 O2)
    | fail)
   have HG2:=hI ((HG1.out.only O2.out (by have:=HB0.out.lt;have:=R1.out.1;omega)).drew);have F2:Hid ((i+1)+(n-i)<=(splice (cs.take (i)++zs) (i) (G0a J)).length):=by
    show _<=_
    rw[length_splice _ _ _ (by rw[E1.out,H1a];omega),E1.out];omega
   have hcapu:¬cap=i+1:=by omega
   have hku:i+k-(i+1)=n-i:=by omega
   have h1k:(1:Int)<=(k:Int):=by omega
   have hcap0:¬cap=0:=by omega
   go_still_tail 8,(by kernel_rfl);change wpList _ _ _ _ _ w2.drew
   go_wp2_with(first
    | ((with_reducible refine sN 54 ?_);go_loud (refine c4a rfl (.tmp 50) (.tmp 53) 78 9 9 (n-i) rfl Tryz.underlying78 H7a _ _ _ _ _ _ _ _ rfl rfl _ Y B2.out.drew (Nat.min_self _) HYL.out (hYc.out _ HG2.out) F2.out hY1.out ?_);intro w3 B3 O3)
    | fail)
   go_ret;have q3:Below w.heap.size w w3:=r0a ((r0a L1.out O2.out R1.out.1).trans ((E0a w2 1).mono (Nat.le_trans L1.out.size (Nat.le_of_eq O2.out.size.symm)))) O3.out R1.out.1;have ea:i+1=(i+1):=by omega
   have hl1:i<=(cs.take (i)++zs).length:=by rw[E1.out];omega
   have hl2:i+1+Y.length<=(cs.take (i)++zs).length:=by rw[E1.out,HYL.out];omega
   refine⟨_,rfl,?_,g0a.of_over _ q3,λj hj=>.inr ?_⟩
   ·rw[<-hk];refine fin.out w3 h1 cap _ (Nat.le_trans hb R1.out.1) B3.out ?_ hcap (by omega) ?_
    ·rw[length_splice _ _ _ (by rw[length_splice _ _ _ (by rw[H1a];omega),HYL.out,E1.out];omega),length_splice _ _ _ (by rw[H1a];omega),E1.out]
    ·rw[<-ea,G3b hl1 (H1a J) hl2,List.take_append_of_le_length (by rw[List.length_take,HL.out];omega),List.take_take,Nat.min_self]
   ·injection hj with hj
    rw[<-hj];exact R1.out.1
theorem a6b(w:World)(base g n c i k:Nat)(l:List ByteArray)(ho:j1a G0a 1 9 w base (.slice (some ⟨g,0,none⟩) n c) l)(hnk:n=k+1)(hi:i<=k)(hn2:n<=65536) :
  Calls Tryz.prog 197 #[.slice (some ⟨g,0,none⟩) n c,.int .i64 (i:Nat),.int .i64 ((i:Int)+1)] w λe w'=>e=.returned (.slice (some ⟨g,0,none⟩) k c)/\j1a G0a 1 9 w' base (.slice (some ⟨g,0,none⟩) k c) (l.take i++l.drop (i+1))/\g0a (λj=>j=g) w w':=by
 obtain⟨hb,hln,hnc,hcm,cs,hB,hcl,htk⟩:=ho.blk1;have hcm':c<=9223372036854775807:=by unfold maxLen at hcm;omega
 obtain⟨m,hm⟩:∃m,m=k-i:=⟨_,rfl⟩;have him:i+m=k:=by omega
 obtain⟨Y,hY⟩:∃Y,Y=(cs.take n).drop (i+1):=⟨_,rfl⟩;have hYl:Y.length=m:=by rw[hY,List.length_drop,List.length_take,hcl];omega
 have hYc:Hid (∀w2,Blk w2 g 9 cs->∀j v,Y[j]? = some v->w2.cell? ⟨g,i+1+j,none⟩=some v):=λw2 h j v hj=>by rw[h.cell,<-hj,hY,List.getElem?_drop,List.getElem?_take,if_pos];have:=(List.getElem?_eq_some_iff.1 hj).1;omega
 have hY1:Hid (∀v∈Y,v.oneCell'=true):=λv hv=>by rw[hY,htk] at hv;obtain⟨y,_,hy⟩:=List.mem_flatMap.1 (List.mem_of_mem_drop hv);exact x4a y v hy
 have hflat:(l.take i++l.drop (i+1)).flatMap G0a=cs.take i++Y:=by
  rw[List.flatMap_append,o0c,o0c,hY,htk,o0c,List.map_take,List.map_drop]
  congr 1
  have h4:=congrArg (List.take i) htk;rw[List.take_take,Nat.min_eq_left (by omega),o0c] at h4;exact h4.symm
 have hlen2:(l.take i++l.drop (i+1)).length=k:=by rw[List.length_append,List.length_take,List.length_drop];omega
 have fin:Hid (∀w2 zs,zs.length=1->Blk w2 g 9 (splice (splice cs i Y) k zs)->S1a g w w2->j1a G0a 1 9 w2 base (.slice (some ⟨g,0,none⟩) k c) (l.take i++l.drop (i+1))/\g0a (λj=>j=g) w w2):=λw2 zs hz h1 h2=>by
  have e1:(splice cs i Y).length=c:=by rw[length_splice _ _ _ (by rw[hYl,hcl];omega),hcl]
  refine⟨j1a.of_blk1 hb h1 ?_ hcm hlen2 (by omega) ?_,g0a.of_only h2⟩
  ·rw[length_splice _ _ _ (by rw[hz,e1];omega),e1]
  ·rw[hflat];have e2:(splice (splice cs i Y) k zs).take k=(splice cs i Y).take k:=by unfold splice;rw[List.take_append_of_le_length (by rw[List.length_take];have:=e1;unfold splice at this;omega),List.take_take,Nat.min_self]
   rw[e2];unfold splice;rw[<-List.append_assoc,List.take_left' (by rw[List.length_append,List.length_take,hYl,hcl];omega)]
 have HB0:=hI hB;have HL:=hI hcl;have HYL:=hI hYl;have F1:Hid (i+m<=cs.length):=by show _<=_;rw[hcl];omega
 have F2:Hid (k+1<=(splice cs i Y).length):=by show _<=_;rw[length_splice _ _ _ (by rw[hYl,hcl];omega),hcl];omega
 have one:∀v∈(Value.string ⟨#[]⟩).cells,v.oneCell'=true:=by decide
 subst hnk;have hmm:k+1-(i+1)=m:=by omega
 have hmm2:k-i=m:=hm.symm;have hck:¬c=k:=by omega
 have hc0:¬c=0:=by omega
 have hic:i<=c:=by omega
 have hne:¬(i:Int)=(i:Int)+1:=by omega
 have h01:(0:Int)<=(i:Int)+1:=by omega
 have htn:((i:Int)+1).toNat=i+1:=by omega
 have hil:(i:Int)<=(i:Int)+1:=by omega
 have hik:(i:Int)<=(k:Int):=by omega
 have hik1:(i:Int)+1<=(k:Int)+1:=by omega
 have hkk:(k:Int)<=(k:Int)+1:=by omega
 have hk1:k+1-k=1:=by omega
 have hkc:(k:Int)+1<=(c:Int):=by omega
 clear hB hcl htk ho hln hY hYl hflat hlen2 hm;by_cases hci:c=i+1
 ·obtain rfl:k=i:=by omega
  obtain rfl:m=0:=by omega
  obtain rfl:Y=[]:=List.eq_nil_of_length_eq_zero HYL.out;subst hci;go_enter Tryz.func197,Tryz.ntmps197;go_upto_region 5 with fail
  go_still_tail 6,(by kernel_rfl);change wpList _ _ _ _ _ w.drew
  go_wp2_with(first
   | (at_builtin;go_loud (refine wpList_append_room1 rfl (.tmp 22) (.tmp 25) 78 9 rfl Tryz.underlying78 H7a _ _ _ _ _ _ _ rfl rfl cs [] HB0.out.drew rfl (λj v h=>by cases h) (by omega) F1.out (λv h=>by cases h) him ?_);intro w1 B1 O1)
   | ((with_reducible show wpList _ _ _ (⟨none,.call _,_,_,_,_⟩::_) _ _);go_loud (refine F6a rfl (.tmp 31) 78 9 9 _ rfl Tryz.underlying78 v7b rfl one g k 1 _ _ rfl (λ_=>rfl) (splice cs k []) B1.out F2.out ?_);intro w2 zs Z2 B2 O2)
   | fail)
  go_ret;obtain⟨r1,r2⟩:=fin.out w2 zs Z2.out B2.out ⟨O2.out.os.trans O1.out.os,O2.out.tape.trans O1.out.tape,O2.out.output.trans O1.out.output,O2.out.size.trans O1.out.size,λj hj=>(O2.out.rest j hj).trans (O1.out.rest j hj)⟩;exact⟨rfl,r1,r2⟩
 ·go_enter Tryz.func197,Tryz.ntmps197;go_upto_region 5 with fail
  go_still_tail 6,(by kernel_rfl);change wpList _ _ _ _ _ w.drew
  go_wp2_with(first
   | (at_builtin;go_loud (refine wpList_append_room1 rfl (.tmp 22) (.tmp 25) 78 9 rfl Tryz.underlying78 H7a _ _ _ _ _ _ _ rfl rfl cs Y HB0.out.drew HYL.out (hYc.out _ HB0.out.drew) (by omega) F1.out hY1.out him ?_);intro w1 B1 O1)
   | ((with_reducible show wpList _ _ _ (⟨none,.call _,_,_,_,_⟩::_) _ _);go_loud (refine F6a rfl (.tmp 31) 78 9 9 _ rfl Tryz.underlying78 v7b rfl one g k 1 _ _ rfl (λ_=>rfl) (splice cs i Y) B1.out F2.out ?_);intro w2 zs Z2 B2 O2)
   | fail)
  go_ret;obtain⟨r1,r2⟩:=fin.out w2 zs Z2.out B2.out ⟨O2.out.os.trans O1.out.os,O2.out.tape.trans O1.out.tape,O2.out.output.trans O1.out.output,O2.out.size.trans O1.out.size,λj hj=>(O2.out.rest j hj).trans (O1.out.rest j hj)⟩;exact⟨rfl,r1,r2⟩
theorem Y1a{S:Nat->Prop}{w w':World}{p:Addr}(a:g0a S w w')(hp:¬S p.block)(hlt:p.block<w.heap.size):w'.cell? p=w.cell? p:=by unfold World.cell?;rw[a.rest p.block hlt hp]
theorem K9a(s:ByteArray)(w:World)(hs:s.size<=1048576):Calls Tryz.prog 90 #[.string s] w λe w'=>e=.returned (.string s)/\Below w.heap.size w w':=by have c1:=hI (Tryz.stringslite_Clone s w (by omega));go_enter Tryz.func90,Tryz.ntmps90;go_wp2_with fail;refine c1.out.mono ?_;rintro e w1 ⟨rfl,hb1⟩;go_wp2;go_ret;exact⟨rfl,hb1⟩
theorem g0a.of_turned{w w':World}{b:Nat}(h:w.mapTurned w' b):g0a (λj=>j=b) w w':=by have g:=h.grown;exact⟨g.os,g.tape,g.output,g.size,λj hj hs=>g.block j hj λe=>hs (by injection e)⟩
theorem I7a{α:Type}{f:α->List Value}{s:Nat}{e:TypeId}{w:World}{base m N:Nat}{v:Value}{xs:List α}{P:Program}{kt:TypeId}{R:Value->Option (DataW Unit×List MemPlace)}{D:DataW Unit}(h:j1a f s e w base v xs)(k:w.ownsMap P kt R m N D):v.ownBlock≠some m:=λhv=>by obtain⟨_,cs,hcs⟩:=h.block hv;obtain⟨es,clock,hm,_⟩:=k;rw[hm] at hcs;cases hcs
theorem J7a{α:Type}{f:α->List Value}{s:Nat}{e T:TypeId}{w:World}{base g:Nat}{v:Value}{xs:List α}{cs:List Value}(o:j1a f s e w base v xs)(h:Blk w g T cs)(hT:T≠e):v.ownBlock≠some g:=λhv=>by obtain⟨_,cs',hcs⟩:=o.block hv;rw[show w.heap[g]? = _ from h] at hcs;simp only[Option.some.injEq,Obj.cells.injEq] at hcs;exact hT hcs.2.1
theorem n4a{w:World}{g m N:Nat}{T:TypeId}{cs:List Value}{P:Program}{kt:TypeId}{R:Value->Option (DataW Unit×List MemPlace)}{D:DataW Unit}(h:Blk w g T cs)(k:w.ownsMap P kt R m N D):g≠m:=λe=>by obtain⟨es,clock,hm,_⟩:=k;rw[<-e,show w.heap[g]? = _ from h] at hm;cases hm
section
variable {P:Program} {w:World} {ops:Array Oper} {o:Oper} {a:Act} {Q:Exit->Act->World->Prop} {K:Act->World->Prop} {E:Prop}
theorem p0c(hg:o.guard=none)(m x v:Operand)(t:TypeId)(hop:o.op=Op.mapUpdate t m x v)(kt e:TypeId)(Kd:Maps.Keyed P kt)(ht:P.underlying t=some (.map kt e))(b n:Nat)(D:DataW Unit)
(hm:a.eval m=.map (some b))(hown:w.ownsMap P kt (plainElem P e) b n D)(hn:n<maxLen)(key val:Value)(kl:Lit)(d:DataW Unit)(hx:a.eval x=key)(hv:a.eval v=val)(hkey:keyOf P kt key=some kl)(hval:plainElem P e val=some (d,[]))
(hK:∀w',Hid (w'.ownsMap P kt (plainElem P e) b (n+1) (D.put kl d))->Hid (g0a (λj=>j=b) w w')->K (a.put o.dst undef) w') :
  if Region.wanted o (yielded ops a.tmps)=true then Oper.wp P o a w K Q else E:=by
 have hw:Region.wanted o (yielded ops a.tmps)=true:=by simp[Region.wanted,hg]
 rw[if_pos hw];obtain⟨w',hrun,r1,r2⟩:=hown.store Kd ht hn hkey hval;unfold Oper.wp;simp[execOp,hop,hm,hx,hv,hrun,Result.andThen];exact hK w' r1 (g0a.of_turned r2)
theorem q0c(hg:o.guard=none)(m x:Operand)(t kt:TypeId)(hop:o.op=Op.call { callee:=Callee.builtin Builtin.delete,args:=#[m,x],argTypes:=#[t,kt] })(e:TypeId)(Kd:Maps.Keyed P kt)(ht:P.underlying t=some (.map kt e))(b n:Nat)(D:DataW Unit)
(hm:a.eval m=.map (some b))(hown:w.ownsMap P kt (plainElem P e) b n D)(key:Value)(kl:Lit)(hx:a.eval x=key)(hkey:keyOf P kt key=some kl)
(hK:∀w',Hid (w'.ownsMap P kt (plainElem P e) b n (D.del kl))->Hid (g0a (λj=>j=b) w w')->K (a.put o.dst (.tuple #[])) w') :
  if Region.wanted o (yielded ops a.tmps)=true then Oper.wp P o a w K Q else E:=by
 have hw:Region.wanted o (yielded ops a.tmps)=true:=by simp[Region.wanted,hg]
 rw[if_pos hw];obtain⟨w',hrun,r1,r2⟩:=hown.drop Kd ht hkey o.type;unfold Oper.wp;simp[execOp,hop,resolve,invoke,builtin,hm,hx,hrun,Result.andThen];exact hK w' r1 (g0a.of_turned r2)
end
structure v5a (w:World) (base q m:Nat) (v:Value) (L':List I0a) (w':World) (v':Value) (D':DataW Unit):Prop where
 d:PDr w' base q v' m D' L'
 a:g0a (u7b q m v) w w'
 n:∀j,u7b q m v' j->u7b q m v j∨w.heap.size<=j
section
variable {w w3 w4 w5 w6 w7:World} {base q m:Nat} {v v':Value} {D D':DataW Unit} {L L':List I0a}
theorem PDr.turned(d:PDr w base q v m D L)(L3:Below w.heap.size w w3)(O4:j1a G0a 1 9 w4 base v' (dNm L'))(S4:g0a (λj=>v.ownBlock=some j) w3 w4)(N4:Z0a w3 v v')
(P5:g0a (λj=>j=q) w4 w5)(B5:Blk w5 q 138 [v',.map (some m)])(L6:Below w5.heap.size w5 w6){N:Nat}(M7:w7.ownsMap Tryz.prog 9 (plainElem Tryz.prog 3) m N D')(S7:g0a (λj=>j=m) w6 w7)
(hi:G9a D' L')(ok:Dok L')(hl:L'.length<=4096)(ht:∀x∈L',x.1.size<=1048576):v5a w base q m v L' w7 v' D':=by
 have d3:=d.below L3;have hvq:v.ownBlock≠some q:=J7a d3.row d3.blk (by decide);have hvm:v.ownBlock≠some m:=I7a d3.row d3.map;have b4:=d3.blk.spare S4 hvq;have m4:w4.ownsMap Tryz.prog 9 (plainElem Tryz.prog 3) m L.length D:=F1a d3.map (S4.rest m d3.map.lt hvm);have hvq':v'.ownBlock≠some q:=J7a O4 b4 (by decide);have hvm':v'.ownBlock≠some m:=I7a O4 m4;have hqm:q≠m:=n4a d.blk d.map;have O5:=O4.sparS P5 λi hi e=>hvq' (by rw[hi,e])
 have O6:=O5.below L6;have O7:=O6.sparS S7 λi hi e=>hvm' (by rw[hi,e])
 have B7:=(B5.over L6).spare S7 hqm;have M7':=I9a M7;rw[hi.size] at M7';refine⟨⟨d.ge,d.gem,B7,O7,hi,M7',ok,hl,ht⟩,?_,λj hj=>?_⟩
 ·have a1:=(g0a.of_over (u7b q m v) L3).trans (S4.mono (S':=u7b q m v) λj _ h=>.inr (.inr h)) λj _ h=>h
  have a2:=a1.trans (P5.mono (S':=u7b q m v) λj _ h=>.inl h) λj _ h=>h
  have a3:=a2.trans (g0a.of_over (u7b q m v) L6) λj _ h=>h
  exact a3.trans (S7.mono (S':=u7b q m v) λj _ h=>.inr (.inl h)) λj _ h=>h
 ·rcases hj with h | h | h
  ·exact .inl (.inl h)
  ·exact .inl (.inr (.inl h))
  ·rcases N4 j h with h1 | h1
   ·exact .inl (.inr (.inr h1))
   ·exact .inr (Nat.le_trans L3.size h1)
end
def e5a(w:World)(base q m:Nat)(v:Value)(L':List I0a)(r:Value)(e:Ending)(w':World):Prop:=e=.returned r/\∃v' D',v5a w base q m v L' w' v' D'
theorem Q2c(w:World)(base q:Nat)(v:Value)(m:Nat)(D:DataW Unit)(L:List I0a)(d:PDr w base q v m D L)(hb:base<=w.heap.size)(htb:F2a base w)(s:ByteArray)(hs:s.size<=1048576)(n:Int)(hn:K4c n)(hbad:J8a s=false)(hno:s5a L s=false)(hL:L.length<4096) :
  Calls Tryz.prog 164 #[.pointer (some ⟨q,0,none⟩),.string s,.int .i64 n] w (e5a w base q m v (Z1b L s n) (.tuple #[])):=by
 obtain⟨A,c,rfl⟩:=d.len;have k0:=d.c0;have k1:=d.c1;have hvq:Hid ((Value.slice A L.length c).ownBlock≠some q):=J7a d.row d.blk (by decide);have hvm:Hid ((Value.slice A L.length c).ownBlock≠some m):=I7a d.row d.map;have hqm:q≠m:=n4a d.blk d.map;have BQ:Hid (Blk w q 138 [.slice A L.length c,.map (some m)]):=d.blk;have HWF:Hid (plainElem Tryz.prog 3 (.int .i64 n)=some ((.lit (.int .i64 n):DataW Unit),[])):=plainElem_int Tryz.underlying3 (WalkArith.wf_i64 hn);have CP:Hid (∀w',Below w.heap.size w w'->Calls Tryz.prog 95 #[.pointer (some ⟨q,0,none⟩),.string s] w' λe w2=>e=.returned (.int .i64 (dPl L s:Nat))/\Below w'.heap.size w' w2):=λw' hb'=>J9a w' base q _ m D L (d.below hb') (Nat.le_trans hb hb'.size) (htb.next (hb'.mono hb)) s hs
 have CI0:Hid (∀w3,Below w.heap.size w w3->∀gv,w.heap.size<=gv->Blk w3 gv 9 [.string s]->Calls Tryz.prog 198 #[.slice A L.length c,.int .i64 (dPl L s:Nat),.slice (some ⟨gv,0,none⟩) 1 1] w3 (V8a w3 base (.slice A L.length c) (dNm L) (dPl L s) (dPl L s) s)):=λw3 L3 gv hgv V3=>
  Z5b w3 base A L.length c (dPl L s) gv (dNm L) s (d.below L3).row W9b Y6a (by omega) (Nat.le_trans hb L3.size) V3 λe=>by have:=d.row.lt e;omega
 have MP0:Hid (∀w3 w4 w5 w6,Below w.heap.size w w3->g0a (λj=>(Value.slice A L.length c).ownBlock=some j) w3 w4->g0a (λj=>j=q) w4 w5->Below w5.heap.size w5 w6->w6.ownsMap Tryz.prog 9 (plainElem Tryz.prog 3) m L.length D):=λw3 w4 w5 w6 a1 a2 a3 a4=>by have h3:=(d.below a1).map;have h4:=F1a h3 (a2.rest m h3.lt hvm.out);have h5:=F1a h4 (a3.rest m h4.lt λe=>hqm e.symm);exact F1a h5 (a4.block m h5.lt)
 have FIN:Hid (∀w3 w4 w5 w6 w7 v',Below w.heap.size w w3->j1a G0a 1 9 w4 base v' ((dNm L).take (dPl L s)++[s]++(dNm L).drop (dPl L s))->g0a (λj=>(Value.slice A L.length c).ownBlock=some j) w3 w4->Z0a w3 (.slice A L.length c) v'->g0a (λj=>j=q) w4 w5->Blk w5 q 138 [v',.map (some m)]->Below w5.heap.size w5 w6->
   w7.ownsMap Tryz.prog 9 (plainElem Tryz.prog 3) m (L.length+1) (D.put (E4a s) (.lit (.int .i64 n)))->g0a (λj=>j=m) w6 w7->e5a w base q m (.slice A L.length c) (Z1b L s n) (.tuple #[]) (.returned (.tuple #[])) w7):=λw3 w4 w5 w6 w7 v' a1 a2 a3 a4 a5 a6 a7 a8 a9=>by
  rw[<-p4c (n:=n) hno] at a2;exact⟨rfl,v',_,d.turned a1 a2 a3 a4 a5 a6 a7 a8 a9 (d.is.put hno) (d.ok.put hbad hno) (by rw[i7b];omega) λx hx=>by
   rcases t5a.1 hx with rfl | hx
   ·exact hs
   ·exact d.text x hx⟩
 have TB:Hid (∀w3 w4 w5,Below w.heap.size w w3->g0a (λj=>(Value.slice A L.length c).ownBlock=some j) w3 w4->g0a (λj=>j=q) w4 w5->base<=w5.heap.size/\F2a base w5):=λw3 w4 w5 a1 a2 a3=>by have b1:Below base w w3:=a1.mono hb;have s3:=Nat.le_trans hb a1.size;have b2:Below base w3 w4:=a2.below (λj hj=>(d.row.block hj).1) s3;have s4:=Nat.le_trans s3 a2.size;have b3:Below base w4 w5:=a3.below (λj hj=>by rw[hj];exact d.ge) s4;exact⟨Nat.le_trans s4 a3.size,htb.next ((b1.trans b2).trans b3)⟩
 have hN:L.length<maxLen:=by unfold maxLen;omega
 obtain⟨l,hl⟩:∃l,l=L.length:=⟨_,rfl⟩;obtain⟨k,hk⟩:∃k,k=dPl L s:=⟨_,rfl⟩;obtain⟨X,hX⟩:∃X,X=dNm L:=⟨_,rfl⟩;obtain⟨L2,hL2⟩:∃L2,L2=Z1b L s n:=⟨_,rfl⟩;unfold V8a at CI0;rw[<-hL2] at FIN⊢;rw[<-hX,<-hk] at CI0 FIN;rw[<-hk] at CP;rw[<-hl] at k0 CI0 BQ hvq hvm MP0 FIN TB hN⊢;clear hL2 hX hk hl d hbad hno htb hb hL hn;go_enter Tryz.func164,Tryz.ntmps164;go_upto_region 0 with fail
 refine m1a 12 (λw'=>w'.cell? ⟨q,0,none⟩=some (.slice A l c)) (by kernel_rfl) ?_;change K2a _ _ _ _ _ _ _ _ _ w.drew
 have Sr0:Hid (w.drew.cell? ⟨q,0,none⟩=some (.slice A l c)):=k0;have br0:Hid (True):=trivial;have L0:Hid (Below w.heap.size w w.drew):=(Below.refl _ _).drew;refine c0a (i:=0) (v:=_) rfl (by kernel_rfl) (by kernel_rfl) (by kernel_rfl) (λ_ _ _ h=>h) rfl (by kernel_rfl) (by kernel_rfl) (by decide) (a0a (by kernel_rfl) (.tmp 0) rfl (.pointer (some ⟨q,0,none⟩)) (by kernel_rfl)) Sr0.out ?_;refine c0a (i:=1) (v:=_) rfl (by kernel_rfl) (by kernel_rfl) (by kernel_rfl) (λ_ _ _ h=>h) rfl (by kernel_rfl) (by kernel_rfl) (by decide) (a0a (by kernel_rfl) (.tmp 0) rfl (.pointer (some ⟨q,0,none⟩)) (by kernel_rfl)) Sr0.out ?_;refine c0a (i:=2) (v:=_) rfl (by kernel_rfl) (by kernel_rfl) (by kernel_rfl) (λ_ _ _ h=>h) rfl (by kernel_rfl) (by kernel_rfl) (by decide) (p0a (by kernel_rfl) (.tmp 7) rfl ⟨q,0,none⟩ (by kernel_rfl)) Sr0.out ?_;refine c0a (i:=3) (v:=_) rfl (by kernel_rfl) (by kernel_rfl) (by kernel_rfl) (λ_ _ _ h=>h) rfl (by kernel_rfl) (by kernel_rfl) (by decide) (e0a (by kernel_rfl) _ (.tmp 8) 0 rfl (.pointer (some ⟨q,0,none⟩)) (.pointer (some ⟨q,0,none⟩)) (by kernel_rfl) (λw=>by go_simp)) Sr0.out ?_;refine c0a (i:=4) (v:=_) rfl (by kernel_rfl) (by kernel_rfl) (by kernel_rfl) (λ_ _ _ h=>h) rfl (by kernel_rfl) (by kernel_rfl) (by decide) (b0a (by kernel_rfl) _ (.tmp 9) rfl q (0) (by kernel_rfl) (.slice A l c) (λ_ h=>h) _ Tryz.underlying78 rfl) Sr0.out ?_;refine c0a (i:=5) (v:=_) rfl (by kernel_rfl) (by kernel_rfl) (by kernel_rfl) (λ_ _ _ h=>h) rfl (by kernel_rfl) (by kernel_rfl) (by decide) (a0a (by kernel_rfl) (.tmp 0) rfl (.pointer (some ⟨q,0,none⟩)) (by kernel_rfl)) Sr0.out ?_;refine c0a (i:=6) (v:=_) rfl (by kernel_rfl) (by kernel_rfl) (by kernel_rfl) (λ_ _ _ h=>h) rfl (by kernel_rfl) (by kernel_rfl) (by decide) (a0a (by kernel_rfl) (.tmp 1) rfl (.string s) (by kernel_rfl)) Sr0.out ?_;refine c0a (i:=8) (v:=_) rfl (by kernel_rfl) (by kernel_rfl) (by kernel_rfl) (λ_ _ _ h=>h) rfl (by kernel_rfl) (by kernel_rfl) (by decide) (a0a (by kernel_rfl) (.tmp 1) rfl (.string s) (by kernel_rfl)) Sr0.out ?_;refine n0a 7 _ (by kernel_rfl) rfl λK hK=>?_
 go_simp;refine(CP.out _ L0.out).mono ?_;rintro e vr1 ⟨rfl,l1⟩;have Sr1:Hid (vr1.cell? ⟨q,0,none⟩=some (.slice A l c)):=(l1.cell (d0a Sr0.out)).trans Sr0.out;have br1:Hid (True):=trivial;have L1:=hI (L0.out.trans (l1.mono L0.out.size));refine hK _ _ (λ_=>Sr1.out) ?_;clear hK K;clear l1;refine n0a 9 _ (by kernel_rfl) rfl λK hK=>?_
 go_simp;refine(K9a s _ hs).mono ?_;rintro e vr2 ⟨rfl,l1⟩;have Sr2:Hid (vr2.cell? ⟨q,0,none⟩=some (.slice A l c)):=(l1.cell (d0a Sr1.out)).trans Sr1.out;have br2:Hid (True):=trivial;have L2:=hI (L1.out.trans (l1.mono L1.out.size));refine hK _ _ (λ_=>Sr2.out) ?_;clear hK K;clear l1;refine n0a 10 _ (by kernel_rfl) rfl λK hK=>?_
 refine b2a rfl _ _ _ _ rfl Tryz.underlying78 [.string s] (by kernel_rfl) ?_;intro gv w3 hgv hgv2 V3 l3;have L3:=hI (L2.out.trans (l3.out.mono L2.out.size));have Sr3:Hid (w3.cell? ⟨q,0,none⟩=some (.slice A l c)):=(l3.out.cell (d0a Sr2.out)).trans Sr2.out;have CI:=hI (CI0.out w3 L3.out gv (Nat.le_trans L2.out.size hgv) V3.out);clear l3;refine hK _ _ (λ_=>Sr3.out) ?_;clear hK K;refine n0a 11 _ (by kernel_rfl) rfl λK hK=>?_
 go_simp;refine(CI.out).mono ?_;rintro e vr4 ⟨v',rfl,o4,s4,n4⟩;have Sr4:Hid (vr4.cell? ⟨q,0,none⟩=some (.slice A l c)):=(Y1a s4 hvq.out (d0a Sr3.out)).trans Sr3.out;have br4:Hid (True):=trivial;have O4:=hI o4;have S4:=hI s4;have N4:=hI n4;clear o4 s4 n4;refine hK _ _ (λ_=>Sr4.out) ?_;clear hK K;refine n0a 12 _ (by kernel_rfl) rfl λK hK=>?_
 go_simp;refine hK _ _ (λh=>Bool.noConfusion (show true=false from h)) ?_;clear hK K;refine n0a 13 _ (by kernel_rfl) rfl λK hK=>?_
 go_simp;refine hK _ _ (λh=>Bool.noConfusion (show true=false from h)) ?_;clear hK K;refine Q1a λa1 ha1=>?_
 have e1_19:a1.eval (.tmp 19)=.pointer (some ⟨q,0,none⟩):=by rw[ha1];kernel_rfl
 have e1_17:a1.eval (.tmp 17)=v':=by rw[ha1];kernel_rfl
 refine n0a 14 _ (by kernel_rfl) rfl λK hK=>?_
 have BQ4:Hid (Blk vr4 q 138 [.slice A l c,.map (some m)]):=(BQ.out.below L3.out BQ.out.lt).spare S4.out hvq.out;refine B1a (by kernel_rfl) 78 (.tmp 19) (.tmp 17) (by kernel_rfl) q 0 e1_19 138 [.slice A l c,.map (some m)] v' e1_17 BQ4 (show 0<2 by omega) (by kernel_rfl) O4.out.oneCD ?_;intro w5 BQ5 P5 hq5;refine hK _ _ (λh=>Bool.noConfusion (show true=false from h)) ?_;clear hK K;rw[ha1];refine K1a (by kernel_rfl) ?_ _;have k1:w5.cell? ⟨q,1,none⟩=some (.map (some m)):=BQ5.out.cell 1;have q5:Hid (g0a (λj=>j=q) vr4 w5):=g0a.of_only P5.out;obtain⟨hb5,tb5⟩:=TB.out w3 vr4 w5 L3.out S4.out q5.out;have TB5:=hI tb5;have MP5:Hid (∀w6,Below w5.heap.size w5 w6->w6.ownsMap Tryz.prog 9 (plainElem Tryz.prog 3) m l D):=λw6 h=>MP0.out w3 vr4 w5 w6 L3.out S4.out q5.out h
 clear tb5;go_upto_region 1 with fail
 refine wp_region_held (S:=λw'=>w'.cell? ⟨q,1,none⟩=some (.map (some m))) (by kernel_rfl) ?_;change wpAnyH _ _ _ _ _ _ _ _ w5.drew
 have Ss0:Hid (w5.drew.cell? ⟨q,1,none⟩=some (.map (some m))):=k1;have bs0:Hid (Below w5.heap.size w5 w5.drew):=(Below.refl _ _).drew;refine tK 0 _ rfl (a0a (by kernel_rfl) (.tmp 0) rfl (.pointer (some ⟨q,0,none⟩)) (by kernel_rfl)) Ss0.out ?_;refine tK 1 _ rfl (p0a (by kernel_rfl) (.tmp 20) rfl ⟨q,0,none⟩ (by kernel_rfl)) Ss0.out ?_;refine tK 2 _ rfl (e0a (by kernel_rfl) _ (.tmp 21) 1 rfl (.pointer (some ⟨q,0,none⟩)) (.pointer (some ⟨q,1,none⟩)) (by kernel_rfl) (λw=>by go_simp)) Ss0.out ?_;refine tK 3 _ rfl (b0a (by kernel_rfl) _ (.tmp 22) rfl q (1) (by kernel_rfl) (.map (some m)) (λ_ h=>h) _ Tryz.underlying136 rfl) Ss0.out ?_;refine tK 4 _ rfl (a0a (by kernel_rfl) (.tmp 1) rfl (.string s) (by kernel_rfl)) Ss0.out ?_;refine tK 6 _ rfl (a0a (by kernel_rfl) (.tmp 2) rfl (.int .i64 n) (by kernel_rfl)) Ss0.out ?_;refine oN 5 _ rfl λK hK=>?_
 go_simp;refine(U8a s _ hs (TB5.out.at bs0.out hb5)).mono ?_;rintro e vs1 ⟨rfl,l1⟩;have Ss1:Hid (vs1.cell? ⟨q,1,none⟩=some (.map (some m))):=(l1.cell (d0a Ss0.out)).trans Ss0.out;have bs1:Hid (Below w5.heap.size w5 vs1):=Below.trans bs0.out (l1.mono (Below.size bs0.out));refine hK _ _ Ss1.out ?_;clear hK K l1;refine oN 7 _ rfl λK hK=>?_
 refine p0c (by kernel_rfl) (.tmp 23) (.tmp 25) (.tmp 26) 136 (by kernel_rfl) 9 3 c7a Tryz.underlying136 m l D (by kernel_rfl) (MP5.out _ bs1.out) hN (.string (g1b s)) (.int .i64 n) (E4a s) (.lit (.int .i64 n)) (by kernel_rfl) (by kernel_rfl) (h1b hs) HWF.out ?_;intro w7 M7 S7;have Ss2:Hid (w7.cell? ⟨q,1,none⟩=some (.map (some m))):=(Y1a S7.out (λe=>hqm e) (d0a Ss1.out)).trans Ss1.out;refine hK _ _ Ss2.out ?_;clear hK K;refine dN ?_;go_wp2_with fail;go_end0;exact FIN.out w3 vr4 w5 _ w7 v' L3.out O4.out S4.out N4.out q5.out BQ5.out bs1.out M7.out S7.out
theorem r0c(w:World)(base q:Nat)(v:Value)(m:Nat)(D:DataW Unit)(L:List I0a)(d:PDr w base q v m D L)(hb:base<=w.heap.size)(htb:F2a base w)(s:ByteArray)(hs:s.size<=1048576)(he:O1a L s=0) :
  Calls Tryz.prog 163 #[.pointer (some ⟨q,0,none⟩),.string s] w (e5a w base q m v (n0b L s) (.tuple #[])):=by
 have hlt:=b0c d.ok he;have hsm:=d.small;obtain⟨l,hl⟩:∃l,L.length=l+1:=⟨L.length-1,by omega⟩;obtain⟨g,c,rfl⟩:=d.row.form (by rw[Y6a];omega);have hdl:(dNm L).length=l+1:=by rw[Y6a,hl]
 rw[hdl] at d⊢;have k0:=d.c0;have k1:=d.c1;have hgq:Hid (¬q=g):=λe=>J7a d.row d.blk (by decide) (by rw[e];rfl)
 have hgm:Hid (¬m=g):=λe=>I7a d.row d.map (by rw[e];rfl)
 have hqm:q≠m:=n4a d.blk d.map;have BQ:Hid (Blk w q 138 [.slice (some ⟨g,0,none⟩) (l+1) c,.map (some m)]):=d.blk;have CP:Hid (∀w',Below w.heap.size w w'->Calls Tryz.prog 95 #[.pointer (some ⟨q,0,none⟩),.string s] w' λe w2=>e=.returned (.int .i64 (dPl L s:Nat))/\Below w'.heap.size w' w2):=λw' hb'=>J9a w' base q _ m D L (d.below hb') (Nat.le_trans hb hb'.size) (htb.next (hb'.mono hb)) s hs
 have CD:Hid (∀w3,Below w.heap.size w w3->Calls Tryz.prog 197 #[.slice (some ⟨g,0,none⟩) (l+1) c,.int .i64 (dPl L s:Nat),.int .i64 ((dPl L s:Int)+1)] w3 λe w'=>e=.returned (.slice (some ⟨g,0,none⟩) l c)/\j1a G0a 1 9 w' base (.slice (some ⟨g,0,none⟩) l c) ((dNm L).take (dPl L s)++(dNm L).drop (dPl L s+1))/\g0a (λj=>j=g) w3 w'):=λw3 L3=>
  a6b w3 base g (l+1) c (dPl L s) l (dNm L) (d.below L3).row rfl (by omega) (by omega)
 have MP0:Hid (∀w3 w4 w5 w6,Below w.heap.size w w3->g0a (λj=>j=g) w3 w4->g0a (λj=>j=q) w4 w5->Below w5.heap.size w5 w6->w6.ownsMap Tryz.prog 9 (plainElem Tryz.prog 3) m (l+1) D):=λw3 w4 w5 w6 a1 a2 a3 a4=>by have h3:=(d.below a1).map;rw[hl] at h3;have h4:=F1a h3 (a2.rest m h3.lt hgm.out);have h5:=F1a h4 (a3.rest m h4.lt λe=>hqm e.symm);exact F1a h5 (a4.block m h5.lt)
 have FIN:Hid (∀w3 w4 w5 w6 w7,Below w.heap.size w w3->j1a G0a 1 9 w4 base (.slice (some ⟨g,0,none⟩) l c) ((dNm L).take (dPl L s)++(dNm L).drop (dPl L s+1))->g0a (λj=>j=g) w3 w4->g0a (λj=>j=q) w4 w5->Blk w5 q 138 [.slice (some ⟨g,0,none⟩) l c,.map (some m)]->Below w5.heap.size w5 w6->
   w7.ownsMap Tryz.prog 9 (plainElem Tryz.prog 3) m (l+1) (D.del (E4a s))->g0a (λj=>j=m) w6 w7->e5a w base q m (.slice (some ⟨g,0,none⟩) (l+1) c) (n0b L s) (.tuple #[]) (.returned (.tuple #[])) w7):=λw3 w4 w5 w6 w7 a1 a2 a3 a5 a6 a7 a8 a9=>by
  rw[<-q4c d.ok he] at a2;exact⟨rfl,_,_,d.turned a1 a2 (a3.mono λj _ h=>by rw[h];rfl) (λj h=>.inl h) a5 a6 a7 a8 a9 (d.is.del d.ok he) d.ok.rem (by have:=j7b he;omega) λx hx=>d.text x ((M8a d.ok).1 hx).1⟩
 have TB:Hid (∀w3 w4 w5,Below w.heap.size w w3->g0a (λj=>j=g) w3 w4->g0a (λj=>j=q) w4 w5->base<=w5.heap.size/\F2a base w5):=λw3 w4 w5 a1 a2 a3=>by have b1:Below base w w3:=a1.mono hb;have s3:=Nat.le_trans hb a1.size;have hgb:base<=g:=(d.row.block rfl).1;have b2:Below base w3 w4:=a2.below (λj hj=>by rw[hj];exact hgb) s3;have s4:=Nat.le_trans s3 a2.size;have b3:Below base w4 w5:=a3.below (λj hj=>by rw[hj];exact d.ge) s4;exact⟨Nat.le_trans s4 a3.size,htb.next ((b1.trans b2).trans b3)⟩
 obtain⟨i,hi⟩:∃i,i=dPl L s:=⟨_,rfl⟩;obtain⟨X,hX⟩:∃X,X=dNm L:=⟨_,rfl⟩;obtain⟨L2,hL2⟩:∃L2,L2=n0b L s:=⟨_,rfl⟩;rw[<-hL2] at FIN⊢;rw[<-hX,<-hi] at CD FIN;rw[<-hi] at CP hlt;have hadd:IntKind.i64.wrap ((i:Int)+1)=(i:Int)+1:=by rw[IntKind.wrap_i64];omega
 clear hL2 hX hi hl hdl d htb hb he;go_enter Tryz.func163,Tryz.ntmps163;go_wp2_with fail;refine(CP.out _ (Below.refl _ _)).mono ?_;rintro e w3 ⟨rfl,l3⟩;have L3:=hI l3;have k03:w3.cell? ⟨q,0,none⟩=some (.slice (some ⟨g,0,none⟩) (l+1) c):=(L3.out.cell (d0a k0)).trans k0;clear l3 CP k0;go_wp2_with fail;refine(CD.out _ L3.out).mono ?_;rintro e w4 ⟨rfl,o4,s4⟩;have O4:=hI o4;have S4:=hI s4;have BQ4:Hid (Blk w4 q 138 [.slice (some ⟨g,0,none⟩) (l+1) c,.map (some m)]):=(BQ.out.below L3.out BQ.out.lt).spare S4.out hgq.out;clear o4 s4 CD k03;go_upto_region 2 with(first
  | ((with_reducible show wpList _ _ _ (⟨none,.store _ _ _,_,_,_,_⟩::_) _ _);go_loud (refine q0a rfl 78 (.tmp 18) (.tmp 16) rfl q 0 rfl 138 [.slice (some ⟨g,0,none⟩) (l+1) c,.map (some m)] (.slice (some ⟨g,0,none⟩) l c) rfl BQ4 (show 0<2 by omega) (by kernel_rfl) rfl ?_);intro w5 BQ5 P5 hq5)
  | fail)
 have k1:w5.cell? ⟨q,1,none⟩=some (.map (some m)):=BQ5.out.cell 1;have q5:Hid (g0a (λj=>j=q) w4 w5):=g0a.of_only P5.out;obtain⟨hb5,tb5⟩:=TB.out w3 w4 w5 L3.out S4.out q5.out;have TB5:=hI tb5;have MP5:Hid (∀w6,Below w5.heap.size w5 w6->w6.ownsMap Tryz.prog 9 (plainElem Tryz.prog 3) m (l+1) D):=λw6 h=>MP0.out w3 w4 w5 w6 L3.out S4.out q5.out h
 clear tb5;refine wp_region_held (S:=λw'=>w'.cell? ⟨q,1,none⟩=some (.map (some m))) (by kernel_rfl) ?_;change wpAnyH _ _ _ _ _ _ _ _ w5.drew
 have Ss0:Hid (w5.drew.cell? ⟨q,1,none⟩=some (.map (some m))):=k1;have bs0:Hid (Below w5.heap.size w5 w5.drew):=(Below.refl _ _).drew;refine tK 0 _ rfl (a0a (by kernel_rfl) (.tmp 0) rfl (.pointer (some ⟨q,0,none⟩)) (by kernel_rfl)) Ss0.out ?_;refine tK 1 _ rfl (p0a (by kernel_rfl) (.tmp 19) rfl ⟨q,0,none⟩ (by kernel_rfl)) Ss0.out ?_;refine tK 2 _ rfl (e0a (by kernel_rfl) _ (.tmp 20) 1 rfl (.pointer (some ⟨q,0,none⟩)) (.pointer (some ⟨q,1,none⟩)) (by kernel_rfl) (λw=>by go_simp)) Ss0.out ?_;refine tK 3 _ rfl (b0a (by kernel_rfl) _ (.tmp 21) rfl q (1) (by kernel_rfl) (.map (some m)) (λ_ h=>h) _ Tryz.underlying136 rfl) Ss0.out ?_;refine tK 4 _ rfl (a0a (by kernel_rfl) (.tmp 1) rfl (.string s) (by kernel_rfl)) Ss0.out ?_;refine oN 5 _ rfl λK hK=>?_
 go_simp;refine(U8a s _ hs (TB5.out.at bs0.out hb5)).mono ?_;rintro e vs1 ⟨rfl,l1⟩;have Ss1:Hid (vs1.cell? ⟨q,1,none⟩=some (.map (some m))):=(l1.cell (d0a Ss0.out)).trans Ss0.out;have bs1:Hid (Below w5.heap.size w5 vs1):=Below.trans bs0.out (l1.mono (Below.size bs0.out));refine hK _ _ Ss1.out ?_;clear hK K l1;refine oN 6 _ rfl λK hK=>?_
 refine q0c (by kernel_rfl) (.tmp 22) (.tmp 24) 136 9 (by kernel_rfl) 3 c7a Tryz.underlying136 m (l+1) D (by kernel_rfl) (MP5.out _ bs1.out) (.string (g1b s)) (E4a s) (by kernel_rfl) (h1b hs) ?_;intro w7 M7 S7;have Ss2:Hid (w7.cell? ⟨q,1,none⟩=some (.map (some m))):=(Y1a S7.out (λe=>hqm e) (d0a Ss1.out)).trans Ss1.out;refine hK _ _ Ss2.out ?_;clear hK K;refine dN ?_;go_wp2_with fail;go_end0;exact FIN.out w3 w4 w5 _ w7 L3.out O4.out S4.out q5.out BQ5.out bs1.out M7.out S7.out
structure L4c where
 act:Int
 pos:Int
 num:Int
 row:f6a
deriving Inhabited
def w7b(a:L4c):List Value:=[.int .i64 a.act,.int .i64 a.pos,.int .i64 a.num,o3a a.row]
def I64(x:Int):Prop:=-9223372036854775808<=x/\x<=9223372036854775807
structure E4b (w:World) (B:Nat) (a:L4c):Prop where
 act:I64 a.act
 pos:I64 a.pos
 num:I64 a.num
 row:Holds w B a.row.1 a.row.2.1 a.row.2.2.1 a.row.2.2.2
 cap:a.row.2.2.1<=140737488351232
theorem E4b.below{w w':World}{B:Nat}{a:L4c}(h:E4b w B a)(hb:Below B w w'):E4b w' B a:=⟨h.act,h.pos,h.num,h.row.below hb,h.cap⟩
theorem E4b.mono{w:World}{B B':Nat}{a:L4c}(h:E4b w B a)(hB:B<=B'):E4b w B' a:=⟨h.act,h.pos,h.num,h.row.mono hB,h.cap⟩
structure E5b (w:World) (B:Nat) (A:Option Addr) (n c:Nat) (l:List L4c):Prop where
 row:L0a w7b 4 w B A n c l
 each:∀x∈l,E4b w B x
section
variable {w w':World} {B B':Nat} {A:Option Addr} {n c:Nat} {l:List L4c}
theorem E5b.below(h:E5b w B A n c l)(hb:Below B w w'):E5b w' B A n c l:=⟨h.row.below hb,λx hx=>(h.each x hx).below hb⟩
theorem E5b.mono(h:E5b w B A n c l)(hB:B<=B'):E5b w B' A n c l:=⟨h.row.mono hB,λx hx=>(h.each x hx).mono hB⟩
theorem E5b.over(h:E5b w w.heap.size A n c l)(hb:Below w.heap.size w w'):E5b w' w'.heap.size A n c l:=(h.below hb).mono hb.size
theorem E5b.len(h:E5b w B A n c l):l.length=n:=h.row.len
theorem E5b.head(h:E5b w B A c c l)(hn:n<=c):E5b w B A n c (l.take n):=⟨h.row.head hn,λx hx=>h.each x (List.mem_of_mem_take hx)⟩
theorem E5b.at(h:E5b w B A n c l){i:Nat}(hi:i<n):∃b off x,A=some ⟨b,off,none⟩/\b<B/\l[i]? = some x/\E4b w B x/\w.rangeAt b (off+i*4) (w7b x):=by obtain⟨b,off,e,hb,hc⟩:=h.row.cells (by omega);have hl:=h.row.len;have hx:l[i]? = some l[i]:=List.getElem?_eq_getElem (by omega);exact⟨b,off,l[i],e,hb,hx,h.each _ (List.getElem_mem _),h.row.range e hi hx⟩
end
section
variable {H:Type} {enc:TypeId×Value->H} {W:World} {base:Nat} {v:Value} {d:DataW H} {p:List MemPlace}
end
abbrev O2a:=Nat×f6a
def t0a(x:O2a):List Value:=[.int .i64 (x.1:Int),o3a x.2]
theorem D0a(x:O2a):(t0a x).length=2:=rfl
theorem U3a(x:O2a):∀u∈t0a x,u.oneCell'=true:=by intro u hu;simp only[t0a,List.mem_cons,List.not_mem_nil,or_false] at hu;rcases hu with rfl | rfl<;>rfl
def g4a(l:List O2a):List (Nat×List Int):=l.map λx=>(x.1,x.2.2.2.2)
structure U1b (w:World) (B:Nat) (A:Option Addr) (n c:Nat) (l:List O2a):Prop where
 row:L0a t0a 2 w B A n c l
 each:∀x∈l,Holds w B x.2.1 x.2.2.1 x.2.2.2.1 x.2.2.2.2
structure f4b (Z:Bool) (w:World) (base:Nat) (v:Value) (l:List O2a):Prop where
 row:j1a t0a 2 158 w base v l
 each:∀x∈l,V7a Z w base (o3a x.2) x.2.2.2.2/\Bytes x.2.2.2.2/\x.2.2.2.2.length<=140737488355328
 apart:l.Pairwise λx y=>∀i,(o3a x.2).ownBlock=some i->(o3a y.2).ownBlock≠some i
section
variable {Z:Bool} {w w':World} {B B' base base':Nat} {v:Value} {l:List O2a} {A:Option Addr} {n c:Nat} {S:Nat->Prop}
theorem U1b.below(h:U1b w B A n c l)(hb:Below B w w'):U1b w' B A n c l:=⟨h.row.below hb,λx hx=>(h.each x hx).below hb⟩
theorem U1b.mono(h:U1b w B A n c l)(hB:B<=B'):U1b w B' A n c l:=⟨h.row.mono hB,λx hx=>(h.each x hx).mono hB⟩
theorem U1b.over(h:U1b w w.heap.size A n c l)(hb:Below w.heap.size w w'):U1b w' w'.heap.size A n c l:=(h.below hb).mono hb.size
theorem U1b.drewN(h:U1b w B A n c l)(k:Nat):U1b (w.drewN k) B A n c l:=⟨h.row.drewN k,λx hx=>(h.each x hx).drewN k⟩
theorem U1b.len(h:U1b w B A n c l):l.length=n:=h.row.len
theorem U1b.at(h:U1b w B A n c l){i:Nat}(hi:i<n):∃b off x,A=some ⟨b,off,none⟩/\b<B/\l[i]? = some x/\w.cell? ⟨b,off+i*2,none⟩=some (.int .i64 (x.1:Int))/\w.cell? ⟨b,off+i*2+1,none⟩=some (o3a x.2)/\Holds w B x.2.1 x.2.2.1 x.2.2.2.1 x.2.2.2.2:=by obtain⟨b,off,e,hb,hc⟩:=h.row.cells (by omega);have hl:=h.row.len;have hx:l[i]? = some l[i]:=List.getElem?_eq_getElem (by omega);exact⟨b,off,l[i],e,hb,hx,hc i _ hx 0 _ rfl,by rw[Nat.add_assoc];exact hc i _ hx 1 _ rfl,h.each _ (List.getElem_mem _)⟩
theorem f4b.nil(Z:Bool)(w:World)(base:Nat):f4b Z w base (.slice none 0 0) []:=⟨j1a.nil _ _ _ _ _,(λx h=>by cases h),List.Pairwise.nil⟩
theorem f4b.below(h:f4b Z w base v l)(hb:Below w.heap.size w w'):f4b Z w' base v l:=⟨h.row.below hb,λx hx=>⟨(h.each x hx).1.below hb,(h.each x hx).2⟩,h.apart⟩
theorem f4b.mono(h:f4b Z w base v l)(hb:base'<=base):f4b Z w base' v l:=⟨h.row.mono hb,λx hx=>⟨(h.each x hx).1.mono hb,(h.each x hx).2⟩,h.apart⟩
theorem f4b.lst(h:f4b Z w base v l):∃A n c,v=.slice A n c/\U1b w w.heap.size A n c l:=by obtain⟨A,n,c,rfl,hh⟩:=h.row.holds (by decide) D0a;exact⟨A,n,c,rfl,hh,λx hx=>(h.each x hx).1.holds (h.each x hx).2.1 (h.each x hx).2.2⟩
theorem f4b.spare(h:f4b Z w base v l)(a:g0a S w w')(hv:∀i,v.ownBlock=some i->¬S i)(hp:∀x∈l,∀i,(o3a x.2).ownBlock=some i->¬S i):f4b Z w' base v l:=⟨h.row.keep λi _ hi hcs=>a.rest i (Array.getElem?_eq_some_iff.1 hcs).1 (hv i hi),λx hx=>⟨(h.each x hx).1.spare a (hp x hx),(h.each x hx).2⟩,h.apart⟩
end
theorem F4b(l:List O2a):(g4a l).length=l.length:=List.length_map _
theorem size_ext:(Tryz.prog.info? 158).map (·.size)=some 2:=by kernel_rfl
theorem H3b:(Tryz.prog.info? 158).map (λi=>(i.zero,i.size,i.bytes))=some (some (.agg #[.int .i64 0,.slice none 0 0]),2,32):=by kernel_rfl
section
variable {Z:Bool} {w w' w4 w5 w6:World} {base q n c:Nat} {v v' v5:Value} {l r:List O2a} {y y':O2a} {xs:List Int}
theorem f4b.off(h:f4b Z w base v l){x:O2a}(hx:x∈l){i:Nat}(hi:(o3a x.2).ownBlock=some i):v.ownBlock≠some i:=λhv=>by obtain⟨_,cs,h1⟩:=h.row.block hv;obtain⟨_,cs',h2⟩:=(h.each x hx).1.1.block hi;rw[h1] at h2;simp only[Option.some.injEq,Obj.cells.injEq] at h2;exact absurd h2.2.1 (by decide)
theorem f4b.push(h:f4b Z w base v l)(ho:j1a t0a 2 158 w' base v' (l++[y]))(a:g0a (λj=>v.ownBlock=some j) w w')(hy:y.2=(none,0,0,[])):f4b Z w' base v' (l++[y]):=by
 refine⟨ho,λx hx=>?_,?_⟩
 ·rcases List.mem_append.1 hx with hx | hx
  ·exact⟨(h.each x hx).1.spare a λi hi hv=>h.off hx hi hv,(h.each x hx).2⟩
  ·obtain rfl:=List.mem_singleton.1 hx;rw[hy];exact⟨.of_z (.inl ⟨rfl,rfl⟩) Z,(λ_ h=>by cases h),Nat.zero_le _⟩
 ·refine List.pairwise_append.2 ⟨h.apart,List.pairwise_singleton _ _,λx _ z hz i _ hzi=>?_⟩;obtain rfl:=List.mem_singleton.1 hz;rw[hy] at hzi;cases hzi
end
theorem Own.only{w w':World}{base g:Nat}{v:Value}{xs:List Int}(h:Own w base v xs)(hO:S1a g w w')(hg:g<base):Own w' base v xs:=by
 refine⟨h.1,?_⟩;rcases h.2 with h0 | ⟨q,cap,cur,rfl,h1,hq,rest⟩
 ·exact .inl h0
 ·exact .inr ⟨q,cap,cur,rfl,h1,(hO.rest q (by omega)).trans hq,rest⟩
def y4a(w:World)(lo hi:Nat)(v:Value):Prop:=v=.slice none 0 0∨∃(g n N:Nat) (zs:List Int),v=.slice (some ⟨g,0,none⟩) n N/\n<=N/\N<=maxLen/\zs.length=N/\lo<=g/\g<hi/\Row w g zs
theorem y4a.of{w:World}{lo b:Nat}{v:Value}{xs:List Int}(h:E5a .u8 5 w b v xs)(hl:lo<=b):y4a w lo w.heap.size v:=by
 rcases h with⟨rfl,_⟩ | ⟨g,m,rfl,hg,hm,hr⟩
 ·exact .inl rfl
 ·exact .inr ⟨g,_,_,_,rfl,by omega,hm,by simp,by omega,Row.lt hr,hr⟩
theorem y4a.over{w w':World}{lo hi:Nat}{v:Value}(h:y4a w lo hi v)(hb:Below w.heap.size w w'):y4a w' lo hi v:=by
 rcases h with rfl | ⟨g,n,N,zs,rfl,h1,h2,h3,h4,h5,hr⟩
 ·exact .inl rfl
 ·exact .inr ⟨g,n,N,zs,rfl,h1,h2,h3,h4,h5,hr.over hb⟩
theorem y4a.only{w w':World}{lo hi q:Nat}{v:Value}(h:y4a w lo hi v)(hO:S1a q w w')(hq:q<lo):y4a w' lo hi v:=by
 rcases h with rfl | ⟨g,n,N,zs,rfl,h1,h2,h3,h4,h5,hr⟩
 ·exact .inl rfl
 ·exact .inr ⟨g,n,N,zs,rfl,h1,h2,h3,h4,h5,hr.only hO (by omega)⟩
structure M4c (w:World) (base top:Nat) (A:Option Addr) (n c:Nat) (l:List O2a):Prop where
 lst:U1b w top A n c l
 row:∀x,A=some x->base<=x.block/\x.block<top
 each:∀x∈l,∀y,x.2.1=some y->base<=y.block/\y.block<top
 loose:∀x∈l,y4a w base top (o3a x.2)
theorem y4a.below{w w':World}{lo hi:Nat}{v:Value}(h:y4a w lo hi v)(hb:Below hi w w'):y4a w' lo hi v:=by
 rcases h with rfl | ⟨g,n,N,zs,rfl,h1,h2,h3,h4,h5,hr⟩
 ·exact .inl rfl
 ·exact .inr ⟨g,n,N,zs,rfl,h1,h2,h3,h4,h5,hr.below hb h5⟩
theorem M4c.below{w w':World}{base top n c:Nat}{A:Option Addr}{l:List O2a}(h:M4c w base top A n c l)(hb:Below top w w'):M4c w' base top A n c l:=⟨h.lst.below hb,h.row,h.each,λx hx=>(h.loose x hx).below hb⟩
def ptr(q:Nat):Value:=.pointer (some ⟨q,0,none⟩)
section
variable {w w':World} {b q g:Nat} {S S':Nat->Prop} {vB vZ vB' vZ':Value} {B B' C C':List Int} {Z Z' D D':List Bool}
end
structure DrI where
 tb:Nat->World->Prop
 tbNext:∀{b:Nat} {w w':World},tb b w->Below b w w'->tb b w'
 tbUp:∀{b b':Nat} {w:World},tb b w->b<=b'->tb b' w
 is:World->Nat->Nat->List I0a->(Nat->Prop)->Prop
 ge:∀{w:World} {b q:Nat} {L:List I0a} {S:Nat->Prop},is w b q L S->∀j,S j->b<=j/\j<w.heap.size
 ok:∀{w:World} {b q:Nat} {L:List I0a} {S:Nat->Prop},is w b q L S->Dok L/\L.length<=4096/\∀x∈L,x.1.size<=1048576
 keep:∀{w w':World} {b q:Nat} {L:List I0a} {S S':Nat->Prop},is w b q L S->g0a S' w w'->(∀j,S j->¬S' j)->is w' b q L S
 mono:∀{w:World} {b b' q:Nat} {L:List I0a} {S:Nat->Prop},is w b q L S->b'<=b->is w b' q L S
 new:∀{w:World} {b:Nat},tb b w->b<=w.heap.size->Calls Tryz.prog 120 #[] w λe w'=>∃q S,e=.returned (T1b q)/\is w' w.heap.size q [] S/\Below w.heap.size w w'
 len:∀{w:World} {b q:Nat} {L:List I0a} {S:Nat->Prop},is w b q L S->Calls Tryz.prog 73 #[T1b q] w λe w'=>e=.returned (.int .i64 (L.length:Nat))/\∃k,w.drewN k=w'
 find:∀{w:World} {b q:Nat} {L:List I0a} {S:Nat->Prop},is w b q L S->tb b w->b<=w.heap.size->∀{s:ByteArray},s.size<=1048576->Calls Tryz.prog 42 #[T1b q,.string s] w λe w'=>e=.returned (.tuple #[.int .i64 (T6a L s).2,.string (T6a L s).1,.int .i64 (O1a L s)])/\Below w.heap.size w w'
 add:∀{w:World} {b q:Nat} {L:List I0a} {S:Nat->Prop},is w b q L S->tb b w->b<=w.heap.size->∀{s:ByteArray} {n:Int},s.size<=1048576->K4c n->L.length<4096->Calls Tryz.prog 119 #[T1b q,.string s,.int .i64 n] w (G2c is w b q S (a2b L s) (d2c L s n))
 remove:∀{w:World} {b q:Nat} {L:List I0a} {S:Nat->Prop},is w b q L S->tb b w->b<=w.heap.size->∀{s:ByteArray},s.size<=1048576->Calls Tryz.prog 118 #[T1b q,.string s] w (G2c is w b q S (O1a L s) (n0b L s))
 list:∀{w:World} {b q:Nat} {L:List I0a} {S:Nat->Prop},is w b q L S->tb b w->b<=w.heap.size->∀{p a:ByteArray} {m:Int},p.size<=1048576->a.size<=1048576->K4c m->Calls Tryz.prog 54 #[T1b q,.string p,.string a,.int .i64 m] w (E6a w (s2b L p a m) (t2b L p a m) (B6a L p a m))
structure FiI where
 is:World->Nat->Nat->List Int->List Bool->(Nat->Prop)->Prop
 ge:∀{w:World} {b q:Nat} {B:List Int} {Z:List Bool} {S:Nat->Prop},is w b q B Z S->∀j,S j->b<=j/\j<w.heap.size
 okB:∀{w:World} {b q:Nat} {B:List Int} {Z:List Bool} {S:Nat->Prop},is w b q B Z S->B.length=Z.length/\B.length<=65536/\Bytes B
 keep:∀{w w':World} {b q:Nat} {B:List Int} {Z:List Bool} {S S':Nat->Prop},is w b q B Z S->g0a S' w w'->(∀j,S j->¬S' j)->is w' b q B Z S
 mono:∀{w:World} {b b' q:Nat} {B:List Int} {Z:List Bool} {S:Nat->Prop},is w b q B Z S->b'<=b->is w b' q B Z S
 new:∀w:World,Calls Tryz.prog 121 #[] w λe w'=>∃q S,e=.returned (ptr q)/\is w' w.heap.size q [] [] S/\Below w.heap.size w w'
 size:∀{w:World} {b q:Nat} {B:List Int} {Z:List Bool} {S:Nat->Prop},is w b q B Z S->Calls Tryz.prog 61 #[ptr q] w λe w'=>e=.returned (.int .i64 (B.length:Nat))/\∃k,w.drewN k=w'
 read:∀{w:World} {b q:Nat} {B:List Int} {Z:List Bool} {S:Nat->Prop},is w b q B Z S->∀{a k:Int},I64 a->I64 k->Calls Tryz.prog 63 #[ptr q,.int .i64 a,.int .i64 k] w λe w'=>∃v,e=.returned (.tuple #[v,.int .i64 (G4a B.length a k)])/\Own w' w.heap.size v (d0b B a k)/\y4a w' w.heap.size w'.heap.size v/\Below w.heap.size w w'
 write:∀{w:World} {b q:Nat} {B:List Int} {Z:List Bool} {S:Nat->Prop},is w b q B Z S->∀{a:Int} {A:Option Addr} {n c:Nat} {xs:List Int},I64 a->Holds w w.heap.size A n c xs->c<=140737488355328->(0<n->∀x,A=some x->¬S x.block)->b<=w.heap.size->
  Calls Tryz.prog 76 #[ptr q,.int .i64 a,.slice A n c] w λe w'=>e=.returned (.int .i64 (q3a a xs.length))/\∃S',is w' b q (Y3a 0 B a xs) (Y3a false Z a (List.replicate xs.length true)) S'/\g0a S w w'/\∀j,S' j->S j∨w.heap.size<=j
 cut:∀{w:World} {b q:Nat} {B:List Int} {Z:List Bool} {S:Nat->Prop},is w b q B Z S->∀{s:Int},I64 s->b<=w.heap.size->
  Calls Tryz.prog 78 #[ptr q,.int .i64 s] w λe w'=>e=.returned (.int .i64 (C2a s))/\∃S',is w' b q (T1a 0 B s) (T1a false Z s) S'/\g0a S w w'/\∀j,S' j->S j∨w.heap.size<=j
structure PN where
 g:Nat
 q:Nat
 S:Nat->Prop
abbrev VN:=k0a×PN
def d2b(y:VN):Value:=.pointer (if y.1.kind=1 then some ⟨y.2.q,0,none⟩ else none)
def p0b(y:VN):Value:=.pointer (if y.1.kind=2 then some ⟨y.2.q,0,none⟩ else none)
def k1b(y:VN):List Value:=[.int .u8 y.1.kind,.int .i64 y.1.par,V0a y.1.name,d2b y,p0b y]
def nums(M:List VN):List (Int×Nat):=M.map λy=>(y.1.n,y.2.g)
def g4b(v:Value):Option (DataW Unit×List MemPlace):=match v with
 | .pointer none=>some (.lit (.int .i64 (-1)),[])
 | .pointer (some a)=>if a=⟨a.block,0,none⟩ then some (.lit (.int .i64 (a.block:Nat)),[]) else none
 | _=>none
theorem s0c(g:Nat):g4b (R0a g)=some (.lit (.int .i64 (g:Nat)),[]):=by simp[g4b,R0a]
theorem I3b{v:Value}{g:Nat}{ps:List MemPlace}(h:g4b v=some (.lit (.int .i64 (g:Nat)),ps)):v=R0a g:=by
 unfold g4b at h;split at h
 ·simp only[Option.some.injEq,Prod.mk.injEq,DataW.lit.injEq,Lit.int.injEq] at h;omega
 ·split at h
  ·rename_i a ha;simp only[Option.some.injEq,Prod.mk.injEq,DataW.lit.injEq,Lit.int.injEq] at h;have:a.block=g:=by omega
   rw[ha,this];rfl
  ·cases h
 ·cases h
theorem t0c{v:Value}{ps:List MemPlace}(h:g4b v=some (.lit (.int .i64 (-1)),ps)):v=.pointer none:=by
 unfold g4b at h;split at h
 ·rfl
 ·split at h
  ·simp only[Option.some.injEq,Prod.mk.injEq,DataW.lit.injEq,Lit.int.injEq] at h;omega
  ·cases h
 ·cases h
theorem R2c{v:Value}{y:DataW Unit×List MemPlace}(h:g4b v=some y):∃c,v=Value.pointer c:=by
 unfold g4b at h;split at h
 ·exact⟨_,rfl⟩
 ·exact⟨_,rfl⟩
 ·cases h
structure x7b (D:DataW Unit) (N:List (Int×Nat)):Prop where
 tidy:Maps.Tidy D
 rise:N.Pairwise λp r=>p.1<r.1
 has:∀n:Int,Maps.has D (.int .i64 n)=N.any λp=>decide (p.1=n)
 num:∀p∈N,∀z,D.atKey (.int .i64 p.1) z=.lit (.int .i64 (p.2:Nat))
 size:Maps.size D=N.length
theorem b5c(n:Int):WideAt.IsKeyLit (.int .i64 n):=trivial
theorem x7b.put{D:DataW Unit}{N:List (Int×Nat)}{n:Int}{g:Nat}(h:x7b D N)(hn:∀p∈N,p.1<n):x7b (D.put (.int .i64 n) (.lit (.int .i64 (g:Nat)))) (N++[(n,g)]):=by
 have hno:Maps.has D (.int .i64 n)=false:=by rw[h.has,List.any_eq_false];intro p hp e;have:=hn p hp;simp only[decide_eq_true_eq] at e;omega
 refine⟨h.tidy.put (b5c n) _,?_,λk=>?_,λp hp z=>?_,?_⟩
 ·exact List.pairwise_append.2 ⟨h.rise,List.pairwise_singleton _ _,λp hp r hr=>by rw[List.mem_singleton.1 hr];exact hn p hp⟩
 ·rw[List.any_append];by_cases hk:n=k
  ·subst hk;rw[Maps.has_put_same h.tidy.isMap (b5c n)];simp
  ·rw[Maps.has_put_other (λe=>hk (by injection e with _ e;exact e.symm)),h.has];simp[hk]
 ·rcases List.mem_append.1 hp with hp | hp
  ·have:=hn p hp;rw[Maps.atKey_put_other (λe=>by injection e with _ e;omega)];exact h.num p hp z
  ·rw[List.mem_singleton.1 hp];exact Maps.atKey_put_same h.tidy.isMap (b5c n) _ _
 ·rw[Maps.size_put h.tidy,if_neg (by rw[hno];decide),h.size,List.length_append];rfl
theorem x7b.del{D:DataW Unit}{N N':List (Int×Nat)}{n:Int}(h:x7b D N)(hs:N'.Sublist N)(hm:∀p,p∈N'↔p∈N/\p.1≠n)(hl:N'.length+1=N.length)(hn:∃p∈N,p.1=n):x7b (D.del (.int .i64 n)) N':=by
 refine⟨h.tidy.del _,h.rise.sublist hs,λk=>?_,λp hp z=>?_,?_⟩
 ·by_cases hk:n=k
  ·subst hk;rw[Maps.has_del_same];symm;rw[List.any_eq_false];intro p hp;simpa using((hm p).1 hp).2
  ·rw[Maps.has_del_other (λe=>hk (by injection e with _ e;exact e.symm)),h.has,Bool.eq_iff_iff,List.any_eq_true,List.any_eq_true];constructor
   ·rintro⟨p,hp,e⟩;refine⟨p,(hm p).2 ⟨hp,λe2=>?_⟩,e⟩;simp only[decide_eq_true_eq] at e;exact hk (e2.symm.trans e)
   ·rintro⟨p,hp,e⟩;exact⟨p,((hm p).1 hp).1,e⟩
 ·obtain⟨h1,h2⟩:=(hm p).1 hp;rw[Maps.atKey_del_other (λe=>h2 (by injection e with _ e))];exact h.num p h1 z
 ·have h1:=Maps.size_del h.tidy (k:=.int .i64 n);obtain⟨p,hp,e⟩:=hn;have h2:Maps.has D (.int .i64 n)=true:=by rw[h.has,List.any_eq_true];exact⟨p,hp,by simpa using e⟩
  rw[h2,h.size] at h1;simp at h1;omega
theorem u3a:Maps.Keyed Tryz.prog 3:=Maps.int_keyed Tryz.underlying3
theorem J3b(w:World):(zeroValue 81).run Tryz.prog w=.ok (.pointer none) w:=by kernel_rfl
theorem L9a{n:Int}(h:c2a n):keyOf Tryz.prog 3 (.int .i64 n)=some (.int .i64 n):=Maps.keyOf_int_mk Tryz.underlying3 (WalkArith.wf_i64 h)
abbrev q0b(w:World)(m N:Nat)(D:DataW Unit):Prop:=w.ownsMap Tryz.prog 3 g4b m N D
theorem q0b.look1{w:World}{m K:Nat}{D:DataW Unit}{N:List (Int×Nat)}{n:Int}{g:Nat}(h:q0b w m K D)(k:x7b D N)(hp:(n,g)∈N)(hn:c2a n):(Instr.lookup 69 (.map (some m)) (.int .i64 n) false).run Tryz.prog w=.ok (R0a g) w:=by obtain⟨u,ps,hrun,hu⟩:=World.ownsMap.lookup h u3a Tryz.underlying69 (J3b w) (zd:=.lit (.int .i64 (-1))) (zp:=[]) rfl (L9a hn);rw[k.num _ hp] at hu;rw[hrun,I3b hu]
theorem q0b.look2{w:World}{m K:Nat}{D:DataW Unit}{N:List (Int×Nat)}{n:Int}{g:Nat}(h:q0b w m K D)(k:x7b D N)(hp:(n,g)∈N)(hn:c2a n):(Instr.lookup 69 (.map (some m)) (.int .i64 n) true).run Tryz.prog w=.ok (.tuple #[R0a g,.bool true]) w:=by
 obtain⟨u,ps,hrun,hu⟩:=World.ownsMap.look_ok h u3a Tryz.underlying69 (J3b w) (zd:=.lit (.int .i64 (-1))) (zp:=[]) rfl (L9a hn);rw[k.num _ hp] at hu;have e:Maps.has D (.int .i64 n)=true:=by rw[k.has,List.any_eq_true];exact⟨_,hp,by simp⟩
 rw[hrun,I3b hu,e]
theorem q0b.look0{w:World}{m K:Nat}{D:DataW Unit}{N:List (Int×Nat)}{n:Int}(h:q0b w m K D)(k:x7b D N)(hp:∀p∈N,p.1≠n)(hn:c2a n):(Instr.lookup 69 (.map (some m)) (.int .i64 n) true).run Tryz.prog w=.ok (.tuple #[.pointer none,.bool false]) w:=by
 obtain⟨u,ps,hrun,hu⟩:=World.ownsMap.look_ok h u3a Tryz.underlying69 (J3b w) (zd:=.lit (.int .i64 (-1))) (zp:=[]) rfl (L9a hn);have e:Maps.has D (.int .i64 n)=false:=by rw[k.has,List.any_eq_false];intro p hq;simpa using hp p hq
 rw[Maps.atKey_of_not_has e] at hu;rw[hrun,t0c hu,e]
structure o2a (DI:DrI) (EI:FiI) (w:World) (base q m:Nat) (D:DataW Unit) (Q T:Int) (M:List VN) (R:List (Int×I0a)):Prop where
 ge:base<=q
 gm:base<=m
 blk:Blk w q 71 [.int .i64 Q,.map (some m),.int .i64 T]
 map:q0b w m M.length D
 is:x7b D (nums M)
 num:∀y∈M,1<=y.1.n/\y.1.n<=2097152
 kind:∀y∈M,y.1.kind=1∨y.1.kind=2
 node:∀y∈M,base<=y.2.g/\Blk w y.2.g 87 (k1b y)
 dirs:∀y∈M,y.1.kind=1->∃K,Kid R y.1.n K/\DI.is w base y.2.q K y.2.S
 files:∀y∈M,y.1.kind=2->EI.is w base y.2.q y.1.B y.1.Z y.2.S
 own:∀y∈M,∀j,y.2.S j->j≠q/\j≠m/\∀z∈M,j≠z.2.g
 apart:∀y∈M,∀z∈M,y.1.n≠z.1.n->y.2.g≠z.2.g/\∀j,y.2.S j->¬z.2.S j
def pvS(q m:Nat)(M:List VN):Nat->Prop:=λj=>j=q∨j=m∨∃y∈M,j=y.2.g∨y.2.S j
section
variable {DI:DrI} {EI:FiI} {w w':World} {base base' q m:Nat} {D D':DataW Unit} {Q T T':Int} {M:List VN} {R R':List (Int×I0a)} {S:Nat->Prop} {y y' z:VN}
theorem z4a(hy:y∈M):(y.1.n,y.2.g)∈nums M:=List.mem_map.2 ⟨y,hy,rfl⟩
theorem o2a.rise(h:o2a DI EI w base q m D Q T M R):M.Pairwise λy z=>y.1.n<z.1.n:=by have h1:=h.is.rise;unfold nums at h1;exact(List.pairwise_map (f:=λy:VN=>(y.1.n,y.2.g))).1 h1
theorem o2a.same(h:o2a DI EI w base q m D Q T M R)(hy:y∈M)(hz:z∈M)(e:y.1.n=z.1.n):y=z:=by
 obtain⟨i,hi,rfl⟩:=List.mem_iff_getElem.1 hy;obtain⟨j,hj,rfl⟩:=List.mem_iff_getElem.1 hz;rcases Nat.lt_trichotomy i j with h1 | h1 | h1
 ·have:=List.pairwise_iff_getElem.1 h.rise i j hi hj h1;omega
 ·subst h1;rfl
 ·have:=List.pairwise_iff_getElem.1 h.rise j i hj hi h1;omega
theorem o2a.obj(h:o2a DI EI w base q m D Q T M R)(hy:y∈M):∀j,y.2.S j->base<=j/\j<w.heap.size:=λj hj=>by
 rcases h.kind y hy with hk | hk
 ·obtain⟨K,_,d⟩:=h.dirs y hy hk;exact DI.ge d j hj
 ·exact EI.ge (h.files y hy hk) j hj
theorem o2a.lt(h:o2a DI EI w base q m D Q T M R):∀j,pvS q m M j->base<=j/\j<w.heap.size:=λj hj=>by
 rcases hj with rfl | rfl | ⟨y,hy,rfl | hj⟩
 ·exact⟨h.ge,h.blk.lt⟩
 ·exact⟨h.gm,World.ownsMap.lt h.map⟩
 ·exact⟨(h.node y hy).1,(h.node y hy).2.lt⟩
 ·exact h.obj hy j hj
theorem o2a.hb(h:o2a DI EI w base q m D Q T M R):base<=w.heap.size:=by have:=h.ge;have:=h.blk.lt;omega
theorem o2a.spare(h:o2a DI EI w base q m D Q T M R)(a:g0a S w w')(hs:∀j,pvS q m M j->¬S j):o2a DI EI w' base q m D Q T M R:=
 ⟨h.ge,h.gm,h.blk.spare a (hs q (.inl rfl)),F1a h.map (a.rest m (World.ownsMap.lt h.map) (hs m (.inr (.inl rfl)))),h.is,h.num,h.kind,
  λy hy=>⟨(h.node y hy).1,(h.node y hy).2.spare a (hs _ (.inr (.inr ⟨y,hy,.inl rfl⟩)))⟩,
  λy hy hk=>by obtain⟨K,k,d⟩:=h.dirs y hy hk;exact⟨K,k,DI.keep d a λj hj=>hs j (.inr (.inr ⟨y,hy,.inr hj⟩))⟩,
  λy hy hk=>EI.keep (h.files y hy hk) a λj hj=>hs j (.inr (.inr ⟨y,hy,.inr hj⟩)),h.own,h.apart⟩
theorem o2a.below(h:o2a DI EI w base q m D Q T M R)(hb:Below w.heap.size w w'):o2a DI EI w' base q m D Q T M R:=h.spare (g0a.of_over (λ_=>False) hb) λ_ _ h=>h
theorem o2a.mono(h:o2a DI EI w base q m D Q T M R)(hb:base'<=base):o2a DI EI w base' q m D Q T M R:=
 ⟨Nat.le_trans hb h.ge,Nat.le_trans hb h.gm,h.blk,h.map,h.is,h.num,h.kind,λy hy=>⟨Nat.le_trans hb (h.node y hy).1,(h.node y hy).2⟩,
  λy hy hk=>by obtain⟨K,k,d⟩:=h.dirs y hy hk;exact⟨K,k,DI.mono d hb⟩,λy hy hk=>EI.mono (h.files y hy hk) hb,h.own,h.apart⟩
theorem o2a.regs(h:o2a DI EI w base q m D Q T M R)(hR:∀d p,(d,p)∈R↔(d,p)∈R'):o2a DI EI w base q m D Q T M R':=
 ⟨h.ge,h.gm,h.blk,h.map,h.is,h.num,h.kind,h.node,λy hy hk=>by obtain⟨K,k,d⟩:=h.dirs y hy hk;exact⟨K,k.same (hR _),d⟩,h.files,h.own,h.apart⟩
theorem o2a.i64(h:o2a DI EI w base q m D Q T M R)(hy:y∈M):c2a y.1.n:=by have:=h.num y hy;unfold c2a;omega
theorem o2a.look1(h:o2a DI EI w base q m D Q T M R)(hy:y∈M):(Instr.lookup 69 (.map (some m)) (.int .i64 y.1.n) false).run Tryz.prog w=.ok (R0a y.2.g) w:=q0b.look1 h.map h.is (z4a hy) (h.i64 hy)
theorem o2a.look2(h:o2a DI EI w base q m D Q T M R)(hy:y∈M):(Instr.lookup 69 (.map (some m)) (.int .i64 y.1.n) true).run Tryz.prog w=.ok (.tuple #[R0a y.2.g,.bool true]) w:=q0b.look2 h.map h.is (z4a hy) (h.i64 hy)
theorem o2a.look0(h:o2a DI EI w base q m D Q T M R){n:Int}(hn:c2a n)(hno:∀y∈M,y.1.n≠n):(Instr.lookup 69 (.map (some m)) (.int .i64 n) true).run Tryz.prog w=.ok (.tuple #[.pointer none,.bool false]) w:=q0b.look0 h.map h.is (λp hp=>by obtain⟨y,hy,rfl⟩:=List.mem_map.1 hp;exact hno y hy) hn
theorem o2a.c0(h:o2a DI EI w base q m D Q T M R):w.cell? ⟨q,0,none⟩=some (.int .i64 Q):=h.blk.cell 0
theorem o2a.c1(h:o2a DI EI w base q m D Q T M R):w.cell? ⟨q,1,none⟩=some (.map (some m)):=h.blk.cell 1
theorem o2a.c2(h:o2a DI EI w base q m D Q T M R):w.cell? ⟨q,2,none⟩=some (.int .i64 T):=h.blk.cell 2
theorem o2a.n0(h:o2a DI EI w base q m D Q T M R)(hy:y∈M):w.cell? ⟨y.2.g,0,none⟩=some (.int .u8 y.1.kind):=(h.node y hy).2.cell 0
theorem o2a.n1(h:o2a DI EI w base q m D Q T M R)(hy:y∈M):w.cell? ⟨y.2.g,1,none⟩=some (.int .i64 y.1.par):=(h.node y hy).2.cell 1
theorem o2a.n2(h:o2a DI EI w base q m D Q T M R)(hy:y∈M):w.cell? ⟨y.2.g,2,none⟩=some (V0a y.1.name):=(h.node y hy).2.cell 2
theorem o2a.n3(h:o2a DI EI w base q m D Q T M R)(hy:y∈M):w.cell? ⟨y.2.g,3,none⟩=some (d2b y):=(h.node y hy).2.cell 3
theorem o2a.n4(h:o2a DI EI w base q m D Q T M R)(hy:y∈M):w.cell? ⟨y.2.g,4,none⟩=some (p0b y):=(h.node y hy).2.cell 4
theorem f5a(h:y.1.kind=1):d2b y=T1b y.2.q:=by unfold d2b T1b;rw[if_pos h]
theorem S2c(h:y.1.kind=2):d2b y=.pointer none:=by unfold d2b;rw[if_neg (by rw[h];decide)]
theorem C2b(h:y.1.kind=2):p0b y=ptr y.2.q:=by unfold p0b ptr;rw[if_pos h]
theorem T2c(h:y.1.kind=1):p0b y=.pointer none:=by unfold p0b;rw[if_neg (by rw[h];decide)]
def m3a(DI:DrI)(EI:FiI)(w:World)(base q m:Nat)(M0:List VN)(Q T:Int)(M:List VN)(R:List (Int×I0a))(w':World):Prop:=∃D,o2a DI EI w' base q m D Q T M R/\g0a (pvS q m M0) w w'/\∀j,pvS q m M j->pvS q m M0 j∨w.heap.size<=j
theorem m3a.refl(h:o2a DI EI w base q m D Q T M R)(hb:Below w.heap.size w w'):m3a DI EI w base q m M Q T M R w':=⟨D,h.below hb,g0a.of_over _ hb,λj hj=>.inl hj⟩
theorem m3a.trans{w1:World}{M1 M2:List VN}{Q1 T1 Q2 T2:Int}{R1 R2:List (Int×I0a)}(a:m3a DI EI w base q m M Q1 T1 M1 R1 w1)(b:m3a DI EI w1 base q m M1 Q2 T2 M2 R2 w'):m3a DI EI w base q m M Q2 T2 M2 R2 w':=by
 obtain⟨D1,p1,s1,n1⟩:=a;obtain⟨D2,p2,s2,n2⟩:=b;refine⟨D2,p2,s1.trans s2 λj hj h=>(n1 j h).resolve_right (by omega),λj hj=>?_⟩;rcases n2 j hj with h | h
 ·exact n1 j h
 ·exact .inr (Nat.le_trans s1.size h)
theorem m3a.regs(a:m3a DI EI w base q m M Q T M R w')(hR:∀d p,(d,p)∈R↔(d,p)∈R'):m3a DI EI w base q m M Q T M R' w':=by obtain⟨D1,p1,s1,n1⟩:=a;exact⟨D1,p1.regs hR,s1,n1⟩
theorem m3a.below{w2:World}{M':List VN}(a:m3a DI EI w base q m M Q T M' R w')(hb:Below w'.heap.size w' w2):m3a DI EI w base q m M Q T M' R w2:=by obtain⟨D1,p1,s1,n1⟩:=a;exact⟨D1,p1.below hb,s1.trans (g0a.of_over (λ_=>False) hb) λ_ _ h=>h.elim,n1⟩
theorem U2c(hy:y∈M):∀j,(j=y.2.g∨y.2.S j)->pvS q m M j:=λj hj=>.inr (.inr ⟨y,hy,hj⟩)
def G4b(M:List VN)(n:Int)(y':VN):List VN:=M.map λz=>if z.1.n=n then y' else z
theorem L3a{n:Int}(h:z∈G4b M n y'):z=y'∨z∈M/\z.1.n≠n:=by
 obtain⟨x,hx,e⟩:=List.mem_map.1 h;by_cases hn:x.1.n=n
 ·rw[if_pos hn] at e;exact .inl e.symm
 ·rw[if_neg hn] at e;exact .inr (e▸⟨hx,hn⟩)
theorem o2a.up(h:o2a DI EI w base q m D Q T M R)(hy:y∈M)(e1:y'.1.n=y.1.n)(e2:y'.1.kind=y.1.kind)(e3:y'.2.g=y.2.g)(a:g0a (λj=>j=y.2.g∨y.2.S j) w w')
(hB:Blk w' y.2.g 87 (k1b y'))(h1:y.1.kind=1->∃K,Kid R' y.1.n K/\DI.is w' base y'.2.q K y'.2.S)(h2:y.1.kind=2->EI.is w' base y'.2.q y'.1.B y'.1.Z y'.2.S)
(hS:∀j,y'.2.S j->y.2.S j∨w.heap.size<=j)(hR:∀d p,d≠y.1.n->((d,p)∈R↔(d,p)∈R')) :
  m3a DI EI w base q m M Q T (G4b M y.1.n y') R' w':=by
 have hN:nums (G4b M y.1.n y')=nums M:=by
  unfold nums G4b;rw[List.map_map];refine List.map_congr_left λz hz=>?_
  simp only[Function.comp];by_cases hn:z.1.n=y.1.n
  ·rw[if_pos hn,e1,e3,h.same hz hy hn]
  ·rw[if_neg hn]
 have hlen:(G4b M y.1.n y').length=M.length:=List.length_map _;have hin:y'∈G4b M y.1.n y':=List.mem_map.2 ⟨y,hy,if_pos rfl⟩;have hq:q≠y.2.g:=λe=>by have h3:=h.blk;rw[e] at h3;exact absurd (h3.typ.same (h.node y hy).2.typ) (by decide)
 have hm:m≠y.2.g:=λe=>n4a (h.node y hy).2 h.map e.symm
 have hsq:¬(q=y.2.g∨y.2.S q):=λe=>e.elim hq λe=>(h.own y hy q e).1 rfl
 have hsm:¬(m=y.2.g∨y.2.S m):=λe=>e.elim hm λe=>(h.own y hy m e).2.1 rfl
 have hoff:∀z∈M,z.1.n≠y.1.n->¬(z.2.g=y.2.g∨y.2.S z.2.g)/\∀j,z.2.S j->¬(j=y.2.g∨y.2.S j):=λz hz hn=>⟨λe=>e.elim (h.apart z hz y hy hn).1 λe=>(h.own y hy _ e).2.2 z hz rfl,λj hj e=>e.elim (λe=>(h.own z hz j hj).2.2 y hy e) λe=>(h.apart z hz y hy hn).2 j hj e⟩
 refine⟨D,⟨h.ge,h.gm,h.blk.spare a hsq,?_,?_,?_,?_,?_,?_,?_,?_,?_⟩,a.mono λj _ hj=>U2c hy j hj,?_⟩
 ·rw[hlen];exact F1a h.map (a.rest m (World.ownsMap.lt h.map) hsm)
 ·rw[hN];exact h.is
 ·intro z hz;rcases L3a hz with rfl | ⟨hz,hn⟩
  ·rw[e1];exact h.num y hy
  ·exact h.num z hz
 ·intro z hz;rcases L3a hz with rfl | ⟨hz,hn⟩
  ·rw[e2];exact h.kind y hy
  ·exact h.kind z hz
 ·intro z hz;rcases L3a hz with rfl | ⟨hz,hn⟩
  ·rw[e3];exact⟨(h.node y hy).1,hB⟩
  ·exact⟨(h.node z hz).1,(h.node z hz).2.spare a (hoff z hz hn).1⟩
 ·intro z hz hk;rcases L3a hz with rfl | ⟨hz,hn⟩
  ·rw[e1];exact h1 (e2▸hk)
  ·obtain⟨K,k,d⟩:=h.dirs z hz hk;exact⟨K,k.same λp=>hR _ p hn,DI.keep d a (hoff z hz hn).2⟩
 ·intro z hz hk;rcases L3a hz with rfl | ⟨hz,hn⟩
  ·exact h2 (e2▸hk)
  ·exact EI.keep (h.files z hz hk) a (hoff z hz hn).2
 ·intro z hz j hj;have hg:∀x∈G4b M y.1.n y',∃x'∈M,x.2.g=x'.2.g:=λx hx=>by
   rcases L3a hx with rfl | ⟨hx,_⟩
   ·exact⟨y,hy,e3⟩
   ·exact⟨x,hx,rfl⟩
  have key:j≠q/\j≠m/\∀x∈M,j≠x.2.g:=by
   rcases L3a hz with rfl | ⟨hz,hn⟩
   ·rcases hS j hj with hj | hj
    ·exact h.own y hy j hj
    ·refine⟨λe=>?_,λe=>?_,λx hx e=>?_⟩
     ·have:=h.blk.lt;omega
     ·have:=World.ownsMap.lt h.map;omega
     ·have:=(h.node x hx).2.lt;omega
   ·exact h.own z hz j hj
  refine⟨key.1,key.2.1,λx hx=>?_⟩;obtain⟨x',hx',e⟩:=hg x hx;rw[e];exact key.2.2 x' hx'
 ·have hcl:∀x∈G4b M y.1.n y',∃x'∈M,x.1.n=x'.1.n/\x.2.g=x'.2.g/\∀j,x.2.S j->x'.2.S j∨w.heap.size<=j:=λx hx=>by
   rcases L3a hx with rfl | ⟨hx,_⟩
   ·exact⟨y,hy,e1,e3,hS⟩
   ·exact⟨x,hx,rfl,rfl,λj hj=>.inl hj⟩
  intro z hz x hx hne;obtain⟨z',hz',a1,a2,a3⟩:=hcl z hz;obtain⟨x',hx',b1,b2,b3⟩:=hcl x hx;have hne':z'.1.n≠x'.1.n:=by rw[<-a1,<-b1];exact hne
  refine⟨by rw[a2,b2];exact(h.apart z' hz' x' hx' hne').1,λj hj hj'=>?_⟩;rcases L3a hz with rfl | ⟨hzM,hn⟩
  ·rcases L3a hx with rfl | ⟨hxM,hn⟩
   ·exact hne rfl
   ·rcases hS j hj with h3 | h3
    ·exact(h.apart y hy x hxM λe=>hn e.symm).2 j h3 hj'
    ·have:=(h.obj hxM j hj').2;omega
  ·rcases L3a hx with rfl | ⟨hxM,hn'⟩
   ·rcases hS j hj' with h3 | h3
    ·exact(h.apart z hzM y hy hn).2 j hj h3
    ·have:=(h.obj hzM j hj).2;omega
   ·exact(h.apart z hzM x hxM hne).2 j hj hj'
 ·intro j hj;rcases hj with hj | hj | ⟨z,hz,hj⟩
  ·exact .inl (.inl hj)
  ·exact .inl (.inr (.inl hj))
  ·rcases L3a hz with rfl | ⟨hz,hn⟩
   ·rcases hj with hj | hj
    ·exact .inl (.inr (.inr ⟨y,hy,.inl (hj.trans e3)⟩))
    ·rcases hS j hj with h3 | h3
     ·exact .inl (.inr (.inr ⟨y,hy,.inr h3⟩))
     ·exact .inr h3
   ·exact .inl (.inr (.inr ⟨z,hz,hj⟩))
theorem o2a.setLast(h:o2a DI EI w base q m D Q T M R)(a:g0a (λj=>j=q) w w')(hB:Blk w' q 71 [.int .i64 Q,.map (some m),.int .i64 T']):o2a DI EI w' base q m D Q T' M R:=by
 have hm:m≠q:=λe=>n4a h.blk h.map e.symm
 have hg:∀y∈M,y.2.g≠q:=λy hy e=>by have h3:=(h.node y hy).2;rw[e] at h3;exact absurd (h3.typ.same h.blk.typ) (by decide)
 exact⟨h.ge,h.gm,hB,F1a h.map (a.rest m (World.ownsMap.lt h.map) hm),h.is,h.num,h.kind,λy hy=>⟨(h.node y hy).1,(h.node y hy).2.spare a (hg y hy)⟩,
  λy hy hk=>by obtain⟨K,k,d⟩:=h.dirs y hy hk;exact⟨K,k,DI.keep d a λj hj=>(h.own y hy j hj).1⟩,λy hy hk=>EI.keep (h.files y hy hk) a λj hj=>(h.own y hy j hj).1,h.own,h.apart⟩
theorem o2a.off(h:o2a DI EI w base q m D Q T M R):q≠m/\∀y∈M,y.2.g≠m/\y.2.g≠q:=by refine⟨n4a h.blk h.map,λy hy=>⟨n4a (h.node y hy).2 h.map,λe=>?_⟩⟩;have h3:=(h.node y hy).2;rw[e] at h3;exact absurd (h3.typ.same h.blk.typ) (by decide)
theorem o2a.add{w1:World}(h:o2a DI EI w base q m D Q T M R)(hb:Below w.heap.size w w1)(a:g0a (λj=>j=m) w1 w'){K:Nat}(hM:q0b w' m K (D.put (.int .i64 y.1.n) (.lit (.int .i64 (y.2.g:Nat)))))
(hn:∀z∈M,z.1.n<y.1.n)(hn1:1<=y.1.n)(hn2:y.1.n<=2097152)(hk:y.1.kind=1∨y.1.kind=2)(hg:w.heap.size<=y.2.g)(hB:Blk w1 y.2.g 87 (k1b y))
(hd:y.1.kind=1->DI.is w1 w.heap.size y.2.q [] y.2.S)(hf:y.1.kind=2->EI.is w1 w.heap.size y.2.q y.1.B y.1.Z y.2.S)(ho:∀j,y.2.S j->w.heap.size<=j/\j≠y.2.g)(hR:∀p,(y.1.n,p)∉R) :
  m3a DI EI w base q m M Q T (M++[y]) R w':=by
 have h1:=h.below hb;have hbs:=hb.size;have hbase:=h.hb;have hml:=World.ownsMap.lt h.map;have hql:=h.blk.lt;have hgm:y.2.g≠m:=by omega
 have hin:∀z∈M++[y],z∈M∨z=y:=λz hz=>by
  rcases List.mem_append.1 hz with hz | hz
  ·exact .inl hz
  ·exact .inr (List.mem_singleton.1 hz)
 have hnn:nums (M++[y])=nums M++[(y.1.n,y.2.g)]:=by unfold nums;rw[List.map_append];rfl
 have hI:=h.is.put (n:=y.1.n) (g:=y.2.g) λp hp=>by obtain⟨z,hz,rfl⟩:=List.mem_map.1 hp;exact hn z hz
 refine⟨_,⟨h.ge,h.gm,h1.blk.spare a h1.off.1,?_,by rw[hnn];exact hI,?_,?_,?_,?_,?_,?_,?_⟩,(g0a.of_over (pvS q m M) hb).trans a λj _ e=>.inr (.inl e),?_⟩
 ·have e:Maps.size (D.put (.int .i64 y.1.n) (.lit (.int .i64 (y.2.g:Nat))))=(M++[y]).length:=by rw[hI.size,<-hnn];exact List.length_map _
  rw[<-e];exact I9a hM
 ·intro z hz;rcases hin z hz with hz | rfl
  ·exact h.num z hz
  ·exact⟨hn1,hn2⟩
 ·intro z hz;rcases hin z hz with hz | rfl
  ·exact h.kind z hz
  ·exact hk
 ·intro z hz;rcases hin z hz with hz | rfl
  ·exact⟨(h.node z hz).1,(h1.node z hz).2.spare a (h1.off.2 z hz).1⟩
  ·exact⟨by omega,hB.spare a hgm⟩
 ·intro z hz hz1;rcases hin z hz with hz | rfl
  ·obtain⟨K,k,d⟩:=h1.dirs z hz hz1;exact⟨K,k,DI.keep d a λj hj=>(h.own z hz j hj).2.1⟩
  ·exact⟨[],Kid.nil hR,DI.mono (DI.keep (hd hz1) a λj hj=>by have:=(ho j hj).1;omega) hbase⟩
 ·intro z hz hz1;rcases hin z hz with hz | rfl
  ·exact EI.keep (h1.files z hz hz1) a λj hj=>(h.own z hz j hj).2.1
  ·exact EI.mono (EI.keep (hf hz1) a λj hj=>by have:=(ho j hj).1;omega) hbase
 ·intro z hz j hj;rcases hin z hz with hzM | rfl
  ·refine⟨(h.own z hzM j hj).1,(h.own z hzM j hj).2.1,λx hx=>?_⟩;rcases hin x hx with hxM | rfl
   ·exact(h.own z hzM j hj).2.2 x hxM
   ·have:=(h.obj hzM j hj).2;omega
  ·have h3:=ho j hj;refine⟨by omega,by omega,λx hx=>?_⟩;rcases hin x hx with hx | rfl
   ·have:=(h.node x hx).2.lt;omega
   ·exact h3.2
 ·intro z hz x hx hne;rcases hin z hz with hzM | rfl
  ·rcases hin x hx with hxM | rfl
   ·exact h.apart z hzM x hxM hne
   ·refine⟨by have:=(h.node z hzM).2.lt;omega,λj hj hj'=>?_⟩;have:=(h.obj hzM j hj).2;have:=(ho j hj').1;omega
  ·rcases hin x hx with hxM | rfl
   ·refine⟨by have:=(h.node x hxM).2.lt;omega,λj hj hj'=>?_⟩;have:=(h.obj hxM j hj').2;have:=(ho j hj).1;omega
   ·exact absurd rfl hne
 ·intro j hj;rcases hj with hj | hj | ⟨z,hz,hj⟩
  ·exact .inl (.inl hj)
  ·exact .inl (.inr (.inl hj))
  ·rcases hin z hz with hz | rfl
   ·exact .inl (.inr (.inr ⟨z,hz,hj⟩))
   ·rcases hj with hj | hj
    ·exact .inr (by omega)
    ·exact .inr (ho j hj).1
theorem W8a{α β:Type}(f:α->β):∀(l:List α) (k:Nat),(l.eraseIdx k).map f=(l.map f).eraseIdx k
 | [],_=>rfl
 | _::_,0=>rfl
 | x::r,k+1=>congrArg (f x :: ·) (W8a f r k)
def X8a(M:List VN)(n:Int):List VN:=M.eraseIdx (vIx (M.map (·.1)) n)
theorem f0b(h:o2a DI EI w base q m D Q T M R)(hy:y∈M):(∀z,z∈X8a M y.1.n↔z∈M/\z.1.n≠y.1.n)/\(X8a M y.1.n).length+1=M.length/\(X8a M y.1.n).Sublist M/\(X8a M y.1.n).map (·.1)=z1a (M.map (·.1)) y.1.n:=by
 obtain⟨i,hi,e⟩:=List.mem_iff_getElem.1 hy;have hix:vIx (M.map (·.1)) y.1.n=i:=by
  have hl:i<(M.map (·.1)).length:=by rw[List.length_map];exact hi
  refine(C9a hl (by rw[List.getElem_map,e]) λj hj=>?_).2;rw[List.getElem_map];have:=List.pairwise_iff_getElem.1 h.rise j i (by omega) hi hj;rw[e] at this;omega
 unfold X8a z1a;rw[hix];refine⟨λz=>?_,?_,List.eraseIdx_sublist _ _,W8a _ _ _⟩
 ·rw[List.mem_eraseIdx_iff_getElem];constructor
  ·rintro⟨j,hj,hji,rfl⟩;refine⟨List.getElem_mem _,λen=>hji ?_⟩;rcases Nat.lt_trichotomy j i with h1 | h1 | h1
   ·have:=List.pairwise_iff_getElem.1 h.rise j i hj hi h1;rw[e] at this;omega
   ·exact h1
   ·have:=List.pairwise_iff_getElem.1 h.rise i j hi hj h1;rw[e] at this;omega
  ·rintro⟨hz,hn⟩;obtain⟨j,hj,rfl⟩:=List.mem_iff_getElem.1 hz;exact⟨j,hj,λe2=>hn (by subst e2;rw[e]),rfl⟩
 ·rw[List.length_eraseIdx,if_pos hi];omega
theorem o2a.away(h:o2a DI EI w base q m D Q T M R)(hy:y∈M)(a:g0a (λj=>j=m) w w'){K:Nat}(hM:q0b w' m K (D.del (.int .i64 y.1.n))):m3a DI EI w base q m M Q T (X8a M y.1.n) R w':=by
 obtain⟨f1,f2,f3,_⟩:=f0b h hy;have hI:x7b (D.del (.int .i64 y.1.n)) (nums (X8a M y.1.n)):=by
  refine h.is.del (f3.map _) (λp=>?_) (by unfold nums;rw[List.length_map,List.length_map];exact f2) ⟨_,z4a hy,rfl⟩;constructor
  ·intro hp;obtain⟨z,hz,rfl⟩:=List.mem_map.1 hp;exact⟨z4a ((f1 z).1 hz).1,((f1 z).1 hz).2⟩
  ·rintro⟨hp,hn⟩;obtain⟨z,hz,rfl⟩:=List.mem_map.1 hp;exact z4a ((f1 z).2 ⟨hz,hn⟩)
 have hin:∀z∈X8a M y.1.n,z∈M:=λz hz=>((f1 z).1 hz).1
 refine⟨_,⟨h.ge,h.gm,h.blk.spare a h.off.1,?_,hI,λz hz=>h.num z (hin z hz),λz hz=>h.kind z (hin z hz),λz hz=>⟨(h.node z (hin z hz)).1,(h.node z (hin z hz)).2.spare a (h.off.2 z (hin z hz)).1⟩,?_,?_,?_,λz hz x hx=>h.apart z (hin z hz) x (hin x hx)⟩,a.mono λj _ e=>.inr (.inl e),?_⟩
 ·have e:Maps.size (D.del (.int .i64 y.1.n))=(X8a M y.1.n).length:=by rw[hI.size];exact List.length_map _
  rw[<-e];exact I9a hM
 ·intro z hz hk;obtain⟨K,k,d⟩:=h.dirs z (hin z hz) hk;exact⟨K,k,DI.keep d a λj hj=>(h.own z (hin z hz) j hj).2.1⟩
 ·intro z hz hk;exact EI.keep (h.files z (hin z hz) hk) a λj hj=>(h.own z (hin z hz) j hj).2.1
 ·intro z hz j hj;exact⟨(h.own z (hin z hz) j hj).1,(h.own z (hin z hz) j hj).2.1,λx hx=>(h.own z (hin z hz) j hj).2.2 x (hin x hx)⟩
 ·intro j hj;rcases hj with hj | hj | ⟨z,hz,hj⟩
  ·exact .inl (.inl hj)
  ·exact .inl (.inr (.inl hj))
  ·exact .inl (.inr (.inr ⟨z,hin z hz,hj⟩))
end
theorem e2b{P:Program}{fn:Func}{p:Tmp}{ty:TypeId}(h:fn.results=#[.cell p ty])(tmps:Array Value)(w:World)(g:Nat)(t:TypeId)(cs:Array Value)(fr:Nat×Nat)(d:TypeDesc)
(hp:tmps.getD p undef=.pointer (some ⟨g,0,none⟩))(hg:w.heap[g]? = some (.cells cs t fr))
(hu:P.underlying ty=some d)(hd:(match d with | .struct _ | .array _ _=>true | _=>false)=true)(hi:(P.info? ty).map (·.size)=some cs.size) :
  (results fn tmps).run P w=.ok (.agg cs) w:=by
 have hp':tmps[p]?.getD undef=.pointer (some ⟨g,0,none⟩):=by simpa using hp
 simp[results,h,hp',asAddr,run_loadVar_row w g t ty cs fr d hg hu hd hi]
theorem A4a(w:World)(q m:Nat)(h:w.cell? ⟨q,1,none⟩=some (.map (some m))):Calls Tryz.prog 40 #[R0a q] w λe w'=>e=.returned (.bool false)/\w=w':=by
 have hml:∀w,(binOp .eql 69 (.map (some m)) (.map none)).run Tryz.prog w=.ok (.bool false) w:=λw=>q8a _ _ _ _ Tryz.underlying69 w
 unfold R0a;go_enter Tryz.func40,Tryz.ntmps40;go_wp2_with fail;go_ret;exact⟨rfl,rfl⟩
theorem u0c(w:World):Calls Tryz.prog 61 #[.pointer none] w λe w'=>e=.returned (.int .i64 0)/\w=w':=by go_enter Tryz.func61,Tryz.ntmps61;go_wp2_with fail;go_ret;exact⟨rfl,rfl⟩
section
variable {DI:DrI} {EI:FiI} {w:World} {base q m:Nat} {D:DataW Unit} {Q T n:Int} {M:List VN} {R:List (Int×I0a)} {y:VN}
theorem g5a(h:o2a DI EI w base q m D Q T M R)(hy:y∈M)(hn:y.1.n=n):Calls Tryz.prog 46 #[R0a q,.int .i64 n] w λe w'=>e=.returned (.tuple #[R0a y.2.g,.int .i64 0])/\w=w':=by have k1:=h.c1;have CN:=hI (A4a w q m k1);have lk:=h.look2 hy;rw[hn] at lk;obtain⟨g,hg⟩:∃g,g=y.2.g:=⟨_,rfl⟩;rw[<-hg] at lk⊢;unfold R0a at lk CN⊢;clear h hy hn hg;go_enter Tryz.func46,Tryz.ntmps46;go_wp2_with fail;refine CN.out.mono ?_;rintro e w0 ⟨rfl,rfl⟩;go_wp2_with fail;go_ret2;exact⟨rfl,rfl⟩
theorem Y8a(h:o2a DI EI w base q m D Q T M R)(hn:c2a n)(hno:∀y∈M,y.1.n≠n):Calls Tryz.prog 46 #[R0a q,.int .i64 n] w λe w'=>e=.returned (.tuple #[.pointer none,.int .i64 7])/\w=w':=by have k1:=h.c1;have CN:=hI (A4a w q m k1);have lk:=h.look0 hn hno;unfold R0a at CN⊢;clear h hn hno;go_enter Tryz.func46,Tryz.ntmps46;go_wp2_with fail;refine CN.out.mono ?_;rintro e w0 ⟨rfl,rfl⟩;go_wp2_with fail;go_ret2;exact⟨rfl,rfl⟩
theorem H4b(h:o2a DI EI w base q m D Q T M R)(hn:c2a n)(hno:∀y∈M,y.1.n≠n):Calls Tryz.prog 64 #[R0a q,.int .i64 n] w λe w'=>e=.returned (.tuple #[.pointer none,.int .i64 7])/\w=w':=by have CN:=hI (Y8a h hn hno);clear h hn hno;unfold R0a at CN⊢;go_enter Tryz.func64,Tryz.ntmps64;go_wp2_with fail;refine CN.out.mono ?_;rintro e w0 ⟨rfl,rfl⟩;go_wp2_with fail;go_ret2;exact⟨rfl,rfl⟩
theorem D2b(h:o2a DI EI w base q m D Q T M R)(hy:y∈M)(hn:y.1.n=1):Calls Tryz.prog 64 #[R0a q,.int .i64 1] w λe w'=>e=.returned (.tuple #[.pointer none,.int .i64 2])/\w=w':=by have CN:=hI (g5a h hy hn);clear h hn hy;unfold R0a at CN⊢;go_enter Tryz.func64,Tryz.ntmps64;go_wp2_with fail;refine CN.out.mono ?_;rintro e w0 ⟨rfl,rfl⟩;go_wp2_with fail;go_ret2;exact⟨rfl,rfl⟩
theorem E2b(h:o2a DI EI w base q m D Q T M R)(hy:y∈M)(hn:y.1.n=n)(h1:n≠1):Calls Tryz.prog 64 #[R0a q,.int .i64 n] w λe w'=>e=.returned (.tuple #[R0a y.2.g,.int .i64 0])/\w=w':=by have CN:=hI (g5a h hy hn);clear h hn hy;unfold R0a at CN⊢;go_enter Tryz.func64,Tryz.ntmps64;go_wp2_with fail;refine CN.out.mono ?_;rintro e w0 ⟨rfl,rfl⟩;go_wp2_with fail;go_ret2;exact⟨rfl,rfl⟩
theorem K3b(h:o2a DI EI w base q m D Q T M R)(hn:c2a n)(hno:∀y∈M,y.1.n≠n):Calls Tryz.prog 62 #[R0a q,.int .i64 n] w λe w'=>e=.returned (.tuple #[.pointer none,.int .i64 7])/\w=w':=by have CN:=hI (Y8a h hn hno);clear h hn hno;unfold R0a at CN⊢;go_enter Tryz.func62,Tryz.ntmps62;go_wp2_with fail;refine CN.out.mono ?_;rintro e w0 ⟨rfl,rfl⟩;go_wp2_with fail;go_ret2;exact⟨rfl,rfl⟩
theorem l1b(h:o2a DI EI w base q m D Q T M R)(hy:y∈M)(hn:y.1.n=n)(hk:y.1.kind=1):Calls Tryz.prog 62 #[R0a q,.int .i64 n] w λe w'=>e=.returned (.tuple #[.pointer none,.int .i64 9])/\w=w':=by have CN:=hI (g5a h hy hn);have k0:=h.n0 hy;rw[hk] at k0;obtain⟨g,hg⟩:∃g,g=y.2.g:=⟨_,rfl⟩;rw[<-hg] at CN k0;clear h hn hy hg hk;unfold R0a at CN⊢;go_enter Tryz.func62,Tryz.ntmps62;go_wp2_with fail;refine CN.out.mono ?_;rintro e w0 ⟨rfl,rfl⟩;go_wp2_with fail;go_ret2;exact⟨rfl,rfl⟩
theorem Z8a(h:o2a DI EI w base q m D Q T M R)(hy:y∈M)(hn:y.1.n=n)(hk:y.1.kind=2):Calls Tryz.prog 62 #[R0a q,.int .i64 n] w λe w'=>e=.returned (.tuple #[ptr y.2.q,.int .i64 0])/\w=w':=by have CN:=hI (g5a h hy hn);have k0:=h.n0 hy;have k4:=h.n4 hy;rw[hk] at k0;rw[C2b hk] at k4;obtain⟨g,hg⟩:∃g,g=y.2.g:=⟨_,rfl⟩;obtain⟨g4,hg4⟩:∃g,g=y.2.q:=⟨_,rfl⟩;rw[<-hg] at CN k0 k4;rw[<-hg4] at k4⊢;clear h hn hy hg hg4 hk;unfold R0a at CN⊢;unfold ptr at k4⊢;go_enter Tryz.func62,Tryz.ntmps62;go_wp2_with fail;refine CN.out.mono ?_;rintro e w0 ⟨rfl,rfl⟩;go_wp2_with fail;go_ret2;exact⟨rfl,rfl⟩
theorem o2a.size(h:o2a DI EI w base q m D Q T M R)(hy:y∈M)(hB:y.1.kind=1->y.1.B=[]):Calls Tryz.prog 61 #[p0b y] w λe w'=>e=.returned (.int .i64 (y.1.B.length:Nat))/\∃k,w.drewN k=w':=by
 rcases h.kind y hy with hk | hk
 ·rw[T2c hk,hB hk];refine(u0c w).mono ?_;rintro e w' ⟨rfl,rfl⟩;exact⟨rfl,0,rfl⟩
 ·rw[C2b hk];exact EI.size (h.files y hy hk)
theorem F2b(h:o2a DI EI w base q m D Q T M R)(hy:y∈M)(hB:y.1.kind=1->y.1.B=[]):Calls Tryz.prog 47 #[R0a y.2.g] w λe w'=>e=.returned (.agg #[.int .u8 y.1.kind,.int .i64 (y.1.B.length:Nat)])/\Below w.heap.size w w':=by
 have SZ:Hid (∀w',Below w.heap.size w w'->Calls Tryz.prog 61 #[p0b y] w' λe w2=>e=.returned (.int .i64 (y.1.B.length:Nat))/\∃k,w'.drewN k=w2):=λw' hb=>(h.below hb).size hy hB
 have k0:=h.n0 hy;have k4:=h.n4 hy;have hgl:y.2.g<w.heap.size:=(h.node y hy).2.lt;have ZN:Hid ((Tryz.prog.info? 34).map (λi=>(i.zero,i.size))=some (some (.agg ([.int .u8 0,.int .i64 0]:List Value).toArray),2)):=w2a;obtain⟨g,hg⟩:∃g,g=y.2.g:=⟨_,rfl⟩;obtain⟨u,hu⟩:∃u,u=p0b y:=⟨_,rfl⟩;obtain⟨k,hk⟩:∃k,k=y.1.kind:=⟨_,rfl⟩;obtain⟨z,hz⟩:∃z,z=y.1.B.length:=⟨_,rfl⟩;rw[<-hg] at k0 k4 hgl⊢;rw[<-hu] at k4 SZ;rw[<-hk] at k0⊢;rw[<-hz] at SZ⊢;clear h hy hB hg hu hk hz;unfold R0a;go_enter Tryz.func47,Tryz.ntmps47;go_upto_region 1 with(first
  | ((with_reducible refine sN 2 ?_);refine i0a rfl _ rfl [.int .u8 0,.int .i64 0] 2 ZN ?_;intro b w0 hb1 hb2 X0 L0)
  | fail)
 have j0:w0.cell? ⟨g,0,none⟩=some (.int .u8 k):=(L0.out.cell (d0a k0)).trans k0;have j4:w0.cell? ⟨g,4,none⟩=some u:=(L0.out.cell (d0a k4)).trans k4;refine wp_region_held (S:=λw'=>w'.cell? ⟨g,0,none⟩=some (.int .u8 k)/\w'.cell? ⟨g,4,none⟩=some u) (by kernel_rfl) ?_;change wpAnyH _ _ _ _ _ _ _ _ w0.drew
 have Sr0:Hid (w0.drew.cell? ⟨g,0,none⟩=some (.int .u8 k)/\w0.drew.cell? ⟨g,4,none⟩=some u):=⟨j0,j4⟩;have br0:Hid (Below w.heap.size w w0.drew):=L0.out.drew;refine tK 0 _ rfl (a0a (by kernel_rfl) (.tmp 0) rfl (.pointer (some ⟨g,0,none⟩)) (by kernel_rfl)) Sr0.out ?_;refine tK 1 _ rfl (p0a (by kernel_rfl) (.tmp 3) rfl ⟨g,0,none⟩ (by kernel_rfl)) Sr0.out ?_;refine tK 2 _ rfl (e0a (by kernel_rfl) _ (.tmp 4) 0 rfl (.pointer (some ⟨g,0,none⟩)) (.pointer (some ⟨g,0,none⟩)) (by kernel_rfl) (λw=>by go_simp)) Sr0.out ?_;refine tK 3 _ rfl (e0a (by kernel_rfl) _ (.tmp 5) 0 rfl (.pointer (some ⟨g,0,none⟩)) (.pointer (some ⟨g,0,none⟩)) (by kernel_rfl) (λw=>by go_simp)) Sr0.out ?_;refine tK 4 _ rfl (b0a (by kernel_rfl) _ (.tmp 6) rfl g (0) (by kernel_rfl) (.int .u8 k) (λ_ h=>h.1) _ Tryz.underlying32 rfl) Sr0.out ?_;refine tK 5 _ rfl (a0a (by kernel_rfl) (.tmp 0) rfl (.pointer (some ⟨g,0,none⟩)) (by kernel_rfl)) Sr0.out ?_;refine tK 6 _ rfl (p0a (by kernel_rfl) (.tmp 8) rfl ⟨g,0,none⟩ (by kernel_rfl)) Sr0.out ?_;refine tK 7 _ rfl (e0a (by kernel_rfl) _ (.tmp 9) 2 rfl (.pointer (some ⟨g,0,none⟩)) (.pointer (some ⟨g,4,none⟩)) (by kernel_rfl) (λw=>by go_simp)) Sr0.out ?_;refine tK 8 _ rfl (b0a (by kernel_rfl) _ (.tmp 10) rfl g (4) (by kernel_rfl) (u) (λ_ h=>h.2) _ Tryz.underlying85 rfl) Sr0.out ?_;refine oN 9 _ rfl λK hK=>?_
 go_simp;refine(SZ.out _ br0.out).mono ?_;rintro e vr1 ⟨rfl,nq,rfl⟩;have Sr1:Hid ((w0.drew.drewN nq).cell? ⟨g,0,none⟩=some (.int .u8 k)/\(w0.drew.drewN nq).cell? ⟨g,4,none⟩=some u):=Sr0.out;have br1:Hid (Below w.heap.size w (w0.drew.drewN nq)):=br0.out.trans ((E0a w0.drew nq).mono (Below.size br0.out));have X1:Hid (Blk (w0.drew.drewN nq) b 34 [.int .u8 0,.int .i64 0]):=(X0.out.over (E0a w0 1)).over (E0a w0.drew nq);have L1:=hI (br0.out.trans ((E0a w0.drew nq).mono (Below.size br0.out)));refine hK _ _ Sr1.out ?_;clear hK K;refine tK 10 (.agg ([.int .u8 k,.int .i64 (z:Nat)]:List Value).toArray) rfl (i3a (by kernel_rfl) _ _ rfl [.int .u8 k,.int .i64 (z:Nat)] (by kernel_rfl)) Sr1.out ?_;refine oN 11 _ rfl λK hK=>?_
 refine H5a rfl _ (.tmp 2) (.tmp 13) rfl b (by kernel_rfl) _ [.int .u8 0,.int .i64 0] [.int .u8 k,.int .i64 (z:Nat)] (by kernel_rfl) X1 2 J0a rfl rfl (by intro v hv;simp only[List.mem_cons,List.not_mem_nil,or_false] at hv;rcases hv with rfl | rfl<;>rfl) ?_;intro w2 X2 O2 hg2;refine hK _ _ ⟨((O2.out.below (Nat.le_refl _)).cell (show g<b by omega)).trans j0,((O2.out.below (Nat.le_refl _)).cell (show g<b by omega)).trans j4⟩ ?_;clear hK K;refine dN ?_;go_wp2_with fail;refine bodyPost_ret (v:=.agg #[.int .u8 k,.int .i64 (z:Nat)]) ?_ rfl ⟨rfl,r0a L1.out O2.out hb1⟩;exact e2b rfl _ _ b _ _ (0,0) _ rfl X2.out Tryz.underlying34 rfl (by rw[J0a];rfl)
theorem V2c(h:o2a DI EI w base q m D Q T M R)(hn:c2a n)(hno:∀y∈M,y.1.n≠n):Calls Tryz.prog 15 #[R0a q,.int .i64 n] w λe w'=>e=.returned (.tuple #[.agg #[.int .u8 0,.int .i64 0],.int .i64 7])/\Below w.heap.size w w':=by
 have CN:Hid (∀w',Below w.heap.size w w'->Calls Tryz.prog 46 #[R0a q,.int .i64 n] w' λe w2=>e=.returned (.tuple #[.pointer none,.int .i64 7])/\w'=w2):=λw' hb=>Y8a (h.below hb) hn hno
 have ZN:Hid ((Tryz.prog.info? 34).map (λi=>(i.zero,i.size))=some (some (.agg ([.int .u8 0,.int .i64 0]:List Value).toArray),2)):=w2a;clear h hn hno;unfold R0a at CN⊢;go_enter Tryz.func15,Tryz.ntmps15;go_wp2_with(first
  | ((with_reducible refine sN 4 ?_);refine i0a rfl _ rfl [.int .u8 0,.int .i64 0] 2 ZN ?_;intro b w0 hb1 hb2 X0 L0)
  | fail)
 refine(CN.out w0 L0.out).mono ?_;rintro e w1 ⟨rfl,rfl⟩;go_wp2_with(first
  | ((with_reducible refine sN 16 ?_);go_loud (refine J2a rfl _ rfl [.int .u8 0,.int .i64 0] (by kernel_rfl) ?_))
  | ((with_reducible refine sT 4 ?_);go_loud (refine l0a rfl _ (.tmp 4) (.tmp 16) rfl b rfl _ _ [.int .u8 0,.int .i64 0] rfl X0 2 J0a rfl rfl (by intro u hu;simp only[List.mem_cons,List.not_mem_nil,or_false] at hu;rcases hu with rfl | rfl<;>rfl) ?_);intro w2 X2 O2 hg2)
  | fail)
 refine bodyPost_ret (v:=.tuple #[.agg #[.int .u8 0,.int .i64 0],.int .i64 7]) ?_ rfl ⟨rfl,r0a L0.out O2.out hb1⟩;exact d2a rfl _ _ b _ _ (0,0) _ rfl X2.out Tryz.underlying34 rfl (by rw[J0a];rfl) rfl
theorem v0c(h:o2a DI EI w base q m D Q T M R)(hy:y∈M)(hn:y.1.n=n)(hB:y.1.kind=1->y.1.B=[]):Calls Tryz.prog 15 #[R0a q,.int .i64 n] w λe w'=>e=.returned (.tuple #[.agg #[.int .u8 y.1.kind,.int .i64 (y.1.B.length:Nat)],.int .i64 0])/\Below w.heap.size w w':=by
 have CN:Hid (∀w',Below w.heap.size w w'->Calls Tryz.prog 46 #[R0a q,.int .i64 n] w' λe w2=>e=.returned (.tuple #[R0a y.2.g,.int .i64 0])/\w'=w2):=λw' hb=>g5a (h.below hb) hy hn
 have CS:Hid (∀w',Below w.heap.size w w'->Calls Tryz.prog 47 #[R0a y.2.g] w' λe w2=>e=.returned (.agg #[.int .u8 y.1.kind,.int .i64 (y.1.B.length:Nat)])/\Below w'.heap.size w' w2):=λw' hb=>F2b (h.below hb) hy hB
 have ZN:Hid ((Tryz.prog.info? 34).map (λi=>(i.zero,i.size))=some (some (.agg ([.int .u8 0,.int .i64 0]:List Value).toArray),2)):=w2a;obtain⟨g,hg⟩:∃g,g=y.2.g:=⟨_,rfl⟩;obtain⟨k,hk⟩:∃k,k=y.1.kind:=⟨_,rfl⟩;obtain⟨z,hz⟩:∃z,z=y.1.B.length:=⟨_,rfl⟩;rw[<-hg] at CN CS;rw[<-hk] at CS⊢;rw[<-hz] at CS⊢;clear h hy hn hB hg hk hz;unfold R0a at CN CS⊢;go_enter Tryz.func15,Tryz.ntmps15;go_wp2_with(first
  | ((with_reducible refine sN 4 ?_);refine i0a rfl _ rfl [.int .u8 0,.int .i64 0] 2 ZN ?_;intro b w0 hb1 hb2 X0 L0)
  | fail)
 refine(CN.out w0 L0.out).mono ?_;rintro e w1 ⟨rfl,rfl⟩;go_wp2_with fail;refine(CS.out _ L0.out).mono ?_;rintro e w2 ⟨rfl,l2⟩;have L2:=hI (step L0.out l2);have X1:=hI (X0.out.over l2);clear l2;go_wp2_with(first
  | ((with_reducible refine sT 4 ?_);go_loud (refine l0a rfl _ (.tmp 4) (.tmp 19) rfl b rfl _ _ [.int .u8 k,.int .i64 (z:Nat)] rfl X1 2 J0a rfl rfl (by intro u hu;simp only[List.mem_cons,List.not_mem_nil,or_false] at hu;rcases hu with rfl | rfl<;>rfl) ?_);intro w3 X3 O3 hg3)
  | fail)
 refine bodyPost_ret (v:=.tuple #[.agg #[.int .u8 k,.int .i64 (z:Nat)],.int .i64 0]) ?_ rfl ⟨rfl,r0a L2.out O3.out hb1⟩;exact d2a rfl _ _ b _ _ (0,0) _ rfl X3.out Tryz.underlying34 rfl (by rw[J0a];rfl) rfl
theorem a9a(h:o2a DI EI w base q m D Q T M R){a k E:Int}(CN:Calls Tryz.prog 62 #[R0a q,.int .i64 n] w λe w'=>e=.returned (.tuple #[.pointer none,.int .i64 E])/\w=w')(hE:E≠0):Calls Tryz.prog 25 #[R0a q,.int .i64 n,.int .i64 a,.int .i64 k] w λe w'=>e=.returned (.tuple #[.slice none 0 0,.int .i64 E])/\Below w.heap.size w w':=by have C:=hI CN;clear CN h;unfold R0a at C⊢;go_enter Tryz.func25,Tryz.ntmps25;go_wp2_with fail;refine C.out.mono ?_;rintro e w0 ⟨rfl,rfl⟩;go_wp2_with fail;go_ret2;exact⟨rfl,Below.refl _ _⟩
theorem w0c(h:o2a DI EI w base q m D Q T M R)(hy:y∈M)(hn:y.1.n=n)(hk:y.1.kind=2){a k:Int}(ha:I64 a)(hk6:I64 k):Calls Tryz.prog 25 #[R0a q,.int .i64 n,.int .i64 a,.int .i64 k] w λe w'=>∃u,e=.returned (.tuple #[u,.int .i64 (G4a y.1.B.length a k)])/\Own w' w.heap.size u (d0b y.1.B a k)/\Below w.heap.size w w':=by have C:=hI (Z8a h hy hn hk);have CR:=hI (EI.read (h.files y hy hk) ha hk6);obtain⟨g,hg⟩:∃g,g=y.2.q:=⟨_,rfl⟩;obtain⟨E,hE⟩:∃E,E=G4a y.1.B.length a k:=⟨_,rfl⟩;obtain⟨X,hX⟩:∃X,X=d0b y.1.B a k:=⟨_,rfl⟩;rw[<-hg] at C CR;rw[<-hE,<-hX] at CR⊢;clear h hy hn hk hg hE hX;unfold R0a at C⊢;unfold ptr at C CR;go_enter Tryz.func25,Tryz.ntmps25;go_wp2_with fail;refine C.out.mono ?_;rintro e w0 ⟨rfl,rfl⟩;go_wp2_with fail;refine CR.out.mono ?_;rintro e w1 ⟨u,rfl,o1,_,l1⟩;have O1:=hI o1;have L1:=hI l1;clear o1 l1;go_wp2_with fail;go_ret2;exact⟨_,rfl,O1.out,L1.out⟩
end
structure LvC (w:World) (q m gy gz:Nat) (d:Int) (s:o0a) (u:Value):Prop where
 c1:w.cell? ⟨q,1,none⟩=some (.map (some m))
 n1:w.cell? ⟨gy,1,none⟩=some (.int .i64 d)
 n2:w.cell? ⟨gy,2,none⟩=some (V0a s)
 n3:w.cell? ⟨gz,3,none⟩=some u
 lk:(Instr.lookup 69 (.map (some m)) (.int .i64 d) false).run Tryz.prog w=.ok (.pointer (some ⟨gz,0,none⟩)) w
section
variable {DI:DrI} {EI:FiI} {w w':World} {base q m:Nat} {D:DataW Unit} {Q T n:Int} {M:List VN} {R R':List (Int×I0a)} {y z:VN} {s:o0a}
theorem W2c(h:o2a DI EI w base q m D Q T M R)(hy:y∈M)(P:PN):(G4b M y.1.n (y.1,P)).map (·.1)=M.map (·.1):=by
 unfold G4b;rw[List.map_map];refine List.map_congr_left λz hz=>?_
 simp only[Function.comp];by_cases hn:z.1.n=y.1.n
 ·rw[if_pos hn,h.same hz hy hn]
 ·rw[if_neg hn]
theorem X2c(h:o2a DI EI w base q m D Q T M R)(hy:y∈M)(P:PN)(d:Int):(G4b M y.1.n (⟨y.1.n,y.1.kind,d,s,y.1.B,y.1.Z⟩,P)).map (·.1)=f4a (M.map (·.1)) y.1.n d s:=by
 unfold G4b f4a;rw[List.map_map,List.map_map];refine List.map_congr_left λz hz=>?_
 simp only[Function.comp];by_cases hn:z.1.n=y.1.n
 ·rw[if_pos hn,if_pos hn,h.same hz hy hn]
 ·rw[if_neg hn,if_neg hn]
theorem o2a.turnDir(h:o2a DI EI w base q m D Q T M R)(hz:z∈M)(hk:z.1.kind=1){K':List I0a}(hK:Kid R' z.1.n K')(hR:∀d p,d≠z.1.n->((d,p)∈R↔(d,p)∈R')){E:Int}{e:Ending}(ht:G2c DI.is w base z.2.q z.2.S E K' e w') :
  e=.returned (.int .i64 E)/\∃M',m3a DI EI w base q m M Q T M' R' w'/\M'.map (·.1)=M.map (·.1):=by
 obtain⟨he,S',d,a,n⟩:=ht;refine⟨he,_,h.up hz (y':=(z.1,⟨z.2.g,z.2.q,S'⟩)) rfl rfl rfl (a.mono λj _ hj=>.inr hj) ((h.node z hz).2.spare a λhj=>(h.own z hz _ hj).2.2 z hz rfl) (λ_=>⟨K',hK,d⟩) (λe=>by rw[hk] at e;cases e) n hR,W2c h hz _⟩
theorem o2a.tbs(h:o2a DI EI w base q m D Q T M R)(htb:DI.tb base w){M':List VN}{Q' T':Int}(p:m3a DI EI w base q m M Q' T' M' R' w'):DI.tb base w':=by obtain⟨_,_,a,_⟩:=p;exact DI.tbNext htb (a.below (λj hj=>(h.lt j hj).1) h.hb)
theorem G2b(h:o2a DI EI w base q m D Q T M R)(htb:DI.tb base w)(hy:y∈M)(hz:z∈M)(hyz:y.1.par=z.1.n)(hk:z.1.kind=1)(hs:y.1.name.length<=1048576)(hR:∀K,Kid R z.1.n K->Kid R' z.1.n (n0b K (ba y.1.name)))(hR2:∀d p,d≠z.1.n->((d,p)∈R↔(d,p)∈R'))(hn:y.1.n=n) :
  Calls Tryz.prog 70 #[R0a q,.int .i64 n] w λe w'=>e=.returned (.tuple #[])/\∃M',m3a DI EI w base q m M Q T M' R' w'/\M'.map (·.1)=M.map (·.1):=by
 have hd:=h.below (Below.refl _ w).drew;obtain⟨K,k,d⟩:=hd.dirs z hz hk;have CR:Hid (Calls Tryz.prog 118 #[T1b z.2.q,.string (ba y.1.name)] w.drew λe w'=>e=.returned (.int .i64 (O1a K (ba y.1.name)))/\(∃M',m3a DI EI w base q m M Q T M' R' w'/\M'.map (·.1)=M.map (·.1))/\LvC w' q m y.2.g z.2.g y.1.par y.1.name (T1b z.2.q)):=by
  refine(DI.remove d (DI.tbNext htb ((Below.refl _ w).drew.mono h.hb)) hd.hb (s:=ba y.1.name) hs).mono λe w' ht=>?_
  obtain⟨he,M',p,e2⟩:=hd.turnDir hz hk (hR K k) hR2 ht;obtain⟨_,S',_,a,_⟩:=ht;have n3:=((hd.node z hz).2.spare a λhj=>(hd.own z hz _ hj).2.2 z hz rfl).cell 3;have lk:=q0b.look1 (F1a hd.map (a.rest m (World.ownsMap.lt hd.map) λhj=>(hd.own z hz _ hj).2.1 rfl)) hd.is (z4a hz) (hd.i64 hz);rw[<-hyz] at lk;exact⟨he,⟨M',(m3a.refl h (Below.refl _ w).drew).trans p,e2⟩,(hd.blk.spare a λhj=>(hd.own z hz _ hj).1 rfl).cell 1,((hd.node y hy).2.spare a λhj=>(hd.own z hz _ hj).2.2 y hy rfl).cell 1,((hd.node y hy).2.spare a λhj=>(hd.own z hz _ hj).2.2 y hy rfl).cell 2,n3.trans (congrArg some (f5a hk)),lk⟩
 have lky:=h.look1 hy;have lkz:=hd.look1 hz;rw[hn] at lky;rw[<-hyz] at lkz;have k1:=h.c1;have n1:=h.n1 hy;have n2:=h.n2 hy;have n3:=h.n3 hz;rw[f5a hk] at n3;obtain⟨gy,hgy⟩:∃g,g=y.2.g:=⟨_,rfl⟩;obtain⟨gz,hgz⟩:∃g,g=z.2.g:=⟨_,rfl⟩;obtain⟨d,hd'⟩:∃d,d=y.1.par:=⟨_,rfl⟩;obtain⟨s,hs'⟩:∃s,s=y.1.name:=⟨_,rfl⟩;obtain⟨u,hu⟩:∃u,u=T1b z.2.q:=⟨_,rfl⟩;rw[<-hgy] at lky n1 n2 CR;rw[<-hgz] at lkz n3 CR;rw[<-hd'] at lkz n1 CR;rw[<-hs'] at n2 CR;rw[<-hu] at n3 CR;have LC:Hid (LvC w.drew q m gy gz d s u):=⟨k1,n1,n2,n3,lkz⟩;clear h hd htb hy hz hyz hk hs hR hR2 hn k lkz hgy hgz hd' hs' hu n1 n2 n3;unfold R0a at lky⊢;go_enter Tryz.func70,Tryz.ntmps70;go_upto_region 1 with fail
 refine wp_region_held (S:=λw'=>LvC w' q m gy gz d s u) (by kernel_rfl) ?_;change wpAnyH _ _ _ _ _ _ _ _ w.drew
 have Sr0:Hid (LvC w.drew q m gy gz d s u):=LC.out;have br0:Hid (True):=trivial;refine tK 0 _ rfl (a0a (by kernel_rfl) (.tmp 0) rfl (.pointer (some ⟨q,0,none⟩)) (by kernel_rfl)) Sr0.out ?_;refine tK 1 _ rfl (p0a (by kernel_rfl) (.tmp 11) rfl ⟨q,0,none⟩ (by kernel_rfl)) Sr0.out ?_;refine tK 2 _ rfl (e0a (by kernel_rfl) _ (.tmp 12) 1 rfl (.pointer (some ⟨q,0,none⟩)) (.pointer (some ⟨q,1,none⟩)) (by kernel_rfl) (λw=>by go_simp)) Sr0.out ?_;refine tK 3 _ rfl (b0a (by kernel_rfl) _ (.tmp 13) rfl q (1) (by kernel_rfl) (.map (some m)) (λ_ h=>h.c1) _ Tryz.underlying69 rfl) Sr0.out ?_;refine tK 4 _ rfl (a0a (by kernel_rfl) (.tmp 4) rfl (.pointer (some ⟨gy,0,none⟩)) (by kernel_rfl)) Sr0.out ?_;refine tK 5 _ rfl (p0a (by kernel_rfl) (.tmp 15) rfl ⟨gy,0,none⟩ (by kernel_rfl)) Sr0.out ?_;refine tK 6 _ rfl (e0a (by kernel_rfl) _ (.tmp 16) 0 rfl (.pointer (some ⟨gy,0,none⟩)) (.pointer (some ⟨gy,0,none⟩)) (by kernel_rfl) (λw=>by go_simp)) Sr0.out ?_;refine tK 7 _ rfl (e0a (by kernel_rfl) _ (.tmp 17) 1 rfl (.pointer (some ⟨gy,0,none⟩)) (.pointer (some ⟨gy,1,none⟩)) (by kernel_rfl) (λw=>by go_simp)) Sr0.out ?_;refine tK 8 _ rfl (b0a (by kernel_rfl) _ (.tmp 18) rfl gy (1) (by kernel_rfl) (.int .i64 d) (λ_ h=>h.n1) _ Tryz.underlying3 rfl) Sr0.out ?_;refine tK 9 (.pointer (some ⟨gz,0,none⟩)) rfl (J4a (by kernel_rfl) _ (.tmp 14) (.tmp 19) false rfl (.map (some m)) (.int .i64 d) (by kernel_rfl) (by kernel_rfl) (λ_ h=>h.lk)) Sr0.out ?_;refine tK 10 _ rfl (p0a (by kernel_rfl) (.tmp 20) rfl ⟨gz,0,none⟩ (by kernel_rfl)) Sr0.out ?_;refine tK 11 _ rfl (e0a (by kernel_rfl) _ (.tmp 21) 1 rfl (.pointer (some ⟨gz,0,none⟩)) (.pointer (some ⟨gz,3,none⟩)) (by kernel_rfl) (λw=>by go_simp)) Sr0.out ?_;refine tK 12 _ rfl (b0a (by kernel_rfl) _ (.tmp 22) rfl gz (3) (by kernel_rfl) (u) (λ_ h=>h.n3) _ Tryz.underlying84 rfl) Sr0.out ?_;refine tK 13 _ rfl (a0a (by kernel_rfl) (.tmp 4) rfl (.pointer (some ⟨gy,0,none⟩)) (by kernel_rfl)) Sr0.out ?_;refine tK 14 _ rfl (p0a (by kernel_rfl) (.tmp 24) rfl ⟨gy,0,none⟩ (by kernel_rfl)) Sr0.out ?_;refine tK 15 _ rfl (e0a (by kernel_rfl) _ (.tmp 25) 0 rfl (.pointer (some ⟨gy,0,none⟩)) (.pointer (some ⟨gy,0,none⟩)) (by kernel_rfl) (λw=>by go_simp)) Sr0.out ?_;refine tK 16 _ rfl (e0a (by kernel_rfl) _ (.tmp 26) 2 rfl (.pointer (some ⟨gy,0,none⟩)) (.pointer (some ⟨gy,2,none⟩)) (by kernel_rfl) (λw=>by go_simp)) Sr0.out ?_;refine tK 17 _ rfl (b0a (by kernel_rfl) _ (.tmp 27) rfl gy (2) (by kernel_rfl) (V0a s) (λ_ h=>h.n2) _ Tryz.underlying9 rfl) Sr0.out ?_;refine oN 18 _ rfl λK hK=>?_
 go_simp;refine CR.out.mono ?_;rintro e w2 ⟨rfl,⟨M',p2,e2⟩,lc⟩;have P2:=hI p2;have E2:=hI e2;refine hK _ _ lc ?_;clear hK K p2 e2 lc;refine dN ?_;go_wp2_with fail;go_end0;exact⟨rfl,_,P2.out,E2.out⟩
theorem H2b(h:o2a DI EI w base q m D Q T M R)(htb:DI.tb base w)(hy:y∈M)(hz:z∈M)(hyz:z.1.n≠y.1.n)(hk:z.1.kind=1)(hs:s.length<=1048576)(hlen:∀K,Kid R z.1.n K->K.length<4096)(hR:∀K,Kid R z.1.n K->Kid R' z.1.n (d2c K (ba s) y.1.n))(hR2:∀d p,d≠z.1.n->((d,p)∈R↔(d,p)∈R')){d:Int}(hn:y.1.n=n)(hd:z.1.n=d) :
  Calls Tryz.prog 71 #[R0a q,.int .i64 n,.int .i64 d,V0a s] w λe w'=>e=.returned (.tuple #[])/\∃M',m3a DI EI w base q m M Q T M' R' w'/\M'.map (·.1)=f4a (M.map (·.1)) n d s:=by
 have FACT:Hid (∀w2,g0a (λj=>j=y.2.g) w w2->Blk w2 y.2.g 87 [.int .u8 y.1.kind,.int .i64 d,V0a s,d2b y,p0b y]->w2.cell? ⟨q,1,none⟩=some (.map (some m))/\(Instr.lookup 69 (.map (some m)) (.int .i64 d) false).run Tryz.prog w2=.ok (.pointer (some ⟨z.2.g,0,none⟩)) w2/\w2.cell? ⟨z.2.g,3,none⟩=some (T1b z.2.q)/\
   ∃E,Calls Tryz.prog 119 #[T1b z.2.q,V0a s,.int .i64 n] w2 λe w'=>e=.returned (.int .i64 E)/\∃M',m3a DI EI w base q m M Q T M' R' w'/\M'.map (·.1)=f4a (M.map (·.1)) n d s):=by
  intro w2 a hB;have p:=h.up hy (y':=(⟨y.1.n,y.1.kind,d,s,y.1.B,y.1.Z⟩,y.2)) (R':=R) rfl rfl rfl (a.mono λj _ e=>.inl e) hB (λhk=>by obtain⟨K,k,d⟩:=h.dirs y hy hk;exact⟨K,k,DI.keep d a λj hj e=>(h.own y hy j hj).2.2 y hy e⟩) (λhk=>EI.keep (h.files y hy hk) a λj hj e=>(h.own y hy j hj).2.2 y hy e) (λj hj=>.inl hj) λ_ _ _=>Iff.rfl
  have htb2:=h.tbs htb p;have hp:=p;obtain⟨D2,p2,s2,n2⟩:=hp;have hz2:z∈G4b M y.1.n (⟨y.1.n,y.1.kind,d,s,y.1.B,y.1.Z⟩,y.2):=List.mem_map.2 ⟨z,hz,if_neg hyz⟩;obtain⟨K,k,dd⟩:=p2.dirs z hz2 hk;have l2:=p2.look1 hz2;rw[hd] at l2;have c3:=p2.n3 hz2;rw[f5a hk] at c3;have hi:=h.i64 hy;rw[hn] at hi;refine⟨p2.c1,l2,c3,a2b K (ba s),(DI.add dd htb2 p2.hb (s:=ba s) hs hi (hlen K k)).mono λe w' ht=>?_⟩;have hRK:=hR K k;rw[hn] at hRK;obtain⟨he,M',p3,e3⟩:=p2.turnDir hz2 hk hRK hR2 ht;refine⟨he,M',p.trans p3,?_⟩;rw[e3,X2c h hy,hn]
 have lky:=h.look1 hy;rw[hn] at lky;have k1:=h.c1;have By:=hI (h.node y hy).2;have n0:=h.n0 hy;have n1:=h.n1 hy;have n2:=h.n2 hy;unfold k1b at By;obtain⟨gy,hgy⟩:∃g,g=y.2.g:=⟨_,rfl⟩;obtain⟨gz,hgz⟩:∃g,g=z.2.g:=⟨_,rfl⟩;obtain⟨a0,ha0⟩:∃a,a=Value.int .u8 y.1.kind:=⟨_,rfl⟩;obtain⟨a3,ha3⟩:∃a,a=d2b y:=⟨_,rfl⟩;obtain⟨a4,ha4⟩:∃a,a=p0b y:=⟨_,rfl⟩;obtain⟨u,hu⟩:∃u,u=T1b z.2.q:=⟨_,rfl⟩;rw[<-hgy] at lky By n0 n1 n2 FACT;rw[<-hgz,<-hu] at FACT;rw[<-ha0,<-ha3,<-ha4] at By FACT;clear h htb hy hz hyz hk hs hlen hR hR2 hn hd hgy hgz ha0 ha3 ha4 hu n0 n1 n2;unfold R0a at lky⊢;unfold V0a at *;go_enter Tryz.func71,Tryz.ntmps71;go_wp2_with(first
  | ((with_reducible refine sT 21 ?_);go_loud (refine q0a rfl _ (.tmp 21) (.tmp 17) rfl gy 1 rfl _ _ (.int .i64 d) rfl By (show 1<5 by omega) (by kernel_rfl) rfl ?_);intro w1 B1 O1 hg1)
  | ((with_reducible refine sT 24 ?_);go_loud (refine q0a rfl _ (.tmp 24) (.tmp 18) rfl gy 2 rfl _ _ (.string ⟨s.toArray⟩) rfl B1 (show 2<5 by omega) (by kernel_rfl) rfl ?_);intro w2 B2 O2 hg2;go_loud (obtain⟨c1,lz,c3,E,ca⟩:=FACT.out w2 (g0a.of_only (O1.out.trans O2.out)) B2.out);have CA:=hI ca;clear ca)
  | fail)
 refine CA.out.mono ?_;rintro e w3 ⟨rfl,M',p3,e3⟩;have P3:=hI p3;have E3:=hI e3;clear p3 e3;go_wp2_with fail;go_end0;exact⟨rfl,_,P3.out,E3.out⟩
theorem x0c(h:o2a DI EI w base q m D Q T M R)(htb:DI.tb base w)(hy:y∈M)(hz:z∈M)(hyz:y.1.par=z.1.n)(hk:z.1.kind=1)(hs:y.1.name.length<=1048576)(hR:∀K,Kid R z.1.n K->Kid R' z.1.n (n0b K (ba y.1.name)))(hR2:∀d p,d≠z.1.n->((d,p)∈R↔(d,p)∈R'))(hn:y.1.n=n) :
  Calls Tryz.prog 69 #[R0a q,.int .i64 n] w λe w'=>e=.returned (.tuple #[])/\∃M',m3a DI EI w base q m M Q T M' R' w'/\M'.map (·.1)=z1a (M.map (·.1)) n:=by
 have CL:Hid (Calls Tryz.prog 70 #[R0a q,.int .i64 n] w λe w'=>e=.returned (.tuple #[])/\∃K D2,q0b w' m K D2/\w'.cell? ⟨q,1,none⟩=some (.map (some m))/\∀w3 K',q0b w3 m K' (D2.del (.int .i64 n))->w'.mapTurned w3 m->∃M',m3a DI EI w base q m M Q T M' R' w3/\M'.map (·.1)=z1a (M.map (·.1)) n):=by
  refine(G2b h htb hy hz hyz hk hs hR hR2 hn).mono ?_;rintro e w' ⟨he,M1,p1,e1⟩;have hp:=p1;obtain⟨D2,p2,s2,n2⟩:=hp;obtain⟨y',hy',ey⟩:∃y'∈M1,y'.1=y.1:=List.mem_map.1 (by rw[e1];exact List.mem_map.2 ⟨y,hy,rfl⟩);refine⟨he,_,D2,p2.map,p2.c1,λw3 K' hM ht=>?_⟩;have hn':y'.1.n=n:=by rw[ey];exact hn
  rw[<-hn'] at hM⊢;exact⟨_,p1.trans (p2.away hy' (g0a.of_turned ht) hM),by rw[(f0b p2 hy').2.2.2,e1]⟩
 have hi:=h.i64 hy;rw[hn] at hi;have HK:=hI (L9a hi);clear h htb hy hz hyz hk hs hR hR2 hn hi;unfold R0a at CL⊢;go_enter Tryz.func69,Tryz.ntmps69;go_wp2_with fail;refine CL.out.mono ?_;rintro e w1 ⟨rfl,K,D2,m1,c1,fin⟩;have M1:=hI m1;have FIN:=hI fin;clear m1 fin;go_wp2_with(first
  | ((with_reducible show wpList _ _ _ (⟨none,.call _,_,_,_,_⟩::_) _ _);go_loud (refine wpList_delete_own _ rfl (.tmp 10) (.tmp 11) 69 3 rfl 81 u3a Tryz.underlying69 g4b m K D2 rfl M1.out (.int .i64 n) (.int .i64 n) rfl HK.out ?_);intro w2 o2 t2;go_loud (obtain⟨M',p',e'⟩:=FIN.out w2 _ o2 t2);have P':=hI p';have E':=hI e';clear o2 t2 p' e')
  | fail)
 go_end0;exact⟨rfl,_,P'.out,E'.out⟩
end
def X3c(DI:DrI)(EI:FiI)(w:World)(k:Int)(P:PN)(w':World):Prop:=w.heap.size<=P.g/\Blk w' P.g 87 (k1b (⟨0,k,0,[],[],[]⟩,P))/\(k=1->DI.is w' w.heap.size P.q [] P.S)/\(k=2->EI.is w' w.heap.size P.q [] [] P.S)/\(∀j,P.S j->w.heap.size<=j/\j≠P.g)/\Below w.heap.size w w'
theorem y7b(DI:DrI)(EI:FiI)(w:World)(htb:DI.tb w.heap.size w):Calls Tryz.prog 72 #[.int .u8 1] w λe w'=>∃P,e=.returned (R0a P.g)/\X3c DI EI w 1 P w':=by
 have CN:Hid (∀w',Below w.heap.size w w'->Calls Tryz.prog 120 #[] w' λe w2=>∃q S,e=.returned (T1b q)/\DI.is w2 w'.heap.size q [] S/\Below w'.heap.size w' w2):=λw' hb=>DI.new (DI.tbUp (DI.tbNext htb hb) hb.size) (Nat.le_refl _)
 have GE:Hid (∀w b q L S,DI.is w b q L S->∀j,S j->b<=j/\j<w.heap.size):=λ_ _ _ _ _ h=>DI.ge h
 have KP:Hid (∀w w' b q L S g,DI.is w b q L S->S1a g w w'->¬S g->DI.is w' b q L S):=λ_ _ _ _ _ _ _ h o hg=>DI.keep h (g0a.of_only o) λj hj e=>hg (e▸hj)
 have MO:Hid (∀w b b' q L S,DI.is w b q L S->b'<=b->DI.is w b' q L S):=λ_ _ _ _ _ _ h hb=>DI.mono h hb
 clear htb;unfold T1b at CN;go_enter Tryz.func72,Tryz.ntmps72;go_wp2_with(first
  | ((with_reducible refine sN 5 ?_);go_loud (refine A0a rfl _ _ rfl [.int .u8 1,.int .i64 0,.string .empty] (by kernel_rfl) ?_))
  | ((with_reducible refine sN 6 ?_);go_loud (refine A0a rfl _ _ rfl [.int .u8 1,.int .i64 0,.string .empty,.pointer none,.pointer none] (by kernel_rfl) ?_))
  | ((with_reducible refine sN 7 ?_);go_loud (refine v0a rfl _ (.tmp 6) rfl [.int .u8 1,.int .i64 0,.string .empty,.pointer none,.pointer none] rfl ?_);intro g w1 hg1 hg2 B1 L1)
  | fail)
 refine(CN.out w1 L1.out).mono ?_;rintro e w2 ⟨qd,Sd,rfl,d2,l2⟩;have D2:=hI d2;have B2:=hI (B1.out.over l2);have L2:=hI (step L1.out l2);have NS:Hid (¬Sd g):=λhs=>by have:=(GE.out _ _ _ _ _ d2 g hs).1;omega
 clear d2 l2;go_wp2_with(first
  | ((with_reducible refine sT 14 ?_);go_loud (refine q0a rfl _ (.tmp 14) (.tmp 12) rfl g 3 rfl _ _ (.pointer (some ⟨qd,0,none⟩)) rfl B2 (show 3<5 by omega) (by kernel_rfl) rfl ?_);intro w3 B3 O3 hg3)
  | fail)
 go_ret;have hge:∀j,Sd j->w.heap.size<=j:=λj hj=>by have:=(GE.out _ _ _ _ _ D2.out j hj).1;omega
 refine⟨⟨g,qd,Sd⟩,rfl,hg1,B3.out,λ_=>MO.out _ _ _ _ _ _ (KP.out _ _ _ _ _ _ _ D2.out O3.out NS.out) (by omega),(λe=>by cases e),λj hj=>⟨hge j hj,λe=>NS.out (by have e2:j=g:=e;rw[<-e2];exact hj)⟩,r0a L2.out O3.out hg1⟩
theorem y0c(DI:DrI)(EI:FiI)(w:World):Calls Tryz.prog 72 #[.int .u8 2] w λe w'=>∃P,e=.returned (R0a P.g)/\X3c DI EI w 2 P w':=by
 have CN:Hid (∀w',Calls Tryz.prog 121 #[] w' λe w2=>∃q S,e=.returned (ptr q)/\EI.is w2 w'.heap.size q [] [] S/\Below w'.heap.size w' w2):=λw'=>EI.new w'
 have GE:Hid (∀w b q B Z S,EI.is w b q B Z S->∀j,S j->b<=j/\j<w.heap.size):=λ_ _ _ _ _ _ h=>EI.ge h
 have KP:Hid (∀w w' b q B Z S g,EI.is w b q B Z S->S1a g w w'->¬S g->EI.is w' b q B Z S):=λ_ _ _ _ _ _ _ _ h o hg=>EI.keep h (g0a.of_only o) λj hj e=>hg (e▸hj)
 have MO:Hid (∀w b b' q B Z S,EI.is w b q B Z S->b'<=b->EI.is w b' q B Z S):=λ_ _ _ _ _ _ _ h hb=>EI.mono h hb
 unfold ptr at CN;go_enter Tryz.func72,Tryz.ntmps72;go_wp2_with(first
  | ((with_reducible refine sN 5 ?_);go_loud (refine A0a rfl _ _ rfl [.int .u8 2,.int .i64 0,.string .empty] (by kernel_rfl) ?_))
  | ((with_reducible refine sN 6 ?_);go_loud (refine A0a rfl _ _ rfl [.int .u8 2,.int .i64 0,.string .empty,.pointer none,.pointer none] (by kernel_rfl) ?_))
  | ((with_reducible refine sN 7 ?_);go_loud (refine v0a rfl _ (.tmp 6) rfl [.int .u8 2,.int .i64 0,.string .empty,.pointer none,.pointer none] rfl ?_);intro g w1 hg1 hg2 B1 L1)
  | fail)
 refine(CN.out w1).mono ?_;rintro e w2 ⟨qd,Sd,rfl,d2,l2⟩;have D2:=hI d2;have B2:=hI (B1.out.over l2);have L2:=hI (step L1.out l2);have NS:Hid (¬Sd g):=λhs=>by have:=(GE.out _ _ _ _ _ _ d2 g hs).1;omega
 clear d2 l2;go_wp2_with(first
  | ((with_reducible refine sT 20 ?_);go_loud (refine q0a rfl _ (.tmp 20) (.tmp 18) rfl g 4 rfl _ _ (.pointer (some ⟨qd,0,none⟩)) rfl B2 (show 4<5 by omega) (by kernel_rfl) rfl ?_);intro w3 B3 O3 hg3)
  | fail)
 go_ret;have hge:∀j,Sd j->w.heap.size<=j:=λj hj=>by have:=(GE.out _ _ _ _ _ _ D2.out j hj).1;omega
 refine⟨⟨g,qd,Sd⟩,rfl,hg1,B3.out,(λe=>by cases e),λ_=>MO.out _ _ _ _ _ _ _ (KP.out _ _ _ _ _ _ _ _ D2.out O3.out NS.out) (by omega),λj hj=>⟨hge j hj,λe=>NS.out (by have e2:j=g:=e;rw[<-e2];exact hj)⟩,r0a L2.out O3.out hg1⟩
end Go.Proofs.YtdgpbhdihhchgaaGreatDoor
