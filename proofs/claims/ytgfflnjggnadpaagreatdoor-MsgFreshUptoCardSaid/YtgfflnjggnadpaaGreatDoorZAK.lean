import Derived.Test.YtgfflnjggnadpaaGreatDoorZAI
import Derived.Test.YtgfflnjggnadpaaGreatDoorS0
set_option linter.all false
set_option maxHeartbeats 8000000
set_option maxRecDepth 100000
namespace Go.Proofs.YtgfflnjggnadpaaGreatDoor
open Go.RowKit
section
variable {w w':World} {g B base:Nat} {xs:List Int}
end
theorem p8a{w:World}{ops:Array Oper}{rest:List Oper}{o:Oper}{a:Act}{Q:Exit->Act->World->Prop}(hgd:o.guard=none)(s x:Operand)
(ho:o.op=.call { callee:=.builtin .append,args:=#[s,x],argTypes:=#[31,31] })
(base:Nat)(v:Value)(xs:List Int)(hs:a.eval s=v)(hown:Own w base v xs)(B:Nat)(A:Option Addr)(m c:Nat)(ys:List Int)(hx:a.eval x=.slice A m c)
(hr:Holds w B A m c ys)(hlen:xs.length+ys.length<=140737488355328)(hbase:base<=w.heap.size)
(h:∀v' w',Hid (Own w' base v' (xs++ys))->Below base w w'->w.grownBy w' v.ownBlock->wpList Tryz.prog ops Q rest (a.put o.dst v') w') :
  wpList Tryz.prog ops Q (o::rest) a w:=by
 obtain⟨i0,hi,hz0,hz1,hz2⟩:=info_parts N3a;have hl:=hr.len;rcases A with _ | ad
 ·have hc:=hr.bare rfl;have hf:=hr.fit;have hm:m=0:=by omega
  subst hm;subst hc;have:ys=[]:=List.eq_nil_of_length_eq_zero hl;subst this;refine wpList_append_own_none hgd s x 31 ho base 5 i0 1 Tryz.underlying31 hi v xs.length _ hs hown hx ?_;exact h v w (by rw[List.append_nil];exact hown) (Below.refl _ _) (World.grownBy.refl w _)
 ·refine wpList_append_own w hgd s x 31 ho base 5 i0 (.int .u8 0) 1 1 Tryz.underlying31 hi hz0 hz1 hz2 rfl (by omega) v xs.length _ hs hown ad m c (ys.map (Value.int .u8)) hx (by simp[hl]) ?_
   (by intro v hv;obtain⟨x,_,rfl⟩:=List.mem_map.1 hv;rfl) (by unfold maxLen;omega) (by omega) hbase ?_
  ·intro j u hj;have hjl:j<ys.length:=by
    by_cases hj':j<ys.length
    ·exact hj'
    ·rw[List.getElem?_eq_none (by simp;omega)] at hj;cases hj
   obtain⟨b,off,he,_,hcl⟩:=hr.cells (by omega);obtain rfl:=Option.some.inj he;have e:(⟨b,off,none⟩:Addr).add j=⟨b,off+j,none⟩:=by
    by_cases hj0:j=0
    ·subst hj0;simp[Addr.add]
    ·simp[Addr.add,hj0]
   rw[e,hcl j (by omega),<-hj];simp[hjl]
  ·intro v' w' hown' hgr _;refine h v' w' ?_ ((Below.refl _ _).grown hgr hbase (λk hk=>(hown.lt k hk).1)) hgr;show World.ownsRow _ _ _ _ _ _ _
   rw[List.length_append,List.map_append,hl];exact hown'
theorem D3b(w:World)(A:Option Addr)(n c:Nat)(xs:List Int)(h:Holds w w.heap.size A n c xs)(hn:n<=140737488355328) :
  Calls Tryz.prog 16 #[.slice A n c] w λe w'=>∃v,e=.returned v/\Own w' w.heap.size v xs/\Below w.heap.size w w':=by
 have hxl:xs.length<=140737488355328:=by have:=h.len;omega
 go_enter Tryz.func16,Tryz.ntmps16;go_wp2_with(at_builtin;refine p8a rfl (.tmp 4) (.tmp 5) rfl w.heap.size _ [] rfl (Own.nil _ _) w.heap.size A n c xs rfl h (by simpa using hxl) (Nat.le_refl _) ?_;intro v1 w1 ho1 hb1 hgr);have ho:=ho1.out;rw[List.nil_append] at ho;go_ret;exact⟨_,rfl,ho,hb1⟩
theorem Own.holds_at{w:World}{base n c:Nat}{A:Option Addr}{xs:List Int}(h:Own w base (.slice A n c) xs)(hl:xs.length=n)(hx:Bytes xs)(hn:n<=281474976710656):Holds w w.heap.size A n c xs:=by
 obtain⟨A1,c1,e,hh⟩:=h.holds hx (by omega);rw[hl] at e hh;injection e with e1 e2 e3
 subst e1;subst e3;exact hh
open Go.RowKit Go.ChangeShapes Go.WideShapes
section
variable {α:Type} {f:α->Value} {w w' w2:World} {B B' base base' b:Nat} {A:Option Addr} {n c:Nat} {xs ys:List α} {e e' T:TypeId} {v v' u:Value}
theorem q5a.oneCell(h:q5a f e w base v xs):v.oneCell'=true:=by obtain⟨A,n,c,rfl,_⟩:=h.open;rfl
end
section
variable {α:Type} {f:α->Value} {P:Program} {w:World} {ops:Array Oper} {rest:List Oper} {o:Oper} {a:Act} {Q:Exit->Act->World->Prop}
end
section
variable {H:Type} {enc:TypeId×Value->H} {P:Program} {W:World} {base:Nat} {t e:TypeId} {v:Value} {d:DataW H} {p:List MemPlace}
end
section
variable {α:Type} {f:α->Value} {P:Program} {w:World} {ops:Array Oper} {rest:List Oper} {o:Oper} {a:Act} {Q:Exit->Act->World->Prop}
theorem q8a(hgd:o.guard=none)(s x:Operand)(f:α->Value)(hf:∀y,(f y).oneCell'=true)(z:Value)(hzc:z.cells.size=1)(T e:TypeId)(bytes:Nat)
(ht:P.underlying T=some (.slice e))(hi:(P.info? e).map (λi=>(i.zero,i.size,i.bytes))=some (some z,1,bytes))
(ho:o.op=.call { callee:=.builtin .append,args:=#[s,x],argTypes:=#[T,T] })
(base:Nat)(v:Value)(xs:List α)(hs:a.eval s=v)(hown:q5a f e w base v xs)(B:Nat)(A:Option Addr)(m c:Nat)(ys:List α)(hx:a.eval x=.slice A m c)
(hr:G1a f w B A m c ys)(hlen:(xs.length+ys.length)*bytes<=140737488355328)(h63:xs.length+ys.length<=9223372036854775807)(hbase:base<=w.heap.size)
(h:∀v' w',Hid (q5a f e w' base v' (xs++ys))->Hid (Below base w w')->wpList P ops Q rest (a.put o.dst v') w') :
  wpList P ops Q (o::rest) a w:=by
 obtain⟨i0,hi0,hz0,hz1,hz2⟩:=info_parts hi;have hl:=hr.len;rcases A with _ | ad
 ·have hc:=hr.bare rfl;have hft:=hr.fit;have hm:m=0:=by omega
  subst hm;subst hc;have:ys=[]:=List.eq_nil_of_length_eq_zero hl;subst this;refine wpList_append_own_none hgd s x T ho base e i0 1 ht hi0 v xs.length _ hs hown hx ?_;exact h v w (by rw[List.append_nil];exact hown) (Below.refl _ _)
 ·refine wpList_append_own w hgd s x T ho base e i0 z 1 bytes ht hi0 hz0 hz1 hz2 hzc (by omega) v xs.length _ hs hown ad m c (ys.map f) hx (by simp[hl]) ?_
   (by intro v hv;obtain⟨x,_,rfl⟩:=List.mem_map.1 hv;exact hf x) (by unfold maxLen;omega) (by rw[<-hl];exact hlen) hbase ?_
  ·intro j u hj;have hjl:j<ys.length:=by
    by_cases hj':j<ys.length
    ·exact hj'
    ·rw[List.getElem?_eq_none (by simp;omega)] at hj;cases hj
   obtain⟨b,off,he,_,hcl⟩:=hr.cells (by omega);injection he with he
   subst he;have e:(⟨b,off,none⟩:Addr).add j=⟨b,off+j,none⟩:=by
    by_cases hj0:j=0
    ·subst hj0;simp[Addr.add]
    ·simp[Addr.add,hj0]
   rw[e,hcl j ys[j] (List.getElem?_eq_getElem hjl),<-hj];simp[hjl]
  ·intro v' w' hown' hgr _;refine h v' w' ?_ ((Below.refl _ _).grown hgr hbase (λk hk=>(World.ownsRow.lt hown k hk).1));show World.ownsRow _ _ _ _ _ _ _
   rw[List.length_append,List.map_append,hl];exact hown'
end
section
variable {α:Type} {f:α->Value} {e:TypeId} {w:World} {base g n c:Nat} {xs:List α}
end
section
open Go.ChangeShapes Go.WideShapes
variable {H:Type} {enc:TypeId×Value->H} {P:Program} {W:World} {base:Nat} {t e:TypeId} {v:Value} {d:DataW H} {p:List MemPlace}
end
set_option maxRecDepth 100000
section
variable {P:Program} {w:World} {d:Nat} {xs ys:Array Value} {r:List (Bool×TypeId×Nat)} {q:Bool}
end
theorem E3b(w:World)(A:Option Addr)(n c:Nat)(xs:List g2a)(h:d1a E0a 4 w w.heap.size A n c xs)(hn:n<=4398046511103) :
  Calls Tryz.prog 34 #[.slice A n c] w λe w'=>∃v,e=.returned v/\r5a E0a 4 114 w' w.heap.size v xs/\Below w.heap.size w w':=by
 have hxl:xs.length<=4398046511103:=by have:=h.len;omega
 go_enter Tryz.func34,Tryz.ntmps34;go_wp2_with(at_builtin;refine Q3a rfl (.tmp 4) (.tmp 5) E0a 4 (by omega) Y2a k6a _ rfl 32 114 32 Tryz.underlying32 R3b rfl w.heap.size _ [] rfl (r5a.nil _ _ _ _ _) w.heap.size A n c xs rfl h (by simp;omega) (by simp;omega) (Nat.le_refl _) ?_;intro v1 w1 ho1 hb1);have ho:=ho1.out;rw[List.nil_append] at ho;go_ret;exact⟨_,rfl,ho,hb1.out⟩
theorem v9b:(Tryz.prog.info? 22).map (λi=>(i.zero,i.size,i.bytes))=some (some (.int .u16 0),1,2):=by kernel_rfl
section
variable {a:m1a} {s:M1a} {vd vx vl ve v:Value}
theorem z0c:(j0a vd vx vl a).set 0 v=j0a v vx vl a:=rfl
theorem A0c(k:a.ok):(j0a vd vx vl a).set 61 v=j0a vd v vl a:=G7a k 12 v
theorem B0c(k:a.ok):(j0a vd vx vl a).set 62 v=j0a vd vx v a:=G7a k 13 v
theorem Q2b(k:s.ok)(i:Nat)(u:Value):(r0a vx ve s).set (10+i) u=.int .u16 s.dia::.int .u64 s.siz::(s.chal.map (Value.int .u8)++(b2b vx ve s).set i u):=by
 unfold r0a;rw[show 10+i=(8+i)+1+1 from by omega,List.set_cons_succ,List.set_cons_succ,List.set_append_right _ _ (by rw[List.length_map,k.clen];omega),List.length_map,k.clen]
 congr 4
 omega
theorem C0c(k:s.ok):(r0a vx ve s).set 15 v=r0a v ve s:=Q2b k 5 v
theorem D0c(k:s.ok):(r0a vx ve s).set 17 v=r0a vx v s:=Q2b k 7 v
end
def I5a(lo:Nat)(o:Option Value):Prop:=∀b off s n c,o=some (.slice (some ⟨b,off,s⟩) n c)->lo<=b
theorem A7a{w:World}{base lo:Nat}{e:TypeId}{s n:Nat}{v:Value}{xs:List Value}(h:w.ownsRow base e s v n xs)(hl:lo<=base):I5a lo (some v):=λb off t m c hq=>by
 rcases h.2 with⟨rfl,_⟩ | ⟨g,cap,cur,rfl,h1,_⟩
 ·cases hq
 ·cases hq;omega
theorem H4b(w:World)(cs:List Value)(a:m1a)(k:a.ok)(h:f1a w w.heap.size cs a)(hb:a.dial.length<=70368744177663/\a.data.length<=140737488355328/\a.locks.length<=4398046511103) :
  Calls Tryz.prog 18 #[.agg cs.toArray] w λe w'=>∃cs',e=.returned (.agg cs'.toArray)/\f1a w' w'.heap.size cs' a/\Below w.heap.size w w'/\(I5a w.heap.size cs'[0]?/\I5a w.heap.size cs'[61]?/\I5a w.heap.size cs'[62]?):=by
 obtain⟨hbd,hbx,hbl⟩:=hb;have HL:=hI (h.len k);have HO:=hI h.one;obtain⟨Ad,nd,cd,Ax,nx,cx,Al,nl,cl,rfl,hd,hx,hl⟩:=h;have HD:=hI hd;have HX:=hI hx;have HLK:=hI hl;have hnx:nx<=140737488355328:=by have:=hx.len;omega
 have hnl:nl<=4398046511103:=by have:=hl.len;omega
 have E0:Hid ((j0a (.slice Ad nd cd) (.slice Ax nx cx) (.slice Al nl cl) a)[0]? = some (.slice Ad nd cd)):=rfl;have E1:Hid (∀v,(j0a v (.slice Ax nx cx) (.slice Al nl cl) a)[61]? = some (.slice Ax nx cx)):=λv=>p0a k 12
 have E2:Hid (∀v u,(j0a v u (.slice Al nl cl) a)[62]? = some (.slice Al nl cl)):=λv u=>p0a k 13
 have S0:Hid (∀v,(j0a (.slice Ad nd cd) (.slice Ax nx cx) (.slice Al nl cl) a).set 0 v=j0a v (.slice Ax nx cx) (.slice Al nl cl) a):=λv=>z0c
 have S1:Hid (∀v u,(j0a v (.slice Ax nx cx) (.slice Al nl cl) a).set 61 u=j0a v u (.slice Al nl cl) a):=λv u=>A0c k
 have S2:Hid (∀v u t,(j0a v u (.slice Al nl cl) a).set 62 t=j0a v u t a):=λv u t=>B0c k
 have LN:Hid (∀v u t,(j0a v u t a).length=69):=λv u t=>I1a k
 have ON:Hid (∀v u t,v.oneCell'=true->u.oneCell'=true->t.oneCell'=true->∀x∈j0a v u t a,x.oneCell'=true):=λv u t h1 h2 h3=>x1a h1 h2 h3
 have G1:Hid (∀v u t,(j0a v u t a)[61]? = some u):=λv u t=>p0a k 12
 have G2:Hid (∀v u t,(j0a v u t a)[62]? = some t):=λv u t=>p0a k 13
 have ZH:=hI H7a;have HZ:Hid ((j0a (.slice none 0 0) (.slice none 0 0) (.slice none 0 0) i0a).length=69):=I1a h0a;obtain⟨zs,hzs⟩:∃zs,zs=j0a (.slice none 0 0) (.slice none 0 0) (.slice none 0 0) i0a:=⟨_,rfl⟩;rw[<-hzs] at ZH HZ;obtain⟨cs,hcs⟩:∃cs,cs=j0a (.slice Ad nd cd) (.slice Ax nx cx) (.slice Al nl cl) a:=⟨_,rfl⟩;obtain⟨c1,hc1⟩:∃c1:Value->List Value,c1=λv=>j0a v (.slice Ax nx cx) (.slice Al nl cl) a:=⟨_,rfl⟩
 obtain⟨c2,hc2⟩:∃c2:Value->Value->List Value,c2=λv u=>j0a v u (.slice Al nl cl) a:=⟨_,rfl⟩
 have T0:Hid (∀v,cs.set 0 v=c1 v):=by intro v;rw[hcs,hc1];exact S0.out v
 have T1:Hid (∀v u,(c1 v).set 61 u=c2 v u):=by intro v u;rw[hc1,hc2];exact S1.out v u
 have T2:Hid (∀v u t,(c2 v u).set 62 t=j0a v u t a):=by intro v u t;rw[hc2];exact S2.out v u t
 have F1:Hid (∀v,(c1 v)[61]? = some (.slice Ax nx cx)):=by intro v;rw[hc1];exact E1.out v
 have F2:Hid (∀v u,(c2 v u)[62]? = some (.slice Al nl cl)):=by intro v u;rw[hc2];exact E2.out v u
 have N1:Hid (∀v,(c1 v).length=69):=by intro v;rw[hc1];exact LN.out _ _ _
 have N2:Hid (∀v u,(c2 v u).length=69):=by intro v u;rw[hc2];exact LN.out _ _ _
 rw[<-hcs] at E0 HL HO⊢;have hdl:=hd.len;clear hd hx hl k hzs hcs hc1 hc2 E1 E2 S0 S1 S2;go_enter Tryz.func18,Tryz.ntmps18;go_wp2_with(first
  | ((with_reducible refine sN 1 ?_);refine f0a rfl _ (.tmp 0) rfl cs rfl ?_;intro g w1 hg1 hg2 B1 L1)
  | ((with_reducible refine sN 2 ?_);refine a0a rfl _ rfl zs _ ZH ?_;intro g2 w2 hg3 hg4 Z2 L2;have B2:=hI (B1.out.over L2.out);have L12:=hI (step L1.out L2.out);have g0:=B2.out.at E0.out)
  | (at_builtin;refine q8a rfl (.tmp 4) (.tmp 6) (Value.int .u16) (λ_=>rfl) (.int .u16 0) rfl 29 22 2 Tryz.underlying29 v9b rfl w2.heap.size _ [] rfl (q5a.nil _ _ _ _) w.heap.size Ad nd cd a.dial rfl (HD.out.below L12.out) (by simp;omega) (by simp;omega) (Nat.le_refl _) ?_;intro v3 w3 O3 L3;have B3:=hI (B2.out.over L3.out);have hv3:=O3.out.oneCell)
  | ((with_reducible refine sT 8 ?_);refine d0a rfl _ (.tmp 8) (.tmp 7) rfl g 0 rfl _ cs v3 rfl B3 (by have:=HL.out;show 0<_;omega) (by kernel_rfl) hv3 ?_;intro w4 B4 P4 hg5;rw[T0.out] at B4;have g61:=B4.out.at (F1.out v3))
  | fail)
 have hgw2:=B2.out.lt;have L14:Hid (Below w.heap.size w w4):=c0a (L12.out.trans (L3.out.mono (by have:=L12.out.size;omega))) P4.out hg1;have hzg:g2≠g:=by have:=B1.out.lt;omega
 have Z4:Hid (Blk w4 g2 34 zs):=(Z2.out.over L3.out).only P4.out hzg;have O4:Hid (q5a (Value.int .u16) 22 w4 w2.heap.size v3 a.dial):=by have:=O3.out;rw[List.nil_append] at this;exact this.keep λi _ hi _=>P4.out.rest i (by have:=(this.block hi).1;omega)
 clear O3 B3 P4 Z2 B1 B2 L1 L2 L3 L12 g0;refine(D3b w4 Ax nx cx a.data (HX.out.over L14.out) hnx).mono ?_;rintro e w5 ⟨v5,rfl,O5,L5⟩;have B5:=hI (B4.out.over L5);have Z5:=hI (Z4.out.over L5);have O45:=hI (O4.out.below L5);have L15:=hI (step L14.out L5);have O5':=hI O5;have hv5:v5.oneCell'=true:=by obtain⟨A1,c1,rfl⟩:=O5.len;rfl
 have hgw4:=B4.out.lt;have hzw4:=Z4.out.lt;have hs45:=L14.out.size;clear B4 Z4 O4 L14 O5 g61;go_wp2_with(first
  | ((with_reducible refine sT 12 ?_);refine d0a rfl _ (.tmp 12) (.tmp 11) rfl g 61 rfl _ (c1 v3) v5 rfl B5 (by have:=N1.out v3;show 61<_;omega) (by kernel_rfl) hv5 ?_;intro w6 B6 P6 hg6;rw[T1.out] at B6;have g62:=B6.out.at (F2.out v3 v5))
  | fail)
 have L16:Hid (Below w.heap.size w w6):=c0a L15.out P6.out hg1;have Z6:Hid (Blk w6 g2 34 zs):=Z5.out.only P6.out hzg;have O46:Hid (q5a (Value.int .u16) 22 w6 w2.heap.size v3 a.dial):=O45.out.keep λi _ hi _=>P6.out.rest i (by have:=(O45.out.block hi).1;omega)
 have O56:Hid (Own w6 w4.heap.size v5 a.data):=by
  refine⟨O5'.out.1,?_⟩;rcases O5'.out.2 with h0 | ⟨q,cap,cur,rfl,h1,hq,rest⟩
  ·exact .inl h0
  ·exact .inr ⟨q,cap,cur,rfl,h1,(P6.out.rest q (by omega)).trans hq,rest⟩
 clear B5 Z5 O45 L15 O5' P6;refine(E3b w6 Al nl cl a.locks (HLK.out.over L16.out) hnl).mono ?_;rintro e w7 ⟨v7,rfl,O7,L7⟩;have B7:=hI (B6.out.over L7);have Z7:=hI (Z6.out.over L7);have O47:=hI (O46.out.below L7);have O57:=hI (O56.out.below L7);have L17:=hI (step L16.out L7);have O7':=hI O7;have hv7:v7.oneCell'=true:=by obtain⟨A1,n1,c1,rfl,_⟩:=O7.holds (by omega) Y2a;rfl
 have hgw6:=B6.out.lt;have hzw6:=Z6.out.lt;clear B6 Z6 O46 O56 L16 O7 g62;have HN3:Hid ((j0a v3 v5 v7 a).length=69):=LN.out _ _ _;have HO3:Hid (∀x∈j0a v3 v5 v7 a,x.oneCell'=true):=ON.out _ _ _ hv3 hv5 hv7;obtain⟨c3,hc3⟩:∃c3,c3=j0a v3 v5 v7 a:=⟨_,rfl⟩;have T3:Hid ((c2 v3 v5).set 62 v7=c3):=by show _=_;rw[hc3];exact T2.out _ _ _
 rw[<-hc3] at HN3 HO3;have HC3:=hI hc3;clear hc3;go_wp2_with(first
  | ((with_reducible refine sT 16 ?_);refine d0a rfl _ (.tmp 16) (.tmp 15) rfl g 62 rfl _ (c2 v3 v5) v7 rfl B7 (by have:=N2.out v3 v5;show 62<_;omega) (by kernel_rfl) hv7 ?_;intro w8 B8 P8 hg8;rw[T3.out] at B8;have Z8:Hid (Blk w8 g2 34 zs):=Z7.out.only P8.out hzg)
  | ((with_reducible refine sN 17 ?_);refine e0a rfl _ (.tmp 1) rfl g rfl _ c3 B8 69 _ Tryz.underlying34 rfl n0a HN3 ?_)
  | ((with_reducible refine sT 2 ?_);refine b0a rfl _ (.tmp 2) (.tmp 17) rfl g2 rfl _ zs c3 rfl Z8 69 n0a HZ HN3 HO3 ?_;intro w9 Z9 P9 hg9)
  | fail)
 have hg2w:w.heap.size<=g2:=by have:=L17.out.size;omega
 have L19:Below w.heap.size w w9:=c0a (c0a L17.out P8.out hg1) P9.out hg2w;refine bodyPost_ret (v:=.agg c3.toArray) ?_ rfl ⟨c3,rfl,?_⟩
 ·exact results_cell_row rfl _ _ g2 _ _ (0,0) _ rfl Z9.out Tryz.underlying34 rfl (by rw[n0a];have:=HN3.out;simp[this])
 ·have keep:∀i,i≠g->i≠g2->w9.heap[i]? = w7.heap[i]?:=λi h1 h2=>(P9.out.rest i h2).trans (P8.out.rest i h1)
  have hs9:w9.heap.size=w7.heap.size:=by rw[P9.out.size,P8.out.size]
  have D9:q5a (Value.int .u16) 22 w9 w2.heap.size v3 a.dial:=O47.out.keep λi _ hi _=>keep i (by have:=(O47.out.block hi).1;omega) (by have:=(O47.out.block hi).1;omega)
  have X9:Own w9 w4.heap.size v5 a.data:=by
   refine⟨O57.out.1,?_⟩;rcases O57.out.2 with h0 | ⟨q,cap,cur,rfl,h1,hq,rest⟩
   ·exact .inl h0
   ·exact .inr ⟨q,cap,cur,rfl,h1,(keep q (by omega) (by omega)).trans hq,rest⟩
  have K9:r5a E0a 4 114 w9 w6.heap.size v7 a.locks:=O7'.out.keep λi cs hi hcs=>keep i (by
   rcases O7'.out.2 with⟨h0,_⟩ | ⟨q,cap,cur,h0,h1,_⟩
   ·rw[h0] at hi;cases hi
   ·rw[h0] at hi;simp only[Value.ownBlock,Option.some.injEq] at hi;omega) (by
   rcases O7'.out.2 with⟨h0,_⟩ | ⟨q,cap,cur,h0,h1,_⟩
   ·rw[h0] at hi;cases hi
   ·rw[h0] at hi;simp only[Value.ownBlock,Option.some.injEq] at hi;omega)
  have u3:=A7a (lo:=w.heap.size) D9 (by omega);have u5:=A7a (lo:=w.heap.size) X9 (by omega);have u7:=A7a (lo:=w.heap.size) K9 (by omega);obtain⟨A3,n3,k3,rfl,H3⟩:=D9.holds;obtain⟨A5,k5,rfl,H5⟩:=X9.holds HX.out.byte (by omega);obtain⟨A7,n7,k7,rfl,H7⟩:=K9.holds (by omega) Y2a;refine⟨⟨A3,n3,k3,A5,_,k5,A7,n7,k7,HC3.out,H3,H5,H7⟩,L19,?_,?_,?_⟩
  ·rw[HC3.out];exact u3
  ·rw[HC3.out,G1.out];exact u5
  ·rw[HC3.out,G2.out];exact u7
section
variable {P:Program} {ops:Array Oper} {rest:List Oper} {o:Oper} {a:Act} {w:World} {Q:Exit->Act->World->Prop}
theorem R1b{K:Act->World->Prop}{E:Prop}(hg:o.guard=none)(ty:TypeId)(x y:Operand)(ho:o.op=.store ty x y)(g i:Nat)(hx:a.eval x=.pointer (some ⟨g,i,none⟩))(T:TypeId)(cs vs:List Value)(hy:a.eval y=.agg vs.toArray)
(hA:Hid (Blk w g T cs))(n:Nat)(hi:(P.info? ty).map (·.size)=some n)(hn:Hid (vs.length=n))(hl:Hid (i+n<=cs.length))(h1:Hid (∀v∈vs,v.oneCell'=true))
(h:∀w',Hid (Blk w' g T (cs.take i++(vs++cs.drop (i+n))))->Hid (T1a g w w')->g<w'.heap.size->K (a.put o.dst undef) w') :
  if Region.wanted o (yielded ops a.tmps)=true then Oper.wp P o a w K Q else E:=by
 have hw:Region.wanted o (yielded ops a.tmps)=true:=by simp[Region.wanted,hg]
 rw[if_pos hw];have hnn:=hn.out;refine wp_store_mid ty x y ho g i vs.toArray hx hy (U3b hA.out i _ (by have:=hl.out;simp;omega)) (by rw[hi];simp[hnn]) (all_oneCell_toArray h1.out) ?_;have hb:=Blk.setCells vs i w cs hA.out (by have:=hl.out;omega);rw[hnn] at hb;have hO:=World.setCells_only g vs i w;refine h _ hb hO ?_;have:=hO.size;rw[show(w.setCells g i vs.toArray.toList)=w.setCells g i vs from rfl,this];exact hA.out.lt
end
theorem I5b(w:World)(g n m N:Nat)(xs:List Int)(hn:n=xs.length)(hN:N=xs.length+m)(hm:N<=maxLen)(by_:Int)(h0:0<=by_/\by_<=255)(hr:Row w g (xs++List.replicate m 0)) :
  Calls Tryz.prog 17 #[.slice (some ⟨g,0,none⟩) n N,.int .u8 by_] w λe w'=>e=.returned (.tuple #[])/\T1a g w w':=by
 obtain⟨h00,h01⟩:=h0;have hnN:n<=N:=by omega
 have hm63:N<=9223372036854775807:=by rw[N5a] at hm;exact hm
 have HL:Hid ((xs++List.replicate m 0).length=N):=by show _=_;rw[List.length_append,List.length_replicate,hN]
 have HR:Hid (Row w g (xs++List.replicate m 0)):=hr;clear hr hn hN hm;go_enter Tryz.func17,Tryz.ntmps17;go_wp2;go_loopw [4] (λi wr=>∃k:Nat,k<=N/\i=.int .i64 k/\(∃ys:List Int,Hid (ys.length=N)/\Hid (Row wr g ys))/\Hid (T1a g w wr)) (λi _=>N-(intOf i).toNat)
 case atStart=>exact⟨0,Nat.zero_le _,rfl,⟨_,HL,HR⟩,T1a.refl _ _⟩
 case round=>
  obtain⟨k,hk,rfl,⟨ys,HY,hR⟩,hb⟩:=hrel;by_cases hlt:k<N
  ·have hc:=hR.out.cell (i:=k) (by have:=HY.out;omega);have hz:=hR.out.frozen k;obtain⟨old,hold⟩:∃old,old=ys.getD k 0:=⟨_,rfl⟩;rw[<-hold] at hc;clear hold;go_wp2;go_roundw
   case rel=>exact⟨k+1,by omega,by go_num,⟨_,(by show _=_;rw[List.length_set];exact HY.out),hR.out.set k _⟩,hb.out.setCell _ _⟩
   case measure=>simp[intOf];omega
  ·go_wp2;go_end0;exact⟨rfl,hb.out⟩
theorem w9b(w:World)(by_:Int)(h0:0<=by_/\by_<=255) :
  Calls Tryz.prog 17 #[.slice none 0 0,.int .u8 by_] w λe w'=>e=.returned (.tuple #[])/\Below w.heap.size w w':=by
 obtain⟨h00,h01⟩:=h0;go_enter Tryz.func17,Tryz.ntmps17;go_wp2;go_loop [4] (λi=>i=.int .i64 0) (λ_=>0)
 case atStart=>exact rfl
 case round=>subst hrel;go_wp2;go_end0;exact⟨rfl,Below.refl _ _⟩
theorem q7b(w:World)(g n N:Nat)(zs:List Int)(hnN:n<=N)(hN:zs.length=N)(hm:N<=maxLen)(by_:Int)(h0:0<=by_/\by_<=255)(hr:Row w g zs) :
  Calls Tryz.prog 17 #[.slice (some ⟨g,0,none⟩) n N,.int .u8 by_] w λe w'=>e=.returned (.tuple #[])/\T1a g w w'/\∃ys:List Int,ys.length=N/\Row w' g ys:=by
 obtain⟨h00,h01⟩:=h0;have hm63:N<=9223372036854775807:=by rw[N5a] at hm;exact hm
 have HL:Hid (zs.length=N):=hN;have HR:Hid (Row w g zs):=hr;clear hr hN hm;go_enter Tryz.func17,Tryz.ntmps17;go_wp2;go_loopw [4] (λi wr=>∃k:Nat,k<=N/\i=.int .i64 k/\(∃ys:List Int,Hid (ys.length=N)/\Hid (Row wr g ys))/\Hid (T1a g w wr)) (λi _=>N-(intOf i).toNat)
 case atStart=>exact⟨0,Nat.zero_le _,rfl,⟨_,HL,HR⟩,T1a.refl _ _⟩
 case round=>
  obtain⟨k,hk,rfl,⟨ys,HY,hR⟩,hb⟩:=hrel;by_cases hlt:k<N
  ·have hc:=hR.out.cell (i:=k) (by have:=HY.out;omega);have hz:=hR.out.frozen k;obtain⟨old,hold⟩:∃old,old=ys.getD k 0:=⟨_,rfl⟩;rw[<-hold] at hc;clear hold;go_wp2;go_roundw
   case rel=>exact⟨k+1,by omega,by go_num,⟨_,(by show _=_;rw[List.length_set];exact HY.out),hR.out.set k _⟩,hb.out.setCell _ _⟩
   case measure=>simp[intOf];omega
  ·go_wp2;go_end0;exact⟨rfl,hb.out,ys,HY.out,hR.out⟩
def r8a(w:World)(lo hi:Nat)(v:Value):Prop:=v=.slice none 0 0∨∃(g n N:Nat) (zs:List Int),v=.slice (some ⟨g,0,none⟩) n N/\n<=N/\N<=maxLen/\zs.length=N/\lo<=g/\g<hi/\Row w g zs
theorem r8a.of{w:World}{lo b:Nat}{v:Value}{xs:List Int}(h:X0a .u8 5 w b v xs)(hl:lo<=b):r8a w lo w.heap.size v:=by
 rcases h with⟨rfl,_⟩ | ⟨g,m,rfl,hg,hm,hr⟩
 ·exact .inl rfl
 ·exact .inr ⟨g,_,_,_,rfl,by omega,hm,by simp,by omega,Row.lt hr,hr⟩
theorem r8a.over{w w':World}{lo hi:Nat}{v:Value}(h:r8a w lo hi v)(hb:Below w.heap.size w w'):r8a w' lo hi v:=by
 rcases h with rfl | ⟨g,n,N,zs,rfl,h1,h2,h3,h4,h5,hr⟩
 ·exact .inl rfl
 ·exact .inr ⟨g,n,N,zs,rfl,h1,h2,h3,h4,h5,hr.over hb⟩
theorem r8a.only{w w':World}{lo hi q:Nat}{v:Value}(h:r8a w lo hi v)(hO:T1a q w w')(hq:q<lo):r8a w' lo hi v:=by
 rcases h with rfl | ⟨g,n,N,zs,rfl,h1,h2,h3,h4,h5,hr⟩
 ·exact .inl rfl
 ·exact .inr ⟨g,n,N,zs,rfl,h1,h2,h3,h4,h5,hr.only hO (by omega)⟩
theorem R2b(w:World)(lo hi:Nat)(v u:Value)(hlo:lo<=w.heap.size)(hv:r8a w lo hi v)(hu:r8a w lo hi u)(by_:Int)(h0:0<=by_/\by_<=255) :
  Calls Tryz.prog 17 #[v,.int .u8 by_] w λe w'=>e=.returned (.tuple #[])/\r8a w' lo hi u/\Below lo w w'/\∀i,hi<=i->i<w.heap.size->w'.heap[i]? = w.heap[i]?:=by
 rcases hv with rfl | ⟨g,n,N,zs,rfl,h1,h2,h3,h4,h5,hr⟩
 ·exact(w9b w by_ h0).mono λe w' ⟨q1,q2⟩=>⟨q1,hu.over q2,q2.mono hlo,λi _ hi=>q2.block i hi⟩
 ·refine(q7b w g n N zs h1 h3 h2 by_ h0 hr).mono λe w' ⟨q1,q2,ys,q3,q4⟩=>⟨q1,?_,q2.below h4,λi hi _=>q2.rest i (by omega)⟩
  rcases hu with rfl | ⟨g',n',N',zs',rfl,k1,k2,k3,k4,k5,kr⟩
  ·exact .inl rfl
  ·by_cases hg:g'=g
   ·subst hg;have hl:zs.length=zs'.length:=by
     have e:=hr.symm.trans kr;injection e with e
     injection e with e
     have:=congrArg Array.size e;simpa using this
    exact .inr ⟨g',n',N',ys,rfl,k1,k2,by omega,k4,k5,q4⟩
   ·exact .inr ⟨g',n',N',zs',rfl,k1,k2,k3,k4,k5,kr.only q2 hg⟩
theorem I4b(w:World)(cs:List Value)(a:M1a)(k:a.ok)(h:n1a w w.heap.size cs a)(hb:a.data.length<=140737488355328/\a.ents.length<=4398046511103) :
  Calls Tryz.prog 19 #[.agg cs.toArray] w λe w'=>∃cs',e=.returned (.agg cs'.toArray)/\n1a w' w'.heap.size cs' a/\Below w.heap.size w w'/\(I5a w.heap.size cs'[15]?/\I5a w.heap.size cs'[17]?):=by
 obtain⟨hbx,hbl⟩:=hb;have HL:=hI (h.len k);obtain⟨Ax,nx,cx,Al,nl,cl,rfl,hx,hl⟩:=h;have HX:=hI hx;have HLK:=hI hl;have hnx:nx<=140737488355328:=by have:=hx.len;omega
 have E1:Hid ((r0a (.slice Ax nx cx) (.slice Al nl cl) a)[15]? = some (.slice Ax nx cx)):=B0a k 5;have F2:Hid (∀u,(r0a u (.slice Al nl cl) a)[17]? = some (.slice Al nl cl)):=λu=>B0a k 7
 have S1:Hid (∀u,(r0a (.slice Ax nx cx) (.slice Al nl cl) a).set 15 u=r0a u (.slice Al nl cl) a):=λu=>C0c k
 have S2:Hid (∀u t,(r0a u (.slice Al nl cl) a).set 17 t=r0a u t a):=λu t=>D0c k
 have LN:Hid (∀u t,(r0a u t a).length=20):=λu t=>U1a k
 have ON:Hid (∀u t,u.oneCell'=true->t.oneCell'=true->∀x∈r0a u t a,x.oneCell'=true):=λu t h2 h3=>J1a h2 h3
 have J1:Hid (∀u t,(r0a u t a)[15]? = some u):=λu t=>B0a k 5
 have J2:Hid (∀u t,(r0a u t a)[17]? = some t):=λu t=>B0a k 7
 have ZH:=hI I7a;have HZ:Hid ((r0a (.slice none 0 0) (.slice none 0 0) q0a).length=20):=U1a G0a;obtain⟨zs,hzs⟩:∃zs,zs=r0a (.slice none 0 0) (.slice none 0 0) q0a:=⟨_,rfl⟩;rw[<-hzs] at ZH HZ;obtain⟨cs,hcs⟩:∃cs,cs=r0a (.slice Ax nx cx) (.slice Al nl cl) a:=⟨_,rfl⟩;obtain⟨c2,hc2⟩:∃c2:Value->List Value,c2=λu=>r0a u (.slice Al nl cl) a:=⟨_,rfl⟩
 have T1:Hid (∀u,cs.set 15 u=c2 u):=by intro u;rw[hcs,hc2];exact S1.out u
 have T2:Hid (∀u t,(c2 u).set 17 t=r0a u t a):=by intro u t;rw[hc2];exact S2.out u t
 have G2:Hid (∀u,(c2 u)[17]? = some (.slice Al nl cl)):=by intro u;rw[hc2];exact F2.out u
 have N2:Hid (∀u,(c2 u).length=20):=by intro u;rw[hc2];exact LN.out _ _
 rw[<-hcs] at E1 HL⊢;have hll:=hl.len;clear hx hl k hzs hcs hc2 F2 S1 S2;go_enter Tryz.func19,Tryz.ntmps19;go_wp2_with(first
  | ((with_reducible refine sN 1 ?_);refine f0a rfl _ (.tmp 0) rfl cs rfl ?_;intro g w1 hg1 hg2 B1 L1)
  | ((with_reducible refine sN 2 ?_);refine a0a rfl _ rfl zs _ ZH ?_;intro g2 w2 hg3 hg4 Z2 L2;have B2:=hI (B1.out.over L2.out);have L12:=hI (step L1.out L2.out);have g15:=B2.out.at E1.out)
  | fail)
 have hzg:g2≠g:=by have:=B1.out.lt;omega
 have hgw2:=B2.out.lt;have hzw2:=Z2.out.lt;have hs2:=L12.out.size;clear B1 L1 L2;refine(D3b w2 Ax nx cx a.data (HX.out.over L12.out) hnx).mono ?_;rintro e w5 ⟨v5,rfl,O5,L5⟩;have B5:=hI (B2.out.over L5);have Z5:=hI (Z2.out.over L5);have L15:=hI (step L12.out L5);have O5':=hI O5;have hv5:v5.oneCell'=true:=by obtain⟨A1,c1,rfl⟩:=O5.len;rfl
 clear B2 Z2 L12 O5 g15;go_wp2_with(first
  | ((with_reducible refine sT 7 ?_);refine d0a rfl _ (.tmp 7) (.tmp 6) rfl g 15 rfl _ cs v5 rfl B5 (by have:=HL.out;show 15<_;omega) (by kernel_rfl) hv5 ?_;intro w6 B6 P6 hg6;rw[T1.out] at B6;have g17:=B6.out.at (G2.out v5);have L16:Hid (Below w.heap.size w w6):=c0a L15.out P6.out hg1;have hzw6:g2<w6.heap.size:=by (have:=P6.out.size;have:=Z5.out.lt;omega))
  | (at_builtin;refine Q3a rfl (.tmp 8) (.tmp 10) z0a 3 (by omega) J2a x4a _ rfl 37 118 32 Tryz.underlying37 m2b rfl w6.heap.size _ [] rfl (r5a.nil _ _ _ _ _) w.heap.size Al nl cl a.ents rfl (HLK.out.below L16.out) (by simp;omega) (by simp;omega) (Nat.le_refl _) ?_;intro v7 w7 O7 L7;have B7:=hI (B6.out.over L7.out);have hv7:v7.oneCell'=true:=by (obtain⟨A1,n1,c1,hq,_⟩:=O7.out.holds (by omega) J2a;rw[hq];rfl))
  | ((with_reducible refine sT 12 ?_);refine d0a rfl _ (.tmp 12) (.tmp 11) rfl g 17 rfl _ (c2 v5) v7 rfl B7 (by have:=N2.out v5;show 17<_;omega) (by kernel_rfl) hv7 ?_;intro w8 B8 P8 hg8;rw[T2.out] at B8;have Z8:Hid (Blk w8 g2 39 zs):=((Z5.out.only P6.out hzg).over L7.out).only P8.out hzg)
  | ((with_reducible refine sN 13 ?_);refine e0a rfl _ (.tmp 1) rfl g rfl _ (r0a v5 v7 a) B8 20 _ Tryz.underlying39 rfl s0a (LN.out _ _) ?_)
  | ((with_reducible refine sT 2 ?_);refine b0a rfl _ (.tmp 2) (.tmp 13) rfl g2 rfl _ zs (r0a v5 v7 a) rfl Z8 20 s0a HZ (LN.out _ _) (ON.out _ _ hv5 hv7) ?_;intro w9 Z9 P9 hg9)
  | fail)
 have hg2w:w.heap.size<=g2:=by omega
 have L17:Below w.heap.size w w7:=L16.out.trans (L7.out.mono (by have:=L16.out.size;omega));have L19:Below w.heap.size w w9:=c0a (c0a L17 P8.out hg1) P9.out hg2w;refine bodyPost_ret (v:=.agg (r0a v5 v7 a).toArray) ?_ rfl ⟨r0a v5 v7 a,rfl,?_⟩
 ·exact results_cell_row rfl _ _ g2 _ _ (0,0) _ rfl Z9.out Tryz.underlying39 rfl (by rw[s0a];have:=LN.out v5 v7;simp[this])
 ·have keep:∀i,i≠g->i≠g2->w9.heap[i]? = w7.heap[i]?:=λi h1 h2=>(P9.out.rest i h2).trans (P8.out.rest i h1)
  have X6:Own w6 w2.heap.size v5 a.data:=by
   refine⟨O5'.out.1,?_⟩;rcases O5'.out.2 with h0 | ⟨q,cap,cur,rfl,h1,hq,rest⟩
   ·exact .inl h0
   ·exact .inr ⟨q,cap,cur,rfl,h1,(P6.out.rest q (by omega)).trans hq,rest⟩
  have X7:Own w7 w2.heap.size v5 a.data:=X6.below (L7.out);have X9:Own w9 w2.heap.size v5 a.data:=by
   refine⟨X7.1,?_⟩;rcases X7.2 with h0 | ⟨q,cap,cur,rfl,h1,hq,rest⟩
   ·exact .inl h0
   ·exact .inr ⟨q,cap,cur,rfl,h1,(keep q (by omega) (by omega)).trans hq,rest⟩
  have hgw6:=B6.out.lt;have O7':=O7.out;rw[List.nil_append] at O7';have K9:r5a z0a 3 118 w9 w6.heap.size v7 a.ents:=O7'.keep λi cs hi hcs=>keep i (by
   rcases O7'.2 with⟨h0,_⟩ | ⟨q,cap,cur,h0,h1,_⟩
   ·rw[h0] at hi;cases hi
   ·rw[h0] at hi;simp only[Value.ownBlock,Option.some.injEq] at hi;omega) (by
   rcases O7'.2 with⟨h0,_⟩ | ⟨q,cap,cur,h0,h1,_⟩
   ·rw[h0] at hi;cases hi
   ·rw[h0] at hi;simp only[Value.ownBlock,Option.some.injEq] at hi;omega)
  have u5:=A7a (lo:=w.heap.size) X9 (by omega);have u7:=A7a (lo:=w.heap.size) K9 (by omega);obtain⟨A5,k5,rfl,H5⟩:=X9.holds HX.out.byte (by omega);obtain⟨A7,n7,k7,rfl,H7⟩:=K9.holds (by omega) J2a;refine⟨⟨A5,_,k5,A7,n7,k7,rfl,H5,H7⟩,L19,?_,?_⟩
  ·rw[J1.out];exact u5
  ·rw[J2.out];exact u7
theorem f1a.onlyUp{w w':World}{lo g:Nat}{ac:List Value}{a:m1a}(k:a.ok)(h:f1a w w.heap.size ac a)(u:I5a lo ac[0]?/\I5a lo ac[61]?/\I5a lo ac[62]?)(hO:T1a g w w')(hg:g<lo):f1a w' w'.heap.size ac a:=by
 obtain⟨Ad,nd,cd,Ax,nx,cx,Al,nl,cl,rfl,h1,h2,h3⟩:=h;obtain⟨u1,u2,u3⟩:=u;rw[show(j0a (.slice Ad nd cd) (.slice Ax nx cx) (.slice Al nl cl) a)[61]? = some (.slice Ax nx cx) from p0a k 12] at u2;rw[show(j0a (.slice Ad nd cd) (.slice Ax nx cx) (.slice Al nl cl) a)[62]? = some (.slice Al nl cl) from p0a k 13] at u3;refine⟨Ad,nd,cd,Ax,nx,cx,Al,nl,cl,rfl,?_,?_,?_⟩
 ·rw[hO.size];exact h1.onlyUp hO (.inr u1) hg
 ·rw[hO.size];exact h2.onlyUp hO (.inr u2) hg
 ·rw[hO.size];exact h3.onlyUp hO (.inr u3) hg
theorem n1a.onlyUp{w w':World}{lo g:Nat}{sc:List Value}{s:M1a}(k:s.ok)(h:n1a w w.heap.size sc s)(u:I5a lo sc[15]?/\I5a lo sc[17]?)(hO:T1a g w w')(hg:g<lo):n1a w' w'.heap.size sc s:=by
 obtain⟨Ax,nx,cx,Al,nl,cl,rfl,h2,h3⟩:=h;obtain⟨u2,u3⟩:=u;rw[show(r0a (.slice Ax nx cx) (.slice Al nl cl) s)[15]? = some (.slice Ax nx cx) from B0a k 5] at u2;rw[show(r0a (.slice Ax nx cx) (.slice Al nl cl) s)[17]? = some (.slice Al nl cl) from B0a k 7] at u3;refine⟨Ax,nx,cx,Al,nl,cl,rfl,?_,?_⟩
 ·rw[hO.size];exact h2.onlyUp hO (.inr u2) hg
 ·rw[hO.size];exact h3.onlyUp hO (.inr u3) hg
theorem E0c(g:Nat)(w:World):(Instr.fieldAt 41 (.pointer (some ⟨g,0,none⟩)) 0).run Tryz.prog w=.ok (.pointer (some ⟨g,0,none⟩)) w:=by go_simp
theorem F0c(g:Nat)(w:World):(Instr.fieldAt 41 (.pointer (some ⟨g,0,none⟩)) 1).run Tryz.prog w=.ok (.pointer (some ⟨g,26,none⟩)) w:=by go_simp
theorem G0c(g:Nat)(w:World):(Instr.fieldAt 41 (.pointer (some ⟨g,0,none⟩)) 2).run Tryz.prog w=.ok (.pointer (some ⟨g,95,none⟩)) w:=by go_simp
theorem J4b{P:Program}{ops:Array Oper}{o:Oper}{a:Act}{w:World}{Q:Exit->Act->World->Prop}{K:Act->World->Prop}{E:Prop}(hg:o.guard=none)(T:TypeId)(parts:Array (Nat×Operand))(ho:o.op=.build T parts)(cs:List Value)
(hf:P.built T (parts.map fun (i,x)=>(i,a.eval x)).toList=some cs.toArray)(h:K (a.put o.dst (.agg cs.toArray)) w):if Region.wanted o (yielded ops a.tmps)=true then Oper.wp P o a w K Q else E:=by
 have hw:Region.wanted o (yielded ops a.tmps)=true:=by simp[Region.wanted,hg]
 rw[if_pos hw];unfold Oper.wp execOp;simp only[ho,Sem.run_bind,run_build w T _ _ hf,Result.andThen_ok];exact h
theorem x9b(w:World)(cs:List Value)(m:J5a)(k:m.ok)(h:Z3a w w.heap.size cs m)(h1:m.a.dial.length<=70368744177663/\m.a.data.length<=140737488355328/\m.a.locks.length<=4398046511103)(h2:m.s.data.length<=140737488355328/\m.s.ents.length<=4398046511103) :
  Calls Tryz.prog 7 #[.agg cs.toArray] w λe w'=>∃ds:List Value,e=.returned (.agg ds.toArray)/\Z3a w' w'.heap.size ds m/\Below w.heap.size w w':=by
 have HLL:=hI (h.len k);have H26:=hI (L0a k.h);obtain⟨ac,sc,rfl,ha,hs⟩:=h;have H69:=hI (ha.len k.a);have H20:=hI (hs.len k.s);have HAA:=hI ha;have HSS:=hI hs;have CA:Hid (∀w':World,Below w.heap.size w w'->Calls Tryz.prog 18 #[.agg ac.toArray] w' λe w2=>∃cs',e=.returned (.agg cs'.toArray)/\f1a w2 w2.heap.size cs' m.a/\Below w'.heap.size w' w2/\(I5a w'.heap.size cs'[0]?/\I5a w'.heap.size cs'[61]?/\I5a w'.heap.size cs'[62]?)):=λw' hb=>H4b w' ac m.a k.a (HAA.out.over hb) h1
 have CS:Hid (∀w':World,Below w.heap.size w w'->Calls Tryz.prog 19 #[.agg sc.toArray] w' λe w2=>∃cs',e=.returned (.agg cs'.toArray)/\n1a w2 w2.heap.size cs' m.s/\Below w'.heap.size w' w2/\(I5a w'.heap.size cs'[15]?/\I5a w'.heap.size cs'[17]?)):=λw' hb=>I4b w' sc m.s k.s (HSS.out.over hb) h2
 have BM:Hid (∀ac' sc':List Value,ac'.length=69->sc'.length=20->Tryz.prog.built 41 [(0,.agg (o0a m.h).toArray),(1,.agg ac'.toArray),(2,.agg sc'.toArray)]=some (o0a m.h++(ac'++sc')).toArray):=λac' sc' q1 q2=>x8b Y5a H26.out q1 q2
 have HE:Hid (∀(w:World) (ac' sc':List Value),f1a w w.heap.size ac' m.a->n1a w w.heap.size sc' m.s->Z3a w w.heap.size (o0a m.h++(ac'++sc')) m/\(o0a m.h++(ac'++sc')).length=115/\∀v∈o0a m.h++(ac'++sc'),v.oneCell'=true):=λw ac' sc' q1 q2=>by have hm:Z3a w w.heap.size (o0a m.h++(ac'++sc')) m:=⟨ac',sc',rfl,q1,q2⟩;exact⟨hm,hm.len k,hm.one⟩
 have LA:Hid (∀(w:World) (ac':List Value),f1a w w.heap.size ac' m.a->ac'.length=69):=λw ac' q=>q.len k.a
 have LS:Hid (∀(w:World) (sc':List Value),n1a w w.heap.size sc' m.s->sc'.length=20):=λw sc' q=>q.len k.s
 have OA:Hid (∀(w w':World) (lo g:Nat) (ac':List Value),f1a w w.heap.size ac' m.a->(I5a lo ac'[0]?/\I5a lo ac'[61]?/\I5a lo ac'[62]?)->T1a g w w'->g<lo->f1a w' w'.heap.size ac' m.a):=λw w' lo g ac' q1 q2 q3 q4=>q1.onlyUp k.a q2 q3 q4
 have OS:Hid (∀(w w':World) (lo g:Nat) (sc':List Value),n1a w w.heap.size sc' m.s->(I5a lo sc'[15]?/\I5a lo sc'[17]?)->T1a g w w'->g<lo->n1a w' w'.heap.size sc' m.s):=λw w' lo g sc' q1 q2 q3 q4=>q1.onlyUp k.s q2 q3 q4
 have ZM:=hI U8a;have HZ:=hI y3a;have RH:Hid (∀(w:World) g T,Blk w g T (o0a m.h++(ac++sc))->w.rangeAt g 0 (o0a m.h)):=λw g T b=>t9a b
 have RA:Hid (∀(w:World) g T,Blk w g T (o0a m.h++(ac++sc))->w.rangeAt g 26 ac):=λw g T b=>p7a b H26.out
 have RS:Hid (∀(w:World) g T,Blk w g T (o0a m.h++(ac++sc))->w.rangeAt g 95 sc):=λw g T b=>q7a b H26.out H69.out
 obtain⟨MC,hMC⟩:∃x,x=o0a m.h++(ac++sc):=⟨_,rfl⟩;rw[<-hMC] at HLL RH RA RS⊢;obtain⟨hc,hhc⟩:∃x,x=o0a m.h:=⟨_,rfl⟩;rw[<-hhc] at H26 RH;rw[<-hhc] at BM HE;obtain⟨zm,hzm⟩:∃x,x=K1a:=⟨_,rfl⟩;rw[<-hzm] at ZM HZ;clear hMC hhc hzm ha hs h1 h2 k HAA HSS;go_enter Tryz.func7,Tryz.ntmps7;go_upto_region 1 with(first
  | ((with_reducible refine sN 1 ?_);refine f0a rfl _ (.tmp 0) rfl MC rfl ?_;intro g w1 hg1 hg2 K1 L1)
  | ((with_reducible refine sN 2 ?_);refine a0a rfl _ rfl zm _ ZM ?_;intro g2 w2 hg3 hg4 Z2 L2)
  | fail)
 have K2:=hI (K1.out.over L2.out);have M2:=hI (step L1.out L2.out);have hne:g≠g2:=by have:=K1.out.lt;omega
 have hg2w:w.heap.size<=g2:=by have:=L1.out.size;omega
 clear K1 L1 L2;refine wp_region_held (S:=λw'=>Blk w' g 41 MC) (by kernel_rfl) ?_;change wpAnyH _ _ _ _ _ _ _ _ w2.drew
 have S0:Hid (Blk w2.drew g 41 MC):=K2.out;have Z0:Hid (Blk w2.drew g2 41 zm):=Z2.out;have M0:Hid (Below w.heap.size w w2.drew):=step M2.out (G2a w2 1);obtain⟨w0,hw0⟩:∃x,x=w2.drew:=⟨_,rfl⟩;rw[<-hw0] at S0 Z0 M0⊢;clear hw0 K2 Z2 M2;refine tK 0 (.pointer (some ⟨g,0,none⟩)) rfl (w0a (by kernel_rfl) _ (.tmp 1) 0 rfl (.pointer (some ⟨g,0,none⟩)) (.pointer (some ⟨g,0,none⟩)) (by kernel_rfl) (E0c g)) S0.out ?_;refine tK 1 _ rfl (I2a (by kernel_rfl) _ (.tmp 3) rfl g 0 (by kernel_rfl) hc (λ_ h=>RH.out _ _ _ h) 26 _ Tryz.underlying28 rfl J0a H26) S0.out ?_;refine tK 2 (.pointer (some ⟨g,26,none⟩)) rfl (w0a (by kernel_rfl) _ (.tmp 1) 1 rfl (.pointer (some ⟨g,0,none⟩)) (.pointer (some ⟨g,26,none⟩)) (by kernel_rfl) (F0c g)) S0.out ?_;refine tK 3 _ rfl (I2a (by kernel_rfl) _ (.tmp 5) rfl g 26 (by kernel_rfl) ac (λ_ h=>RA.out _ _ _ h) 69 _ Tryz.underlying34 rfl n0a H69) S0.out ?_;refine tK 5 (.pointer (some ⟨g,95,none⟩)) rfl (w0a (by kernel_rfl) _ (.tmp 1) 2 rfl (.pointer (some ⟨g,0,none⟩)) (.pointer (some ⟨g,95,none⟩)) (by kernel_rfl) (G0c g)) S0.out ?_;refine tK 6 _ rfl (I2a (by kernel_rfl) _ (.tmp 8) rfl g 95 (by kernel_rfl) sc (λ_ h=>RS.out _ _ _ h) 20 _ Tryz.underlying39 rfl s0a H20) S0.out ?_;refine oN 4 _ rfl λK hK=>?_
 go_simp;refine(CA.out w0 M0.out).mono ?_;rintro e wa ⟨ad,rfl,qa,la,ua⟩;refine hK _ _ (S0.out.over la) ?_;clear hK K;have S1:=hI (S0.out.over la);have Z1:=hI (Z0.out.over la);have M1:=hI (step M0.out la);have hz1:=Z0.out.lt;have Qa:=hI qa;have Ua:=hI ua;clear qa ua la S0 Z0 M0;refine oN 7 _ rfl λK hK=>?_
 go_simp;refine(CS.out wa M1.out).mono ?_;rintro e wb ⟨sd,rfl,qs,ls,us⟩;refine hK _ _ (S1.out.over ls) ?_;clear hK K;have S2:=hI (S1.out.over ls);have Z2:=hI (Z1.out.over ls);have M2:=hI (step M1.out ls);have hz2:=Z1.out.lt;have Qs:=hI qs;have Us:=hI us;have Qa':=hI (Qa.out.over ls);clear qs us ls S1 Z1 M1;refine oN 8 _ rfl λK hK=>?_
 refine J4b rfl _ _ rfl (hc++(ad++sd)) (by refine Eq.trans ?_ (BM.out ad sd (LA.out _ _ Qa'.out) (LS.out _ _ Qs.out));kernel_rfl) ?_;refine hK _ _ S2.out ?_;clear hK K;obtain⟨e1,e2,e3⟩:=HE.out _ _ _ Qa'.out Qs.out;have E2:=hI e2;have E3:=hI e3;refine oN 9 _ rfl λK hK=>?_
 refine R1b rfl _ (.tmp 2) (.tmp 11) rfl g2 0 rfl _ zm (hc++(ad++sd)) rfl Z2 115 r1a E2 (hI (by have:=HZ.out;show _<=_;omega)) E3 ?_;intro wc B9 O9 hg9;refine hK _ _ (S2.out.only O9.out hne) ?_;clear hK K;have B9':Hid (Blk wc g2 41 (hc++(ad++sd))):=by have:=B9.out;rw[List.take_zero,List.nil_append,List.drop_of_length_le (by have:=HZ.out;omega),List.append_nil] at this;exact this
 refine dN ?_;go_wp2;refine bodyPost_ret (v:=.agg (hc++(ad++sd)).toArray) ?_ rfl ⟨_,rfl,(HE.out wc ad sd (OA.out _ _ _ g2 _ Qa'.out Ua.out O9.out hz1) (OS.out _ _ _ g2 _ Qs.out Us.out O9.out hz2)).1,c0a M2.out O9.out hg2w⟩;exact results_cell_row rfl _ _ g2 _ _ (0,0) _ rfl B9'.out Tryz.underlying41 rfl (by rw[r1a];have:=E2.out;simp[this])
theorem y9b{w:World}{base:Nat}{v:Value}{ys:List Int}(h:X0a .u8 5 w base v ys)(hb:Bytes ys)(hl:ys.length<=281474976710656)(h1:1<=ys.length) :
  ∃g m,v=.slice (some ⟨g,0,none⟩) ys.length (ys.length+m)/\base<=g/\ys.length+m<=maxLen/\Row w g (ys++List.replicate m 0)/\Holds w w.heap.size (some ⟨g,0,none⟩) ys.length (ys.length+m) ys:=by
 obtain⟨A,c,e,hh⟩:=h.holds8 hb hl;rcases h with⟨rfl,rfl⟩ | ⟨g,m,rfl,hg,hm,hr⟩
 ·exact absurd h1 (by decide)
 ·simp only[Value.slice.injEq] at e;obtain⟨e1,_,e2⟩:=e;subst e1 e2;exact⟨g,m,rfl,hg,hm,hr,hh⟩
theorem Own.later{w0 w w':World}{base:Nat}{v:Value}{xs:List Int}(h0:Own w0 base v xs)(h:Own w base v xs)(hb:Below w0.heap.size w w'):Own w' base v xs:=by
 refine⟨h.1,?_⟩;rcases h.2 with hn | ⟨g,cap,cur,rfl,h1,hg,rest⟩
 ·exact .inl hn
 ·rcases h0.2 with⟨e,_⟩ | ⟨g',cap',cur',e,h1',hg',rest'⟩
  ·cases e
  ·have e2:g=g':=by cases e;rfl
   exact .inr ⟨g,cap,cur,rfl,h1,(hb.block g (by rw[e2];exact(Array.getElem?_eq_some_iff.1 hg').1)).trans hg,rest⟩
theorem G1c.fit{m:J5a}(h:G1c m):L2c m.a/\M2c m.s/\h6b m:=by obtain⟨⟨h1,h2,h3⟩,⟨h4,h5,h6,h7,h8⟩,h9,h10,h11⟩:=h;refine⟨⟨⟨by omega,by omega⟩,⟨by omega,by omega,by omega⟩,by omega⟩,⟨by omega,λe he=>by have:=h11 e he;omega⟩,⟨by omega,by omega,by omega⟩,by omega,by omega⟩
theorem H5b{m:J5a}(he:¬W4a m=0):f6a m=[]:=by unfold f6a;rw[if_neg he]
theorem U1c{m:J5a}(k:m.ok)(he:W4a m=0):1<=(f6a m).length:=by unfold f6a;rw[if_pos he,List.length_append,b4a k.h.len];omega
theorem walk_MsgFresh(W:World)(hT:V7a W)(cs0:List Value)(a0:J5a)(k0h:a0.ok)(h0h:Z3a W W.heap.size cs0 a0)(b0:G1c a0) :
  Calls Tryz.prog 6 #[.agg cs0.toArray] W λe W'=>e=.returned (.bool true)/\Below W.heap.size W W':=by
 have HT:=hI hT;have HL:=hI (h0h.len k0h);have HA:=hI h0h;have KM:=hI k0h;obtain⟨fa,fs,sm⟩:=b0.fit;have HYB:=hI (X5b k0h);have HYL:=hI (N0c k0h);have F1:=λhe=>U1c k0h he
 have CC:Hid (∀w:World,Below W.heap.size W w->Calls Tryz.prog 7 #[.agg cs0.toArray] w λe w'=>∃ds:List Value,e=.returned (.agg ds.toArray)/\Z3a w' w'.heap.size ds a0/\Below w.heap.size w w'):=λw hb=>x9b w cs0 a0 k0h (h0h.over hb) ⟨by have:=b0.al;omega,by have:=b0.al;omega,by have:=b0.al;omega⟩ ⟨by have:=b0.sl;omega,by have:=b0.sl;omega⟩
 have CP:Hid (∀(w:World) (ds:List Value),Z3a w w.heap.size ds a0->V7a w->Calls Tryz.prog 8 #[.agg ds.toArray] w λe w'=>∃v,e=.returned (.tuple #[v,.int .i64 (W4a a0)])/\T5a w' w.heap.size v (f6a a0)/\Below w.heap.size w w'):=λw ds hd hT=>d6b w a0 ds k0h hd fa fs hT
 have CL:Hid (∀w:World,V7a w->Calls Tryz.prog 12 #[] w λe w'=>e=.returned (.bool true)/\Below w.heap.size w w'):=N2b;have ZM:=hI U8a;have HZ:=hI y3a;by_cases he:W4a a0=0
 ·replace F1:=hI (F1 he)
  have CG:Hid (∀(w:World) (A:Option Addr) (n c:Nat),Holds w w.heap.size A n c (f6a a0)->Calls Tryz.prog 13 #[.slice A n c] w λe w'=>∃(ds:List Value) (er:Int) (v1 v2:Value),e=.returned (.tuple #[.agg ds.toArray,.int .i64 er])/\ds.length=115/\(∀v∈ds,v.oneCell'=true)/\ds[87]? = some v1/\ds[110]? = some v2/\r8a w' w.heap.size w'.heap.size v1/\r8a w' w.heap.size w'.heap.size v2/\Below w.heap.size w w'):=λw A n c hh=>by
   have h1:=f6b w A n c (f6a a0) hh;unfold t7a at h1;have kh:(n4b (f6a a0)).h.ok:=by
    unfold n4b;split
    ·exact J0b _ 0 hh.byte
    ·exact o3a
   refine h1.mono λe w' ⟨ac,sc,h2,ha,hs,hb⟩=>?_
   have hm:Z3a w' w'.heap.size (o0a (n4b (f6a a0)).h++(ac++sc)) (n4b (f6a a0)):=⟨ac,sc,rfl,ha.2.1,hs.2.1⟩;have l1:=L0a kh;have l2:=ha.2.1.len ha.1;have kk:(n4b (f6a a0)).ok:=⟨kh,ha.1,hs.1⟩;obtain⟨_,_,_,v1,e1,o1⟩:=ha;obtain⟨_,_,_,v2,e2,o2⟩:=hs;refine⟨_,_,v1,v2,h2,hm.len kk,hm.one,?_,?_,r8a.of o1 (Nat.le_refl _),r8a.of o2 (Nat.le_refl _),hb⟩
   ·rw[List.getElem?_append_right (by omega),l1,List.getElem?_append_left (by omega)];exact e1
   ·rw[List.getElem?_append_right (by omega),l1,List.getElem?_append_right (by omega),l2];exact e2
  have CQ:Hid (∀(w:World) (ds:List Value),Z3a w w.heap.size ds a0->Z3a w w.heap.size cs0 a0->Calls Tryz.prog 11 #[.agg ds.toArray,.agg cs0.toArray] w λe w'=>e=.returned (.bool true)/\Below w.heap.size w w'):=λw ds h1 h2=>by have h3:=N1b w ds cs0 a0 a0 k0h k0h h1 h2 sm sm;simpa using h3
  have CS:Hid (∀(w:World) (A A':Option Addr) (n c n' c':Nat),Holds w w.heap.size A n c (f6a a0)->Holds w w.heap.size A' n' c' (f6a a0)->Calls Tryz.prog 10 #[.slice A n c,.slice A' n' c'] w λe w'=>e=.returned (.bool true)/\∃k,w.drewN k=w'):=λw A A' n c n' c' h1 h2=>by
   have h3:=e3b w _ _ _ _ _ _ _ _ (f6a a0) (f6a a0) h1 h2
   rwa [decide_eq_true rfl] at h3
  have FA:∀(g:Nat) (w:World),(Instr.fieldAt 41 (.pointer (some ⟨g,0,none⟩)) 1).run Tryz.prog w=.ok (.pointer (some ⟨g,26,none⟩)) w:=λg w=>by go_simp
  have FS:∀(g:Nat) (w:World),(Instr.fieldAt 41 (.pointer (some ⟨g,0,none⟩)) 2).run Tryz.prog w=.ok (.pointer (some ⟨g,95,none⟩)) w:=λg w=>by go_simp
  have FAD:∀(g:Nat) (w:World),(Instr.fieldAt 34 (.pointer (some ⟨g,26,none⟩)) 15).run Tryz.prog w=.ok (.pointer (some ⟨g,87,none⟩)) w:=λg w=>by go_simp
  have FSD:∀(g:Nat) (w:World),(Instr.fieldAt 39 (.pointer (some ⟨g,95,none⟩)) 8).run Tryz.prog w=.ok (.pointer (some ⟨g,110,none⟩)) w:=λg w=>by go_simp
  rw[he] at CP;obtain⟨ys,hys⟩:∃x,x=f6a a0:=⟨_,rfl⟩;rw[<-hys] at CP CG HYB HYL F1 CS;obtain⟨zm,hzm⟩:∃x,x=K1a:=⟨_,rfl⟩;rw[<-hzm] at ZM HZ;clear hzm hys he sm fs fa hT h0h b0 k0h;go_enter Tryz.func6,Tryz.ntmps6;go_wp2_with(first
   | ((with_reducible refine sN 1 ?_);refine f0a rfl _ (.tmp 0) rfl cs0 rfl ?_;intro g v0 hg1 hg2 K0 M0)
   | ((with_reducible refine sN 11 ?_);refine e0a rfl _ (.tmp 1) rfl g rfl _ cs0 K0 115 _ Tryz.underlying41 rfl r1a HL ?_)
   | fail)
  refine(CC.out v0 M0.out).mono ?_;rintro e p1 ⟨pds,rfl,hd,L1⟩;have pD1:=hI hd;have pDL:=hI (hd.len KM.out);have pDO:=hI hd.one;have pM1:=hI (step M0.out L1);have pL1:=hI L1;clear hd L1;go_wp2_with(first
   | ((with_reducible refine sN 3 ?_);refine a0a rfl _ rfl zm _ ZM ?_;intro px p2 hg5 hg6 pZ2 pL2)
   | ((with_reducible refine sT 3 ?_);refine b0a rfl _ (.tmp 3) (.tmp 12) rfl px rfl _ zm pds rfl pZ2 115 r1a HZ pDL pDO ?_;intro p3 pX3 pO3 hg7;have pL3:=hI (c0a pL2.out pO3.out hg5);have pM3:=hI (step pM1.out pL3.out);have pD3:=hI (pD1.out.over pL3.out))
   | ((with_reducible refine sN 14 ?_);refine e0a rfl _ (.tmp 3) rfl px rfl _ pds pX3 115 _ Tryz.underlying41 rfl r1a pDL ?_)
   | fail)
  have pxl:=pX3.out.lt;refine(CP.out p3 pds pD3.out (HT.out.below pM3.out)).mono ?_;rintro e p4 ⟨u4,rfl,ho4,L4⟩;have pB4:=hI L4;obtain⟨pp,pm,rfl,hgb,hmx,hr4,hh4⟩:=y9b ho4 HYB.out (by have:=HYL.out;omega) F1.out;have hlt:=hr4.lt;have pR4:=hI hr4;obtain⟨pN,phN⟩:∃N,N=ys.length+pm:=⟨_,rfl⟩;obtain⟨pn,phn⟩:∃n,n=ys.length:=⟨_,rfl⟩;rw[<-phN] at hh4 hmx⊢;rw[<-phn] at hh4⊢;have pHN:=hI phN;have pHn:=hI phn;have hn7:pn<=1000000:=by rw[phn];have:=HYL.out;omega
  have pH4:=hI hh4;clear hr4 hh4 ho4 L4 phN phn;go_wp2_with fail;refine(D3b p4 _ pn pN ys pH4.out (by omega)).mono ?_;rintro e p5 ⟨vd,rfl,ho5,L5⟩;obtain⟨pA5,pc5,rfl⟩:=ho5.len;rw[<-pHn.out] at ho5⊢;have pO5:=hI ho5;have pH5:=hI (pH4.out.over L5);have pR5:=hI (pR4.out.over L5);have pB5:=hI (step pB4.out L5);have hs5:=L5.size;clear ho5 L5;go_wp2_with fail;refine(CG.out p5 _ pn pN pH5.out).mono ?_;rintro e p6 ⟨pgs,ge,v1,v2,rfl,hl6,ho6,hc6,hd6,q1,q2,L6⟩;have pO6:=hI (pO5.out.below L6);have pR6:=hI (pR5.out.over L6);have pB6:=hI (step pB5.out L6);have hs6:=L6.size;have pGL:=hI hl6;have pGO:=hI ho6;have pGA:=hI hc6;have pGS:=hI hd6;have pV1:=hI q1;have pV2:=hI q2;clear hl6 ho6 hc6 hd6 q1 q2 L6 pH5 pH4 pR5 pR4 CG;go_wp2_with(first
   | ((with_reducible refine sN 7 ?_);refine a0a rfl _ rfl zm _ ZM ?_;intro py p7 hg8 hg9 pZ7 pL7)
   | ((with_reducible refine sT 7 ?_);refine b0a rfl _ (.tmp 7) (.tmp 26) rfl py rfl _ zm pgs rfl pZ7 115 r1a HZ pGL pGO ?_;intro p8 pY8 pO8' hg10;have pL8:=hI (c0a pL7.out pO8'.out hg8);have pB8:=hI (step pB6.out pL8.out);have pR8:=hI (pR6.out.over pL8.out);have pO8:=hI (pO6.out.below pL8.out);have pU1:=hI (pV1.out.over pL8.out);have pU2:=hI (pV2.out.over pL8.out);have hs8:=pL8.out.size)
   | fail)
  refine(I5b p8 pp pn pm pN ys pHn.out pHN.out hmx 5 (by omega) pR8.out).mono ?_;rintro e p9 ⟨rfl,S9⟩;have hs9:=S9.size;have pB9:=hI (c0a pB8.out S9 hgb);have pY9:=hI (pY8.out.only S9 (by omega));have pO9:=hI (pO8.out.only S9 hlt);have pX1:=hI (pU1.out.only S9 (by omega));have pX2:=hI (pU2.out.only S9 (by omega));have gd:=pY9.out.at pGA.out;clear S9 pO8 pR8 pB8 pO6 pR6 pB6 pU1 pU2 pV1 pV2 pY8 pZ7 pL7 pO8' pL8;go_wp2_with fail;refine(R2b p9 p5.heap.size p6.heap.size v1 v2 (by omega) pX1.out pX2.out 5 (by omega)).mono ?_;rintro e p10 ⟨rfl,hx10,L10,R10⟩;have hs10:=L10.size;have pX3':=hI hx10;have pO10:Hid (Own p10 p4.heap.size (.slice pA5 pn pc5) ys):=pO5.out.later pO9.out L10;have pB10:=hI (pB9.out.trans (L10.mono (by omega)));have pY10:Hid (Blk p10 py 41 pgs):=(R10 py hg8 pY9.out.lt).trans pY9.out;have gd2:=pY10.out.at pGS.out;clear gd L10 R10 pO9 pB9 pX1 pX2 hx10 pY9;go_wp2_with fail;refine(R2b p10 p5.heap.size p6.heap.size v2 v2 (by omega) pX3'.out pX3'.out 5 (by omega)).mono ?_;rintro e p11 ⟨rfl,_,L11,_⟩;have hs11:=L11.size;have pO11:Hid (Own p11 p4.heap.size (.slice pA5 pn pc5) ys):=pO5.out.later pO10.out L11;have pB11:=hI (pB10.out.trans (L11.mono (by omega)));have pX11:=hI (pX3.out.over pB11.out);clear gd2 L11 pO10 pB10 pY10 pX3' pO5;go_wp2_with(first
   | ((with_reducible refine sN 39 ?_);refine e0a rfl _ (.tmp 3) rfl px rfl _ pds pX11 115 _ Tryz.underlying41 rfl r1a pDL ?_)
   | fail)
  refine(CP.out p11 pds (pD3.out.over pB11.out) (HT.out.below (step pM3.out pB11.out))).mono ?_;rintro e p12 ⟨u12,rfl,ho12,L12⟩;obtain⟨A12,c12,rfl,hh12⟩:=ho12.holds8 HYB.out (by have:=HYL.out;omega);rw[<-pHn.out] at hh12⊢;have pD12:=hI (CS.out _ _ _ _ _ _ _ hh12 ((pO11.out.below L12).holds_at pHn.out.symm HYB.out (by omega)));have pB12:=hI (step pB11.out L12);clear hh12 ho12 L12 pO11 pX11 pB11;go_wp2_with fail;refine pD12.out.mono ?_;rintro e p13 ⟨rfl,k13,rfl⟩;obtain⟨p13,hv13⟩:∃v,v=p12.drewN k13:=⟨_,rfl⟩;have pB13:Hid (Below p3.heap.size p3 p13):=by rw[hv13];exact step pB12.out (G2a _ _)
  rw[<-hv13];clear hv13 pD12 pB12;have pX13:=hI (pX3.out.over pB13.out);have pM13:=hI (step pM3.out pB13.out);have pK13:=hI (K0.out.over (step pL1.out (step pL3.out pB13.out)));go_wp2_with fail;refine wp_load_row 41 (.tmp 3) rfl px rfl _ _ (0,0) _ pX13.out Tryz.underlying41 rfl (by rw[r1a];have:=pDL.out;simp[this]) ?_;go_wp2_with fail;refine wp_load_row 41 (.tmp 1) rfl g rfl _ _ (0,0) _ pK13.out Tryz.underlying41 rfl (by rw[r1a];have:=HL.out;simp[this]) ?_;go_wp2_with fail;refine(CQ.out p13 pds (pD3.out.over pB13.out) (HA.out.over pM13.out)).mono ?_;rintro e p14 ⟨rfl,L14⟩;have pM14:=hI (step pM13.out L14);clear L14;go_wp2_with fail;refine(CL.out _ (HT.out.below pM14.out)).mono ?_;rintro e p15 ⟨rfl,L15⟩;go_wp2;go_ret;exact⟨rfl,step pM14.out L15⟩
 ·have hne:(W4a a0 != 0)=true:=by simpa using he
  rw[H5b he] at CP;obtain⟨er,her⟩:∃x,x=W4a a0:=⟨_,rfl⟩;rw[<-her] at CP hne;obtain⟨zm,hzm⟩:∃x,x=K1a:=⟨_,rfl⟩;rw[<-hzm] at ZM HZ;clear hzm her he sm fs fa hT h0h b0 HYB HYL k0h F1;go_enter Tryz.func6,Tryz.ntmps6;go_wp2_with(first
   | ((with_reducible refine sN 1 ?_);refine f0a rfl _ (.tmp 0) rfl cs0 rfl ?_;intro g v0 hg1 hg2 K0 M0)
   | ((with_reducible refine sN 11 ?_);refine e0a rfl _ (.tmp 1) rfl g rfl _ cs0 K0 115 _ Tryz.underlying41 rfl r1a HL ?_)
   | fail)
  refine(CC.out v0 M0.out).mono ?_;rintro e p1 ⟨pds,rfl,hd,L1⟩;have pD1:=hI hd;have pDL:=hI (hd.len KM.out);have pDO:=hI hd.one;have pM1:=hI (step M0.out L1);have pL1:=hI L1;clear hd L1;go_wp2_with(first
   | ((with_reducible refine sN 3 ?_);refine a0a rfl _ rfl zm _ ZM ?_;intro px p2 hg5 hg6 pZ2 pL2)
   | ((with_reducible refine sT 3 ?_);refine b0a rfl _ (.tmp 3) (.tmp 12) rfl px rfl _ zm pds rfl pZ2 115 r1a HZ pDL pDO ?_;intro p3 pX3 pO3 hg7;have pL3:=hI (c0a pL2.out pO3.out hg5);have pM3:=hI (step pM1.out pL3.out);have pD3:=hI (pD1.out.over pL3.out))
   | ((with_reducible refine sN 14 ?_);refine e0a rfl _ (.tmp 3) rfl px rfl _ pds pX3 115 _ Tryz.underlying41 rfl r1a pDL ?_)
   | fail)
  have pxl:=pX3.out.lt;refine(CP.out p3 pds pD3.out (HT.out.below pM3.out)).mono ?_;rintro e p4 ⟨u4,rfl,ho4,L4⟩;have pM4:=hI (step pM3.out L4);obtain⟨A4,c4,rfl,hh4⟩:=X0a.holds8 ho4 (Bytes.zeros 0) (by simp);clear hh4 ho4 L4;go_wp2_with fail;refine(CL.out _ (HT.out.below pM4.out)).mono ?_;rintro e p5 ⟨rfl,L5⟩;go_wp2;go_ret;exact⟨rfl,step pM4.out L5⟩
end Go.Proofs.YtgfflnjggnadpaaGreatDoor
