import Derived.Test.YtgfflnjggnadpaaGreatDoorZAF
import Derived.Test.YtgfflnjggnadpaaGreatDoorS0
set_option linter.all false
set_option maxHeartbeats 8000000
set_option maxRecDepth 100000
namespace Go.Proofs.YtgfflnjggnadpaaGreatDoor
open Go.RowKit
set_option maxRecDepth 100000
def WI(w:World)(g base:Nat)(xs:List Int)(e:Int):Prop:=base<=g/\∃v,Blk w g 161 [v,.int .i64 e]/\X0a .u8 5 w base v xs
structure j1a (g base:Nat) (w w':World):Prop where
 below:Below base w w'
 rest:∀k cs T,T≠5->k≠g->w.heap[k]? = some (.cells cs T (0,0))->w'.heap[k]? = some (.cells cs T (0,0))
def v7a(w:World)(g base:Nat)(xs:List Int)(er:Int)(e:Ending)(w':World):Prop:=e=.returned (.tuple #[])/\WI w' g base xs er/\j1a g base w w'
def M6a(base:Nat)(w:World):Prop:=∀w',Below base w w'->V7a w'
theorem M6a.of{w:World}(h:V7a w):M6a w.heap.size w:=λw' hb=>h.below hb
theorem M6a.next{base:Nat}{w w':World}(h:M6a base w)(hb:Below base w w'):M6a base w':=λw2 h2=>h w2 (hb.trans h2)
theorem M6a.tabs{base:Nat}{w:World}(h:M6a base w):V7a w:=h w (Below.refl _ _)
section
variable {w w' w2:World} {g base:Nat} {xs:List Int} {er:Int} {v:Value} {cs:List Value} {T:TypeId}
theorem j1a.refl(g base:Nat)(w:World):j1a g base w w:=⟨Below.refl _ _,λ_ _ _ _ _ h=>h⟩
theorem j1a.trans(a:j1a g base w w')(b:j1a g base w' w2):j1a g base w w2:=⟨a.below.trans b.below,λk cs T h1 h2 h3=>b.rest k cs T h1 h2 (a.rest k cs T h1 h2 h3)⟩
theorem j1a.of_below(hb:Below w.heap.size w w')(h:base<=w.heap.size):j1a g base w w':=⟨hb.mono h,λk cs T _ _ h3=>(hb.block k (Array.getElem?_eq_some_iff.1 h3).1).trans h3⟩
theorem j1a.of_only(hO:T1a g w w')(h:base<=g):j1a g base w w':=⟨hO.below h,λk cs T _ h2 h3=>(hO.rest k h2).trans h3⟩
theorem j1a.of_grown(hg:w.grownBy w' v.ownBlock)(ho:X0a .u8 5 w base v xs)(h:base<=w.heap.size):j1a g base w w':=by refine⟨(Below.refl _ _).grown hg h (λk hk=>(World.ownsRow.lt ho.own k hk).1),λk cs T h1 h2 h3=>?_⟩;rw[hg.block k (Array.getElem?_eq_some_iff.1 h3).1 (λe=>?_),h3];obtain⟨_,cs',hc⟩:=ho.own.block e.symm;rw[hc] at h3;cases h3;exact h1 rfl
theorem j1a.blk{k:Nat}(a:j1a g base w w')(h:Blk w k T cs)(h1:T≠5)(h2:k≠g):Blk w' k T cs:=a.rest k _ T h1 h2 h
theorem WI.lt(h:WI w g base xs er):g<w.heap.size:=by obtain⟨_,v,hB,_⟩:=h;exact hB.lt
theorem WI.size(h:WI w g base xs er):base<=w.heap.size:=by have:=h.lt;have:=h.1;omega
theorem WI.below(h:WI w g base xs er)(hb:Below w.heap.size w w'):WI w' g base xs er:=by obtain⟨h1,v,hB,hO⟩:=h;exact⟨h1,v,hB.over hb,hO.below hb⟩
theorem j1a.onlyNew{h:Nat}(a:j1a g base w w')(hO:T1a h w' w2)(h1:w.heap.size<=h)(h2:base<=h):j1a g base w w2:=⟨a.below.trans (hO.below h2),λk cs T q1 q2 q3=>(hO.rest k (λe=>by have:=(Array.getElem?_eq_some_iff.1 q3).1;omega)).trans (a.rest k cs T q1 q2 q3)⟩
theorem L1b{A:Option Addr}{n c:Nat}(h:X0a .u8 5 w base (.slice A n c) xs)(hx:Bytes xs)(hn:xs.length<=281474976710656):Holds w w.heap.size A n c xs:=by obtain⟨A',c',e,h1⟩:=X0a.holds8 h hx hn;cases e;exact h1
theorem WI.onlyT{k:Nat}(h:WI w g base xs er)(hB:Blk w k T cs)(hT:T≠5)(hO:T1a k w w')(hk:k≠g):WI w' g base xs er:=by obtain⟨h1,v,hBv,hOv⟩:=h;refine⟨h1,v,hBv.only hO (λe=>hk e.symm),hOv.keep λi c hi hc=>hO.rest i (λe=>?_)⟩;subst e;rw[show w.heap[i]? = _ from hB] at hc;cases hc;exact hT rfl
theorem c9a(h:X0a .u8 5 w base v xs)(hB:Blk w g 161 cs)(hO:T1a g w w'):X0a .u8 5 w' base v xs:=
 h.keep λi c hi hc=>hO.rest i (λe=>by subst e;rw[show w.heap[i]? = _ from hB] at hc;cases hc)
theorem d9a(hB:Blk w g 161 cs)(h:X0a .u8 5 w base v xs)(hg:w.grownBy w' v.ownBlock):Blk w' g 161 cs:=by
 show w'.heap[g]? = _
 rw[hg.block g hB.lt (λe=>?_)]
 ·exact hB
 ·obtain⟨_,c,hc⟩:=h.own.block e.symm;rw[show w.heap[g]? = _ from hB] at hc;cases hc
end
theorem y9a{w:World}{base:Nat}{v:Value}{xs ys:List Int}{B m c:Nat}{ad:Addr}(hown:X0a .u8 5 w base v xs)(hr:Holds w B (some ad) m c ys)(hlen:xs.length+ys.length<=140737488355328)(hbase:base<=w.heap.size)(ty:TypeId) :
  ∃v' w',(Builtin.append_ #[31,31] ty #[v,.slice (some ad) m c]).run Tryz.prog w=.ok v' w'/\X0a .u8 5 w' base v' (xs++ys)/\w.grownBy w' v.ownBlock:=by
 obtain⟨i0,hi0,hz0,hz1,hz2⟩:=info_parts N3a;have hl:=hr.len;have hOK:=hown.own;have hnews:∀j y,(ys.map (Value.int .u8))[j]? = some y->w.cell? (ad.add j)=some y:=by
  intro j u hj;have hjl:j<ys.length:=by
   by_cases hj':j<ys.length
   ·exact hj'
   ·rw[List.getElem?_eq_none (by simp;omega)] at hj;cases hj
  obtain⟨b,off,he,_,hcl⟩:=hr.cells (by omega);obtain rfl:=Option.some.inj he;have e:(⟨b,off,none⟩:Addr).add j=⟨b,off+j,none⟩:=by
   by_cases hj0:j=0
   ·subst hj0;simp[Addr.add]
   ·simp[Addr.add,hj0]
  rw[e,hcl j (by omega),<-hj];simp[hjl]
 have h1:∀y∈ys.map (Value.int .u8),y.oneCell'=true:=by intro v hv;obtain⟨x,_,rfl⟩:=List.mem_map.1 hv;rfl
 have hmax:maxLen=9223372036854775807:=rfl;have key:∀ty,∃v' w',(Builtin.append_ #[31,31] ty #[v,.slice (some ad) m c]).run Tryz.prog w=.ok v' w'/\X0a .u8 5 w' base v' (xs++ys)/\w.grownBy w' v.ownBlock:=by
  intro ty;rcases hown with⟨rfl,rfl⟩ | ⟨g,z,rfl,hb,hz,hg⟩
  ·by_cases hm0:m=0
   ·subst hm0;have:ys=[]:=List.eq_nil_of_length_eq_zero hl;subst this;obtain⟨v',w',hrun,_,hgr,hnil⟩:=run_append_own (P:=Tryz.prog) w base 31 ty 5 i0 (.int .u8 0) 1 1 Tryz.underlying31 hi0 hz0 hz1 hz2 rfl (by omega) (.slice none 0 0) 0 [] (World.ownsRow_nil w base _ 1) ad 0 c [] rfl (λj u hj=>by cases hj) (λu hu=>by cases hu) (by omega) (by omega) hbase;obtain rfl:=hnil.2 ⟨rfl,rfl⟩;exact⟨_,_,hrun,X0a.nil _ _ _ _,hgr⟩
   ·have hrun:=run_append_nil (P:=Tryz.prog) w 31 ty 5 i0 (.int .u8 0) Tryz.underlying31 hi0 hz0 ad m c (ys.map (Value.int .u8)) (by simp[hl,hz1]) hnews (by omega) (by omega) (by rw[hz2];simp at hlen;omega);exact⟨_,_,hrun,by simpa using v5a .u8 5 w base ys 0 m hl hbase (by omega),⟨rfl,rfl,rfl,by simp,λj hj _=>Below.heap_alloc w.drew _ j hj⟩⟩
  ·by_cases hroom:xs.length+m<=xs.length+z
   ·have hrun:=run_append_room (P:=Tryz.prog) w 31 ty 5 i0 Tryz.underlying31 hi0 g xs.length (xs.length+z) _ hg ad m c (ys.map (Value.int .u8)) (by simp[hl,hz1]) hnews h1 hroom (by simp[hz1];omega);refine⟨_,_,hrun,.inr ⟨g,z-m,by simp[hl];omega,hb,by simp;omega,?_⟩,⟨rfl,rfl,rfl,by simp,λj _ hj=>setRow_other w g j _ (λe=>hj (by simp[Value.ownBlock,e]))⟩⟩;rw[setRow_heap w g _ _ 5 _ hg]
    congr 2
    have e1:((xs++List.replicate z 0).map (Value.int .u8)).take (xs.length*i0.size)=xs.map (Value.int .u8):=by rw[hz1,Nat.mul_one,List.map_append,List.take_left' (by simp)]
    have e2:((xs++List.replicate z 0).map (Value.int .u8)).drop (xs.length*i0.size+(ys.map (Value.int .u8)).length)=(List.replicate (z-m) 0).map (Value.int .u8):=by rw[hz1,Nat.mul_one,List.length_map,hl,<-List.drop_drop,List.map_append,List.drop_left' (by simp),<-List.map_drop,List.drop_replicate]
    rw[e1,e2];simp
   ·have o0a:∀j y,(xs.map (Value.int .u8))[j]? = some y->w.cell? ((⟨g,0,none⟩:Addr).add j)=some y:=hOK.cells (g:=g) rfl;have hrun:=run_append_grow (P:=Tryz.prog) w 31 ty 5 i0 (.int .u8 0) Tryz.underlying31 hi0 hz0 ⟨g,0,none⟩ xs.length (xs.length+z) (xs.map (Value.int .u8)) (by simp[hz1]) o0a ad m c (ys.map (Value.int .u8)) (by simp[hl,hz1]) hnews (by omega) (by omega) (growslice_fits (by omega) (by rw[hz2];omega));refine⟨_,_,hrun,?_,⟨rfl,rfl,rfl,by simp,λj hj _=>Below.heap_alloc w.drew _ j hj⟩⟩;have:=v5a .u8 5 w base (xs++ys) (xs.length+z) (xs.length+m) (by simp[hl]) hbase (by omega);simpa using this
 exact key ty
theorem I3a{w:World}{ops:Array Oper}{rest:List Oper}{o:Oper}{a:Act}{Q:Exit->Act->World->Prop}(hgd:o.guard=none)(s x:Operand)
(ho:o.op=.call { callee:=.builtin .append,args:=#[s,x],argTypes:=#[31,31] })
(base:Nat)(v:Value)(xs:List Int)(hs:a.eval s=v)(hown:X0a .u8 5 w base v xs)(B:Nat)(A:Option Addr)(m c:Nat)(ys:List Int)(hx:a.eval x=.slice A m c)
(hr:Holds w B A m c ys)(hlen:xs.length+ys.length<=140737488355328)(hbase:base<=w.heap.size)
(h:∀v' w',Hid (X0a .u8 5 w' base v' (xs++ys))->Hid (w.grownBy w' v.ownBlock)->wpList Tryz.prog ops Q rest (a.put o.dst v') w') :
  wpList Tryz.prog ops Q (o::rest) a w:=by
 have hl:=hr.len;rcases A with _ | ad
 ·have hc:=hr.bare rfl;have hf:=hr.fit;have hm:m=0:=by omega
  subst hm;subst hc;have:ys=[]:=List.eq_nil_of_length_eq_zero hl;subst this;obtain⟨i0,hi0,hz0,hz1,hz2⟩:=info_parts N3a;refine wpList_append_own_none hgd s x 31 ho base 5 i0 1 Tryz.underlying31 hi0 v xs.length _ hs hown.own hx ?_;exact h v w (by rw[List.append_nil];exact hown) (World.grownBy.refl w _)
 ·obtain⟨v',w',hrun,h2,h3⟩:=y9a hown hr hlen hbase o.type;exact Lib.wpList_append_run w hgd s x _ _ ho _ _ hs hx v' w' hrun (h v' w' h2 h3)
theorem R7a{w:World}{ops:Array Oper}{rest:List Oper}{o:Oper}{a:Act}{Q:Exit->Act->World->Prop}(hgd:o.guard=none)(s x:Operand)
(ho:o.op=.call { callee:=.builtin .append,args:=#[s,x],argTypes:=#[31,3] })
(base n:Nat)(v:Value)(xs:List Int)(hs:a.eval s=v)(hx:a.eval x=.int .i64 (n:Int))(hown:X0a .u8 5 w base v xs)(h0:0<n)(hn:n<=65536)(hlen:xs.length<=1000000)(hbase:base<=w.heap.size)
(h:∀v' w',Hid (X0a .u8 5 w' base v' (xs++List.replicate n 0))->Hid (w.grownBy w' v.ownBlock)->wpList Tryz.prog ops Q rest (a.put o.dst v') w') :
  wpList Tryz.prog ops Q (o::rest) a w:=by
 obtain⟨v',w',hrun,h2,h3⟩:=G6a h0 hn hown hlen hbase o.type;exact Lib.wpList_append_run w hgd s x _ _ ho _ _ hs hx v' w' hrun (h v' w' h2 h3)
theorem C0b:(Tryz.prog.info? 31).map (·.size)=some 1:=by kernel_rfl
theorem I2b(w:World)(b:Bool):Calls Tryz.prog 138 #[.bool b] w λe w'=>e=.returned (.int .u64 (V0a b))/\w=w':=by
 cases b
 ·go_enter Tryz.func138,Tryz.ntmps138;go_wp2;go_ret;exact⟨rfl,rfl⟩
 ·go_enter Tryz.func138,Tryz.ntmps138;go_wp2;go_ret;exact⟨rfl,rfl⟩
theorem t3b(w:World)(g base:Nat)(xs:List Int)(er n:Int)(s:Nat)(hW:WI w g base xs er)(hs:j3a (s:Int)=true)(hn:0<=n/\n<256^s)(hl:xs.length<=1000000) :
  Calls Tryz.prog 172 #[.pointer (some ⟨g,0,none⟩),.int .u64 n,.int .i64 (s:Int)] w (v7a w g base (xs++le n s) er):=by
 have hs8:1<=s/\s<=8:=by rcases Q1a hs with h | h | h | h<;>omega
 obtain⟨hs1,hs8⟩:=hs8;have hp8:(256:Int)^s<=18446744073709551616:=by
  rcases Q1a hs with h | h | h | h
  ·obtain rfl:s=1:=by omega
   decide
  ·obtain rfl:s=2:=by omega
   decide
  ·obtain rfl:s=4:=by omega
   decide
  ·obtain rfl:s=8:=by omega
   decide
 have CP:Hid (Calls Tryz.prog 37 #[.int .u64 n,.int .i64 (s:Int)] w λe w'=>∃A',e=.returned (.tuple #[.slice A' s s,.int .i64 0])/\r2a w' w.heap.size A' (le n s)/\Below w.heap.size w w'):=by
  obtain⟨h0,h1⟩:=hn;have h:=d8a w n (s:Int) ⟨h0,by omega⟩ (by omega);unfold e5a at h;have hp:A4a n (s:Int)=true:=by unfold A4a;rw[hs,Int.toNat_natCast,decide_eq_true h1];rfl
  unfold z6a p5a at h;rw[if_pos hp,if_pos hp,Int.toNat_natCast,g0a] at h;exact h
 have hsz:=hW.size;have hgb:=hW.1;have HLN:Hid ((le n s).length=s/\Bytes (le n s)):=⟨g0a _ _,F0a _ _⟩;obtain⟨_,v,hB,hO⟩:=hW;have HBw:=hI hB;have HO:=hI hO;have HQ:Hid (∀e w',(e=.returned (.tuple #[])/\(∃u,Blk w' g 161 [u,.int .i64 er]/\X0a .u8 5 w' base u (xs++le n s))/\j1a g base w w')->v7a w g base (xs++le n s) er e w'):=λe w' ⟨h1,h2,h3⟩=>⟨h1,⟨hgb,h2⟩,h3⟩
 obtain⟨ys,hys⟩:∃ys,ys=le n s:=⟨_,rfl⟩;rw[<-hys] at CP HQ HLN⊢;clear hB hO hys hn hp8 hs;go_enter Tryz.func172,Tryz.ntmps172;go_wp2_with fail;refine CP.out.mono ?_;rintro e w1 ⟨A',rfl,hF,L1⟩;have HH:=hI (hF.holds HLN.out.1 HLN.out.2 (by omega));have hyl:=HLN.out.1;have B1:=hI (HBw.out.over L1);have O1:=hI (HO.out.below L1);have K1:Hid (j1a g base w w1):=j1a.of_below L1 hsz;have hsz1:base<=w1.heap.size:=by have:=L1.size;omega
 have c0:w1.cell? ⟨g,0,none⟩=some v:=B1.out.at rfl;clear hF L1 CP HBw HO;go_wp2_with(first
  | ((with_reducible refine sN 20 ?_);refine I3a rfl (.tmp 18) (.tmp 19) rfl base v xs rfl O1.out w1.heap.size A' s s ys rfl HH.out (by omega) hsz1 ?_;intro u w2 O2 G2;have B2:=hI (d9a B1.out O1.out G2.out);have K2:Hid (j1a g base w w2):=(K1.out.trans (j1a.of_grown G2.out O1.out hsz1));have HU:=hI (V4a O2.out))
  | ((with_reducible refine sT 22 ?_);refine d0a rfl _ (.tmp 22) (.tmp 20) rfl g 0 rfl _ [v,.int .i64 er] u rfl B2 (hI (by show 0<2;decide)) C0b HU.out ?_;intro w3 B3 P3 hg3;have O3:=hI (c9a O2.out B2.out P3.out);have K3:Hid (j1a g base w w3):=(K2.out.trans (j1a.of_only P3.out hgb)))
  | fail)
 go_end0;exact HQ.out _ _ ⟨rfl,⟨u,B3.out,O3.out⟩,K3.out⟩
theorem k4a(w:World)(g base:Nat)(xs:List Int)(er n:Int)(hW:WI w g base xs er)(hn:0<=n/\n<=65535)(hl:xs.length<=1000000) :
  Calls Tryz.prog 135 #[.pointer (some ⟨g,0,none⟩),.int .u64 n] w (v7a w g base (xs++le n 2) er):=by
 have C1:=hI (t3b w g base xs er n 2 hW (by decide) ⟨hn.1,by have:=hn.2;rw[show(256:Int)^2=65536 from by decide];omega⟩ hl);have HQ:Hid (∀e w',(e=.returned (.tuple #[])/\WI w' g base (xs++le n 2) er/\j1a g base w w')->v7a w g base (xs++le n 2) er e w'):=λ_ _ h=>h
 unfold v7a at C1;obtain⟨ys,hys⟩:∃ys,ys=xs++le n 2:=⟨_,rfl⟩;rw[<-hys] at C1 HQ⊢;clear hys hW hn;go_enter Tryz.func135,Tryz.ntmps135;go_wp2_with fail;refine C1.out.mono ?_;rintro e w1 ⟨rfl,h1,h2⟩;have H1:=hI h1;have H2:=hI h2;clear h1 h2;go_wp2;go_end0;exact HQ.out _ _ ⟨rfl,H1.out,H2.out⟩
theorem G3a(w:World)(g base:Nat)(xs:List Int)(er n:Int)(hW:WI w g base xs er)(hn:0<=n/\n<=18446744073709551615)(hl:xs.length<=1000000) :
  Calls Tryz.prog 134 #[.pointer (some ⟨g,0,none⟩),.int .u64 n] w (v7a w g base (xs++le n 8) er):=by
 have C1:=hI (t3b w g base xs er n 8 hW (by decide) ⟨hn.1,by have:=hn.2;rw[show(256:Int)^8=18446744073709551616 from by decide];omega⟩ hl);have HQ:Hid (∀e w',(e=.returned (.tuple #[])/\WI w' g base (xs++le n 8) er/\j1a g base w w')->v7a w g base (xs++le n 8) er e w'):=λ_ _ h=>h
 unfold v7a at C1;obtain⟨ys,hys⟩:∃ys,ys=xs++le n 8:=⟨_,rfl⟩;rw[<-hys] at C1 HQ⊢;clear hys hW hn;go_enter Tryz.func134,Tryz.ntmps134;go_wp2_with fail;refine C1.out.mono ?_;rintro e w1 ⟨rfl,h1,h2⟩;have H1:=hI h1;have H2:=hI h2;clear h1 h2;go_wp2;go_end0;exact HQ.out _ _ ⟨rfl,H1.out,H2.out⟩
theorem o5a(w:World)(g base:Nat)(xs:List Int)(er:Int)(n:Nat)(hW:WI w g base xs er)(h0:0<n)(hn:n<=65536)(hl:xs.length<=1000000) :
  Calls Tryz.prog 136 #[.pointer (some ⟨g,0,none⟩),.int .i64 (n:Int)] w (v7a w g base (xs++List.replicate n 0) er):=by
 have hsz:=hW.size;have hgb:=hW.1;obtain⟨_,v,hB,hO⟩:=hW;have HBw:=hI hB;have HO:=hI hO;have HQ:Hid (∀e w',(e=.returned (.tuple #[])/\(∃u,Blk w' g 161 [u,.int .i64 er]/\X0a .u8 5 w' base u (xs++List.replicate n 0))/\j1a g base w w')->v7a w g base (xs++List.replicate n 0) er e w'):=λe w' ⟨h1,h2,h3⟩=>⟨h1,⟨hgb,h2⟩,h3⟩
 have c0:w.cell? ⟨g,0,none⟩=some v:=hB.at rfl;clear hB hO;go_enter Tryz.func136,Tryz.ntmps136;go_wp2_with(first
  | ((with_reducible refine sN 10 ?_);refine R7a rfl (.tmp 8) (.tmp 9) rfl base n v xs rfl rfl HO.out h0 hn hl hsz ?_;intro u w2 O2 G2;have B2:=hI (d9a HBw.out HO.out G2.out);have K2:Hid (j1a g base w w2):=(j1a.of_grown G2.out HO.out hsz);have HU:=hI (V4a O2.out))
  | ((with_reducible refine sT 12 ?_);refine d0a rfl _ (.tmp 12) (.tmp 10) rfl g 0 rfl _ [v,.int .i64 er] u rfl B2 (hI (by show 0<2;decide)) C0b HU.out ?_;intro w3 B3 P3 hg3;have O3:=hI (c9a O2.out B2.out P3.out);have K3:Hid (j1a g base w w3):=(K2.out.trans (j1a.of_only P3.out hgb)))
  | fail)
 go_end0;exact HQ.out _ _ ⟨rfl,⟨u,B3.out,O3.out⟩,K3.out⟩
theorem e9a(w:World)(g base:Nat)(xs:List Int)(er:Int)(s:ByteArray)(hW:WI w g base xs er)(hs:s.size<=17592186044416)(hT:M6a base w)(hl:xs.length<=1000000) :
  Calls Tryz.prog 137 #[.pointer (some ⟨g,0,none⟩),.string s] w (v7a w g base (xs++A0a s.data.toList) (if er=0 then y0a s.data.toList else er)):=by
 have hsz:=hW.size;have hgb:=hW.1;have CP:Hid (Calls Tryz.prog 110 #[.string s] w λe w'=>∃A m c,e=.returned (.tuple #[.slice A m c,.int .i64 (y0a s.data.toList)])/\m<=1000/\X0a .u8 5 w' w.heap.size (.slice A m c) (A0a s.data.toList)/\Below w.heap.size w w'):=by
  refine(A5a s w hs hT.tabs).mono λe w' ⟨v,h1,h2,h3⟩=>?_
  have hle:(A0a s.data.toList).length<=514:=k3a _;obtain⟨A,c,rfl,h4⟩:=X0a.holds8 h2 (b2a _) (by omega);exact⟨A,_,c,h1,by omega,h2,h3⟩
 obtain⟨_,v,hB,hO⟩:=hW;have HBw:=hI hB;have HO:=hI hO;have HQ:Hid (∀e w',(e=.returned (.tuple #[])/\(∃u,Blk w' g 161 [u,.int .i64 (if er=0 then y0a s.data.toList else er)]/\X0a .u8 5 w' base u (xs++A0a s.data.toList))/\j1a g base w w')->v7a w g base (xs++A0a s.data.toList) (if er=0 then y0a s.data.toList else er) e w'):=λe w' ⟨h1,h2,h3⟩=>⟨h1,⟨hgb,h2⟩,h3⟩
 have HYB:Hid (Bytes (A0a s.data.toList)/\(A0a s.data.toList).length<=514):=⟨b2a _,k3a _⟩;obtain⟨ys,hys⟩:∃ys,ys=A0a s.data.toList:=⟨_,rfl⟩;obtain⟨et,het⟩:∃ys,ys=y0a s.data.toList:=⟨_,rfl⟩;rw[<-hys,<-het] at CP HQ⊢;rw[<-hys] at HYB;have hgw:g<w.heap.size:=hB.lt;clear hB hO hys het;by_cases he:er=0
 ·subst he;rw[if_pos rfl] at HQ⊢;go_enter Tryz.func137,Tryz.ntmps137;go_wp2_with fail;refine CP.out.mono ?_;rintro e w1 ⟨A',m,c,rfl,hm,hh,L1⟩;have HYL:=HYB.out.2;have HOT:=hI hh;have HH:=hI (L1b hh HYB.out.1 (by omega));have hyl:=HH.out.len;have B1:=hI (HBw.out.over L1);have O1:=hI (HO.out.below L1);have K1:Hid (j1a g base w w1):=j1a.of_below L1 hsz;have hsz1:base<=w1.heap.size:=by have:=L1.size;omega
  have c0:w1.cell? ⟨g,0,none⟩=some v:=B1.out.at rfl;have c1:w1.cell? ⟨g,1,none⟩=some (.int .i64 0):=B1.out.at rfl;clear hh L1 CP HBw HO;go_wp2_with(first
   | ((with_reducible refine sT 19 ?_);refine d0a rfl _ (.tmp 19) (.tmp 17) rfl g 1 rfl _ [v,.int .i64 0] (.int .i64 et) rfl B1 (hI (by show 1<2;decide)) (by kernel_rfl) rfl ?_;intro w2 B2 P2 hg2;have O2:=hI (c9a O1.out B1.out P2.out);have K2:Hid (j1a g base w w2):=(K1.out.trans (j1a.of_only P2.out hgb));have HH2:=hI (L1b (HOT.out.onlyAt P2.out hgw) HYB.out.1 (by omega));have hsz2:base<=w2.heap.size:=(by have:=P2.out.size;omega);have d0:w2.cell? ⟨g,0,none⟩=some v:=B2.out.at rfl)
   | ((with_reducible refine sN 26 ?_);refine I3a rfl (.tmp 24) (.tmp 25) rfl base v xs rfl O2.out _ A' m c ys rfl HH2.out (by omega) hsz2 ?_;intro u w3 O3 G3;have B3:=hI (d9a B2.out O2.out G3.out);have K3:Hid (j1a g base w w3):=(K2.out.trans (j1a.of_grown G3.out O2.out hsz2));have HU:=hI (V4a O3.out))
   | ((with_reducible refine sT 28 ?_);refine d0a rfl _ (.tmp 28) (.tmp 26) rfl g 0 rfl _ [v,.int .i64 et] u rfl B3 (hI (by show 0<2;decide)) C0b HU.out ?_;intro w4 B4 P4 hg4;have O4:=hI (c9a O3.out B3.out P4.out);have K4:Hid (j1a g base w w4):=(K3.out.trans (j1a.of_only P4.out hgb)))
   | fail)
  go_end0;exact HQ.out _ _ ⟨rfl,⟨u,B4.out,O4.out⟩,K4.out⟩
 ·rw[if_neg he] at HQ⊢;have hne:(er==0)=false:=by simpa using he
  clear he;go_enter Tryz.func137,Tryz.ntmps137;go_wp2_with fail;refine CP.out.mono ?_;rintro e w1 ⟨A',m,c,rfl,hm,hh,L1⟩;have HYL:=HYB.out.2;have HOT:=hI hh;have HH:=hI (L1b hh HYB.out.1 (by omega));have hyl:=HH.out.len;have B1:=hI (HBw.out.over L1);have O1:=hI (HO.out.below L1);have K1:Hid (j1a g base w w1):=j1a.of_below L1 hsz;have hsz1:base<=w1.heap.size:=by have:=L1.size;omega
  have c0:w1.cell? ⟨g,0,none⟩=some v:=B1.out.at rfl;have c1:w1.cell? ⟨g,1,none⟩=some (.int .i64 er):=B1.out.at rfl;clear hh L1 CP HBw HO;go_wp2_with(first
   | ((with_reducible refine sN 26 ?_);refine I3a rfl (.tmp 24) (.tmp 25) rfl base v xs rfl O1.out _ A' m c ys rfl HH.out (by omega) hsz1 ?_;intro u w3 O3 G3;have B3:=hI (d9a B1.out O1.out G3.out);have K3:Hid (j1a g base w w3):=(K1.out.trans (j1a.of_grown G3.out O1.out hsz1));have HU:=hI (V4a O3.out))
   | ((with_reducible refine sT 28 ?_);refine d0a rfl _ (.tmp 28) (.tmp 26) rfl g 0 rfl _ [v,.int .i64 er] u rfl B3 (hI (by show 0<2;decide)) C0b HU.out ?_;intro w4 B4 P4 hg4;have O4:=hI (c9a O3.out B3.out P4.out);have K4:Hid (j1a g base w w4):=(K3.out.trans (j1a.of_only P4.out hgb)))
   | fail)
  go_end0;exact HQ.out _ _ ⟨rfl,⟨u,B4.out,O4.out⟩,K4.out⟩
theorem J2b(w:World)(g base:Nat)(xs:List Int)(er f v:Int)(hW:WI w g base xs er)(hf:0<=f/\f<=18446744073709551615)(hv:0<=v/\v<=255)(hl:xs.length<=900000) :
  Calls Tryz.prog 139 #[.pointer (some ⟨g,0,none⟩),.int .u64 f,.int .u8 v] w (v7a w g base (xs++(le f 8++(le v 1++List.replicate 3 0))) er):=by
 obtain⟨hv0,hv1⟩:=hv;have C1:=hI (G3a w g base xs er f hW hf (by omega));have C2:Hid (∀w':World,WI w' g base (xs++le f 8) er->Calls Tryz.prog 172 #[.pointer (some ⟨g,0,none⟩),.int .u64 v,.int .i64 1] w' λe w2=>e=.returned (.tuple #[])/\WI w2 g base (xs++le f 8++le v 1) er/\j1a g base w' w2):=λw' h=>t3b w' g base _ er v 1 h (by decide) ⟨hv0,by rw[show(256:Int)^1=256 from by decide];omega⟩ (by rw[List.length_append,g0a];omega)
 have C3:Hid (∀w':World,WI w' g base (xs++le f 8++le v 1) er->Calls Tryz.prog 136 #[.pointer (some ⟨g,0,none⟩),.int .i64 3] w' λe w2=>e=.returned (.tuple #[])/\WI w2 g base (xs++le f 8++le v 1++List.replicate 3 0) er/\j1a g base w' w2):=λw' h=>o5a w' g base _ er 3 h (by decide) (by decide) (by rw[List.length_append,List.length_append,g0a,g0a];omega)
 have HQ:Hid (∀e w',(e=.returned (.tuple #[])/\WI w' g base (xs++le f 8++le v 1++List.replicate 3 0) er/\j1a g base w w')->v7a w g base (xs++(le f 8++(le v 1++List.replicate 3 0))) er e w'):=λe w' h=>by rw[show xs++(le f 8++(le v 1++List.replicate 3 0))=xs++le f 8++le v 1++List.replicate 3 0 from by simp only[List.append_assoc]];exact h
 unfold v7a at C1;obtain⟨y3,hy3⟩:∃ys,ys=xs++le f 8++le v 1++List.replicate 3 0:=⟨_,rfl⟩;rw[<-hy3] at C3 HQ;obtain⟨y2,hy2⟩:∃ys,ys=xs++le f 8++le v 1:=⟨_,rfl⟩;rw[<-hy2] at C2 C3;obtain⟨y1,hy1⟩:∃ys,ys=xs++le f 8:=⟨_,rfl⟩;rw[<-hy1] at C1 C2;clear hy1 hy2 hy3 hW hf;go_enter Tryz.func139,Tryz.ntmps139;go_wp2_with fail;refine C1.out.mono ?_;rintro e w1 ⟨rfl,h1,h2⟩;have D2:=hI (C2.out w1 h1);have K1:=hI h2;clear h1 h2 C1 C2;go_wp2_with fail;refine D2.out.mono ?_;rintro e w2 ⟨rfl,h1,h2⟩;have D3:=hI (C3.out w2 h1);have K2:=hI (K1.out.trans h2);clear h1 h2 D2 C3;go_wp2_with fail;refine D3.out.mono ?_;rintro e w3 ⟨rfl,h1,h2⟩;have H3:=hI h1;have K3:=hI (K2.out.trans h2);clear h1 h2 D3;go_wp2;go_end0;exact HQ.out _ _ ⟨rfl,H3.out,K3.out⟩
def u3b(w:World)(base:Nat)(xs:List Int)(er:Int)(e:Ending)(w':World):Prop:=∃v,e=.returned (.tuple #[v,.int .i64 er])/\X0a .u8 5 w' base v (if er=0 then xs else [])/\Below w.heap.size w w'
theorem l4a(w:World)(g base:Nat)(xs:List Int)(er:Int)(hW:WI w g base xs er) :
  Calls Tryz.prog 140 #[.pointer (some ⟨g,0,none⟩)] w (u3b w base xs er):=by
 obtain⟨_,v,hB,hO⟩:=hW;have HO:=hI hO;have HV:=hI (V4a hO);have c0:w.cell? ⟨g,0,none⟩=some v:=hB.at rfl;have c1:w.cell? ⟨g,1,none⟩=some (.int .i64 er):=hB.at rfl;have HBw:=hI hB;by_cases he:er=0
 ·subst he;have HQ:Hid (∀e w',(e=.returned (.tuple #[v,.int .i64 0])/\X0a .u8 5 w' base v xs/\Below w.heap.size w w')->u3b w base xs 0 e w'):=λe w' ⟨h1,h2,h3⟩=>⟨v,h1,by rw[if_pos rfl];exact h2,h3⟩
  clear hB hO;go_enter Tryz.func140,Tryz.ntmps140;go_wp2;go_ret2;exact HQ.out _ _ ⟨rfl,HO.out,Below.refl _ _⟩
 ·have HQ:Hid (∀e w',(e=.returned (.tuple #[.slice none 0 0,.int .i64 er])/\Below w.heap.size w w')->u3b w base xs er e w'):=λe w' ⟨h1,h2⟩=>⟨_,h1,by rw[if_neg he];exact X0a.nil _ _ _ _,h2⟩
  have hne:(er != 0)=true:=by simpa using he
  clear hB hO he;go_enter Tryz.func140,Tryz.ntmps140;go_wp2;go_quiet (fail);go_wp2;go_ret2;exact HQ.out _ _ ⟨rfl,G2a w _⟩
theorem K2b:(Tryz.prog.info? 118).map (λi=>(i.zero,i.size))=some (some (.agg ([.string .empty,.int .u8 0,.int .i64 0]:List Value).toArray),3):=by kernel_rfl
def u1c(e:y1a):Prop:=e.ok/\w3a e=true/\e.name.size<=17592186044416
theorem y4b(w:World)(g base:Nat)(xs:List Int)(A:Option Addr)(n c:Nat)(es:List y1a)(hW:WI w g base xs 0)(hE:d1a z0a 3 w base A n c es)(hn:n<=64)(hi:∀e∈es,u1c e)(hT:M6a base w)(hl:xs.length<=100000) :
  Calls Tryz.prog 152 #[.pointer (some ⟨g,0,none⟩),.slice A n c] w (v7a w g base (xs++W0a es) (w1a es)):=by
 have hsz:=hW.size;have HW:=hI hW;have HE:=hI hE;have HT:=hI hT;have HLE:=hI hE.len;have hft:=hE.fit;have HQ:Hid (∀e w',(e=.returned (.tuple #[])/\WI w' g base (xs++W0a es) (w1a es)/\j1a g base w w')->v7a w g base (xs++W0a es) (w1a es) e w'):=λ_ _ h=>h
 have H0:Hid (xs++W0a (es.take 0)=xs/\w1a (es.take 0)=0):=by
  refine⟨?_,?_⟩
  ·rw[List.take_zero];exact List.append_nil _
  ·rw[List.take_zero];rfl
 have HN:Hid (xs++W0a (es.take n)=xs++W0a es/\w1a (es.take n)=w1a es):=by
  have h1:es.take n=es:=by rw[<-hE.len,List.take_length]
  exact⟨by rw[h1],by rw[h1]⟩
 have HX:Hid (∀j,j<n->∃x,es[j]? = some x/\u1c x):=λj hj=>⟨_,List.getElem?_eq_getElem (by have:=hE.len;omega),hi _ (List.getElem_mem _)⟩
 have HST:Hid (∀(j:Nat) (x:y1a),es[j]? = some x->xs++W0a (es.take j)++le x.kind 2++List.replicate 2 0++le x.size 8++A0a x.name.data.toList=xs++W0a (es.take (j+1))/\(if w1a (es.take j)=0 then y0a x.name.data.toList else w1a (es.take j))=w1a (es.take (j+1))):=λj x hx=>by
  rw[List.take_add_one,hx,Option.toList_some,C5a,B1b];refine⟨by simp only[W0a,E6a,List.append_nil,List.append_assoc],?_⟩;have e1:w1a [x]=y0a x.name.data.toList:=by
   show(if y0a x.name.data.toList=0 then (0:Int) else y0a x.name.data.toList)=_
   split
   ·rename_i h;exact h.symm
   ·rfl
  rw[e1]
 have HLEN:Hid (∀j,j<=n->(xs++W0a (es.take j)).length<=200000):=λj hj=>by have h1:=C1b (es.take j);rw[List.length_take] at h1;rw[List.length_append];omega
 obtain⟨YS,hYS⟩:∃f:Nat->List Int,f=λj=>xs++W0a (es.take j):=⟨_,rfl⟩
 have hYS2:∀j,xs++W0a (es.take j)=YS j:=λj=>by rw[hYS]
 obtain⟨ER,hER⟩:∃f:Nat->Int,f=λj=>w1a (es.take j):=⟨_,rfl⟩
 have hER2:∀j,w1a (es.take j)=ER j:=λj=>by rw[hER]
 simp only[hYS2,hER2] at H0 HN HST HLEN;rw[<-HN.out.1,<-HN.out.2] at HQ⊢;clear hYS hYS2 hER hER2 hW hE hT hi HN;have hzk:=K2b;obtain⟨zk,hzk2⟩:∃zk,zk=([.string .empty,.int .u8 0,.int .i64 0]:List Value):=⟨_,rfl⟩;have ZKL:Hid (zk.length=3):=by rw[hzk2];rfl
 rw[<-hzk2] at hzk;have HZK:=hI hzk;clear hzk hzk2;go_enter Tryz.func152,Tryz.ntmps152;go_wp2;go_loopw [8] (λi wr=>∃j:Nat,i=.int .i64 j/\j<=n/\Hid (WI wr g base (YS j) (ER j))/\Hid (j1a g base w wr)) (λi _=>n-(intOf i).toNat)
 case atStart=>exact⟨0,rfl,Nat.zero_le _,(by rw[H0.out.1,H0.out.2];exact HW.out),j1a.refl _ _ _⟩
 case round=>
  obtain⟨j,rfl,hj,HW1,HK1⟩:=hrel;by_cases hlt:j<n
  ·have hh:=HE.out.below HK1.out.below;obtain⟨b,off,rfl,hb,hc⟩:=hh.cells (by omega);obtain⟨x,hx,hin⟩:=HX.out j hlt;have Rx:Hid (wr.rangeAt b (off+j*3) (z0a x)):=hh.range rfl hlt hx;have LX:Hid ((z0a x).length=3):=rfl;have HX1:Hid (∀v∈z0a x,v.oneCell'=true):=x4a x;have HS:=hI (HST.out j x hx);have HLJ:=HLEN.out j hj;obtain⟨x1,x2,x3⟩:=hin;have hk1:=x1.kind;obtain⟨hk0,hk1⟩:=hk1;have hs1:0<=x.size/\x.size<=1048576:=by unfold w3a at x2;simp only[Bool.and_eq_true,decide_eq_true_eq] at x2;exact x2.2
   obtain⟨hs0,hs1⟩:=hs1;have HTr:=hI (HT.out.next HK1.out.below);have hwsz:=HW1.out.size;have hwgr:=HK1.out.below.size;have hwlt:=HW1.out.lt;have C1:Hid (∀w',WI w' g base (YS j) (ER j)->Calls Tryz.prog 135 #[.pointer (some ⟨g,0,none⟩),.int .u64 x.kind] w' λe w2=>e=.returned (.tuple #[])/\WI w2 g base (YS j++le x.kind 2) (ER j)/\j1a g base w' w2):=λw' h=>k4a w' g base _ _ x.kind h ⟨hk0,by omega⟩ (by omega)
   have C2:Hid (∀w',WI w' g base (YS j++le x.kind 2) (ER j)->Calls Tryz.prog 136 #[.pointer (some ⟨g,0,none⟩),.int .i64 2] w' λe w2=>e=.returned (.tuple #[])/\WI w2 g base (YS j++le x.kind 2++List.replicate 2 0) (ER j)/\j1a g base w' w2):=λw' h=>o5a w' g base _ _ 2 h (by decide) (by decide) (by rw[List.length_append,g0a];omega)
   have C3:Hid (∀w',WI w' g base (YS j++le x.kind 2++List.replicate 2 0) (ER j)->Calls Tryz.prog 134 #[.pointer (some ⟨g,0,none⟩),.int .u64 x.size] w' λe w2=>e=.returned (.tuple #[])/\WI w2 g base (YS j++le x.kind 2++List.replicate 2 0++le x.size 8) (ER j)/\j1a g base w' w2):=λw' h=>G3a w' g base _ _ x.size h ⟨hs0,by omega⟩ (by rw[List.length_append,List.length_append,g0a,List.length_replicate];omega)
   have C4:Hid (∀w',M6a base w'->WI w' g base (YS j++le x.kind 2++List.replicate 2 0++le x.size 8) (ER j)->Calls Tryz.prog 137 #[.pointer (some ⟨g,0,none⟩),.string x.name] w' λe w2=>e=.returned (.tuple #[])/\WI w2 g base (YS (j+1)) (ER (j+1))/\j1a g base w' w2):=λw' ht h=>by have h1:=e9a w' g base _ _ x.name h x3 ht (by rw[List.length_append,List.length_append,List.length_append,g0a,g0a,List.length_replicate];omega);rw[HS.out.1,HS.out.2] at h1;exact h1
   obtain⟨y3,hy3⟩:∃y,y=YS j++le x.kind 2++List.replicate 2 0++le x.size 8:=⟨_,rfl⟩;rw[<-hy3] at C3 C4;obtain⟨y2,hy2⟩:∃y,y=YS j++le x.kind 2++List.replicate 2 0:=⟨_,rfl⟩;rw[<-hy2] at C2 C3;obtain⟨y1,hy1⟩:∃y,y=YS j++le x.kind 2:=⟨_,rfl⟩;rw[<-hy1] at C1 C2;have FK:Hid (∀(w:World) (h:Nat),Blk w h 118 (z0a x)->w.cell? ⟨h,0,none⟩=some (.string x.name)/\w.cell? ⟨h,1,none⟩=some (.int .u8 x.kind)/\w.cell? ⟨h,2,none⟩=some (.int .i64 x.size)):=λw h hb=>⟨hb.at rfl,hb.at rfl,hb.at rfl⟩
   obtain⟨cx,hcx⟩:∃cx,cx=z0a x:=⟨_,rfl⟩;rw[<-hcx] at Rx LX HX1 FK;have hwr8:IntKind.u64.wrap x.size=x.size:=by rw[IntKind.wrap_u64];omega
   have hwk8:IntKind.u64.wrap x.kind=x.kind:=by rw[IntKind.wrap_u64];omega
   obtain⟨kd,hkd⟩:∃z,z=x.kind:=⟨_,rfl⟩;obtain⟨sz,hszx⟩:∃z,z=x.size:=⟨_,rfl⟩;obtain⟨nm,hnm⟩:∃z,z=x.name:=⟨_,rfl⟩;rw[<-hkd,<-hszx,<-hnm] at FK;rw[<-hkd] at C1 hk0 hk1 hwk8;rw[<-hszx] at C3 hs0 hs1 hwr8;rw[<-hnm] at C4;clear hh hc hx hcx hy1 hy2 hy3 x1 x2 x3 HS hkd hszx hnm;go_wp2_with(first
    | ((with_reducible refine sN 11 ?_);refine t0a rfl _ (.tmp 10) rfl b (off+j*3) rfl cx _ Rx Tryz.underlying118 rfl 3 D3a LX ?_)
    | ((with_reducible refine sN 5 ?_);refine a0a rfl _ rfl zk _ HZK ?_;intro h u1 hg1 hg2 Z1 N1;have V1:=hI (HW1.out.below N1.out);have hhg:h≠g:=(by omega);have KA:Hid (j1a g base w u1):=(HK1.out.trans (j1a.of_below N1.out hwsz)))
    | ((with_reducible refine sT 5 ?_);refine b0a rfl _ (.tmp 5) (.tmp 11) rfl h rfl _ zk cx rfl Z1 3 D3a ZKL LX HX1 ?_;intro u2 Z2 P2 hg3;have V2:Hid (WI u2 g base (YS j) (ER j)):=(V1.out.onlyT Z1.out (by decide) P2.out hhg);have KB:Hid (j1a g base w u2):=(KA.out.onlyNew P2.out (by omega) (by omega));have q0:=FK.out u2 h Z2.out)
    | fail)
   obtain⟨q1,q2,q3⟩:=q0;go_wp2_with fail;refine(C1.out u2 V2.out).mono ?_;rintro e u3 ⟨rfl,h1,h2⟩;have D2:=hI (C2.out u3 h1);have Z3:=hI (h2.blk Z2.out (by decide) hhg);have KC:=hI (KB.out.trans h2);obtain⟨r1,r2,r3⟩:=FK.out u3 h Z3.out;clear h1 h2 C1 C2 q1 q2 q3;go_wp2_with fail;refine D2.out.mono ?_;rintro e u4 ⟨rfl,h1,h2⟩;have D3:=hI (C3.out u4 h1);have Z4:=hI (h2.blk Z3.out (by decide) hhg);have KD:=hI (KC.out.trans h2);obtain⟨s1,s2,s3⟩:=FK.out u4 h Z4.out;clear h1 h2 D2 C3 r1 r2 r3;go_wp2_with fail;refine D3.out.mono ?_;rintro e u5 ⟨rfl,h1,h2⟩;have KE:=hI (KD.out.trans h2);have D4:=hI (C4.out u5 (HT.out.next KE.out.below) h1);have Z5:=hI (h2.blk Z4.out (by decide) hhg);obtain⟨t1,t2,t3⟩:=FK.out u5 h Z5.out;clear h1 h2 D3 C4 s1 s2 s3;go_wp2_with fail;refine D4.out.mono ?_;rintro e u6 ⟨rfl,h1,h2⟩;have HWn:=hI h1;have KF:=hI (KE.out.trans h2);clear h1 h2 D4 t1 t2 t3;go_wp2;go_roundw
   case rel=>exact⟨j+1,by simp,by omega,HWn,KF⟩
   case measure=>simp[intOf];omega
  ·obtain rfl:j=n:=by omega
   go_wp2;go_end0;exact HQ.out _ _ ⟨rfl,HW1.out,HK1.out⟩
section
variable {vd vx vl ve:Value} {a:m1a} {s:M1a}
theorem o3c(hg:a.guid.length=16)(hp:a.proof.length=32)(x:Int):(j0a vd vx vl a).set 63 (.int .u16 x)=j0a vd vx vl { a with most:=x }:=(B1a hg hp 14 _).trans rfl
theorem p3c(hg:a.guid.length=16)(hp:a.proof.length=32)(x:ByteArray):(j0a vd vx vl a).set 64 (.string x)=j0a vd vx vl { a with pat:=x }:=(B1a hg hp 15 _).trans rfl
theorem q3c(hg:a.guid.length=16)(hp:a.proof.length=32)(x:ByteArray):(j0a vd vx vl a).set 65 (.string x)=j0a vd vx vl { a with aft:=x }:=(B1a hg hp 16 _).trans rfl
theorem R2c(hg:a.guid.length=16)(hp:a.proof.length=32)(x:Int):(j0a vd vx vl a).set 66 (.int .u16 x)=j0a vd vx vl { a with cls:=x }:=(B1a hg hp 17 _).trans rfl
theorem r3c(hg:a.guid.length=16)(hp:a.proof.length=32)(x:Int):(j0a vd vx vl a).set 67 (.int .u64 x)=j0a vd vx vl { a with siz:=x }:=(B1a hg hp 18 _).trans rfl
theorem b3c(hg:a.guid.length=16)(hp:a.proof.length=32)(x:Bool):(j0a vd vx vl a).set 68 (.bool x)=j0a vd vx vl { a with on:=x }:=(B1a hg hp 19 _).trans rfl
theorem s3c(hg:s.chal.length=8)(v:Value)(xs:List y1a):(r0a vx ve s).set 17 v=r0a vx v { s with ents:=xs }:=(K2a hg 7 _).trans rfl
theorem S2c(hg:s.chal.length=8):(r0a vx ve s).set 17 (.slice none 0 0)=r0a vx (.slice none 0 0) { s with ents:=[] }:=s3c hg _ []
theorem t3c(hg:s.chal.length=8)(x:Bool):(r0a vx ve s).set 18 (.bool x)=r0a vx ve { s with more:=x }:=(K2a hg 8 _).trans rfl
theorem u3c(hg:s.chal.length=8)(x:Bool):(r0a vx ve s).set 19 (.bool x)=r0a vx ve { s with gone:=x }:=(K2a hg 9 _).trans rfl
end
theorem e7b(w:World)(l:y1a):Calls Tryz.prog 151 #[.agg (z0a l).toArray] w λe w'=>e=.returned (.bool (!w3a l))/\Below w.heap.size w w':=by
 obtain⟨nm,kd,sz⟩:=l;have HC:Hid (∀(w:World) (g:Nat),Blk w g 118 (z0a ⟨nm,kd,sz⟩)->w.cell? ⟨g,1,none⟩=some (.int .u8 kd)/\w.cell? ⟨g,2,none⟩=some (.int .i64 sz)):=λw g h=>⟨h.at rfl,h.at rfl⟩
 obtain⟨cs,hcs⟩:∃x,x=z0a ⟨nm,kd,sz⟩:=⟨_,rfl⟩;rw[<-hcs] at HC⊢;have hok:w3a ⟨nm,kd,sz⟩=(decide (kd<=2)&&(decide (0<=sz)&&decide (sz<=1048576))):=rfl;rw[hok];obtain⟨z,hz⟩:∃z,z = !(decide (kd<=2)&&(decide (0<=sz)&&decide (sz<=1048576))):=⟨_,rfl⟩;rw[<-hz];have HZ:=hI hz;clear hcs hok hz;by_cases h1:kd<=2
 ·have q1:¬(2:Int)<kd:=by omega
  by_cases h2:0<=sz
  ·have q2:¬sz<0:=by omega
   by_cases h3:sz<=1048576
   ·have q3:¬(1048576:Int)<sz:=by omega
    have HR:Hid (z=false):=by show _=_;rw[HZ.out,decide_eq_true h1,decide_eq_true h2,decide_eq_true h3];rfl
    clear h1 h2 h3;go_enter Tryz.func151,Tryz.ntmps151;go_wp2_with(first
     | ((with_reducible refine sN 1 ?_);refine f0a rfl _ (.tmp 0) rfl cs rfl ?_;intro g w1 hg1 hg2 K1 L1;obtain⟨c1,c2⟩:=HC.out w1 g K1.out)
     | fail)
    go_wp2;go_ret;exact⟨K0a HR.out.symm,L1.out⟩
   ·have q3:(1048576:Int)<sz:=by omega
    have HR:Hid (z=true):=by show _=_;rw[HZ.out,decide_eq_true h1,decide_eq_true h2,decide_eq_false h3];rfl
    clear h1 h2 h3;go_enter Tryz.func151,Tryz.ntmps151;go_wp2_with(first
     | ((with_reducible refine sN 1 ?_);refine f0a rfl _ (.tmp 0) rfl cs rfl ?_;intro g w1 hg1 hg2 K1 L1;obtain⟨c1,c2⟩:=HC.out w1 g K1.out)
     | fail)
    go_wp2;go_ret;exact⟨K0a HR.out.symm,L1.out⟩
  ·have q2:sz<0:=by omega
   have HR:Hid (z=true):=by show _=_;rw[HZ.out,decide_eq_true h1,decide_eq_false h2];rfl
   clear h1 h2;go_enter Tryz.func151,Tryz.ntmps151;go_wp2_with(first
    | ((with_reducible refine sN 1 ?_);refine f0a rfl _ (.tmp 0) rfl cs rfl ?_;intro g w1 hg1 hg2 K1 L1;obtain⟨c1,c2⟩:=HC.out w1 g K1.out)
    | fail)
   go_wp2;go_ret;exact⟨K0a HR.out.symm,L1.out⟩
 ·have q1:(2:Int)<kd:=by omega
  have HR:Hid (z=true):=by show _=_;rw[HZ.out,decide_eq_false h1];rfl
  clear h1;go_enter Tryz.func151,Tryz.ntmps151;go_wp2_with(first
   | ((with_reducible refine sN 1 ?_);refine f0a rfl _ (.tmp 0) rfl cs rfl ?_;intro g w1 hg1 hg2 K1 L1;obtain⟨c1,c2⟩:=HC.out w1 g K1.out)
   | fail)
  go_wp2;go_ret;exact⟨K0a HR.out.symm,L1.out⟩
theorem f7b(w:World)(A:Option Addr)(n c:Nat)(xs:List y1a)(h:d1a z0a 3 w w.heap.size A n c xs)(hn:n<=4398046511104) :
  Calls Tryz.prog 174 #[.slice A n c,.func (.func 151) #[] #[]] w λe w'=>(∃k:Int,e=.returned (.int .i64 k)/\decide (0<=k) = !xs.all w3a)/\Below w.heap.size w w':=by
 have HH:=hI h;have HL:=hI h.len;have hft:=h.fit;have CF:Hid (∀(w:World) (l:y1a),Calls Tryz.prog 151 #[.agg (z0a l).toArray] w λe w'=>e=.returned (.bool (!w3a l))/\Below w.heap.size w w'):=e7b;have HQ:Hid (∀(e:Ending) (w':World),((∃k:Int,e=.returned (.int .i64 k)/\decide (0<=k) = !xs.all w3a)/\Below w.heap.size w w')->((∃k:Int,e=.returned (.int .i64 k)/\decide (0<=k) = !xs.all w3a)/\Below w.heap.size w w')):=λ_ _ h=>h
 have H0:Hid ((xs.take 0).all w3a=true):=by show _=_;rw[List.take_zero];rfl
 have HN:Hid ((xs.take n).all w3a=true->xs.all w3a=true):=λh1=>by rw[<-HL.out,List.take_length] at h1;exact h1
 have HST:Hid (∀(j:Nat) (x:y1a),xs[j]? = some x->(xs.take j).all w3a=true->w3a x=true->(xs.take (j+1)).all w3a=true):=λj x hx h1 h2=>by rw[List.take_add_one,hx,Option.toList_some,List.all_append,h1];simp[h2]
 have HBAD:Hid (∀(j:Nat) (x:y1a),xs[j]? = some x->¬w3a x=true->xs.all w3a=false):=λj x hx h1=>by rw[List.all_eq_false];exact⟨x,List.mem_of_getElem? hx,h1⟩
 clear h;go_enter Tryz.func174,Tryz.ntmps174;go_wp2;go_loopw [8] (λi wr=>∃j:Nat,i=.int .i64 j/\j<=n/\Hid ((xs.take j).all w3a=true)/\Hid (Below w.heap.size w wr)) (λi _=>n-(intOf i).toNat)
 case atStart=>exact⟨0,rfl,Nat.zero_le _,H0.out,Below.refl _ _⟩
 case round=>
  obtain⟨j,rfl,hj,HS,HB1⟩:=hrel;by_cases hlt:j<n
  ·have hh:=HH.out.below HB1.out;obtain⟨b,off,rfl,hb,hc⟩:=hh.cells (by omega);obtain⟨x,hx⟩:∃x,xs[j]? = some x:=⟨_,List.getElem?_eq_getElem (by have:=HL.out;omega)⟩;have Rx:Hid (wr.rangeAt b (off+j*3) (z0a x)):=hh.range rfl hlt hx;have LX:Hid ((z0a x).length=3):=rfl;have CX:=CF.out wr x;have HST':=hI (HST.out j x hx HS.out);have HBAD':=hI (HBAD.out j x hx);obtain⟨cx,hcx⟩:∃cx,cx=z0a x:=⟨_,rfl⟩;rw[<-hcx] at Rx LX CX;have hsz:=HB1.out.size;obtain⟨z,hz⟩:∃z,z=w3a x:=⟨_,rfl⟩;rw[<-hz] at CX HST' HBAD';clear hh hc hx hcx hz;cases z
   ·have CX':Hid (Calls Tryz.prog 151 #[.agg cx.toArray] wr λe w'=>e=.returned (.bool true)/\Below wr.heap.size wr w'):=CX;have HS2:=hI (HBAD'.out (by decide));clear CX HST' HBAD' HS;go_wp2_with(first
     | ((with_reducible refine sN 15 ?_);refine t0a rfl _ (.tmp 14) rfl b (off+j*3) rfl cx _ Rx Tryz.underlying118 rfl 3 D3a LX ?_)
     | fail)
    refine CX'.out.mono ?_;rintro e v1 ⟨rfl,L1⟩;have HB2:=hI (HB1.out.trans (L1.mono hsz));clear L1 HB1 CX';go_wp2;go_ret;exact HQ.out _ _ ⟨⟨_,rfl,by rw[HS2.out];simp⟩,HB2.out⟩
   ·have CX':Hid (Calls Tryz.prog 151 #[.agg cx.toArray] wr λe w'=>e=.returned (.bool false)/\Below wr.heap.size wr w'):=CX;have HS2:=hI (HST'.out rfl);clear CX HST' HBAD' HS;go_wp2_with(first
     | ((with_reducible refine sN 15 ?_);refine t0a rfl _ (.tmp 14) rfl b (off+j*3) rfl cx _ Rx Tryz.underlying118 rfl 3 D3a LX ?_)
     | fail)
    refine CX'.out.mono ?_;rintro e v1 ⟨rfl,L1⟩;have HB2:=hI (HB1.out.trans (L1.mono hsz));clear L1 HB1 CX';go_wp2;go_roundw
    case rel=>exact⟨j+1,by simp,by omega,HS2,HB2⟩
    case measure=>simp[intOf];omega
  ·obtain rfl:j=n:=by omega
   have HS2:=hI (HN.out HS.out);go_wp2;go_ret;exact HQ.out _ _ ⟨⟨_,rfl,by rw[HS2.out];rfl⟩,HB1.out⟩
theorem v3b(w:World)(A:Option Addr)(n c:Nat)(xs:List y1a)(h:d1a z0a 3 w w.heap.size A n c xs)(hn:n<=4398046511104) :
  Calls Tryz.prog 150 #[.slice A n c,.func (.func 151) #[] #[]] w λe w'=>e=.returned (.bool (!xs.all w3a))/\Below w.heap.size w w':=by
 have C1:=hI (f7b w A n c xs h hn);obtain⟨z,hz⟩:∃z,z = !xs.all w3a:=⟨_,rfl⟩;rw[<-hz] at C1⊢;clear h hz;go_enter Tryz.func150,Tryz.ntmps150;go_wp2_with fail;refine C1.out.mono ?_;rintro e w1 ⟨⟨k,rfl,hk⟩,L1⟩;go_wp2;go_ret;exact⟨by rfl,L1⟩
theorem w3b(w:World)(c:Int)(cs:List Value)(a:m1a)(hc:0<=c/\c<=65535)(ka:a.ok)(ha:f1a w w.heap.size cs a)(hu:a.user.size<=17592186044416/\a.share.size<=17592186044416)(hT:V7a w) :
  Calls Tryz.prog 133 #[.int .u16 c,.agg cs.toArray] w λe w'=>e=.returned (.bool (h4a c a))/\Below w.heap.size w w':=by
 have HL:=hI (ha.len ka);have HT:=hI hT;have hgl:=ka.glen;have hpl:=ka.plen;obtain⟨hu0,hu1⟩:=hu;have CP:Hid (∀(w':World) (ds:List Value) (b:m1a),b.ok->b.user=a.user->b.share=a.share->f1a w' w'.heap.size ds b->Below w.heap.size w w'->Calls Tryz.prog 80 #[.int .u16 13,.agg ds.toArray] w' λe w2=>(∃v er,e=.returned (.tuple #[v,.int .i64 er])/\(er==0)=decide (b=i0a))/\Below w'.heap.size w' w2):=λw' ds b kb h1 h2 hb hL=>by have h:=w1b w' 13 ds b (by decide) kb hb ⟨by rw[h1];exact hu0,by rw[h2];exact hu1⟩ (HT.out.below hL);exact h.mono λe w2 ⟨v,h1,_,h3⟩=>⟨⟨v,_,h1,Y5b b⟩,h3⟩
 by_cases hk:Z7a c=true;rotate_left
 ·have hn0:h4a c a=false:=by unfold h4a;rw[show Z7a c=false from by simpa using hk];rfl
  have hk':c≠12/\c≠14/\c≠16/\c≠17/\c≠18:=by refine⟨?_,?_,?_,?_,?_⟩<;>(rintro rfl;exact hk (by decide))
  obtain⟨h12,h14,h16,h17,h18⟩:=hk';have b12:(c==12)=false:=by simpa using h12
  have b14:(c==14)=false:=by simpa using h14
  have b16:(c==16)=false:=by simpa using h16
  have b17:(c==17)=false:=by simpa using h17
  have b18:(c==18)=false:=by simpa using h18
  rw[hn0];clear hk hn0 h12 h14 h16 h17 h18 ha ka CP;go_enter Tryz.func133,Tryz.ntmps133;go_wp2_with(first
   | ((with_reducible refine sN 3 ?_);refine f0a rfl _ (.tmp 1) rfl cs rfl ?_;intro g w1 hg1 hg2 K1 L1)
   | fail)
  go_ret;exact⟨rfl,L1.out⟩
 have hcs:=F4a hk;obtain⟨A1,A2,A3,X1,X2,X3,M1,M2,M3,rfl,hA,hX,hM⟩:=ha;have FL:Hid (∀(w:World) (g:Nat),Blk w g 34 (j0a (.slice A1 A2 A3) (.slice X1 X2 X3) (.slice M1 M2 M3) a)->w.cell? ⟨g,66,none⟩=some (.int .u16 a.cls)):=λw g h=>h.at (p0a ka 17)
 obtain⟨C0,hC0⟩:∃x,x=j0a (.slice A1 A2 A3) (.slice X1 X2 X3) (.slice M1 M2 M3) a:=⟨_,rfl⟩;have HC0:=hI hC0;rw[<-hC0] at HL FL⊢;clear hC0;rcases hcs with h12 | h14 | h16 | h17 | h18
 ·subst h12;have hbe:s2a 12 a=a:=by unfold s2a;rw[if_neg (by decide),if_neg (by decide),if_neg (by decide),if_neg (by decide)]
  have hnf:h4a 12 a=decide (s2a 12 a=i0a):=by unfold h4a;rw[hk];simp
  rw[hnf,hbe];have kb:(a:m1a).ok:=⟨ka.dial,ka.glen,ka.gbyte,ka.plen,ka.pbyte,ka.acc,ka.shr,ka.way,ka.opt,ka.lev,ka.dur,ka.file,ka.at_,ka.n,ka.data,ka.locks,ka.most,ka.cls,ka.siz⟩;have HI:Hid (∀w':World,Below w.heap.size w w'->f1a w' w'.heap.size (j0a (.slice A1 A2 A3) (.slice X1 X2 X3) (.slice M1 M2 M3) (a)) (a)):=λw' hb=>⟨A1,A2,A3,X1,X2,X3,M1,M2,M3,rfl,hA.over hb,hX.over hb,hM.over hb⟩
  have hbu1:(a:m1a).user=a.user:=rfl;have hbu2:(a:m1a).share=a.share:=rfl;have HEQ:Hid (C0=j0a (.slice A1 A2 A3) (.slice X1 X2 X3) (.slice M1 M2 M3) (a)):=by
   show _=_
   exact HC0.out
  obtain⟨D,hD⟩:∃x,x=j0a (.slice A1 A2 A3) (.slice X1 X2 X3) (.slice M1 M2 M3) a:=⟨_,rfl⟩;rw[<-hD] at HI HEQ;clear hD hk ka hbe hnf hbu1 hbu2;go_enter Tryz.func133,Tryz.ntmps133;go_wp2_with(first
   | ((with_reducible refine sN 3 ?_);refine f0a rfl _ (.tmp 1) rfl C0 rfl ?_;intro g w1 hg1 hg2 K1 L1)
   | ((with_reducible refine sN 40 ?_);refine e0a rfl _ (.tmp 3) rfl g rfl _ C0 K1 69 _ Tryz.underlying34 rfl n0a HL ?_)
   | fail)
  have HF:Hid (C0=D):=by
   show _=_
   exact HEQ.out
  rw[HF.out];refine(CP.out _ D a kb rfl rfl (HI.out _ L1.out) L1.out).mono ?_;rintro e v1 ⟨⟨v,er,rfl,her⟩,LQ⟩;have HER:=hI her;have L99:=hI (step L1.out LQ);clear her LQ;go_wp2;go_ret;exact⟨K0a HER.out,L99.out⟩
 ·subst h14;have hbe:s2a 14 a={ a with file:=0,most:=0,pat:=.empty,aft:=.empty }:=by unfold s2a;rw[if_pos rfl]
  have hnf:h4a 14 a=decide (s2a 14 a=i0a):=by unfold h4a;rw[hk];simp
  rw[hnf,hbe];have kb:({ a with file:=0,most:=0,pat:=.empty,aft:=.empty }:m1a).ok:=⟨ka.dial,ka.glen,ka.gbyte,ka.plen,ka.pbyte,ka.acc,ka.shr,ka.way,ka.opt,ka.lev,ka.dur,zb (by decide),ka.at_,ka.n,ka.data,ka.locks,zb (by decide),ka.cls,ka.siz⟩;have HI:Hid (∀w':World,Below w.heap.size w w'->f1a w' w'.heap.size (j0a (.slice A1 A2 A3) (.slice X1 X2 X3) (.slice M1 M2 M3) ({ a with file:=0,most:=0,pat:=.empty,aft:=.empty })) ({ a with file:=0,most:=0,pat:=.empty,aft:=.empty })):=λw' hb=>⟨A1,A2,A3,X1,X2,X3,M1,M2,M3,rfl,hA.over hb,hX.over hb,hM.over hb⟩
  have hbu1:({ a with file:=0,most:=0,pat:=.empty,aft:=.empty }:m1a).user=a.user:=rfl;have hbu2:({ a with file:=0,most:=0,pat:=.empty,aft:=.empty }:m1a).share=a.share:=rfl;have HEQ:Hid (((((C0).set 57 (.int .u64 0)).set 63 (.int .u16 0)).set 64 (.string .empty)).set 65 (.string .empty)=j0a (.slice A1 A2 A3) (.slice X1 X2 X3) (.slice M1 M2 M3) ({ a with file:=0,most:=0,pat:=.empty,aft:=.empty })):=by
   show _=_
   rw[HC0.out];simp only[t7b,o3c,p3c,q3c,hgl,hpl];try rfl
  obtain⟨b,hb⟩:∃x:m1a,x={ a with file:=0,most:=0,pat:=.empty,aft:=.empty }:=⟨_,rfl⟩;rw[<-hb] at HI HEQ kb hbu1 hbu2⊢;obtain⟨D,hD⟩:∃x,x=j0a (.slice A1 A2 A3) (.slice X1 X2 X3) (.slice M1 M2 M3) b:=⟨_,rfl⟩;rw[<-hD] at HI HEQ;clear hb hD hk ka hbe hnf;go_enter Tryz.func133,Tryz.ntmps133;go_wp2_with(first
   | ((with_reducible refine sN 3 ?_);refine f0a rfl _ (.tmp 1) rfl C0 rfl ?_;intro g w1 hg1 hg2 K1 L1)
   | ((with_reducible refine sT 10 ?_);refine d0a rfl _ (.tmp 10) (.const (.int .u64 0)) rfl g 57 rfl _ C0 (.int .u64 0) rfl K1 (hI (by have:=HL.out;omega)) (by kernel_rfl) rfl ?_;intro w2 K2 O2 hq2;obtain⟨C1,hC1⟩:∃x,x=C0.set 57 (.int .u64 0):=⟨_,rfl⟩;have HC1:=hI hC1;have HL1:Hid (C1.length=69):=(by rw[hC1,List.length_set];exact HL.out);rw[<-hC1] at K2;have L2:=hI (c0a L1.out O2.out hg1);clear hC1)
   | ((with_reducible refine sT 11 ?_);refine d0a rfl _ (.tmp 11) (.const (.int .u16 0)) rfl g 63 rfl _ C1 (.int .u16 0) rfl K2 (hI (by have:=HL1.out;omega)) (by kernel_rfl) rfl ?_;intro w3 K3 O3 hq3;obtain⟨C2,hC2⟩:∃x,x=C1.set 63 (.int .u16 0):=⟨_,rfl⟩;have HC2:=hI hC2;have HL2:Hid (C2.length=69):=(by rw[hC2,List.length_set];exact HL1.out);rw[<-hC2] at K3;have L3:=hI (c0a L2.out O3.out hg1);clear hC2)
   | ((with_reducible refine sT 12 ?_);refine d0a rfl _ (.tmp 12) (.const (.string .empty)) rfl g 64 rfl _ C2 (.string .empty) rfl K3 (hI (by have:=HL2.out;omega)) (by kernel_rfl) rfl ?_;intro w4 K4 O4 hq4;obtain⟨C3,hC3⟩:∃x,x=C2.set 64 (.string .empty):=⟨_,rfl⟩;have HC3:=hI hC3;have HL3:Hid (C3.length=69):=(by rw[hC3,List.length_set];exact HL2.out);rw[<-hC3] at K4;have L4:=hI (c0a L3.out O4.out hg1);clear hC3)
   | ((with_reducible refine sT 13 ?_);refine d0a rfl _ (.tmp 13) (.const (.string .empty)) rfl g 65 rfl _ C3 (.string .empty) rfl K4 (hI (by have:=HL3.out;omega)) (by kernel_rfl) rfl ?_;intro w5 K5 O5 hq5;obtain⟨C4,hC4⟩:∃x,x=C3.set 65 (.string .empty):=⟨_,rfl⟩;have HC4:=hI hC4;have HL4:Hid (C4.length=69):=(by rw[hC4,List.length_set];exact HL3.out);rw[<-hC4] at K5;have L5:=hI (c0a L4.out O5.out hg1);clear hC4)
   | ((with_reducible refine sN 40 ?_);refine e0a rfl _ (.tmp 3) rfl g rfl _ C4 K5 69 _ Tryz.underlying34 rfl n0a HL4 ?_)
   | fail)
  have HF:Hid (C4=D):=by
   show _=_
   rw[HC4.out,HC3.out,HC2.out,HC1.out];exact HEQ.out
  rw[HF.out];refine(CP.out _ D b kb hbu1 hbu2 (HI.out _ L5.out) L5.out).mono ?_;rintro e v1 ⟨⟨v,er,rfl,her⟩,LQ⟩;have HER:=hI her;have L99:=hI (step L5.out LQ);clear her LQ;go_wp2;go_ret;exact⟨K0a HER.out,L99.out⟩
 ·subst h16;have hbe:s2a 16 a={ a with file:=0 }:=by unfold s2a;rw[if_neg (by decide),if_pos rfl]
  have hnf:h4a 16 a=decide (s2a 16 a=i0a):=by unfold h4a;rw[hk];simp
  rw[hnf,hbe];have kb:({ a with file:=0 }:m1a).ok:=⟨ka.dial,ka.glen,ka.gbyte,ka.plen,ka.pbyte,ka.acc,ka.shr,ka.way,ka.opt,ka.lev,ka.dur,zb (by decide),ka.at_,ka.n,ka.data,ka.locks,ka.most,ka.cls,ka.siz⟩;have HI:Hid (∀w':World,Below w.heap.size w w'->f1a w' w'.heap.size (j0a (.slice A1 A2 A3) (.slice X1 X2 X3) (.slice M1 M2 M3) ({ a with file:=0 })) ({ a with file:=0 })):=λw' hb=>⟨A1,A2,A3,X1,X2,X3,M1,M2,M3,rfl,hA.over hb,hX.over hb,hM.over hb⟩
  have hbu1:({ a with file:=0 }:m1a).user=a.user:=rfl;have hbu2:({ a with file:=0 }:m1a).share=a.share:=rfl;have HEQ:Hid ((C0).set 57 (.int .u64 0)=j0a (.slice A1 A2 A3) (.slice X1 X2 X3) (.slice M1 M2 M3) ({ a with file:=0 })):=by
   show _=_
   rw[HC0.out];simp only[t7b,hgl,hpl];try rfl
  obtain⟨b,hb⟩:∃x:m1a,x={ a with file:=0 }:=⟨_,rfl⟩;rw[<-hb] at HI HEQ kb hbu1 hbu2⊢;obtain⟨D,hD⟩:∃x,x=j0a (.slice A1 A2 A3) (.slice X1 X2 X3) (.slice M1 M2 M3) b:=⟨_,rfl⟩;rw[<-hD] at HI HEQ;clear hb hD hk ka hbe hnf;go_enter Tryz.func133,Tryz.ntmps133;go_wp2_with(first
   | ((with_reducible refine sN 3 ?_);refine f0a rfl _ (.tmp 1) rfl C0 rfl ?_;intro g w1 hg1 hg2 K1 L1)
   | ((with_reducible refine sT 16 ?_);refine d0a rfl _ (.tmp 16) (.const (.int .u64 0)) rfl g 57 rfl _ C0 (.int .u64 0) rfl K1 (hI (by have:=HL.out;omega)) (by kernel_rfl) rfl ?_;intro w2 K2 O2 hq2;obtain⟨C1,hC1⟩:∃x,x=C0.set 57 (.int .u64 0):=⟨_,rfl⟩;have HC1:=hI hC1;have HL1:Hid (C1.length=69):=(by rw[hC1,List.length_set];exact HL.out);rw[<-hC1] at K2;have L2:=hI (c0a L1.out O2.out hg1);clear hC1)
   | ((with_reducible refine sN 40 ?_);refine e0a rfl _ (.tmp 3) rfl g rfl _ C1 K2 69 _ Tryz.underlying34 rfl n0a HL1 ?_)
   | fail)
  have HF:Hid (C1=D):=by
   show _=_
   rw[HC1.out];exact HEQ.out
  rw[HF.out];refine(CP.out _ D b kb hbu1 hbu2 (HI.out _ L2.out) L2.out).mono ?_;rintro e v1 ⟨⟨v,er,rfl,her⟩,LQ⟩;have HER:=hI her;have L99:=hI (step L2.out LQ);clear her LQ;go_wp2;go_ret;exact⟨K0a HER.out,L99.out⟩
 ·subst h17;by_cases q1:a.cls=1
  ·rw[q1] at FL;have hbe:s2a 17 a={ a with siz:=0,file:=0,cls:=0 }:=by unfold s2a;rw[if_neg (by decide),if_neg (by decide),if_pos rfl,if_pos q1]
   have hnf:h4a 17 a=decide (s2a 17 a=i0a):=by unfold h4a S8a;rw[hk,q1];simp
   rw[hnf,hbe];have kb:({ a with siz:=0,file:=0,cls:=0 }:m1a).ok:=⟨ka.dial,ka.glen,ka.gbyte,ka.plen,ka.pbyte,ka.acc,ka.shr,ka.way,ka.opt,ka.lev,ka.dur,zb (by decide),ka.at_,ka.n,ka.data,ka.locks,ka.most,zb (by decide),zb (by decide)⟩;have HI:Hid (∀w':World,Below w.heap.size w w'->f1a w' w'.heap.size (j0a (.slice A1 A2 A3) (.slice X1 X2 X3) (.slice M1 M2 M3) ({ a with siz:=0,file:=0,cls:=0 })) ({ a with siz:=0,file:=0,cls:=0 })):=λw' hb=>⟨A1,A2,A3,X1,X2,X3,M1,M2,M3,rfl,hA.over hb,hX.over hb,hM.over hb⟩
   have hbu1:({ a with siz:=0,file:=0,cls:=0 }:m1a).user=a.user:=rfl;have hbu2:({ a with siz:=0,file:=0,cls:=0 }:m1a).share=a.share:=rfl;have HEQ:Hid ((((C0).set 67 (.int .u64 0)).set 57 (.int .u64 0)).set 66 (.int .u16 0)=j0a (.slice A1 A2 A3) (.slice X1 X2 X3) (.slice M1 M2 M3) ({ a with siz:=0,file:=0,cls:=0 })):=by
    show _=_
    rw[HC0.out];simp only[r3c,t7b,R2c,hgl,hpl];try rfl
   obtain⟨b,hb⟩:∃x:m1a,x={ a with siz:=0,file:=0,cls:=0 }:=⟨_,rfl⟩;rw[<-hb] at HI HEQ kb hbu1 hbu2⊢;obtain⟨D,hD⟩:∃x,x=j0a (.slice A1 A2 A3) (.slice X1 X2 X3) (.slice M1 M2 M3) b:=⟨_,rfl⟩;rw[<-hD] at HI HEQ;clear hb hD hk ka hbe hnf;go_enter Tryz.func133,Tryz.ntmps133;go_wp2_with(first
    | ((with_reducible refine sN 3 ?_);refine f0a rfl _ (.tmp 1) rfl C0 rfl ?_;intro g w1 hg1 hg2 K1 L1;have cl:=FL.out w1 g K1.out)
    | ((with_reducible refine sT 23 ?_);refine d0a rfl _ (.tmp 23) (.const (.int .u64 0)) rfl g 67 rfl _ C0 (.int .u64 0) rfl K1 (hI (by have:=HL.out;omega)) (by kernel_rfl) rfl ?_;intro w2 K2 O2 hq2;obtain⟨C1,hC1⟩:∃x,x=C0.set 67 (.int .u64 0):=⟨_,rfl⟩;have HC1:=hI hC1;have HL1:Hid (C1.length=69):=(by rw[hC1,List.length_set];exact HL.out);rw[<-hC1] at K2;have L2:=hI (c0a L1.out O2.out hg1);clear hC1)
    | ((with_reducible refine sT 31 ?_);refine d0a rfl _ (.tmp 31) (.const (.int .u64 0)) rfl g 57 rfl _ C1 (.int .u64 0) rfl K2 (hI (by have:=HL1.out;omega)) (by kernel_rfl) rfl ?_;intro w3 K3 O3 hq3;obtain⟨C2,hC2⟩:∃x,x=C1.set 57 (.int .u64 0):=⟨_,rfl⟩;have HC2:=hI hC2;have HL2:Hid (C2.length=69):=(by rw[hC2,List.length_set];exact HL1.out);rw[<-hC2] at K3;have L3:=hI (c0a L2.out O3.out hg1);clear hC2)
    | ((with_reducible refine sT 32 ?_);refine d0a rfl _ (.tmp 32) (.const (.int .u16 0)) rfl g 66 rfl _ C2 (.int .u16 0) rfl K3 (hI (by have:=HL2.out;omega)) (by kernel_rfl) rfl ?_;intro w4 K4 O4 hq4;obtain⟨C3,hC3⟩:∃x,x=C2.set 66 (.int .u16 0):=⟨_,rfl⟩;have HC3:=hI hC3;have HL3:Hid (C3.length=69):=(by rw[hC3,List.length_set];exact HL2.out);rw[<-hC3] at K4;have L4:=hI (c0a L3.out O4.out hg1);clear hC3)
    | ((with_reducible refine sN 40 ?_);refine e0a rfl _ (.tmp 3) rfl g rfl _ C3 K4 69 _ Tryz.underlying34 rfl n0a HL3 ?_)
    | fail)
   have HF:Hid (C3=D):=by
    show _=_
    rw[HC3.out,HC2.out,HC1.out];exact HEQ.out
   rw[HF.out];refine(CP.out _ D b kb hbu1 hbu2 (HI.out _ L4.out) L4.out).mono ?_;rintro e v1 ⟨⟨v,er,rfl,her⟩,LQ⟩;have HER:=hI her;have L99:=hI (step L4.out LQ);clear her LQ;go_wp2;go_ret;exact⟨K0a HER.out,L99.out⟩
  ·by_cases q2:a.cls=2
   ·rw[q2] at FL;have hbe:s2a 17 a={ a with on:=false,file:=0,cls:=0 }:=by unfold s2a;rw[if_neg (by decide),if_neg (by decide),if_pos rfl,if_neg q1,if_pos q2]
    have hnf:h4a 17 a=decide (s2a 17 a=i0a):=by unfold h4a S8a;rw[hk,q2];simp
    rw[hnf,hbe];have kb:({ a with on:=false,file:=0,cls:=0 }:m1a).ok:=⟨ka.dial,ka.glen,ka.gbyte,ka.plen,ka.pbyte,ka.acc,ka.shr,ka.way,ka.opt,ka.lev,ka.dur,zb (by decide),ka.at_,ka.n,ka.data,ka.locks,ka.most,zb (by decide),ka.siz⟩;have HI:Hid (∀w':World,Below w.heap.size w w'->f1a w' w'.heap.size (j0a (.slice A1 A2 A3) (.slice X1 X2 X3) (.slice M1 M2 M3) ({ a with on:=false,file:=0,cls:=0 })) ({ a with on:=false,file:=0,cls:=0 })):=λw' hb=>⟨A1,A2,A3,X1,X2,X3,M1,M2,M3,rfl,hA.over hb,hX.over hb,hM.over hb⟩
    have hbu1:({ a with on:=false,file:=0,cls:=0 }:m1a).user=a.user:=rfl;have hbu2:({ a with on:=false,file:=0,cls:=0 }:m1a).share=a.share:=rfl;have HEQ:Hid ((((C0).set 68 (.bool false)).set 57 (.int .u64 0)).set 66 (.int .u16 0)=j0a (.slice A1 A2 A3) (.slice X1 X2 X3) (.slice M1 M2 M3) ({ a with on:=false,file:=0,cls:=0 })):=by
     show _=_
     rw[HC0.out];simp only[b3c,t7b,R2c,hgl,hpl];try rfl
    obtain⟨b,hb⟩:∃x:m1a,x={ a with on:=false,file:=0,cls:=0 }:=⟨_,rfl⟩;rw[<-hb] at HI HEQ kb hbu1 hbu2⊢;obtain⟨D,hD⟩:∃x,x=j0a (.slice A1 A2 A3) (.slice X1 X2 X3) (.slice M1 M2 M3) b:=⟨_,rfl⟩;rw[<-hD] at HI HEQ;clear hb hD hk ka hbe hnf;go_enter Tryz.func133,Tryz.ntmps133;go_wp2_with(first
     | ((with_reducible refine sN 3 ?_);refine f0a rfl _ (.tmp 1) rfl C0 rfl ?_;intro g w1 hg1 hg2 K1 L1;have cl:=FL.out w1 g K1.out)
     | ((with_reducible refine sT 26 ?_);refine d0a rfl _ (.tmp 26) (.const (.bool false)) rfl g 68 rfl _ C0 (.bool false) rfl K1 (hI (by have:=HL.out;omega)) (by kernel_rfl) rfl ?_;intro w2 K2 O2 hq2;obtain⟨C1,hC1⟩:∃x,x=C0.set 68 (.bool false):=⟨_,rfl⟩;have HC1:=hI hC1;have HL1:Hid (C1.length=69):=(by rw[hC1,List.length_set];exact HL.out);rw[<-hC1] at K2;have L2:=hI (c0a L1.out O2.out hg1);clear hC1)
     | ((with_reducible refine sT 31 ?_);refine d0a rfl _ (.tmp 31) (.const (.int .u64 0)) rfl g 57 rfl _ C1 (.int .u64 0) rfl K2 (hI (by have:=HL1.out;omega)) (by kernel_rfl) rfl ?_;intro w3 K3 O3 hq3;obtain⟨C2,hC2⟩:∃x,x=C1.set 57 (.int .u64 0):=⟨_,rfl⟩;have HC2:=hI hC2;have HL2:Hid (C2.length=69):=(by rw[hC2,List.length_set];exact HL1.out);rw[<-hC2] at K3;have L3:=hI (c0a L2.out O3.out hg1);clear hC2)
     | ((with_reducible refine sT 32 ?_);refine d0a rfl _ (.tmp 32) (.const (.int .u16 0)) rfl g 66 rfl _ C2 (.int .u16 0) rfl K3 (hI (by have:=HL2.out;omega)) (by kernel_rfl) rfl ?_;intro w4 K4 O4 hq4;obtain⟨C3,hC3⟩:∃x,x=C2.set 66 (.int .u16 0):=⟨_,rfl⟩;have HC3:=hI hC3;have HL3:Hid (C3.length=69):=(by rw[hC3,List.length_set];exact HL2.out);rw[<-hC3] at K4;have L4:=hI (c0a L3.out O4.out hg1);clear hC3)
     | ((with_reducible refine sN 40 ?_);refine e0a rfl _ (.tmp 3) rfl g rfl _ C3 K4 69 _ Tryz.underlying34 rfl n0a HL3 ?_)
     | fail)
    have HF:Hid (C3=D):=by
     show _=_
     rw[HC3.out,HC2.out,HC1.out];exact HEQ.out
    rw[HF.out];refine(CP.out _ D b kb hbu1 hbu2 (HI.out _ L4.out) L4.out).mono ?_;rintro e v1 ⟨⟨v,er,rfl,her⟩,LQ⟩;have HER:=hI her;have L99:=hI (step L4.out LQ);clear her LQ;go_wp2;go_ret;exact⟨K0a HER.out,L99.out⟩
   ·by_cases q3:a.cls=3
    ·rw[q3] at FL;have hbe:s2a 17 a={ a with on:=false,name:=.empty,file:=0,cls:=0 }:=by unfold s2a;rw[if_neg (by decide),if_neg (by decide),if_pos rfl,if_neg q1,if_neg q2]
     have hnf:h4a 17 a=decide (s2a 17 a=i0a):=by unfold h4a S8a;rw[hk,q3];simp
     rw[hnf,hbe];have kb:({ a with on:=false,name:=.empty,file:=0,cls:=0 }:m1a).ok:=⟨ka.dial,ka.glen,ka.gbyte,ka.plen,ka.pbyte,ka.acc,ka.shr,ka.way,ka.opt,ka.lev,ka.dur,zb (by decide),ka.at_,ka.n,ka.data,ka.locks,ka.most,zb (by decide),ka.siz⟩;have HI:Hid (∀w':World,Below w.heap.size w w'->f1a w' w'.heap.size (j0a (.slice A1 A2 A3) (.slice X1 X2 X3) (.slice M1 M2 M3) ({ a with on:=false,name:=.empty,file:=0,cls:=0 })) ({ a with on:=false,name:=.empty,file:=0,cls:=0 })):=λw' hb=>⟨A1,A2,A3,X1,X2,X3,M1,M2,M3,rfl,hA.over hb,hX.over hb,hM.over hb⟩
     have hbu1:({ a with on:=false,name:=.empty,file:=0,cls:=0 }:m1a).user=a.user:=rfl;have hbu2:({ a with on:=false,name:=.empty,file:=0,cls:=0 }:m1a).share=a.share:=rfl;have HEQ:Hid (((((C0).set 68 (.bool false)).set 58 (.string .empty)).set 57 (.int .u64 0)).set 66 (.int .u16 0)=j0a (.slice A1 A2 A3) (.slice X1 X2 X3) (.slice M1 M2 M3) ({ a with on:=false,name:=.empty,file:=0,cls:=0 })):=by
      show _=_
      rw[HC0.out];simp only[b3c,W2c,t7b,R2c,hgl,hpl];try rfl
     obtain⟨b,hb⟩:∃x:m1a,x={ a with on:=false,name:=.empty,file:=0,cls:=0 }:=⟨_,rfl⟩;rw[<-hb] at HI HEQ kb hbu1 hbu2⊢;obtain⟨D,hD⟩:∃x,x=j0a (.slice A1 A2 A3) (.slice X1 X2 X3) (.slice M1 M2 M3) b:=⟨_,rfl⟩;rw[<-hD] at HI HEQ;clear hb hD hk ka hbe hnf;go_enter Tryz.func133,Tryz.ntmps133;go_wp2_with(first
      | ((with_reducible refine sN 3 ?_);refine f0a rfl _ (.tmp 1) rfl C0 rfl ?_;intro g w1 hg1 hg2 K1 L1;have cl:=FL.out w1 g K1.out)
      | ((with_reducible refine sT 29 ?_);refine d0a rfl _ (.tmp 29) (.const (.bool false)) rfl g 68 rfl _ C0 (.bool false) rfl K1 (hI (by have:=HL.out;omega)) (by kernel_rfl) rfl ?_;intro w2 K2 O2 hq2;obtain⟨C1,hC1⟩:∃x,x=C0.set 68 (.bool false):=⟨_,rfl⟩;have HC1:=hI hC1;have HL1:Hid (C1.length=69):=(by rw[hC1,List.length_set];exact HL.out);rw[<-hC1] at K2;have L2:=hI (c0a L1.out O2.out hg1);clear hC1)
      | ((with_reducible refine sT 30 ?_);refine d0a rfl _ (.tmp 30) (.const (.string .empty)) rfl g 58 rfl _ C1 (.string .empty) rfl K2 (hI (by have:=HL1.out;omega)) (by kernel_rfl) rfl ?_;intro w3 K3 O3 hq3;obtain⟨C2,hC2⟩:∃x,x=C1.set 58 (.string .empty):=⟨_,rfl⟩;have HC2:=hI hC2;have HL2:Hid (C2.length=69):=(by rw[hC2,List.length_set];exact HL1.out);rw[<-hC2] at K3;have L3:=hI (c0a L2.out O3.out hg1);clear hC2)
      | ((with_reducible refine sT 31 ?_);refine d0a rfl _ (.tmp 31) (.const (.int .u64 0)) rfl g 57 rfl _ C2 (.int .u64 0) rfl K3 (hI (by have:=HL2.out;omega)) (by kernel_rfl) rfl ?_;intro w4 K4 O4 hq4;obtain⟨C3,hC3⟩:∃x,x=C2.set 57 (.int .u64 0):=⟨_,rfl⟩;have HC3:=hI hC3;have HL3:Hid (C3.length=69):=(by rw[hC3,List.length_set];exact HL2.out);rw[<-hC3] at K4;have L4:=hI (c0a L3.out O4.out hg1);clear hC3)
      | ((with_reducible refine sT 32 ?_);refine d0a rfl _ (.tmp 32) (.const (.int .u16 0)) rfl g 66 rfl _ C3 (.int .u16 0) rfl K4 (hI (by have:=HL3.out;omega)) (by kernel_rfl) rfl ?_;intro w5 K5 O5 hq5;obtain⟨C4,hC4⟩:∃x,x=C3.set 66 (.int .u16 0):=⟨_,rfl⟩;have HC4:=hI hC4;have HL4:Hid (C4.length=69):=(by rw[hC4,List.length_set];exact HL3.out);rw[<-hC4] at K5;have L5:=hI (c0a L4.out O5.out hg1);clear hC4)
      | ((with_reducible refine sN 40 ?_);refine e0a rfl _ (.tmp 3) rfl g rfl _ C4 K5 69 _ Tryz.underlying34 rfl n0a HL4 ?_)
      | fail)
     have HF:Hid (C4=D):=by
      show _=_
      rw[HC4.out,HC3.out,HC2.out,HC1.out];exact HEQ.out
     rw[HF.out];refine(CP.out _ D b kb hbu1 hbu2 (HI.out _ L5.out) L5.out).mono ?_;rintro e v1 ⟨⟨v,er,rfl,her⟩,LQ⟩;have HER:=hI her;have L99:=hI (step L5.out LQ);clear her LQ;go_wp2;go_ret;exact⟨K0a HER.out,L99.out⟩
    ·have hcf:S8a a=false:=by unfold S8a;by_cases z1:1<=a.cls<;>by_cases z2:a.cls<=3<;>simp[z1,z2]<;>omega
     have hn0:h4a 17 a=false:=by unfold h4a;rw[hk,hcf];rfl
     rw[hn0];obtain⟨q,hq⟩:∃q,q=a.cls:=⟨_,rfl⟩;rw[<-hq] at FL q1 q2 q3;have b1:(q==1)=false:=by simpa using q1
     have b2:(q==2)=false:=by simpa using q2
     have b3:(q==3)=false:=by simpa using q3
     clear hk hcf hn0 q1 q2 q3 ka CP hq;go_enter Tryz.func133,Tryz.ntmps133;go_wp2_with(first
      | ((with_reducible refine sN 3 ?_);refine f0a rfl _ (.tmp 1) rfl C0 rfl ?_;intro g w1 hg1 hg2 K1 L1;have cl:=FL.out w1 g K1.out)
      | fail)
     go_ret;exact⟨rfl,L1.out⟩
 ·subst h18;have hbe:s2a 18 a={ a with file:=0,lev:=0 }:=by unfold s2a;rw[if_neg (by decide),if_neg (by decide),if_neg (by decide),if_pos rfl]
  have hnf:h4a 18 a=decide (s2a 18 a=i0a):=by unfold h4a;rw[hk];simp
  rw[hnf,hbe];have kb:({ a with file:=0,lev:=0 }:m1a).ok:=⟨ka.dial,ka.glen,ka.gbyte,ka.plen,ka.pbyte,ka.acc,ka.shr,ka.way,ka.opt,zb (by decide),ka.dur,zb (by decide),ka.at_,ka.n,ka.data,ka.locks,ka.most,ka.cls,ka.siz⟩;have HI:Hid (∀w':World,Below w.heap.size w w'->f1a w' w'.heap.size (j0a (.slice A1 A2 A3) (.slice X1 X2 X3) (.slice M1 M2 M3) ({ a with file:=0,lev:=0 })) ({ a with file:=0,lev:=0 })):=λw' hb=>⟨A1,A2,A3,X1,X2,X3,M1,M2,M3,rfl,hA.over hb,hX.over hb,hM.over hb⟩
  have hbu1:({ a with file:=0,lev:=0 }:m1a).user=a.user:=rfl;have hbu2:({ a with file:=0,lev:=0 }:m1a).share=a.share:=rfl;have HEQ:Hid (((C0).set 57 (.int .u64 0)).set 55 (.int .u8 0)=j0a (.slice A1 A2 A3) (.slice X1 X2 X3) (.slice M1 M2 M3) ({ a with file:=0,lev:=0 })):=by
   show _=_
   rw[HC0.out];simp only[t7b,V2c,hgl,hpl];try rfl
  obtain⟨b,hb⟩:∃x:m1a,x={ a with file:=0,lev:=0 }:=⟨_,rfl⟩;rw[<-hb] at HI HEQ kb hbu1 hbu2⊢;obtain⟨D,hD⟩:∃x,x=j0a (.slice A1 A2 A3) (.slice X1 X2 X3) (.slice M1 M2 M3) b:=⟨_,rfl⟩;rw[<-hD] at HI HEQ;clear hb hD hk ka hbe hnf;go_enter Tryz.func133,Tryz.ntmps133;go_wp2_with(first
   | ((with_reducible refine sN 3 ?_);refine f0a rfl _ (.tmp 1) rfl C0 rfl ?_;intro g w1 hg1 hg2 K1 L1)
   | ((with_reducible refine sT 35 ?_);refine d0a rfl _ (.tmp 35) (.const (.int .u64 0)) rfl g 57 rfl _ C0 (.int .u64 0) rfl K1 (hI (by have:=HL.out;omega)) (by kernel_rfl) rfl ?_;intro w2 K2 O2 hq2;obtain⟨C1,hC1⟩:∃x,x=C0.set 57 (.int .u64 0):=⟨_,rfl⟩;have HC1:=hI hC1;have HL1:Hid (C1.length=69):=(by rw[hC1,List.length_set];exact HL.out);rw[<-hC1] at K2;have L2:=hI (c0a L1.out O2.out hg1);clear hC1)
   | ((with_reducible refine sT 36 ?_);refine d0a rfl _ (.tmp 36) (.const (.int .u8 0)) rfl g 55 rfl _ C1 (.int .u8 0) rfl K2 (hI (by have:=HL1.out;omega)) (by kernel_rfl) rfl ?_;intro w3 K3 O3 hq3;obtain⟨C2,hC2⟩:∃x,x=C1.set 55 (.int .u8 0):=⟨_,rfl⟩;have HC2:=hI hC2;have HL2:Hid (C2.length=69):=(by rw[hC2,List.length_set];exact HL1.out);rw[<-hC2] at K3;have L3:=hI (c0a L2.out O3.out hg1);clear hC2)
   | ((with_reducible refine sN 40 ?_);refine e0a rfl _ (.tmp 3) rfl g rfl _ C2 K3 69 _ Tryz.underlying34 rfl n0a HL2 ?_)
   | fail)
  have HF:Hid (C2=D):=by
   show _=_
   rw[HC2.out,HC1.out];exact HEQ.out
  rw[HF.out];refine(CP.out _ D b kb hbu1 hbu2 (HI.out _ L3.out) L3.out).mono ?_;rintro e v1 ⟨⟨v,er,rfl,her⟩,LQ⟩;have HER:=hI her;have L99:=hI (step L3.out LQ);clear her LQ;go_wp2;go_ret;exact⟨K0a HER.out,L99.out⟩
theorem U8b:(Tryz.prog.info? 161).map (λi=>(i.zero,i.size))=some (some (.agg ([.slice none 0 0,.int .i64 0]:List Value).toArray),2):=by kernel_rfl
def m4a(w:World)(c:Int)(a:m1a)(e:Ending)(w':World):Prop:=∃v,e=.returned (.tuple #[v,.int .i64 (q4a c a)])/\X0a .u8 5 w' w.heap.size v (i9a c a)/\Below w.heap.size w w'
theorem w5b(w:World)(c:Int)(cs:List Value)(a:m1a)(hc:0<=c/\c<=65535)(ka:a.ok)(ha:f1a w w.heap.size cs a)(hu:a.user.size<=17592186044416/\a.share.size<=17592186044416)(hn:a.name.size<=17592186044416/\a.pat.size<=17592186044416/\a.aft.size<=17592186044416)(hT:V7a w) :
  Calls Tryz.prog 88 #[.int .u16 c,.agg cs.toArray] w (m4a w c a):=by
 have HL:=hI (ha.len ka);have HA:=hI ha;have HT:Hid (M6a w.heap.size w):=M6a.of hT;obtain⟨hn1,hn2,hn3⟩:=hn;have CN:Hid (∀w',Below w.heap.size w w'->Calls Tryz.prog 133 #[.int .u16 c,.agg cs.toArray] w' λe w2=>e=.returned (.bool (h4a c a))/\Below w'.heap.size w' w2):=λw' hb=>w3b w' c cs a hc ka (HA.out.over hb) hu (HT.out w' hb)
 have CT:Hid (∀(w:World) (b:Bool),Calls Tryz.prog 138 #[.bool b] w λe w'=>e=.returned (.int .u64 (V0a b))/\w=w'):=I2b;have FL:Hid (∀(w:World) (g:Nat),Blk w g 34 cs->w.cell? ⟨g,57,none⟩=some (.int .u64 a.file)/\w.cell? ⟨g,63,none⟩=some (.int .u16 a.most)/\w.cell? ⟨g,64,none⟩=some (.string a.pat)/\w.cell? ⟨g,65,none⟩=some (.string a.aft)/\w.cell? ⟨g,66,none⟩=some (.int .u16 a.cls)/\w.cell? ⟨g,67,none⟩=some (.int .u64 a.siz)/\w.cell? ⟨g,68,none⟩=some (.bool a.on)/\w.cell? ⟨g,58,none⟩=some (.string a.name)/\w.cell? ⟨g,55,none⟩=some (.int .u8 a.lev)):=by obtain⟨A1,A2,A3,X1,X2,X3,M1,M2,M3,rfl,hA,hX,hM⟩:=ha;exact λw g h=>⟨h.at (p0a ka 8),h.at (p0a ka 14),h.at (p0a ka 15),h.at (p0a ka 16),h.at (p0a ka 17),h.at (p0a ka 18),h.at (p0a ka 19),h.at (p0a ka 9),h.at (p0a ka 6)⟩
 have ZW:=hI U8b;have b1:=ka.file;have b2:=ka.most;have b3:=ka.cls;have b4:=ka.siz;have b5:=ka.lev
 have rp:=k3a a.pat.data.toList;have ra:=k3a a.aft.data.toList;have rn:=k3a a.name.data.toList;by_cases hnm:h4a c a=true;rotate_left
 ·have hnf:h4a c a=false:=by simpa using hnm
  have he:q4a c a=2:=by unfold q4a;rw[if_neg hnm]
  have HQ:Hid (∀(e:Ending) (w':World),e=.returned (.tuple #[.slice none 0 0,.int .i64 2])->Below w.heap.size w w'->m4a w c a e w'):=by intro e w' h1 h2;refine⟨_,by rw[he];exact h1,?_,h2⟩;unfold i9a;rw[he,if_neg (by decide)];exact X0a.nil _ _ _ _
  rw[hnf] at CN;clear hnm hnf he ha ka hT hu hc CT ZW FL;go_enter Tryz.func88,Tryz.ntmps88;go_wp2_with(first
   | ((with_reducible refine sN 3 ?_);refine f0a rfl _ (.tmp 1) rfl cs rfl ?_;intro z w1 hz1 hz2 Z1 L1)
   | ((with_reducible refine sN 8 ?_);refine e0a rfl _ (.tmp 3) rfl z rfl _ cs Z1 69 _ Tryz.underlying34 rfl n0a HL ?_)
   | fail)
  refine(CN.out w1 L1.out).mono ?_;rintro e w2 ⟨rfl,L2⟩;have L22:=hI (step L1.out L2);clear L2;go_wp2;go_ret2;exact HQ.out _ _ rfl L22.out
 rw[hnm] at CN;have hk:Z7a c=true:=by unfold h4a at hnm;simp only[Bool.and_eq_true] at hnm;exact hnm.1
 have hcl:c=17->1<=a.cls/\a.cls<=3:=by
  intro h17;unfold h4a S8a at hnm;simp only[Bool.and_eq_true,Bool.or_eq_true,Bool.not_eq_true',decide_eq_false_iff_not,decide_eq_true_eq] at hnm;rcases hnm.2.1 with h | h
  ·exact absurd h17 h
  ·exact h
 have hw1:IntKind.u64.wrap a.most=a.most:=by rw[IntKind.wrap_u64];omega
 have hw2:IntKind.u64.wrap a.cls=a.cls:=by rw[IntKind.wrap_u64];omega
 obtain⟨b10,b11⟩:=b1;obtain⟨b20,b21⟩:=b2;obtain⟨b30,b31⟩:=b3;obtain⟨b40,b41⟩:=b4;obtain⟨b50,b51⟩:=b5;have bf:0<=a.file/\a.file<=18446744073709551615:=⟨b10,b11⟩;have bs:0<=a.siz/\a.siz<=18446744073709551615:=⟨b40,b41⟩;have bm:0<=a.most/\a.most<=65535:=⟨b20,b21⟩;have bc:0<=a.cls/\a.cls<=65535:=⟨b30,b31⟩;have bl:0<=a.lev/\a.lev<=255:=⟨b50,b51⟩;have bo:0<=V0a a.on/\V0a a.on<=65535:=by have:=T8a a.on;omega
 have H2:Hid (([.slice none 0 0,.int .i64 0]:List Value).length=2):=rfl;go_enter Tryz.func88,Tryz.ntmps88;go_wp2_with(first
  | ((with_reducible refine sN 3 ?_);refine f0a rfl _ (.tmp 1) rfl cs rfl ?_;intro z w1 hz1 hz2 Z1 L1)
  | ((with_reducible refine sN 8 ?_);refine e0a rfl _ (.tmp 3) rfl z rfl _ cs Z1 69 _ Tryz.underlying34 rfl n0a HL ?_)
  | fail)
 refine(CN.out w1 L1.out).mono ?_;rintro e w2 ⟨rfl,L2⟩;have Z2:=hI (Z1.out.over L2);have L22:=hI (step L1.out L2);have hzs:z<w2.heap.size:=Z2.out.lt;clear L2 Z1 L1 CN;have hws:=L22.out.size;obtain⟨f1,f2,f3,f4,f5,f6,f7,f8,f9⟩:=FL.out _ _ Z2.out;go_upto_if 12 with(first
  | ((with_reducible refine sN 6 ?_);refine a0a rfl _ rfl _ _ ZW ?_;intro g u0 hg1 hg2 G0 N0;have hzg:z≠g:=(by omega);have Z0:=hI (Z2.out.over N0.out);have K0:Hid (j1a g w.heap.size w u0):=(j1a.of_below (L22.out.trans (N0.out.mono hws)) (Nat.le_refl _));have V0:Hid (WI u0 g w.heap.size [] 0):=⟨by omega,_,G0.out,X0a.nil _ _ _ _⟩;clear f1 f2 f3 f4 f5 f6 f7 f8 f9;obtain⟨f1,f2,f3,f4,f5,f6,f7,f8,f9⟩:=FL.out _ _ Z0.out)
  | fail)
 rcases F4a hk with h12 | h14 | h16 | h17 | h18
 subst h12;have D1:Hid (∀(w':World) (g:Nat),WI w' g w.heap.size ([]) (0)->Calls Tryz.prog 136 #[.pointer (some ⟨g,0,none⟩),.int .i64 4] w' λe w2=>e=.returned (.tuple #[])/\WI w2 g w.heap.size ([]++List.replicate 4 0) (0)/\j1a g w.heap.size w' w2):=λw' g h=>o5a w' g _ _ _ 4 h (by decide) (by decide) (by have h1:=rp;have h2:=ra;have h3:=rn;simp only[List.length_append,g0a,List.length_replicate,List.length_nil];omega)
 have DE:Hid (∀(w':World) (g:Nat),WI w' g w.heap.size ([]++List.replicate 4 0) 0->Calls Tryz.prog 140 #[.pointer (some ⟨g,0,none⟩)] w' λe w2=>∃v,e=.returned (.tuple #[v,.int .i64 0])/\X0a .u8 5 w2 w.heap.size v (if 0=0 then []++List.replicate 4 0 else [])/\Below w'.heap.size w' w2):=λw' g h=>l4a w' g w.heap.size _ _ h
 have hbd:[]++List.replicate 4 0=x3a 12 a:=by unfold x3a;rw[if_neg (by decide),if_neg (by decide),if_neg (by decide),if_neg (by decide),List.nil_append]
 have her:q4a 12 a=0:=by unfold q4a;rw[if_pos hnm,if_neg (by decide),if_neg (λh=>absurd h.1 (by decide))]
 have HQ:Hid (∀(v:Value) (e:Ending) (w':World),e=.returned (.tuple #[v,.int .i64 0])->X0a .u8 5 w' w.heap.size v (if 0=0 then []++List.replicate 4 0 else [])->Below w.heap.size w w'->m4a w 12 a e w'):=by intro v e w' h1 h2 h3;refine⟨v,by rw[her];exact h1,?_,h3⟩;unfold i9a;rw[her,<-hbd];exact h2
 obtain⟨y1,hy1⟩:∃y:List Int,y=[]++List.replicate 4 0:=⟨_,rfl⟩;rw[<-hy1] at D1 DE HQ;clear hy1;clear hk hnm hcl her hbd ka ha hT hu hc;have F1:=hI (D1.out _ _ V0.out);go_wp2_with fail;refine F1.out.mono ?_;rintro e u1 ⟨rfl,p1,p2⟩;have Vz:=hI p1;have Kz:=hI (K0.out.trans p2);clear p1 p2 F1 V0;rotate_left;subst h14;have D1:Hid (∀(w':World) (g:Nat),WI w' g w.heap.size ([]) (0)->Calls Tryz.prog 134 #[.pointer (some ⟨g,0,none⟩),.int .u64 a.file] w' λe w2=>e=.returned (.tuple #[])/\WI w2 g w.heap.size ([]++le a.file 8) (0)/\j1a g w.heap.size w' w2):=λw' g h=>G3a w' g _ _ _ a.file h bf (by have h1:=rp;have h2:=ra;have h3:=rn;simp only[List.length_append,g0a,List.length_replicate,List.length_nil];omega)
 have D2:Hid (∀(w':World) (g:Nat),WI w' g w.heap.size ([]++le a.file 8) (0)->Calls Tryz.prog 135 #[.pointer (some ⟨g,0,none⟩),.int .u64 a.most] w' λe w2=>e=.returned (.tuple #[])/\WI w2 g w.heap.size ([]++le a.file 8++le a.most 2) (0)/\j1a g w.heap.size w' w2):=λw' g h=>k4a w' g _ _ _ a.most h bm (by have h1:=rp;have h2:=ra;have h3:=rn;simp only[List.length_append,g0a,List.length_replicate,List.length_nil];omega)
 have D3:Hid (∀(w':World) (g:Nat),WI w' g w.heap.size ([]++le a.file 8++le a.most 2) (0)->Calls Tryz.prog 136 #[.pointer (some ⟨g,0,none⟩),.int .i64 2] w' λe w2=>e=.returned (.tuple #[])/\WI w2 g w.heap.size ([]++le a.file 8++le a.most 2++List.replicate 2 0) (0)/\j1a g w.heap.size w' w2):=λw' g h=>o5a w' g _ _ _ 2 h (by decide) (by decide) (by have h1:=rp;have h2:=ra;have h3:=rn;simp only[List.length_append,g0a,List.length_replicate,List.length_nil];omega)
 have D4:Hid (∀(w':World) (g:Nat),M6a w.heap.size w'->WI w' g w.heap.size ([]++le a.file 8++le a.most 2++List.replicate 2 0) (0)->Calls Tryz.prog 137 #[.pointer (some ⟨g,0,none⟩),.string a.pat] w' λe w2=>e=.returned (.tuple #[])/\WI w2 g w.heap.size ([]++le a.file 8++le a.most 2++List.replicate 2 0++A0a a.pat.data.toList) (y0a a.pat.data.toList)/\j1a g w.heap.size w' w2):=λw' g ht h=>by have h1:=e9a w' g _ _ _ a.pat h hn2 ht (by have h1:=rp;have h2:=ra;have h3:=rn;simp only[List.length_append,g0a,List.length_replicate,List.length_nil];omega);rw[if_pos rfl] at h1;exact h1
 have D5:Hid (∀(w':World) (g:Nat),M6a w.heap.size w'->WI w' g w.heap.size ([]++le a.file 8++le a.most 2++List.replicate 2 0++A0a a.pat.data.toList) ((y0a a.pat.data.toList))->Calls Tryz.prog 137 #[.pointer (some ⟨g,0,none⟩),.string a.aft] w' λe w2=>e=.returned (.tuple #[])/\WI w2 g w.heap.size ([]++le a.file 8++le a.most 2++List.replicate 2 0++A0a a.pat.data.toList++A0a a.aft.data.toList) (if (y0a a.pat.data.toList)=0 then y0a a.aft.data.toList else (y0a a.pat.data.toList))/\j1a g w.heap.size w' w2):=λw' g ht h=>e9a w' g _ _ _ a.aft h hn3 ht (by have h1:=rp;have h2:=ra;have h3:=rn;simp only[List.length_append,g0a,List.length_replicate,List.length_nil];omega)
 have DE:Hid (∀(w':World) (g:Nat),WI w' g w.heap.size ([]++le a.file 8++le a.most 2++List.replicate 2 0++A0a a.pat.data.toList++A0a a.aft.data.toList) (if (y0a a.pat.data.toList)=0 then y0a a.aft.data.toList else (y0a a.pat.data.toList))->Calls Tryz.prog 140 #[.pointer (some ⟨g,0,none⟩)] w' λe w2=>∃v,e=.returned (.tuple #[v,.int .i64 (if (y0a a.pat.data.toList)=0 then y0a a.aft.data.toList else (y0a a.pat.data.toList))])/\X0a .u8 5 w2 w.heap.size v (if (if (y0a a.pat.data.toList)=0 then y0a a.aft.data.toList else (y0a a.pat.data.toList))=0 then []++le a.file 8++le a.most 2++List.replicate 2 0++A0a a.pat.data.toList++A0a a.aft.data.toList else [])/\Below w'.heap.size w' w2):=λw' g h=>l4a w' g w.heap.size _ _ h
 have hbd:[]++le a.file 8++le a.most 2++List.replicate 2 0++A0a a.pat.data.toList++A0a a.aft.data.toList=x3a 14 a:=by unfold x3a;rw[if_pos rfl];simp only[List.nil_append,List.append_assoc]
 have her:q4a 14 a=(if (y0a a.pat.data.toList)=0 then y0a a.aft.data.toList else (y0a a.pat.data.toList)):=by unfold q4a;rw[if_pos hnm,if_pos rfl]
 have HQ:Hid (∀(v:Value) (e:Ending) (w':World),e=.returned (.tuple #[v,.int .i64 (if (y0a a.pat.data.toList)=0 then y0a a.aft.data.toList else (y0a a.pat.data.toList))])->X0a .u8 5 w' w.heap.size v (if (if (y0a a.pat.data.toList)=0 then y0a a.aft.data.toList else (y0a a.pat.data.toList))=0 then []++le a.file 8++le a.most 2++List.replicate 2 0++A0a a.pat.data.toList++A0a a.aft.data.toList else [])->Below w.heap.size w w'->m4a w 14 a e w'):=by intro v e w' h1 h2 h3;refine⟨v,by rw[her];exact h1,?_,h3⟩;unfold i9a;rw[her,<-hbd];exact h2
 obtain⟨y5,hy5⟩:∃y:List Int,y=[]++le a.file 8++le a.most 2++List.replicate 2 0++A0a a.pat.data.toList++A0a a.aft.data.toList:=⟨_,rfl⟩;rw[<-hy5] at D5 DE HQ;obtain⟨y4,hy4⟩:∃y:List Int,y=[]++le a.file 8++le a.most 2++List.replicate 2 0++A0a a.pat.data.toList:=⟨_,rfl⟩;rw[<-hy4] at D4 D5;obtain⟨y3,hy3⟩:∃y:List Int,y=[]++le a.file 8++le a.most 2++List.replicate 2 0:=⟨_,rfl⟩;rw[<-hy3] at D3 D4;obtain⟨y2,hy2⟩:∃y:List Int,y=[]++le a.file 8++le a.most 2:=⟨_,rfl⟩;rw[<-hy2] at D2 D3;obtain⟨y1,hy1⟩:∃y:List Int,y=[]++le a.file 8:=⟨_,rfl⟩;rw[<-hy1] at D1 D2;obtain⟨er5,her5⟩:∃y:Int,y=(if (y0a a.pat.data.toList)=0 then y0a a.aft.data.toList else (y0a a.pat.data.toList)):=⟨_,rfl⟩;try rw[<-her5] at D5
 try rw[<-her5] at DE
 try rw[<-her5] at HQ
 obtain⟨er4,her4⟩:∃y:Int,y=(y0a a.pat.data.toList):=⟨_,rfl⟩;try rw[<-her4] at D4
 try rw[<-her4] at D5
 try rw[<-her4] at DE
 try rw[<-her4] at HQ
 clear her5;clear her4;clear hy1;clear hy2;clear hy3;clear hy4;clear hy5;clear hk hnm hcl her hbd ka ha hT hu hc;have F1:=hI (D1.out _ _ V0.out);go_wp2_with fail;refine F1.out.mono ?_;rintro e u1 ⟨rfl,p1,p2⟩;have V1:=hI p1;have K1:=hI (K0.out.trans p2);have Z1:=hI (p2.blk Z0.out (by decide) hzg);obtain⟨c1_1,c1_2,c1_3,c1_4,c1_5,c1_6,c1_7,c1_8,c1_9⟩:=FL.out _ _ Z1.out;clear p1 p2 F1 V0;have F2:=hI (D2.out _ _ V1.out);go_wp2_with fail;refine F2.out.mono ?_;rintro e u2 ⟨rfl,p1,p2⟩;have V2:=hI p1;have K2:=hI (K1.out.trans p2);have Z2:=hI (p2.blk Z1.out (by decide) hzg);obtain⟨c2_1,c2_2,c2_3,c2_4,c2_5,c2_6,c2_7,c2_8,c2_9⟩:=FL.out _ _ Z2.out;clear p1 p2 F2 V1;have F3:=hI (D3.out _ _ V2.out);go_wp2_with fail;refine F3.out.mono ?_;rintro e u3 ⟨rfl,p1,p2⟩;have V3:=hI p1;have K3:=hI (K2.out.trans p2);have Z3:=hI (p2.blk Z2.out (by decide) hzg);obtain⟨c3_1,c3_2,c3_3,c3_4,c3_5,c3_6,c3_7,c3_8,c3_9⟩:=FL.out _ _ Z3.out;clear p1 p2 F3 V2;have F4:=hI (D4.out _ _ (HT.out.next K3.out.below) V3.out);go_wp2_with fail;refine F4.out.mono ?_;rintro e u4 ⟨rfl,p1,p2⟩;have V4:=hI p1;have K4:=hI (K3.out.trans p2);have Z4:=hI (p2.blk Z3.out (by decide) hzg);obtain⟨c4_1,c4_2,c4_3,c4_4,c4_5,c4_6,c4_7,c4_8,c4_9⟩:=FL.out _ _ Z4.out;clear p1 p2 F4 V3;have F5:=hI (D5.out _ _ (HT.out.next K4.out.below) V4.out);go_wp2_with fail;refine F5.out.mono ?_;rintro e u5 ⟨rfl,p1,p2⟩;have Vz:=hI p1;have Kz:=hI (K4.out.trans p2);clear p1 p2 F5 V4;rotate_left;subst h16;have D1:Hid (∀(w':World) (g:Nat),WI w' g w.heap.size ([]) (0)->Calls Tryz.prog 134 #[.pointer (some ⟨g,0,none⟩),.int .u64 a.file] w' λe w2=>e=.returned (.tuple #[])/\WI w2 g w.heap.size ([]++le a.file 8) (0)/\j1a g w.heap.size w' w2):=λw' g h=>G3a w' g _ _ _ a.file h bf (by have h1:=rp;have h2:=ra;have h3:=rn;simp only[List.length_append,g0a,List.length_replicate,List.length_nil];omega)
 have DE:Hid (∀(w':World) (g:Nat),WI w' g w.heap.size ([]++le a.file 8) 0->Calls Tryz.prog 140 #[.pointer (some ⟨g,0,none⟩)] w' λe w2=>∃v,e=.returned (.tuple #[v,.int .i64 0])/\X0a .u8 5 w2 w.heap.size v (if 0=0 then []++le a.file 8 else [])/\Below w'.heap.size w' w2):=λw' g h=>l4a w' g w.heap.size _ _ h
 have hbd:[]++le a.file 8=x3a 16 a:=by unfold x3a;rw[if_neg (by decide),if_pos rfl,List.nil_append]
 have her:q4a 16 a=0:=by unfold q4a;rw[if_pos hnm,if_neg (by decide),if_neg (λh=>absurd h.1 (by decide))]
 have HQ:Hid (∀(v:Value) (e:Ending) (w':World),e=.returned (.tuple #[v,.int .i64 0])->X0a .u8 5 w' w.heap.size v (if 0=0 then []++le a.file 8 else [])->Below w.heap.size w w'->m4a w 16 a e w'):=by intro v e w' h1 h2 h3;refine⟨v,by rw[her];exact h1,?_,h3⟩;unfold i9a;rw[her,<-hbd];exact h2
 obtain⟨y1,hy1⟩:∃y:List Int,y=[]++le a.file 8:=⟨_,rfl⟩;rw[<-hy1] at D1 DE HQ;clear hy1;clear hk hnm hcl her hbd ka ha hT hu hc;have F1:=hI (D1.out _ _ V0.out);go_wp2_with fail;refine F1.out.mono ?_;rintro e u1 ⟨rfl,p1,p2⟩;have Vz:=hI p1;have Kz:=hI (K0.out.trans p2);clear p1 p2 F1 V0;rotate_left;subst h17;obtain⟨hc1,hc3⟩:=hcl rfl;have hcs:a.cls=1∨a.cls=2∨a.cls=3:=by omega
 rcases hcs with q | q | q
 have D1:Hid (∀(w':World) (g:Nat),WI w' g w.heap.size ([]) (0)->Calls Tryz.prog 134 #[.pointer (some ⟨g,0,none⟩),.int .u64 a.file] w' λe w2=>e=.returned (.tuple #[])/\WI w2 g w.heap.size ([]++le a.file 8) (0)/\j1a g w.heap.size w' w2):=λw' g h=>G3a w' g _ _ _ a.file h bf (by have h1:=rp;have h2:=ra;have h3:=rn;simp only[List.length_append,g0a,List.length_replicate,List.length_nil];omega)
 have D2:Hid (∀(w':World) (g:Nat),WI w' g w.heap.size ([]++le a.file 8) (0)->Calls Tryz.prog 135 #[.pointer (some ⟨g,0,none⟩),.int .u64 1] w' λe w2=>e=.returned (.tuple #[])/\WI w2 g w.heap.size ([]++le a.file 8++le 1 2) (0)/\j1a g w.heap.size w' w2):=λw' g h=>k4a w' g _ _ _ 1 h ⟨by decide,by decide⟩ (by have h1:=rp;have h2:=ra;have h3:=rn;simp only[List.length_append,g0a,List.length_replicate,List.length_nil];omega)
 have D3:Hid (∀(w':World) (g:Nat),WI w' g w.heap.size ([]++le a.file 8++le 1 2) (0)->Calls Tryz.prog 134 #[.pointer (some ⟨g,0,none⟩),.int .u64 a.siz] w' λe w2=>e=.returned (.tuple #[])/\WI w2 g w.heap.size ([]++le a.file 8++le 1 2++le a.siz 8) (0)/\j1a g w.heap.size w' w2):=λw' g h=>G3a w' g _ _ _ a.siz h bs (by have h1:=rp;have h2:=ra;have h3:=rn;simp only[List.length_append,g0a,List.length_replicate,List.length_nil];omega)
 have DE:Hid (∀(w':World) (g:Nat),WI w' g w.heap.size ([]++le a.file 8++le 1 2++le a.siz 8) 0->Calls Tryz.prog 140 #[.pointer (some ⟨g,0,none⟩)] w' λe w2=>∃v,e=.returned (.tuple #[v,.int .i64 0])/\X0a .u8 5 w2 w.heap.size v (if 0=0 then []++le a.file 8++le 1 2++le a.siz 8 else [])/\Below w'.heap.size w' w2):=λw' g h=>l4a w' g w.heap.size _ _ h
 rw[q] at FL f5;have hbd:[]++le a.file 8++le 1 2++le a.siz 8=x3a 17 a:=by unfold x3a;rw[if_neg (by decide),if_neg (by decide),if_pos rfl,if_pos q];simp only[List.nil_append,List.append_assoc,q]
 have her:q4a 17 a=0:=by unfold q4a;rw[if_pos hnm,if_neg (by decide),if_neg (λh=>by have:=h.2;omega)]
 have HQ:Hid (∀(v:Value) (e:Ending) (w':World),e=.returned (.tuple #[v,.int .i64 0])->X0a .u8 5 w' w.heap.size v (if 0=0 then []++le a.file 8++le 1 2++le a.siz 8 else [])->Below w.heap.size w w'->m4a w 17 a e w'):=by intro v e w' h1 h2 h3;refine⟨v,by rw[her];exact h1,?_,h3⟩;unfold i9a;rw[her,<-hbd];exact h2
 obtain⟨y3,hy3⟩:∃y:List Int,y=[]++le a.file 8++le 1 2++le a.siz 8:=⟨_,rfl⟩;rw[<-hy3] at D3 DE HQ;obtain⟨y2,hy2⟩:∃y:List Int,y=[]++le a.file 8++le 1 2:=⟨_,rfl⟩;rw[<-hy2] at D2 D3;obtain⟨y1,hy1⟩:∃y:List Int,y=[]++le a.file 8:=⟨_,rfl⟩;rw[<-hy1] at D1 D2;clear hy1;clear hy2;clear hy3;clear hk hnm hcl her hbd ka ha hT hu hc;have F1:=hI (D1.out _ _ V0.out);go_wp2_with fail;refine F1.out.mono ?_;rintro e u1 ⟨rfl,p1,p2⟩;have V1:=hI p1;have K1:=hI (K0.out.trans p2);have Z1:=hI (p2.blk Z0.out (by decide) hzg);obtain⟨c1_1,c1_2,c1_3,c1_4,c1_5,c1_6,c1_7,c1_8,c1_9⟩:=FL.out _ _ Z1.out;clear p1 p2 F1 V0;have F2:=hI (D2.out _ _ V1.out);go_wp2_with fail;refine F2.out.mono ?_;rintro e u2 ⟨rfl,p1,p2⟩;have V2:=hI p1;have K2:=hI (K1.out.trans p2);have Z2:=hI (p2.blk Z1.out (by decide) hzg);obtain⟨c2_1,c2_2,c2_3,c2_4,c2_5,c2_6,c2_7,c2_8,c2_9⟩:=FL.out _ _ Z2.out;clear p1 p2 F2 V1;have F3:=hI (D3.out _ _ V2.out);go_wp2_with fail;refine F3.out.mono ?_;rintro e u3 ⟨rfl,p1,p2⟩;have Vz:=hI p1;have Kz:=hI (K2.out.trans p2);clear p1 p2 F3 V2;rotate_left;have D1:Hid (∀(w':World) (g:Nat),WI w' g w.heap.size ([]) (0)->Calls Tryz.prog 134 #[.pointer (some ⟨g,0,none⟩),.int .u64 a.file] w' λe w2=>e=.returned (.tuple #[])/\WI w2 g w.heap.size ([]++le a.file 8) (0)/\j1a g w.heap.size w' w2):=λw' g h=>G3a w' g _ _ _ a.file h bf (by have h1:=rp;have h2:=ra;have h3:=rn;simp only[List.length_append,g0a,List.length_replicate,List.length_nil];omega)
 have D2:Hid (∀(w':World) (g:Nat),WI w' g w.heap.size ([]++le a.file 8) (0)->Calls Tryz.prog 135 #[.pointer (some ⟨g,0,none⟩),.int .u64 2] w' λe w2=>e=.returned (.tuple #[])/\WI w2 g w.heap.size ([]++le a.file 8++le 2 2) (0)/\j1a g w.heap.size w' w2):=λw' g h=>k4a w' g _ _ _ 2 h ⟨by decide,by decide⟩ (by have h1:=rp;have h2:=ra;have h3:=rn;simp only[List.length_append,g0a,List.length_replicate,List.length_nil];omega)
 have D3:Hid (∀(w':World) (g:Nat),WI w' g w.heap.size ([]++le a.file 8++le 2 2) (0)->Calls Tryz.prog 135 #[.pointer (some ⟨g,0,none⟩),.int .u64 (V0a a.on)] w' λe w2=>e=.returned (.tuple #[])/\WI w2 g w.heap.size ([]++le a.file 8++le 2 2++le (V0a a.on) 2) (0)/\j1a g w.heap.size w' w2):=λw' g h=>k4a w' g _ _ _ (V0a a.on) h bo (by have h1:=rp;have h2:=ra;have h3:=rn;simp only[List.length_append,g0a,List.length_replicate,List.length_nil];omega)
 have DE:Hid (∀(w':World) (g:Nat),WI w' g w.heap.size ([]++le a.file 8++le 2 2++le (V0a a.on) 2) 0->Calls Tryz.prog 140 #[.pointer (some ⟨g,0,none⟩)] w' λe w2=>∃v,e=.returned (.tuple #[v,.int .i64 0])/\X0a .u8 5 w2 w.heap.size v (if 0=0 then []++le a.file 8++le 2 2++le (V0a a.on) 2 else [])/\Below w'.heap.size w' w2):=λw' g h=>l4a w' g w.heap.size _ _ h
 rw[q] at FL f5;have hbd:[]++le a.file 8++le 2 2++le (V0a a.on) 2=x3a 17 a:=by unfold x3a;rw[if_neg (by decide),if_neg (by decide),if_pos rfl,if_neg (by omega),if_pos q];simp only[List.nil_append,List.append_assoc,q]
 have her:q4a 17 a=0:=by unfold q4a;rw[if_pos hnm,if_neg (by decide),if_neg (λh=>by have:=h.2;omega)]
 have HQ:Hid (∀(v:Value) (e:Ending) (w':World),e=.returned (.tuple #[v,.int .i64 0])->X0a .u8 5 w' w.heap.size v (if 0=0 then []++le a.file 8++le 2 2++le (V0a a.on) 2 else [])->Below w.heap.size w w'->m4a w 17 a e w'):=by intro v e w' h1 h2 h3;refine⟨v,by rw[her];exact h1,?_,h3⟩;unfold i9a;rw[her,<-hbd];exact h2
 obtain⟨y3,hy3⟩:∃y:List Int,y=[]++le a.file 8++le 2 2++le (V0a a.on) 2:=⟨_,rfl⟩;rw[<-hy3] at D3 DE HQ;obtain⟨y2,hy2⟩:∃y:List Int,y=[]++le a.file 8++le 2 2:=⟨_,rfl⟩;rw[<-hy2] at D2 D3;obtain⟨y1,hy1⟩:∃y:List Int,y=[]++le a.file 8:=⟨_,rfl⟩;rw[<-hy1] at D1 D2;clear hy1;clear hy2;clear hy3;clear hk hnm hcl her hbd ka ha hT hu hc;have F1:=hI (D1.out _ _ V0.out);go_wp2_with fail;refine F1.out.mono ?_;rintro e u1 ⟨rfl,p1,p2⟩;have V1:=hI p1;have K1:=hI (K0.out.trans p2);have Z1:=hI (p2.blk Z0.out (by decide) hzg);obtain⟨c1_1,c1_2,c1_3,c1_4,c1_5,c1_6,c1_7,c1_8,c1_9⟩:=FL.out _ _ Z1.out;clear p1 p2 F1 V0;have F2:=hI (D2.out _ _ V1.out);go_wp2_with fail;refine F2.out.mono ?_;rintro e u2 ⟨rfl,p1,p2⟩;have V2:=hI p1;have K2:=hI (K1.out.trans p2);have Z2:=hI (p2.blk Z1.out (by decide) hzg);obtain⟨c2_1,c2_2,c2_3,c2_4,c2_5,c2_6,c2_7,c2_8,c2_9⟩:=FL.out _ _ Z2.out;clear p1 p2 F2 V1;go_wp2_with fail;refine(CT.out _ _).mono ?_;rintro e wt ⟨rfl,rfl⟩;have F3:=hI (D3.out _ _ V2.out);go_wp2_with fail;refine F3.out.mono ?_;rintro e u3 ⟨rfl,p1,p2⟩;have Vz:=hI p1;have Kz:=hI (K2.out.trans p2);clear p1 p2 F3 V2;rotate_left;have D1:Hid (∀(w':World) (g:Nat),WI w' g w.heap.size ([]) (0)->Calls Tryz.prog 134 #[.pointer (some ⟨g,0,none⟩),.int .u64 a.file] w' λe w2=>e=.returned (.tuple #[])/\WI w2 g w.heap.size ([]++le a.file 8) (0)/\j1a g w.heap.size w' w2):=λw' g h=>G3a w' g _ _ _ a.file h bf (by have h1:=rp;have h2:=ra;have h3:=rn;simp only[List.length_append,g0a,List.length_replicate,List.length_nil];omega)
 have D2:Hid (∀(w':World) (g:Nat),WI w' g w.heap.size ([]++le a.file 8) (0)->Calls Tryz.prog 135 #[.pointer (some ⟨g,0,none⟩),.int .u64 3] w' λe w2=>e=.returned (.tuple #[])/\WI w2 g w.heap.size ([]++le a.file 8++le 3 2) (0)/\j1a g w.heap.size w' w2):=λw' g h=>k4a w' g _ _ _ 3 h ⟨by decide,by decide⟩ (by have h1:=rp;have h2:=ra;have h3:=rn;simp only[List.length_append,g0a,List.length_replicate,List.length_nil];omega)
 have D3:Hid (∀(w':World) (g:Nat),WI w' g w.heap.size ([]++le a.file 8++le 3 2) (0)->Calls Tryz.prog 135 #[.pointer (some ⟨g,0,none⟩),.int .u64 (V0a a.on)] w' λe w2=>e=.returned (.tuple #[])/\WI w2 g w.heap.size ([]++le a.file 8++le 3 2++le (V0a a.on) 2) (0)/\j1a g w.heap.size w' w2):=λw' g h=>k4a w' g _ _ _ (V0a a.on) h bo (by have h1:=rp;have h2:=ra;have h3:=rn;simp only[List.length_append,g0a,List.length_replicate,List.length_nil];omega)
 have D4:Hid (∀(w':World) (g:Nat),M6a w.heap.size w'->WI w' g w.heap.size ([]++le a.file 8++le 3 2++le (V0a a.on) 2) (0)->Calls Tryz.prog 137 #[.pointer (some ⟨g,0,none⟩),.string a.name] w' λe w2=>e=.returned (.tuple #[])/\WI w2 g w.heap.size ([]++le a.file 8++le 3 2++le (V0a a.on) 2++A0a a.name.data.toList) (y0a a.name.data.toList)/\j1a g w.heap.size w' w2):=λw' g ht h=>by have h1:=e9a w' g _ _ _ a.name h hn1 ht (by have h1:=rp;have h2:=ra;have h3:=rn;simp only[List.length_append,g0a,List.length_replicate,List.length_nil];omega);rw[if_pos rfl] at h1;exact h1
 have DE:Hid (∀(w':World) (g:Nat),WI w' g w.heap.size ([]++le a.file 8++le 3 2++le (V0a a.on) 2++A0a a.name.data.toList) (y0a a.name.data.toList)->Calls Tryz.prog 140 #[.pointer (some ⟨g,0,none⟩)] w' λe w2=>∃v,e=.returned (.tuple #[v,.int .i64 (y0a a.name.data.toList)])/\X0a .u8 5 w2 w.heap.size v (if (y0a a.name.data.toList)=0 then []++le a.file 8++le 3 2++le (V0a a.on) 2++A0a a.name.data.toList else [])/\Below w'.heap.size w' w2):=λw' g h=>l4a w' g w.heap.size _ _ h
 rw[q] at FL f5;have hbd:[]++le a.file 8++le 3 2++le (V0a a.on) 2++A0a a.name.data.toList=x3a 17 a:=by unfold x3a;rw[if_neg (by decide),if_neg (by decide),if_pos rfl,if_neg (by omega),if_neg (by omega)];simp only[List.nil_append,List.append_assoc,q]
 have her:q4a 17 a=(y0a a.name.data.toList):=by unfold q4a;rw[if_pos hnm,if_neg (by decide),if_pos ⟨rfl,q⟩]
 have HQ:Hid (∀(v:Value) (e:Ending) (w':World),e=.returned (.tuple #[v,.int .i64 (y0a a.name.data.toList)])->X0a .u8 5 w' w.heap.size v (if (y0a a.name.data.toList)=0 then []++le a.file 8++le 3 2++le (V0a a.on) 2++A0a a.name.data.toList else [])->Below w.heap.size w w'->m4a w 17 a e w'):=by intro v e w' h1 h2 h3;refine⟨v,by rw[her];exact h1,?_,h3⟩;unfold i9a;rw[her,<-hbd];exact h2
 obtain⟨y4,hy4⟩:∃y:List Int,y=[]++le a.file 8++le 3 2++le (V0a a.on) 2++A0a a.name.data.toList:=⟨_,rfl⟩;rw[<-hy4] at D4 DE HQ;obtain⟨y3,hy3⟩:∃y:List Int,y=[]++le a.file 8++le 3 2++le (V0a a.on) 2:=⟨_,rfl⟩;rw[<-hy3] at D3 D4;obtain⟨y2,hy2⟩:∃y:List Int,y=[]++le a.file 8++le 3 2:=⟨_,rfl⟩;rw[<-hy2] at D2 D3;obtain⟨y1,hy1⟩:∃y:List Int,y=[]++le a.file 8:=⟨_,rfl⟩;rw[<-hy1] at D1 D2;obtain⟨er4,her4⟩:∃y:Int,y=(y0a a.name.data.toList):=⟨_,rfl⟩;try rw[<-her4] at D4
 try rw[<-her4] at DE
 try rw[<-her4] at HQ
 clear her4;clear hy1;clear hy2;clear hy3;clear hy4;clear hk hnm hcl her hbd ka ha hT hu hc;have F1:=hI (D1.out _ _ V0.out);go_wp2_with fail;refine F1.out.mono ?_;rintro e u1 ⟨rfl,p1,p2⟩;have V1:=hI p1;have K1:=hI (K0.out.trans p2);have Z1:=hI (p2.blk Z0.out (by decide) hzg);obtain⟨c1_1,c1_2,c1_3,c1_4,c1_5,c1_6,c1_7,c1_8,c1_9⟩:=FL.out _ _ Z1.out;clear p1 p2 F1 V0;have F2:=hI (D2.out _ _ V1.out);go_wp2_with fail;refine F2.out.mono ?_;rintro e u2 ⟨rfl,p1,p2⟩;have V2:=hI p1;have K2:=hI (K1.out.trans p2);have Z2:=hI (p2.blk Z1.out (by decide) hzg);obtain⟨c2_1,c2_2,c2_3,c2_4,c2_5,c2_6,c2_7,c2_8,c2_9⟩:=FL.out _ _ Z2.out;clear p1 p2 F2 V1;go_wp2_with fail;refine(CT.out _ _).mono ?_;rintro e wt ⟨rfl,rfl⟩;have F3:=hI (D3.out _ _ V2.out);go_wp2_with fail;refine F3.out.mono ?_;rintro e u3 ⟨rfl,p1,p2⟩;have V3:=hI p1;have K3:=hI (K2.out.trans p2);have Z3:=hI (p2.blk Z2.out (by decide) hzg);obtain⟨c3_1,c3_2,c3_3,c3_4,c3_5,c3_6,c3_7,c3_8,c3_9⟩:=FL.out _ _ Z3.out;clear p1 p2 F3 V2;have F4:=hI (D4.out _ _ (HT.out.next K3.out.below) V3.out);go_wp2_with fail;refine F4.out.mono ?_;rintro e u4 ⟨rfl,p1,p2⟩;have Vz:=hI p1;have Kz:=hI (K3.out.trans p2);clear p1 p2 F4 V3;rotate_left;subst h18;have D1:Hid (∀(w':World) (g:Nat),WI w' g w.heap.size ([]) (0)->Calls Tryz.prog 139 #[.pointer (some ⟨g,0,none⟩),.int .u64 a.file,.int .u8 a.lev] w' λe w2=>e=.returned (.tuple #[])/\WI w2 g w.heap.size ([]++(le a.file 8++(le a.lev 1++List.replicate 3 0))) (0)/\j1a g w.heap.size w' w2):=λw' g h=>J2b w' g _ _ _ a.file a.lev h bf bl (by have h1:=rp;have h2:=ra;have h3:=rn;simp only[List.length_append,g0a,List.length_replicate,List.length_nil];omega)
 have DE:Hid (∀(w':World) (g:Nat),WI w' g w.heap.size ([]++(le a.file 8++(le a.lev 1++List.replicate 3 0))) 0->Calls Tryz.prog 140 #[.pointer (some ⟨g,0,none⟩)] w' λe w2=>∃v,e=.returned (.tuple #[v,.int .i64 0])/\X0a .u8 5 w2 w.heap.size v (if 0=0 then []++(le a.file 8++(le a.lev 1++List.replicate 3 0)) else [])/\Below w'.heap.size w' w2):=λw' g h=>l4a w' g w.heap.size _ _ h
 have hbd:[]++(le a.file 8++(le a.lev 1++List.replicate 3 0))=x3a 18 a:=by unfold x3a;rw[if_neg (by decide),if_neg (by decide),if_neg (by decide),if_pos rfl,List.nil_append]
 have her:q4a 18 a=0:=by unfold q4a;rw[if_pos hnm,if_neg (by decide),if_neg (λh=>absurd h.1 (by decide))]
 have HQ:Hid (∀(v:Value) (e:Ending) (w':World),e=.returned (.tuple #[v,.int .i64 0])->X0a .u8 5 w' w.heap.size v (if 0=0 then []++(le a.file 8++(le a.lev 1++List.replicate 3 0)) else [])->Below w.heap.size w w'->m4a w 18 a e w'):=by intro v e w' h1 h2 h3;refine⟨v,by rw[her];exact h1,?_,h3⟩;unfold i9a;rw[her,<-hbd];exact h2
 obtain⟨y1,hy1⟩:∃y:List Int,y=[]++(le a.file 8++(le a.lev 1++List.replicate 3 0)):=⟨_,rfl⟩;rw[<-hy1] at D1 DE HQ;clear hy1;clear hk hnm hcl her hbd ka ha hT hu hc;have F1:=hI (D1.out _ _ V0.out);go_wp2_with fail;refine F1.out.mono ?_;rintro e u1 ⟨rfl,p1,p2⟩;have Vz:=hI p1;have Kz:=hI (K0.out.trans p2);clear p1 p2 F1 V0;rotate_left;all_goals
  have FE:=hI (DE.out _ _ Vz.out);go_wp2_with fail;refine FE.out.mono ?_;rintro e ue ⟨v,rfl,p1,p2⟩;have OE:=hI p1;have LE:=hI (Kz.out.below.trans (p2.mono (by have:=Kz.out.below.size;omega)));clear p1 p2 FE;go_wp2;go_ret2;exact HQ.out _ _ _ rfl OE.out LE.out
theorem x3b(w:World)(c:Int)(cs:List Value)(a:M1a)(hc:0<=c/\c<=65535)(ka:a.ok)(ha:n1a w w.heap.size cs a) :
  Calls Tryz.prog 149 #[.int .u16 c,.agg cs.toArray] w λe w'=>e=.returned (.bool (L3a c a))/\Below w.heap.size w w':=by
 have HL:=hI (ha.len ka);have hcl:=ka.clen;have CP:Hid (∀(w':World) (ds:List Value) (b:M1a),b.ok->n1a w' w'.heap.size ds b->Calls Tryz.prog 82 #[.int .u16 13,.agg ds.toArray] w' λe w2=>(∃v er,e=.returned (.tuple #[v,.int .i64 er])/\(er==0)=decide (b=q0a))/\Below w'.heap.size w' w2):=λw' ds b kb hb=>by exact(x1b w' 13 ds b (by decide) kb hb).mono λe w2 ⟨v,h1,_,h3⟩=>⟨⟨v,_,h1,w4b b⟩,h3⟩
 by_cases hk:G5a c=true;rotate_left
 ·have hn0:L3a c a=false:=by unfold L3a;rw[show G5a c=false from by simpa using hk];rfl
  have hk':c≠14/\c≠16/\c≠17/\c≠18:=by refine⟨?_,?_,?_,?_⟩<;>(rintro rfl;exact hk (by decide))
  obtain⟨h14,h16,h17,h18⟩:=hk';have b14:(c==14)=false:=by simpa using h14
  have b16:(c==16)=false:=by simpa using h16
  have b17:(c==17)=false:=by simpa using h17
  have b18:(c==18)=false:=by simpa using h18
  rw[hn0];clear hk hn0 h14 h16 h17 h18 ha ka CP;go_enter Tryz.func149,Tryz.ntmps149;go_wp2_with(first
   | ((with_reducible refine sN 3 ?_);refine f0a rfl _ (.tmp 1) rfl cs rfl ?_;intro g w1 hg1 hg2 K1 L1)
   | fail)
  go_ret;exact⟨rfl,L1.out⟩
 have hcs:=j4a hk;obtain⟨X1,X2,X3,M1,M2,M3,rfl,hX,hM⟩:=ha;obtain⟨C0,hC0⟩:∃x,x=r0a (.slice X1 X2 X3) (.slice M1 M2 M3) a:=⟨_,rfl⟩;have HC0:=hI hC0;rw[<-hC0] at HL ⊢;clear hC0;rcases hcs with h14 | h16 | h17 | h18
 ·subst h14;have hbe:a3a 14 a={ a with ents:=[],more:=false }:=by unfold a3a;rw[if_pos rfl]
  have hnf:L3a 14 a=decide (a3a 14 a=q0a):=by unfold L3a;rw[hk,Bool.true_and]
  rw[hnf,hbe];have kb:({ a with ents:=[],more:=false }:M1a).ok:=⟨ka.dia,ka.siz,ka.clen,ka.cbyte,ka.lev,ka.dur,ka.made,ka.file,ka.kind,ka.data,ka.n,(λl h=>by cases h)⟩;have HI:Hid (∀w':World,Below w.heap.size w w'->n1a w' w'.heap.size (r0a (.slice X1 X2 X3) (.slice none 0 0) ({ a with ents:=[],more:=false })) ({ a with ents:=[],more:=false })):=λw' hb=>⟨X1,X2,X3,none,0,0,rfl,hX.over hb,d1a.nil _ _ _ _⟩
  have HEQ:Hid (((C0).set 17 (.slice none 0 0)).set 18 (.bool false)=r0a (.slice X1 X2 X3) (.slice none 0 0) ({ a with ents:=[],more:=false })):=by
   show _=_
   rw[HC0.out];simp only[S2c,t3c,hcl];try rfl
  obtain⟨b,hb⟩:∃x:M1a,x={ a with ents:=[],more:=false }:=⟨_,rfl⟩;rw[<-hb] at HI HEQ kb ⊢;obtain⟨D,hD⟩:∃x,x=r0a (.slice X1 X2 X3) (.slice none 0 0) b:=⟨_,rfl⟩;rw[<-hD] at HI HEQ;clear hb hD hk ka hbe hnf;go_enter Tryz.func149,Tryz.ntmps149;go_wp2_with(first
   | ((with_reducible refine sN 3 ?_);refine f0a rfl _ (.tmp 1) rfl C0 rfl ?_;intro g w1 hg1 hg2 K1 L1)
   | ((with_reducible refine sT 10 ?_);refine d0a rfl _ (.tmp 10) (.const (.slice none 0 0)) rfl g 17 rfl _ C0 (.slice none 0 0) rfl K1 (hI (by have:=HL.out;omega)) (by kernel_rfl) rfl ?_;intro w2 K2 O2 hq2;obtain⟨C1,hC1⟩:∃x,x=C0.set 17 (.slice none 0 0):=⟨_,rfl⟩;have HC1:=hI hC1;have HL1:Hid (C1.length=20):=(by rw[hC1,List.length_set];exact HL.out);rw[<-hC1] at K2;have L2:=hI (c0a L1.out O2.out hg1);clear hC1)
   | ((with_reducible refine sT 11 ?_);refine d0a rfl _ (.tmp 11) (.const (.bool false)) rfl g 18 rfl _ C1 (.bool false) rfl K2 (hI (by have:=HL1.out;omega)) (by kernel_rfl) rfl ?_;intro w3 K3 O3 hq3;obtain⟨C2,hC2⟩:∃x,x=C1.set 18 (.bool false):=⟨_,rfl⟩;have HC2:=hI hC2;have HL2:Hid (C2.length=20):=(by rw[hC2,List.length_set];exact HL1.out);rw[<-hC2] at K3;have L3:=hI (c0a L2.out O3.out hg1);clear hC2)
   | ((with_reducible refine sN 24 ?_);refine e0a rfl _ (.tmp 3) rfl g rfl _ C2 K3 20 _ Tryz.underlying39 rfl s0a HL2 ?_)
   | fail)
  have HF:Hid (C2=D):=by
   show _=_
   rw[HC2.out,HC1.out];exact HEQ.out
  rw[HF.out];refine(CP.out _ D b kb (HI.out _ L3.out)).mono ?_;rintro e v1 ⟨⟨v,er,rfl,her⟩,LQ⟩;have HER:=hI her;have L99:=hI (step L3.out LQ);clear her LQ;go_wp2;go_ret;exact⟨K0a HER.out,L99.out⟩
 ·subst h16;have hbe:a3a 16 a={ a with siz:=0,kind:=0,gone:=false }:=by unfold a3a;rw[if_neg (by decide),if_pos rfl]
  have hnf:L3a 16 a=decide (a3a 16 a=q0a):=by unfold L3a;rw[hk,Bool.true_and]
  rw[hnf,hbe];have kb:({ a with siz:=0,kind:=0,gone:=false }:M1a).ok:=⟨ka.dia,zb (by decide),ka.clen,ka.cbyte,ka.lev,ka.dur,ka.made,ka.file,zb (by decide),ka.data,ka.n,ka.ents⟩;have HI:Hid (∀w':World,Below w.heap.size w w'->n1a w' w'.heap.size (r0a (.slice X1 X2 X3) (.slice M1 M2 M3) ({ a with siz:=0,kind:=0,gone:=false })) ({ a with siz:=0,kind:=0,gone:=false })):=λw' hb=>⟨X1,X2,X3,M1,M2,M3,rfl,hX.over hb,hM.over hb⟩
  have HEQ:Hid ((((C0).set 1 (.int .u64 0)).set 14 (.int .u8 0)).set 19 (.bool false)=r0a (.slice X1 X2 X3) (.slice M1 M2 M3) ({ a with siz:=0,kind:=0,gone:=false })):=by
   show _=_
   rw[HC0.out];simp only[sc1,a3c,u3c,hcl];try rfl
  obtain⟨b,hb⟩:∃x:M1a,x={ a with siz:=0,kind:=0,gone:=false }:=⟨_,rfl⟩;rw[<-hb] at HI HEQ kb ⊢;obtain⟨D,hD⟩:∃x,x=r0a (.slice X1 X2 X3) (.slice M1 M2 M3) b:=⟨_,rfl⟩;rw[<-hD] at HI HEQ;clear hb hD hk ka hbe hnf;go_enter Tryz.func149,Tryz.ntmps149;go_wp2_with(first
   | ((with_reducible refine sN 3 ?_);refine f0a rfl _ (.tmp 1) rfl C0 rfl ?_;intro g w1 hg1 hg2 K1 L1)
   | ((with_reducible refine sT 14 ?_);refine d0a rfl _ (.tmp 14) (.const (.int .u64 0)) rfl g 1 rfl _ C0 (.int .u64 0) rfl K1 (hI (by have:=HL.out;omega)) (by kernel_rfl) rfl ?_;intro w2 K2 O2 hq2;obtain⟨C1,hC1⟩:∃x,x=C0.set 1 (.int .u64 0):=⟨_,rfl⟩;have HC1:=hI hC1;have HL1:Hid (C1.length=20):=(by rw[hC1,List.length_set];exact HL.out);rw[<-hC1] at K2;have L2:=hI (c0a L1.out O2.out hg1);clear hC1)
   | ((with_reducible refine sT 15 ?_);refine d0a rfl _ (.tmp 15) (.const (.int .u8 0)) rfl g 14 rfl _ C1 (.int .u8 0) rfl K2 (hI (by have:=HL1.out;omega)) (by kernel_rfl) rfl ?_;intro w3 K3 O3 hq3;obtain⟨C2,hC2⟩:∃x,x=C1.set 14 (.int .u8 0):=⟨_,rfl⟩;have HC2:=hI hC2;have HL2:Hid (C2.length=20):=(by rw[hC2,List.length_set];exact HL1.out);rw[<-hC2] at K3;have L3:=hI (c0a L2.out O3.out hg1);clear hC2)
   | ((with_reducible refine sT 16 ?_);refine d0a rfl _ (.tmp 16) (.const (.bool false)) rfl g 19 rfl _ C2 (.bool false) rfl K3 (hI (by have:=HL2.out;omega)) (by kernel_rfl) rfl ?_;intro w4 K4 O4 hq4;obtain⟨C3,hC3⟩:∃x,x=C2.set 19 (.bool false):=⟨_,rfl⟩;have HC3:=hI hC3;have HL3:Hid (C3.length=20):=(by rw[hC3,List.length_set];exact HL2.out);rw[<-hC3] at K4;have L4:=hI (c0a L3.out O4.out hg1);clear hC3)
   | ((with_reducible refine sN 24 ?_);refine e0a rfl _ (.tmp 3) rfl g rfl _ C3 K4 20 _ Tryz.underlying39 rfl s0a HL3 ?_)
   | fail)
  have HF:Hid (C3=D):=by
   show _=_
   rw[HC3.out,HC2.out,HC1.out];exact HEQ.out
  rw[HF.out];refine(CP.out _ D b kb (HI.out _ L4.out)).mono ?_;rintro e v1 ⟨⟨v,er,rfl,her⟩,LQ⟩;have HER:=hI her;have L99:=hI (step L4.out LQ);clear her LQ;go_wp2;go_ret;exact⟨K0a HER.out,L99.out⟩
 ·subst h17;have hbe:a3a 17 a=a:=by unfold a3a;rw[if_neg (by decide),if_neg (by decide),if_neg (by decide)]
  have hnf:L3a 17 a=decide (a3a 17 a=q0a):=by unfold L3a;rw[hk,Bool.true_and]
  rw[hnf,hbe];have kb:(a:M1a).ok:=⟨ka.dia,ka.siz,ka.clen,ka.cbyte,ka.lev,ka.dur,ka.made,ka.file,ka.kind,ka.data,ka.n,ka.ents⟩;have HI:Hid (∀w':World,Below w.heap.size w w'->n1a w' w'.heap.size (r0a (.slice X1 X2 X3) (.slice M1 M2 M3) (a)) (a)):=λw' hb=>⟨X1,X2,X3,M1,M2,M3,rfl,hX.over hb,hM.over hb⟩
  have HEQ:Hid (C0=r0a (.slice X1 X2 X3) (.slice M1 M2 M3) (a)):=by
   show _=_
   exact HC0.out
  obtain⟨b,hb⟩:∃x:M1a,x=a:=⟨_,rfl⟩;rw[<-hb] at HI HEQ kb ⊢;obtain⟨D,hD⟩:∃x,x=r0a (.slice X1 X2 X3) (.slice M1 M2 M3) b:=⟨_,rfl⟩;rw[<-hD] at HI HEQ;clear hb hD hk ka hbe hnf;go_enter Tryz.func149,Tryz.ntmps149;go_wp2_with(first
   | ((with_reducible refine sN 3 ?_);refine f0a rfl _ (.tmp 1) rfl C0 rfl ?_;intro g w1 hg1 hg2 K1 L1)
   | ((with_reducible refine sN 24 ?_);refine e0a rfl _ (.tmp 3) rfl g rfl _ C0 K1 20 _ Tryz.underlying39 rfl s0a HL ?_)
   | fail)
  have HF:Hid (C0=D):=by
   show _=_
   exact HEQ.out
  rw[HF.out];refine(CP.out _ D b kb (HI.out _ L1.out)).mono ?_;rintro e v1 ⟨⟨v,er,rfl,her⟩,LQ⟩;have HER:=hI her;have L99:=hI (step L1.out LQ);clear her LQ;go_wp2;go_ret;exact⟨K0a HER.out,L99.out⟩
 ·subst h18;have hbe:a3a 18 a={ a with file:=0,lev:=0 }:=by unfold a3a;rw[if_neg (by decide),if_neg (by decide),if_pos rfl]
  have hnf:L3a 18 a=decide (a3a 18 a=q0a):=by unfold L3a;rw[hk,Bool.true_and]
  rw[hnf,hbe];have kb:({ a with file:=0,lev:=0 }:M1a).ok:=⟨ka.dia,ka.siz,ka.clen,ka.cbyte,zb (by decide),ka.dur,ka.made,zb (by decide),ka.kind,ka.data,ka.n,ka.ents⟩;have HI:Hid (∀w':World,Below w.heap.size w w'->n1a w' w'.heap.size (r0a (.slice X1 X2 X3) (.slice M1 M2 M3) ({ a with file:=0,lev:=0 })) ({ a with file:=0,lev:=0 })):=λw' hb=>⟨X1,X2,X3,M1,M2,M3,rfl,hX.over hb,hM.over hb⟩
  have HEQ:Hid (((C0).set 13 (.int .u64 0)).set 10 (.int .u8 0)=r0a (.slice X1 X2 X3) (.slice M1 M2 M3) ({ a with file:=0,lev:=0 })):=by
   show _=_
   rw[HC0.out];simp only[Z2c,Y2c,hcl];try rfl
  obtain⟨b,hb⟩:∃x:M1a,x={ a with file:=0,lev:=0 }:=⟨_,rfl⟩;rw[<-hb] at HI HEQ kb ⊢;obtain⟨D,hD⟩:∃x,x=r0a (.slice X1 X2 X3) (.slice M1 M2 M3) b:=⟨_,rfl⟩;rw[<-hD] at HI HEQ;clear hb hD hk ka hbe hnf;go_enter Tryz.func149,Tryz.ntmps149;go_wp2_with(first
   | ((with_reducible refine sN 3 ?_);refine f0a rfl _ (.tmp 1) rfl C0 rfl ?_;intro g w1 hg1 hg2 K1 L1)
   | ((with_reducible refine sT 21 ?_);refine d0a rfl _ (.tmp 21) (.const (.int .u64 0)) rfl g 13 rfl _ C0 (.int .u64 0) rfl K1 (hI (by have:=HL.out;omega)) (by kernel_rfl) rfl ?_;intro w2 K2 O2 hq2;obtain⟨C1,hC1⟩:∃x,x=C0.set 13 (.int .u64 0):=⟨_,rfl⟩;have HC1:=hI hC1;have HL1:Hid (C1.length=20):=(by rw[hC1,List.length_set];exact HL.out);rw[<-hC1] at K2;have L2:=hI (c0a L1.out O2.out hg1);clear hC1)
   | ((with_reducible refine sT 22 ?_);refine d0a rfl _ (.tmp 22) (.const (.int .u8 0)) rfl g 10 rfl _ C1 (.int .u8 0) rfl K2 (hI (by have:=HL1.out;omega)) (by kernel_rfl) rfl ?_;intro w3 K3 O3 hq3;obtain⟨C2,hC2⟩:∃x,x=C1.set 10 (.int .u8 0):=⟨_,rfl⟩;have HC2:=hI hC2;have HL2:Hid (C2.length=20):=(by rw[hC2,List.length_set];exact HL1.out);rw[<-hC2] at K3;have L3:=hI (c0a L2.out O3.out hg1);clear hC2)
   | ((with_reducible refine sN 24 ?_);refine e0a rfl _ (.tmp 3) rfl g rfl _ C2 K3 20 _ Tryz.underlying39 rfl s0a HL2 ?_)
   | fail)
  have HF:Hid (C2=D):=by
   show _=_
   rw[HC2.out,HC1.out];exact HEQ.out
  rw[HF.out];refine(CP.out _ D b kb (HI.out _ L3.out)).mono ?_;rintro e v1 ⟨⟨v,er,rfl,her⟩,LQ⟩;have HER:=hI her;have L99:=hI (step L3.out LQ);clear her LQ;go_wp2;go_ret;exact⟨K0a HER.out,L99.out⟩
def Z5a(w:World)(c:Int)(a:M1a)(e:Ending)(w':World):Prop:=∃v,e=.returned (.tuple #[v,.int .i64 (N4a c a)])/\X0a .u8 5 w' w.heap.size v (A1b c a)/\Below w.heap.size w w'
theorem x5b(w:World)(c:Int)(cs:List Value)(a:M1a)(hc:0<=c/\c<=65535)(ka:a.ok)(ha:n1a w w.heap.size cs a)(hn:a.ents.length<=4398046511104/\∀e∈a.ents,e.name.size<=17592186044416)(hT:V7a w) :
  Calls Tryz.prog 90 #[.int .u16 c,.agg cs.toArray] w (Z5a w c a):=by
 have HL:=hI (ha.len ka);have HA:=hI ha;have HT:Hid (M6a w.heap.size w):=M6a.of hT;obtain⟨hn1,hn2⟩:=hn;have CN:Hid (∀w',Below w.heap.size w w'->Calls Tryz.prog 149 #[.int .u16 c,.agg cs.toArray] w' λe w2=>e=.returned (.bool (L3a c a))/\Below w'.heap.size w' w2):=λw' hb=>x3b w' c cs a hc ka (HA.out.over hb)
 have CT:Hid (∀(w:World) (b:Bool),Calls Tryz.prog 138 #[.bool b] w λe w'=>e=.returned (.int .u64 (V0a b))/\w=w'):=I2b;obtain⟨X1,X2,X3,M1,M2,M3,hcs,hX,hM⟩:=ha;have hml:=hM.len;have CC:Hid (∀w',Below w.heap.size w w'->Calls Tryz.prog 150 #[.slice M1 M2 M3,.func (.func 151) #[] #[]] w' λe w2=>e=.returned (.bool (!a.ents.all w3a))/\Below w'.heap.size w' w2):=λw' hb=>v3b w' M1 M2 M3 a.ents (hM.over hb) (by omega)
 have FL:Hid (∀(w:World) (g:Nat),Blk w g 39 cs->w.cell? ⟨g,17,none⟩=some (.slice M1 M2 M3)/\w.cell? ⟨g,18,none⟩=some (.bool a.more)/\w.cell? ⟨g,1,none⟩=some (.int .u64 a.siz)/\w.cell? ⟨g,14,none⟩=some (.int .u8 a.kind)/\w.cell? ⟨g,19,none⟩=some (.bool a.gone)/\w.cell? ⟨g,13,none⟩=some (.int .u64 a.file)/\w.cell? ⟨g,10,none⟩=some (.int .u8 a.lev)):=by rw[hcs];exact λw g h=>⟨h.at (B0a ka 7),h.at (B0a ka 8),h.at rfl,h.at (B0a ka 4),h.at (B0a ka 9),h.at (B0a ka 3),h.at (B0a ka 0)⟩
 have ZW:=hI U8b;have b1:=ka.siz;have b2:=ka.kind;have b3:=ka.file;have b5:=ka.lev
 have hents:=ka.ents;have HE:Hid (∀er,N4a c a=er->er≠0->∀(e:Ending) (w':World),e=.returned (.tuple #[.slice none 0 0,.int .i64 er])->Below w.heap.size w w'->Z5a w c a e w'):=by intro er h0 h1 e w' h2 h3;refine⟨_,by rw[h0];exact h2,?_,h3⟩;unfold A1b;rw[h0,if_neg h1];exact X0a.nil _ _ _ _
 clear hcs HA hX;by_cases hnm:L3a c a=true;rotate_left
 ·have hnf:L3a c a=false:=by simpa using hnm
  have HQ:=hI (HE.out 2 (by unfold N4a;rw[if_neg (λh=>hnm h.1)]) (by decide));rw[hnf] at CN;clear hnm hnf hM ka hT hc CT ZW CC HE;go_enter Tryz.func90,Tryz.ntmps90;go_wp2_with(first
   | ((with_reducible refine sN 3 ?_);refine f0a rfl _ (.tmp 1) rfl cs rfl ?_;intro z w1 hz1 hz2 Z1 L1;obtain⟨c1,c2,c3,c4,c5,c6,c7⟩:=FL.out _ _ Z1.out)
   | ((with_reducible refine sN 8 ?_);refine e0a rfl _ (.tmp 3) rfl z rfl _ cs Z1 20 _ Tryz.underlying39 rfl s0a HL ?_)
   | fail)
  refine(CN.out w1 L1.out).mono ?_;rintro e w2 ⟨rfl,L2⟩;have L22:=hI (step L1.out L2);clear L2;go_wp2;go_ret2;exact HQ.out _ _ rfl L22.out
 rw[hnm] at CN;by_cases hkd:a.kind<=2;rotate_left
 ·have HQ:=hI (HE.out 2 (by unfold N4a;rw[if_neg (λh=>hkd h.2.1)]) (by decide));have q1:(2:Int)<a.kind:=by omega
  clear hnm hM ka hT hc CT ZW CC HE hkd;go_enter Tryz.func90,Tryz.ntmps90;go_wp2_with(first
   | ((with_reducible refine sN 3 ?_);refine f0a rfl _ (.tmp 1) rfl cs rfl ?_;intro z w1 hz1 hz2 Z1 L1;obtain⟨c1,c2,c3,c4,c5,c6,c7⟩:=FL.out _ _ Z1.out)
   | ((with_reducible refine sN 8 ?_);refine e0a rfl _ (.tmp 3) rfl z rfl _ cs Z1 20 _ Tryz.underlying39 rfl s0a HL ?_)
   | fail)
  refine(CN.out w1 L1.out).mono ?_;rintro e w2 ⟨rfl,L2⟩;obtain⟨d1,d2,d3,d4,d5,d6,d7⟩:=FL.out _ _ (Z1.out.over L2);have L22:=hI (step L1.out L2);clear L2;go_wp2;go_ret2;exact HQ.out _ _ rfl L22.out
 have q1:¬(2:Int)<a.kind:=by omega
 by_cases hall:a.ents.all w3a=true;rotate_left
 ·have HQ:=hI (HE.out 2 (by unfold N4a;rw[if_neg (λh=>hall h.2.2)]) (by decide));have hf:a.ents.all w3a=false:=by simpa using hall
  rw[hf] at CC;have CC1:Hid (∀w',Below w.heap.size w w'->Calls Tryz.prog 150 #[.slice M1 M2 M3,.func (.func 151) #[] #[]] w' λe w2=>e=.returned (.bool true)/\Below w'.heap.size w' w2):=CC.out;clear hnm hM ka hT hc CT ZW HE hall hf CC;go_enter Tryz.func90,Tryz.ntmps90;go_wp2_with(first
   | ((with_reducible refine sN 3 ?_);refine f0a rfl _ (.tmp 1) rfl cs rfl ?_;intro z w1 hz1 hz2 Z1 L1;obtain⟨c1,c2,c3,c4,c5,c6,c7⟩:=FL.out _ _ Z1.out)
   | ((with_reducible refine sN 8 ?_);refine e0a rfl _ (.tmp 3) rfl z rfl _ cs Z1 20 _ Tryz.underlying39 rfl s0a HL ?_)
   | fail)
  refine(CN.out w1 L1.out).mono ?_;rintro e w2 ⟨rfl,L2⟩;obtain⟨d1,d2,d3,d4,d5,d6,d7⟩:=FL.out _ _ (Z1.out.over L2);have L22:=hI (step L1.out L2);clear L2;go_wp2_with fail;refine(CC1.out w2 L22.out).mono ?_;rintro e w3 ⟨rfl,L3⟩;have L33:=hI (step L22.out L3);clear L3;go_wp2;go_ret2;exact HQ.out _ _ rfl L33.out
 rw[hall] at CC;have CC1:Hid (∀w',Below w.heap.size w w'->Calls Tryz.prog 150 #[.slice M1 M2 M3,.func (.func 151) #[] #[]] w' λe w2=>e=.returned (.bool false)/\Below w'.heap.size w' w2):=CC.out;clear CC;by_cases hlen:a.ents.length<=64;rotate_left
 ·have HQ:=hI (HE.out 3 (by unfold N4a;rw[if_pos ⟨hnm,hkd,hall⟩,if_neg hlen]) (by decide));have q2:(64:Int)<(M2:Int):=by omega
  clear hnm hM ka hT hc CT ZW HE hall;go_enter Tryz.func90,Tryz.ntmps90;go_wp2_with(first
   | ((with_reducible refine sN 3 ?_);refine f0a rfl _ (.tmp 1) rfl cs rfl ?_;intro z w1 hz1 hz2 Z1 L1;obtain⟨c1,c2,c3,c4,c5,c6,c7⟩:=FL.out _ _ Z1.out)
   | ((with_reducible refine sN 8 ?_);refine e0a rfl _ (.tmp 3) rfl z rfl _ cs Z1 20 _ Tryz.underlying39 rfl s0a HL ?_)
   | fail)
  refine(CN.out w1 L1.out).mono ?_;rintro e w2 ⟨rfl,L2⟩;obtain⟨d1,d2,d3,d4,d5,d6,d7⟩:=FL.out _ _ (Z1.out.over L2);have Z2:=hI (Z1.out.over L2);have L22:=hI (step L1.out L2);clear L2;go_wp2_with fail;refine(CC1.out w2 L22.out).mono ?_;rintro e w3 ⟨rfl,L3⟩;obtain⟨e1,e2,e3,e4,e5,e6,e7⟩:=FL.out _ _ (Z2.out.over L3);have L33:=hI (step L22.out L3);clear L3;go_wp2;go_ret2;exact HQ.out _ _ rfl L33.out
 have q2:¬(64:Int)<(M2:Int):=by omega
 have hml64:M2<=64:=by omega
 have hin:∀e∈a.ents,u1c e:=λe he=>⟨hents e he,List.all_eq_true.1 hall e he,hn2 e he⟩
 have hk:G5a c=true:=by unfold L3a at hnm;simp only[Bool.and_eq_true] at hnm;exact hnm.1
 have hpos:L3a c a=true/\a.kind<=2/\a.ents.all w3a=true:=⟨hnm,hkd,hall⟩;have hw1:IntKind.u64.wrap (M2:Int)=(M2:Int):=by rw[IntKind.wrap_u64];omega
 have hw2:IntKind.u64.wrap a.kind=a.kind:=by rw[IntKind.wrap_u64];omega
 obtain⟨b10,b11⟩:=b1;obtain⟨b20,b21⟩:=b2;obtain⟨b30,b31⟩:=b3;obtain⟨b50,b51⟩:=b5;have bf:0<=a.file/\a.file<=18446744073709551615:=⟨b30,b31⟩;have bs:0<=a.siz/\a.siz<=18446744073709551615:=⟨b10,b11⟩;have bk:0<=a.kind/\a.kind<=65535:=by omega
 have bl:0<=a.lev/\a.lev<=255:=⟨b50,b51⟩;have bn:0<=(M2:Int)/\(M2:Int)<=65535:=by omega
 have bo:0<=V0a a.more/\V0a a.more<=65535:=by have:=T8a a.more;omega
 have bg:0<=V0a a.gone/\V0a a.gone<=65535:=by have:=T8a a.gone;omega
 clear HE;go_enter Tryz.func90,Tryz.ntmps90;go_wp2_with(first
  | ((with_reducible refine sN 3 ?_);refine f0a rfl _ (.tmp 1) rfl cs rfl ?_;intro z w1 hz1 hz2 Z1 L1;obtain⟨c1,c2,c3,c4,c5,c6,c7⟩:=FL.out _ _ Z1.out)
  | ((with_reducible refine sN 8 ?_);refine e0a rfl _ (.tmp 3) rfl z rfl _ cs Z1 20 _ Tryz.underlying39 rfl s0a HL ?_)
  | fail)
 refine(CN.out w1 L1.out).mono ?_;rintro e w2 ⟨rfl,L2⟩;obtain⟨d1,d2,d3,d4,d5,d6,d7⟩:=FL.out _ _ (Z1.out.over L2);have Z2:=hI (Z1.out.over L2);have L22:=hI (step L1.out L2);clear L2 Z1 L1 CN c1 c2 c3 c4 c5 c6 c7;go_wp2_with fail;refine(CC1.out w2 L22.out).mono ?_;rintro e w3 ⟨rfl,L3⟩;have Z3:=hI (Z2.out.over L3);have L33:=hI (step L22.out L3);have hzs:z<w3.heap.size:=Z3.out.lt;clear L3 Z2 L22 CC1 d1 d2 d3 d4 d5 d6 d7;have hws:=L33.out.size;obtain⟨f1,f2,f3,f4,f5,f6,f7⟩:=FL.out _ _ Z3.out;go_upto_if 26 with(first
  | ((with_reducible refine sN 6 ?_);refine a0a rfl _ rfl _ _ ZW ?_;intro g u0 hg1 hg2 G0 N0;have hzg:z≠g:=(by omega);have Z0:=hI (Z3.out.over N0.out);have K0:Hid (j1a g w.heap.size w u0):=(j1a.of_below (L33.out.trans (N0.out.mono hws)) (Nat.le_refl _));have V0:Hid (WI u0 g w.heap.size [] 0):=⟨by omega,_,G0.out,X0a.nil _ _ _ _⟩;clear f1 f2 f3 f4 f5 f6 f7;obtain⟨f1,f2,f3,f4,f5,f6,f7⟩:=FL.out _ _ Z0.out)
  | fail)
 rcases j4a hk with h14 | h16 | h17 | h18
 subst h14;have D1:Hid (∀(w':World) (g:Nat),WI w' g w.heap.size ([]) (0)->Calls Tryz.prog 135 #[.pointer (some ⟨g,0,none⟩),.int .u64 (M2:Int)] w' λe w2=>e=.returned (.tuple #[])/\WI w2 g w.heap.size ([]++le (M2:Int) 2) (0)/\j1a g w.heap.size w' w2):=λw' g h=>k4a w' g _ _ _ (M2:Int) h bn (by simp only[List.length_append,g0a,List.length_replicate,List.length_nil];omega)
 have D2:Hid (∀(w':World) (g:Nat),WI w' g w.heap.size ([]++le (M2:Int) 2) (0)->Calls Tryz.prog 135 #[.pointer (some ⟨g,0,none⟩),.int .u64 (V0a a.more)] w' λe w2=>e=.returned (.tuple #[])/\WI w2 g w.heap.size ([]++le (M2:Int) 2++le (V0a a.more) 2) (0)/\j1a g w.heap.size w' w2):=λw' g h=>k4a w' g _ _ _ (V0a a.more) h bo (by simp only[List.length_append,g0a,List.length_replicate,List.length_nil];omega)
 have D3:Hid (∀(w':World) (g:Nat),Below w.heap.size w w'->M6a w.heap.size w'->WI w' g w.heap.size ([]++le (M2:Int) 2++le (V0a a.more) 2) (0)->Calls Tryz.prog 152 #[.pointer (some ⟨g,0,none⟩),.slice M1 M2 M3] w' λe w2=>e=.returned (.tuple #[])/\WI w2 g w.heap.size ([]++le (M2:Int) 2++le (V0a a.more) 2++W0a a.ents) (w1a a.ents)/\j1a g w.heap.size w' w2):=λw' g hb ht h=>y4b w' g _ _ M1 M2 M3 a.ents h (hM.below hb) hml64 hin ht (by simp only[List.length_append,g0a,List.length_replicate,List.length_nil];omega)
 have DE:Hid (∀(w':World) (g:Nat),WI w' g w.heap.size ([]++le (M2:Int) 2++le (V0a a.more) 2++W0a a.ents) (w1a a.ents)->Calls Tryz.prog 140 #[.pointer (some ⟨g,0,none⟩)] w' λe w2=>∃v,e=.returned (.tuple #[v,.int .i64 (w1a a.ents)])/\X0a .u8 5 w2 w.heap.size v (if (w1a a.ents)=0 then []++le (M2:Int) 2++le (V0a a.more) 2++W0a a.ents else [])/\Below w'.heap.size w' w2):=λw' g h=>l4a w' g w.heap.size _ _ h
 have hbd:[]++le (M2:Int) 2++le (V0a a.more) 2++W0a a.ents=e3a 14 a:=by unfold e3a;rw[if_pos rfl,hml];simp only[List.nil_append,List.append_assoc]
 have her:N4a 14 a=(w1a a.ents):=by unfold N4a;rw[if_pos hpos,if_pos hlen,if_pos rfl]
 have HQ:Hid (∀(v:Value) (e:Ending) (w':World),e=.returned (.tuple #[v,.int .i64 (w1a a.ents)])->X0a .u8 5 w' w.heap.size v (if (w1a a.ents)=0 then []++le (M2:Int) 2++le (V0a a.more) 2++W0a a.ents else [])->Below w.heap.size w w'->Z5a w 14 a e w'):=by intro v e w' h1 h2 h3;refine⟨v,by rw[her];exact h1,?_,h3⟩;unfold A1b;rw[her,<-hbd];exact h2
 obtain⟨y3,hy3⟩:∃y:List Int,y=[]++le (M2:Int) 2++le (V0a a.more) 2++W0a a.ents:=⟨_,rfl⟩;rw[<-hy3] at D3 DE HQ;obtain⟨y2,hy2⟩:∃y:List Int,y=[]++le (M2:Int) 2++le (V0a a.more) 2:=⟨_,rfl⟩;rw[<-hy2] at D2 D3;obtain⟨y1,hy1⟩:∃y:List Int,y=[]++le (M2:Int) 2:=⟨_,rfl⟩;rw[<-hy1] at D1 D2;obtain⟨er3,her3⟩:∃y:Int,y=(w1a a.ents):=⟨_,rfl⟩;try rw[<-her3] at D3
 try rw[<-her3] at DE
 try rw[<-her3] at HQ
 clear her3;clear hy1;clear hy2;clear hy3;clear hk hnm hpos hall hkd her hbd ka hT hc hin hents hn2;have F1:=hI (D1.out _ _ V0.out);go_wp2_with fail;refine F1.out.mono ?_;rintro e u1 ⟨rfl,p1,p2⟩;have V1:=hI p1;have K1:=hI (K0.out.trans p2);have Z1:=hI (p2.blk Z0.out (by decide) hzg);obtain⟨g1_1,g1_2,g1_3,g1_4,g1_5,g1_6,g1_7⟩:=FL.out _ _ Z1.out;clear p1 p2 F1 V0;go_wp2_with fail;refine(CT.out _ _).mono ?_;rintro e wt ⟨rfl,rfl⟩;have F2:=hI (D2.out _ _ V1.out);go_wp2_with fail;refine F2.out.mono ?_;rintro e u2 ⟨rfl,p1,p2⟩;have V2:=hI p1;have K2:=hI (K1.out.trans p2);have Z2:=hI (p2.blk Z1.out (by decide) hzg);obtain⟨g2_1,g2_2,g2_3,g2_4,g2_5,g2_6,g2_7⟩:=FL.out _ _ Z2.out;clear p1 p2 F2 V1;have F3:=hI (D3.out _ _ (K2.out.below) (HT.out.next K2.out.below) V2.out);go_wp2_with fail;refine F3.out.mono ?_;rintro e u3 ⟨rfl,p1,p2⟩;have Vz:=hI p1;have Kz:=hI (K2.out.trans p2);clear p1 p2 F3 V2;rotate_left;subst h16;have D1:Hid (∀(w':World) (g:Nat),WI w' g w.heap.size ([]) (0)->Calls Tryz.prog 134 #[.pointer (some ⟨g,0,none⟩),.int .u64 a.siz] w' λe w2=>e=.returned (.tuple #[])/\WI w2 g w.heap.size ([]++le a.siz 8) (0)/\j1a g w.heap.size w' w2):=λw' g h=>G3a w' g _ _ _ a.siz h bs (by simp only[List.length_append,g0a,List.length_replicate,List.length_nil];omega)
 have D2:Hid (∀(w':World) (g:Nat),WI w' g w.heap.size ([]++le a.siz 8) (0)->Calls Tryz.prog 135 #[.pointer (some ⟨g,0,none⟩),.int .u64 a.kind] w' λe w2=>e=.returned (.tuple #[])/\WI w2 g w.heap.size ([]++le a.siz 8++le a.kind 2) (0)/\j1a g w.heap.size w' w2):=λw' g h=>k4a w' g _ _ _ a.kind h bk (by simp only[List.length_append,g0a,List.length_replicate,List.length_nil];omega)
 have D3:Hid (∀(w':World) (g:Nat),WI w' g w.heap.size ([]++le a.siz 8++le a.kind 2) (0)->Calls Tryz.prog 135 #[.pointer (some ⟨g,0,none⟩),.int .u64 (V0a a.gone)] w' λe w2=>e=.returned (.tuple #[])/\WI w2 g w.heap.size ([]++le a.siz 8++le a.kind 2++le (V0a a.gone) 2) (0)/\j1a g w.heap.size w' w2):=λw' g h=>k4a w' g _ _ _ (V0a a.gone) h bg (by simp only[List.length_append,g0a,List.length_replicate,List.length_nil];omega)
 have DE:Hid (∀(w':World) (g:Nat),WI w' g w.heap.size ([]++le a.siz 8++le a.kind 2++le (V0a a.gone) 2) 0->Calls Tryz.prog 140 #[.pointer (some ⟨g,0,none⟩)] w' λe w2=>∃v,e=.returned (.tuple #[v,.int .i64 0])/\X0a .u8 5 w2 w.heap.size v (if 0=0 then []++le a.siz 8++le a.kind 2++le (V0a a.gone) 2 else [])/\Below w'.heap.size w' w2):=λw' g h=>l4a w' g w.heap.size _ _ h
 have hbd:[]++le a.siz 8++le a.kind 2++le (V0a a.gone) 2=e3a 16 a:=by unfold e3a;rw[if_neg (by decide),if_pos rfl];simp only[List.nil_append,List.append_assoc]
 have her:N4a 16 a=0:=by unfold N4a;rw[if_pos hpos,if_pos hlen,if_neg (by decide)]
 have HQ:Hid (∀(v:Value) (e:Ending) (w':World),e=.returned (.tuple #[v,.int .i64 0])->X0a .u8 5 w' w.heap.size v (if 0=0 then []++le a.siz 8++le a.kind 2++le (V0a a.gone) 2 else [])->Below w.heap.size w w'->Z5a w 16 a e w'):=by intro v e w' h1 h2 h3;refine⟨v,by rw[her];exact h1,?_,h3⟩;unfold A1b;rw[her,<-hbd];exact h2
 obtain⟨y3,hy3⟩:∃y:List Int,y=[]++le a.siz 8++le a.kind 2++le (V0a a.gone) 2:=⟨_,rfl⟩;rw[<-hy3] at D3 DE HQ;obtain⟨y2,hy2⟩:∃y:List Int,y=[]++le a.siz 8++le a.kind 2:=⟨_,rfl⟩;rw[<-hy2] at D2 D3;obtain⟨y1,hy1⟩:∃y:List Int,y=[]++le a.siz 8:=⟨_,rfl⟩;rw[<-hy1] at D1 D2;clear hy1;clear hy2;clear hy3;clear hk hnm hpos hall hkd her hbd ka hT hc hin hents hn2;have F1:=hI (D1.out _ _ V0.out);go_wp2_with fail;refine F1.out.mono ?_;rintro e u1 ⟨rfl,p1,p2⟩;have V1:=hI p1;have K1:=hI (K0.out.trans p2);have Z1:=hI (p2.blk Z0.out (by decide) hzg);obtain⟨g1_1,g1_2,g1_3,g1_4,g1_5,g1_6,g1_7⟩:=FL.out _ _ Z1.out;clear p1 p2 F1 V0;have F2:=hI (D2.out _ _ V1.out);go_wp2_with fail;refine F2.out.mono ?_;rintro e u2 ⟨rfl,p1,p2⟩;have V2:=hI p1;have K2:=hI (K1.out.trans p2);have Z2:=hI (p2.blk Z1.out (by decide) hzg);obtain⟨g2_1,g2_2,g2_3,g2_4,g2_5,g2_6,g2_7⟩:=FL.out _ _ Z2.out;clear p1 p2 F2 V1;go_wp2_with fail;refine(CT.out _ _).mono ?_;rintro e wt ⟨rfl,rfl⟩;have F3:=hI (D3.out _ _ V2.out);go_wp2_with fail;refine F3.out.mono ?_;rintro e u3 ⟨rfl,p1,p2⟩;have Vz:=hI p1;have Kz:=hI (K2.out.trans p2);clear p1 p2 F3 V2;rotate_left;subst h17;have D1:Hid (∀(w':World) (g:Nat),WI w' g w.heap.size ([]) (0)->Calls Tryz.prog 136 #[.pointer (some ⟨g,0,none⟩),.int .i64 4] w' λe w2=>e=.returned (.tuple #[])/\WI w2 g w.heap.size ([]++List.replicate 4 0) (0)/\j1a g w.heap.size w' w2):=λw' g h=>o5a w' g _ _ _ 4 h (by decide) (by decide) (by simp only[List.length_append,g0a,List.length_replicate,List.length_nil];omega)
 have DE:Hid (∀(w':World) (g:Nat),WI w' g w.heap.size ([]++List.replicate 4 0) 0->Calls Tryz.prog 140 #[.pointer (some ⟨g,0,none⟩)] w' λe w2=>∃v,e=.returned (.tuple #[v,.int .i64 0])/\X0a .u8 5 w2 w.heap.size v (if 0=0 then []++List.replicate 4 0 else [])/\Below w'.heap.size w' w2):=λw' g h=>l4a w' g w.heap.size _ _ h
 have hbd:[]++List.replicate 4 0=e3a 17 a:=by unfold e3a;rw[if_neg (by decide),if_neg (by decide),if_neg (by decide),List.nil_append]
 have her:N4a 17 a=0:=by unfold N4a;rw[if_pos hpos,if_pos hlen,if_neg (by decide)]
 have HQ:Hid (∀(v:Value) (e:Ending) (w':World),e=.returned (.tuple #[v,.int .i64 0])->X0a .u8 5 w' w.heap.size v (if 0=0 then []++List.replicate 4 0 else [])->Below w.heap.size w w'->Z5a w 17 a e w'):=by intro v e w' h1 h2 h3;refine⟨v,by rw[her];exact h1,?_,h3⟩;unfold A1b;rw[her,<-hbd];exact h2
 obtain⟨y1,hy1⟩:∃y:List Int,y=[]++List.replicate 4 0:=⟨_,rfl⟩;rw[<-hy1] at D1 DE HQ;clear hy1;clear hk hnm hpos hall hkd her hbd ka hT hc hin hents hn2;have F1:=hI (D1.out _ _ V0.out);go_wp2_with fail;refine F1.out.mono ?_;rintro e u1 ⟨rfl,p1,p2⟩;have Vz:=hI p1;have Kz:=hI (K0.out.trans p2);clear p1 p2 F1 V0;rotate_left;subst h18;have D1:Hid (∀(w':World) (g:Nat),WI w' g w.heap.size ([]) (0)->Calls Tryz.prog 139 #[.pointer (some ⟨g,0,none⟩),.int .u64 a.file,.int .u8 a.lev] w' λe w2=>e=.returned (.tuple #[])/\WI w2 g w.heap.size ([]++(le a.file 8++(le a.lev 1++List.replicate 3 0))) (0)/\j1a g w.heap.size w' w2):=λw' g h=>J2b w' g _ _ _ a.file a.lev h bf bl (by simp only[List.length_append,g0a,List.length_replicate,List.length_nil];omega)
 have DE:Hid (∀(w':World) (g:Nat),WI w' g w.heap.size ([]++(le a.file 8++(le a.lev 1++List.replicate 3 0))) 0->Calls Tryz.prog 140 #[.pointer (some ⟨g,0,none⟩)] w' λe w2=>∃v,e=.returned (.tuple #[v,.int .i64 0])/\X0a .u8 5 w2 w.heap.size v (if 0=0 then []++(le a.file 8++(le a.lev 1++List.replicate 3 0)) else [])/\Below w'.heap.size w' w2):=λw' g h=>l4a w' g w.heap.size _ _ h
 have hbd:[]++(le a.file 8++(le a.lev 1++List.replicate 3 0))=e3a 18 a:=by unfold e3a;rw[if_neg (by decide),if_neg (by decide),if_pos rfl,List.nil_append]
 have her:N4a 18 a=0:=by unfold N4a;rw[if_pos hpos,if_pos hlen,if_neg (by decide)]
 have HQ:Hid (∀(v:Value) (e:Ending) (w':World),e=.returned (.tuple #[v,.int .i64 0])->X0a .u8 5 w' w.heap.size v (if 0=0 then []++(le a.file 8++(le a.lev 1++List.replicate 3 0)) else [])->Below w.heap.size w w'->Z5a w 18 a e w'):=by intro v e w' h1 h2 h3;refine⟨v,by rw[her];exact h1,?_,h3⟩;unfold A1b;rw[her,<-hbd];exact h2
 obtain⟨y1,hy1⟩:∃y:List Int,y=[]++(le a.file 8++(le a.lev 1++List.replicate 3 0)):=⟨_,rfl⟩;rw[<-hy1] at D1 DE HQ;clear hy1;clear hk hnm hpos hall hkd her hbd ka hT hc hin hents hn2;have F1:=hI (D1.out _ _ V0.out);go_wp2_with fail;refine F1.out.mono ?_;rintro e u1 ⟨rfl,p1,p2⟩;have Vz:=hI p1;have Kz:=hI (K0.out.trans p2);clear p1 p2 F1 V0;rotate_left;all_goals
  have FE:=hI (DE.out _ _ Vz.out);go_wp2_with fail;refine FE.out.mono ?_;rintro e ue ⟨v,rfl,p1,p2⟩;have OE:=hI p1;have LE:=hI (Kz.out.below.trans (p2.mono (by have:=Kz.out.below.size;omega)));clear p1 p2 FE;go_wp2;go_ret2;exact HQ.out _ _ _ rfl OE.out LE.out
theorem n8a(g:Nat)(w:World):(Instr.fieldAt 166 (.pointer (some ⟨g,0,none⟩)) 0).run Tryz.prog w=.ok (.pointer (some ⟨g,0,none⟩)) w:=by go_simp
theorem o8a(g:Nat)(w:World):(Instr.fieldAt 166 (.pointer (some ⟨g,0,none⟩)) 1).run Tryz.prog w=.ok (.pointer (some ⟨g,1,none⟩)) w:=by go_simp
def PI(w:World)(g B:Nat)(A:Option Addr)(n c:Nat)(xs:List Int)(r:Rd):Prop:=r.p<=n/\B<=g/\Blk w g 166 [.slice A n c,.int .i64 r.p,.int .i64 r.e]/\Holds w B A n c xs
def n3a(w:World)(g B:Nat)(A:Option Addr)(n c:Nat)(xs:List Int)(v:Value)(r:Rd)(e:Ending)(w':World):Prop:=e=.returned v/\PI w' g B A n c xs r/\Q0a g w w'
section
variable {w w':World} {g g' B:Nat} {A:Option Addr} {n c:Nat} {xs:List Int} {r:Rd} {p:Nat} {er:Int}
theorem PI.lt(h:PI w g B A n c xs r):g<w.heap.size:=h.2.2.1.lt
theorem PI.c0(h:PI w g B A n c xs r):w.cell? ⟨g,0,none⟩=some (.slice A n c):=h.2.2.1.at rfl
theorem PI.c1(h:PI w g B A n c xs ⟨p,er⟩):w.cell? ⟨g,1,none⟩=some (.int .i64 (p:Int)):=h.2.2.1.at rfl
theorem PI.c2(h:PI w g B A n c xs ⟨p,er⟩):w.cell? ⟨g,2,none⟩=some (.int .i64 er):=h.2.2.1.at rfl
theorem PI.fz(h:PI w g B A n c xs r)(i:Nat):w.frozen? ⟨g,i,none⟩=false:=h.2.2.1.frozen i
theorem PI.setE(h:PI w g B A n c xs ⟨p,er⟩)(x:Int):PI (w.setCell ⟨g,2,none⟩ (.int .i64 x)) g B A n c xs ⟨p,x⟩:=⟨h.1,h.2.1,h.2.2.1.set 2 _,h.2.2.2.only (g1a w g 2 _) h.2.1⟩
theorem PI.setP(h:PI w g B A n c xs ⟨p,er⟩)(q:Nat)(hq:q<=n):PI (w.setCell ⟨g,1,none⟩ (.int .i64 (q:Int))) g B A n c xs ⟨q,er⟩:=⟨hq,h.2.1,h.2.2.1.set 1 _,h.2.2.2.only (g1a w g 1 _) h.2.1⟩
theorem PI.drewN(h:PI w g B A n c xs r)(k:Nat):PI (w.drewN k) g B A n c xs r:=⟨h.1,h.2.1,h.2.2.1.drewN k,h.2.2.2.drewN k⟩
theorem PI.drew(h:PI w g B A n c xs r):PI w.drew g B A n c xs r:=⟨h.1,h.2.1,h.2.2.1.drew,h.2.2.2.drew⟩
theorem PI.below(h:PI w g B A n c xs r)(hb:Below w.heap.size w w'):PI w' g B A n c xs r:=by have hlt:=h.lt;exact⟨h.1,h.2.1,h.2.2.1.over hb,h.2.2.2.below (hb.mono (by have:=h.2.1;omega))⟩
theorem PI.only(h:PI w g B A n c xs r)(hO:T1a g' w w')(hg:g≠g')(hb:B<=g'):PI w' g B A n c xs r:=⟨h.1,h.2.1,h.2.2.1.only hO hg,h.2.2.2.only hO hb⟩
theorem z2c{s:Nat}(h:¬r.e=0):rdN xs s r=(0,r):=by unfold rdN;rw[if_neg h]
theorem A2c{s:Nat}(h:¬(rdN xs s r).2.e=0):(rdN xs s r).1=0:=by
 unfold rdN at h⊢;by_cases h1:r.e=0
 ·rw[if_pos h1] at h⊢;by_cases h2:xs.length<r.p+s
  ·rw[if_pos h2]
  ·rw[if_neg h2] at h;exact absurd rfl h
 ·rw[if_neg h1]
end
theorem a5a(w:World)(g B:Nat)(A:Option Addr)(n c:Nat)(xs:List Int)(r:Rd)(x:Int)(hP:PI w g B A n c xs r) :
  Calls Tryz.prog 146 #[.pointer (some ⟨g,0,none⟩),.int .i64 x] w (n3a w g B A n c xs (.tuple #[]) (V2a x r)):=by
 obtain⟨p,er⟩:=r;have HP:=hI hP;have c2:=hP.c2;have f2:=hP.fz 2;by_cases he:er=0
 ·subst he;have HQ:Hid (∀e w',(e=.returned (.tuple #[])/\PI w' g B A n c xs ⟨p,x⟩/\Q0a g w w')->n3a w g B A n c xs (.tuple #[]) (V2a x ⟨p,0⟩) e w'):=λ_ _ h=>h
  clear hP;go_enter Tryz.func146,Tryz.ntmps146;go_wp2;go_end0;exact HQ.out _ _ ⟨rfl,HP.out.setE x,(Q0a.refl g w).setCell 2 _⟩
 ·have HQ:Hid (∀e w',(e=.returned (.tuple #[])/\PI w' g B A n c xs ⟨p,er⟩/\Q0a g w w')->n3a w g B A n c xs (.tuple #[]) (V2a x ⟨p,er⟩) e w'):=by intro e w' h;unfold V2a;rw[if_neg he];exact h
  have hne:(er==0)=false:=by simpa using he
  clear hP he;go_enter Tryz.func146,Tryz.ntmps146;go_wp2;go_end0;exact HQ.out _ _ ⟨rfl,HP.out,Q0a.refl g w⟩
theorem D0b(w:World)(g B:Nat)(A:Option Addr)(n c:Nat)(xs:List Int)(r:Rd)(s:Nat)(hP:PI w g B A n c xs r)(hs:j3a (s:Int)=true) :
  Calls Tryz.prog 173 #[.pointer (some ⟨g,0,none⟩),.int .i64 (s:Int)] w (n3a w g B A n c xs (.int .u64 (rdN xs s r).1) (rdN xs s r).2):=by
 obtain⟨p,er⟩:=r;have hs8:1<=s/\s<=8:=by rcases Q1a hs with h | h | h | h<;>omega
 obtain⟨hs1,hs8⟩:=hs8;have HP:=hI hP;have hl:=hP.2.2.2.len;have hrm:=hP.2.2.2.room;have hp:p<=n:=hP.1;have c0:=hP.c0;have c1:=hP.c1;have CG:Hid (∀k:Nat,Calls Tryz.prog 102 #[.slice A n c,.int .i64 (p:Int),.int .i64 (s:Int)] (w.drewN k) λe w'=>e=.returned (.tuple #[.int .u64 (r4a xs (p:Int) (s:Int)),.int .i64 (j2a n (p:Int) (s:Int))])/\w.drewN k=w'):=λk=>c8a (w.drewN k) B A n c xs (p:Int) (s:Int) (hP.2.2.2.drewN k) (by omega) (by omega)
 have CF:Hid (∀(w':World) (x:Int),PI w' g B A n c xs ⟨p,er⟩->Calls Tryz.prog 146 #[.pointer (some ⟨g,0,none⟩),.int .i64 x] w' λe w2=>e=.returned (.tuple #[])/\PI w2 g B A n c xs (V2a x ⟨p,er⟩)/\Q0a g w' w2):=λw' x h=>a5a w' g B A n c xs ⟨p,er⟩ x h
 by_cases he:er=0;rotate_left
 ·have HQ:Hid (∀e w',(e=.returned (.int .u64 0)/\PI w' g B A n c xs ⟨p,er⟩/\Q0a g w w')->n3a w g B A n c xs (.int .u64 (rdN xs s ⟨p,er⟩).1) (rdN xs s ⟨p,er⟩).2 e w'):=by intro e w' h;rw[z2c he];exact h
  have hrf:∀x,V2a x ⟨p,er⟩=⟨p,er⟩:=λx=>by unfold V2a;rw[if_neg he]
  simp only[hrf] at CF;obtain⟨z,hz⟩:∃z,z=r4a xs (p:Int) (s:Int):=⟨_,rfl⟩;obtain⟨ze,hze⟩:∃z,z=j2a n (p:Int) (s:Int):=⟨_,rfl⟩;rw[<-hz,<-hze] at CG;have hne:(er != 0)=true:=by simpa using he
  clear hP hl he hrf hz hze hs;go_enter Tryz.func173,Tryz.ntmps173;go_wp2;go_quiet ((go_at_call 102;((with_reducible exact k1b (CG.out _)))));have CF1:=hI (CF.out _ ze (HP.out.drewN nq));clear CF CG;go_wp2_with fail;refine CF1.out.mono ?_;rintro e w1 ⟨rfl,hP1,hS1⟩;have d2:=hP1.c2;have HP1:=hI hP1;have HS1:=hI ((E3a g w nq).trans hS1);clear hP1 hS1 CF1;go_wp2;go_ret;exact HQ.out _ _ ⟨rfl,HP1.out,HS1.out⟩
 subst he;by_cases hr:n<p+s
 ·have HQ:Hid (∀e w',(e=.returned (.int .u64 0)/\PI w' g B A n c xs ⟨p,4⟩/\Q0a g w w')->n3a w g B A n c xs (.int .u64 (rdN xs s ⟨p,0⟩).1) (rdN xs s ⟨p,0⟩).2 e w'):=by intro e w' h;rw[Z7b rfl (by rw[hl];exact hr)];exact h
  have e1:j2a n (p:Int) (s:Int)=4:=by unfold j2a R0a;rw[if_pos hs,if_neg (by omega),if_pos (by omega)]
  rw[e1] at CG;have CF1:Hid (∀w':World,PI w' g B A n c xs ⟨p,0⟩->Calls Tryz.prog 146 #[.pointer (some ⟨g,0,none⟩),.int .i64 4] w' λe w2=>e=.returned (.tuple #[])/\PI w2 g B A n c xs ⟨p,4⟩/\Q0a g w' w2):=λw' h=>CF.out w' 4 h
  obtain⟨z,hz⟩:∃z,z=r4a xs (p:Int) (s:Int):=⟨_,rfl⟩;rw[<-hz] at CG;clear hP hl hz hs CF e1;go_enter Tryz.func173,Tryz.ntmps173;go_wp2;go_quiet ((go_at_call 102;((with_reducible exact k1b (CG.out _)))));have CF2:=hI (CF1.out _ (HP.out.drewN nq));clear CF1 CG;go_wp2_with fail;refine CF2.out.mono ?_;rintro e w1 ⟨rfl,hP1,hS1⟩;have d2:=hP1.c2;have HP1:=hI hP1;have HS1:=hI ((E3a g w nq).trans hS1);clear hP1 hS1 CF2;go_wp2;go_ret;exact HQ.out _ _ ⟨rfl,HP1.out,HS1.out⟩
 ·have HQ:Hid (∀e w',(e=.returned (.int .u64 (Z0a xs p s))/\PI w' g B A n c xs ⟨p+s,0⟩/\Q0a g w w')->n3a w g B A n c xs (.int .u64 (rdN xs s ⟨p,0⟩).1) (rdN xs s ⟨p,0⟩).2 e w'):=by intro e w' h;rw[O5b rfl (by rw[hl];exact hr)];exact h
  have e1:j2a n (p:Int) (s:Int)=0:=by unfold j2a R0a;rw[if_pos hs,if_neg (by omega),if_neg (by omega)]
  have e2:r4a xs (p:Int) (s:Int)=Z0a xs p s:=by unfold r4a Z0a;rw[hl,e1,if_pos rfl,Int.toNat_natCast,Int.toNat_natCast]
  rw[e1,e2] at CG;have CF1:Hid (∀w':World,PI w' g B A n c xs ⟨p,0⟩->Calls Tryz.prog 146 #[.pointer (some ⟨g,0,none⟩),.int .i64 0] w' λe w2=>e=.returned (.tuple #[])/\PI w2 g B A n c xs ⟨p,0⟩/\Q0a g w' w2):=λw' h=>CF.out w' 0 h
  obtain⟨z,hz⟩:∃z,z=Z0a xs p s:=⟨_,rfl⟩;rw[<-hz] at CG HQ;have HSP:Hid (∀w1:World,PI w1 g B A n c xs ⟨p,0⟩->PI (w1.setCell ⟨g,1,none⟩ (.int .i64 ((p:Int)+s))) g B A n c xs ⟨p+s,0⟩):=λw1 h=>h.setP (p+s) (by omega)
  clear hP hl hz hs CF e1 e2;go_enter Tryz.func173,Tryz.ntmps173;go_wp2;go_quiet ((go_at_call 102;((with_reducible exact k1b (CG.out _)))));have CF2:=hI (CF1.out _ (HP.out.drewN nq));clear CF1 CG;go_wp2_with fail;refine CF2.out.mono ?_;rintro e w1 ⟨rfl,hP1,hS1⟩;have d1:=hP1.c1;have d2:=hP1.c2;have f1:=hP1.fz 1;have HP1:=hI (HSP.out w1 hP1);have HS1:=hI ((E3a g w nq).trans hS1);clear hP1 hS1 CF2 HSP;go_wp2;go_ret;exact HQ.out _ _ ⟨rfl,HP1.out,HS1.out.setCell 1 _⟩
theorem w7a(w:World)(g B:Nat)(A:Option Addr)(n c:Nat)(xs:List Int)(r:Rd)(hx:Bytes xs)(hP:PI w g B A n c xs r) :
  Calls Tryz.prog 142 #[.pointer (some ⟨g,0,none⟩)] w (n3a w g B A n c xs (.int .u16 (rdN xs 2 r).1) (rdN xs 2 r).2):=by
 have C1:=hI (D0b w g B A n c xs r 2 hP (by decide));have hb:=P4a hx 2 r 65536 (by decide) (by decide);have HQ:Hid (∀e w',(e=.returned (.int .u16 (rdN xs 2 r).1)/\PI w' g B A n c xs (rdN xs 2 r).2/\Q0a g w w')->n3a w g B A n c xs (.int .u16 (rdN xs 2 r).1) (rdN xs 2 r).2 e w'):=λ_ _ h=>h
 unfold n3a at C1;obtain⟨q,hq⟩:∃q,q=rdN xs 2 r:=⟨_,rfl⟩;rw[<-hq] at C1 HQ hb⊢;obtain⟨z,p⟩:=q;change 0<=z/\z<=_ at hb
 obtain⟨hb0,hb1⟩:=hb;have hz:IntKind.u16.wrap z=z:=by rw[IntKind.wrap_u16];omega
 clear hq hP;go_enter Tryz.func142,Tryz.ntmps142;go_wp2_with fail;refine C1.out.mono ?_;rintro e w1 ⟨rfl,hP1,hS1⟩;have HP1:=hI hP1;have HS1:=hI hS1;clear hP1 hS1;go_wp2;go_ret;exact HQ.out _ _ ⟨rfl,HP1.out,HS1.out⟩
theorem b3a(w:World)(g B:Nat)(A:Option Addr)(n c:Nat)(xs:List Int)(r:Rd)(hx:Bytes xs)(hP:PI w g B A n c xs r) :
  Calls Tryz.prog 141 #[.pointer (some ⟨g,0,none⟩)] w (n3a w g B A n c xs (.int .u64 (rdN xs 8 r).1) (rdN xs 8 r).2):=by
 have C1:=hI (D0b w g B A n c xs r 8 hP (by decide));have hb:=P4a hx 8 r 18446744073709551616 (by decide) (by decide);have HQ:Hid (∀e w',(e=.returned (.int .u64 (rdN xs 8 r).1)/\PI w' g B A n c xs (rdN xs 8 r).2/\Q0a g w w')->n3a w g B A n c xs (.int .u64 (rdN xs 8 r).1) (rdN xs 8 r).2 e w'):=λ_ _ h=>h
 unfold n3a at C1;obtain⟨q,hq⟩:∃q,q=rdN xs 8 r:=⟨_,rfl⟩;rw[<-hq] at C1 HQ hb⊢;obtain⟨z,p⟩:=q;change 0<=z/\z<=_ at hb
 obtain⟨hb0,hb1⟩:=hb;have hz:IntKind.u64.wrap z=z:=by rw[IntKind.wrap_u64];omega
 clear hq hP;go_enter Tryz.func141,Tryz.ntmps141;go_wp2_with fail;refine C1.out.mono ?_;rintro e w1 ⟨rfl,hP1,hS1⟩;have HP1:=hI hP1;have HS1:=hI hS1;clear hP1 hS1;go_wp2;go_ret;exact HQ.out _ _ ⟨rfl,HP1.out,HS1.out⟩
theorem E0b(w:World)(g B:Nat)(A:Option Addr)(n c:Nat)(xs:List Int)(r:Rd)(s:Nat)(most er:Int)(hP:PI w g B A n c xs r)(hs:j3a (s:Int)=true)(hm:0<=most) :
  Calls Tryz.prog 153 #[.pointer (some ⟨g,0,none⟩),.int .u64 most,.int .i64 (s:Int),.int .i64 er] w (n3a w g B A n c xs (.int .u64 (b1a xs s most er r).1) (b1a xs s most er r).2):=by
 have C1:=hI (D0b w g B A n c xs r s hP hs);have h0:=A2c (xs:=xs) (s:=s) (r:=r);unfold n3a at C1;have HQ:Hid (∀e w',(e=.returned (.int .u64 (b1a xs s most er r).1)/\PI w' g B A n c xs (b1a xs s most er r).2/\Q0a g w w')->n3a w g B A n c xs (.int .u64 (b1a xs s most er r).1) (b1a xs s most er r).2 e w'):=λ_ _ h=>h
 have hu:b1a xs s most er r=if (rdN xs s r).2.e=0/\most<(rdN xs s r).1 then (0,⟨(rdN xs s r).2.p,er⟩) else rdN xs s r:=rfl
 rw[hu] at HQ⊢;obtain⟨q,hq⟩:∃q,q=rdN xs s r:=⟨_,rfl⟩;rw[<-hq] at C1 HQ h0⊢;obtain⟨z,p,e0⟩:=q;change ¬e0=0->z=0 at h0
 clear hq hP hu hs;by_cases hg:most<z
 ·have he:e0=0:=by
   by_cases he:e0=0
   ·exact he
   ·have:z=0:=h0 he;omega
  subst he;rw[if_pos ⟨rfl,hg⟩] at HQ⊢;have CF:Hid (∀w':World,PI w' g B A n c xs ⟨p,0⟩->Calls Tryz.prog 146 #[.pointer (some ⟨g,0,none⟩),.int .i64 er] w' λe w2=>e=.returned (.tuple #[])/\PI w2 g B A n c xs ⟨p,er⟩/\Q0a g w' w2):=λw' h=>a5a w' g B A n c xs ⟨p,0⟩ er h
  clear h0;go_enter Tryz.func153,Tryz.ntmps153;go_wp2_with fail;refine C1.out.mono ?_;rintro e w1 ⟨rfl,hP1,hS1⟩;have CF1:=hI (CF.out w1 hP1);have HS1:=hI hS1;clear hP1 hS1 CF;go_wp2_with fail;refine CF1.out.mono ?_;rintro e w2 ⟨rfl,hP2,hS2⟩;have HP2:=hI hP2;have HS2:=hI (HS1.out.trans hS2);clear hP2 hS2;go_wp2;go_ret;exact HQ.out _ _ ⟨rfl,HP2.out,HS2.out⟩
 ·rw[if_neg (λh=>hg h.2)] at HQ⊢;clear h0;go_enter Tryz.func153,Tryz.ntmps153;go_wp2_with fail;refine C1.out.mono ?_;rintro e w1 ⟨rfl,hP1,hS1⟩;have HP1:=hI hP1;have HS1:=hI hS1;clear hP1 hS1;go_wp2;go_ret;exact HQ.out _ _ ⟨rfl,HP1.out,HS1.out⟩
theorem x6a(w:World)(g B:Nat)(A:Option Addr)(n c:Nat)(xs:List Int)(r:Rd)(hx:Bytes xs)(hP:PI w g B A n c xs r) :
  Calls Tryz.prog 145 #[.pointer (some ⟨g,0,none⟩)] w (n3a w g B A n c xs (.bool ((rdT xs r).1 != 0)) (rdT xs r).2):=by
 have C1:Hid (Calls Tryz.prog 153 #[.pointer (some ⟨g,0,none⟩),.int .u64 1,.int .i64 2,.int .i64 5] w λe w'=>e=.returned (.int .u64 (rdT xs r).1)/\PI w' g B A n c xs (rdT xs r).2/\Q0a g w w'):=E0b w g B A n c xs r 2 1 5 hP (by decide) (by decide);have hb:=I0c hx r;have HQ:Hid (∀e w',(e=.returned (.bool ((rdT xs r).1 != 0))/\PI w' g B A n c xs (rdT xs r).2/\Q0a g w w')->n3a w g B A n c xs (.bool ((rdT xs r).1 != 0)) (rdT xs r).2 e w'):=λ_ _ h=>h
 obtain⟨q,hq⟩:∃q,q=rdT xs r:=⟨_,rfl⟩;rw[<-hq] at C1 HQ hb⊢;obtain⟨z,p⟩:=q;change 0<=z/\z<=_ at hb
 obtain⟨hb0,hb1⟩:=hb;clear hq hP;go_enter Tryz.func145,Tryz.ntmps145;go_wp2_with fail;refine C1.out.mono ?_;rintro e w1 ⟨rfl,hP1,hS1⟩;have HP1:=hI hP1;have HS1:=hI hS1;clear hP1 hS1;go_wp2;go_ret;exact HQ.out _ _ ⟨rfl,HP1.out,HS1.out⟩
theorem L2b(w:World)(g B:Nat)(A:Option Addr)(n c:Nat)(xs:List Int)(r:Rd)(hx:Bytes xs)(hP:PI w g B A n c xs r) :
  Calls Tryz.prog 155 #[.pointer (some ⟨g,0,none⟩)] w (n3a w g B A n c xs (.int .u8 (rdK xs r).1) (rdK xs r).2):=by
 have C1:Hid (Calls Tryz.prog 153 #[.pointer (some ⟨g,0,none⟩),.int .u64 2,.int .i64 2,.int .i64 5] w λe w'=>e=.returned (.int .u64 (rdK xs r).1)/\PI w' g B A n c xs (rdK xs r).2/\Q0a g w w'):=E0b w g B A n c xs r 2 2 5 hP (by decide) (by decide);have hb:=r8b hx r;have HQ:Hid (∀e w',(e=.returned (.int .u8 (rdK xs r).1)/\PI w' g B A n c xs (rdK xs r).2/\Q0a g w w')->n3a w g B A n c xs (.int .u8 (rdK xs r).1) (rdK xs r).2 e w'):=λ_ _ h=>h
 obtain⟨q,hq⟩:∃q,q=rdK xs r:=⟨_,rfl⟩;rw[<-hq] at C1 HQ hb⊢;obtain⟨z,p⟩:=q;change 0<=z/\z<=_ at hb
 obtain⟨hb0,hb1⟩:=hb;have hz:IntKind.u8.wrap z=z:=by rw[IntKind.wrap_u8];omega
 clear hq hP;go_enter Tryz.func155,Tryz.ntmps155;go_wp2_with fail;refine C1.out.mono ?_;rintro e w1 ⟨rfl,hP1,hS1⟩;have HP1:=hI hP1;have HS1:=hI hS1;clear hP1 hS1;go_wp2;go_ret;exact HQ.out _ _ ⟨rfl,HP1.out,HS1.out⟩
theorem H4a(w:World)(g B:Nat)(A:Option Addr)(n c:Nat)(xs:List Int)(r:Rd)(m:Nat)(hP:PI w g B A n c xs r)(hm:m<=65536)(hBw:B<=w.heap.size) :
  Calls Tryz.prog 143 #[.pointer (some ⟨g,0,none⟩),.int .i64 (m:Int)] w (n3a w g B A n c xs (.tuple #[]) (rdZ xs m r)):=by
 obtain⟨p,er⟩:=r;have HP:=hI hP;have hl:=hP.2.2.2.len;have hrm:=hP.2.2.2.room;have hp:p<=n:=hP.1;have CF:Hid (∀(w':World) (q:Rd) (x:Int),PI w' g B A n c xs q->Calls Tryz.prog 146 #[.pointer (some ⟨g,0,none⟩),.int .i64 x] w' λe w2=>e=.returned (.tuple #[])/\PI w2 g B A n c xs (V2a x q)/\Q0a g w' w2):=λw' q x h=>a5a w' g B A n c xs q x h
 have hpe:R0a n (p:Int) (m:Int)=if n<p+m then 4 else 0:=by
  unfold R0a;rw[if_neg (by omega)];by_cases h5:n<p+m
  ·rw[if_pos h5,if_pos (by omega)]
  ·rw[if_neg h5,if_neg (by omega)]
 have C0:∀k,Calls Tryz.prog 58 #[.slice A n c,.int .i64 (p:Int),.int .i64 (m:Int)] (w.drewN k) λe w'=>∃A' k',e=.returned (.tuple #[.slice A' k' k',.int .i64 (R0a n (p:Int) (m:Int))])/\Below (w.drewN k).heap.size (w.drewN k) w':=λk=>by have h1:=D7a (w.drewN k) A n c xs (p:Int) (m:Int) ((hP.2.2.2.drewN k).mono hBw) (by omega) (by omega);unfold c4a at h1;rw[hl] at h1;exact h1.mono λe w' ⟨A',h1,_,h3⟩=>⟨A',_,h1,h3⟩
 by_cases he:er=0;rotate_left
 ·have HQ:Hid (∀e w',(e=.returned (.tuple #[])/\PI w' g B A n c xs ⟨p,er⟩/\Q0a g w w')->n3a w g B A n c xs (.tuple #[]) (rdZ xs m ⟨p,er⟩) e w'):=by intro e w' h;rw[e4b he];exact h
  have hrf:∀x,V2a x ⟨p,er⟩=⟨p,er⟩:=λx=>by unfold V2a;rw[if_neg he]
  have CF0:Hid (∀(w':World) (x:Int),PI w' g B A n c xs ⟨p,er⟩->Calls Tryz.prog 146 #[.pointer (some ⟨g,0,none⟩),.int .i64 x] w' λe w2=>e=.returned (.tuple #[])/\PI w2 g B A n c xs ⟨p,er⟩/\Q0a g w' w2):=λw' x h=>by have h1:=CF.out w' ⟨p,er⟩ x h;rw[hrf] at h1;exact h1
  obtain⟨ze,hze⟩:∃z,z=R0a n (p:Int) (m:Int):=⟨_,rfl⟩;rw[<-hze] at C0;have C1:=hI C0;have hne:(er != 0)=true:=by simpa using he
  clear hP hl he hrf hze hpe C0 CF;go_enter Tryz.func143,Tryz.ntmps143;go_upto_region 0 with fail
  refine wp_region_held (S:=λw'=>PI w' g B A n c xs ⟨p,er⟩) (by kernel_rfl) ?_;change wpAnyH _ _ _ _ _ _ _ _ w.drew
  have S0:Hid (PI w.drew g B A n c xs ⟨p,er⟩):=HP.out.drew;have b0:Hid (Below w.heap.size w w.drew):=(G2a w 1);refine tK 0 _ rfl (u0a (by kernel_rfl) (.tmp 0) rfl (.pointer (some ⟨g,0,none⟩)) (by kernel_rfl)) S0.out ?_;refine tK 1 _ rfl (I0a (by kernel_rfl) (.tmp 7) rfl ⟨g,0,none⟩ (by kernel_rfl)) S0.out ?_;refine tK 2 _ rfl (w0a (by kernel_rfl) _ (.tmp 8) 0 rfl (.pointer (some ⟨g,0,none⟩)) (.pointer (some ⟨g,0,none⟩)) (by kernel_rfl) (n8a g)) S0.out ?_;refine tK 3 _ rfl (l0a (by kernel_rfl) _ (.tmp 9) rfl g 0 (by kernel_rfl) (.slice A n c) (λw h=>PI.c0 h) _ Tryz.underlying31 rfl) S0.out ?_;refine tK 4 _ rfl (u0a (by kernel_rfl) (.tmp 0) rfl (.pointer (some ⟨g,0,none⟩)) (by kernel_rfl)) S0.out ?_;refine tK 5 _ rfl (I0a (by kernel_rfl) (.tmp 11) rfl ⟨g,0,none⟩ (by kernel_rfl)) S0.out ?_;refine tK 6 _ rfl (w0a (by kernel_rfl) _ (.tmp 12) 1 rfl (.pointer (some ⟨g,0,none⟩)) (.pointer (some ⟨g,1,none⟩)) (by kernel_rfl) (o8a g)) S0.out ?_;refine tK 7 _ rfl (l0a (by kernel_rfl) _ (.tmp 13) rfl g 1 (by kernel_rfl) (.int .i64 (p:Int)) (λw h=>PI.c1 h) _ Tryz.underlying3 rfl) S0.out ?_;refine tK 8 _ rfl (u0a (by kernel_rfl) (.tmp 1) rfl (.int .i64 (m:Int)) (by kernel_rfl)) S0.out ?_;refine oN 9 _ rfl λK hK=>?_
  go_simp;refine(C1.out 1).mono ?_;rintro e v1 ⟨A',k',rfl,L1⟩;have S1:Hid (PI v1 g B A n c xs ⟨p,er⟩):=S0.out.below L1;have b1:Hid (Below w.heap.size w v1):=step b0.out L1;refine hK _ _ S1.out ?_;clear hK K L1;refine tK 10 ((.tuple #[.slice A' k' k',.int .i64 ze])) rfl (.inl ⟨by kernel_rfl,λw _=>by go_simp⟩) S1.out ?_;refine tK 11 ((.slice A' k' k')) rfl (.inl ⟨by kernel_rfl,λw _=>by go_simp⟩) S1.out ?_;refine tK 12 ((.int .i64 ze)) rfl (.inl ⟨by kernel_rfl,λw _=>by go_simp⟩) S1.out ?_;refine tK 13 ((.slice A' k' k')) rfl (.inl ⟨by kernel_rfl,λw _=>by go_simp⟩) S1.out ?_;refine tK 14 ((.int .i64 ze)) rfl (.inl ⟨by kernel_rfl,λw _=>by go_simp⟩) S1.out ?_;refine dN ?_;have CF1:=hI (CF0.out v1 ze S1.out);clear CF0;go_wp2_with fail;refine CF1.out.mono ?_;rintro e w1 ⟨rfl,hP1,hS1⟩;have d2:=hP1.c2;have HP1:=hI hP1;have HS1:=hI ((Q0a.of_below b1.out g).trans hS1);clear hP1 hS1 CF1;go_wp2;go_end0;exact HQ.out _ _ ⟨rfl,HP1.out,HS1.out⟩
 subst he;by_cases hr:n<p+m
 ·have HQ:Hid (∀e w',(e=.returned (.tuple #[])/\PI w' g B A n c xs ⟨p,4⟩/\Q0a g w w')->n3a w g B A n c xs (.tuple #[]) (rdZ xs m ⟨p,0⟩) e w'):=by
   intro e w' h;have e1:rdZ xs m ⟨p,0⟩=⟨p,4⟩:=by have h1:=c4b (xs:=xs) (m:=m) (r:=⟨p,0⟩) rfl (by rw[hl];exact hr);unfold rdZ;rw[h1,if_neg (show ¬(4:Int)=0 by decide)]
   rw[e1];exact h
  rw[hpe,if_pos hr] at C0;have C1:=hI C0;have CF0:Hid (∀(w':World),PI w' g B A n c xs ⟨p,0⟩->Calls Tryz.prog 146 #[.pointer (some ⟨g,0,none⟩),.int .i64 4] w' λe w2=>e=.returned (.tuple #[])/\PI w2 g B A n c xs ⟨p,4⟩/\Q0a g w' w2):=λw' h=>CF.out w' ⟨p,0⟩ 4 h
  clear hP hl hpe C0 CF;go_enter Tryz.func143,Tryz.ntmps143;go_upto_region 0 with fail
  refine wp_region_held (S:=λw'=>PI w' g B A n c xs ⟨p,0⟩) (by kernel_rfl) ?_;change wpAnyH _ _ _ _ _ _ _ _ w.drew
  have S0:Hid (PI w.drew g B A n c xs ⟨p,0⟩):=HP.out.drew;have b0:Hid (Below w.heap.size w w.drew):=(G2a w 1);refine tK 0 _ rfl (u0a (by kernel_rfl) (.tmp 0) rfl (.pointer (some ⟨g,0,none⟩)) (by kernel_rfl)) S0.out ?_;refine tK 1 _ rfl (I0a (by kernel_rfl) (.tmp 7) rfl ⟨g,0,none⟩ (by kernel_rfl)) S0.out ?_;refine tK 2 _ rfl (w0a (by kernel_rfl) _ (.tmp 8) 0 rfl (.pointer (some ⟨g,0,none⟩)) (.pointer (some ⟨g,0,none⟩)) (by kernel_rfl) (n8a g)) S0.out ?_;refine tK 3 _ rfl (l0a (by kernel_rfl) _ (.tmp 9) rfl g 0 (by kernel_rfl) (.slice A n c) (λw h=>PI.c0 h) _ Tryz.underlying31 rfl) S0.out ?_;refine tK 4 _ rfl (u0a (by kernel_rfl) (.tmp 0) rfl (.pointer (some ⟨g,0,none⟩)) (by kernel_rfl)) S0.out ?_;refine tK 5 _ rfl (I0a (by kernel_rfl) (.tmp 11) rfl ⟨g,0,none⟩ (by kernel_rfl)) S0.out ?_;refine tK 6 _ rfl (w0a (by kernel_rfl) _ (.tmp 12) 1 rfl (.pointer (some ⟨g,0,none⟩)) (.pointer (some ⟨g,1,none⟩)) (by kernel_rfl) (o8a g)) S0.out ?_;refine tK 7 _ rfl (l0a (by kernel_rfl) _ (.tmp 13) rfl g 1 (by kernel_rfl) (.int .i64 (p:Int)) (λw h=>PI.c1 h) _ Tryz.underlying3 rfl) S0.out ?_;refine tK 8 _ rfl (u0a (by kernel_rfl) (.tmp 1) rfl (.int .i64 (m:Int)) (by kernel_rfl)) S0.out ?_;refine oN 9 _ rfl λK hK=>?_
  go_simp;refine(C1.out 1).mono ?_;rintro e v1 ⟨A',k',rfl,L1⟩;have S1:Hid (PI v1 g B A n c xs ⟨p,0⟩):=S0.out.below L1;have b1:Hid (Below w.heap.size w v1):=step b0.out L1;refine hK _ _ S1.out ?_;clear hK K L1;refine tK 10 ((.tuple #[.slice A' k' k',.int .i64 4])) rfl (.inl ⟨by kernel_rfl,λw _=>by go_simp⟩) S1.out ?_;refine tK 11 ((.slice A' k' k')) rfl (.inl ⟨by kernel_rfl,λw _=>by go_simp⟩) S1.out ?_;refine tK 12 ((.int .i64 4)) rfl (.inl ⟨by kernel_rfl,λw _=>by go_simp⟩) S1.out ?_;refine tK 13 ((.slice A' k' k')) rfl (.inl ⟨by kernel_rfl,λw _=>by go_simp⟩) S1.out ?_;refine tK 14 ((.int .i64 4)) rfl (.inl ⟨by kernel_rfl,λw _=>by go_simp⟩) S1.out ?_;refine dN ?_;have CF1:=hI (CF0.out v1 S1.out);clear CF0;go_wp2_with fail;refine CF1.out.mono ?_;rintro e w1 ⟨rfl,hP1,hS1⟩;have d2:=hP1.c2;have HP1:=hI hP1;have HS1:=hI ((Q0a.of_below b1.out g).trans hS1);clear hP1 hS1 CF1;go_wp2;go_end0;exact HQ.out _ _ ⟨rfl,HP1.out,HS1.out⟩
 have hpf:v0a xs m ⟨p,0⟩=((xs.drop p).take m,⟨p+m,0⟩):=by unfold v0a;rw[if_pos rfl,if_neg (by rw[hl];exact hr)]
 have hzz:zeroOf ((xs.drop p).take m) 0 (m:Int)=zeroOf xs (p:Int) (m:Int):=by
  have hlt:((xs.drop p).take m).length=m:=by rw[List.length_take,List.length_drop];omega
  have q1:R0a m 0 (m:Int)=0:=by unfold R0a;rw[if_neg (by omega),if_neg (by omega)]
  have q2:R0a n (p:Int) (m:Int)=0:=by rw[hpe,if_neg hr]
  unfold zeroOf partOf;rw[hlt,hl,q1,q2,if_pos rfl,if_pos rfl,show Int.toNat 0=0 from rfl,List.drop_zero,Int.toNat_natCast,Int.toNat_natCast,List.take_take,Nat.min_self]
 have hrz:rdZ xs m ⟨p,0⟩=if zeroOf xs (p:Int) (m:Int)=true then ⟨p+m,0⟩ else ⟨p+m,5⟩:=by
  unfold rdZ;rw[hpf];show(if (0:Int)=0 then (if zeroOf ((xs.drop p).take m) 0 (m:Int)=true then (⟨p+m,0⟩:Rd) else ⟨p+m,5⟩) else ⟨p+m,0⟩)=_
  rw[if_pos rfl,hzz]
 have CZ:Hid (∀(w':World) (k:Nat),PI w' g B A n c xs ⟨p,0⟩->Calls Tryz.prog 165 #[.slice A n c,.int .i64 (p:Int),.int .i64 (m:Int)] (w'.drewN k) λe w2=>e=.returned (.bool (zeroOf xs (p:Int) (m:Int)))/\w'.drewN k=w2):=λw' k h=>b3b (w'.drewN k) B A n c xs (p:Int) (m:Int) (h.2.2.2.drewN k) (by omega) (by omega)
 rw[hpe,if_neg hr] at C0;have C1:=hI C0;have CF0:Hid (∀(w':World),PI w' g B A n c xs ⟨p,0⟩->Calls Tryz.prog 146 #[.pointer (some ⟨g,0,none⟩),.int .i64 0] w' λe w2=>e=.returned (.tuple #[])/\PI w2 g B A n c xs ⟨p,0⟩/\Q0a g w' w2):=λw' h=>CF.out w' ⟨p,0⟩ 0 h
 have CF5:Hid (∀(w':World),PI w' g B A n c xs ⟨p,0⟩->Calls Tryz.prog 146 #[.pointer (some ⟨g,0,none⟩),.int .i64 5] w' λe w2=>e=.returned (.tuple #[])/\PI w2 g B A n c xs ⟨p,5⟩/\Q0a g w' w2):=λw' h=>CF.out w' ⟨p,0⟩ 5 h
 have HSP:Hid (∀(w1:World) (x:Int),PI w1 g B A n c xs ⟨p,x⟩->PI (w1.setCell ⟨g,1,none⟩ (.int .i64 ((p:Int)+m))) g B A n c xs ⟨p+m,x⟩):=λw1 x h=>h.setP (p+m) (by omega)
 rw[hrz];obtain⟨z,hz⟩:∃z,z=zeroOf xs (p:Int) (m:Int):=⟨_,rfl⟩;rw[<-hz] at CZ⊢;clear hP hl hpe hpf hzz hrz hz C0 CF;cases z
 ·have HQ:Hid (∀e w',(e=.returned (.tuple #[])/\PI w' g B A n c xs ⟨p+m,5⟩/\Q0a g w w')->n3a w g B A n c xs (.tuple #[]) (if false=true then ⟨p+m,0⟩ else ⟨p+m,5⟩) e w'):=λ_ _ h=>h
  go_enter Tryz.func143,Tryz.ntmps143;go_upto_region 0 with fail
  refine wp_region_held (S:=λw'=>PI w' g B A n c xs ⟨p,0⟩) (by kernel_rfl) ?_;change wpAnyH _ _ _ _ _ _ _ _ w.drew
  have S0:Hid (PI w.drew g B A n c xs ⟨p,0⟩):=HP.out.drew;have b0:Hid (Below w.heap.size w w.drew):=(G2a w 1);refine tK 0 _ rfl (u0a (by kernel_rfl) (.tmp 0) rfl (.pointer (some ⟨g,0,none⟩)) (by kernel_rfl)) S0.out ?_;refine tK 1 _ rfl (I0a (by kernel_rfl) (.tmp 7) rfl ⟨g,0,none⟩ (by kernel_rfl)) S0.out ?_;refine tK 2 _ rfl (w0a (by kernel_rfl) _ (.tmp 8) 0 rfl (.pointer (some ⟨g,0,none⟩)) (.pointer (some ⟨g,0,none⟩)) (by kernel_rfl) (n8a g)) S0.out ?_;refine tK 3 _ rfl (l0a (by kernel_rfl) _ (.tmp 9) rfl g 0 (by kernel_rfl) (.slice A n c) (λw h=>PI.c0 h) _ Tryz.underlying31 rfl) S0.out ?_;refine tK 4 _ rfl (u0a (by kernel_rfl) (.tmp 0) rfl (.pointer (some ⟨g,0,none⟩)) (by kernel_rfl)) S0.out ?_;refine tK 5 _ rfl (I0a (by kernel_rfl) (.tmp 11) rfl ⟨g,0,none⟩ (by kernel_rfl)) S0.out ?_;refine tK 6 _ rfl (w0a (by kernel_rfl) _ (.tmp 12) 1 rfl (.pointer (some ⟨g,0,none⟩)) (.pointer (some ⟨g,1,none⟩)) (by kernel_rfl) (o8a g)) S0.out ?_;refine tK 7 _ rfl (l0a (by kernel_rfl) _ (.tmp 13) rfl g 1 (by kernel_rfl) (.int .i64 (p:Int)) (λw h=>PI.c1 h) _ Tryz.underlying3 rfl) S0.out ?_;refine tK 8 _ rfl (u0a (by kernel_rfl) (.tmp 1) rfl (.int .i64 (m:Int)) (by kernel_rfl)) S0.out ?_;refine oN 9 _ rfl λK hK=>?_
  go_simp;refine(C1.out 1).mono ?_;rintro e v1 ⟨A',k',rfl,L1⟩;have S1:Hid (PI v1 g B A n c xs ⟨p,0⟩):=S0.out.below L1;have b1:Hid (Below w.heap.size w v1):=step b0.out L1;refine hK _ _ S1.out ?_;clear hK K L1;refine tK 10 ((.tuple #[.slice A' k' k',.int .i64 0])) rfl (.inl ⟨by kernel_rfl,λw _=>by go_simp⟩) S1.out ?_;refine tK 11 ((.slice A' k' k')) rfl (.inl ⟨by kernel_rfl,λw _=>by go_simp⟩) S1.out ?_;refine tK 12 ((.int .i64 0)) rfl (.inl ⟨by kernel_rfl,λw _=>by go_simp⟩) S1.out ?_;refine tK 13 ((.slice A' k' k')) rfl (.inl ⟨by kernel_rfl,λw _=>by go_simp⟩) S1.out ?_;refine tK 14 ((.int .i64 0)) rfl (.inl ⟨by kernel_rfl,λw _=>by go_simp⟩) S1.out ?_;refine dN ?_;have CF1:=hI (CF0.out v1 S1.out);clear CF0;go_wp2_with fail;refine CF1.out.mono ?_;rintro e w1 ⟨rfl,hP1,hS1⟩;have d0:=hP1.c0;have d1:=hP1.c1;have d2:=hP1.c2;have HP1:=hI hP1;have HS1:=hI ((Q0a.of_below b1.out g).trans hS1);have CZ1:=hI (CZ.out w1 · hP1);clear hP1 hS1 CF1 CZ;go_wp2;go_quiet ((go_at_call 165;((with_reducible exact k1b (CZ1.out _)))));have CF2:=hI (CF5.out _ (HP1.out.drewN nq));have HS2:=hI (HS1.out.drewN nq);clear CF5 CZ1;go_wp2_with fail;refine CF2.out.mono ?_;rintro e w2 ⟨rfl,hP2,hS2⟩;have g1:=hP2.c1;have k1:=hP2.fz 1;have HP2:=hI (HSP.out w2 5 hP2);have HS3:=hI (HS2.out.trans hS2);clear hP2 hS2 CF2 HSP;go_wp2;go_end0;exact HQ.out _ _ ⟨rfl,HP2.out,HS3.out.setCell 1 _⟩
 ·have HQ:Hid (∀e w',(e=.returned (.tuple #[])/\PI w' g B A n c xs ⟨p+m,0⟩/\Q0a g w w')->n3a w g B A n c xs (.tuple #[]) (if true=true then ⟨p+m,0⟩ else ⟨p+m,5⟩) e w'):=λ_ _ h=>h
  go_enter Tryz.func143,Tryz.ntmps143;go_upto_region 0 with fail
  refine wp_region_held (S:=λw'=>PI w' g B A n c xs ⟨p,0⟩) (by kernel_rfl) ?_;change wpAnyH _ _ _ _ _ _ _ _ w.drew
  have S0:Hid (PI w.drew g B A n c xs ⟨p,0⟩):=HP.out.drew;have b0:Hid (Below w.heap.size w w.drew):=(G2a w 1);refine tK 0 _ rfl (u0a (by kernel_rfl) (.tmp 0) rfl (.pointer (some ⟨g,0,none⟩)) (by kernel_rfl)) S0.out ?_;refine tK 1 _ rfl (I0a (by kernel_rfl) (.tmp 7) rfl ⟨g,0,none⟩ (by kernel_rfl)) S0.out ?_;refine tK 2 _ rfl (w0a (by kernel_rfl) _ (.tmp 8) 0 rfl (.pointer (some ⟨g,0,none⟩)) (.pointer (some ⟨g,0,none⟩)) (by kernel_rfl) (n8a g)) S0.out ?_;refine tK 3 _ rfl (l0a (by kernel_rfl) _ (.tmp 9) rfl g 0 (by kernel_rfl) (.slice A n c) (λw h=>PI.c0 h) _ Tryz.underlying31 rfl) S0.out ?_;refine tK 4 _ rfl (u0a (by kernel_rfl) (.tmp 0) rfl (.pointer (some ⟨g,0,none⟩)) (by kernel_rfl)) S0.out ?_;refine tK 5 _ rfl (I0a (by kernel_rfl) (.tmp 11) rfl ⟨g,0,none⟩ (by kernel_rfl)) S0.out ?_;refine tK 6 _ rfl (w0a (by kernel_rfl) _ (.tmp 12) 1 rfl (.pointer (some ⟨g,0,none⟩)) (.pointer (some ⟨g,1,none⟩)) (by kernel_rfl) (o8a g)) S0.out ?_;refine tK 7 _ rfl (l0a (by kernel_rfl) _ (.tmp 13) rfl g 1 (by kernel_rfl) (.int .i64 (p:Int)) (λw h=>PI.c1 h) _ Tryz.underlying3 rfl) S0.out ?_;refine tK 8 _ rfl (u0a (by kernel_rfl) (.tmp 1) rfl (.int .i64 (m:Int)) (by kernel_rfl)) S0.out ?_;refine oN 9 _ rfl λK hK=>?_
  go_simp;refine(C1.out 1).mono ?_;rintro e v1 ⟨A',k',rfl,L1⟩;have S1:Hid (PI v1 g B A n c xs ⟨p,0⟩):=S0.out.below L1;have b1:Hid (Below w.heap.size w v1):=step b0.out L1;refine hK _ _ S1.out ?_;clear hK K L1;refine tK 10 ((.tuple #[.slice A' k' k',.int .i64 0])) rfl (.inl ⟨by kernel_rfl,λw _=>by go_simp⟩) S1.out ?_;refine tK 11 ((.slice A' k' k')) rfl (.inl ⟨by kernel_rfl,λw _=>by go_simp⟩) S1.out ?_;refine tK 12 ((.int .i64 0)) rfl (.inl ⟨by kernel_rfl,λw _=>by go_simp⟩) S1.out ?_;refine tK 13 ((.slice A' k' k')) rfl (.inl ⟨by kernel_rfl,λw _=>by go_simp⟩) S1.out ?_;refine tK 14 ((.int .i64 0)) rfl (.inl ⟨by kernel_rfl,λw _=>by go_simp⟩) S1.out ?_;refine dN ?_;have CF1:=hI (CF0.out v1 S1.out);clear CF0;go_wp2_with fail;refine CF1.out.mono ?_;rintro e w1 ⟨rfl,hP1,hS1⟩;have d0:=hP1.c0;have d1:=hP1.c1;have d2:=hP1.c2;have k1:=hP1.fz 1;have HP1:=hI hP1;have HS1:=hI ((Q0a.of_below b1.out g).trans hS1);have CZ1:=hI (CZ.out w1 · hP1);clear hP1 hS1 CF1 CZ;go_wp2;go_quiet ((go_at_call 165;((with_reducible exact k1b (CZ1.out _)))));go_wp2;go_end0;exact HQ.out _ _ ⟨rfl,HSP.out _ 0 (HP1.out.drewN nq),(HS1.out.drewN nq).setCell 1 _⟩
theorem Q7a(w:World)(g B:Nat)(A:Option Addr)(n c:Nat)(xs:List Int)(r:Rd)(hP:PI w g B A n c xs r)(hBw:B<=w.heap.size) :
  Calls Tryz.prog 144 #[.pointer (some ⟨g,0,none⟩)] w (n3a w g B A n c xs (.string ⟨(L1a xs r).1.toArray⟩) (L1a xs r).2):=by
 obtain⟨p,er⟩:=r;have HP:=hI hP;have hl:=hP.2.2.2.len;have hby:=hP.2.2.2.byte;have hrm:=hP.2.2.2.room;have hp:p<=n:=hP.1;have CF:Hid (∀(w':World) (q:Rd) (x:Int),PI w' g B A n c xs q->Calls Tryz.prog 146 #[.pointer (some ⟨g,0,none⟩),.int .i64 x] w' λe w2=>e=.returned (.tuple #[])/\PI w2 g B A n c xs (V2a x q)/\Q0a g w' w2):=λw' q x h=>a5a w' g B A n c xs q x h
 obtain⟨hg0,hg1⟩:=M3a hby (p:Int) (by omega);have C1:Hid (∀k,Calls Tryz.prog 164 #[.slice A n c,.int .i64 (p:Int)] (w.drewN k) λe w'=>e=.returned (.tuple #[.string ⟨(X1a xs (p:Int)).toArray⟩,.int .i64 (a1a xs (p:Int)),.int .i64 (Y0a xs (p:Int))])/\Below (w.drewN k).heap.size (w.drewN k) w'):=λk=>e8a (w.drewN k) A n c xs (p:Int) ((hP.2.2.2.drewN k).mono hBw) (by omega)
 by_cases he:er=0;rotate_left
 ·have HQ:Hid (∀e w',(e=.returned (.string .empty)/\PI w' g B A n c xs ⟨p,er⟩/\Q0a g w w')->n3a w g B A n c xs (.string ⟨(L1a xs ⟨p,er⟩).1.toArray⟩) (L1a xs ⟨p,er⟩).2 e w'):=by intro e w' h;unfold L1a;rw[if_neg he];exact h
  have hrf:∀x,V2a x ⟨p,er⟩=⟨p,er⟩:=λx=>by unfold V2a;rw[if_neg he]
  have CF0:Hid (∀(w':World) (x:Int),PI w' g B A n c xs ⟨p,er⟩->Calls Tryz.prog 146 #[.pointer (some ⟨g,0,none⟩),.int .i64 x] w' λe w2=>e=.returned (.tuple #[])/\PI w2 g B A n c xs ⟨p,er⟩/\Q0a g w' w2):=λw' x h=>by have h1:=CF.out w' ⟨p,er⟩ x h;rw[hrf] at h1;exact h1
  obtain⟨tx,htx⟩:∃z,z=X1a xs (p:Int):=⟨_,rfl⟩;obtain⟨nx,hnx⟩:∃z,z=a1a xs (p:Int):=⟨_,rfl⟩;obtain⟨ex,hex⟩:∃z,z=Y0a xs (p:Int):=⟨_,rfl⟩;rw[<-htx,<-hnx,<-hex] at C1;have hne:(er != 0)=true:=by simpa using he
  clear hP hl hby he hrf htx hnx hex hg0 hg1 CF;go_enter Tryz.func144,Tryz.ntmps144;go_upto_region 1 with fail
  refine wp_region_held (S:=λw'=>PI w' g B A n c xs ⟨p,er⟩) (by kernel_rfl) ?_;change wpAnyH _ _ _ _ _ _ _ _ w.drew
  have S0:Hid (PI w.drew g B A n c xs ⟨p,er⟩):=HP.out.drew;have b0:Hid (Below w.heap.size w w.drew):=(G2a w 1);refine tK 0 _ rfl (u0a (by kernel_rfl) (.tmp 0) rfl (.pointer (some ⟨g,0,none⟩)) (by kernel_rfl)) S0.out ?_;refine tK 1 _ rfl (I0a (by kernel_rfl) (.tmp 7) rfl ⟨g,0,none⟩ (by kernel_rfl)) S0.out ?_;refine tK 2 _ rfl (w0a (by kernel_rfl) _ (.tmp 8) 0 rfl (.pointer (some ⟨g,0,none⟩)) (.pointer (some ⟨g,0,none⟩)) (by kernel_rfl) (n8a g)) S0.out ?_;refine tK 3 _ rfl (l0a (by kernel_rfl) _ (.tmp 9) rfl g 0 (by kernel_rfl) (.slice A n c) (λw h=>PI.c0 h) _ Tryz.underlying31 rfl) S0.out ?_;refine tK 4 _ rfl (u0a (by kernel_rfl) (.tmp 0) rfl (.pointer (some ⟨g,0,none⟩)) (by kernel_rfl)) S0.out ?_;refine tK 5 _ rfl (I0a (by kernel_rfl) (.tmp 11) rfl ⟨g,0,none⟩ (by kernel_rfl)) S0.out ?_;refine tK 6 _ rfl (w0a (by kernel_rfl) _ (.tmp 12) 1 rfl (.pointer (some ⟨g,0,none⟩)) (.pointer (some ⟨g,1,none⟩)) (by kernel_rfl) (o8a g)) S0.out ?_;refine tK 7 _ rfl (l0a (by kernel_rfl) _ (.tmp 13) rfl g 1 (by kernel_rfl) (.int .i64 (p:Int)) (λw h=>PI.c1 h) _ Tryz.underlying3 rfl) S0.out ?_;refine oN 8 _ rfl λK hK=>?_
  go_simp;refine(C1.out 1).mono ?_;rintro e v1 ⟨rfl,L1⟩;have S1:Hid (PI v1 g B A n c xs ⟨p,er⟩):=S0.out.below L1;have b1:Hid (Below w.heap.size w v1):=step b0.out L1;refine hK _ _ S1.out ?_;clear hK K L1;refine tK 9 ((.tuple #[.string ⟨tx.toArray⟩,.int .i64 nx,.int .i64 ex])) rfl (.inl ⟨by kernel_rfl,λw _=>by go_simp⟩) S1.out ?_;refine tK 10 ((.string ⟨tx.toArray⟩)) rfl (.inl ⟨by kernel_rfl,λw _=>by go_simp⟩) S1.out ?_;refine tK 11 ((.int .i64 nx)) rfl (.inl ⟨by kernel_rfl,λw _=>by go_simp⟩) S1.out ?_;refine tK 12 ((.int .i64 ex)) rfl (.inl ⟨by kernel_rfl,λw _=>by go_simp⟩) S1.out ?_;refine tK 13 ((.string ⟨tx.toArray⟩)) rfl (.inl ⟨by kernel_rfl,λw _=>by go_simp⟩) S1.out ?_;refine tK 14 ((.int .i64 nx)) rfl (.inl ⟨by kernel_rfl,λw _=>by go_simp⟩) S1.out ?_;refine tK 15 ((.int .i64 ex)) rfl (.inl ⟨by kernel_rfl,λw _=>by go_simp⟩) S1.out ?_;refine dN ?_;have CF1:=hI (CF0.out v1 ex S1.out);clear CF0;go_wp2_with fail;refine CF1.out.mono ?_;rintro e w1 ⟨rfl,hP1,hS1⟩;have d2:=hP1.c2;have HP1:=hI hP1;have HS1:=hI ((Q0a.of_below b1.out g).trans hS1);clear hP1 hS1 CF1;go_wp2;go_ret;exact HQ.out _ _ ⟨rfl,HP1.out,HS1.out⟩
 subst he;by_cases hte:Y0a xs (p:Int)=0
 ·have HQ:Hid (∀e w',(e=.returned (.string ⟨(X1a xs (p:Int)).toArray⟩)/\PI w' g B A n c xs ⟨(a1a xs (p:Int)).toNat,0⟩/\Q0a g w w')->n3a w g B A n c xs (.string ⟨(L1a xs ⟨p,0⟩).1.toArray⟩) (L1a xs ⟨p,0⟩).2 e w'):=by
   intro e w' h;unfold L1a;rw[if_pos rfl];show n3a w g B A n c xs (.string ⟨(X1a xs (p:Int)).toArray⟩) ⟨if Y0a xs (p:Int)=0 then (a1a xs (p:Int)).toNat else p,Y0a xs (p:Int)⟩ e w'
   rw[if_pos hte,hte];exact h
  have HSP:Hid (∀(w1:World),PI w1 g B A n c xs ⟨p,0⟩->PI (w1.setCell ⟨g,1,none⟩ (.int .i64 (a1a xs (p:Int)))) g B A n c xs ⟨(a1a xs (p:Int)).toNat,0⟩):=λw1 h=>by have h1:=h.setP (a1a xs (p:Int)).toNat (by omega);rw[Int.toNat_of_nonneg hg0] at h1;exact h1
  rw[hte] at C1;have CF0:Hid (∀(w':World),PI w' g B A n c xs ⟨p,0⟩->Calls Tryz.prog 146 #[.pointer (some ⟨g,0,none⟩),.int .i64 0] w' λe w2=>e=.returned (.tuple #[])/\PI w2 g B A n c xs ⟨p,0⟩/\Q0a g w' w2):=λw' h=>CF.out w' ⟨p,0⟩ 0 h
  obtain⟨tx,htx⟩:∃z,z=X1a xs (p:Int):=⟨_,rfl⟩;obtain⟨nx,hnx⟩:∃z,z=a1a xs (p:Int):=⟨_,rfl⟩;rw[<-htx,<-hnx] at C1 HQ;rw[<-hnx] at hg0 hg1 HSP;clear hP hl hby htx hnx hte CF;go_enter Tryz.func144,Tryz.ntmps144;go_upto_region 1 with fail
  refine wp_region_held (S:=λw'=>PI w' g B A n c xs ⟨p,0⟩) (by kernel_rfl) ?_;change wpAnyH _ _ _ _ _ _ _ _ w.drew
  have S0:Hid (PI w.drew g B A n c xs ⟨p,0⟩):=HP.out.drew;have b0:Hid (Below w.heap.size w w.drew):=(G2a w 1);refine tK 0 _ rfl (u0a (by kernel_rfl) (.tmp 0) rfl (.pointer (some ⟨g,0,none⟩)) (by kernel_rfl)) S0.out ?_;refine tK 1 _ rfl (I0a (by kernel_rfl) (.tmp 7) rfl ⟨g,0,none⟩ (by kernel_rfl)) S0.out ?_;refine tK 2 _ rfl (w0a (by kernel_rfl) _ (.tmp 8) 0 rfl (.pointer (some ⟨g,0,none⟩)) (.pointer (some ⟨g,0,none⟩)) (by kernel_rfl) (n8a g)) S0.out ?_;refine tK 3 _ rfl (l0a (by kernel_rfl) _ (.tmp 9) rfl g 0 (by kernel_rfl) (.slice A n c) (λw h=>PI.c0 h) _ Tryz.underlying31 rfl) S0.out ?_;refine tK 4 _ rfl (u0a (by kernel_rfl) (.tmp 0) rfl (.pointer (some ⟨g,0,none⟩)) (by kernel_rfl)) S0.out ?_;refine tK 5 _ rfl (I0a (by kernel_rfl) (.tmp 11) rfl ⟨g,0,none⟩ (by kernel_rfl)) S0.out ?_;refine tK 6 _ rfl (w0a (by kernel_rfl) _ (.tmp 12) 1 rfl (.pointer (some ⟨g,0,none⟩)) (.pointer (some ⟨g,1,none⟩)) (by kernel_rfl) (o8a g)) S0.out ?_;refine tK 7 _ rfl (l0a (by kernel_rfl) _ (.tmp 13) rfl g 1 (by kernel_rfl) (.int .i64 (p:Int)) (λw h=>PI.c1 h) _ Tryz.underlying3 rfl) S0.out ?_;refine oN 8 _ rfl λK hK=>?_
  go_simp;refine(C1.out 1).mono ?_;rintro e v1 ⟨rfl,L1⟩;have S1:Hid (PI v1 g B A n c xs ⟨p,0⟩):=S0.out.below L1;have b1:Hid (Below w.heap.size w v1):=step b0.out L1;refine hK _ _ S1.out ?_;clear hK K L1;refine tK 9 ((.tuple #[.string ⟨tx.toArray⟩,.int .i64 nx,.int .i64 0])) rfl (.inl ⟨by kernel_rfl,λw _=>by go_simp⟩) S1.out ?_;refine tK 10 ((.string ⟨tx.toArray⟩)) rfl (.inl ⟨by kernel_rfl,λw _=>by go_simp⟩) S1.out ?_;refine tK 11 ((.int .i64 nx)) rfl (.inl ⟨by kernel_rfl,λw _=>by go_simp⟩) S1.out ?_;refine tK 12 ((.int .i64 0)) rfl (.inl ⟨by kernel_rfl,λw _=>by go_simp⟩) S1.out ?_;refine tK 13 ((.string ⟨tx.toArray⟩)) rfl (.inl ⟨by kernel_rfl,λw _=>by go_simp⟩) S1.out ?_;refine tK 14 ((.int .i64 nx)) rfl (.inl ⟨by kernel_rfl,λw _=>by go_simp⟩) S1.out ?_;refine tK 15 ((.int .i64 0)) rfl (.inl ⟨by kernel_rfl,λw _=>by go_simp⟩) S1.out ?_;refine dN ?_;have CF1:=hI (CF0.out v1 S1.out);clear CF0;go_wp2_with fail;refine CF1.out.mono ?_;rintro e w1 ⟨rfl,hP1,hS1⟩;have d1:=hP1.c1;have d2:=hP1.c2;have k1:=hP1.fz 1;have HP1:=hI (HSP.out w1 hP1);have HS1:=hI ((Q0a.of_below b1.out g).trans hS1);clear hP1 hS1 CF1 HSP;go_wp2;go_ret;exact HQ.out _ _ ⟨rfl,HP1.out,HS1.out.setCell 1 _⟩
 ·have HQ:Hid (∀e w',(e=.returned (.string .empty)/\PI w' g B A n c xs ⟨p,Y0a xs (p:Int)⟩/\Q0a g w w')->n3a w g B A n c xs (.string ⟨(L1a xs ⟨p,0⟩).1.toArray⟩) (L1a xs ⟨p,0⟩).2 e w'):=by
   intro e w' h;unfold L1a;rw[if_pos rfl];show n3a w g B A n c xs (.string ⟨(X1a xs (p:Int)).toArray⟩) ⟨if Y0a xs (p:Int)=0 then (a1a xs (p:Int)).toNat else p,Y0a xs (p:Int)⟩ e w'
   rw[if_neg hte];have e0:X1a xs (p:Int)=[]:=by unfold X1a;rw[if_neg hte]
   rw[e0];exact h
  have CF0:Hid (∀(w':World),PI w' g B A n c xs ⟨p,0⟩->Calls Tryz.prog 146 #[.pointer (some ⟨g,0,none⟩),.int .i64 (Y0a xs (p:Int))] w' λe w2=>e=.returned (.tuple #[])/\PI w2 g B A n c xs ⟨p,Y0a xs (p:Int)⟩/\Q0a g w' w2):=λw' h=>CF.out w' ⟨p,0⟩ _ h
  obtain⟨tx,htx⟩:∃z,z=X1a xs (p:Int):=⟨_,rfl⟩;obtain⟨nx,hnx⟩:∃z,z=a1a xs (p:Int):=⟨_,rfl⟩;obtain⟨ex,hex⟩:∃z,z=Y0a xs (p:Int):=⟨_,rfl⟩;rw[<-htx,<-hnx,<-hex] at C1;rw[<-hex] at HQ CF0 hte;have hne:(ex != 0)=true:=by simpa using hte
  clear hP hl hby htx hnx hex hte CF;go_enter Tryz.func144,Tryz.ntmps144;go_upto_region 1 with fail
  refine wp_region_held (S:=λw'=>PI w' g B A n c xs ⟨p,0⟩) (by kernel_rfl) ?_;change wpAnyH _ _ _ _ _ _ _ _ w.drew
  have S0:Hid (PI w.drew g B A n c xs ⟨p,0⟩):=HP.out.drew;have b0:Hid (Below w.heap.size w w.drew):=(G2a w 1);refine tK 0 _ rfl (u0a (by kernel_rfl) (.tmp 0) rfl (.pointer (some ⟨g,0,none⟩)) (by kernel_rfl)) S0.out ?_;refine tK 1 _ rfl (I0a (by kernel_rfl) (.tmp 7) rfl ⟨g,0,none⟩ (by kernel_rfl)) S0.out ?_;refine tK 2 _ rfl (w0a (by kernel_rfl) _ (.tmp 8) 0 rfl (.pointer (some ⟨g,0,none⟩)) (.pointer (some ⟨g,0,none⟩)) (by kernel_rfl) (n8a g)) S0.out ?_;refine tK 3 _ rfl (l0a (by kernel_rfl) _ (.tmp 9) rfl g 0 (by kernel_rfl) (.slice A n c) (λw h=>PI.c0 h) _ Tryz.underlying31 rfl) S0.out ?_;refine tK 4 _ rfl (u0a (by kernel_rfl) (.tmp 0) rfl (.pointer (some ⟨g,0,none⟩)) (by kernel_rfl)) S0.out ?_;refine tK 5 _ rfl (I0a (by kernel_rfl) (.tmp 11) rfl ⟨g,0,none⟩ (by kernel_rfl)) S0.out ?_;refine tK 6 _ rfl (w0a (by kernel_rfl) _ (.tmp 12) 1 rfl (.pointer (some ⟨g,0,none⟩)) (.pointer (some ⟨g,1,none⟩)) (by kernel_rfl) (o8a g)) S0.out ?_;refine tK 7 _ rfl (l0a (by kernel_rfl) _ (.tmp 13) rfl g 1 (by kernel_rfl) (.int .i64 (p:Int)) (λw h=>PI.c1 h) _ Tryz.underlying3 rfl) S0.out ?_;refine oN 8 _ rfl λK hK=>?_
  go_simp;refine(C1.out 1).mono ?_;rintro e v1 ⟨rfl,L1⟩;have S1:Hid (PI v1 g B A n c xs ⟨p,0⟩):=S0.out.below L1;have b1:Hid (Below w.heap.size w v1):=step b0.out L1;refine hK _ _ S1.out ?_;clear hK K L1;refine tK 9 ((.tuple #[.string ⟨tx.toArray⟩,.int .i64 nx,.int .i64 ex])) rfl (.inl ⟨by kernel_rfl,λw _=>by go_simp⟩) S1.out ?_;refine tK 10 ((.string ⟨tx.toArray⟩)) rfl (.inl ⟨by kernel_rfl,λw _=>by go_simp⟩) S1.out ?_;refine tK 11 ((.int .i64 nx)) rfl (.inl ⟨by kernel_rfl,λw _=>by go_simp⟩) S1.out ?_;refine tK 12 ((.int .i64 ex)) rfl (.inl ⟨by kernel_rfl,λw _=>by go_simp⟩) S1.out ?_;refine tK 13 ((.string ⟨tx.toArray⟩)) rfl (.inl ⟨by kernel_rfl,λw _=>by go_simp⟩) S1.out ?_;refine tK 14 ((.int .i64 nx)) rfl (.inl ⟨by kernel_rfl,λw _=>by go_simp⟩) S1.out ?_;refine tK 15 ((.int .i64 ex)) rfl (.inl ⟨by kernel_rfl,λw _=>by go_simp⟩) S1.out ?_;refine dN ?_;have CF1:=hI (CF0.out v1 S1.out);clear CF0;go_wp2_with fail;refine CF1.out.mono ?_;rintro e w1 ⟨rfl,hP1,hS1⟩;have d2:=hP1.c2;have HP1:=hI hP1;have HS1:=hI ((Q0a.of_below b1.out g).trans hS1);clear hP1 hS1 CF1;go_wp2;go_ret;exact HQ.out _ _ ⟨rfl,HP1.out,HS1.out⟩
theorem M1b(w:World)(g B:Nat)(A:Option Addr)(n c:Nat)(xs:List Int)(r:Rd)(hx:Bytes xs)(hP:PI w g B A n c xs r)(hBw:B<=w.heap.size) :
  Calls Tryz.prog 147 #[.pointer (some ⟨g,0,none⟩)] w (n3a w g B A n c xs (.tuple #[.int .u64 (rdN xs 8 r).1,.int .u8 (rdN xs 1 (rdN xs 8 r).2).1]) (rdZ xs 3 (rdN xs 1 (rdN xs 8 r).2).2)):=by
 have C1:=hI (b3a w g B A n c xs r hx hP);have C2:Hid (∀w':World,PI w' g B A n c xs (rdN xs 8 r).2->Calls Tryz.prog 173 #[.pointer (some ⟨g,0,none⟩),.int .i64 1] w' λe w2=>e=.returned (.int .u64 (rdN xs 1 (rdN xs 8 r).2).1)/\PI w2 g B A n c xs (rdN xs 1 (rdN xs 8 r).2).2/\Q0a g w' w2):=λw' h=>D0b w' g B A n c xs _ 1 h (by decide)
 have C3:Hid (∀w':World,w.heap.size<=w'.heap.size->PI w' g B A n c xs (rdN xs 1 (rdN xs 8 r).2).2->Calls Tryz.prog 143 #[.pointer (some ⟨g,0,none⟩),.int .i64 3] w' λe w2=>e=.returned (.tuple #[])/\PI w2 g B A n c xs (rdZ xs 3 (rdN xs 1 (rdN xs 8 r).2).2)/\Q0a g w' w2):=λw' hs h=>H4a w' g B A n c xs _ 3 h (by decide) (by omega)
 have hb:=P4a hx 1 (rdN xs 8 r).2 256 (by decide) (by decide);have HQ:Hid (∀e w',(e=.returned (.tuple #[.int .u64 (rdN xs 8 r).1,.int .u8 (rdN xs 1 (rdN xs 8 r).2).1])/\PI w' g B A n c xs (rdZ xs 3 (rdN xs 1 (rdN xs 8 r).2).2)/\Q0a g w w')->n3a w g B A n c xs (.tuple #[.int .u64 (rdN xs 8 r).1,.int .u8 (rdN xs 1 (rdN xs 8 r).2).1]) (rdZ xs 3 (rdN xs 1 (rdN xs 8 r).2).2) e w'):=λ_ _ h=>h
 unfold n3a at C1;obtain⟨q3,hq3⟩:∃q,q=rdZ xs 3 (rdN xs 1 (rdN xs 8 r).2).2:=⟨_,rfl⟩;rw[<-hq3] at C3 HQ⊢;obtain⟨q2,hq2⟩:∃q,q=rdN xs 1 (rdN xs 8 r).2:=⟨_,rfl⟩;rw[<-hq2] at C2 C3 HQ hb⊢;obtain⟨q1,hq1⟩:∃q,q=rdN xs 8 r:=⟨_,rfl⟩;rw[<-hq1] at C1 C2 HQ⊢;obtain⟨y,q1⟩:=q1;obtain⟨z,q2⟩:=q2;change 0<=z/\z<=_ at hb
 obtain⟨hb0,hb1⟩:=hb;have hz:IntKind.u8.wrap z=z:=by rw[IntKind.wrap_u8];omega
 clear hq1 hq2 hq3 hP;go_enter Tryz.func147,Tryz.ntmps147;go_wp2_with fail;refine C1.out.mono ?_;rintro e w1 ⟨rfl,hP1,hS1⟩;have CA:=hI (C2.out w1 hP1);have HS1:=hI hS1;clear hP1 hS1 C1 C2;go_wp2_with fail;refine CA.out.mono ?_;rintro e w2 ⟨rfl,hP2,hS2⟩;have HS2:=hI (HS1.out.trans hS2);have CB:=hI (C3.out w2 HS2.out.size hP2);clear hP2 hS2 CA C3;go_wp2_with fail;refine CB.out.mono ?_;rintro e w3 ⟨rfl,hP3,hS3⟩;have HP3:=hI hP3;have HS3:=hI (HS2.out.trans hS3);clear hP3 hS3 CB;go_wp2;go_ret2;exact HQ.out _ _ ⟨rfl,HP3.out,HS3.out⟩
theorem f3a(w:World)(g B:Nat)(A:Option Addr)(n c:Nat)(xs:List Int)(r:Rd)(hP:PI w g B A n c xs r) :
  Calls Tryz.prog 148 #[.pointer (some ⟨g,0,none⟩)] w λe w'=>e=.returned (.int .i64 (H0a xs r))/\Q0a g w w':=by
 obtain⟨p,er⟩:=r;have HP:=hI hP;have hl:=hP.2.2.2.len;have hrm:=hP.2.2.2.room;have hp:p<=n:=hP.1;have c0:=hP.c0;have c1:=hP.c1;have c2:=hP.c2;have CF:Hid (∀(w':World),PI w' g B A n c xs ⟨p,er⟩->Calls Tryz.prog 146 #[.pointer (some ⟨g,0,none⟩),.int .i64 5] w' λe w2=>e=.returned (.tuple #[])/\PI w2 g B A n c xs (V2a 5 ⟨p,er⟩)/\Q0a g w' w2):=λw' h=>a5a w' g B A n c xs _ 5 h
 have hrd:H0a xs ⟨p,er⟩=if er=0/\p≠n then 5 else er:=by unfold H0a;rw[hl]
 rw[hrd];by_cases hpn:p=n
 ·rw[if_neg (λh=>h.2 hpn)];have hd:¬((p:Int)<(n:Int)):=by omega
  clear hP hl hrd hpn CF;go_enter Tryz.func148,Tryz.ntmps148;go_wp2;go_quiet (fail);go_wp2;go_ret;exact⟨rfl,E3a g w _⟩
 ·have hd:(p:Int)<(n:Int):=by omega
  have hrf:V2a 5 ⟨p,er⟩=⟨p,if er=0/\p≠n then 5 else er⟩:=by
   unfold V2a;by_cases he:er=0
   ·rw[if_pos he,if_pos ⟨he,hpn⟩]
   ·rw[if_neg he,if_neg (λh=>he h.1)]
  rw[hrf] at CF;obtain⟨z,hz⟩:∃z,z=if er=0/\p≠n then 5 else er:=⟨_,rfl⟩
  rw[<-hz] at CF⊢;clear hP hl hrd hpn hrf hz;go_enter Tryz.func148,Tryz.ntmps148;go_wp2;go_quiet (fail);have CF1:=hI (CF.out _ (HP.out.drewN nq));clear CF;go_wp2_with fail;refine CF1.out.mono ?_;rintro e w1 ⟨rfl,hP1,hS1⟩;have d2:=hP1.c2;have HS1:=hI ((E3a g w nq).trans hS1);clear hP1 hS1 CF1;go_wp2;go_ret;exact⟨rfl,HS1.out⟩
theorem b6b{w:World}{base:Nat}{v:Value}{xs:List y1a}(h:r5a z0a 3 118 w base v xs):v.oneCell'=true:=by obtain⟨_,_,_,rfl,_⟩:=r5a.holds (by decide) J2a h;rfl
theorem z9a{ops:Array Oper}{o:Oper}{a:Act}{w:World}{K:Act->World->Prop}{Q:Exit->Act->World->Prop}{E:Prop}(hgd:o.guard=none)(s x:Operand)
(ho:o.op=.call { callee:=.builtin .append,args:=#[s,x],argTypes:=#[37,37] })
(base:Nat)(v:Value)(xs:List y1a)(g2:Nat)(l:y1a)(hs:a.eval s=v)(hx:a.eval x=.slice (some ⟨g2,0,none⟩) 1 1)
(hown:r5a z0a 3 118 w base v xs)(hY:Hid (Blk w g2 118 (z0a l)))(hlen:xs.length<=100)(hbase:base<=w.heap.size)
(h:∀v' w',Hid (r5a z0a 3 118 w' base v' (xs++[l]))->Hid (Below base w w')->K (a.put o.dst v') w') :
  if Region.wanted o (yielded ops a.tmps)=true then Oper.wp Tryz.prog o a w K Q else E:=by
 have hw:Region.wanted o (yielded ops a.tmps)=true:=by simp[Region.wanted,hgd]
 rw[if_pos hw];obtain⟨i0,hi0,hz0,hz1,hz2⟩:=info_parts m2b;have hr:=hY.out;refine wp_append_own _ s x 37 ho base 118 i0 (.agg (z0a ⟨.empty,0,0⟩).toArray) 3 32 Tryz.underlying37 hi0 hz0 hz1 hz2 rfl (by omega) v xs.length (xs.flatMap z0a) hs hown ⟨g2,0,none⟩ 1 1 (z0a l) hx (by rw[J2a]) ?_
  (λu hu=>x4a l u hu) (by unfold maxLen;omega) (by omega) hbase ?_
 ·intro j y hj;have e1:(⟨g2,0,none⟩:Addr).add j=⟨g2,j,none⟩:=by
   by_cases hj0:j=0
   ·subst hj0;simp[Addr.add]
   ·simp[Addr.add,hj0]
  rw[e1,hr.cell j,<-hj]
 ·intro v' w' hown' hgr _;refine h v' w' ?_ ((Below.refl base w).grown hgr hbase λi hi=>(World.ownsRow.lt hown i hi).1);show World.ownsRow _ _ _ _ _ _ _
  rw[List.length_append,List.flatMap_append];simpa using hown'
theorem PI.belowAt{w w':World}{g B B':Nat}{A:Option Addr}{n c:Nat}{xs:List Int}{r:Rd}(h:PI w g B A n c xs r)(hb:Below B' w w')(hg:g<B'):PI w' g B A n c xs r:=⟨h.1,h.2.1,h.2.2.1.below hb hg,h.2.2.2.below (hb.mono (by have:=h.2.1;omega))⟩
theorem PI.save{w w':World}{g g' B:Nat}{A:Option Addr}{n c:Nat}{xs:List Int}{r:Rd}(h:PI w g B A n c xs r)(hS:Q0a g' w w')(hg:g≠g')(hb:B<=g'):PI w' g B A n c xs r:=⟨h.1,h.2.1,h.2.2.1.save hS hg,h.2.2.2.below (hS.below hb (by have:=h.lt;have:=h.2.1;omega))⟩
theorem y5b(w:World)(g B:Nat)(A:Option Addr)(n c:Nat)(xs:List Int)(r:Rd)(hx:Bytes xs)(hP:PI w g B A n c xs r)(hBw:B<=w.heap.size) :
  Calls Tryz.prog 154 #[.pointer (some ⟨g,0,none⟩)] w (n3a w g B A n c xs (.agg (z0a (i4a xs r).1).toArray) (i4a xs r).2):=by
 have hlt:=hP.lt;have hgB:=hP.2.1;have HP:=hI hP;have D1:Hid (∀w':World,w.heap.size<=w'.heap.size->PI w' g B A n c xs r->Calls Tryz.prog 155 #[.pointer (some ⟨g,0,none⟩)] w' λe w2=>e=.returned (.int .u8 (e1 xs r).1)/\PI w2 g B A n c xs (e1 xs r).2/\Q0a g w' w2):=λw' hs h=>L2b w' g B A n c xs r hx h
 have D2:Hid (∀w':World,w.heap.size<=w'.heap.size->PI w' g B A n c xs (e1 xs r).2->Calls Tryz.prog 143 #[.pointer (some ⟨g,0,none⟩),.int .i64 2] w' λe w2=>e=.returned (.tuple #[])/\PI w2 g B A n c xs (e2 xs r)/\Q0a g w' w2):=λw' hs h=>H4a w' g B A n c xs _ 2 h (by decide) (by omega)
 have D3:Hid (∀w':World,w.heap.size<=w'.heap.size->PI w' g B A n c xs (e2 xs r)->Calls Tryz.prog 153 #[.pointer (some ⟨g,0,none⟩),.int .u64 1048576,.int .i64 8,.int .i64 5] w' λe w2=>e=.returned (.int .u64 (e3 xs r).1)/\PI w2 g B A n c xs (e3 xs r).2/\Q0a g w' w2):=λw' hs h=>E0b w' g B A n c xs _ 8 1048576 5 h (by decide) (by decide)
 have D4:Hid (∀w':World,w.heap.size<=w'.heap.size->PI w' g B A n c xs (e3 xs r).2->Calls Tryz.prog 144 #[.pointer (some ⟨g,0,none⟩)] w' λe w2=>e=.returned (.string ⟨(e4 xs r).1.toArray⟩)/\PI w2 g B A n c xs (e4 xs r).2/\Q0a g w' w2):=λw' hs h=>Q7a w' g B A n c xs _ h (by omega)
 have hb:=d3a hx 8 1048576 5 (e2 xs r) (by decide) (by decide);change 0<=(e3 xs r).1/\(e3 xs r).1<=_ at hb
 have HQ:Hid (∀(e:Ending) (w':World),e=.returned (.agg (z0a ⟨⟨(e4 xs r).1.toArray⟩,(e1 xs r).1,(e3 xs r).1⟩).toArray)->PI w' g B A n c xs (e4 xs r).2->Q0a g w w'->n3a w g B A n c xs (.agg (z0a (i4a xs r).1).toArray) (i4a xs r).2 e w'):=λe w' h1 h2 h3=>⟨h1,h2,h3⟩
 obtain⟨q4,hq4⟩:∃q,q=e4 xs r:=⟨_,rfl⟩;rw[<-hq4] at D4 HQ;obtain⟨q3,hq3⟩:∃q,q=e3 xs r:=⟨_,rfl⟩;rw[<-hq3] at D3 D4 HQ hb;obtain⟨q2,hq2⟩:∃q,q=e2 xs r:=⟨_,rfl⟩;rw[<-hq2] at D2 D3;obtain⟨q1,hq1⟩:∃q,q=e1 xs r:=⟨_,rfl⟩;rw[<-hq1] at D1 D2 HQ;obtain⟨hb0,hb1⟩:=hb;obtain⟨tx,htx⟩:∃b:ByteArray,b=⟨q4.1.toArray⟩:=⟨_,rfl⟩;rw[<-htx] at D4 HQ;have hz:IntKind.i64.wrap q3.1=q3.1:=by rw[IntKind.wrap_i64];omega
 clear hq1 hq2 hq3 hq4 htx hP;have ZE:=hI K2b;have HZ3:Hid (([.string .empty,.int .u8 0,.int .i64 0]:List Value).length=3):=rfl;go_enter Tryz.func154,Tryz.ntmps154;go_wp2_with(first
  | ((with_reducible refine sN 2 ?_);refine a0a rfl _ rfl _ _ ZE ?_;intro h w1 hg1 hg2 Z1 N1;have P1:=hI (HP.out.below N1.out);have S1:Hid (Q0a g w w1):=(Q0a.of_below N1.out g);have hhg:h≠g:=(by omega))
  | ((with_reducible refine sN 3 ?_);refine a0a rfl _ rfl _ _ ZE ?_;intro x w2 hx1 hx2 X2 N2;have Z2:=hI (Z1.out.over N2.out);have P2:=hI (P1.out.below N2.out);have S2:Hid (Q0a g w w2):=(S1.out.trans (Q0a.of_below N2.out g));have hxg:x≠g:=(by omega);have hhx:h≠x:=(by omega))
  | fail)
 refine(D1.out w2 S2.out.size P2.out).mono ?_;rintro e w3 ⟨rfl,hP1,hS1⟩;have X3:=hI (X2.out.save hS1 hxg);have Z3:=hI (Z2.out.save hS1 hhg);have P3:=hI hP1;have S3:=hI (S2.out.trans hS1);clear hP1 hS1 X2 Z2 P2 S2 Z1 P1 S1;go_wp2_with(first
  | ((with_reducible refine sT 7 ?_);refine d0a rfl _ (.tmp 7) (.tmp 5) rfl x 1 rfl _ ([.string .empty,.int .u8 0,.int .i64 0]:List Value) (.int .u8 q1.1) rfl X3 (hI (by show 1<3;decide)) (by kernel_rfl) rfl ?_;intro w4 X4 O4 hq4;have Z4:=hI (Z3.out.only O4.out hhx);have P4:=hI (P3.out.only O4.out (Ne.symm hxg) (by omega));have S4:Hid (Q0a g w w4):=(S3.out.thenBelow (O4.out.below (by omega))))
  | fail)
 refine(D2.out w4 S4.out.size P4.out).mono ?_;rintro e w5 ⟨rfl,hP1,hS1⟩;have X5:Hid (Blk w5 x 118 [.string .empty,.int .u8 q1.1,.int .i64 0]):=X4.out.save hS1 hxg;have Z5:=hI (Z4.out.save hS1 hhg);have P5:=hI hP1;have S5:=hI (S4.out.trans hS1);clear hP1 hS1 X4 Z4 P4 S4 X3 Z3 P3 S3;go_wp2_with fail;refine(D3.out w5 S5.out.size P5.out).mono ?_;rintro e w6 ⟨rfl,hP1,hS1⟩;have X6:=hI (X5.out.save hS1 hxg);have Z6:=hI (Z5.out.save hS1 hhg);have P6:=hI hP1;have S6:=hI (S5.out.trans hS1);clear hP1 hS1 X5 Z5 P5 S5;go_wp2_with(first
  | ((with_reducible refine sT 14 ?_);refine d0a rfl _ (.tmp 14) (.tmp 12) rfl x 2 rfl _ ([.string .empty,.int .u8 q1.1,.int .i64 0]:List Value) (.int .i64 q3.1) rfl X6 (hI (by show 2<3;decide)) (by kernel_rfl) rfl ?_;intro w7 X7 O7 hq7;have Z7:=hI (Z6.out.only O7.out hhx);have P7:=hI (P6.out.only O7.out (Ne.symm hxg) (by omega));have S7:Hid (Q0a g w w7):=(S6.out.thenBelow (O7.out.below (by omega))))
  | fail)
 refine(D4.out w7 S7.out.size P7.out).mono ?_;rintro e w8 ⟨rfl,hP1,hS1⟩;have X8:Hid (Blk w8 x 118 [.string .empty,.int .u8 q1.1,.int .i64 q3.1]):=X7.out.save hS1 hxg;have Z8:=hI (Z7.out.save hS1 hhg);have P8:=hI hP1;have S8:=hI (S7.out.trans hS1);clear hP1 hS1 X7 Z7 P7 S7 X6 Z6 P6 S6;have HE3:Hid (([.string tx,.int .u8 q1.1,.int .i64 q3.1]:List Value).length=3):=rfl;have HE1:Hid (∀v∈([.string tx,.int .u8 q1.1,.int .i64 q3.1]:List Value),v.oneCell'=true):=x4a ⟨tx,q1.1,q3.1⟩;go_wp2_with(first
  | ((with_reducible refine sT 17 ?_);refine d0a rfl _ (.tmp 17) (.tmp 16) rfl x 0 rfl _ ([.string .empty,.int .u8 q1.1,.int .i64 q3.1]:List Value) (.string tx) rfl X8 (hI (by show 0<3;decide)) (by kernel_rfl) rfl ?_;intro w9 X9a O9 hq9;have X9:Hid (Blk w9 x 118 [.string tx,.int .u8 q1.1,.int .i64 q3.1]):=X9a.out;have Z9:=hI (Z8.out.only O9.out hhx);have P9:=hI (P8.out.only O9.out (Ne.symm hxg) (by omega));have S9:Hid (Q0a g w w9):=(S8.out.thenBelow (O9.out.below (by omega))))
  | ((with_reducible refine sN 18 ?_);refine e0a rfl _ (.tmp 3) rfl x rfl _ _ X9 3 _ Tryz.underlying118 rfl D3a HE3 ?_)
  | ((with_reducible refine sT 2 ?_);refine b0a rfl _ (.tmp 2) (.tmp 18) rfl h rfl _ ([.string .empty,.int .u8 0,.int .i64 0]:List Value) ([.string tx,.int .u8 q1.1,.int .i64 q3.1]:List Value) rfl Z9 3 D3a HZ3 HE3 HE1 ?_;intro w10 Z10 O10 hq10)
  | fail)
 refine bodyPost_ret (v:=.agg (z0a ⟨tx,q1.1,q3.1⟩).toArray) ?_ rfl (HQ.out _ _ rfl (P9.out.only O10.out (Ne.symm hhg) (by omega)) (S9.out.thenBelow (O10.out.below (by omega))));exact results_cell_row rfl _ _ h _ _ (0,0) _ rfl Z10.out Tryz.underlying118 rfl (by rw[D3a];rfl)
end Go.Proofs.YtgfflnjggnadpaaGreatDoor
