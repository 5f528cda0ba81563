import Derived.Test.YtgfflnjggnadpaaGreatDoorZAB
import Derived.Test.YtgfflnjggnadpaaGreatDoorS0
set_option linter.all false
set_option maxHeartbeats 8000000
set_option maxRecDepth 100000
namespace Go.Proofs.YtgfflnjggnadpaaGreatDoor
open Go.RowKit
section
variable {P:Program} {ops:Array Oper} {md:Region.Mode} {S:World->Prop} {Q:Exit->Act->World->Prop} {k:Nat}
def D4a(P:Program)(md:Region.Mode)(ops:Array Oper)(Q:Exit->Act->World->Prop)(S:World->Prop)(k:Nat):Nat->Array Bool->Act->World->Prop
 | 0,listed,a,w=>Region.ready md ops listed=[]/\Q .normal a w
 | fuel+1,listed,a,w=>
  (Region.ready md ops listed=[]->Q .normal a w)/\
  ∀i∈Region.ready md ops listed,wpOp P ops Q i (λa' w'=>((listed.setIfInBounds i true).getD k false=false->S w')/\D4a P md ops Q S k fuel (listed.setIfInBounds i true) a' w') a w
theorem s2b:∀(fuel:Nat) (listed:Array Bool) (a:Act) (w:World),D4a P md ops Q S k fuel listed a w->wpAny P md ops Q fuel listed a w
 | 0,_,_,_,h=>h
 | fuel+1,_,_,_,h=>⟨h.1,λi hi=>wpOp_mono (λa' w' h'=>s2b fuel _ a' w' h'.2) (h.2 i hi)⟩
theorem Y3b{i:Nat}{oi ok:Oper}{v:Value}(hi:ops[i]? = some oi)(hsel:∀(j:Nat) (o:Oper) cs b,ops[j]? = some o->o.op≠.select cs b)
(hQ:∀c a w,Q (.panic c) (a.put oi.dst v) w->Q (.panic c) a w)(hk:ops[k]? = some ok)(hke:ok.after.any (λe=>Region.binds md e&&e.on==i)=true) :
  ∀(fuel:Nat) (listed:Array Bool) (a:Act) (w:World),
   (∀j oj,ops[j]? = some oj->j≠i->listed.getD j true=false->(∀e∈oj.after,Region.binds md e=true->e.on≠i)->oi.apart ops oj=true)->
   i∈Region.ready md ops listed->YieldsIf P ops S oi v a->S w->listed.getD k false=false->i≠k->
   D4a P md ops Q S k fuel (listed.setIfInBounds i true) (a.put oi.dst v) w->D4a P md ops Q S k (fuel+1) listed a w:=by
 intro fuel
 induction fuel with
 | zero=>
  intro listed a w _ hr hy hS _ _ H;refine⟨λh=>(by rw[h] at hr;cases hr),λj hj=>?_⟩;by_cases hji:j=i
  ·subst hji;exact hy.wpOp hi hS ⟨λ_=>hS,H⟩
  ·have:=ready_mono hj hji;rw[H.1] at this;cases this
 | succ fuel ih=>
  intro listed a w hfree hr hy hS hkl hik H;refine⟨λh=>(by rw[h] at hr;cases hr),λj hj=>?_⟩;by_cases hji:j=i
  ·subst hji;exact hy.wpOp hi hS ⟨λ_=>hS,H⟩
  ·have h1:=H.2 j (ready_mono hj hji);obtain⟨hjun,oj,hoj,hall⟩:=mem_ready.1 hj;have hnot:∀e∈oj.after,Region.binds md e=true->e.on≠i:=λe he hb heq=>by
    have h1:=hall e he hb;have h0:=(mem_ready.1 hr).1;rw[heq] at h1;rcases Nat.lt_or_ge i listed.size with h' | h'
    ·simp[h'] at h0 h1;rw[h0] at h1;cases h1
    ·simp[Array.getElem?_eq_none h'] at h1
   have hjk:j≠k:=by
    rintro rfl;rw[hk] at hoj;injection hoj with hoj
    subst hoj;obtain⟨e,he,hb⟩:=Array.any_eq_true'.1 hke;simp only[Bool.and_eq_true,beq_iff_eq] at hb;exact hnot e he hb.1 hb.2
   have h2:=wpOp_putIf hoj (hfree j oj hoj hji hjun hnot) (λcs b=>hsel i oi cs b hi) (λcs b=>hsel j oj cs b hoj) hQ hy h1;have hfree':∀k ok,ops[k]? = some ok->k≠i->(listed.setIfInBounds j true).getD k true=false->
     (∀e∈ok.after,Region.binds md e=true->e.on≠i)->oi.apart ops ok=true:=λk ok hk hki hun hno=>by
    refine hfree k ok hk hki ?_ hno;by_cases hjk:j=k
    ·subst hjk;exact hjun
    ·rw[getD_set_ne true hjk] at hun;exact hun
   refine wpOp_mono (λa' w' h3=>?_) h2;have hSw:S w':=h3.2.1 (by rw[getD_set_ne false hjk,getD_set_ne false hik];exact hkl);refine⟨λ_=>hSw,ih (listed.setIfInBounds j true) a' w' hfree' (ready_mono hr (Ne.symm hji)) h3.1 hSw (by rw[getD_set_ne false hjk];exact hkl) hik ?_⟩;rw[Array.setIfInBounds_comm _ _ hji];exact h3.2.2
theorem o2a{i:Nat}{oi ok:Oper}{v:Value}{fuel:Nat}{listed:Array Bool}{a:Act}{w:World}(hi:ops[i]? = some oi)
(hs:Region.noSelect ops=true)(hf:Region.free md ops listed i=true)(hr:(Region.ready md ops listed).contains i=true)
(hQ:∀c a w,Q (.panic c) (a.put oi.dst v) w->Q (.panic c) a w)(hk:ops[k]? = some ok)(hke:ok.after.any (λe=>Region.binds md e&&e.on==i)=true)(hkl:listed.getD k false=false)(hik:i≠k)
(hy:YieldsIf P ops S oi v a)(hS:S w)
(h:D4a P md ops Q S k fuel (listed.setIfInBounds i true) (a.put oi.dst v) w):D4a P md ops Q S k (fuel+1) listed a w:=Y3b hi (Region.noSelect_spec hs) hQ hk hke fuel listed a w (Region.free_spec hi hf) (by simpa using hr) hy hS hkl hik h
theorem F2a(i:Nat)(oi:Oper){fuel:Nat}{listed:Array Bool}{a:Act}{w:World}(hr:Region.ready md ops listed=[i])(hi:ops[i]? = some oi)
(h:∀K:Act->World->Prop,(∀a' w',((listed.setIfInBounds i true).getD k false=false->S w')->D4a P md ops Q S k fuel (listed.setIfInBounds i true) a' w'->K a' w')->if Region.wanted oi (yielded ops a.tmps)=true then oi.wp P a w K Q else K (a.put oi.dst undef) w):D4a P md ops Q S k (fuel+1) listed a w:=by
 refine⟨λh0=>(by rw[h0] at hr;cases hr),λj hj=>?_⟩;rw[hr] at hj;obtain rfl:j=i:=by simpa using hj
 have h1:=h (λa' w'=>((listed.setIfInBounds j true).getD k false=false->S w')/\D4a P md ops Q S k fuel (listed.setIfInBounds j true) a' w') λ_ _ h2 h3=>⟨h2,h3⟩
 unfold wpOp;simp only[hi];by_cases hw:Region.wanted oi (yielded ops a.tmps)=true
 ·rw[if_pos hw] at h1⊢;exact .inl h1
 ·rw[if_neg hw] at h1⊢;exact h1
theorem l1b{listed:Array Bool}{a:Act}{w:World}(hr:Region.ready md ops listed=[])(h:Q .normal a w) :
  ∀fuel,D4a P md ops Q S k fuel listed a w
 | 0=>⟨hr,h⟩
 | _+1=>⟨λ_=>h,by rw[hr];simp⟩
theorem U2a{fuel:Nat}{listed:Array Bool}{a:Act}{w:World}(h:∀a',a'=a->D4a P md ops Q S k fuel listed a' w):D4a P md ops Q S k fuel listed a w:=h a rfl
theorem g7a{id:Nat}{a:Act}{w:World}(k:Nat)(S:World->Prop)(hm:P.follows .mixedOrders=true)
(h:D4a P .any ops Q S k ops.size (Array.replicate ops.size false) a { w with drawn:=w.drawn+1 }):(Code.region id ops true).wp P Q a w:=wp_region_any hm (s2b _ _ _ _ h)
end
set_option maxRecDepth 100000
theorem V0c(g:Nat)(w:World):(Instr.fieldAt 137 (.pointer (some ⟨g,0,none⟩)) 0).run Tryz.prog w=.ok (.pointer (some ⟨g,0,none⟩)) w:=by go_simp
theorem W0c(g:Nat)(w:World):(Instr.fieldAt 137 (.pointer (some ⟨g,0,none⟩)) 1).run Tryz.prog w=.ok (.pointer (some ⟨g,3,none⟩)) w:=by go_simp
theorem P9b(g:Nat)(w:World):(Instr.fieldAt 34 (.pointer (some ⟨g,3,none⟩)) 0).run Tryz.prog w=.ok (.pointer (some ⟨g,3,none⟩)) w:=by go_simp
theorem Q9b:(Tryz.prog.info? 22).map (λi=>(i.zero,i.size,i.bytes))=some (some (.int .u16 0),1,2):=by kernel_rfl
theorem m1b{P:Program}{ops:Array Oper}{o:Oper}{a:Act}{w:World}{K:Act->World->Prop}{Q:Exit->Act->World->Prop}{E:Prop}(hgd:o.guard=none)(s x:Operand)(k:IntKind)(T e:TypeId)(bytes:Nat)
(ht:P.underlying T=some (.slice e))(hi:(P.info? e).map (λi=>(i.zero,i.size,i.bytes))=some (some (.int k 0),1,bytes))
(ho:o.op=.call { callee:=.builtin .append,args:=#[s,x],argTypes:=#[T,T] })
(base:Nat)(v:Value)(xs ys:List Int)(g2 m c:Nat)(hm:ys.length=m)(hs:a.eval s=v)(hx:a.eval x=.slice (some ⟨g2,0,none⟩) m c)
(hown:O3a k e w base v xs)(hY:Hid (Blk w g2 e (ys.map (Value.int k))))(hlen:(xs.length+m)*bytes<=140737488355328)(h63:xs.length+m<=9223372036854775807)(hbase:base<=w.heap.size)
(h:∀v' w',Hid (O3a k e w' base v' (xs++ys))->Hid (Below base w w')->K (a.put o.dst v') w') :
  if Region.wanted o (yielded ops a.tmps)=true then Oper.wp P o a w K Q else E:=by
 have hw:Region.wanted o (yielded ops a.tmps)=true:=by simp[Region.wanted,hgd]
 rw[if_pos hw];obtain⟨i0,hi0,hz0,hz1,hz2⟩:=info_parts hi;have hr:=hY.out;refine wp_append_own _ s x T ho base e i0 (.int k 0) 1 bytes ht hi0 hz0 hz1 hz2 rfl (by omega) v xs.length (xs.map (Value.int k)) hs hown ⟨g2,0,none⟩ m c (ys.map (Value.int k)) hx (by simp[hm]) ?_
  (by intro v hv;obtain⟨x,_,rfl⟩:=List.mem_map.1 hv;rfl) (by unfold maxLen;omega) hlen hbase ?_
 ·intro j y hj;have e1:(⟨g2,0,none⟩:Addr).add j=⟨g2,j,none⟩:=by
   by_cases hj0:j=0
   ·subst hj0;simp[Addr.add]
   ·simp[Addr.add,hj0]
  rw[e1,hr.cell j,<-hj]
 ·intro v' w' hown' hgr _;refine h v' w' ?_ ((Below.refl base w).grown hgr hbase λi hi=>(hown.block hi).1);show World.ownsRow _ _ _ _ _ _ _
  rw[List.length_append,List.map_append,hm];exact hown'
theorem Q0a.thenBelow{g:Nat}{w w' w2:World}(a:Q0a g w w')(b:Below w.heap.size w' w2):Q0a g w w2:=⟨b.os.trans a.os,b.tape.trans a.tape,b.output.trans a.output,Nat.le_trans a.size b.size,λj hj hg=>(b.block j hj).trans (a.rest j hj hg)⟩
def D2a(xs:List Int)(r:Rd):Nat->List Int×Rd
 | 0=>([],r)
 | k+1=>((D2a xs r k).1++[(rdN xs 2 (D2a xs r k).2).1],(rdN xs 2 (D2a xs r k).2).2)
theorem h7a{xs:List Int}{s n:Nat}{r:Rd}(hl:xs.length=n)(h:r.p<=n):(rdN xs s r).2.p<=n:=by
 unfold rdN;split
 ·split
  ·exact h
  ·show r.p+s<=n;omega
 ·exact h
theorem Z4a{xs:List Int}(hx:Bytes xs)(r:Rd):0<=(rdN xs 2 r).1/\(rdN xs 2 r).1<=65535:=by
 unfold rdN;split
 ·split
  ·exact⟨Int.le_refl 0,by show(0:Int)<=65535;decide⟩
  ·have:=R1a xs hx r.p 2 65536 (by decide);exact⟨this.1,by show Z0a xs r.p 2<=65535;omega⟩
 ·exact⟨Int.le_refl 0,by show(0:Int)<=65535;decide⟩
theorem I9a{xs:List Int}{n:Nat}{r:Rd}(hl:xs.length=n)(h:r.p<=n)(k:Nat):(D2a xs r k).2.p<=n:=by
 induction k with
 | zero=>exact h
 | succ k ih=>exact h7a hl ih
theorem t2b{xs:List Int}{r:Rd}(k:Nat):(D2a xs r k).1.length=k:=by
 induction k with
 | zero=>rfl
 | succ k ih=>simp[D2a,ih]
def v1a(xs:List Int)(r:Rd):List Int×Rd:=if 16<(rdN xs 2 r).1 then ([],⟨(rdN xs 2 r).2.p,3⟩) else D2a xs (rdN xs 2 r).2 (rdN xs 2 r).1.toNat
def K8a(w:World)(g:Nat)(T:TypeId)(A:Option Addr)(n c:Nat)(q:List Int×Rd)(tail:List Value)(e:Ending)(w':World):Prop:=e=.returned (.tuple #[])/\∃v,PRd w' g T A n c q.2 (v::tail)/\O3a .u16 22 w' w.heap.size v q.1/\Q0a g w w'
theorem R9b(w:World)(g B:Nat)(T:TypeId)(A:Option Addr)(n c:Nat)(xs:List Int)(r:Rd)(tail:List Value)(hB:PRd w g T A n c r (.slice none 0 0::tail))(hx:Holds w B A n c xs)(hg:B<=g)(hp:r.p<=n) :
  Calls Tryz.prog 111 #[.pointer (some ⟨g,0,none⟩)] w (K8a w g T A n c (v1a xs r) tail):=by
 have hlt:=hB.lt;have hBs:B<=w.heap.size:=by have:g<w.heap.size:=hlt;omega
 have C1:=o6a w g T A n c xs r 2 (.slice none 0 0::tail) hB (hx.mono hBs) hp (by decide);unfold J8a at C1;have hbd:=Z4a hx.byte r;have hpl:=h7a (s:=2) (r:=r) hx.len hp;obtain⟨hb0,hb1⟩:=hbd;have hl:=hx.len;have HX0:=hI hx;by_cases h16:16<(rdN xs 2 r).1
 ·have HQ:Hid (∀e w',(e=.returned (.tuple #[])/\Blk w' g T (.slice A n c::.int .i64 (rdN xs 2 r).2.p::.int .i64 3::.slice none 0 0::tail)/\Q0a g w w')->K8a w g T A n c (v1a xs r) tail e w'):=by rintro e w' ⟨h1,h2,h3⟩;unfold v1a;rw[if_pos h16];exact⟨h1,_,h2,O3a.nil _ _ _ _,h3⟩
  obtain⟨z,hz⟩:∃z,z=(rdN xs 2 r).1:=⟨_,rfl⟩;obtain⟨q,hq⟩:∃q,q=(rdN xs 2 r).2:=⟨_,rfl⟩;rw[<-hz] at C1 hb0 hb1 h16;rw[<-hq] at C1 HQ;have C1':=hI C1;clear C1 hz hq hB hx hl;go_enter Tryz.func111,Tryz.ntmps111;go_wp2_with fail;refine C1'.out.mono ?_;rintro e w1 ⟨rfl,hB1,hS1⟩;have HB1:Hid (Blk w1 g T (.slice A n c::.int .i64 q.p::.int .i64 q.e::.slice none 0 0::tail)):=hB1;have HS1:=hI hS1;have gd:w1.cell? ⟨g,2,none⟩=some (.int .i64 q.e):=HB1.out.at rfl;have gf:=Blk.frozen HB1.out 2;clear hB1 hS1;go_wp2;go_end0;exact HQ.out _ _ ⟨rfl,Blk.set HB1.out 2 _,HS1.out.setCell 2 _⟩
 ·have HQ:Hid (∀k:Nat,(rdN xs 2 r).1=(k:Int)->∀e w',(e=.returned (.tuple #[])/\∃v,Blk w' g T (.slice A n c::.int .i64 (D2a xs (rdN xs 2 r).2 k).2.p::.int .i64 (D2a xs (rdN xs 2 r).2 k).2.e::v::tail)/\O3a .u16 22 w' w.heap.size v (D2a xs (rdN xs 2 r).2 k).1/\Q0a g w w')->K8a w g T A n c (v1a xs r) tail e w'):=by rintro k hk e w' hh;unfold v1a;rw[if_neg h16,hk,Int.toNat_natCast];exact hh
  obtain⟨N,hN⟩:∃N:Nat,(rdN xs 2 r).1=(N:Int):=⟨(rdN xs 2 r).1.toNat,by omega⟩;have HQ2:=hI (HQ.out N hN);obtain⟨q,hq⟩:∃q,q=(rdN xs 2 r).2:=⟨_,rfl⟩;rw[<-hq] at C1 HQ2 hpl;rw[hN] at C1 h16 hb1;have hN16:N<=16:=by omega
  have C1':=hI C1;have HST:Hid (∀j,(D2a xs q (j+1)).1=(D2a xs q j).1++[(rdN xs 2 (D2a xs q j).2).1]/\(D2a xs q (j+1)).2=(rdN xs 2 (D2a xs q j).2).2):=λj=>⟨rfl,rfl⟩
  have HPL:Hid (∀j,(D2a xs q j).2.p<=n):=λj=>I9a hl hpl j
  have HLN:Hid (∀j,(D2a xs q j).1.length=j):=λj=>t2b j
  have CN:Hid (∀(w:World) (r':Rd) (v:Value),PRd w g T A n c r' (v::tail)->Holds w w.heap.size A n c xs->r'.p<=n->Calls Tryz.prog 119 #[.pointer (some ⟨g,0,none⟩),.int .i64 2] w λe w'=>e=.returned (.int .u64 (rdN xs 2 r').1)/\PRd w' g T A n c (rdN xs 2 r').2 (v::tail)/\Q0a g w w'):=λw r' v h1 h2 h3=>o6a w g T A n c xs r' 2 (v::tail) h1 h2 h3 (by decide)
  have HBD:Hid (∀r',0<=(rdN xs 2 r').1/\(rdN xs 2 r').1<=65535):=λr'=>Z4a hx.byte r'
  obtain⟨nums,hnums⟩:∃f,f=D2a xs q:=⟨_,rfl⟩;have H0:Hid (nums 0=([],q)):=by show _=_;rw[hnums];rfl
  rw[<-hnums] at HST HPL HLN HQ2;obtain⟨num2,hnum2⟩:∃f,f=rdN xs 2:=⟨_,rfl⟩;rw[<-hnum2] at CN HST HBD;clear HQ hN hq hnums hnum2 hB hx hl C1 h16 hb0 hb1 hpl hp;go_enter Tryz.func111,Tryz.ntmps111;go_wp2_with fail;refine C1'.out.mono ?_;rintro e w1 ⟨rfl,hB1,hS1⟩;have HB1:Hid (Blk w1 g T (.slice A n c::.int .i64 q.p::.int .i64 q.e::.slice none 0 0::tail)):=hB1;have HS1:=hI hS1;clear hB1 hS1 C1';go_wp2;go_loopw [14] (λi wr=>∃j:Nat,i=.int .u64 j/\j<=N/\∃v,Hid (Blk wr g T (.slice A n c::.int .i64 (nums j).2.p::.int .i64 (nums j).2.e::v::tail))/\Hid (O3a .u16 22 wr w.heap.size v (nums j).1)/\Hid (Q0a g w wr)) (λi _=>N-(intOf i).toNat)
  case atStart=>exact⟨0,rfl,Nat.zero_le _,.slice none 0 0,by rw[H0.out];exact HB1,by rw[H0.out];exact O3a.nil _ _ _ _,HS1⟩
  case round=>
   obtain⟨j,rfl,hj,v,HK,HO,HS⟩:=hrel;by_cases hlt2:j<N
   ·have HX:Hid (Holds wr wr.heap.size A n c xs):=(HX0.out.below (HS.out.below hg hBs)).mono (Nat.le_trans hBs HS.out.size);have CNj:=CN.out wr.drew (nums j).2 v HK.out.drew HX.out.drew (HPL.out j);obtain⟨e1,e2⟩:=HST.out j;rw[<-e2] at CNj;obtain⟨z0,z1⟩:=HBD.out (nums j).2;obtain⟨z,hz⟩:∃z,z=(num2 (nums j).2).1:=⟨_,rfl⟩;rw[<-hz] at CNj e1 z0 z1;have CNJ:=hI CNj;have E1:=hI e1;have hLn:=HLN.out j;have hz16:IntKind.u16.wrap z=z:=by rw[IntKind.wrap_u16];omega
    have hsz:=HS.out.size;obtain⟨r1,hr1⟩:∃r,r=(nums (j+1)).2:=⟨_,rfl⟩;have HR1:=hI hr1;rw[<-hr1] at CNJ;obtain⟨L,hL⟩:∃r,r=(nums j).1:=⟨_,rfl⟩;rw[<-hL] at HO E1 hLn;clear hr1 hL hz e1 e2 CNj;go_wp2;go_upto_region 5 with fail
    refine g7a 16 (λw'=>w'.cell? ⟨g,3,none⟩=some v) (by kernel_rfl) ?_;change D4a _ _ _ _ _ _ _ _ _ wr.drew
    have S0:Hid (wr.drew.cell? ⟨g,3,none⟩=some v):=(HK.out.at rfl);have b0:Hid (Q0a g w wr.drew):=(HS.out.drewN 1);refine o2a (i:=0) (v:=_) rfl (by kernel_rfl) (by kernel_rfl) (by kernel_rfl) (λ_ _ _ h=>h) rfl (by kernel_rfl) (by kernel_rfl) (by decide) (u0a (by kernel_rfl) (.tmp 0) rfl (.pointer (some ⟨g,0,none⟩)) (by kernel_rfl)) S0.out ?_;refine o2a (i:=1) (v:=_) rfl (by kernel_rfl) (by kernel_rfl) (by kernel_rfl) (λ_ _ _ h=>h) rfl (by kernel_rfl) (by kernel_rfl) (by decide) (u0a (by kernel_rfl) (.tmp 0) rfl (.pointer (some ⟨g,0,none⟩)) (by kernel_rfl)) S0.out ?_;refine o2a (i:=2) (v:=_) rfl (by kernel_rfl) (by kernel_rfl) (by kernel_rfl) (λ_ _ _ h=>h) rfl (by kernel_rfl) (by kernel_rfl) (by decide) (I0a (by kernel_rfl) (.tmp 17) rfl ⟨g,0,none⟩ (by kernel_rfl)) S0.out ?_;refine o2a (i:=3) (v:=_) rfl (by kernel_rfl) (by kernel_rfl) (by kernel_rfl) (λ_ _ _ h=>h) rfl (by kernel_rfl) (by kernel_rfl) (by decide) (w0a (by kernel_rfl) _ (.tmp 18) 1 rfl (.pointer (some ⟨g,0,none⟩)) (.pointer (some ⟨g,3,none⟩)) (by kernel_rfl) (W0c g)) S0.out ?_;refine o2a (i:=4) (v:=_) rfl (by kernel_rfl) (by kernel_rfl) (by kernel_rfl) (λ_ _ _ h=>h) rfl (by kernel_rfl) (by kernel_rfl) (by decide) (w0a (by kernel_rfl) _ (.tmp 19) 0 rfl (.pointer (some ⟨g,3,none⟩)) (.pointer (some ⟨g,3,none⟩)) (by kernel_rfl) (P9b g)) S0.out ?_;refine o2a (i:=5) (v:=_) rfl (by kernel_rfl) (by kernel_rfl) (by kernel_rfl) (λ_ _ _ h=>h) rfl (by kernel_rfl) (by kernel_rfl) (by decide) (l0a (by kernel_rfl) _ (.tmp 20) rfl g 3 (by kernel_rfl) v (λw h=>h) _ Tryz.underlying29 rfl) S0.out ?_;refine o2a (i:=6) (v:=_) rfl (by kernel_rfl) (by kernel_rfl) (by kernel_rfl) (λ_ _ _ h=>h) rfl (by kernel_rfl) (by kernel_rfl) (by decide) (u0a (by kernel_rfl) (.tmp 0) rfl (.pointer (some ⟨g,0,none⟩)) (by kernel_rfl)) S0.out ?_;refine o2a (i:=7) (v:=_) rfl (by kernel_rfl) (by kernel_rfl) (by kernel_rfl) (λ_ _ _ h=>h) rfl (by kernel_rfl) (by kernel_rfl) (by decide) (I0a (by kernel_rfl) (.tmp 22) rfl ⟨g,0,none⟩ (by kernel_rfl)) S0.out ?_;refine o2a (i:=8) (v:=_) rfl (by kernel_rfl) (by kernel_rfl) (by kernel_rfl) (λ_ _ _ h=>h) rfl (by kernel_rfl) (by kernel_rfl) (by decide) (w0a (by kernel_rfl) _ (.tmp 23) 0 rfl (.pointer (some ⟨g,0,none⟩)) (.pointer (some ⟨g,0,none⟩)) (by kernel_rfl) (V0c g)) S0.out ?_;refine F2a 9 _ (by kernel_rfl) rfl λK hK=>?_
    go_simp;refine(CNJ.out).mono ?_;rintro e v1 ⟨rfl,hB1,hS1⟩;have S1:Hid (v1.cell? ⟨g,3,none⟩=some v):=(Blk.at hB1 rfl);have b1:Hid (Q0a g w v1):=b0.out.trans hS1;have HK1:Hid (Blk v1 g T (.slice A n c::.int .i64 r1.p::.int .i64 r1.e::v::tail)):=hB1;have HO1:Hid (O3a .u16 22 v1 w.heap.size v L):=HO.out.keep λi cs hi hc=>by obtain⟨hb,_⟩:=HO.out.block hi;exact hS1.rest i (Array.getElem?_eq_some_iff.1 hc).1 (by omega)
    refine hK _ _ (λ_=>S1.out) ?_;clear hK K;clear hB1 hS1;refine o2a (i:=10) (v:=(.int .u16 z)) rfl (by kernel_rfl) (by kernel_rfl) (by kernel_rfl) (λ_ _ _ h=>h) rfl (by kernel_rfl) (by kernel_rfl) (by decide) (.inl ⟨by kernel_rfl,λw _=>by go_simp⟩) S1.out ?_;refine U2a λa1 ha1=>?_
    refine F2a 11 _ (by kernel_rfl) rfl λK hK=>?_
    refine O0a rfl _ _ 1 _ rfl Tryz.underlying29 [.int .u16 z] (by rw[ha1];kernel_rfl) ?_;intro g2 v2 q2 q3 Y2 b2;have hs1:=b1.out.size;have HK2:=hI (HK1.out.over b2.out);have HO2:=hI (HO1.out.below b2.out);have HS2:=hI (b1.out.trans (Q0a.of_below b2.out g));refine hK _ _ (λ_=>HK2.out.at rfl) ?_;clear hK K;refine U2a λa2 ha2=>?_
    try rw[ha1] at ha2
    have e2_21:a2.eval (.tmp 21)=v:=by rw[ha2];kernel_rfl
    have e2_27:a2.eval (.tmp 27)=.slice (some ⟨g2,0,none⟩) 1 1:=by rw[ha2];kernel_rfl
    refine F2a 12 _ (by kernel_rfl) rfl λK hK=>?_
    refine m1b rfl (.tmp 21) (.tmp 27) .u16 29 22 2 Tryz.underlying29 Q9b rfl w.heap.size v L [z] g2 1 1 rfl e2_21 e2_27 HO2.out Y2 (by omega) (by omega) (by have:=b2.out.size;omega) ?_;intro u v3 ho3 b3;have HK3:=hI (Blk.below HK2.out b3.out hlt);have OU:u.oneCell'=true:=by obtain⟨_,_,_,rfl,_⟩:=ho3.out.open;rfl
    refine hK _ _ (λ_=>HK3.out.at rfl) ?_;clear hK K;refine U2a λa3 ha3=>?_
    try rw[ha2] at ha3
    have S3:Hid (v3.cell? ⟨g,3,none⟩=some v):=HK3.out.at rfl;rw[ha3];refine F2a 13 _ (by kernel_rfl) rfl λK hK=>?_
    go_simp;refine hK _ _ (λ_=>S3.out) ?_;clear hK K;refine F2a 14 _ (by kernel_rfl) rfl λK hK=>?_
    go_simp;refine hK _ _ (λ_=>S3.out) ?_;clear hK K;refine F2a 15 _ (by kernel_rfl) rfl λK hK=>?_
    go_simp;refine hK _ _ (λ_=>S3.out) ?_;clear hK K;refine U2a λa4 ha4=>?_
    try rw[ha3] at ha4
    have e4_31:a4.eval (.tmp 31)=.pointer (some ⟨g,3,none⟩):=by rw[ha4];kernel_rfl
    have e4_28:a4.eval (.tmp 28)=u:=by rw[ha4];kernel_rfl
    refine F2a 16 _ (by kernel_rfl) rfl λK hK=>?_
    refine Y7a rfl 29 (.tmp 31) (.tmp 28) (by kernel_rfl) g 3 e4_31 T _ u e4_28 HK3 (by show 3<_;simp only[List.length_cons];omega) (by kernel_rfl) OU ?_;intro v4 X4 O4 q4;refine hK _ _ (λh=>Bool.noConfusion (show true=false from h)) ?_;clear hK K;change D4a _ _ _ _ _ _ _ _ a4 v4
    rw[ha4];refine l1b (by kernel_rfl) ?_ _;have HB4:Hid (Blk v4 g T (.slice A n c::.int .i64 (nums (j+1)).2.p::.int .i64 (nums (j+1)).2.e::u::tail)):=by rw[<-HR1.out];exact X4.out
    have HO4:Hid (O3a .u16 22 v4 w.heap.size u (nums (j+1)).1):=by rw[E1.out];exact ho3.out.keep λi cs hi hc=>O4.out.rest i (by obtain⟨hb,_⟩:=ho3.out.block hi;omega)
    have HS4:=hI ((HS2.out.thenBelow b3.out).trans (Q0a.of_only O4.out));clear X4 O4 q4 ho3 b3 HK3 HS2 HO2 HK2;go_wp2;go_roundw
    case rel=>exact⟨j+1,by go_num,hlt2,u,HB4,HO4,HS4⟩
    case measure=>simp[intOf];omega
   ·obtain rfl:j=N:=by omega
    go_wp2;go_end0;exact HQ2.out _ _ ⟨rfl,v,HK.out,HO.out,HS.out⟩
def rd0:Rd:=⟨0,0⟩
def i7a(c:Int)(xs:List Int):m1a×Rd:=
 if c=0 then ({ i0a with dial:=(v1a xs rd0).1,guid:=(v0a xs 16 (v1a xs rd0).2).1 },(v0a xs 16 (v1a xs rd0).2).2)
 else if c=1 then ({ i0a with proof:=(v0a xs 32 rd0).1,user:=⟨(P0a xs (v0a xs 32 rd0).2).1.toArray⟩ },(P0a xs (v0a xs 32 rd0).2).2)
 else if c=3 then ({ i0a with share:=⟨(P0a xs rd0).1.toArray⟩ },(P0a xs rd0).2)
 else (i0a,rdZ xs 4 rd0)
def A2a(c:Int)(xs:List Int):Int:=if U0a c=true then H0a xs (i7a c xs).2 else 2
def B2a(c:Int)(xs:List Int):m1a:=if A2a c xs=0 then (i7a c xs).1 else i0a
def L8a(c:Int)(xs:List Int):M1a×Rd:=
 if c=0 then ({ q0a with dia:=(rdN xs 2 rd0).1,siz:=(rdN xs 4 (rdZ xs 2 (rdN xs 2 rd0).2)).1,chal:=(v0a xs 8 (rdN xs 4 (rdZ xs 2 (rdN xs 2 rd0).2)).2).1 },(v0a xs 8 (rdN xs 4 (rdZ xs 2 (rdN xs 2 rd0).2)).2).2)
 else (q0a,rdZ xs 4 rd0)
def t3a(c:Int)(xs:List Int):Int:=if U0a c=true then H0a xs (L8a c xs).2 else 2
def K3a(c:Int)(xs:List Int):M1a:=if t3a c xs=0 then (L8a c xs).1 else q0a
def U7b(w:World)(c:Int)(xs:List Int)(e:Ending)(w':World):Prop:=∃vd,e=.returned (.tuple #[.agg (j0a vd (.slice none 0 0) (.slice none 0 0) (B2a c xs)).toArray,.int .i64 (A2a c xs)])/\f1a w' w'.heap.size (j0a vd (.slice none 0 0) (.slice none 0 0) (B2a c xs)) (B2a c xs)/\Below w.heap.size w w'
def y2a(w:World)(c:Int)(xs:List Int)(e:Ending)(w':World):Prop:=∃vd,e=.returned (.tuple #[.agg (j0a vd (.slice none 0 0) (.slice none 0 0) (B2a c xs)).toArray,.int .i64 (A2a c xs)])/\f1a w' w'.heap.size (j0a vd (.slice none 0 0) (.slice none 0 0) (B2a c xs)) (B2a c xs)/\Below w.heap.size w w'/\(∀b off s n c,vd=.slice (some ⟨b,off,s⟩) n c->w.heap.size<=b)
def f4a(w:World)(c:Int)(xs:List Int)(e:Ending)(w':World):Prop:=e=.returned (.tuple #[.agg (r0a (.slice none 0 0) (.slice none 0 0) (K3a c xs)).toArray,.int .i64 (t3a c xs)])/\Below w.heap.size w w'
theorem n1b{cur:List Value}{off:Nat}{xs:List Int}(h:off+xs.length<=cur.length):(spliced cur off xs).length=cur.length:=by unfold spliced;simp only[List.length_append,List.length_take,List.length_map,List.length_drop];omega
theorem o1b{xs:List Int}{m n:Nat}{r:Rd}(hl:xs.length=n)(h:r.p<=n):(rdZ xs m r).p<=n:=by
 have:=z5a (m:=m) hl h;unfold rdZ;split
 ·split
  ·exact this
  ·exact this
 ·exact this
theorem M8a{xs:List Int}{n:Nat}{r:Rd}(hx:Bytes xs)(hl:xs.length=n)(h:r.p<=n):(P0a xs r).2.p<=n:=by
 unfold P0a;split
 ·have:=M3a hx (r.p:Int) (by omega);show(a1a xs r.p).toNat<=n
  omega
 ·exact h
theorem Z3b{xs:List Int}{n:Nat}{r:Rd}(hl:xs.length=n)(h:r.p<=n):(v1a xs r).2.p<=n:=by
 have:=h7a (s:=2) hl h;unfold v1a;split
 ·exact this
 ·exact I9a hl this _
theorem W3a{xs:List Int}{r:Rd}(h:H0a xs r=0):r.e=0:=by
 unfold H0a at h;split at h
 ·exact absurd h (by decide)
 ·exact h
theorem O3a.holdsF{k:IntKind}{e:TypeId}{w:World}{base:Nat}{v:Value}{xs:List Int}(h:O3a k e w base v xs):∃A n c,v=.slice A n c/\G1a (Value.int k) w w.heap.size A n c xs:=by
 obtain⟨A,n,c,rfl,h1,h2,h3,h4,h5⟩:=h.open;refine⟨A,n,c,rfl,h1,h2,h4,λh0=>?_⟩;obtain⟨g,rfl,_,hg,hc⟩:=h5 h0;refine⟨g,0,rfl,hg,λi x hx=>?_⟩;have hi:i<n:=by rw[<-h1];exact(List.getElem?_eq_some_iff.1 hx).1
 rw[Nat.zero_add,hc i hi];simp[List.getD_eq_getElem?_getD,hx]
theorem O3a.save{k:IntKind}{e:TypeId}{w w':World}{base g:Nat}{v:Value}{xs:List Int}(h:O3a k e w base v xs)(hS:Q0a g w w')(hg:g<base):O3a k e w' base v xs:=h.keep λi cs hi hc=>hS.rest i (Array.getElem?_eq_some_iff.1 hc).1 (by obtain⟨hb,_⟩:=h.block hi;omega)
theorem p1b{xs:List Int}(hx:Bytes xs)(r:Rd):0<=(rdN xs 4 r).1/\(rdN xs 4 r).1<=18446744073709551615:=by
 unfold rdN;split
 ·split
  ·exact⟨Int.le_refl 0,by show(0:Int)<=_;decide⟩
  ·have:=R1a xs hx r.p 4 4294967296 (by decide);exact⟨this.1,by show Z0a xs r.p 4<=_;omega⟩
 ·exact⟨Int.le_refl 0,by show(0:Int)<=_;decide⟩
theorem g5b{xs:List Int}(hx:Bytes xs)(r:Rd)(k:Nat):∀x∈(D2a xs r k).1,0<=x/\x<=65535:=by
 induction k with
 | zero=>intro x h;cases h
 | succ k ih=>
  intro x h;simp only[D2a,List.mem_append,List.mem_singleton] at h;rcases h with h | rfl
  ·exact ih x h
  ·exact Z4a hx _
theorem q1b{xs:List Int}(hx:Bytes xs)(r:Rd):∀x∈(v1a xs r).1,0<=x/\x<=65535:=by
 unfold v1a;split
 ·intro x h;cases h
 ·exact g5b hx _ _
theorem a4b{xs:List Int}{r:Rd}(h:(P0a xs r).2.e=0):r.e=0:=by
 unfold P0a at h;by_cases he:r.e=0
 ·exact he
 ·rw[if_neg he] at h;exact h
theorem V7b:(Tryz.prog.info? 137).map (λi=>(i.zero,i.size))=some (some (.agg (.slice none 0 0::.int .i64 0::.int .i64 0::j0a (.slice none 0 0) (.slice none 0 0) (.slice none 0 0) i0a).toArray),72):=by kernel_rfl
theorem g4a:(Tryz.prog.info? 137).map (·.size)=some 72:=by kernel_rfl
theorem r1b(w:World)(c:Int)(A:Option Addr)(n k:Nat)(xs:List Int)(hc:0<=c/\c<=65535)(hx:Holds w w.heap.size A n k xs) :
  Calls Tryz.prog 81 #[.int .u16 c,.slice A n k] w (y2a w c xs):=by
 have hl:=hx.len;have hrm:=hx.room;have HX:=hI hx;have hby:=hx.byte;have ZH:=hI H7a;have ZB:=hI V7b;have BZ:=B8a;have HZ:Hid ((j0a (.slice none 0 0) (.slice none 0 0) (.slice none 0 0) i0a).length=69):=I1a h0a;have HZ1:Hid (∀v∈j0a (.slice none 0 0) (.slice none 0 0) (.slice none 0 0) i0a,v.oneCell'=true):=(w2a w 0).one;have B1:Tryz.prog.built 135 [(0,.slice A n k)]=some (.slice A n k::.int .i64 0::.int .i64 0::([]:List Value)).toArray:=by kernel_rfl
 have B2:Tryz.prog.built 137 [(0,.agg #[.slice A n k,.int .i64 0,.int .i64 0])]=some (.slice A n k::.int .i64 0::.int .i64 0::j0a (.slice none 0 0) (.slice none 0 0) (.slice none 0 0) i0a).toArray:=by kernel_rfl
 have HZI:Hid (∀w':World,f1a w' w'.heap.size (j0a (.slice none 0 0) (.slice none 0 0) (.slice none 0 0) i0a) i0a):=λw'=>w2a w' _
 have HE:Hid (∀er,A2a c xs=er->er≠0->∀e w',e=.returned (.tuple #[.agg (j0a (.slice none 0 0) (.slice none 0 0) (.slice none 0 0) i0a).toArray,.int .i64 er])->Below w.heap.size w w'->y2a w c xs e w'):=by intro er h1 h2 e w' he hb;unfold y2a B2a;rw[h1,if_neg h2];exact⟨_,he,HZI.out w',hb,λ_ _ _ _ _ h=>by cases h⟩
 obtain⟨zs,hzs⟩:∃zs,zs=j0a (.slice none 0 0) (.slice none 0 0) (.slice none 0 0) i0a:=⟨_,rfl⟩;obtain⟨tl,htl⟩:∃tl,tl=zs.tail:=⟨_,rfl⟩;have HTL:Hid (zs=.slice none 0 0::tl):=by show _=_;rw[htl,hzs];rfl
 have HZS:=hI hzs;rw[<-hzs] at ZH ZB BZ HZ HZ1 B2 HE;clear hzs htl HZI;have HZB:Hid ((Value.slice none 0 0::Value.int .i64 0::Value.int .i64 0::zs).length=72):=by show _=_;simp only[List.length_cons,HZ.out]
 have HNB:Hid ((Value.slice A n k::Value.int .i64 0::Value.int .i64 0::zs).length=72):=by show _=_;simp only[List.length_cons,HZ.out]
 have HOB:Hid (∀v∈Value.slice A n k::Value.int .i64 0::Value.int .i64 0::zs,v.oneCell'=true):=by
  intro v hv;rcases List.mem_cons.1 hv with rfl | hv
  ·rfl
  rcases List.mem_cons.1 hv with rfl | hv
  ·rfl
  rcases List.mem_cons.1 hv with rfl | hv
  ·rfl
  exact HZ1.out v hv
 by_cases hk:U0a c=true;rotate_left
 ·have HQ:=hI (HE.out 2 (by unfold A2a;rw[if_neg hk]) (by decide));have hk':U0a c=false:=by simpa using hk
  have hc01:c≠0/\c≠1/\c≠2/\c≠3/\c≠4/\c≠13:=by unfold U0a at hk';simp at hk';omega
  obtain⟨h0,h1,h2,h3,h4,h13⟩:=hc01;have b0:(c==0)=false:=by simpa using h0
  have b1:(c==1)=false:=by simpa using h1
  have b2:(c==2)=false:=by simpa using h2
  have b3:(c==3)=false:=by simpa using h3
  have b4:(c==4)=false:=by simpa using h4
  have b13:(c==13)=false:=by simpa using h13
  clear hk hk' HE hx h0 h1 h2 h3 h4 h13;go_enter Tryz.func81,Tryz.ntmps81;go_wp2_with(first
   | ((with_reducible refine sN 4 ?_);refine a0a rfl _ rfl zs _ ZH ?_;intro h w1 hg1 hg2 Z1 L1)
   | ((with_reducible refine sN 9 ?_);refine k0a rfl _ _ rfl (.slice A n k::.int .i64 0::.int .i64 0::[]) (by refine Eq.trans ?_ B1;kernel_rfl) ?_)
   | ((with_reducible refine sN 10 ?_);refine k0a rfl _ _ rfl (.slice A n k::.int .i64 0::.int .i64 0::zs) (by refine Eq.trans ?_ B2;kernel_rfl) ?_)
   | ((with_reducible refine sN 6 ?_);refine a0a rfl _ rfl (.slice none 0 0::.int .i64 0::.int .i64 0::zs) _ ZB ?_;intro g w2 hg3 hg4 P02 L2)
   | ((with_reducible refine sT 6 ?_);refine b0a rfl _ (.tmp 6) (.tmp 10) rfl g rfl _ (.slice none 0 0::.int .i64 0::.int .i64 0::zs) (.slice A n k::.int .i64 0::.int .i64 0::zs) rfl P02 72 g4a HZB HNB HOB ?_;intro w3 P03 O3 hg5;have hsz:=L1.out.size;have hng:h≠g:=(by omega);have Z3:=hI ((Z1.out.over L2.out).only O3.out hng);have B3:Hid (Below w.heap.size w w3):=c0a (step L1.out L2.out) O3.out (by omega);have P3:Hid (PRd w3 g 137 A n k rd0 zs):=P03;have hwg:w.heap.size<=g:=(by omega);have hwh:w.heap.size<=h:=hg1)
   | ((with_reducible refine sN 12 ?_);refine x0a rfl _ rfl zs BZ ?_)
   | ((with_reducible refine sT 4 ?_);refine b0a rfl _ (.tmp 4) (.tmp 12) rfl h rfl _ zs zs rfl Z3 69 n0a HZ HZ HZ1 ?_;intro w10 K10 O10 hg10)
   | fail)
  refine bodyPost_ret (v:=.tuple #[.agg zs.toArray,.int .i64 2]) ?_ rfl (HQ.out _ _ rfl (c0a B3.out O10.out hwh));exact m0a rfl _ _ h _ _ (0,0) _ rfl K10.out Tryz.underlying34 rfl (by rw[n0a];have:=HZ.out;simp[this]) rfl
 by_cases h0:c=0
 ·subst h0;have p0:rd0.p<=n:=Nat.zero_le _;have p1:(v1a xs rd0).2.p<=n:=Z3b hl p0;have p2:(v0a xs 16 (v1a xs rd0).2).2.p<=n:=z5a hl p1;have CT:Hid (∀(w':World) (g:Nat),PRd w' g 137 A n k rd0 (.slice none 0 0::tl)->Holds w' w.heap.size A n k xs->w.heap.size<=g->Calls Tryz.prog 111 #[.pointer (some ⟨g,0,none⟩)] w' (K8a w' g 137 A n k (v1a xs rd0) tl)):=λw' g h1 h2 h3=>R9b w' g w.heap.size 137 A n k xs rd0 tl h1 h2 h3 p0
  have CF:Hid (∀(w':World) (g:Nat) (rest:List Value),PRd w' g 137 A n k (v1a xs rd0).2 rest->Holds w' w'.heap.size A n k xs->17<=rest.length->Calls Tryz.prog 112 #[.pointer (some ⟨g,0,none⟩),.slice (some ⟨g,4,none⟩) 16 16] w' (l3a w' g 137 A n k (v0a xs 16 (v1a xs rd0).2).2 (spliced rest 1 (v0a xs 16 (v1a xs rd0).2).1))):=λw' g rest h1 h2 h3=>n3b w' g 137 A n k xs _ 1 16 16 rest h1 h2 p1 (by decide) (by decide) h3
  have hok:=I8a (m:=16) (r:=(v1a xs rd0).2) hl;have hbyq:=u2a hby 16 (v1a xs rd0).2;have kdial:=q1b hby rd0;have CE:Hid (∀(w':World) (g:Nat) (rest:List Value),PRd w' g 137 A n k (v0a xs 16 (v1a xs rd0).2).2 rest->Calls Tryz.prog 115 #[.pointer (some ⟨g,0,none⟩)] w' λe w2=>e=.returned (.int .i64 (H0a xs (v0a xs 16 (v1a xs rd0).2).2))/\∃j,w'.drewN j=w2):=λw' g rest h1=>M7a w' g 137 A n k xs _ rest h1 hl hrm p2
  have hre:H0a xs (v0a xs 16 (v1a xs rd0).2).2=0->(v0a xs 16 (v1a xs rd0).2).2.e=0:=W3a;have hge:A2a 0 xs=H0a xs (v0a xs 16 (v1a xs rd0).2).2:=by unfold A2a i7a;rw[if_pos hk,if_pos rfl]
  by_cases he:H0a xs (v0a xs 16 (v1a xs rd0).2).2=0;rotate_left
  ·have HQ:=hI (HE.out _ hge he);have hne:(H0a xs (v0a xs 16 (v1a xs rd0).2).2 != 0)=true:=by simpa using he
   obtain⟨d,hd⟩:∃x,x=v1a xs rd0:=⟨_,rfl⟩;rw[<-hd] at CT CF p1 p2 hok hbyq kdial CE he hre HQ hne;clear hd;obtain⟨q,hq⟩:∃x,x=v0a xs 16 d.2:=⟨_,rfl⟩;rw[<-hq] at CF p2 hok hbyq CE he hre HQ hne;clear hq;obtain⟨er,her⟩:∃x,x=H0a xs q.2:=⟨_,rfl⟩;rw[<-her] at CE he HQ hne hre;clear her he hre;clear HE hx hk hge;go_enter Tryz.func81,Tryz.ntmps81;go_wp2_with(first
    | ((with_reducible refine sN 4 ?_);refine a0a rfl _ rfl zs _ ZH ?_;intro h w1 hg1 hg2 Z1 L1)
    | ((with_reducible refine sN 9 ?_);refine k0a rfl _ _ rfl (.slice A n k::.int .i64 0::.int .i64 0::[]) (by refine Eq.trans ?_ B1;kernel_rfl) ?_)
    | ((with_reducible refine sN 10 ?_);refine k0a rfl _ _ rfl (.slice A n k::.int .i64 0::.int .i64 0::zs) (by refine Eq.trans ?_ B2;kernel_rfl) ?_)
    | ((with_reducible refine sN 6 ?_);refine a0a rfl _ rfl (.slice none 0 0::.int .i64 0::.int .i64 0::zs) _ ZB ?_;intro g w2 hg3 hg4 P02 L2)
    | ((with_reducible refine sT 6 ?_);refine b0a rfl _ (.tmp 6) (.tmp 10) rfl g rfl _ (.slice none 0 0::.int .i64 0::.int .i64 0::zs) (.slice A n k::.int .i64 0::.int .i64 0::zs) rfl P02 72 g4a HZB HNB HOB ?_;intro w3 P03 O3 hg5;have hsz:=L1.out.size;have hng:h≠g:=(by omega);have Z3:=hI ((Z1.out.over L2.out).only O3.out hng);have B3:Hid (Below w.heap.size w w3):=c0a (step L1.out L2.out) O3.out (by omega);have P3:Hid (PRd w3 g 137 A n k rd0 zs):=P03;have hwg:w.heap.size<=g:=(by omega);have hwh:w.heap.size<=h:=hg1)
    | fail)
   have P3t:Hid (PRd w3 g 137 A n k rd0 (.slice none 0 0::tl)):=by rw[<-HTL.out];exact P3.out
   refine(CT.out w3 g P3t.out (HX.out.below B3.out) hwg).mono ?_;rintro e w4 ⟨rfl,vd,hP,hD,hS⟩;have P4:=hI hP;have Z4:=hI (Z3.out.save hS hng);have B4:=hI (B3.out.trans (hS.below hwg B3.out.size));have D4:=hI hD;have hgd:g<w3.heap.size:=P3.out.lt;have hhd:h<w3.heap.size:=Z3.out.lt;clear hP hS hD P3t P3 Z3 B3;have HV:Hid (17<=(vd::tl).length):=by show _<=_;have h:=HZ.out;rw[HTL.out] at h;simp only[List.length_cons] at h⊢;omega
   go_wp2_with fail;refine(CF.out w4 g _ P4.out ((HX.out.below B4.out).mono B4.out.size) HV.out).mono ?_;rintro e w5 ⟨rfl,hP,hS⟩;have P5':=hI hP;have Z5:=hI (Z4.out.save hS hng);have B5:=hI (B4.out.trans (hS.below hwg B4.out.size));have D5:=hI (D4.out.save hS hgd);clear hP hS P4 Z4 B4 D4;obtain⟨wd,hwd⟩:∃wd:World,wd=w3:=⟨_,rfl⟩;rw[<-hwd] at D5 hhd;clear hwd hgd;obtain⟨rs,hrs⟩:∃rs,rs=spliced (vd::tl) 1 q.1:=⟨_,rfl⟩;have HRS:=hI hrs;rw[<-hrs] at P5';have P5:=P5';clear hrs P5';go_wp2_with fail;refine(CE.out w5 g _ P5.out).mono ?_;rintro e w99 ⟨rfl,kk,rfl⟩;have Z99:=hI (Blk.drewN Z5.out kk);have P99:=hI (Blk.drewN P5.out kk);have B99:Hid (Below w.heap.size w (w5.drewN kk)):=step B5.out (G2a _ kk);obtain⟨wq,hwq⟩:∃wq,wq=w5.drewN kk:=⟨_,rfl⟩;rw[<-hwq] at Z99 P99 B99⊢;clear hwq P5 Z5 B5;go_wp2_with(first
    | ((with_reducible refine sN 48 ?_);refine x0a rfl _ rfl zs BZ ?_)
    | ((with_reducible refine sT 4 ?_);refine b0a rfl _ (.tmp 4) (.tmp 48) rfl h rfl _ zs zs rfl Z99 69 n0a HZ HZ HZ1 ?_;intro w10 K10 O10 hg10)
    | fail)
   refine bodyPost_ret (v:=.tuple #[.agg zs.toArray,.int .i64 er]) ?_ rfl (HQ.out _ _ rfl (c0a B99.out O10.out hwh));exact m0a rfl _ _ h _ _ (0,0) _ rfl K10.out Tryz.underlying34 rfl (by rw[n0a];have:=HZ.out;simp[this]) rfl
  have HQ:Hid (∀vd e w',e=.returned (.tuple #[.agg (j0a vd (.slice none 0 0) (.slice none 0 0) ({ i0a with dial:=(v1a xs rd0).1,guid:=(v0a xs 16 (v1a xs rd0).2).1 })).toArray,.int .i64 0])->f1a w' w'.heap.size (j0a vd (.slice none 0 0) (.slice none 0 0) ({ i0a with dial:=(v1a xs rd0).1,guid:=(v0a xs 16 (v1a xs rd0).2).1 })) ({ i0a with dial:=(v1a xs rd0).1,guid:=(v0a xs 16 (v1a xs rd0).2).1 })->Below w.heap.size w w'->(∀b off s n c,vd=.slice (some ⟨b,off,s⟩) n c->w.heap.size<=b)->y2a w 0 xs e w'):=by
   intro vd e w' h1 h2 h3 h9;have h4:B2a 0 xs={ i0a with dial:=(v1a xs rd0).1,guid:=(v0a xs 16 (v1a xs rd0).2).1 }:=by unfold B2a;rw[hge,he,if_pos rfl];unfold i7a;rw[if_pos rfl]
   unfold y2a;rw[h4,hge,he];exact⟨vd,h1,h2,h3,h9⟩
  obtain⟨d,hd⟩:∃x,x=v1a xs rd0:=⟨_,rfl⟩;rw[<-hd] at CT CF p1 p2 hok hbyq kdial CE he hre HQ;clear hd;obtain⟨q,hq⟩:∃x,x=v0a xs 16 d.2:=⟨_,rfl⟩;rw[<-hq] at CF p2 hok hbyq CE he hre HQ;clear hq;rw[he] at CE;have hre0:=hre he;have hql:=hok hre0;have kd:({ i0a with dial:=d.1 }:m1a).ok:=⟨kdial,h0a.glen,h0a.gbyte,h0a.plen,h0a.pbyte,h0a.acc,h0a.shr,h0a.way,h0a.opt,h0a.lev,h0a.dur,h0a.file,h0a.at_,h0a.n,h0a.data,h0a.locks,h0a.most,h0a.cls,h0a.siz⟩;have kw:({ i0a with dial:=d.1,guid:=q.1 }:m1a).ok:=⟨kdial,hql,hbyq,h0a.plen,h0a.pbyte,h0a.acc,h0a.shr,h0a.way,h0a.opt,h0a.lev,h0a.dur,h0a.file,h0a.at_,h0a.n,h0a.data,h0a.locks,h0a.most,h0a.cls,h0a.siz⟩;clear HE hx hk hge hre he hre0;go_enter Tryz.func81,Tryz.ntmps81;go_wp2_with(first
   | ((with_reducible refine sN 4 ?_);refine a0a rfl _ rfl zs _ ZH ?_;intro h w1 hg1 hg2 Z1 L1)
   | ((with_reducible refine sN 9 ?_);refine k0a rfl _ _ rfl (.slice A n k::.int .i64 0::.int .i64 0::[]) (by refine Eq.trans ?_ B1;kernel_rfl) ?_)
   | ((with_reducible refine sN 10 ?_);refine k0a rfl _ _ rfl (.slice A n k::.int .i64 0::.int .i64 0::zs) (by refine Eq.trans ?_ B2;kernel_rfl) ?_)
   | ((with_reducible refine sN 6 ?_);refine a0a rfl _ rfl (.slice none 0 0::.int .i64 0::.int .i64 0::zs) _ ZB ?_;intro g w2 hg3 hg4 P02 L2)
   | ((with_reducible refine sT 6 ?_);refine b0a rfl _ (.tmp 6) (.tmp 10) rfl g rfl _ (.slice none 0 0::.int .i64 0::.int .i64 0::zs) (.slice A n k::.int .i64 0::.int .i64 0::zs) rfl P02 72 g4a HZB HNB HOB ?_;intro w3 P03 O3 hg5;have hsz:=L1.out.size;have hng:h≠g:=(by omega);have Z3:=hI ((Z1.out.over L2.out).only O3.out hng);have B3:Hid (Below w.heap.size w w3):=c0a (step L1.out L2.out) O3.out (by omega);have P3:Hid (PRd w3 g 137 A n k rd0 zs):=P03;have hwg:w.heap.size<=g:=(by omega);have hwh:w.heap.size<=h:=hg1)
   | fail)
  have P3t:Hid (PRd w3 g 137 A n k rd0 (.slice none 0 0::tl)):=by rw[<-HTL.out];exact P3.out
  refine(CT.out w3 g P3t.out (HX.out.below B3.out) hwg).mono ?_;rintro e w4 ⟨rfl,vd,hP,hD,hS⟩;have P4:=hI hP;have Z4:=hI (Z3.out.save hS hng);have B4:=hI (B3.out.trans (hS.below hwg B3.out.size));have D4:=hI hD;have hgd:g<w3.heap.size:=P3.out.lt;have hhd:h<w3.heap.size:=Z3.out.lt;have hwd0:=B3.out.size;clear hP hS hD P3t P3 Z3 B3;have HV:Hid (17<=(vd::tl).length):=by show _<=_;have h:=HZ.out;rw[HTL.out] at h;simp only[List.length_cons] at h⊢;omega
  go_wp2_with fail;refine(CF.out w4 g _ P4.out ((HX.out.below B4.out).mono B4.out.size) HV.out).mono ?_;rintro e w5 ⟨rfl,hP,hS⟩;have P5':=hI hP;have Z5:=hI (Z4.out.save hS hng);have B5:=hI (B4.out.trans (hS.below hwg B4.out.size));have D5:=hI (D4.out.save hS hgd);clear hP hS P4 Z4 B4 D4;obtain⟨wd,hwd⟩:∃wd:World,wd=w3:=⟨_,rfl⟩;rw[<-hwd] at D5 hhd hwd0;clear hwd hgd;obtain⟨rs,hrs⟩:∃rs,rs=spliced (vd::tl) 1 q.1:=⟨_,rfl⟩;have HRS:=hI hrs;rw[<-hrs] at P5';have P5:=P5';clear hrs P5';go_wp2_with fail;have HEQ:Hid (rs=j0a vd (.slice none 0 0) (.slice none 0 0) ({ i0a with dial:=d.1,guid:=q.1 })):=by
   show _=_
   rw[HRS.out];have h:=E9a (vd:=vd) (vx:=.slice none 0 0) (vl:=.slice none 0 0) (a:={ i0a with dial:=d.1 }) kd q.1;rw[<-h];unfold spliced;rw[hql];have e1:vd::tl=j0a vd (.slice none 0 0) (.slice none 0 0) { i0a with dial:=d.1 }:=by have h1:=HTL.out;rw[HZS.out] at h1;injection h1 with _ h1;rw[<-h1];rfl
   rw[e1]
  have HRL:Hid (rs.length=69):=by show _=_;rw[HEQ.out];exact I1a kw
  have hvd1:vd.oneCell'=true:=by obtain⟨_,_,_,rfl,_⟩:=D5.out.open;rfl
  have HR1:Hid (∀v∈rs,v.oneCell'=true):=by rw[HEQ.out];exact x1a hvd1 rfl rfl
  refine(CE.out w5 g _ P5.out).mono ?_;rintro e w99 ⟨rfl,kk,rfl⟩;have Z99:=hI (Blk.drewN Z5.out kk);have P99:=hI (Blk.drewN P5.out kk);have B99:Hid (Below w.heap.size w (w5.drewN kk)):=step B5.out (G2a _ kk);have D99:Hid (O3a .u16 22 (w5.drewN kk) wd.heap.size vd d.1):=D5.out.keep λ_ _ _ _=>rfl
  obtain⟨wq,hwq⟩:∃wq,wq=w5.drewN kk:=⟨_,rfl⟩;rw[<-hwq] at Z99 P99 B99 D99⊢;clear hwq P5 Z5 B5;have hrg:Hid (wq.rangeAt g 3 rs):=Blk.range P99.out 3;go_wp2_with(first
   | ((with_reducible refine sN 51 ?_);refine t0a rfl _ (.tmp 50) rfl g 3 rfl rs _ hrg Tryz.underlying34 rfl 69 n0a HRL ?_)
   | ((with_reducible refine sT 4 ?_);refine b0a rfl _ (.tmp 4) (.tmp 51) rfl h rfl _ zs rs rfl Z99 69 n0a HZ HRL HR1 ?_;intro w10 K10 O10 hg10)
   | fail)
  refine bodyPost_ret (v:=.tuple #[.agg rs.toArray,.int .i64 0]) ?_ rfl ?_
  ·exact m0a rfl _ _ h _ _ (0,0) _ rfl K10.out Tryz.underlying34 rfl (by rw[n0a];have:=HRL.out;simp[this]) rfl
  ·have D10:O3a .u16 22 w10 wd.heap.size vd d.1:=D99.out.keep λi cs hi hc=>O10.out.rest i (by obtain⟨hb,_⟩:=D99.out.block hi;omega)
   obtain⟨Av,nv,cv,hv,hF⟩:=D10.holdsF;exact HQ.out vd _ w10 (congrArg (λr:List Value=>Ending.returned (.tuple #[.agg r.toArray,.int .i64 0])) HEQ.out) ⟨Av,nv,cv,none,0,0,none,0,0,by rw[hv],hF,Holds.nil _ _,d1a.nil _ _ _ _⟩ (c0a B99.out O10.out hwh) (λb off s n c h=>by obtain⟨hb,_⟩:=D10.block (i:=b) (by rw[h];rfl);exact Nat.le_trans hwd0 hb)
 by_cases h1:c=1
 ·subst h1;have p0:rd0.p<=n:=Nat.zero_le _;have p1:(v0a xs 32 rd0).2.p<=n:=z5a hl p0;have p2:(P0a xs (v0a xs 32 rd0).2).2.p<=n:=M8a hby hl p1;have CF:Hid (∀(w':World) (g:Nat) (rest:List Value),PRd w' g 137 A n k rd0 rest->Holds w' w'.heap.size A n k xs->49<=rest.length->Calls Tryz.prog 112 #[.pointer (some ⟨g,0,none⟩),.slice (some ⟨g,20,none⟩) 32 32] w' (l3a w' g 137 A n k (v0a xs 32 rd0).2 (spliced rest 17 (v0a xs 32 rd0).1))):=λw' g rest h1 h2 h3=>n3b w' g 137 A n k xs _ 17 32 32 rest h1 h2 p0 (by decide) (by decide) h3
  have CX:Hid (∀(w':World) (g:Nat) (rest:List Value),PRd w' g 137 A n k (v0a xs 32 rd0).2 rest->Holds w' w'.heap.size A n k xs->Calls Tryz.prog 113 #[.pointer (some ⟨g,0,none⟩)] w' (Y4a w' g 137 A n k (P0a xs (v0a xs 32 rd0).2) rest)):=λw' g rest h1 h2=>X3b w' g 137 A n k xs _ rest h1 h2 p1
  have hok:=I8a (m:=32) (r:=rd0) hl;have hbyq:=u2a hby 32 rd0;have hql:=Q5a (xs:=xs) (m:=32) (r:=rd0);have hte:(P0a xs (v0a xs 32 rd0).2).2.e=0->(v0a xs 32 rd0).2.e=0:=a4b;have CE:Hid (∀(w':World) (g:Nat) (rest:List Value),PRd w' g 137 A n k (P0a xs (v0a xs 32 rd0).2).2 rest->Calls Tryz.prog 115 #[.pointer (some ⟨g,0,none⟩)] w' λe w2=>e=.returned (.int .i64 (H0a xs (P0a xs (v0a xs 32 rd0).2).2))/\∃j,w'.drewN j=w2):=λw' g rest h1=>M7a w' g 137 A n k xs _ rest h1 hl hrm p2
  have hre:H0a xs (P0a xs (v0a xs 32 rd0).2).2=0->(P0a xs (v0a xs 32 rd0).2).2.e=0:=W3a;have hge:A2a 1 xs=H0a xs (P0a xs (v0a xs 32 rd0).2).2:=by unfold A2a i7a;rw[if_pos hk,if_neg (by decide),if_pos rfl]
  by_cases he:H0a xs (P0a xs (v0a xs 32 rd0).2).2=0;rotate_left
  ·have HQ:=hI (HE.out _ hge he);have hne:(H0a xs (P0a xs (v0a xs 32 rd0).2).2 != 0)=true:=by simpa using he
   obtain⟨q,hq⟩:∃x,x=v0a xs 32 rd0:=⟨_,rfl⟩;rw[<-hq] at CF CX p1 p2 hok hbyq hql hte CE he hre HQ hne;clear hq;obtain⟨t,ht⟩:∃x,x=P0a xs q.2:=⟨_,rfl⟩;rw[<-ht] at CX p2 hte CE he hre HQ hne;clear ht;obtain⟨er,her⟩:∃x,x=H0a xs t.2:=⟨_,rfl⟩;rw[<-her] at CE he HQ hne hre;clear her he hre;clear HE hx hk hge;go_enter Tryz.func81,Tryz.ntmps81;go_wp2_with(first
    | ((with_reducible refine sN 4 ?_);refine a0a rfl _ rfl zs _ ZH ?_;intro h w1 hg1 hg2 Z1 L1)
    | ((with_reducible refine sN 9 ?_);refine k0a rfl _ _ rfl (.slice A n k::.int .i64 0::.int .i64 0::[]) (by refine Eq.trans ?_ B1;kernel_rfl) ?_)
    | ((with_reducible refine sN 10 ?_);refine k0a rfl _ _ rfl (.slice A n k::.int .i64 0::.int .i64 0::zs) (by refine Eq.trans ?_ B2;kernel_rfl) ?_)
    | ((with_reducible refine sN 6 ?_);refine a0a rfl _ rfl (.slice none 0 0::.int .i64 0::.int .i64 0::zs) _ ZB ?_;intro g w2 hg3 hg4 P02 L2)
    | ((with_reducible refine sT 6 ?_);refine b0a rfl _ (.tmp 6) (.tmp 10) rfl g rfl _ (.slice none 0 0::.int .i64 0::.int .i64 0::zs) (.slice A n k::.int .i64 0::.int .i64 0::zs) rfl P02 72 g4a HZB HNB HOB ?_;intro w3 P03 O3 hg5;have hsz:=L1.out.size;have hng:h≠g:=(by omega);have Z3:=hI ((Z1.out.over L2.out).only O3.out hng);have B3:Hid (Below w.heap.size w w3):=c0a (step L1.out L2.out) O3.out (by omega);have P3:Hid (PRd w3 g 137 A n k rd0 zs):=P03;have hwg:w.heap.size<=g:=(by omega);have hwh:w.heap.size<=h:=hg1)
    | fail)
   have HV:Hid (49<=zs.length):=by show _<=_;rw[HZ.out];omega
   refine(CF.out w3 g _ P3.out ((HX.out.below B3.out).mono B3.out.size) HV.out).mono ?_;rintro e w4 ⟨rfl,hP,hS⟩;have P4':=hI hP;have Z4:=hI (Z3.out.save hS hng);have B4:=hI (B3.out.trans (hS.below hwg B3.out.size));clear hP hS P3 Z3 B3;obtain⟨r4,hr4⟩:∃rs,rs=spliced zs 17 q.1:=⟨_,rfl⟩;have HR4:=hI hr4;have hr4l:r4.length=69:=by rw[hr4,n1b (by have h:=HZ.out;have h2:=hql;omega)];exact HZ.out
   rw[<-hr4] at P4';have P4:=P4';clear hr4 P4';go_wp2_with fail;refine(CX.out w4 g _ P4.out ((HX.out.below B4.out).mono B4.out.size)).mono ?_;rintro e w5 ⟨rfl,hP,hS⟩;have P5:=hI hP;have Z5:=hI (Z4.out.save hS hng);have B5:=hI (B4.out.trans (hS.below hwg B4.out.size));clear hP hS P4 Z4 B4;obtain⟨rs,hrs⟩:∃rs,rs=r4.set 49 (.string ⟨t.1.toArray⟩):=⟨_,rfl⟩;have HRS:=hI hrs;have hst:∀u:Value,(Value.slice A n k::Value.int .i64 (t.2.p:Int)::Value.int .i64 t.2.e::r4).set 52 u=Value.slice A n k::Value.int .i64 (t.2.p:Int)::Value.int .i64 t.2.e::r4.set 49 u:=λ_=>rfl
   have HST:=hI (hst (.string ⟨t.1.toArray⟩));rw[<-hrs] at HST;clear hst hrs;obtain⟨tx,htx⟩:∃x:ByteArray,x=⟨t.1.toArray⟩:=⟨_,rfl⟩;have HTX:=hI htx;rw[<-htx] at HST HRS⊢;clear htx;obtain⟨cc,hcc⟩:∃x,x=Value.slice A n k::Value.int .i64 (t.2.p:Int)::Value.int .i64 t.2.e::r4:=⟨_,rfl⟩;have hcl:52<cc.length:=by rw[hcc];simp only[List.length_cons,hr4l];omega
   have HCL:=hI hcl;have PC:Hid (Blk w5 g 137 cc):=by rw[hcc];exact P5.out
   rw[<-hcc] at HST;clear hcc hcl P5 hr4l;go_wp2_with(first
    | ((with_reducible refine sT 31 ?_);refine d0a rfl _ (.tmp 31) (.tmp 29) rfl g 52 rfl _ cc (.string tx) rfl PC HCL (by kernel_rfl) rfl ?_;intro w6 P06 O6 q6;rw[HST.out] at P06;have P6:Hid (PRd w6 g 137 A n k t.2 rs):=P06;have Z6:=hI (Z5.out.only O6.out hng);have B6:Hid (Below w.heap.size w w6):=c0a B5.out O6.out hwg)
    | fail)
   clear P06 O6 q6 PC Z5 B5;refine(CE.out w6 g _ P6.out).mono ?_;rintro e w99 ⟨rfl,kk,rfl⟩;have Z99:=hI (Blk.drewN Z6.out kk);have P99:=hI (Blk.drewN P6.out kk);have B99:Hid (Below w.heap.size w (w6.drewN kk)):=step B6.out (G2a _ kk);obtain⟨wq,hwq⟩:∃wq,wq=w6.drewN kk:=⟨_,rfl⟩;rw[<-hwq] at Z99 P99 B99⊢;clear hwq P6 Z6 B6;go_wp2_with(first
    | ((with_reducible refine sN 48 ?_);refine x0a rfl _ rfl zs BZ ?_)
    | ((with_reducible refine sT 4 ?_);refine b0a rfl _ (.tmp 4) (.tmp 48) rfl h rfl _ zs zs rfl Z99 69 n0a HZ HZ HZ1 ?_;intro w10 K10 O10 hg10)
    | fail)
   refine bodyPost_ret (v:=.tuple #[.agg zs.toArray,.int .i64 er]) ?_ rfl (HQ.out _ _ rfl (c0a B99.out O10.out hwh));exact m0a rfl _ _ h _ _ (0,0) _ rfl K10.out Tryz.underlying34 rfl (by rw[n0a];have:=HZ.out;simp[this]) rfl
  have HQ:Hid (∀vd e w',e=.returned (.tuple #[.agg (j0a vd (.slice none 0 0) (.slice none 0 0) ({ i0a with proof:=(v0a xs 32 rd0).1,user:=⟨(P0a xs (v0a xs 32 rd0).2).1.toArray⟩ })).toArray,.int .i64 0])->f1a w' w'.heap.size (j0a vd (.slice none 0 0) (.slice none 0 0) ({ i0a with proof:=(v0a xs 32 rd0).1,user:=⟨(P0a xs (v0a xs 32 rd0).2).1.toArray⟩ })) ({ i0a with proof:=(v0a xs 32 rd0).1,user:=⟨(P0a xs (v0a xs 32 rd0).2).1.toArray⟩ })->Below w.heap.size w w'->(∀b off s n c,vd=.slice (some ⟨b,off,s⟩) n c->w.heap.size<=b)->y2a w 1 xs e w'):=by
   intro vd e w' h1 h2 h3 h9;have h4:B2a 1 xs={ i0a with proof:=(v0a xs 32 rd0).1,user:=⟨(P0a xs (v0a xs 32 rd0).2).1.toArray⟩ }:=by unfold B2a;rw[hge,he,if_pos rfl];unfold i7a;rw[if_neg (by decide),if_pos rfl]
   unfold y2a;rw[h4,hge,he];exact⟨vd,h1,h2,h3,h9⟩
  obtain⟨q,hq⟩:∃x,x=v0a xs 32 rd0:=⟨_,rfl⟩;rw[<-hq] at CF CX p1 p2 hok hbyq hql hte CE he hre HQ;clear hq;obtain⟨t,ht⟩:∃x,x=P0a xs q.2:=⟨_,rfl⟩;rw[<-ht] at CX p2 hte CE he hre HQ;clear ht;rw[he] at CE;have hre0:=hre he;have hqe:=hok (hte hre0);have kd:({ i0a with proof:=q.1 }:m1a).ok:=⟨h0a.dial,h0a.glen,h0a.gbyte,hqe,hbyq,h0a.acc,h0a.shr,h0a.way,h0a.opt,h0a.lev,h0a.dur,h0a.file,h0a.at_,h0a.n,h0a.data,h0a.locks,h0a.most,h0a.cls,h0a.siz⟩;have kw:({ i0a with proof:=q.1,user:=⟨t.1.toArray⟩ }:m1a).ok:=⟨kd.dial,kd.glen,kd.gbyte,kd.plen,kd.pbyte,kd.acc,kd.shr,kd.way,kd.opt,kd.lev,kd.dur,kd.file,kd.at_,kd.n,kd.data,kd.locks,kd.most,kd.cls,kd.siz⟩;clear HE hx hk hge hre he hre0;go_enter Tryz.func81,Tryz.ntmps81;go_wp2_with(first
   | ((with_reducible refine sN 4 ?_);refine a0a rfl _ rfl zs _ ZH ?_;intro h w1 hg1 hg2 Z1 L1)
   | ((with_reducible refine sN 9 ?_);refine k0a rfl _ _ rfl (.slice A n k::.int .i64 0::.int .i64 0::[]) (by refine Eq.trans ?_ B1;kernel_rfl) ?_)
   | ((with_reducible refine sN 10 ?_);refine k0a rfl _ _ rfl (.slice A n k::.int .i64 0::.int .i64 0::zs) (by refine Eq.trans ?_ B2;kernel_rfl) ?_)
   | ((with_reducible refine sN 6 ?_);refine a0a rfl _ rfl (.slice none 0 0::.int .i64 0::.int .i64 0::zs) _ ZB ?_;intro g w2 hg3 hg4 P02 L2)
   | ((with_reducible refine sT 6 ?_);refine b0a rfl _ (.tmp 6) (.tmp 10) rfl g rfl _ (.slice none 0 0::.int .i64 0::.int .i64 0::zs) (.slice A n k::.int .i64 0::.int .i64 0::zs) rfl P02 72 g4a HZB HNB HOB ?_;intro w3 P03 O3 hg5;have hsz:=L1.out.size;have hng:h≠g:=(by omega);have Z3:=hI ((Z1.out.over L2.out).only O3.out hng);have B3:Hid (Below w.heap.size w w3):=c0a (step L1.out L2.out) O3.out (by omega);have P3:Hid (PRd w3 g 137 A n k rd0 zs):=P03;have hwg:w.heap.size<=g:=(by omega);have hwh:w.heap.size<=h:=hg1)
   | fail)
  have HV:Hid (49<=zs.length):=by show _<=_;rw[HZ.out];omega
  refine(CF.out w3 g _ P3.out ((HX.out.below B3.out).mono B3.out.size) HV.out).mono ?_;rintro e w4 ⟨rfl,hP,hS⟩;have P4':=hI hP;have Z4:=hI (Z3.out.save hS hng);have B4:=hI (B3.out.trans (hS.below hwg B3.out.size));clear hP hS P3 Z3 B3;obtain⟨r4,hr4⟩:∃rs,rs=spliced zs 17 q.1:=⟨_,rfl⟩;have HR4:=hI hr4;have hr4l:r4.length=69:=by rw[hr4,n1b (by have h:=HZ.out;have h2:=hql;omega)];exact HZ.out
  rw[<-hr4] at P4';have P4:=P4';clear hr4 P4';go_wp2_with fail;refine(CX.out w4 g _ P4.out ((HX.out.below B4.out).mono B4.out.size)).mono ?_;rintro e w5 ⟨rfl,hP,hS⟩;have P5:=hI hP;have Z5:=hI (Z4.out.save hS hng);have B5:=hI (B4.out.trans (hS.below hwg B4.out.size));clear hP hS P4 Z4 B4;obtain⟨rs,hrs⟩:∃rs,rs=r4.set 49 (.string ⟨t.1.toArray⟩):=⟨_,rfl⟩;have HRS:=hI hrs;have hst:∀u:Value,(Value.slice A n k::Value.int .i64 (t.2.p:Int)::Value.int .i64 t.2.e::r4).set 52 u=Value.slice A n k::Value.int .i64 (t.2.p:Int)::Value.int .i64 t.2.e::r4.set 49 u:=λ_=>rfl
  have HST:=hI (hst (.string ⟨t.1.toArray⟩));rw[<-hrs] at HST;clear hst hrs;obtain⟨tx,htx⟩:∃x:ByteArray,x=⟨t.1.toArray⟩:=⟨_,rfl⟩;have HTX:=hI htx;rw[<-htx] at HST HRS⊢;clear htx;obtain⟨cc,hcc⟩:∃x,x=Value.slice A n k::Value.int .i64 (t.2.p:Int)::Value.int .i64 t.2.e::r4:=⟨_,rfl⟩;have hcl:52<cc.length:=by rw[hcc];simp only[List.length_cons,hr4l];omega
  have HCL:=hI hcl;have PC:Hid (Blk w5 g 137 cc):=by rw[hcc];exact P5.out
  rw[<-hcc] at HST;clear hcc hcl P5 hr4l;go_wp2_with(first
   | ((with_reducible refine sT 31 ?_);refine d0a rfl _ (.tmp 31) (.tmp 29) rfl g 52 rfl _ cc (.string tx) rfl PC HCL (by kernel_rfl) rfl ?_;intro w6 P06 O6 q6;rw[HST.out] at P06;have P6:Hid (PRd w6 g 137 A n k t.2 rs):=P06;have Z6:=hI (Z5.out.only O6.out hng);have B6:Hid (Below w.heap.size w w6):=c0a B5.out O6.out hwg)
   | fail)
  clear P06 O6 q6 PC Z5 B5;have HEQ:Hid (rs=j0a (.slice none 0 0) (.slice none 0 0) (.slice none 0 0) ({ i0a with proof:=q.1,user:=⟨t.1.toArray⟩ })):=by
   show _=_
   rw[HRS.out,HR4.out,HZS.out,HTX.out];have h:=F8a (vd:=.slice none 0 0) (vx:=.slice none 0 0) (vl:=.slice none 0 0) (a:=i0a) h0a q.1;have e1:spliced (j0a (.slice none 0 0) (.slice none 0 0) (.slice none 0 0) i0a) 17 q.1=j0a (.slice none 0 0) (.slice none 0 0) (.slice none 0 0) { i0a with proof:=q.1 }:=by rw[<-h];unfold spliced;rw[hqe]
   rw[e1];exact i1b (a:={ i0a with proof:=q.1 }) kd _
  have HRL:Hid (rs.length=69):=by show _=_;rw[HEQ.out];exact I1a kw
  have HR1:Hid (∀v∈rs,v.oneCell'=true):=by rw[HEQ.out];exact x1a rfl rfl rfl
  refine(CE.out w6 g _ P6.out).mono ?_;rintro e w99 ⟨rfl,kk,rfl⟩;have Z99:=hI (Blk.drewN Z6.out kk);have P99:=hI (Blk.drewN P6.out kk);have B99:Hid (Below w.heap.size w (w6.drewN kk)):=step B6.out (G2a _ kk);obtain⟨wq,hwq⟩:∃wq,wq=w6.drewN kk:=⟨_,rfl⟩;rw[<-hwq] at Z99 P99 B99⊢;clear hwq P6 Z6 B6;have hrg:Hid (wq.rangeAt g 3 rs):=Blk.range P99.out 3;go_wp2_with(first
   | ((with_reducible refine sN 51 ?_);refine t0a rfl _ (.tmp 50) rfl g 3 rfl rs _ hrg Tryz.underlying34 rfl 69 n0a HRL ?_)
   | ((with_reducible refine sT 4 ?_);refine b0a rfl _ (.tmp 4) (.tmp 51) rfl h rfl _ zs rs rfl Z99 69 n0a HZ HRL HR1 ?_;intro w10 K10 O10 hg10)
   | fail)
  refine bodyPost_ret (v:=.tuple #[.agg rs.toArray,.int .i64 0]) ?_ rfl ?_
  ·exact m0a rfl _ _ h _ _ (0,0) _ rfl K10.out Tryz.underlying34 rfl (by rw[n0a];have:=HRL.out;simp[this]) rfl
  ·exact HQ.out (.slice none 0 0) _ w10 (congrArg (λr:List Value=>Ending.returned (.tuple #[.agg r.toArray,.int .i64 0])) HEQ.out) ⟨none,0,0,none,0,0,none,0,0,rfl,G1a.nil _ _ _,Holds.nil _ _,d1a.nil _ _ _ _⟩ (c0a B99.out O10.out hwh) (λ_ _ _ _ _ h=>by cases h)
 by_cases h3:c=3
 ·subst h3;have p0:rd0.p<=n:=Nat.zero_le _;have p2:(P0a xs rd0).2.p<=n:=M8a hby hl p0;have CX:Hid (∀(w':World) (g:Nat) (rest:List Value),PRd w' g 137 A n k rd0 rest->Holds w' w'.heap.size A n k xs->Calls Tryz.prog 113 #[.pointer (some ⟨g,0,none⟩)] w' (Y4a w' g 137 A n k (P0a xs rd0) rest)):=λw' g rest h1 h2=>X3b w' g 137 A n k xs _ rest h1 h2 p0
  have CE:Hid (∀(w':World) (g:Nat) (rest:List Value),PRd w' g 137 A n k (P0a xs rd0).2 rest->Calls Tryz.prog 115 #[.pointer (some ⟨g,0,none⟩)] w' λe w2=>e=.returned (.int .i64 (H0a xs (P0a xs rd0).2))/\∃j,w'.drewN j=w2):=λw' g rest h1=>M7a w' g 137 A n k xs _ rest h1 hl hrm p2
  have hre:H0a xs (P0a xs rd0).2=0->(P0a xs rd0).2.e=0:=W3a;have hge:A2a 3 xs=H0a xs (P0a xs rd0).2:=by unfold A2a i7a;rw[if_pos hk,if_neg (by decide),if_neg (by decide),if_pos rfl]
  by_cases he:H0a xs (P0a xs rd0).2=0;rotate_left
  ·have HQ:=hI (HE.out _ hge he);have hne:(H0a xs (P0a xs rd0).2 != 0)=true:=by simpa using he
   obtain⟨t,ht⟩:∃x,x=P0a xs rd0:=⟨_,rfl⟩;rw[<-ht] at CX p2 CE he hre HQ hne;clear ht;obtain⟨er,her⟩:∃x,x=H0a xs t.2:=⟨_,rfl⟩;rw[<-her] at CE he HQ hne hre;clear her he hre;clear HE hx hk hge;go_enter Tryz.func81,Tryz.ntmps81;go_wp2_with(first
    | ((with_reducible refine sN 4 ?_);refine a0a rfl _ rfl zs _ ZH ?_;intro h w1 hg1 hg2 Z1 L1)
    | ((with_reducible refine sN 9 ?_);refine k0a rfl _ _ rfl (.slice A n k::.int .i64 0::.int .i64 0::[]) (by refine Eq.trans ?_ B1;kernel_rfl) ?_)
    | ((with_reducible refine sN 10 ?_);refine k0a rfl _ _ rfl (.slice A n k::.int .i64 0::.int .i64 0::zs) (by refine Eq.trans ?_ B2;kernel_rfl) ?_)
    | ((with_reducible refine sN 6 ?_);refine a0a rfl _ rfl (.slice none 0 0::.int .i64 0::.int .i64 0::zs) _ ZB ?_;intro g w2 hg3 hg4 P02 L2)
    | ((with_reducible refine sT 6 ?_);refine b0a rfl _ (.tmp 6) (.tmp 10) rfl g rfl _ (.slice none 0 0::.int .i64 0::.int .i64 0::zs) (.slice A n k::.int .i64 0::.int .i64 0::zs) rfl P02 72 g4a HZB HNB HOB ?_;intro w3 P03 O3 hg5;have hsz:=L1.out.size;have hng:h≠g:=(by omega);have Z3:=hI ((Z1.out.over L2.out).only O3.out hng);have B3:Hid (Below w.heap.size w w3):=c0a (step L1.out L2.out) O3.out (by omega);have P3:Hid (PRd w3 g 137 A n k rd0 zs):=P03;have hwg:w.heap.size<=g:=(by omega);have hwh:w.heap.size<=h:=hg1)
    | fail)
   refine(CX.out w3 g _ P3.out ((HX.out.below B3.out).mono B3.out.size)).mono ?_;rintro e w5 ⟨rfl,hP,hS⟩;have P5:=hI hP;have Z5:=hI (Z3.out.save hS hng);have B5:=hI (B3.out.trans (hS.below hwg B3.out.size));clear hP hS P3 Z3 B3;obtain⟨rs,hrs⟩:∃rs,rs=zs.set 50 (.string ⟨t.1.toArray⟩):=⟨_,rfl⟩;have HRS:=hI hrs;have hst:∀u:Value,(Value.slice A n k::Value.int .i64 (t.2.p:Int)::Value.int .i64 t.2.e::zs).set 53 u=Value.slice A n k::Value.int .i64 (t.2.p:Int)::Value.int .i64 t.2.e::zs.set 50 u:=λ_=>rfl
   have HST:=hI (hst (.string ⟨t.1.toArray⟩));rw[<-hrs] at HST;clear hst hrs;obtain⟨tx,htx⟩:∃x:ByteArray,x=⟨t.1.toArray⟩:=⟨_,rfl⟩;have HTX:=hI htx;rw[<-htx] at HST HRS⊢;clear htx;obtain⟨cc,hcc⟩:∃x,x=Value.slice A n k::Value.int .i64 (t.2.p:Int)::Value.int .i64 t.2.e::zs:=⟨_,rfl⟩;have hcl:53<cc.length:=by rw[hcc];simp only[List.length_cons,HZ.out];omega
   have HCL:=hI hcl;have PC:Hid (Blk w5 g 137 cc):=by rw[hcc];exact P5.out
   rw[<-hcc] at HST;clear hcc hcl P5;go_wp2_with(first
    | ((with_reducible refine sT 37 ?_);refine d0a rfl _ (.tmp 37) (.tmp 35) rfl g 53 rfl _ cc (.string tx) rfl PC HCL (by kernel_rfl) rfl ?_;intro w6 P06 O6 q6;rw[HST.out] at P06;have P6:Hid (PRd w6 g 137 A n k t.2 rs):=P06;have Z6:=hI (Z5.out.only O6.out hng);have B6:Hid (Below w.heap.size w w6):=c0a B5.out O6.out hwg)
    | fail)
   clear P06 O6 q6 PC Z5 B5;refine(CE.out w6 g _ P6.out).mono ?_;rintro e w99 ⟨rfl,kk,rfl⟩;have Z99:=hI (Blk.drewN Z6.out kk);have P99:=hI (Blk.drewN P6.out kk);have B99:Hid (Below w.heap.size w (w6.drewN kk)):=step B6.out (G2a _ kk);obtain⟨wq,hwq⟩:∃wq,wq=w6.drewN kk:=⟨_,rfl⟩;rw[<-hwq] at Z99 P99 B99⊢;clear hwq P6 Z6 B6;go_wp2_with(first
    | ((with_reducible refine sN 48 ?_);refine x0a rfl _ rfl zs BZ ?_)
    | ((with_reducible refine sT 4 ?_);refine b0a rfl _ (.tmp 4) (.tmp 48) rfl h rfl _ zs zs rfl Z99 69 n0a HZ HZ HZ1 ?_;intro w10 K10 O10 hg10)
    | fail)
   refine bodyPost_ret (v:=.tuple #[.agg zs.toArray,.int .i64 er]) ?_ rfl (HQ.out _ _ rfl (c0a B99.out O10.out hwh));exact m0a rfl _ _ h _ _ (0,0) _ rfl K10.out Tryz.underlying34 rfl (by rw[n0a];have:=HZ.out;simp[this]) rfl
  have HQ:Hid (∀vd e w',e=.returned (.tuple #[.agg (j0a vd (.slice none 0 0) (.slice none 0 0) ({ i0a with share:=⟨(P0a xs rd0).1.toArray⟩ })).toArray,.int .i64 0])->f1a w' w'.heap.size (j0a vd (.slice none 0 0) (.slice none 0 0) ({ i0a with share:=⟨(P0a xs rd0).1.toArray⟩ })) ({ i0a with share:=⟨(P0a xs rd0).1.toArray⟩ })->Below w.heap.size w w'->(∀b off s n c,vd=.slice (some ⟨b,off,s⟩) n c->w.heap.size<=b)->y2a w 3 xs e w'):=by
   intro vd e w' h1 h2 h3 h9;have h4:B2a 3 xs={ i0a with share:=⟨(P0a xs rd0).1.toArray⟩ }:=by unfold B2a;rw[hge,he,if_pos rfl];unfold i7a;rw[if_neg (by decide),if_neg (by decide),if_pos rfl]
   unfold y2a;rw[h4,hge,he];exact⟨vd,h1,h2,h3,h9⟩
  obtain⟨t,ht⟩:∃x,x=P0a xs rd0:=⟨_,rfl⟩;rw[<-ht] at CX p2 CE he hre HQ;clear ht;rw[he] at CE;have hre0:=hre he;have kw:({ i0a with share:=⟨t.1.toArray⟩ }:m1a).ok:=⟨h0a.dial,h0a.glen,h0a.gbyte,h0a.plen,h0a.pbyte,h0a.acc,h0a.shr,h0a.way,h0a.opt,h0a.lev,h0a.dur,h0a.file,h0a.at_,h0a.n,h0a.data,h0a.locks,h0a.most,h0a.cls,h0a.siz⟩;clear HE hx hk hge hre he hre0;go_enter Tryz.func81,Tryz.ntmps81;go_wp2_with(first
   | ((with_reducible refine sN 4 ?_);refine a0a rfl _ rfl zs _ ZH ?_;intro h w1 hg1 hg2 Z1 L1)
   | ((with_reducible refine sN 9 ?_);refine k0a rfl _ _ rfl (.slice A n k::.int .i64 0::.int .i64 0::[]) (by refine Eq.trans ?_ B1;kernel_rfl) ?_)
   | ((with_reducible refine sN 10 ?_);refine k0a rfl _ _ rfl (.slice A n k::.int .i64 0::.int .i64 0::zs) (by refine Eq.trans ?_ B2;kernel_rfl) ?_)
   | ((with_reducible refine sN 6 ?_);refine a0a rfl _ rfl (.slice none 0 0::.int .i64 0::.int .i64 0::zs) _ ZB ?_;intro g w2 hg3 hg4 P02 L2)
   | ((with_reducible refine sT 6 ?_);refine b0a rfl _ (.tmp 6) (.tmp 10) rfl g rfl _ (.slice none 0 0::.int .i64 0::.int .i64 0::zs) (.slice A n k::.int .i64 0::.int .i64 0::zs) rfl P02 72 g4a HZB HNB HOB ?_;intro w3 P03 O3 hg5;have hsz:=L1.out.size;have hng:h≠g:=(by omega);have Z3:=hI ((Z1.out.over L2.out).only O3.out hng);have B3:Hid (Below w.heap.size w w3):=c0a (step L1.out L2.out) O3.out (by omega);have P3:Hid (PRd w3 g 137 A n k rd0 zs):=P03;have hwg:w.heap.size<=g:=(by omega);have hwh:w.heap.size<=h:=hg1)
   | fail)
  refine(CX.out w3 g _ P3.out ((HX.out.below B3.out).mono B3.out.size)).mono ?_;rintro e w5 ⟨rfl,hP,hS⟩;have P5:=hI hP;have Z5:=hI (Z3.out.save hS hng);have B5:=hI (B3.out.trans (hS.below hwg B3.out.size));clear hP hS P3 Z3 B3;obtain⟨rs,hrs⟩:∃rs,rs=zs.set 50 (.string ⟨t.1.toArray⟩):=⟨_,rfl⟩;have HRS:=hI hrs;have hst:∀u:Value,(Value.slice A n k::Value.int .i64 (t.2.p:Int)::Value.int .i64 t.2.e::zs).set 53 u=Value.slice A n k::Value.int .i64 (t.2.p:Int)::Value.int .i64 t.2.e::zs.set 50 u:=λ_=>rfl
  have HST:=hI (hst (.string ⟨t.1.toArray⟩));rw[<-hrs] at HST;clear hst hrs;obtain⟨tx,htx⟩:∃x:ByteArray,x=⟨t.1.toArray⟩:=⟨_,rfl⟩;have HTX:=hI htx;rw[<-htx] at HST HRS⊢;clear htx;obtain⟨cc,hcc⟩:∃x,x=Value.slice A n k::Value.int .i64 (t.2.p:Int)::Value.int .i64 t.2.e::zs:=⟨_,rfl⟩;have hcl:53<cc.length:=by rw[hcc];simp only[List.length_cons,HZ.out];omega
  have HCL:=hI hcl;have PC:Hid (Blk w5 g 137 cc):=by rw[hcc];exact P5.out
  rw[<-hcc] at HST;clear hcc hcl P5;go_wp2_with(first
   | ((with_reducible refine sT 37 ?_);refine d0a rfl _ (.tmp 37) (.tmp 35) rfl g 53 rfl _ cc (.string tx) rfl PC HCL (by kernel_rfl) rfl ?_;intro w6 P06 O6 q6;rw[HST.out] at P06;have P6:Hid (PRd w6 g 137 A n k t.2 rs):=P06;have Z6:=hI (Z5.out.only O6.out hng);have B6:Hid (Below w.heap.size w w6):=c0a B5.out O6.out hwg)
   | fail)
  clear P06 O6 q6 PC Z5 B5;have HEQ:Hid (rs=j0a (.slice none 0 0) (.slice none 0 0) (.slice none 0 0) ({ i0a with share:=⟨t.1.toArray⟩ })):=by
   show _=_
   rw[HRS.out,HZS.out,HTX.out];exact F9a h0a _
  have HRL:Hid (rs.length=69):=by show _=_;rw[HEQ.out];exact I1a kw
  have HR1:Hid (∀v∈rs,v.oneCell'=true):=by rw[HEQ.out];exact x1a rfl rfl rfl
  refine(CE.out w6 g _ P6.out).mono ?_;rintro e w99 ⟨rfl,kk,rfl⟩;have Z99:=hI (Blk.drewN Z6.out kk);have P99:=hI (Blk.drewN P6.out kk);have B99:Hid (Below w.heap.size w (w6.drewN kk)):=step B6.out (G2a _ kk);obtain⟨wq,hwq⟩:∃wq,wq=w6.drewN kk:=⟨_,rfl⟩;rw[<-hwq] at Z99 P99 B99⊢;clear hwq P6 Z6 B6;have hrg:Hid (wq.rangeAt g 3 rs):=Blk.range P99.out 3;go_wp2_with(first
   | ((with_reducible refine sN 51 ?_);refine t0a rfl _ (.tmp 50) rfl g 3 rfl rs _ hrg Tryz.underlying34 rfl 69 n0a HRL ?_)
   | ((with_reducible refine sT 4 ?_);refine b0a rfl _ (.tmp 4) (.tmp 51) rfl h rfl _ zs rs rfl Z99 69 n0a HZ HRL HR1 ?_;intro w10 K10 O10 hg10)
   | fail)
  refine bodyPost_ret (v:=.tuple #[.agg rs.toArray,.int .i64 0]) ?_ rfl ?_
  ·exact m0a rfl _ _ h _ _ (0,0) _ rfl K10.out Tryz.underlying34 rfl (by rw[n0a];have:=HRL.out;simp[this]) rfl
  ·exact HQ.out (.slice none 0 0) _ w10 (congrArg (λr:List Value=>Ending.returned (.tuple #[.agg r.toArray,.int .i64 0])) HEQ.out) ⟨none,0,0,none,0,0,none,0,0,rfl,G1a.nil _ _ _,Holds.nil _ _,d1a.nil _ _ _ _⟩ (c0a B99.out O10.out hwh) (λ_ _ _ _ _ h=>by cases h)
 have hcc:c=2∨c=4∨c=13:=by unfold U0a at hk;simp at hk;omega
 have hge:A2a c xs=H0a xs (rdZ xs 4 rd0):=by unfold A2a i7a;rw[if_pos hk,if_neg (by omega),if_neg (by omega),if_neg (by omega)]
 have hgo:H0a xs (rdZ xs 4 rd0)=0->B2a c xs=i0a:=λhe=>by unfold B2a;rw[hge,he,if_pos rfl];unfold i7a;rw[if_neg (by omega),if_neg (by omega),if_neg (by omega)]
 obtain⟨cq,hcq⟩:∃x,x=c:=⟨_,rfl⟩;rw[show y2a w c xs=y2a w cq xs by rw[hcq]];rw[<-hcq] at HE hk hge hgo;clear hcq hc h0 h1 h3;rcases hcc with rfl | rfl | rfl
 all_goals
  have p0:rd0.p<=n:=Nat.zero_le _;have p1:(rdZ xs 4 rd0).p<=n:=o1b hl p0;have C1:Hid (∀(w':World) (g:Nat) (rest:List Value),PRd w' g 137 A n k rd0 rest->Holds w' w'.heap.size A n k xs->Calls Tryz.prog 114 #[.pointer (some ⟨g,0,none⟩),.int .i64 4] w' (l3a w' g 137 A n k (rdZ xs 4 rd0) rest)):=λw' g rest h1 h2=>h8a w' g 137 A n k xs _ 4 rest h1 h2 p0 (by decide)
  have CE:Hid (∀(w':World) (g:Nat) (rest:List Value),PRd w' g 137 A n k (rdZ xs 4 rd0) rest->Calls Tryz.prog 115 #[.pointer (some ⟨g,0,none⟩)] w' λe w2=>e=.returned (.int .i64 (H0a xs (rdZ xs 4 rd0)))/\∃j,w'.drewN j=w2):=λw' g rest h1=>M7a w' g 137 A n k xs _ rest h1 hl hrm p1
  have hre:H0a xs (rdZ xs 4 rd0)=0->(rdZ xs 4 rd0).e=0:=W3a;by_cases he:H0a xs (rdZ xs 4 rd0)=0;rotate_left
  ·have HQ:=hI (HE.out _ hge he);have hne:(H0a xs (rdZ xs 4 rd0) != 0)=true:=by simpa using he
   obtain⟨z,hz⟩:∃x,x=rdZ xs 4 rd0:=⟨_,rfl⟩;rw[<-hz] at C1 p1 CE he hre HQ hne;clear hz;obtain⟨er,her⟩:∃x,x=H0a xs z:=⟨_,rfl⟩;rw[<-her] at CE he HQ hne hre;clear her he hre;clear HE hx hk hge;go_enter Tryz.func81,Tryz.ntmps81;go_wp2_with(first
    | ((with_reducible refine sN 4 ?_);refine a0a rfl _ rfl zs _ ZH ?_;intro h w1 hg1 hg2 Z1 L1)
    | ((with_reducible refine sN 9 ?_);refine k0a rfl _ _ rfl (.slice A n k::.int .i64 0::.int .i64 0::[]) (by refine Eq.trans ?_ B1;kernel_rfl) ?_)
    | ((with_reducible refine sN 10 ?_);refine k0a rfl _ _ rfl (.slice A n k::.int .i64 0::.int .i64 0::zs) (by refine Eq.trans ?_ B2;kernel_rfl) ?_)
    | ((with_reducible refine sN 6 ?_);refine a0a rfl _ rfl (.slice none 0 0::.int .i64 0::.int .i64 0::zs) _ ZB ?_;intro g w2 hg3 hg4 P02 L2)
    | ((with_reducible refine sT 6 ?_);refine b0a rfl _ (.tmp 6) (.tmp 10) rfl g rfl _ (.slice none 0 0::.int .i64 0::.int .i64 0::zs) (.slice A n k::.int .i64 0::.int .i64 0::zs) rfl P02 72 g4a HZB HNB HOB ?_;intro w3 P03 O3 hg5;have hsz:=L1.out.size;have hng:h≠g:=(by omega);have Z3:=hI ((Z1.out.over L2.out).only O3.out hng);have B3:Hid (Below w.heap.size w w3):=c0a (step L1.out L2.out) O3.out (by omega);have P3:Hid (PRd w3 g 137 A n k rd0 zs):=P03;have hwg:w.heap.size<=g:=(by omega);have hwh:w.heap.size<=h:=hg1)
    | fail)
   refine(C1.out w3 g _ P3.out ((HX.out.below B3.out).mono B3.out.size)).mono ?_;rintro e w4 ⟨rfl,hP,hS⟩;have P4:=hI hP;have Z4:=hI (Z3.out.save hS hng);have B4:=hI (B3.out.trans (hS.below hwg B3.out.size));clear hP hS P3 Z3 B3;obtain⟨rs,hrs⟩:∃rs,rs=zs:=⟨_,rfl⟩;have HRS:=hI hrs;have P4':Hid (PRd w4 g 137 A n k z rs):=by rw[hrs];exact P4.out
   clear hrs P4;have P4:=P4';clear P4';go_wp2_with fail;refine(CE.out w4 g _ P4.out).mono ?_;rintro e w99 ⟨rfl,kk,rfl⟩;have Z99:=hI (Blk.drewN Z4.out kk);have P99:=hI (Blk.drewN P4.out kk);have B99:Hid (Below w.heap.size w (w4.drewN kk)):=step B4.out (G2a _ kk);obtain⟨wq,hwq⟩:∃wq,wq=w4.drewN kk:=⟨_,rfl⟩;rw[<-hwq] at Z99 P99 B99⊢;clear hwq P4 Z4 B4;go_wp2_with(first
    | ((with_reducible refine sN 48 ?_);refine x0a rfl _ rfl zs BZ ?_)
    | ((with_reducible refine sT 4 ?_);refine b0a rfl _ (.tmp 4) (.tmp 48) rfl h rfl _ zs zs rfl Z99 69 n0a HZ HZ HZ1 ?_;intro w10 K10 O10 hg10)
    | fail)
   refine bodyPost_ret (v:=.tuple #[.agg zs.toArray,.int .i64 er]) ?_ rfl (HQ.out _ _ rfl (c0a B99.out O10.out hwh));exact m0a rfl _ _ h _ _ (0,0) _ rfl K10.out Tryz.underlying34 rfl (by rw[n0a];have:=HZ.out;simp[this]) rfl
  have HQ:Hid (∀vd e w',e=.returned (.tuple #[.agg (j0a vd (.slice none 0 0) (.slice none 0 0) (i0a)).toArray,.int .i64 0])->f1a w' w'.heap.size (j0a vd (.slice none 0 0) (.slice none 0 0) (i0a)) (i0a)->Below w.heap.size w w'->(∀b off s n c,vd=.slice (some ⟨b,off,s⟩) n c->w.heap.size<=b)->y2a w cq xs e w'):=by intro vd e w' h1 h2 h3 h9;have h4:=hgo he;unfold y2a;rw[h4,hge,he];exact⟨vd,h1,h2,h3,h9⟩
  obtain⟨z,hz⟩:∃x,x=rdZ xs 4 rd0:=⟨_,rfl⟩;rw[<-hz] at C1 p1 CE he hre;clear hz;rw[he] at CE;have hre0:=hre he;clear HE hx hk hge hre he hre0;go_enter Tryz.func81,Tryz.ntmps81;go_wp2_with(first
   | ((with_reducible refine sN 4 ?_);refine a0a rfl _ rfl zs _ ZH ?_;intro h w1 hg1 hg2 Z1 L1)
   | ((with_reducible refine sN 9 ?_);refine k0a rfl _ _ rfl (.slice A n k::.int .i64 0::.int .i64 0::[]) (by refine Eq.trans ?_ B1;kernel_rfl) ?_)
   | ((with_reducible refine sN 10 ?_);refine k0a rfl _ _ rfl (.slice A n k::.int .i64 0::.int .i64 0::zs) (by refine Eq.trans ?_ B2;kernel_rfl) ?_)
   | ((with_reducible refine sN 6 ?_);refine a0a rfl _ rfl (.slice none 0 0::.int .i64 0::.int .i64 0::zs) _ ZB ?_;intro g w2 hg3 hg4 P02 L2)
   | ((with_reducible refine sT 6 ?_);refine b0a rfl _ (.tmp 6) (.tmp 10) rfl g rfl _ (.slice none 0 0::.int .i64 0::.int .i64 0::zs) (.slice A n k::.int .i64 0::.int .i64 0::zs) rfl P02 72 g4a HZB HNB HOB ?_;intro w3 P03 O3 hg5;have hsz:=L1.out.size;have hng:h≠g:=(by omega);have Z3:=hI ((Z1.out.over L2.out).only O3.out hng);have B3:Hid (Below w.heap.size w w3):=c0a (step L1.out L2.out) O3.out (by omega);have P3:Hid (PRd w3 g 137 A n k rd0 zs):=P03;have hwg:w.heap.size<=g:=(by omega);have hwh:w.heap.size<=h:=hg1)
   | fail)
  refine(C1.out w3 g _ P3.out ((HX.out.below B3.out).mono B3.out.size)).mono ?_;rintro e w4 ⟨rfl,hP,hS⟩;have P4:=hI hP;have Z4:=hI (Z3.out.save hS hng);have B4:=hI (B3.out.trans (hS.below hwg B3.out.size));clear hP hS P3 Z3 B3;obtain⟨rs,hrs⟩:∃rs,rs=zs:=⟨_,rfl⟩;have HRS:=hI hrs;have P4':Hid (PRd w4 g 137 A n k z rs):=by rw[hrs];exact P4.out
  clear hrs P4;have P4:=P4';clear P4';go_wp2_with fail;have HEQ:Hid (rs=j0a (.slice none 0 0) (.slice none 0 0) (.slice none 0 0) (i0a)):=by
   show _=_
   rw[HRS.out,HZS.out]
  have HRL:Hid (rs.length=69):=by show _=_;rw[HEQ.out];exact I1a h0a
  have HR1:Hid (∀v∈rs,v.oneCell'=true):=by rw[HEQ.out];exact x1a rfl rfl rfl
  refine(CE.out w4 g _ P4.out).mono ?_;rintro e w99 ⟨rfl,kk,rfl⟩;have Z99:=hI (Blk.drewN Z4.out kk);have P99:=hI (Blk.drewN P4.out kk);have B99:Hid (Below w.heap.size w (w4.drewN kk)):=step B4.out (G2a _ kk);obtain⟨wq,hwq⟩:∃wq,wq=w4.drewN kk:=⟨_,rfl⟩;rw[<-hwq] at Z99 P99 B99⊢;clear hwq P4 Z4 B4;have hrg:Hid (wq.rangeAt g 3 rs):=Blk.range P99.out 3;go_wp2_with(first
   | ((with_reducible refine sN 51 ?_);refine t0a rfl _ (.tmp 50) rfl g 3 rfl rs _ hrg Tryz.underlying34 rfl 69 n0a HRL ?_)
   | ((with_reducible refine sT 4 ?_);refine b0a rfl _ (.tmp 4) (.tmp 51) rfl h rfl _ zs rs rfl Z99 69 n0a HZ HRL HR1 ?_;intro w10 K10 O10 hg10)
   | fail)
  refine bodyPost_ret (v:=.tuple #[.agg rs.toArray,.int .i64 0]) ?_ rfl ?_
  ·exact m0a rfl _ _ h _ _ (0,0) _ rfl K10.out Tryz.underlying34 rfl (by rw[n0a];have:=HRL.out;simp[this]) rfl
  ·exact HQ.out (.slice none 0 0) _ w10 (congrArg (λr:List Value=>Ending.returned (.tuple #[.agg r.toArray,.int .i64 0])) HEQ.out) ⟨none,0,0,none,0,0,none,0,0,rfl,G1a.nil _ _ _,Holds.nil _ _,d1a.nil _ _ _ _⟩ (c0a B99.out O10.out hwh) (λ_ _ _ _ _ h=>by cases h)
theorem F6b(w:World)(c:Int)(A:Option Addr)(n k:Nat)(xs:List Int)(hc:0<=c/\c<=65535)(hx:Holds w w.heap.size A n k xs) :
  Calls Tryz.prog 81 #[.int .u16 c,.slice A n k] w (U7b w c xs):=(r1b w c A n k xs hc hx).mono λe w' ⟨vd,h1,h2,h3,_⟩=>⟨vd,h1,h2,h3⟩
theorem W7b:(Tryz.prog.info? 146).map (λi=>(i.zero,i.size))=some (some (.agg (.slice none 0 0::.int .i64 0::.int .i64 0::r0a (.slice none 0 0) (.slice none 0 0) q0a).toArray),23):=by kernel_rfl
theorem j7a:(Tryz.prog.info? 146).map (·.size)=some 23:=by kernel_rfl
theorem G6b(w:World)(c:Int)(A:Option Addr)(n k:Nat)(xs:List Int)(hc:0<=c/\c<=65535)(hx:Holds w w.heap.size A n k xs) :
  Calls Tryz.prog 83 #[.int .u16 c,.slice A n k] w (f4a w c xs):=by
 have hl:=hx.len;have hrm:=hx.room;have HX:=hI hx;have hby:=hx.byte;have ZH:=hI I7a;have ZB:=hI W7b;have BZ:=C8a;have HZ:Hid ((r0a (.slice none 0 0) (.slice none 0 0) q0a).length=20):=U1a G0a;have HZ1:Hid (∀v∈r0a (.slice none 0 0) (.slice none 0 0) q0a,v.oneCell'=true):=(E2a w 0).one;have B1:Tryz.prog.built 135 [(0,.slice A n k)]=some (.slice A n k::.int .i64 0::.int .i64 0::([]:List Value)).toArray:=by kernel_rfl
 have B2:Tryz.prog.built 146 [(0,.agg #[.slice A n k,.int .i64 0,.int .i64 0])]=some (.slice A n k::.int .i64 0::.int .i64 0::r0a (.slice none 0 0) (.slice none 0 0) q0a).toArray:=by kernel_rfl
 have HE:Hid (∀er,t3a c xs=er->er≠0->∀e w',e=.returned (.tuple #[.agg (r0a (.slice none 0 0) (.slice none 0 0) q0a).toArray,.int .i64 er])->Below w.heap.size w w'->f4a w c xs e w'):=by intro er h1 h2 e w' he hb;unfold f4a K3a;rw[h1,if_neg h2];exact⟨he,hb⟩
 obtain⟨zs,hzs⟩:∃zs,zs=r0a (.slice none 0 0) (.slice none 0 0) q0a:=⟨_,rfl⟩;have HZS:=hI hzs;rw[<-hzs] at ZH ZB BZ HZ HZ1 B2 HE;clear hzs;have HZB:Hid ((Value.slice none 0 0::Value.int .i64 0::Value.int .i64 0::zs).length=23):=by show _=_;simp only[List.length_cons,HZ.out]
 have HNB:Hid ((Value.slice A n k::Value.int .i64 0::Value.int .i64 0::zs).length=23):=by show _=_;simp only[List.length_cons,HZ.out]
 have HOB:Hid (∀v∈Value.slice A n k::Value.int .i64 0::Value.int .i64 0::zs,v.oneCell'=true):=by
  intro v hv;rcases List.mem_cons.1 hv with rfl | hv
  ·rfl
  rcases List.mem_cons.1 hv with rfl | hv
  ·rfl
  rcases List.mem_cons.1 hv with rfl | hv
  ·rfl
  exact HZ1.out v hv
 by_cases hk:U0a c=true;rotate_left
 ·have HQ:=hI (HE.out 2 (by unfold t3a;rw[if_neg hk]) (by decide));have hk':U0a c=false:=by simpa using hk
  have hc01:c≠0/\c≠1/\c≠2/\c≠3/\c≠4/\c≠13:=by unfold U0a at hk';simp at hk';omega
  obtain⟨h0,h1,h2,h3,h4,h13⟩:=hc01;have b0:(c==0)=false:=by simpa using h0
  have b1:(c==1)=false:=by simpa using h1
  have b2:(c==2)=false:=by simpa using h2
  have b3:(c==3)=false:=by simpa using h3
  have b4:(c==4)=false:=by simpa using h4
  have b13:(c==13)=false:=by simpa using h13
  clear hk hk' HE hx h0 h1 h2 h3 h4 h13;go_enter Tryz.func83,Tryz.ntmps83;go_wp2_with(first
   | ((with_reducible refine sN 4 ?_);refine a0a rfl _ rfl zs _ ZH ?_;intro h w1 hg1 hg2 Z1 L1)
   | ((with_reducible refine sN 9 ?_);refine k0a rfl _ _ rfl (.slice A n k::.int .i64 0::.int .i64 0::[]) (by refine Eq.trans ?_ B1;kernel_rfl) ?_)
   | ((with_reducible refine sN 10 ?_);refine k0a rfl _ _ rfl (.slice A n k::.int .i64 0::.int .i64 0::zs) (by refine Eq.trans ?_ B2;kernel_rfl) ?_)
   | ((with_reducible refine sN 6 ?_);refine a0a rfl _ rfl (.slice none 0 0::.int .i64 0::.int .i64 0::zs) _ ZB ?_;intro g w2 hg3 hg4 P02 L2)
   | ((with_reducible refine sT 6 ?_);refine b0a rfl _ (.tmp 6) (.tmp 10) rfl g rfl _ (.slice none 0 0::.int .i64 0::.int .i64 0::zs) (.slice A n k::.int .i64 0::.int .i64 0::zs) rfl P02 23 j7a HZB HNB HOB ?_;intro w3 P03 O3 hg5;have hsz:=L1.out.size;have hng:h≠g:=(by omega);have Z3:=hI ((Z1.out.over L2.out).only O3.out hng);have B3:Hid (Below w.heap.size w w3):=c0a (step L1.out L2.out) O3.out (by omega);have P3:Hid (PRd w3 g 146 A n k rd0 zs):=P03;have hwg:w.heap.size<=g:=(by omega);have hwh:w.heap.size<=h:=hg1)
   | ((with_reducible refine sN 12 ?_);refine x0a rfl _ rfl zs BZ ?_)
   | ((with_reducible refine sT 4 ?_);refine b0a rfl _ (.tmp 4) (.tmp 12) rfl h rfl _ zs zs rfl Z3 20 s0a HZ HZ HZ1 ?_;intro w10 K10 O10 hg10)
   | fail)
  refine bodyPost_ret (v:=.tuple #[.agg zs.toArray,.int .i64 2]) ?_ rfl (HQ.out _ _ rfl (c0a B3.out O10.out hwh));exact m0a rfl _ _ h _ _ (0,0) _ rfl K10.out Tryz.underlying39 rfl (by rw[s0a];have:=HZ.out;simp[this]) rfl
 by_cases h0:c=0
 ·subst h0;have p0:rd0.p<=n:=Nat.zero_le _;have p1:(rdN xs 2 rd0).2.p<=n:=h7a hl p0;have p2:(rdZ xs 2 (rdN xs 2 rd0).2).p<=n:=o1b hl p1;have p3:(rdN xs 4 (rdZ xs 2 (rdN xs 2 rd0).2)).2.p<=n:=h7a hl p2;have p4:(v0a xs 8 (rdN xs 4 (rdZ xs 2 (rdN xs 2 rd0).2)).2).2.p<=n:=z5a hl p3;have C1:Hid (∀(w':World) (g:Nat) (rest:List Value),PRd w' g 146 A n k rd0 rest->Holds w' w'.heap.size A n k xs->Calls Tryz.prog 119 #[.pointer (some ⟨g,0,none⟩),.int .i64 2] w' (J8a w' g 146 A n k (rdN xs 2 rd0) rest)):=λw' g rest h1 h2=>o6a w' g 146 A n k xs _ 2 rest h1 h2 p0 (by decide)
  have C2:Hid (∀(w':World) (g:Nat) (rest:List Value),PRd w' g 146 A n k (rdN xs 2 rd0).2 rest->Holds w' w'.heap.size A n k xs->Calls Tryz.prog 114 #[.pointer (some ⟨g,0,none⟩),.int .i64 2] w' (l3a w' g 146 A n k (rdZ xs 2 (rdN xs 2 rd0).2) rest)):=λw' g rest h1 h2=>h8a w' g 146 A n k xs _ 2 rest h1 h2 p1 (by decide)
  have C3:Hid (∀(w':World) (g:Nat) (rest:List Value),PRd w' g 146 A n k (rdZ xs 2 (rdN xs 2 rd0).2) rest->Holds w' w'.heap.size A n k xs->Calls Tryz.prog 119 #[.pointer (some ⟨g,0,none⟩),.int .i64 4] w' (J8a w' g 146 A n k (rdN xs 4 (rdZ xs 2 (rdN xs 2 rd0).2)) rest)):=λw' g rest h1 h2=>o6a w' g 146 A n k xs _ 4 rest h1 h2 p2 (by decide)
  have CF:Hid (∀(w':World) (g:Nat) (rest:List Value),PRd w' g 146 A n k (rdN xs 4 (rdZ xs 2 (rdN xs 2 rd0).2)).2 rest->Holds w' w'.heap.size A n k xs->2+8<=rest.length->Calls Tryz.prog 112 #[.pointer (some ⟨g,0,none⟩),.slice (some ⟨g,5,none⟩) 8 8] w' (l3a w' g 146 A n k (v0a xs 8 (rdN xs 4 (rdZ xs 2 (rdN xs 2 rd0).2)).2).2 (spliced rest 2 (v0a xs 8 (rdN xs 4 (rdZ xs 2 (rdN xs 2 rd0).2)).2).1))):=λw' g rest h1 h2 h3=>n3b w' g 146 A n k xs _ 2 8 8 rest h1 h2 p3 (by decide) (by decide) h3
  have hok:=I8a (m:=8) (r:=(rdN xs 4 (rdZ xs 2 (rdN xs 2 rd0).2)).2) hl;have hbyq:=u2a hby 8 (rdN xs 4 (rdZ xs 2 (rdN xs 2 rd0).2)).2;have hd1:=Z4a hby rd0;have hs1:=p1b hby (rdZ xs 2 (rdN xs 2 rd0).2);have CE:Hid (∀(w':World) (g:Nat) (rest:List Value),PRd w' g 146 A n k (v0a xs 8 (rdN xs 4 (rdZ xs 2 (rdN xs 2 rd0).2)).2).2 rest->Calls Tryz.prog 115 #[.pointer (some ⟨g,0,none⟩)] w' λe w2=>e=.returned (.int .i64 (H0a xs (v0a xs 8 (rdN xs 4 (rdZ xs 2 (rdN xs 2 rd0).2)).2).2))/\∃j,w'.drewN j=w2):=λw' g rest h1=>M7a w' g 146 A n k xs _ rest h1 hl hrm p4
  have hre:H0a xs (v0a xs 8 (rdN xs 4 (rdZ xs 2 (rdN xs 2 rd0).2)).2).2=0->(v0a xs 8 (rdN xs 4 (rdZ xs 2 (rdN xs 2 rd0).2)).2).2.e=0:=W3a;have hge:t3a 0 xs=H0a xs (v0a xs 8 (rdN xs 4 (rdZ xs 2 (rdN xs 2 rd0).2)).2).2:=by unfold t3a L8a;rw[if_pos hk,if_pos rfl]
  by_cases he:H0a xs (v0a xs 8 (rdN xs 4 (rdZ xs 2 (rdN xs 2 rd0).2)).2).2=0;rotate_left
  ·have HQ:=hI (HE.out _ hge he);have hne:(H0a xs (v0a xs 8 (rdN xs 4 (rdZ xs 2 (rdN xs 2 rd0).2)).2).2 != 0)=true:=by simpa using he
   obtain⟨n1,hn1⟩:∃x,x=rdN xs 2 rd0:=⟨_,rfl⟩;rw[<-hn1] at C1 C2 C3 CF p1 p2 p3 p4 hok hbyq hd1 hs1 CE he hre HQ hne;clear hn1;obtain⟨z,hz⟩:∃x,x=rdZ xs 2 n1.2:=⟨_,rfl⟩;rw[<-hz] at C2 C3 CF p2 p3 p4 hok hbyq hs1 CE he hre HQ hne;clear hz;obtain⟨n2,hn2⟩:∃x,x=rdN xs 4 z:=⟨_,rfl⟩;rw[<-hn2] at C3 CF p3 p4 hok hbyq hs1 CE he hre HQ hne;clear hn2;obtain⟨q,hq⟩:∃x,x=v0a xs 8 n2.2:=⟨_,rfl⟩;rw[<-hq] at CF p4 hok hbyq CE he hre HQ hne;clear hq;obtain⟨er,her⟩:∃x,x=H0a xs q.2:=⟨_,rfl⟩;rw[<-her] at CE he HQ hne hre;clear her he hre;clear HE hx hk hge;go_enter Tryz.func83,Tryz.ntmps83;go_wp2_with(first
    | ((with_reducible refine sN 4 ?_);refine a0a rfl _ rfl zs _ ZH ?_;intro h w1 hg1 hg2 Z1 L1)
    | ((with_reducible refine sN 9 ?_);refine k0a rfl _ _ rfl (.slice A n k::.int .i64 0::.int .i64 0::[]) (by refine Eq.trans ?_ B1;kernel_rfl) ?_)
    | ((with_reducible refine sN 10 ?_);refine k0a rfl _ _ rfl (.slice A n k::.int .i64 0::.int .i64 0::zs) (by refine Eq.trans ?_ B2;kernel_rfl) ?_)
    | ((with_reducible refine sN 6 ?_);refine a0a rfl _ rfl (.slice none 0 0::.int .i64 0::.int .i64 0::zs) _ ZB ?_;intro g w2 hg3 hg4 P02 L2)
    | ((with_reducible refine sT 6 ?_);refine b0a rfl _ (.tmp 6) (.tmp 10) rfl g rfl _ (.slice none 0 0::.int .i64 0::.int .i64 0::zs) (.slice A n k::.int .i64 0::.int .i64 0::zs) rfl P02 23 j7a HZB HNB HOB ?_;intro w3 P03 O3 hg5;have hsz:=L1.out.size;have hng:h≠g:=(by omega);have Z3:=hI ((Z1.out.over L2.out).only O3.out hng);have B3:Hid (Below w.heap.size w w3):=c0a (step L1.out L2.out) O3.out (by omega);have P3:Hid (PRd w3 g 146 A n k rd0 zs):=P03;have hwg:w.heap.size<=g:=(by omega);have hwh:w.heap.size<=h:=hg1)
    | fail)
   refine(C1.out w3 g _ P3.out ((HX.out.below B3.out).mono B3.out.size)).mono ?_;rintro e w4 ⟨rfl,hP,hS⟩;have P4:=hI hP;have Z4:=hI (Z3.out.save hS hng);have B4:=hI (B3.out.trans (hS.below hwg B3.out.size));clear hP hS P3 Z3 B3;obtain⟨r4,hrs⟩:∃rs,rs=zs.set 0 (.int .u16 n1.1):=⟨_,rfl⟩;have HR4:=hI hrs;have hst:∀u:Value,(Value.slice A n k::Value.int .i64 (n1.2.p:Int)::Value.int .i64 n1.2.e::zs).set 3 u=Value.slice A n k::Value.int .i64 (n1.2.p:Int)::Value.int .i64 n1.2.e::zs.set 0 u:=λ_=>rfl
   have HST:=hI (hst (.int .u16 n1.1));rw[<-hrs] at HST;have r4l:r4.length=20:=by rw[hrs,List.length_set];exact HZ.out
   clear hst hrs;obtain⟨cc,hcc⟩:∃x,x=Value.slice A n k::Value.int .i64 (n1.2.p:Int)::Value.int .i64 n1.2.e::zs:=⟨_,rfl⟩;have hcl:3<cc.length:=by rw[hcc];have h:=HZ.out;simp only[List.length_cons];omega
   have HCL:=hI hcl;have PC:Hid (Blk w4 g 146 cc):=by rw[hcc];exact P4.out
   rw[<-hcc] at HST;clear hcc hcl P4;go_wp2_with(first
    | ((with_reducible refine sT 19 ?_);refine d0a rfl _ (.tmp 19) (.tmp 17) rfl g 3 rfl _ cc (.int .u16 n1.1) rfl PC HCL (by kernel_rfl) rfl ?_;intro w5 P05 O5 q5;rw[HST.out] at P05;have P5:Hid (PRd w5 g 146 A n k n1.2 r4):=P05;have Z5:=hI (Z4.out.only O5.out hng);have B5:Hid (Below w.heap.size w w5):=c0a B4.out O5.out hwg)
    | fail)
   clear P05 O5 q5 PC Z4 B4 HST HCL cc;refine(C2.out w5 g _ P5.out ((HX.out.below B5.out).mono B5.out.size)).mono ?_;rintro e w6 ⟨rfl,hP,hS⟩;have P6:=hI hP;have Z6:=hI (Z5.out.save hS hng);have B6:=hI (B5.out.trans (hS.below hwg B5.out.size));clear hP hS P5 Z5 B5;go_wp2_with fail;refine(C3.out w6 g _ P6.out ((HX.out.below B6.out).mono B6.out.size)).mono ?_;rintro e w7 ⟨rfl,hP,hS⟩;have P7:=hI hP;have Z7:=hI (Z6.out.save hS hng);have B7:=hI (B6.out.trans (hS.below hwg B6.out.size));clear hP hS P6 Z6 B6;obtain⟨r5,hrs⟩:∃rs,rs=r4.set 1 (.int .u64 n2.1):=⟨_,rfl⟩;have HR5:=hI hrs;have hst:∀u:Value,(Value.slice A n k::Value.int .i64 (n2.2.p:Int)::Value.int .i64 n2.2.e::r4).set 4 u=Value.slice A n k::Value.int .i64 (n2.2.p:Int)::Value.int .i64 n2.2.e::r4.set 1 u:=λ_=>rfl
   have HST:=hI (hst (.int .u64 n2.1));rw[<-hrs] at HST;have r5l:r5.length=20:=by rw[hrs,List.length_set];exact r4l
   clear hst hrs;obtain⟨cc,hcc⟩:∃x,x=Value.slice A n k::Value.int .i64 (n2.2.p:Int)::Value.int .i64 n2.2.e::r4:=⟨_,rfl⟩;have hcl:4<cc.length:=by rw[hcc];have h:=r4l;simp only[List.length_cons];omega
   have HCL:=hI hcl;have PC:Hid (Blk w7 g 146 cc):=by rw[hcc];exact P7.out
   rw[<-hcc] at HST;clear hcc hcl P7;go_wp2_with(first
    | ((with_reducible refine sT 25 ?_);refine d0a rfl _ (.tmp 25) (.tmp 23) rfl g 4 rfl _ cc (.int .u64 n2.1) rfl PC HCL (by kernel_rfl) rfl ?_;intro w8 P08 O8 q8;rw[HST.out] at P08;have P8:Hid (PRd w8 g 146 A n k n2.2 r5):=P08;have Z8:=hI (Z7.out.only O8.out hng);have B8:Hid (Below w.heap.size w w8):=c0a B7.out O8.out hwg)
    | fail)
   clear P08 O8 q8 PC Z7 B7 HST HCL cc;have HV:Hid (2+8<=r5.length):=by show _<=_;rw[r5l];omega
   refine(CF.out w8 g _ P8.out ((HX.out.below B8.out).mono B8.out.size) HV.out).mono ?_;rintro e w9 ⟨rfl,hP,hS⟩;have P9':=hI hP;have Z9:=hI (Z8.out.save hS hng);have B9:=hI (B8.out.trans (hS.below hwg B8.out.size));clear hP hS P8 Z8 B8;obtain⟨rs,hrs⟩:∃rs,rs=spliced r5 2 q.1:=⟨_,rfl⟩;have HRS:=hI hrs;rw[<-hrs] at P9';have P9:=P9';clear hrs P9';go_wp2_with fail;refine(CE.out w9 g _ P9.out).mono ?_;rintro e w99 ⟨rfl,kk,rfl⟩;have Z99:=hI (Blk.drewN Z9.out kk);have P99:=hI (Blk.drewN P9.out kk);have B99:Hid (Below w.heap.size w (w9.drewN kk)):=step B9.out (G2a _ kk);obtain⟨wq,hwq⟩:∃wq,wq=w9.drewN kk:=⟨_,rfl⟩;rw[<-hwq] at Z99 P99 B99⊢;clear hwq P9 Z9 B9;go_wp2_with(first
    | ((with_reducible refine sN 43 ?_);refine x0a rfl _ rfl zs BZ ?_)
    | ((with_reducible refine sT 4 ?_);refine b0a rfl _ (.tmp 4) (.tmp 43) rfl h rfl _ zs zs rfl Z99 20 s0a HZ HZ HZ1 ?_;intro w10 K10 O10 hg10)
    | fail)
   refine bodyPost_ret (v:=.tuple #[.agg zs.toArray,.int .i64 er]) ?_ rfl (HQ.out _ _ rfl (c0a B99.out O10.out hwh));exact m0a rfl _ _ h _ _ (0,0) _ rfl K10.out Tryz.underlying39 rfl (by rw[s0a];have:=HZ.out;simp[this]) rfl
  have HQ:Hid (∀e w',e=.returned (.tuple #[.agg (r0a (.slice none 0 0) (.slice none 0 0) ({ q0a with dia:=(rdN xs 2 rd0).1,siz:=(rdN xs 4 (rdZ xs 2 (rdN xs 2 rd0).2)).1,chal:=(v0a xs 8 (rdN xs 4 (rdZ xs 2 (rdN xs 2 rd0).2)).2).1 })).toArray,.int .i64 0])->Below w.heap.size w w'->f4a w 0 xs e w'):=by
   intro e w' h1 h3;have h4:K3a 0 xs={ q0a with dia:=(rdN xs 2 rd0).1,siz:=(rdN xs 4 (rdZ xs 2 (rdN xs 2 rd0).2)).1,chal:=(v0a xs 8 (rdN xs 4 (rdZ xs 2 (rdN xs 2 rd0).2)).2).1 }:=by unfold K3a;rw[hge,he,if_pos rfl];unfold L8a;rw[if_pos rfl]
   unfold f4a;rw[h4,hge,he];exact⟨h1,h3⟩
  obtain⟨n1,hn1⟩:∃x,x=rdN xs 2 rd0:=⟨_,rfl⟩;rw[<-hn1] at C1 C2 C3 CF p1 p2 p3 p4 hok hbyq hd1 hs1 CE he hre HQ;clear hn1;obtain⟨z,hz⟩:∃x,x=rdZ xs 2 n1.2:=⟨_,rfl⟩;rw[<-hz] at C2 C3 CF p2 p3 p4 hok hbyq hs1 CE he hre HQ;clear hz;obtain⟨n2,hn2⟩:∃x,x=rdN xs 4 z:=⟨_,rfl⟩;rw[<-hn2] at C3 CF p3 p4 hok hbyq hs1 CE he hre HQ;clear hn2;obtain⟨q,hq⟩:∃x,x=v0a xs 8 n2.2:=⟨_,rfl⟩;rw[<-hq] at CF p4 hok hbyq CE he hre HQ;clear hq;rw[he] at CE;have hre0:=hre he;have hql:=hok hre0;have kd:({ q0a with dia:=n1.1,siz:=n2.1 }:M1a).ok:=⟨hd1,hs1,G0a.clen,G0a.cbyte,G0a.lev,G0a.dur,G0a.made,G0a.file,G0a.kind,G0a.data,G0a.n,G0a.ents⟩;have kw:({ q0a with dia:=n1.1,siz:=n2.1,chal:=q.1 }:M1a).ok:=⟨hd1,hs1,hql,hbyq,G0a.lev,G0a.dur,G0a.made,G0a.file,G0a.kind,G0a.data,G0a.n,G0a.ents⟩;clear HE hx hk hge hre he hre0;go_enter Tryz.func83,Tryz.ntmps83;go_wp2_with(first
   | ((with_reducible refine sN 4 ?_);refine a0a rfl _ rfl zs _ ZH ?_;intro h w1 hg1 hg2 Z1 L1)
   | ((with_reducible refine sN 9 ?_);refine k0a rfl _ _ rfl (.slice A n k::.int .i64 0::.int .i64 0::[]) (by refine Eq.trans ?_ B1;kernel_rfl) ?_)
   | ((with_reducible refine sN 10 ?_);refine k0a rfl _ _ rfl (.slice A n k::.int .i64 0::.int .i64 0::zs) (by refine Eq.trans ?_ B2;kernel_rfl) ?_)
   | ((with_reducible refine sN 6 ?_);refine a0a rfl _ rfl (.slice none 0 0::.int .i64 0::.int .i64 0::zs) _ ZB ?_;intro g w2 hg3 hg4 P02 L2)
   | ((with_reducible refine sT 6 ?_);refine b0a rfl _ (.tmp 6) (.tmp 10) rfl g rfl _ (.slice none 0 0::.int .i64 0::.int .i64 0::zs) (.slice A n k::.int .i64 0::.int .i64 0::zs) rfl P02 23 j7a HZB HNB HOB ?_;intro w3 P03 O3 hg5;have hsz:=L1.out.size;have hng:h≠g:=(by omega);have Z3:=hI ((Z1.out.over L2.out).only O3.out hng);have B3:Hid (Below w.heap.size w w3):=c0a (step L1.out L2.out) O3.out (by omega);have P3:Hid (PRd w3 g 146 A n k rd0 zs):=P03;have hwg:w.heap.size<=g:=(by omega);have hwh:w.heap.size<=h:=hg1)
   | fail)
  refine(C1.out w3 g _ P3.out ((HX.out.below B3.out).mono B3.out.size)).mono ?_;rintro e w4 ⟨rfl,hP,hS⟩;have P4:=hI hP;have Z4:=hI (Z3.out.save hS hng);have B4:=hI (B3.out.trans (hS.below hwg B3.out.size));clear hP hS P3 Z3 B3;obtain⟨r4,hrs⟩:∃rs,rs=zs.set 0 (.int .u16 n1.1):=⟨_,rfl⟩;have HR4:=hI hrs;have hst:∀u:Value,(Value.slice A n k::Value.int .i64 (n1.2.p:Int)::Value.int .i64 n1.2.e::zs).set 3 u=Value.slice A n k::Value.int .i64 (n1.2.p:Int)::Value.int .i64 n1.2.e::zs.set 0 u:=λ_=>rfl
  have HST:=hI (hst (.int .u16 n1.1));rw[<-hrs] at HST;have r4l:r4.length=20:=by rw[hrs,List.length_set];exact HZ.out
  clear hst hrs;obtain⟨cc,hcc⟩:∃x,x=Value.slice A n k::Value.int .i64 (n1.2.p:Int)::Value.int .i64 n1.2.e::zs:=⟨_,rfl⟩;have hcl:3<cc.length:=by rw[hcc];have h:=HZ.out;simp only[List.length_cons];omega
  have HCL:=hI hcl;have PC:Hid (Blk w4 g 146 cc):=by rw[hcc];exact P4.out
  rw[<-hcc] at HST;clear hcc hcl P4;go_wp2_with(first
   | ((with_reducible refine sT 19 ?_);refine d0a rfl _ (.tmp 19) (.tmp 17) rfl g 3 rfl _ cc (.int .u16 n1.1) rfl PC HCL (by kernel_rfl) rfl ?_;intro w5 P05 O5 q5;rw[HST.out] at P05;have P5:Hid (PRd w5 g 146 A n k n1.2 r4):=P05;have Z5:=hI (Z4.out.only O5.out hng);have B5:Hid (Below w.heap.size w w5):=c0a B4.out O5.out hwg)
   | fail)
  clear P05 O5 q5 PC Z4 B4 HST HCL cc;refine(C2.out w5 g _ P5.out ((HX.out.below B5.out).mono B5.out.size)).mono ?_;rintro e w6 ⟨rfl,hP,hS⟩;have P6:=hI hP;have Z6:=hI (Z5.out.save hS hng);have B6:=hI (B5.out.trans (hS.below hwg B5.out.size));clear hP hS P5 Z5 B5;go_wp2_with fail;refine(C3.out w6 g _ P6.out ((HX.out.below B6.out).mono B6.out.size)).mono ?_;rintro e w7 ⟨rfl,hP,hS⟩;have P7:=hI hP;have Z7:=hI (Z6.out.save hS hng);have B7:=hI (B6.out.trans (hS.below hwg B6.out.size));clear hP hS P6 Z6 B6;obtain⟨r5,hrs⟩:∃rs,rs=r4.set 1 (.int .u64 n2.1):=⟨_,rfl⟩;have HR5:=hI hrs;have hst:∀u:Value,(Value.slice A n k::Value.int .i64 (n2.2.p:Int)::Value.int .i64 n2.2.e::r4).set 4 u=Value.slice A n k::Value.int .i64 (n2.2.p:Int)::Value.int .i64 n2.2.e::r4.set 1 u:=λ_=>rfl
  have HST:=hI (hst (.int .u64 n2.1));rw[<-hrs] at HST;have r5l:r5.length=20:=by rw[hrs,List.length_set];exact r4l
  clear hst hrs;obtain⟨cc,hcc⟩:∃x,x=Value.slice A n k::Value.int .i64 (n2.2.p:Int)::Value.int .i64 n2.2.e::r4:=⟨_,rfl⟩;have hcl:4<cc.length:=by rw[hcc];have h:=r4l;simp only[List.length_cons];omega
  have HCL:=hI hcl;have PC:Hid (Blk w7 g 146 cc):=by rw[hcc];exact P7.out
  rw[<-hcc] at HST;clear hcc hcl P7;go_wp2_with(first
   | ((with_reducible refine sT 25 ?_);refine d0a rfl _ (.tmp 25) (.tmp 23) rfl g 4 rfl _ cc (.int .u64 n2.1) rfl PC HCL (by kernel_rfl) rfl ?_;intro w8 P08 O8 q8;rw[HST.out] at P08;have P8:Hid (PRd w8 g 146 A n k n2.2 r5):=P08;have Z8:=hI (Z7.out.only O8.out hng);have B8:Hid (Below w.heap.size w w8):=c0a B7.out O8.out hwg)
   | fail)
  clear P08 O8 q8 PC Z7 B7 HST HCL cc;have HV:Hid (2+8<=r5.length):=by show _<=_;rw[r5l];omega
  refine(CF.out w8 g _ P8.out ((HX.out.below B8.out).mono B8.out.size) HV.out).mono ?_;rintro e w9 ⟨rfl,hP,hS⟩;have P9':=hI hP;have Z9:=hI (Z8.out.save hS hng);have B9:=hI (B8.out.trans (hS.below hwg B8.out.size));clear hP hS P8 Z8 B8;obtain⟨rs,hrs⟩:∃rs,rs=spliced r5 2 q.1:=⟨_,rfl⟩;have HRS:=hI hrs;rw[<-hrs] at P9';have P9:=P9';clear hrs P9';go_wp2_with fail;have HEQ:Hid (rs=r0a (.slice none 0 0) (.slice none 0 0) ({ q0a with dia:=n1.1,siz:=n2.1,chal:=q.1 })):=by
   show _=_
   rw[HRS.out];have e1:r5=r0a (.slice none 0 0) (.slice none 0 0) { q0a with dia:=n1.1,siz:=n2.1 }:=by rw[HR5.out,HR4.out,HZS.out];rfl
   rw[e1];have h:=G9a (vx:=.slice none 0 0) (ve:=.slice none 0 0) (s:={ q0a with dia:=n1.1,siz:=n2.1 }) kd q.1;rw[<-h];unfold spliced;rw[hql]
  have HRL:Hid (rs.length=20):=by show _=_;rw[HEQ.out];exact U1a kw
  have HR1:Hid (∀v∈rs,v.oneCell'=true):=by rw[HEQ.out];exact J1a rfl rfl
  refine(CE.out w9 g _ P9.out).mono ?_;rintro e w99 ⟨rfl,kk,rfl⟩;have Z99:=hI (Blk.drewN Z9.out kk);have P99:=hI (Blk.drewN P9.out kk);have B99:Hid (Below w.heap.size w (w9.drewN kk)):=step B9.out (G2a _ kk);obtain⟨wq,hwq⟩:∃wq,wq=w9.drewN kk:=⟨_,rfl⟩;rw[<-hwq] at Z99 P99 B99⊢;clear hwq P9 Z9 B9;have hrg:Hid (wq.rangeAt g 3 rs):=Blk.range P99.out 3;go_wp2_with(first
   | ((with_reducible refine sN 46 ?_);refine t0a rfl _ (.tmp 45) rfl g 3 rfl rs _ hrg Tryz.underlying39 rfl 20 s0a HRL ?_)
   | ((with_reducible refine sT 4 ?_);refine b0a rfl _ (.tmp 4) (.tmp 46) rfl h rfl _ zs rs rfl Z99 20 s0a HZ HRL HR1 ?_;intro w10 K10 O10 hg10)
   | fail)
  refine bodyPost_ret (v:=.tuple #[.agg rs.toArray,.int .i64 0]) ?_ rfl ?_
  ·exact m0a rfl _ _ h _ _ (0,0) _ rfl K10.out Tryz.underlying39 rfl (by rw[s0a];have:=HRL.out;simp[this]) rfl
  ·exact HQ.out _ w10 (congrArg (λr:List Value=>Ending.returned (.tuple #[.agg r.toArray,.int .i64 0])) HEQ.out) (c0a B99.out O10.out hwh)
 have hcc:c=1∨c=3∨c=2∨c=4∨c=13:=by unfold U0a at hk;simp at hk;omega
 have hge:t3a c xs=H0a xs (rdZ xs 4 rd0):=by unfold t3a L8a;rw[if_pos hk,if_neg (by omega)]
 have hgo:H0a xs (rdZ xs 4 rd0)=0->K3a c xs=q0a:=λhe=>by unfold K3a;rw[hge,he,if_pos rfl];unfold L8a;rw[if_neg (by omega)]
 obtain⟨cq,hcq⟩:∃x,x=c:=⟨_,rfl⟩;rw[show f4a w c xs=f4a w cq xs by rw[hcq]];rw[<-hcq] at HE hk hge hgo;clear hcq hc h0;rcases hcc with rfl | rfl | rfl | rfl | rfl
 all_goals
  have p0:rd0.p<=n:=Nat.zero_le _;have p1:(rdZ xs 4 rd0).p<=n:=o1b hl p0;have C1:Hid (∀(w':World) (g:Nat) (rest:List Value),PRd w' g 146 A n k rd0 rest->Holds w' w'.heap.size A n k xs->Calls Tryz.prog 114 #[.pointer (some ⟨g,0,none⟩),.int .i64 4] w' (l3a w' g 146 A n k (rdZ xs 4 rd0) rest)):=λw' g rest h1 h2=>h8a w' g 146 A n k xs _ 4 rest h1 h2 p0 (by decide)
  have CE:Hid (∀(w':World) (g:Nat) (rest:List Value),PRd w' g 146 A n k (rdZ xs 4 rd0) rest->Calls Tryz.prog 115 #[.pointer (some ⟨g,0,none⟩)] w' λe w2=>e=.returned (.int .i64 (H0a xs (rdZ xs 4 rd0)))/\∃j,w'.drewN j=w2):=λw' g rest h1=>M7a w' g 146 A n k xs _ rest h1 hl hrm p1
  have hre:H0a xs (rdZ xs 4 rd0)=0->(rdZ xs 4 rd0).e=0:=W3a;by_cases he:H0a xs (rdZ xs 4 rd0)=0;rotate_left
  ·have HQ:=hI (HE.out _ hge he);have hne:(H0a xs (rdZ xs 4 rd0) != 0)=true:=by simpa using he
   obtain⟨z,hz⟩:∃x,x=rdZ xs 4 rd0:=⟨_,rfl⟩;rw[<-hz] at C1 p1 CE he hre HQ hne;clear hz;obtain⟨er,her⟩:∃x,x=H0a xs z:=⟨_,rfl⟩;rw[<-her] at CE he HQ hne hre;clear her he hre;clear HE hx hk hge;go_enter Tryz.func83,Tryz.ntmps83;go_wp2_with(first
    | ((with_reducible refine sN 4 ?_);refine a0a rfl _ rfl zs _ ZH ?_;intro h w1 hg1 hg2 Z1 L1)
    | ((with_reducible refine sN 9 ?_);refine k0a rfl _ _ rfl (.slice A n k::.int .i64 0::.int .i64 0::[]) (by refine Eq.trans ?_ B1;kernel_rfl) ?_)
    | ((with_reducible refine sN 10 ?_);refine k0a rfl _ _ rfl (.slice A n k::.int .i64 0::.int .i64 0::zs) (by refine Eq.trans ?_ B2;kernel_rfl) ?_)
    | ((with_reducible refine sN 6 ?_);refine a0a rfl _ rfl (.slice none 0 0::.int .i64 0::.int .i64 0::zs) _ ZB ?_;intro g w2 hg3 hg4 P02 L2)
    | ((with_reducible refine sT 6 ?_);refine b0a rfl _ (.tmp 6) (.tmp 10) rfl g rfl _ (.slice none 0 0::.int .i64 0::.int .i64 0::zs) (.slice A n k::.int .i64 0::.int .i64 0::zs) rfl P02 23 j7a HZB HNB HOB ?_;intro w3 P03 O3 hg5;have hsz:=L1.out.size;have hng:h≠g:=(by omega);have Z3:=hI ((Z1.out.over L2.out).only O3.out hng);have B3:Hid (Below w.heap.size w w3):=c0a (step L1.out L2.out) O3.out (by omega);have P3:Hid (PRd w3 g 146 A n k rd0 zs):=P03;have hwg:w.heap.size<=g:=(by omega);have hwh:w.heap.size<=h:=hg1)
    | fail)
   refine(C1.out w3 g _ P3.out ((HX.out.below B3.out).mono B3.out.size)).mono ?_;rintro e w4 ⟨rfl,hP,hS⟩;have P4:=hI hP;have Z4:=hI (Z3.out.save hS hng);have B4:=hI (B3.out.trans (hS.below hwg B3.out.size));clear hP hS P3 Z3 B3;obtain⟨rs,hrs⟩:∃rs,rs=zs:=⟨_,rfl⟩;have HRS:=hI hrs;have P4':Hid (PRd w4 g 146 A n k z rs):=by rw[hrs];exact P4.out
   clear hrs P4;have P4:=P4';clear P4';go_wp2_with fail;refine(CE.out w4 g _ P4.out).mono ?_;rintro e w99 ⟨rfl,kk,rfl⟩;have Z99:=hI (Blk.drewN Z4.out kk);have P99:=hI (Blk.drewN P4.out kk);have B99:Hid (Below w.heap.size w (w4.drewN kk)):=step B4.out (G2a _ kk);obtain⟨wq,hwq⟩:∃wq,wq=w4.drewN kk:=⟨_,rfl⟩;rw[<-hwq] at Z99 P99 B99⊢;clear hwq P4 Z4 B4;go_wp2_with(first
    | ((with_reducible refine sN 43 ?_);refine x0a rfl _ rfl zs BZ ?_)
    | ((with_reducible refine sT 4 ?_);refine b0a rfl _ (.tmp 4) (.tmp 43) rfl h rfl _ zs zs rfl Z99 20 s0a HZ HZ HZ1 ?_;intro w10 K10 O10 hg10)
    | fail)
   refine bodyPost_ret (v:=.tuple #[.agg zs.toArray,.int .i64 er]) ?_ rfl (HQ.out _ _ rfl (c0a B99.out O10.out hwh));exact m0a rfl _ _ h _ _ (0,0) _ rfl K10.out Tryz.underlying39 rfl (by rw[s0a];have:=HZ.out;simp[this]) rfl
  have HQ:Hid (∀e w',e=.returned (.tuple #[.agg (r0a (.slice none 0 0) (.slice none 0 0) (q0a)).toArray,.int .i64 0])->Below w.heap.size w w'->f4a w cq xs e w'):=by intro e w' h1 h3;have h4:=hgo he;unfold f4a;rw[h4,hge,he];exact⟨h1,h3⟩
  obtain⟨z,hz⟩:∃x,x=rdZ xs 4 rd0:=⟨_,rfl⟩;rw[<-hz] at C1 p1 CE he hre;clear hz;rw[he] at CE;have hre0:=hre he;clear HE hx hk hge hre he hre0;go_enter Tryz.func83,Tryz.ntmps83;go_wp2_with(first
   | ((with_reducible refine sN 4 ?_);refine a0a rfl _ rfl zs _ ZH ?_;intro h w1 hg1 hg2 Z1 L1)
   | ((with_reducible refine sN 9 ?_);refine k0a rfl _ _ rfl (.slice A n k::.int .i64 0::.int .i64 0::[]) (by refine Eq.trans ?_ B1;kernel_rfl) ?_)
   | ((with_reducible refine sN 10 ?_);refine k0a rfl _ _ rfl (.slice A n k::.int .i64 0::.int .i64 0::zs) (by refine Eq.trans ?_ B2;kernel_rfl) ?_)
   | ((with_reducible refine sN 6 ?_);refine a0a rfl _ rfl (.slice none 0 0::.int .i64 0::.int .i64 0::zs) _ ZB ?_;intro g w2 hg3 hg4 P02 L2)
   | ((with_reducible refine sT 6 ?_);refine b0a rfl _ (.tmp 6) (.tmp 10) rfl g rfl _ (.slice none 0 0::.int .i64 0::.int .i64 0::zs) (.slice A n k::.int .i64 0::.int .i64 0::zs) rfl P02 23 j7a HZB HNB HOB ?_;intro w3 P03 O3 hg5;have hsz:=L1.out.size;have hng:h≠g:=(by omega);have Z3:=hI ((Z1.out.over L2.out).only O3.out hng);have B3:Hid (Below w.heap.size w w3):=c0a (step L1.out L2.out) O3.out (by omega);have P3:Hid (PRd w3 g 146 A n k rd0 zs):=P03;have hwg:w.heap.size<=g:=(by omega);have hwh:w.heap.size<=h:=hg1)
   | fail)
  refine(C1.out w3 g _ P3.out ((HX.out.below B3.out).mono B3.out.size)).mono ?_;rintro e w4 ⟨rfl,hP,hS⟩;have P4:=hI hP;have Z4:=hI (Z3.out.save hS hng);have B4:=hI (B3.out.trans (hS.below hwg B3.out.size));clear hP hS P3 Z3 B3;obtain⟨rs,hrs⟩:∃rs,rs=zs:=⟨_,rfl⟩;have HRS:=hI hrs;have P4':Hid (PRd w4 g 146 A n k z rs):=by rw[hrs];exact P4.out
  clear hrs P4;have P4:=P4';clear P4';go_wp2_with fail;have HEQ:Hid (rs=r0a (.slice none 0 0) (.slice none 0 0) (q0a)):=by
   show _=_
   rw[HRS.out,HZS.out]
  have HRL:Hid (rs.length=20):=by show _=_;rw[HEQ.out];exact U1a G0a
  have HR1:Hid (∀v∈rs,v.oneCell'=true):=by rw[HEQ.out];exact J1a rfl rfl
  refine(CE.out w4 g _ P4.out).mono ?_;rintro e w99 ⟨rfl,kk,rfl⟩;have Z99:=hI (Blk.drewN Z4.out kk);have P99:=hI (Blk.drewN P4.out kk);have B99:Hid (Below w.heap.size w (w4.drewN kk)):=step B4.out (G2a _ kk);obtain⟨wq,hwq⟩:∃wq,wq=w4.drewN kk:=⟨_,rfl⟩;rw[<-hwq] at Z99 P99 B99⊢;clear hwq P4 Z4 B4;have hrg:Hid (wq.rangeAt g 3 rs):=Blk.range P99.out 3;go_wp2_with(first
   | ((with_reducible refine sN 46 ?_);refine t0a rfl _ (.tmp 45) rfl g 3 rfl rs _ hrg Tryz.underlying39 rfl 20 s0a HRL ?_)
   | ((with_reducible refine sT 4 ?_);refine b0a rfl _ (.tmp 4) (.tmp 46) rfl h rfl _ zs rs rfl Z99 20 s0a HZ HRL HR1 ?_;intro w10 K10 O10 hg10)
   | fail)
  refine bodyPost_ret (v:=.tuple #[.agg rs.toArray,.int .i64 0]) ?_ rfl ?_
  ·exact m0a rfl _ _ h _ _ (0,0) _ rfl K10.out Tryz.underlying39 rfl (by rw[s0a];have:=HRL.out;simp[this]) rfl
  ·exact HQ.out _ w10 (congrArg (λr:List Value=>Ending.returned (.tuple #[.agg r.toArray,.int .i64 0])) HEQ.out) (c0a B99.out O10.out hwh)
theorem H6b{xs:List Int}(hx:Bytes xs)(h:J4a xs=0):S1a (P3a xs)=xs/\q3a (P3a xs)=0:=by
 unfold J4a at h;cases hg:s7b xs with
 | none=>rw[hg] at h;exact absurd h (by decide)
 | some rs=>
  obtain⟨h1,h2⟩:=K3b hx hg;have ht:=E7b rs h1;have e:P3a xs=rs.flatMap enc:=by unfold P3a;rw[hg]
  rw[e];refine⟨?_,if_pos ht⟩;unfold S1a;rw[if_pos ht,k2b rs h1,h2]
theorem s1b{l:List UInt8}(h:y0a l=0):H3a l=true/\(S1a l).length<=512/\A0a l=le (S1a l).length 2++S1a l:=by
 have h0:=h;unfold y0a at h;by_cases ht:q3a l=0
 ·rw[if_pos ht] at h;by_cases hm:(S1a l).length<=512
  ·refine⟨?_,hm,?_⟩
   ·unfold q3a at ht;by_cases hi:H3a l=true
    ·exact hi
    ·rw[if_neg hi] at ht;exact absurd ht (by decide)
   ·unfold A0a rowOf;rw[if_pos h0,if_pos (by omega)]
  ·rw[if_neg hm] at h;exact absurd h (by decide)
 ·rw[if_neg ht] at h;exact absurd h ht
theorem k7a{xs:List Int}{s:Nat}{r:Rd}(hx:Bytes xs)(h:(rdN xs s r).2.e=0):r.e=0/\(rdN xs s r).2=⟨r.p+s,0⟩/\r.p+s<=xs.length/\xs.take (r.p+s)=xs.take r.p++le (rdN xs s r).1 s:=by
 unfold rdN at h⊢;by_cases h0:r.e=0
 ·rw[if_pos h0] at h⊢;by_cases h1:xs.length<r.p+s
  ·rw[if_pos h1] at h;exact absurd (show(4:Int)=0 from h) (by decide)
  ·rw[if_neg h1];refine⟨h0,rfl,by omega,?_⟩;rw[List.take_add,<-V2b xs hx r.p s (by omega)]
 ·rw[if_neg h0] at h;exact absurd h h0
theorem J9a{xs:List Int}(hx:Bytes xs){r:Rd}:∀k,(D2a xs r k).2.e=0->r.e=0/\(D2a xs r k).2=⟨r.p+2*k,0⟩/\xs.take (r.p+2*k)=xs.take r.p++u1a (D2a xs r k).1
 | 0,h=>⟨h,by obtain⟨p,e⟩:=r;simp only[D2a] at h⊢;rw[h];rfl,by simp[D2a,u1a]⟩
 | k+1,h=>by simp only[D2a] at h⊢;obtain⟨h1,h2,h3,h4⟩:=k7a hx h;obtain⟨i1,i2,i3⟩:=J9a hx k h1;rw[i2] at h2 h3 h4⊢;refine⟨i1,by rw[h2];show(⟨r.p+2*k+2,0⟩:Rd)=_;congr 1,?_⟩;rw[H9a,<-List.append_assoc,<-i3];exact h4
theorem E4a{xs:List Int}{m:Nat}{r:Rd}(h:(v0a xs m r).2.e=0):r.e=0/\(v0a xs m r).2=⟨r.p+m,0⟩/\r.p+m<=xs.length/\xs.take (r.p+m)=xs.take r.p++(v0a xs m r).1/\(v0a xs m r).1.length=m:=by
 unfold v0a at h⊢;by_cases h0:r.e=0
 ·rw[if_pos h0] at h⊢;by_cases h1:xs.length<r.p+m
  ·rw[if_pos h1] at h;exact absurd (show(4:Int)=0 from h) (by decide)
  ·rw[if_neg h1];exact⟨h0,rfl,by omega,List.take_add ..,by simp;omega⟩
 ·rw[if_neg h0] at h;exact absurd h h0
theorem N8a{xs:List Int}{m:Nat}{r:Rd}(h:(rdZ xs m r).e=0):r.e=0/\rdZ xs m r=⟨r.p+m,0⟩/\r.p+m<=xs.length/\xs.take (r.p+m)=xs.take r.p++List.replicate m 0:=by
 unfold rdZ at h⊢;by_cases h0:(v0a xs m r).2.e=0
 ·rw[if_pos h0] at h⊢;obtain⟨h1,h2,h3,h4,h5⟩:=E4a h0;by_cases h6:zeroOf (v0a xs m r).1 0 (m:Int)=true
  ·rw[if_pos h6];refine⟨h1,h2,h3,?_⟩;rw[h4]
   congr 1
   unfold zeroOf partOf at h6;rw[h5] at h6;have ep:R0a m 0 (m:Int)=0:=by unfold R0a;rw[if_neg (by omega),if_neg (by omega)]
   rw[ep,if_pos rfl] at h6;have h7:(v0a xs m r).1.all (· == 0)=true:=by
    have e1:((v0a xs m r).1.drop (0:Int).toNat).take (m:Int).toNat=(v0a xs m r).1:=by rw[show(0:Int).toNat=0 from rfl,List.drop_zero,Int.toNat_natCast,List.take_of_length_le (Nat.le_of_eq h5)]
    rw[e1] at h6;simpa using h6
   refine List.eq_replicate_of_mem (λx hx=>?_) |>.trans (by rw[h5])
   simpa using List.all_eq_true.1 h7 x hx
  ·rw[if_neg h6] at h;exact absurd (show(5:Int)=0 from h) (by decide)
 ·rw[if_neg h0] at h;exact absurd h h0
theorem p6a{xs:List Int}(hx:Bytes xs){r:Rd}(h:(P0a xs r).2.e=0):r.e=0/\y0a (P0a xs r).1=0/\(P0a xs r).2.p<=xs.length/\xs.take (P0a xs r).2.p=xs.take r.p++A0a (P0a xs r).1:=by
 have h0:=a4b h;unfold P0a at h⊢;rw[if_pos h0] at h⊢;have hg:Y0a xs r.p=0:=h;have hg2:=hg;unfold Y0a at hg2;by_cases g0:W1a xs r.p 512=0;rotate_left
 ·rw[if_neg g0] at hg2;exact absurd hg2 g0
 rw[if_pos g0] at hg2;obtain⟨q1,q2,q3⟩:=Q6a g0;have hn:=d5a xs hx (r.p:Int);have hl:=o9a hx g0;have hb:=R6a hx (r.p:Int) 512;obtain⟨p1,p2⟩:=H6b hb hg2;have e1:X1a xs r.p=P3a (a2a xs r.p 512):=by unfold X1a;rw[if_pos hg]
 have e2:a1a xs r.p=r.p+2+W9a xs r.p:=by unfold a1a B3a;rw[if_pos hg,if_pos g0]
 have hpe:y0a (X1a xs r.p)=0:=by unfold y0a;rw[e1,if_pos p2,p1,if_pos (by omega)]
 refine⟨h0,hpe,by show(a1a xs r.p).toNat<=_;omega,?_⟩;show xs.take (a1a xs r.p).toNat=xs.take r.p++A0a (X1a xs r.p)
 obtain⟨n,hn'⟩:∃n:Nat,W9a xs r.p=(n:Int):=⟨(W9a xs r.p).toNat,by omega⟩;have e3:(a1a xs r.p).toNat=r.p+(2+n):=by omega
 obtain⟨_,_,e4⟩:=s1b hpe;rw[e4,e1,p1,e3];have e5:(a2a xs r.p 512).length=n:=by omega
 have e6:a2a xs r.p 512=(xs.drop (r.p+2)).take n:=by unfold a2a;rw[if_pos g0,hn',Int.toNat_natCast,Int.toNat_natCast]
 have e7:le (n:Int) 2=(xs.drop r.p).take 2:=by rw[<-hn'];unfold W9a;rw[Int.toNat_natCast];exact V2b xs hx r.p 2 (by omega)
 rw[e5,e7,e6,List.take_add,List.take_add,List.drop_drop]
theorem u4a{xs:List Int}{r:Rd}(h:H0a xs r=0):r.e=0/\r.p=xs.length:=by
 have he:=W3a h;refine⟨he,?_⟩;unfold H0a at h;by_cases hp:r.p=xs.length
 ·exact hp
 ·rw[if_pos ⟨he,hp⟩] at h;exact absurd h (by decide)
theorem X7b(c:Int){xs:List Int}(hx:Bytes xs)(h:A2a c xs=0):k1a c (B2a c xs)=0/\H2a c (B2a c xs)=xs/\(B2a c xs).ok:=by
 have e0:B2a c xs=(i7a c xs).1:=by unfold B2a;rw[if_pos h]
 unfold A2a at h;by_cases hk:U0a c=true;rotate_left
 ·rw[if_neg hk] at h;exact absurd h (by decide)
 rw[if_pos hk] at h;obtain⟨h1,h2⟩:=u4a h;rw[e0];unfold i7a at h1 h2⊢;by_cases c0:c=0
 ·simp only[if_pos c0] at h1 h2⊢;obtain⟨a1,a2,a3,a4,a5⟩:=E4a h1;have hd:¬16<(rdN xs 2 rd0).1:=λhh=>by unfold v1a at a1;rw[if_pos hh] at a1;exact absurd (show(3:Int)=0 from a1) (by decide)
  have ht:v1a xs rd0=D2a xs (rdN xs 2 rd0).2 (rdN xs 2 rd0).1.toNat:=by unfold v1a;rw[if_neg hd]
  have hb:=Z4a hx rd0;have hdl:(v1a xs rd0).1.length=(rdN xs 2 rd0).1.toNat:=by rw[ht,t2b]
  rw[ht] at a1;obtain⟨b1,b2,b3⟩:=J9a hx _ a1;obtain⟨d1,d2,d3,d4⟩:=k7a hx b1;have hdial:=q1b hx rd0;have hbq:=u2a hx 16 (v1a xs rd0).2;have kw:({ i0a with dial:=(v1a xs rd0).1,guid:=(v0a xs 16 (v1a xs rd0).2).1 }:m1a).ok:=⟨hdial,a5,hbq,h0a.plen,h0a.pbyte,h0a.acc,h0a.shr,h0a.way,h0a.opt,h0a.lev,h0a.dur,h0a.file,h0a.at_,h0a.n,h0a.data,h0a.locks,h0a.most,h0a.cls,h0a.siz⟩;have e1:k1a c { i0a with dial:=(v1a xs rd0).1,guid:=(v0a xs 16 (v1a xs rd0).2).1 }=0:=by unfold k1a;rw[if_pos ⟨hk,by unfold c1a;rw[if_pos c0];rfl⟩,if_pos c0,if_pos (by show(v1a xs rd0).1.length<=16;omega)]
  refine⟨e1,?_,kw⟩;unfold H2a;rw[if_pos e1,if_pos c0];unfold r3a;show le ((v1a xs rd0).1.length:Int) 2++u1a (v1a xs rd0).1++(v0a xs 16 (v1a xs rd0).2).1=xs
  have e2:((v1a xs rd0).1.length:Int)=(rdN xs 2 rd0).1:=by omega
  rw[e2];rw[a2] at h2;change (v1a xs rd0).2.p+16=xs.length at h2
  rw[h2,List.take_of_length_le (Nat.le_refl _)] at a4;have e3:(v1a xs rd0).2.p=(rdN xs 2 rd0).2.p+2*(rdN xs 2 rd0).1.toNat:=by rw[ht,b2]
  rw[e3] at a4;rw[b3] at a4;have e4:(rdN xs 2 rd0).2.p=rd0.p+2:=by rw[d2]
  rw[e4,d4] at a4;rw[show xs.take rd0.p=[] from rfl,List.nil_append,<-ht] at a4;exact a4.symm
 ·simp only[if_neg c0] at h1 h2⊢;by_cases c1:c=1
  ·simp only[if_pos c1] at h1 h2⊢;obtain⟨t1,t2,t3,t4⟩:=p6a hx h1;obtain⟨a1,a2,a3,a4,a5⟩:=E4a t1;have hbq:=u2a hx 32 rd0;have kw:({ i0a with proof:=(v0a xs 32 rd0).1,user:=⟨(P0a xs (v0a xs 32 rd0).2).1.toArray⟩ }:m1a).ok:=⟨h0a.dial,h0a.glen,h0a.gbyte,a5,hbq,h0a.acc,h0a.shr,h0a.way,h0a.opt,h0a.lev,h0a.dur,h0a.file,h0a.at_,h0a.n,h0a.data,h0a.locks,h0a.most,h0a.cls,h0a.siz⟩;have e1:k1a c { i0a with proof:=(v0a xs 32 rd0).1,user:=⟨(P0a xs (v0a xs 32 rd0).2).1.toArray⟩ }=0:=by unfold k1a;rw[if_pos ⟨hk,by unfold c1a;rw[if_neg c0,if_pos c1];rfl⟩,if_neg c0,if_pos c1];exact t2
   refine⟨e1,?_,kw⟩;unfold H2a;rw[if_pos e1,if_neg c0,if_pos c1];show(v0a xs 32 rd0).1++A0a (P0a xs (v0a xs 32 rd0).2).1=xs
   rw[h2,List.take_of_length_le (Nat.le_refl _)] at t4;have e3:(v0a xs 32 rd0).2.p=rd0.p+32:=by rw[a2]
   rw[e3,a4,show xs.take rd0.p=[] from rfl,List.nil_append] at t4;exact t4.symm
  ·simp only[if_neg c1] at h1 h2⊢;by_cases c3:c=3
   ·simp only[if_pos c3] at h1 h2⊢;obtain⟨t1,t2,t3,t4⟩:=p6a hx h1;have kw:({ i0a with share:=⟨(P0a xs rd0).1.toArray⟩ }:m1a).ok:=⟨h0a.dial,h0a.glen,h0a.gbyte,h0a.plen,h0a.pbyte,h0a.acc,h0a.shr,h0a.way,h0a.opt,h0a.lev,h0a.dur,h0a.file,h0a.at_,h0a.n,h0a.data,h0a.locks,h0a.most,h0a.cls,h0a.siz⟩;have e1:k1a c { i0a with share:=⟨(P0a xs rd0).1.toArray⟩ }=0:=by unfold k1a;rw[if_pos ⟨hk,by unfold c1a;rw[if_neg c0,if_neg c1,if_pos c3];rfl⟩,if_neg c0,if_neg c1,if_pos c3];exact t2
    refine⟨e1,?_,kw⟩;unfold H2a;rw[if_pos e1,if_neg c0,if_neg c1,if_pos c3];show A0a (P0a xs rd0).1=xs
    rw[h2,List.take_of_length_le (Nat.le_refl _),show xs.take rd0.p=[] from rfl,List.nil_append] at t4;exact t4.symm
   ·simp only[if_neg c3] at h1 h2⊢;obtain⟨z1,z2,z3,z4⟩:=N8a h1;have e1:k1a c i0a=0:=by unfold k1a;rw[if_pos ⟨hk,by unfold c1a;rw[if_neg c0,if_neg c1,if_neg c3]⟩,if_neg c0,if_neg c1,if_neg c3]
    refine⟨e1,?_,h0a⟩;unfold H2a;rw[if_pos e1,if_neg c0,if_neg c1,if_neg c3];rw[z2] at h2;change rd0.p+4=xs.length at h2
    rw[h2,List.take_of_length_le (Nat.le_refl _),show xs.take rd0.p=[] from rfl,List.nil_append] at z4;exact z4.symm
theorem O5b{xs:List Int}{s:Nat}{r:Rd}(h0:r.e=0)(h:¬xs.length<r.p+s):rdN xs s r=(Z0a xs r.p s,⟨r.p+s,0⟩):=by unfold rdN;rw[if_pos h0,if_neg h]
theorem Y7b(c:Int){xs:List Int}(hx:Bytes xs)(h:t3a c xs=0):z1a c (K3a c xs)=0/\L2a c (K3a c xs)=xs/\(K3a c xs).ok:=by
 have e0:K3a c xs=(L8a c xs).1:=by unfold K3a;rw[if_pos h]
 unfold t3a at h;by_cases hk:U0a c=true;rotate_left
 ·rw[if_neg hk] at h;exact absurd h (by decide)
 rw[if_pos hk] at h;obtain⟨h1,h2⟩:=u4a h;rw[e0];unfold L8a at h1 h2⊢;by_cases c0:c=0
 ·simp only[if_pos c0] at h1 h2⊢;obtain⟨a1,a2,a3,a4,a5⟩:=E4a h1;obtain⟨b1,b2,b3,b4⟩:=k7a hx a1;obtain⟨z1,z2,z3,z4⟩:=N8a b1;obtain⟨d1,d2,d3,d4⟩:=k7a hx z1;have hs:=p1b hx (rdZ xs 2 (rdN xs 2 rd0).2);have hs4:(rdN xs 4 (rdZ xs 2 (rdN xs 2 rd0).2)).1<4294967296:=by
   have hq:(rdN xs 4 (rdZ xs 2 (rdN xs 2 rd0).2)).1=Z0a xs (rdZ xs 2 (rdN xs 2 rd0).2).p 4:=by rw[O5b (xs:=xs) (s:=4) b1 (by omega)]
   rw[hq];have:=R1a xs hx (rdZ xs 2 (rdN xs 2 rd0).2).p 4 4294967296 (by decide);omega
  have kw:({ q0a with dia:=(rdN xs 2 rd0).1,siz:=(rdN xs 4 (rdZ xs 2 (rdN xs 2 rd0).2)).1,chal:=(v0a xs 8 (rdN xs 4 (rdZ xs 2 (rdN xs 2 rd0).2)).2).1 }:M1a).ok:=⟨Z4a hx rd0,hs,a5,u2a hx 8 _,G0a.lev,G0a.dur,G0a.made,G0a.file,G0a.kind,G0a.data,G0a.n,G0a.ents⟩;have e1:z1a c { q0a with dia:=(rdN xs 2 rd0).1,siz:=(rdN xs 4 (rdZ xs 2 (rdN xs 2 rd0).2)).1,chal:=(v0a xs 8 (rdN xs 4 (rdZ xs 2 (rdN xs 2 rd0).2)).2).1 }=0:=by unfold z1a;rw[if_pos ⟨hk,by unfold o1a;rw[if_pos c0];rfl,λ_=>hs4⟩]
  refine⟨e1,?_,kw⟩;unfold L2a;rw[if_pos e1,if_pos c0];show le (rdN xs 2 rd0).1 2++List.replicate 2 0++le (rdN xs 4 (rdZ xs 2 (rdN xs 2 rd0).2)).1 4++(v0a xs 8 (rdN xs 4 (rdZ xs 2 (rdN xs 2 rd0).2)).2).1=xs
  rw[a2] at h2;change (rdN xs 4 (rdZ xs 2 (rdN xs 2 rd0).2)).2.p+8=xs.length at h2
  rw[h2,List.take_of_length_le (Nat.le_refl _)] at a4;have e3:(rdN xs 4 (rdZ xs 2 (rdN xs 2 rd0).2)).2.p=(rdZ xs 2 (rdN xs 2 rd0).2).p+4:=by rw[b2]
  rw[e3,b4] at a4;have e4:(rdZ xs 2 (rdN xs 2 rd0).2).p=(rdN xs 2 rd0).2.p+2:=by rw[z2]
  have e5:(rdN xs 2 rd0).2.p=rd0.p+2:=by rw[d2]
  rw[e4,z4,e5,d4,show xs.take rd0.p=[] from rfl,List.nil_append] at a4;exact a4.symm
 ·simp only[if_neg c0] at h1 h2⊢;obtain⟨z1,z2,z3,z4⟩:=N8a h1;have e1:z1a c q0a=0:=by unfold z1a;rw[if_pos ⟨hk,by unfold o1a;rw[if_neg c0],λh=>absurd h c0⟩]
  refine⟨e1,?_,G0a⟩;unfold L2a;rw[if_pos e1,if_neg c0];rw[z2] at h2;change rd0.p+4=xs.length at h2
  rw[h2,List.take_of_length_le (Nat.le_refl _),show xs.take rd0.p=[] from rfl,List.nil_append] at z4;exact z4.symm
theorem b4b{xs:List Int}{m:Nat}{r:Rd}(h:¬r.e=0):(v0a xs m r).2=r:=by unfold v0a;rw[if_neg h]
theorem Z7b{xs:List Int}{s:Nat}{r:Rd}(h0:r.e=0)(h:xs.length<r.p+s):rdN xs s r=(0,⟨r.p,4⟩):=by unfold rdN;rw[if_pos h0,if_pos h]
theorem c4b{xs:List Int}{m:Nat}{r:Rd}(h0:r.e=0)(h:xs.length<r.p+m):(v0a xs m r).2=⟨r.p,4⟩:=by unfold v0a;rw[if_pos h0,if_pos h]
def R2a(c:Int):Bool:=decide (5<=c)&&decide (c<=10)
def m0b(l:g2a):List Int:=le l.at_ 8++(le l.n 8++(le l.md 2++List.replicate 2 0))
def P1a:List g2a->List Int
 | []=>[]
 | l::r=>m0b l++P1a r
def i1a(c:Int)(a:m1a):m1a:=
 if c=5 then { a with acc:=0,shr:=0,way:=0,opt:=0,lev:=0,dur:=0,name:=.empty,file:=0 }
 else if c=8 then { a with at_:=0,n:=0,file:=0 }
 else if c=9 then { a with at_:=0,data:=[],file:=0 }
 else if c=10 then { a with locks:=[],file:=0 }
 else { a with file:=0 }
def I6b(c:Int)(a:m1a):m1a:=
 if c=5 then { i0a with acc:=a.acc,shr:=a.shr,way:=a.way,opt:=a.opt,lev:=a.lev,dur:=a.dur,name:=a.name,file:=a.file }
 else if c=8 then { i0a with at_:=a.at_,n:=a.n,file:=a.file }
 else if c=9 then { i0a with at_:=a.at_,data:=a.data,file:=a.file }
 else if c=10 then { i0a with locks:=a.locks,file:=a.file }
 else { i0a with file:=a.file }
def shut(ls:List g2a):Bool:=ls.all (λl=>l.op==0)
def i8a(c:Int)(a:m1a):Bool:=R2a c&&(decide (i1a c a=i0a)&&shut a.locks)
def I6a(c:Int)(a:m1a):Int:=if i8a c a=true then (if a.data.length<=32768/\a.locks.length<=16 then (if c=5 then y0a a.name.data.toList else 0) else 3) else 2
def p4a(c:Int)(a:m1a):List Int:=
 if c=5 then le a.acc 4++(le a.shr 4++(le a.way 4++(le a.opt 4++(le a.lev 1++(le a.dur 1++(List.replicate 2 0++(le a.file 8++A0a a.name.data.toList)))))))
 else if c=8 then le a.file 8++(le a.at_ 8++le a.n 4)
 else if c=9 then le a.file 8++(le a.at_ 8++(le a.data.length 4++a.data))
 else if c=10 then le a.file 8++(le a.locks.length 2++(List.replicate 2 0++P1a a.locks))
 else le a.file 8
def t1b(c:Int)(a:m1a):List Int:=if I6a c a=0 then p4a c a else []
def l1a(c:Int)(s:M1a):M1a:=
 if c=5 then { s with lev:=0,dur:=0,made:=0,file:=0,siz:=0,kind:=0 }
 else if c=8 then { s with data:=[] }
 else if c=9 then { s with n:=0 }
 else s
def P5b(c:Int)(s:M1a):M1a:=
 if c=5 then { q0a with lev:=s.lev,dur:=s.dur,made:=s.made,file:=s.file,siz:=s.siz,kind:=s.kind }
 else if c=8 then { q0a with data:=s.data }
 else if c=9 then { q0a with n:=s.n }
 else q0a
def u3a(c:Int)(s:M1a):Bool:=R2a c&&decide (l1a c s=q0a)
def q6a(c:Int)(s:M1a):Int:=if u3a c s=true/\s.made<=2/\s.kind<=2 then (if s.data.length<=32768 then 0 else 3) else 2
def M2a(c:Int)(s:M1a):List Int:=
 if c=5 then le s.lev 1++(le s.dur 1++(le s.made 2++(le s.file 8++(le s.siz 8++(le s.kind 2++List.replicate 2 0)))))
 else if c=8 then le s.data.length 4++s.data
 else if c=9 then le s.n 4
 else List.replicate 4 0
def u2b(c:Int)(s:M1a):List Int:=if q6a c s=0 then M2a c s else []
def s9a(xs:List Int)(most:Int)(r:Rd):Int×Rd:=if (rdN xs 2 r).2.e=0/\most<(rdN xs 2 r).1 then ((rdN xs 2 r).1,⟨(rdN xs 2 r).2.p,5⟩) else rdN xs 2 r
def X3a(xs:List Int)(r:Rd):List Int×Rd:=v0a xs (b1a xs 4 32768 3 r).1.toNat (b1a xs 4 32768 3 r).2
def g5a(xs:List Int)(r:Rd):g2a×Rd:=(⟨0,(rdN xs 8 r).1,(rdN xs 8 (rdN xs 8 r).2).1,(rdN xs 2 (rdN xs 8 (rdN xs 8 r).2).2).1⟩,rdZ xs 2 (rdN xs 2 (rdN xs 8 (rdN xs 8 r).2).2).2)
def A1a(xs:List Int)(r:Rd):Nat->List g2a×Rd
 | 0=>([],r)
 | k+1=>((A1a xs r k).1++[(g5a xs (A1a xs r k).2).1],(g5a xs (A1a xs r k).2).2)
def J6a(xs:List Int)(r:Rd):List g2a×Rd:=A1a xs (rdZ xs 2 (b1a xs 2 16 3 r).2) (b1a xs 2 16 3 r).1.toNat
def c1(xs:List Int):=rdN xs 4 rd0
def c2(xs:List Int):=rdN xs 4 (c1 xs).2
def c3(xs:List Int):=rdN xs 4 (c2 xs).2
def c4(xs:List Int):=rdN xs 4 (c3 xs).2
def c5(xs:List Int):=rdN xs 1 (c4 xs).2
def c6(xs:List Int):=rdN xs 1 (c5 xs).2
def c7(xs:List Int):=rdZ xs 2 (c6 xs).2
def c8(xs:List Int):=rdN xs 8 (c7 xs)
def c9(xs:List Int):=L1a xs (c8 xs).2
def o1(xs:List Int):=rdN xs 8 rd0
def o2(xs:List Int):=rdN xs 8 (o1 xs).2
def o3(xs:List Int):=rdN xs 4 (o2 xs).2
def o4(xs:List Int):=X3a xs (o2 xs).2
def o5(xs:List Int):=J6a xs (o1 xs).2
def fgP(c:Int)(xs:List Int):m1a×Rd:=
 if c=5 then ({ i0a with acc:=(c1 xs).1,shr:=(c2 xs).1,way:=(c3 xs).1,opt:=(c4 xs).1,lev:=(c5 xs).1,dur:=(c6 xs).1,file:=(c8 xs).1,name:=⟨(c9 xs).1.toArray⟩ },(c9 xs).2)
 else if c=8 then ({ i0a with file:=(o1 xs).1,at_:=(o2 xs).1,n:=(o3 xs).1 },(o3 xs).2)
 else if c=9 then ({ i0a with file:=(o1 xs).1,at_:=(o2 xs).1,data:=(o4 xs).1 },(o4 xs).2)
 else if c=10 then ({ i0a with file:=(o1 xs).1,locks:=(o5 xs).1 },(o5 xs).2)
 else ({ i0a with file:=(o1 xs).1 },(o1 xs).2)
def h5a(c:Int)(xs:List Int):Int:=if R2a c=true then H0a xs (fgP c xs).2 else 2
def n0b(c:Int)(xs:List Int):m1a:=if h5a c xs=0 then (fgP c xs).1 else i0a
def s1(xs:List Int):=rdN xs 1 rd0
def s2(xs:List Int):=rdN xs 1 (s1 xs).2
def s3(xs:List Int):=s9a xs 2 (s2 xs).2
def s4(xs:List Int):=rdN xs 8 (s3 xs).2
def s5(xs:List Int):=rdN xs 8 (s4 xs).2
def s6(xs:List Int):=s9a xs 2 (s5 xs).2
def s7(xs:List Int):=rdZ xs 2 (s6 xs).2
def s8(xs:List Int):=X3a xs rd0
def s9(xs:List Int):=rdN xs 4 rd0
def sgP(c:Int)(xs:List Int):M1a×Rd:=
 if c=5 then ({ q0a with lev:=(s1 xs).1,dur:=(s2 xs).1,made:=(s3 xs).1,file:=(s4 xs).1,siz:=(s5 xs).1,kind:=(s6 xs).1 },s7 xs)
 else if c=8 then ({ q0a with data:=(s8 xs).1 },(s8 xs).2)
 else if c=9 then ({ q0a with n:=(s9 xs).1 },(s9 xs).2)
 else (q0a,rdZ xs 4 rd0)
def s5a(c:Int)(xs:List Int):Int:=if R2a c=true then H0a xs (sgP c xs).2 else 2
def o0b(c:Int)(xs:List Int):M1a:=if s5a c xs=0 then (sgP c xs).1 else q0a
theorem P4a{xs:List Int}(hx:Bytes xs)(s:Nat)(r:Rd)(M:Int)(hM:(256:Int)^s=M)(h1:1<=M):0<=(rdN xs s r).1/\(rdN xs s r).1<=M-1:=by
 unfold rdN;split
 ·split
  ·exact⟨Int.le_refl 0,by show(0:Int)<=M-1;omega⟩
  ·exact R1a xs hx r.p s M hM
 ·exact⟨Int.le_refl 0,by show(0:Int)<=M-1;omega⟩
theorem h5b{xs:List Int}(hx:Bytes xs)(most:Int)(r:Rd):0<=(s9a xs most r).1/\(s9a xs most r).1<=65535:=by
 have:=P4a hx 2 r 65536 (by decide) (by decide);unfold s9a;split
 ·exact⟨this.1,by show(rdN xs 2 r).1<=_;omega⟩
 ·exact⟨this.1,by omega⟩
theorem i5b{xs:List Int}{most:Int}{r:Rd}(h:(s9a xs most r).2.e=0):(rdN xs 2 r).2.e=0/\(rdN xs 2 r).1<=most/\s9a xs most r=rdN xs 2 r:=by
 unfold s9a at h⊢;split
 ·rename_i h1;rw[if_pos h1] at h;exact absurd h (show ¬(5:Int)=0 by decide)
 ·rename_i h1;rw[if_neg h1] at h;refine⟨h,?_,rfl⟩;by_cases h2:(rdN xs 2 r).1<=most
  ·exact h2
  ·exact absurd ⟨h,by omega⟩ h1
theorem a8b{xs:List Int}{s:Nat}{most er:Int}{r:Rd}(hne:er≠0)(h:(b1a xs s most er r).2.e=0):(rdN xs s r).2.e=0/\(rdN xs s r).1<=most/\b1a xs s most er r=rdN xs s r:=by
 unfold b1a at h⊢;split
 ·rename_i h1;rw[if_pos h1] at h;exact absurd h hne
 ·rename_i h1;rw[if_neg h1] at h;refine⟨h,?_,rfl⟩;by_cases h2:(rdN xs s r).1<=most
  ·exact h2
  ·exact absurd ⟨h,by omega⟩ h1
theorem b8b(xs:List Int)(most:Int)(r:Rd):(b1a xs 2 most 5 r).2=(s9a xs most r).2/\((s9a xs most r).2.e=0->(b1a xs 2 most 5 r).1=(s9a xs most r).1):=by
 unfold b1a s9a;split
 ·exact⟨rfl,λh=>absurd h (show ¬(5:Int)=0 by decide)⟩
 ·exact⟨rfl,λ_=>rfl⟩
theorem d3a{xs:List Int}(hx:Bytes xs)(s:Nat)(most er:Int)(r:Rd)(hs:1<=s/\s<=8)(hm:0<=most):0<=(b1a xs s most er r).1/\(b1a xs s most er r).1<=most:=by
 have h0:0<=(rdN xs s r).1:=by
  unfold rdN;split
  ·split
   ·exact Int.le_refl 0
   ·exact(R1a xs hx r.p s _ rfl).1
  ·exact Int.le_refl 0
 unfold b1a;split
 ·exact⟨Int.le_refl 0,hm⟩
 ·rename_i h1;by_cases h2:(rdN xs s r).2.e=0
  ·refine⟨h0,?_⟩;by_cases h3:most<(rdN xs s r).1
   ·exact absurd ⟨h2,h3⟩ h1
   ·omega
  ·refine⟨h0,?_⟩;unfold rdN at h2⊢;split
   ·rename_i h4;split
    ·exact hm
    ·rename_i h5;rw[if_pos h4,if_neg h5] at h2;exact absurd rfl h2
   ·exact hm
theorem d4b{xs:List Int}{s:Nat}{r:Rd}(h:¬r.e=0):(rdN xs s r).2=r:=by unfold rdN;rw[if_neg h]
theorem e4b{xs:List Int}{m:Nat}{r:Rd}(h:¬r.e=0):rdZ xs m r=r:=by have:=b4b (xs:=xs) (m:=m) h;unfold rdZ;rw[if_neg (by rw[this];exact h),this]
theorem f4b{xs:List Int}{s:Nat}{most er:Int}{r:Rd}(h:¬r.e=0):(b1a xs s most er r).2=r:=by have:=d4b (xs:=xs) (s:=s) h;unfold b1a;rw[if_neg (λh1=>h (by rw[<-this];exact h1.1)),this]
theorem J6b{xs:List Int}{most:Int}{r:Rd}(h:¬r.e=0):(s9a xs most r).2=r:=by rw[<-(b8b xs most r).1];exact f4b h
theorem u1b{xs:List Int}{r:Rd}(k:Nat):(A1a xs r k).1.length=k:=by
 induction k with
 | zero=>rfl
 | succ k ih=>simp[A1a,ih]
theorem c8b{xs:List Int}(hx:Bytes xs)(r:Rd):(g5a xs r).1.ok:=
 ⟨⟨by show(-9223372036854775808:Int)<=0;decide,by show(0:Int)<=9223372036854775807;decide⟩,
  by have:=P4a hx 8 r 18446744073709551616 (by decide) (by decide);exact⟨this.1,by show(rdN xs 8 r).1<=_;omega⟩,
  by have:=P4a hx 8 (rdN xs 8 r).2 18446744073709551616 (by decide) (by decide);exact⟨this.1,by show(rdN xs 8 (rdN xs 8 r).2).1<=_;omega⟩,
  by have:=P4a hx 2 (rdN xs 8 (rdN xs 8 r).2).2 65536 (by decide) (by decide);exact⟨this.1,by show(rdN xs 2 (rdN xs 8 (rdN xs 8 r).2).2).1<=_;omega⟩⟩
theorem K6b{xs:List Int}(hx:Bytes xs)(r:Rd)(k:Nat):∀l∈(A1a xs r k).1,l.ok:=by
 induction k with
 | zero=>intro l h;cases h
 | succ k ih=>
  intro l h;rcases List.mem_append.1 h with h | h
  ·exact ih l h
  ·rw[List.mem_singleton.1 h];exact c8b hx _
theorem g4b{xs:List Int}(r:Rd)(k:Nat):shut (A1a xs r k).1=true:=by
 induction k with
 | zero=>rfl
 | succ k ih=>unfold shut at ih⊢;simp only[A1a,List.all_append,ih,Bool.true_and];rfl
theorem v2b{xs:List Int}{r:Rd}(h:(L1a xs r).2.e=0):P0a xs r=L1a xs r:=by
 unfold L1a at h⊢;unfold P0a;by_cases he:r.e=0
 ·rw[if_pos he] at h⊢;rw[if_pos he];have h1:Y0a xs r.p=0:=h;rw[if_pos h1]
 ·rw[if_neg he,if_neg he]
theorem v1b(ls:List g2a)(l:g2a):P1a (ls++[l])=P1a ls++m0b l:=by
 induction ls with
 | nil=>simp[P1a]
 | cons a r ih=>simp[P1a,ih,List.append_assoc]
theorem d8b(l:g2a):(m0b l).length=20:=by simp[m0b,g0a]
theorem R5a(ls:List g2a):(P1a ls).length=20*ls.length:=by
 induction ls with
 | nil=>rfl
 | cons a r ih=>simp only[P1a,List.length_append,d8b,ih,List.length_cons];omega
theorem j5b(l:g2a):Bytes (m0b l):=(F0a _ _).append ((F0a _ _).append ((F0a _ _).append (Bytes.zeros 2)))
theorem l7a(ls:List g2a):Bytes (P1a ls):=by
 induction ls with
 | nil=>exact Bytes.nil
 | cons a r ih=>exact(j5b a).append ih
theorem Holds.rest{w:World}{B:Nat}{A:Option Addr}{n c k:Nat}{xs:List Int}(h:Holds w B A n c xs)(hk:k<=n):Holds w B (if c=k then A else A.map (·.add k)) (n-k) (c-k) (xs.drop k):=by
 have hl:=h.len;have hf:=h.fit;refine⟨by simp;omega,by omega,by have:=h.room;omega,h.byte.drop k,λhA=>?_,λhn=>?_⟩
 ·by_cases hc:c=k
  ·omega
  ·rw[if_neg hc] at hA;have:A=none:=by cases A<;>simp_all
   have:=h.bare this;omega
 ·obtain⟨b,off,rfl,hb,hcl⟩:=h.cells (by omega);rw[if_neg (by omega)];refine⟨b,off+k,?_,hb,λi hi=>?_⟩
  ·by_cases hk0:k=0
   ·subst hk0;simp[Addr.add]
   ·simp[Addr.add,hk0]
  ·rw[Nat.add_assoc,hcl (k+i) (by omega)];simp[List.getD_eq_getElem?_getD,List.getElem?_drop]
theorem Holds.of_lit{w:World}{g:Nat}{T:TypeId}{xs:List Int}(h:Blk w g T (xs.map (Value.int .u8)))(hx:Bytes xs)(hn:xs.length<=1000:=by simp):Holds w w.heap.size (some ⟨g,0,none⟩) xs.length xs.length xs:=
 ⟨rfl,Nat.le_refl _,by omega,hx,λhA=>(by cases hA),λ_=>⟨g,0,rfl,h.lt,λi hi=>by rw[Nat.zero_add,h.cell];simp[List.getD_eq_getElem?_getD,hi]⟩⟩
def PF(w:World)(g B:Nat)(xs:List Int)(r:Rd):Prop:=r.p<=xs.length/\B<=g/\∃A n c,Blk w g 152 [.slice A n c,.int .i64 r.e]/\Holds w B A n c (xs.drop r.p)
def j8a(w:World)(g B:Nat)(xs:List Int)(q:List Int×Rd)(e:Ending)(w':World):Prop:=∃A' k,e=.returned (.slice A' k k)/\k=q.1.length/\Holds w' B A' k k q.1/\PF w' g B xs q.2/\T1a g w w'
theorem PF.lt{w:World}{g B:Nat}{xs:List Int}{r:Rd}(h:PF w g B xs r):g<w.heap.size:=by obtain⟨_,_,A,n,c,hB,_⟩:=h;exact hB.lt
theorem PF.only{w w':World}{g g' B:Nat}{xs:List Int}{r:Rd}(h:PF w g B xs r)(hO:T1a g' w w')(hg:g≠g')(hb:B<=g'):PF w' g B xs r:=by obtain⟨h1,h2,A,n,c,hB,hx⟩:=h;exact⟨h1,h2,A,n,c,hB.only hO hg,hx.only hO hb⟩
theorem PF.below{w w':World}{g B:Nat}{xs:List Int}{r:Rd}(h:PF w g B xs r)(hb:Below w.heap.size w w'):PF w' g B xs r:=by have hlt:=h.lt;obtain⟨h1,h2,A,n,c,hB,hx⟩:=h;exact⟨h1,h2,A,n,c,hB.over hb,hx.below (hb.mono (by omega))⟩
theorem o3b(w:World)(g B:Nat)(xs:List Int)(r:Rd)(m:Nat)(hP:PF w g B xs r)(hm:m<=281474976710656) :
  Calls Tryz.prog 169 #[.pointer (some ⟨g,0,none⟩),.int .i64 (m:Int)] w (j8a w g B xs (v0a xs m r)):=by
 obtain⟨p,er⟩:=r;obtain⟨hp,hg,A,n,c,hB,hx⟩:=hP;change p<=xs.length at hp
 change Blk w g _ [.slice A n c,.int .i64 er] at hB
 change Holds w B A n c (xs.drop p) at hx
 have hl:xs.length-p=n:=by rw[<-hx.len,List.length_drop]
 have hrm:=hx.room;have hft:=hx.fit;have c0:w.cell? ⟨g,0,none⟩=some (.slice A n c):=Blk.at hB rfl;have c1:w.cell? ⟨g,1,none⟩=some (.int .i64 er):=Blk.at hB rfl;have f0:=Blk.frozen hB 0;have f1:=Blk.frozen hB 1;have HBk:=hI hB;have HX:=hI hx;by_cases he:er=0;rotate_left
 ·have HQ:Hid (∀e w',(∃A' k,e=.returned (.slice A' k k)/\k=0/\Holds w' B A' k k []/\PF w' g B xs ⟨p,er⟩/\T1a g w w')->j8a w g B xs (v0a xs m ⟨p,er⟩) e w'):=by intro e w' hh;unfold v0a;rw[if_neg he];exact hh
  have HP:Hid (PF w g B xs ⟨p,er⟩):=⟨hp,hg,A,n,c,hB,hx⟩;have hne:(er != 0)=true:=by simpa using he
  have hnb:(er==0)=false:=by simpa using he
  clear hB hx hl he;go_enter Tryz.func169,Tryz.ntmps169;go_wp2;go_ret;exact HQ.out _ _ ⟨none,0,rfl,rfl,Holds.nil _ _,HP.out,T1a.refl g w⟩
 subst er;by_cases hr:n<m
 ·have HQ:Hid (∀e w',(∃A' k,e=.returned (.slice A' k k)/\k=0/\Holds w' B A' k k []/\PF w' g B xs ⟨p,4⟩/\T1a g w w')->j8a w g B xs (v0a xs m ⟨p,0⟩) e w'):=by intro e w' hh;unfold v0a;rw[if_pos rfl,if_pos (by show xs.length<p+m;omega)];exact hh
  have k1:(w.setCell ⟨g,1,none⟩ (.int .i64 4)).cell? ⟨g,1,none⟩=some (.int .i64 4):=Blk.at (Blk.set hB 1 _) rfl;have HO:Hid (T1a g w (w.setCell ⟨g,1,none⟩ (.int .i64 4))):=g1a w g 1 _;have HP:Hid (PF (w.setCell ⟨g,1,none⟩ (.int .i64 4)) g B xs ⟨p,4⟩):=⟨hp,hg,A,n,c,Blk.set hB 1 _,hx.only HO.out hg⟩;clear hB hx hl;go_enter Tryz.func169,Tryz.ntmps169;go_wp2;go_ret;exact HQ.out _ _ ⟨none,0,rfl,rfl,Holds.nil _ _,HP.out,HO.out⟩
 ·have HQ:Hid (∀e w',(∃A' k,e=.returned (.slice A' k k)/\k=m/\Holds w' B A' k k ((xs.drop p).take m)/\PF w' g B xs ⟨p+m,0⟩/\T1a g w w')->j8a w g B xs (v0a xs m ⟨p,0⟩) e w'):=by intro e w' hh;unfold v0a;rw[if_pos rfl,if_neg (by show ¬xs.length<p+m;omega)];obtain⟨A',k,h1,h2,h3,h4,h5⟩:=hh;exact⟨A',k,h1,by rw[h2];show m=((xs.drop p).take m).length;rw[List.length_take,List.length_drop];omega,h3,h4,h5⟩
  have hd:(xs.drop p).drop m=xs.drop (p+m):=by rw[List.drop_drop]
  have hrst:=hx.rest (k:=m) (by omega);rw[hd] at hrst;have HK:Hid (∀v,(w.setCell ⟨g,0,none⟩ v).cell? ⟨g,0,none⟩=some v):=λv=>Blk.at (Blk.set hB 0 v) rfl
  have hA0:A.map (·.add 0)=A:=by cases A<;>simp[Addr.add]
  by_cases hcm:c=m
  ·rw[if_pos hcm] at hrst;by_cases hm0:m=0
   ·subst hm0;have HP0:Holds w B A n 0 (xs.drop (p+0)):=by have h:=hrst;simpa[hA0,hcm] using h
    have HO:Hid (T1a g w (w.setCell ⟨g,0,none⟩ (.slice A n 0))):=g1a w g 0 _;have HP:Hid (PF (w.setCell ⟨g,0,none⟩ (.slice A n 0)) g B xs ⟨p+0,0⟩):=⟨by show p+0<=_;omega,hg,_,_,_,Blk.set hB 0 _,HP0.only HO.out hg⟩;have HC:Hid (Holds (w.setCell ⟨g,0,none⟩ (.slice A n 0)) B A 0 0 ((xs.drop p).take 0)):=Holds.empty _ _ _ _ (λ_=>rfl);clear hB hx hl hd hrst HP0;clear hA0;go_enter Tryz.func169,Tryz.ntmps169;go_wp2;go_ret;exact HQ.out _ _ ⟨_,_,rfl,rfl,HC.out,HP.out,HO.out⟩
   ·have HP0:Holds w B A (n-m) 0 (xs.drop (p+m)):=by have h:=hrst;simpa[hcm] using h
    have HO:Hid (T1a g w (w.setCell ⟨g,0,none⟩ (.slice A (n-m) 0))):=g1a w g 0 _;have HP:Hid (PF (w.setCell ⟨g,0,none⟩ (.slice A (n-m) 0)) g B xs ⟨p+m,0⟩):=⟨by show p+m<=_;omega,hg,_,_,_,Blk.set hB 0 _,HP0.only HO.out hg⟩;have hct:=hx.cut (k:=0) (m:=m) (by omega) (by omega);rw[List.drop_zero,hA0] at hct;have HC:Hid (Holds (w.setCell ⟨g,0,none⟩ (.slice A (n-m) 0)) B A m m ((xs.drop p).take m)):=hct.only HO.out hg;clear hB hx hl hd hrst hct HP0;clear hA0;go_enter Tryz.func169,Tryz.ntmps169;go_wp2;go_ret;exact HQ.out _ _ ⟨_,_,rfl,rfl,HC.out,HP.out,HO.out⟩
  ·rw[if_neg hcm] at hrst;by_cases hm0:m=0
   ·subst hm0;have HP0:Holds w B A n c (xs.drop (p+0)):=by have h:=hrst;simpa[hA0] using h
    have HO:Hid (T1a g w (w.setCell ⟨g,0,none⟩ (.slice A n c))):=g1a w g 0 _;have HP:Hid (PF (w.setCell ⟨g,0,none⟩ (.slice A n c)) g B xs ⟨p+0,0⟩):=⟨by show p+0<=_;omega,hg,_,_,_,Blk.set hB 0 _,HP0.only HO.out hg⟩;have HC:Hid (Holds (w.setCell ⟨g,0,none⟩ (.slice A n c)) B A 0 0 ((xs.drop p).take 0)):=Holds.empty _ _ _ _ (λ_=>rfl);clear hB hx hl hd hrst HP0;clear hA0;go_enter Tryz.func169,Tryz.ntmps169;go_wp2;go_ret;exact HQ.out _ _ ⟨_,_,rfl,rfl,HC.out,HP.out,HO.out⟩
   ·have HP0:=hrst;have HO:Hid (T1a g w (w.setCell ⟨g,0,none⟩ (.slice (A.map (·.add m)) (n-m) (c-m)))):=g1a w g 0 _;have HP:Hid (PF (w.setCell ⟨g,0,none⟩ (.slice (A.map (·.add m)) (n-m) (c-m))) g B xs ⟨p+m,0⟩):=⟨by show p+m<=_;omega,hg,_,_,_,Blk.set hB 0 _,HP0.only HO.out hg⟩;have hct:=hx.cut (k:=0) (m:=m) (by omega) (by omega);rw[List.drop_zero,hA0] at hct;have HC:Hid (Holds (w.setCell ⟨g,0,none⟩ (.slice (A.map (·.add m)) (n-m) (c-m))) B A m m ((xs.drop p).take m)):=hct.only HO.out hg;clear hB hx hl hd hrst hct HP0;clear hA0;go_enter Tryz.func169,Tryz.ntmps169;go_wp2;go_ret;exact HQ.out _ _ ⟨_,_,rfl,rfl,HC.out,HP.out,HO.out⟩
theorem S9b{xs:List Int}{s:Nat}{r:Rd}(hp:r.p<=xs.length)(hs:j3a (s:Int)=true):(v0a xs s r).2=(rdN xs s r).2/\r4a (v0a xs s r).1 0 (s:Int)=(rdN xs s r).1:=by
 have hs1:1<=s:=by rcases Q1a hs with h | h | h | h<;>omega
 have hn:r4a [] 0 (s:Int)=0:=by
  have h4:j2a 0 0 (s:Int)=4:=by unfold j2a R0a;rw[if_pos hs,if_neg (by omega),if_pos (by omega)]
  unfold r4a;rw[List.length_nil,h4,if_neg (by decide)]
 unfold v0a rdN;by_cases he:r.e=0
 ·simp only[if_pos he];by_cases hr:xs.length<r.p+s
  ·simp only[if_pos hr];exact⟨trivial,hn⟩
  ·simp only[if_neg hr];refine⟨trivial,?_⟩;have hl:((xs.drop r.p).take s).length=s:=by rw[List.length_take,List.length_drop];omega
   have h0:j2a s 0 (s:Int)=0:=by unfold j2a R0a;rw[if_pos hs,if_neg (by omega),if_neg (by omega)]
   unfold r4a Z0a;rw[hl,h0,if_pos rfl,Int.toNat_natCast,show Int.toNat 0=0 from rfl,List.drop_zero,List.take_of_length_le (by omega)]
 ·simp only[if_neg he];exact⟨trivial,hn⟩
def S1b(w:World)(g B:Nat)(xs:List Int)(k:IntKind)(q:Int×Rd)(e:Ending)(w':World):Prop:=e=.returned (.int k q.1)/\PF w' g B xs q.2/\T1a g w w'
theorem O8a(w:World)(g B:Nat)(xs:List Int)(r:Rd)(s:Nat)(hP:PF w g B xs r)(hs:j3a (s:Int)=true) :
  Calls Tryz.prog 168 #[.pointer (some ⟨g,0,none⟩),.int .i64 (s:Int)] w (S1b w g B xs .u64 (rdN xs s r)):=by
 have hs8:s<=8:=by rcases Q1a hs with h | h | h | h<;>omega
 have C1:=o3b w g B xs r s hP (by omega);obtain⟨e1,e2⟩:=S9b hP.1 hs;have C2:Hid (∀(w:World) (A:Option Addr) (k:Nat),Holds w B A k k (v0a xs s r).1->Calls Tryz.prog 102 #[.slice A k k,.int .i64 0,.int .i64 (s:Int)] w λe w'=>(∃er,e=.returned (.tuple #[.int .u64 (rdN xs s r).1,.int .i64 er]))/\w=w'):=λw A k hh=>by have h:=c8a w B A k k _ 0 (s:Int) hh (by omega) (by omega);rw[e2] at h;exact h.mono λe w' ⟨h1,h2⟩=>⟨⟨_,h1⟩,h2⟩
 unfold j8a at C1;rw[e1] at C1;have C1':=hI C1;have HQ:Hid (∀e w',(e=.returned (.int .u64 (rdN xs s r).1)/\PF w' g B xs (rdN xs s r).2/\T1a g w w')->S1b w g B xs .u64 (rdN xs s r) e w'):=λ_ _ h=>h
 obtain⟨q,hq⟩:∃q,q=rdN xs s r:=⟨_,rfl⟩;obtain⟨ys,hys⟩:∃ys,ys=(v0a xs s r).1:=⟨_,rfl⟩;rw[<-hq] at C1' C2 HQ⊢;rw[<-hys] at C1' C2;obtain⟨z,p⟩:=q;clear hq hys C1 e1 e2 hs;go_enter Tryz.func168,Tryz.ntmps168;go_wp2_with fail;refine C1'.out.mono ?_;rintro e w1 ⟨A',k,rfl,hk,hH,hP1,hO1⟩;have HH:=hI hH;have HP1:=hI hP1;have HO1:=hI hO1;clear hk hH hP1 hO1;go_wp2_with fail;refine(C2.out w1 A' k HH.out).mono ?_;rintro e w2 ⟨⟨er,rfl⟩,rfl⟩;go_wp2;go_ret;exact HQ.out _ _ ⟨rfl,HP1.out,HO1.out⟩
theorem x0b(w:World)(g B:Nat)(xs:List Int)(r:Rd)(hx:Bytes xs)(hP:PF w g B xs r) :
  Calls Tryz.prog 123 #[.pointer (some ⟨g,0,none⟩)] w (S1b w g B xs .u8 (rdN xs 1 r)):=by
 have C1:=hI (O8a w g B xs r 1 hP (by decide));have hb:=P4a hx 1 r 256 (by decide) (by decide);have HQ:Hid (∀e w',(e=.returned (.int .u8 (rdN xs 1 r).1)/\PF w' g B xs (rdN xs 1 r).2/\T1a g w w')->S1b w g B xs .u8 (rdN xs 1 r) e w'):=λ_ _ h=>h
 unfold S1b at C1;obtain⟨q,hq⟩:∃q,q=rdN xs 1 r:=⟨_,rfl⟩;rw[<-hq] at C1 HQ hb⊢;obtain⟨z,p⟩:=q;change 0<=z/\z<=_ at hb
 obtain⟨hb0,hb1⟩:=hb;have hz:IntKind.u8.wrap z=z:=by rw[IntKind.wrap_u8];omega
 clear hq hP;go_enter Tryz.func123,Tryz.ntmps123;go_wp2_with fail;refine C1.out.mono ?_;rintro e w1 ⟨rfl,hP1,hO1⟩;have HP1:=hI hP1;have HO1:=hI hO1;clear hP1 hO1;go_wp2;go_ret;exact HQ.out _ _ ⟨rfl,HP1.out,HO1.out⟩
theorem Q5b(w:World)(g B:Nat)(xs:List Int)(r:Rd)(hx:Bytes xs)(hP:PF w g B xs r) :
  Calls Tryz.prog 171 #[.pointer (some ⟨g,0,none⟩)] w (S1b w g B xs .u16 (rdN xs 2 r)):=by
 have C1:=hI (O8a w g B xs r 2 hP (by decide));have hb:=P4a hx 2 r 65536 (by decide) (by decide);have HQ:Hid (∀e w',(e=.returned (.int .u16 (rdN xs 2 r).1)/\PF w' g B xs (rdN xs 2 r).2/\T1a g w w')->S1b w g B xs .u16 (rdN xs 2 r) e w'):=λ_ _ h=>h
 unfold S1b at C1;obtain⟨q,hq⟩:∃q,q=rdN xs 2 r:=⟨_,rfl⟩;rw[<-hq] at C1 HQ hb⊢;obtain⟨z,p⟩:=q;change 0<=z/\z<=_ at hb
 obtain⟨hb0,hb1⟩:=hb;have hz:IntKind.u16.wrap z=z:=by rw[IntKind.wrap_u16];omega
 clear hq hP;go_enter Tryz.func171,Tryz.ntmps171;go_wp2_with fail;refine C1.out.mono ?_;rintro e w1 ⟨rfl,hP1,hO1⟩;have HP1:=hI hP1;have HO1:=hI hO1;clear hP1 hO1;go_wp2;go_ret;exact HQ.out _ _ ⟨rfl,HP1.out,HO1.out⟩
theorem S5a(w:World)(g B:Nat)(xs:List Int)(r:Rd)(hx:Bytes xs)(hP:PF w g B xs r) :
  Calls Tryz.prog 124 #[.pointer (some ⟨g,0,none⟩)] w (S1b w g B xs .u32 (rdN xs 4 r)):=by
 have C1:=hI (O8a w g B xs r 4 hP (by decide));have hb:=P4a hx 4 r 4294967296 (by decide) (by decide);have HQ:Hid (∀e w',(e=.returned (.int .u32 (rdN xs 4 r).1)/\PF w' g B xs (rdN xs 4 r).2/\T1a g w w')->S1b w g B xs .u32 (rdN xs 4 r) e w'):=λ_ _ h=>h
 unfold S1b at C1;obtain⟨q,hq⟩:∃q,q=rdN xs 4 r:=⟨_,rfl⟩;rw[<-hq] at C1 HQ hb⊢;obtain⟨z,p⟩:=q;change 0<=z/\z<=_ at hb
 obtain⟨hb0,hb1⟩:=hb;have hz:IntKind.u32.wrap z=z:=by rw[IntKind.wrap_u32];omega
 clear hq hP;go_enter Tryz.func124,Tryz.ntmps124;go_wp2_with fail;refine C1.out.mono ?_;rintro e w1 ⟨rfl,hP1,hO1⟩;have HP1:=hI hP1;have HO1:=hI hO1;clear hP1 hO1;go_wp2;go_ret;exact HQ.out _ _ ⟨rfl,HP1.out,HO1.out⟩
theorem i3a(w:World)(g B:Nat)(xs:List Int)(r:Rd)(hx:Bytes xs)(hP:PF w g B xs r) :
  Calls Tryz.prog 125 #[.pointer (some ⟨g,0,none⟩)] w (S1b w g B xs .u64 (rdN xs 8 r)):=by
 have C1:=hI (O8a w g B xs r 8 hP (by decide));have hb:=P4a hx 8 r 18446744073709551616 (by decide) (by decide);have HQ:Hid (∀e w',(e=.returned (.int .u64 (rdN xs 8 r).1)/\PF w' g B xs (rdN xs 8 r).2/\T1a g w w')->S1b w g B xs .u64 (rdN xs 8 r) e w'):=λ_ _ h=>h
 unfold S1b at C1;obtain⟨q,hq⟩:∃q,q=rdN xs 8 r:=⟨_,rfl⟩;rw[<-hq] at C1 HQ hb⊢;obtain⟨z,p⟩:=q;change 0<=z/\z<=_ at hb
 obtain⟨hb0,hb1⟩:=hb;clear hq hP;go_enter Tryz.func125,Tryz.ntmps125;go_wp2_with fail;refine C1.out.mono ?_;rintro e w1 ⟨rfl,hP1,hO1⟩;have HP1:=hI hP1;have HO1:=hI hO1;clear hP1 hO1;go_wp2;go_ret;exact HQ.out _ _ ⟨rfl,HP1.out,HO1.out⟩
theorem e8b(w:World)(g B:Nat)(xs:List Int)(r:Rd)(most:Int)(hx:Bytes xs)(hP:PF w g B xs r)(hm:0<=most/\most<=65535) :
  Calls Tryz.prog 132 #[.pointer (some ⟨g,0,none⟩),.int .u16 most] w (S1b w g B xs .u16 (s9a xs most r)):=by
 have C1:=hI (Q5b w g B xs r hx hP);have hb:=P4a hx 2 r 65536 (by decide) (by decide);have h0:(rdN xs 2 r).2.e≠0->(rdN xs 2 r).1=0:=by
  intro h;unfold rdN at h⊢;by_cases h1:r.e=0
  ·rw[if_pos h1] at h⊢;by_cases h2:xs.length<r.p+2
   ·rw[if_pos h2]
   ·rw[if_neg h2] at h;exact absurd rfl h
  ·rw[if_neg h1]
 unfold S1b at C1;have HQ:Hid (∀e w',(e=.returned (.int .u16 (s9a xs most r).1)/\PF w' g B xs (s9a xs most r).2/\T1a g w w')->S1b w g B xs .u16 (s9a xs most r) e w'):=λ_ _ h=>h
 obtain⟨q,hq⟩:∃q,q=rdN xs 2 r:=⟨_,rfl⟩;have hu:s9a xs most r=if q.2.e=0/\most<q.1 then (q.1,⟨q.2.p,5⟩) else q:=by rw[hq];rfl
 rw[hu] at HQ⊢;rw[<-hq] at C1 hb h0;obtain⟨z,p⟩:=q;change 0<=z/\z<=_ at hb
 obtain⟨hb0,hb1⟩:=hb;obtain⟨hm0,hm1⟩:=hm;clear hq hP hu;by_cases hg:most<z
 ·have he:p.e=0:=by
   by_cases he:p.e=0
   ·exact he
   ·have:z=0:=h0 he;omega
  rw[if_pos ⟨he,hg⟩] at HQ⊢;clear h0 he;go_enter Tryz.func132,Tryz.ntmps132;go_wp2_with fail;refine C1.out.mono ?_;rintro e w1 ⟨rfl,hP1,hO1⟩;obtain⟨hp1,hg1,A,n,c,hB1,hx1⟩:=hP1;have f1:=Blk.frozen hB1 1;have c1:w1.cell? ⟨g,1,none⟩=some (.int .i64 p.e):=Blk.at hB1 rfl;have HO:Hid (T1a g w (w1.setCell ⟨g,1,none⟩ (.int .i64 5))):=hO1.setCell 1 _;have HP:Hid (PF (w1.setCell ⟨g,1,none⟩ (.int .i64 5)) g B xs ⟨p.p,5⟩):=⟨hp1,hg1,A,n,c,Blk.set hB1 1 _,hx1.only (g1a w1 g 1 _) hg1⟩;clear hp1 hg1 hB1 hx1 hO1;go_wp2;go_ret;exact HQ.out _ _ ⟨rfl,HP.out,HO.out⟩
 ·rw[if_neg (λh=>hg h.2)] at HQ⊢;clear h0;go_enter Tryz.func132,Tryz.ntmps132;go_wp2_with fail;refine C1.out.mono ?_;rintro e w1 ⟨rfl,hP1,hO1⟩;have HP1:=hI hP1;have HO1:=hI hO1;clear hP1 hO1;go_wp2;go_ret;exact HQ.out _ _ ⟨rfl,HP1.out,HO1.out⟩
theorem h4b(w:World)(g B:Nat)(xs:List Int)(r:Rd)(s:Nat)(most:Int)(hx:Bytes xs)(hP:PF w g B xs r)(hs:j3a (s:Int)=true)(hm:0<=most/\most<=65535) :
  Calls Tryz.prog 170 #[.pointer (some ⟨g,0,none⟩),.int .i64 (s:Int),.int .i64 most] w (S1b w g B xs .i64 (b1a xs s most 3 r)):=by
 have C1:=hI (O8a w g B xs r s hP hs);have h0:0<=(rdN xs s r).1/\((rdN xs s r).2.e≠0->(rdN xs s r).1=0):=by
  unfold rdN;by_cases h1:r.e=0
  ·rw[if_pos h1];by_cases h2:xs.length<r.p+s
   ·rw[if_pos h2];exact⟨Int.le_refl 0,λ_=>rfl⟩
   ·rw[if_neg h2];exact⟨(R1a xs hx r.p s _ rfl).1,λh=>absurd rfl h⟩
  ·rw[if_neg h1];exact⟨Int.le_refl 0,λ_=>rfl⟩
 unfold S1b at C1;have HQ:Hid (∀e w',(e=.returned (.int .i64 (b1a xs s most 3 r).1)/\PF w' g B xs (b1a xs s most 3 r).2/\T1a g w w')->S1b w g B xs .i64 (b1a xs s most 3 r) e w'):=λ_ _ h=>h
 obtain⟨q,hq⟩:∃q,q=rdN xs s r:=⟨_,rfl⟩;have hu:b1a xs s most 3 r=if q.2.e=0/\most<q.1 then (0,⟨q.2.p,3⟩) else q:=by rw[hq];rfl
 rw[hu] at HQ⊢;rw[<-hq] at C1 h0;obtain⟨z,p⟩:=q;obtain⟨hb0,h0⟩:=h0;change 0<=z at hb0
 obtain⟨hm0,hm1⟩:=hm;have hmz:IntKind.u64.wrap most=most:=by rw[IntKind.wrap_u64];omega
 clear hq hP hu;by_cases hg:most<z
 ·have he:p.e=0:=by
   by_cases he:p.e=0
   ·exact he
   ·have:z=0:=h0 he;omega
  rw[if_pos ⟨he,hg⟩] at HQ⊢;clear h0 he;go_enter Tryz.func170,Tryz.ntmps170;go_wp2_with fail;refine C1.out.mono ?_;rintro e w1 ⟨rfl,hP1,hO1⟩;obtain⟨hp1,hg1,A,n,c,hB1,hx1⟩:=hP1;have f1:=Blk.frozen hB1 1;have c1:w1.cell? ⟨g,1,none⟩=some (.int .i64 p.e):=Blk.at hB1 rfl;have HO:Hid (T1a g w (w1.setCell ⟨g,1,none⟩ (.int .i64 3))):=hO1.setCell 1 _;have HP:Hid (PF (w1.setCell ⟨g,1,none⟩ (.int .i64 3)) g B xs ⟨p.p,3⟩):=⟨hp1,hg1,A,n,c,Blk.set hB1 1 _,hx1.only (g1a w1 g 1 _) hg1⟩;clear hp1 hg1 hB1 hx1 hO1;go_wp2;go_ret;exact HQ.out _ _ ⟨rfl,HP.out,HO.out⟩
 ·rw[if_neg (λh=>hg h.2)] at HQ⊢;have hzz:IntKind.i64.wrap z=z:=by rw[IntKind.wrap_i64];omega
  clear h0;go_enter Tryz.func170,Tryz.ntmps170;go_wp2_with fail;refine C1.out.mono ?_;rintro e w1 ⟨rfl,hP1,hO1⟩;have HP1:=hI hP1;have HO1:=hI hO1;clear hP1 hO1;go_wp2;go_ret;exact HQ.out _ _ ⟨rfl,HP1.out,HO1.out⟩
def Y1c(w:World)(g B:Nat)(xs:List Int)(r:Rd)(e:Ending)(w':World):Prop:=e=.returned (.tuple #[])/\PF w' g B xs r/\T1a g w w'
theorem r6a(w:World)(g B:Nat)(xs:List Int)(r:Rd)(m:Nat)(hx:Bytes xs)(hP:PF w g B xs r)(hm:m<=65536) :
  Calls Tryz.prog 126 #[.pointer (some ⟨g,0,none⟩),.int .i64 (m:Int)] w (Y1c w g B xs (rdZ xs m r)):=by
 have C1:=o3b w g B xs r m hP (by omega);have C2:Hid (∀(w:World) (A:Option Addr) (k:Nat),Holds w B A k k (v0a xs m r).1->Calls Tryz.prog 165 #[.slice A k k,.int .i64 0,.int .i64 (m:Int)] w λe w'=>e=.returned (.bool (zeroOf (v0a xs m r).1 0 (m:Int)))/\w=w'):=λw A k hh=>b3b w B A k k _ 0 (m:Int) hh (by omega) (by omega)
 have hq:∀e w',(e=.returned (.tuple #[])/\PF w' g B xs (if (v0a xs m r).2.e=0 then (if zeroOf (v0a xs m r).1 0 (m:Int)=true then (v0a xs m r).2 else ⟨(v0a xs m r).2.p,5⟩) else (v0a xs m r).2)/\T1a g w w')->Y1c w g B xs (rdZ xs m r) e w':=λ_ _ h=>h
 unfold j8a at C1;obtain⟨z,hz⟩:∃z,z=zeroOf (v0a xs m r).1 0 (m:Int):=⟨_,rfl⟩;rw[<-hz] at C2 hq;obtain⟨ys,hys⟩:∃ys,ys=(v0a xs m r).1:=⟨_,rfl⟩;rw[<-hys] at C1 C2;obtain⟨q,hqq⟩:∃q,q=(v0a xs m r).2:=⟨_,rfl⟩;rw[<-hqq] at C1 hq;obtain⟨p,er⟩:=q;have C1':=hI C1;clear C1 hz hys hqq hP;by_cases he:er=0
 ·by_cases hzz:z=true
  ·have HQ:Hid (∀e w',(e=.returned (.tuple #[])/\PF w' g B xs ⟨p,er⟩/\T1a g w w')->Y1c w g B xs (rdZ xs m r) e w'):=by intro e w' hh;refine hq e w' ?_;rw[if_pos he,if_pos hzz];exact hh
   clear hq;subst he hzz;go_enter Tryz.func126,Tryz.ntmps126;go_wp2_with fail;refine C1'.out.mono ?_;rintro e w1 ⟨A',k,rfl,hk,hH,hP1,hO1⟩;have HP1:=hI hP1;obtain⟨hp1,hg1,A,n,c,hB1,hx1⟩:=hP1;have c1:w1.cell? ⟨g,1,none⟩=some (.int .i64 0):=Blk.at hB1 rfl;have HH:=hI hH;have HO1:=hI hO1;clear hk hH hp1 hg1 hB1 hx1 hO1;go_wp2_with fail;refine(C2.out w1 A' k HH.out).mono ?_;rintro e w2 ⟨rfl,rfl⟩;go_wp2;go_end0;exact HQ.out _ _ ⟨rfl,HP1.out,HO1.out⟩
  ·have HQ:Hid (∀e w',(e=.returned (.tuple #[])/\PF w' g B xs ⟨p,5⟩/\T1a g w w')->Y1c w g B xs (rdZ xs m r) e w'):=by intro e w' hh;refine hq e w' ?_;rw[if_pos he,if_neg hzz];exact hh
   clear hq;have hzf:z=false:=by simpa using hzz
   clear hzz;subst he hzf;go_enter Tryz.func126,Tryz.ntmps126;go_wp2_with fail;refine C1'.out.mono ?_;rintro e w1 ⟨A',k,rfl,hk,hH,hP1,hO1⟩;obtain⟨hp1,hg1,A,n,c,hB1,hx1⟩:=hP1;have c1:w1.cell? ⟨g,1,none⟩=some (.int .i64 0):=Blk.at hB1 rfl;have f1:=Blk.frozen hB1 1;have HH:=hI hH;have HO:Hid (T1a g w (w1.setCell ⟨g,1,none⟩ (.int .i64 5))):=hO1.setCell 1 _;have HP:Hid (PF (w1.setCell ⟨g,1,none⟩ (.int .i64 5)) g B xs ⟨p,5⟩):=⟨hp1,hg1,A,n,c,Blk.set hB1 1 _,hx1.only (g1a w1 g 1 _) hg1⟩;clear hk hH hp1 hg1 hB1 hx1 hO1;go_wp2_with fail;refine(C2.out w1 A' k HH.out).mono ?_;rintro e w2 ⟨rfl,rfl⟩;go_wp2;go_end0;exact HQ.out _ _ ⟨rfl,HP.out,HO.out⟩
 ·have HQ:Hid (∀e w',(e=.returned (.tuple #[])/\PF w' g B xs ⟨p,er⟩/\T1a g w w')->Y1c w g B xs (rdZ xs m r) e w'):=by intro e w' hh;refine hq e w' ?_;rw[if_neg he];exact hh
  have hne:(er==0)=false:=by simpa using he
  clear hq C2 he;go_enter Tryz.func126,Tryz.ntmps126;go_wp2_with fail;refine C1'.out.mono ?_;rintro e w1 ⟨A',k,rfl,hk,hH,hP1,hO1⟩;have HP1:=hI hP1;obtain⟨hp1,hg1,A,n,c,hB1,hx1⟩:=hP1;have c1:w1.cell? ⟨g,1,none⟩=some (.int .i64 er):=Blk.at hB1 rfl;have HO1:=hI hO1;clear hk hH hp1 hg1 hB1 hx1 hO1;go_wp2;go_end0;exact HQ.out _ _ ⟨rfl,HP1.out,HO1.out⟩
theorem U4a(w:World)(g B:Nat)(xs:List Int)(r:Rd)(hP:PF w g B xs r) :
  Calls Tryz.prog 130 #[.pointer (some ⟨g,0,none⟩)] w λe w'=>e=.returned (.int .i64 (H0a xs r))/\w=w':=by
 obtain⟨p,er⟩:=r;obtain⟨hp,hg,A,n,c,hB,hx⟩:=hP;change p<=xs.length at hp
 have hl:xs.length-p=n:=by rw[<-hx.len,List.length_drop]
 have hrm:=hx.room;have c0:w.cell? ⟨g,0,none⟩=some (.slice A n c):=Blk.at hB rfl;have c1:w.cell? ⟨g,1,none⟩=some (.int .i64 er):=Blk.at hB rfl;unfold H0a;by_cases he:er=0
 ·subst he;by_cases hn:0<n
  ·rw[if_pos ⟨rfl,by show p≠_;omega⟩];clear hB hx hl hp;go_enter Tryz.func130,Tryz.ntmps130;go_wp2;go_ret;exact⟨rfl,rfl⟩
  ·rw[if_neg (λh=>h.2 (by show p=_;omega))];have hn0:n=0:=by omega
   clear hB hx hl hp hn;subst hn0;go_enter Tryz.func130,Tryz.ntmps130;go_wp2;go_ret;exact⟨rfl,rfl⟩
 ·rw[if_neg (λh=>he h.1)];have hne:(er==0)=false:=by simpa using he
  clear hB hx hl hp he;go_enter Tryz.func130,Tryz.ntmps130;go_wp2;go_ret;exact⟨rfl,rfl⟩
end Go.Proofs.YtgfflnjggnadpaaGreatDoor
