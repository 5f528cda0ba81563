import Derived.Deep.OwnRows
import Derived.Test.YtgfflnjggnadpaaGreatDoorZAA
import Derived.Test.YtgfflnjggnadpaaGreatDoorS0
set_option linter.all false
set_option maxHeartbeats 8000000
set_option maxRecDepth 100000
namespace Go.Proofs.YtgfflnjggnadpaaGreatDoor
open Go.RowKit
structure g2a where
 op:Int
 at_:Int
 n:Int
 md:Int
def g2a.tup(l:g2a):Int×Int×Int×Int:=(l.op,l.at_,l.n,l.md)
theorem g2a.tup_inj{a b:g2a}:a.tup=b.tup↔a=b:=by cases a;cases b;simp[g2a.tup]
instance:DecidableEq g2a:=λ_ _=>decidable_of_iff _ g2a.tup_inj
structure g2a.ok (l:g2a):Prop where
 op:-9223372036854775808<=l.op/\l.op<=9223372036854775807
 at_:0<=l.at_/\l.at_<=18446744073709551615
 n:0<=l.n/\l.n<=18446744073709551615
 md:0<=l.md/\l.md<=65535
def E0a(l:g2a):List Value:=[.int .i64 l.op,.int .u64 l.at_,.int .u64 l.n,.int .u16 l.md]
theorem Y2a(l:g2a):(E0a l).length=4:=rfl
theorem k6a(l:g2a):∀u∈E0a l,u.oneCell'=true:=by intro u hu;simp only[E0a,List.mem_cons,List.not_mem_nil,or_false] at hu;rcases hu with rfl | rfl | rfl | rfl<;>rfl
structure y1a where
 name:ByteArray
 kind:Int
 size:Int
def y1a.tup(l:y1a):ByteArray×Int×Int:=(l.name,l.kind,l.size)
theorem y1a.tup_inj{a b:y1a}:a.tup=b.tup↔a=b:=by cases a;cases b;simp[y1a.tup]
instance:DecidableEq y1a:=λ_ _=>decidable_of_iff _ y1a.tup_inj
structure y1a.ok (l:y1a):Prop where
 kind:0<=l.kind/\l.kind<=255
 size:-9223372036854775808<=l.size/\l.size<=9223372036854775807
def z0a(l:y1a):List Value:=[.string l.name,.int .u8 l.kind,.int .i64 l.size]
theorem J2a(l:y1a):(z0a l).length=3:=rfl
theorem x4a(l:y1a):∀u∈z0a l,u.oneCell'=true:=by intro u hu;simp only[z0a,List.mem_cons,List.not_mem_nil,or_false] at hu;rcases hu with rfl | rfl | rfl<;>rfl
structure m1a where
 dial:List Int
 guid:List Int
 proof:List Int
 user:ByteArray
 share:ByteArray
 acc:Int
 shr:Int
 way:Int
 opt:Int
 lev:Int
 dur:Int
 file:Int
 name:ByteArray
 at_:Int
 n:Int
 data:List Int
 locks:List g2a
 most:Int
 pat:ByteArray
 aft:ByteArray
 cls:Int
 siz:Int
 on:Bool
def m1a.tup(a:m1a):List (List Int)×List ByteArray×List Int×List g2a×Bool:=([a.dial,a.guid,a.proof,a.data],[a.user,a.share,a.name,a.pat,a.aft],[a.acc,a.shr,a.way,a.opt,a.lev,a.dur,a.file,a.at_,a.n,a.most,a.cls,a.siz],a.locks,a.on)
theorem m1a.tup_inj{a b:m1a}:a.tup=b.tup↔a=b:=by
 constructor
 ·obtain⟨a1,a2,a3,a4,a5,a6,a7,a8,a9,a10,a11,a12,a13,a14,a15,a16,a17,a18,a19,a20,a21,a22,a23⟩:=a;obtain⟨b1,b2,b3,b4,b5,b6,b7,b8,b9,b10,b11,b12,b13,b14,b15,b16,b17,b18,b19,b20,b21,b22,b23⟩:=b;intro h;simp only[m1a.tup,Prod.mk.injEq,List.cons.injEq,and_true] at h;obtain⟨⟨h1,h2,h3,h16⟩,⟨h4,h5,h13,h19,h20⟩,⟨h6,h7,h8,h9,h10,h11,h12,h14,h15,h18,h21,h22⟩,h17,h23⟩:=h;subst h1 h2 h3 h4 h5 h6 h7 h8 h9 h10 h11 h12 h13 h14 h15 h16 h17 h18 h19 h20 h21 h22 h23;rfl
 ·rintro rfl;rfl
instance:DecidableEq m1a:=λ_ _=>decidable_of_iff _ m1a.tup_inj
structure m1a.ok (a:m1a):Prop where
 dial:∀x∈a.dial,0<=x/\x<=65535
 glen:a.guid.length=16
 gbyte:Bytes a.guid
 plen:a.proof.length=32
 pbyte:Bytes a.proof
 acc:0<=a.acc/\a.acc<=4294967295
 shr:0<=a.shr/\a.shr<=4294967295
 way:0<=a.way/\a.way<=4294967295
 opt:0<=a.opt/\a.opt<=4294967295
 lev:0<=a.lev/\a.lev<=255
 dur:0<=a.dur/\a.dur<=255
 file:0<=a.file/\a.file<=18446744073709551615
 at_:0<=a.at_/\a.at_<=18446744073709551615
 n:0<=a.n/\a.n<=4294967295
 data:Bytes a.data
 locks:∀l∈a.locks,l.ok
 most:0<=a.most/\a.most<=65535
 cls:0<=a.cls/\a.cls<=65535
 siz:0<=a.siz/\a.siz<=18446744073709551615
def i0a:m1a:=⟨[],List.replicate 16 0,List.replicate 32 0,.empty,.empty,0,0,0,0,0,0,0,.empty,0,0,[],[],0,.empty,.empty,0,0,false⟩
theorem h0a:i0a.ok:=⟨(λx h=>by cases h),rfl,Bytes.zeros 16,rfl,Bytes.zeros 32,by decide,by decide,by decide,by decide,by decide,by decide,by decide,by decide,by decide,Bytes.nil,(λl h=>by cases h),by decide,by decide,by decide⟩
def A8a(vx vl:Value)(a:m1a):List Value:=[.string a.user,.string a.share,.int .u32 a.acc,.int .u32 a.shr,.int .u32 a.way,.int .u32 a.opt,.int .u8 a.lev,.int .u8 a.dur,.int .u64 a.file,.string a.name,.int .u64 a.at_,.int .u32 a.n,vx,vl,
 .int .u16 a.most,.string a.pat,.string a.aft,.int .u16 a.cls,.int .u64 a.siz,.bool a.on]
def j0a(vd vx vl:Value)(a:m1a):List Value:=vd::(a.guid.map (Value.int .u8)++(a.proof.map (Value.int .u8)++A8a vx vl a))
def f1a(w:World)(B:Nat)(cs:List Value)(a:m1a):Prop:=∃Ad nd cd Ax nx cx Al nl cl,cs=j0a (.slice Ad nd cd) (.slice Ax nx cx) (.slice Al nl cl) a/\
 G1a (Value.int .u16) w B Ad nd cd a.dial/\Holds w B Ax nx cx a.data/\d1a E0a 4 w B Al nl cl a.locks
structure M1a where
 dia:Int
 siz:Int
 chal:List Int
 lev:Int
 dur:Int
 made:Int
 file:Int
 kind:Int
 data:List Int
 n:Int
 ents:List y1a
 more:Bool
 gone:Bool
def M1a.tup(a:M1a):(List Int×List Int)×(List Int×List y1a×Bool×Bool):=(([a.dia,a.siz,a.lev,a.dur,a.made,a.file,a.kind,a.n],a.chal),(a.data,a.ents,a.more,a.gone))
theorem M1a.tup_inj{a b:M1a}:a.tup=b.tup↔a=b:=by
 obtain⟨a1,a2,a3,a4,a5,a6,a7,a8,a9,a10,a11,a12,a13⟩:=a;obtain⟨b1,b2,b3,b4,b5,b6,b7,b8,b9,b10,b11,b12,b13⟩:=b;simp only[M1a.tup,Prod.mk.injEq,List.cons.injEq,M1a.mk.injEq,and_true];constructor
 ·rintro⟨⟨⟨h1,h2,h3,h4,h5,h6,h7,h8⟩,h9⟩,h10,h11,h12,h13⟩;exact⟨h1,h2,h9,h3,h4,h5,h6,h7,h10,h8,h11,h12,h13⟩
 ·rintro⟨h1,h2,h9,h3,h4,h5,h6,h7,h10,h8,h11,h12,h13⟩;exact⟨⟨⟨h1,h2,h3,h4,h5,h6,h7,h8⟩,h9⟩,h10,h11,h12,h13⟩
instance:DecidableEq M1a:=λ_ _=>decidable_of_iff _ M1a.tup_inj
structure M1a.ok (a:M1a):Prop where
 dia:0<=a.dia/\a.dia<=65535
 siz:0<=a.siz/\a.siz<=18446744073709551615
 clen:a.chal.length=8
 cbyte:Bytes a.chal
 lev:0<=a.lev/\a.lev<=255
 dur:0<=a.dur/\a.dur<=255
 made:0<=a.made/\a.made<=65535
 file:0<=a.file/\a.file<=18446744073709551615
 kind:0<=a.kind/\a.kind<=255
 data:Bytes a.data
 n:0<=a.n/\a.n<=4294967295
 ents:∀l∈a.ents,l.ok
def q0a:M1a:=⟨0,0,List.replicate 8 0,0,0,0,0,0,[],0,[],false,false⟩
theorem G0a:q0a.ok:=⟨by decide,by decide,rfl,Bytes.zeros 8,by decide,by decide,by decide,by decide,by decide,Bytes.nil,by decide,(λl h=>by cases h)⟩
def b2b(vx ve:Value)(a:M1a):List Value:=[.int .u8 a.lev,.int .u8 a.dur,.int .u16 a.made,.int .u64 a.file,.int .u8 a.kind,vx,.int .u32 a.n,ve,.bool a.more,.bool a.gone]
def r0a(vx ve:Value)(a:M1a):List Value:=.int .u16 a.dia::.int .u64 a.siz::(a.chal.map (Value.int .u8)++b2b vx ve a)
def n1a(w:World)(B:Nat)(cs:List Value)(a:M1a):Prop:=∃Ax nx cx Ae ne ce,cs=r0a (.slice Ax nx cx) (.slice Ae ne ce) a/\Holds w B Ax nx cx a.data/\d1a z0a 3 w B Ae ne ce a.ents
section
variable {w w':World} {B B' g:Nat} {T:TypeId} {cs:List Value} {a:m1a} {s:M1a} {vd vx vl ve:Value}
theorem f1a.keep(h:f1a w B cs a)(hk:∀p:Addr,p.block<B->w'.cell? p=w.cell? p):f1a w' B cs a:=by obtain⟨Ad,nd,cd,Ax,nx,cx,Al,nl,cl,e,h1,h2,h3⟩:=h;exact⟨Ad,nd,cd,Ax,nx,cx,Al,nl,cl,e,h1.keep hk,h2.keep hk,h3.keep hk⟩
theorem f1a.mono(h:f1a w B cs a)(hB:B<=B'):f1a w B' cs a:=by obtain⟨Ad,nd,cd,Ax,nx,cx,Al,nl,cl,e,h1,h2,h3⟩:=h;exact⟨Ad,nd,cd,Ax,nx,cx,Al,nl,cl,e,h1.mono hB,h2.mono hB,h3.mono hB⟩
theorem f1a.below(h:f1a w B cs a)(hb:Below B w w'):f1a w' B cs a:=h.keep λ_ hp=>hb.cell hp
theorem f1a.over(h:f1a w w.heap.size cs a)(hb:Below w.heap.size w w'):f1a w' w'.heap.size cs a:=(h.below hb).mono hb.size
theorem f1a.drewN(h:f1a w B cs a)(k:Nat):f1a (w.drewN k) B cs a:=h.keep λ_ _=>rfl
theorem f1a.drew(h:f1a w B cs a):f1a w.drew B cs a:=h.keep λ_ _=>rfl
theorem n1a.keep(h:n1a w B cs s)(hk:∀p:Addr,p.block<B->w'.cell? p=w.cell? p):n1a w' B cs s:=by obtain⟨Ax,nx,cx,Al,nl,cl,e,h2,h3⟩:=h;exact⟨Ax,nx,cx,Al,nl,cl,e,h2.keep hk,h3.keep hk⟩
theorem n1a.mono(h:n1a w B cs s)(hB:B<=B'):n1a w B' cs s:=by obtain⟨Ax,nx,cx,Al,nl,cl,e,h2,h3⟩:=h;exact⟨Ax,nx,cx,Al,nl,cl,e,h2.mono hB,h3.mono hB⟩
theorem n1a.below(h:n1a w B cs s)(hb:Below B w w'):n1a w' B cs s:=h.keep λ_ hp=>hb.cell hp
theorem n1a.over(h:n1a w w.heap.size cs s)(hb:Below w.heap.size w w'):n1a w' w'.heap.size cs s:=(h.below hb).mono hb.size
theorem n1a.drewN(h:n1a w B cs s)(k:Nat):n1a (w.drewN k) B cs s:=h.keep λ_ _=>rfl
theorem n1a.drew(h:n1a w B cs s):n1a w.drew B cs s:=h.keep λ_ _=>rfl
theorem I1a(k:a.ok):(j0a vd vx vl a).length=69:=by simp[j0a,A8a,k.glen,k.plen]
theorem U1a(k:s.ok):(r0a vx ve s).length=20:=by simp[r0a,b2b,k.clen]
theorem F7a{xs:List Int}{k:IntKind}{v:Value}(h:v∈xs.map (Value.int k)):v.oneCell'=true:=by obtain⟨x,_,rfl⟩:=List.mem_map.1 h;rfl
theorem x1a(hd:vd.oneCell'=true)(hx:vx.oneCell'=true)(hl:vl.oneCell'=true):∀v∈j0a vd vx vl a,v.oneCell'=true:=by
 intro v hv;simp only[j0a,List.mem_cons,List.mem_append] at hv;rcases hv with rfl | hv | hv | hv
 ·exact hd
 ·exact F7a hv
 ·exact F7a hv
 ·simp only[A8a,List.mem_cons,List.not_mem_nil,or_false] at hv;rcases hv with rfl | rfl | rfl | rfl | rfl | rfl | rfl | rfl | rfl | rfl | rfl | rfl | rfl | rfl | rfl | rfl | rfl | rfl | rfl | rfl<;>first | rfl | assumption
theorem J1a(hx:vx.oneCell'=true)(hl:ve.oneCell'=true):∀v∈r0a vx ve s,v.oneCell'=true:=by
 intro v hv;simp only[r0a,List.mem_cons,List.mem_append] at hv;rcases hv with rfl | rfl | hv | hv
 ·rfl
 ·rfl
 ·exact F7a hv
 ·simp only[b2b,List.mem_cons,List.not_mem_nil,or_false] at hv;rcases hv with rfl | rfl | rfl | rfl | rfl | rfl | rfl | rfl | rfl | rfl<;>first | rfl | assumption
theorem f1a.one(h:f1a w B cs a):∀v∈cs,v.oneCell'=true:=by obtain⟨_,_,_,_,_,_,_,_,_,rfl,_⟩:=h;exact x1a rfl rfl rfl
theorem f1a.len(h:f1a w B cs a)(k:a.ok):cs.length=69:=by obtain⟨_,_,_,_,_,_,_,_,_,rfl,_⟩:=h;exact I1a k
theorem n1a.one(h:n1a w B cs s):∀v∈cs,v.oneCell'=true:=by obtain⟨_,_,_,_,_,_,rfl,_⟩:=h;exact J1a rfl rfl
theorem n1a.len(h:n1a w B cs s)(k:s.ok):cs.length=20:=by obtain⟨_,_,_,_,_,_,rfl,_⟩:=h;exact U1a k
theorem p0a(k:a.ok)(i:Nat):(j0a vd vx vl a)[49+i]? = (A8a vx vl a)[i]?:=by
 unfold j0a;rw[show 49+i=(48+i)+1 from by omega,List.getElem?_cons_succ,List.getElem?_append_right (by rw[List.length_map,k.glen];omega),List.length_map,k.glen,List.getElem?_append_right (by rw[List.length_map,k.plen];omega),List.length_map,k.plen]
 congr 1
 omega
theorem G7a(k:a.ok)(i:Nat)(u:Value):(j0a vd vx vl a).set (49+i) u=vd::(a.guid.map (Value.int .u8)++(a.proof.map (Value.int .u8)++(A8a vx vl a).set i u)):=by
 unfold j0a;rw[show 49+i=(48+i)+1 from by omega,List.set_cons_succ,List.set_append_right _ _ (by rw[List.length_map,k.glen];omega),List.length_map,k.glen,List.set_append_right _ _ (by rw[List.length_map,k.plen];omega),List.length_map,k.plen]
 congr 4
 omega
theorem B0a(k:s.ok)(i:Nat):(r0a vx ve s)[10+i]? = (b2b vx ve s)[i]?:=by
 unfold r0a;rw[show 10+i=(8+i)+1+1 from by omega,List.getElem?_cons_succ,List.getElem?_cons_succ,List.getElem?_append_right (by rw[List.length_map,k.clen];omega),List.length_map,k.clen]
 congr 1
 omega
theorem Blk.at(h:Blk w g T cs){i:Nat}{v:Value}(e:cs[i]? = some v):w.cell? ⟨g,i,none⟩=some v:=(h.cell i).trans e
end
theorem n0a:(Tryz.prog.info? 34).map (·.size)=some 69:=by kernel_rfl
theorem H7a:(Tryz.prog.info? 34).map (λi=>(i.zero,i.size))=some (some (.agg (j0a (.slice none 0 0) (.slice none 0 0) (.slice none 0 0) i0a).toArray),69):=by kernel_rfl
theorem B8a:Tryz.prog.built 34 []=some (j0a (.slice none 0 0) (.slice none 0 0) (.slice none 0 0) i0a).toArray:=by kernel_rfl
theorem s0a:(Tryz.prog.info? 39).map (·.size)=some 20:=by kernel_rfl
theorem I7a:(Tryz.prog.info? 39).map (λi=>(i.zero,i.size))=some (some (.agg (r0a (.slice none 0 0) (.slice none 0 0) q0a).toArray),20):=by kernel_rfl
theorem C8a:Tryz.prog.built 39 []=some (r0a (.slice none 0 0) (.slice none 0 0) q0a).toArray:=by kernel_rfl
theorem w2a(w:World)(B:Nat):f1a w B (j0a (.slice none 0 0) (.slice none 0 0) (.slice none 0 0) i0a) i0a:=⟨none,0,0,none,0,0,none,0,0,rfl,G1a.nil _ w B,Holds.nil w B,d1a.nil _ _ w B⟩
theorem E2a(w:World)(B:Nat):n1a w B (r0a (.slice none 0 0) (.slice none 0 0) q0a) q0a:=⟨none,0,0,none,0,0,rfl,Holds.nil w B,d1a.nil _ _ w B⟩
section
variable {P:Program} {ops:Array Oper} {md:Region.Mode} {S:World->Prop} {Q:Exit->Act->World->Prop}
theorem C0a(i:Nat)(oi:Oper){fuel:Nat}{listed:Array Bool}{a:Act}{w:World}(hr:Region.ready md ops listed=[i])(hi:ops[i]? = some oi)
(h:∀K:Act->World->Prop,(∀a' w',S w'->wpAnyH P md ops Q S fuel (listed.setIfInBounds i true) a' w'->K a' w')->if Region.wanted oi (yielded ops a.tmps)=true then oi.wp P a w K Q else K (a.put oi.dst undef) w):wpAnyH P md ops Q S (fuel+1) listed a w:=by
 refine wpAnyH_all hr (by simp) λj hj=>?_
 obtain rfl:j=i:=by simpa using hj
 have h1:=h (λa' w'=>S w'/\wpAnyH P md ops Q S fuel (listed.setIfInBounds j true) a' w') λ_ _ h2 h3=>⟨h2,h3⟩
 unfold wpOp;simp only[hi];by_cases hw:Region.wanted oi (yielded ops a.tmps)=true
 ·rw[if_pos hw] at h1⊢;exact .inl h1
 ·rw[if_neg hw] at h1⊢;exact h1
end
set_option maxRecDepth 100000
section
theorem n2a{P:Program}{T e:TypeId}{n:Nat}{k:IntKind}(hu:P.underlying T=some (.array n e))(he:P.underlying e=some (.int k))(hs:(P.info? e).map (·.size)=some 1)(xs ys:List Int)(hl:xs.length=n)(hm:ys.length=n)(d:Nat)(w:World) :
  (Op.equalIn (d+2) T (.agg (xs.map (Value.int k)).toArray) (.agg (ys.map (Value.int k)).toArray)).run P w=.ok (decide (xs=ys)) w:=by
 obtain⟨j,hj,hj1⟩:∃j,P.info? e=some j/\j.size=1:=by
  cases hq:P.info? e with
  | none=>simp[hq] at hs
  | some j=>exact⟨j,rfl,by simpa[hq] using hs⟩
 have hc:P.cellsOf e=1:=by unfold Program.cellsOf;rw[hj];simpa using hj1
 rw[show d+2=(d+1)+1 from rfl,run_equalIn_array w (d+1) _ _ hu hj,hc];have key:∀is:List Nat,(∀i∈is,i<n)->(Op.eqItems (d+1) e 1 (xs.map (Value.int k)).toArray (ys.map (Value.int k)).toArray is).run P w=.ok (is.all λi=>xs.getD i 0==ys.getD i 0) w:=by
  intro is
  induction is with
  | nil=>intro _;simp[Op.eqItems]
  | cons i is ih=>
   intro hi;have hil:i<n:=hi i List.mem_cons_self;have hx:i<xs.length:=by omega
   have hy:i<ys.length:=by omega
   have hp:(part e (xs.map (Value.int k)).toArray (i*1)).run P w=.ok (.int k xs[i]) w:=by simp[part,isAgg,run_underlying he,hx]
   have hp2:(part e (ys.map (Value.int k)).toArray (i*1)).run P w=.ok (.int k ys[i]) w:=by simp[part,isAgg,run_underlying he,hy]
   simp only[Op.eqItems,Sem.run_bind,hp,hp2,Result.andThen_ok,run_equalIn_int w d e k k _ _ he];have e1:xs.getD i 0=xs[i]:=by simp[List.getD_eq_getElem?_getD,hx]
   have e2:ys.getD i 0=ys[i]:=by simp[List.getD_eq_getElem?_getD,hy]
   rw[List.all_cons,e1,e2];by_cases hq:xs[i]=ys[i]
   ·rw[hq];simp only[beq_self_eq_true,Bool.not_true,Bool.false_eq_true,if_false,Bool.true_and];exact ih λi h=>hi i (List.mem_cons_of_mem _ h)
   ·have hb:(xs[i]==ys[i])=false:=by simpa using hq
    simp[hb]
 rw[key _ λi h=>List.mem_range.1 h]
 congr 1
 by_cases hq:xs=ys
 ·subst hq;simp
 ·rw[decide_eq_false hq,List.all_eq_false];have hne:¬∀i,i<n->xs.getD i 0=ys.getD i 0:=λhall=>hq (by apply List.ext_getElem (by omega);intro i h1 h2;have:=hall i (by omega);simpa[List.getD_eq_getElem?_getD,h1,h2] using this)
  obtain⟨i,hi⟩:=Classical.not_forall.1 hne;obtain⟨hi1,hi2⟩:=Classical.not_imp.1 hi;exact⟨i,List.mem_range.2 hi1,by simpa using hi2⟩
def O4a(d:Nat)(xs ys:Array Value):List (Bool×TypeId×Nat)->Sem Bool
 | []=>pure true
 | (u,t,o)::r=>
  if u=true then O4a d xs ys r else do
   let a <-part t xs o
   let b <-part t ys o
   let q <-Op.equalIn d t a b
   if (!q)=true then pure false else O4a d xs ys r
theorem T4a(d:Nat)(xs ys:Array Value)(l:List Field):Op.eqFields d xs ys l=O4a d xs ys (l.map λf=>(decide (f.name = "_"),f.type,f.offset)):=by
 induction l with
 | nil=>rfl
 | cons f l ih=>
  simp only[Op.eqFields,List.map_cons,O4a,ih];by_cases h:f.name = "_"
  ·simp[h]
  ·simp[h]
section
variable {P:Program} {w:World} {d:Nat} {xs ys:Array Value} {r:List (Bool×TypeId×Nat)} {q:Bool}
theorem d2a(t:TypeId)(k:IntKind)(o:Nat)(x y:Int)(ht:P.underlying t=some (.int k))(hx:xs[o]? = some (.int k x))(hy:ys[o]? = some (.int k y))(hr:(O4a (d+1) xs ys r).run P w=.ok q w) :
  (O4a (d+1) xs ys ((false,t,o)::r)).run P w=.ok (x==y&&q) w:=by
 have p1:(part t xs o).run P w=.ok (.int k x) w:=by simp[part,isAgg,run_underlying ht,hx]
 have p2:(part t ys o).run P w=.ok (.int k y) w:=by simp[part,isAgg,run_underlying ht,hy]
 simp only[O4a,Bool.false_eq_true,if_false,Sem.run_bind,p1,p2,Result.andThen_ok,run_equalIn_int w d t k k _ _ ht];by_cases h:x=y
 ·subst h;simpa using hr
 ·have hb:(x==y)=false:=by simpa using h
  simp[hb]
theorem y6b(t e:TypeId)(n:Nat)(k:IntKind)(o:Nat)(us vs:List Int)(ht:P.underlying t=some (.array n e))(he:P.underlying e=some (.int k))(hs:(P.info? e).map (·.size)=some 1)(hz:(P.info? t).map (·.size)=some n)
(hx:xs.extract o (o+n)=(us.map (Value.int k)).toArray)(hy:ys.extract o (o+n)=(vs.map (Value.int k)).toArray)(ha:us.length=n)(hb:vs.length=n) :
  (O4a (d+2) xs ys [(false,t,o)]).run P w=.ok (decide (us=vs)) w:=by
 obtain⟨j,hj,hj1⟩:∃j,P.info? t=some j/\j.size=n:=by
  cases hq:P.info? t with
  | none=>simp[hq] at hz
  | some j=>exact⟨j,rfl,by simpa[hq] using hz⟩
 have p1:(part t xs o).run P w=.ok (.agg (us.map (Value.int k)).toArray) w:=by simp[part,isAgg,run_underlying ht,sizeOf,typeInfo,hj,hj1,hx]
 have p2:(part t ys o).run P w=.ok (.agg (vs.map (Value.int k)).toArray) w:=by simp[part,isAgg,run_underlying ht,sizeOf,typeInfo,hj,hj1,hy]
 simp only[O4a,Bool.false_eq_true,if_false,Sem.run_bind,p1,p2,Result.andThen_ok,n2a ht he hs us vs ha hb d w];by_cases h:us=vs
 ·simp[h]
 ·simp[h]
end
theorem R7b:(Tryz.prog.fieldsOf 28).toList.map (λf=>(decide (f.name = "_"),f.type,f.offset)) =
  [(false,22,0),(false,23,1),(false,24,2),(false,22,3),(false,23,4),(false,23,5),(false,25,6),(false,25,7),(false,23,8),(false,25,9),(false,26,10)]:=by kernel_rfl
theorem X7a(a b:Hd)(ka:a.ok)(kb:b.ok)(w:World):(Op.equalIn 10000 28 (.agg (o0a a).toArray) (.agg (o0a b).toArray)).run Tryz.prog w=.ok (decide (a=b)) w:=by
 rw[show(10000:Nat)=9999+1 from rfl,run_equalIn_struct w 9999 28 _ _ Tryz.underlying28 (by kernel_rfl),T4a,R7b];have ea:(o0a a).toArray.extract 10 (10+16)=(a.sg.map (Value.int .u8)).toArray:=by
  have hl:(a.sg.map (Value.int .u8)).length=16:=by rw[List.length_map];exact ka.len
  rw[List.extract_toArray]
  congr 1
  show(((a.sg.map (Value.int .u8))).take 16)=_
  exact List.take_of_length_le (by omega)
 have eb:(o0a b).toArray.extract 10 (10+16)=(b.sg.map (Value.int .u8)).toArray:=by
  have hl:(b.sg.map (Value.int .u8)).length=16:=by rw[List.length_map];exact kb.len
  rw[List.extract_toArray]
  congr 1
  show(((b.sg.map (Value.int .u8))).take 16)=_
  exact List.take_of_length_le (by omega)
 have h:=d2a (P:=Tryz.prog) (w:=w) (d:=9998) 22 .u16 0 a.ch b.ch Tryz.underlying22 rfl rfl
  (d2a 23 .u32 1 a.st b.st Tryz.underlying23 rfl rfl
  (d2a 24 .u16 2 a.cm b.cm Tryz.underlying24 rfl rfl
  (d2a 22 .u16 3 a.cr b.cr Tryz.underlying22 rfl rfl
  (d2a 23 .u32 4 a.fl b.fl Tryz.underlying23 rfl rfl
  (d2a 23 .u32 5 a.nx b.nx Tryz.underlying23 rfl rfl
  (d2a 25 .u64 6 a.id b.id Tryz.underlying25 rfl rfl
  (d2a 25 .u64 7 a.asy b.asy Tryz.underlying25 rfl rfl
  (d2a 23 .u32 8 a.tr b.tr Tryz.underlying23 rfl rfl
  (d2a 25 .u64 9 a.se b.se Tryz.underlying25 rfl rfl
  (y6b (xs:=(o0a a).toArray) (ys:=(o0a b).toArray) 26 5 16 .u8 10 a.sg b.sg Tryz.underlying26 Tryz.underlying5 (by kernel_rfl) (by kernel_rfl) ea eb ka.len kb.len))))))))))
 refine h.trans ?_
 congr 1
 obtain⟨a0,a1,a2,a3,a4,a5,a6,a7,a8,a9,us⟩:=a;obtain⟨b0,b1,b2,b3,b4,b5,b6,b7,b8,b9,vs⟩:=b;rw[Bool.eq_iff_iff];simp
section
variable {P:Program} {ops:Array Oper} {S:World->Prop}
theorem l0a{op:Oper}{a:Act}(hw:Region.wanted op (yielded ops a.tmps)=true)(T:TypeId)(x:Operand)(ho:op.op=.load T x)(g i:Nat)(hx:a.eval x=.pointer (some ⟨g,i,none⟩))(v:Value)
(hS:∀w,S w->w.cell? ⟨g,i,none⟩=some v)(d:TypeDesc)(hu:P.underlying T=some d)(hd:(match d with | .struct _ | .array _ _=>true | _=>false)=false):YieldsIf P ops S op v a:=
 .inl ⟨hw,λw hw'=>by
  have hc:=hS w hw';have hagg:(isAgg T).run P w=.ok false w:=by unfold isAgg;rw[Sem.run_bind,run_underlying hu w];cases d<;>simp_all
  unfold execOp;simp[ho,hx,Instr.loadAt,Instr.sureAddr,Sem.run_bind,Result.andThen_ok,loadVar,hagg,hc]⟩
theorem h1a{op:Oper}{a:Act}(hw:Region.wanted op (yielded ops a.tmps)=true)(T:TypeId)(parts:Array (Nat×Operand))(ho:op.op=.build T parts)(cs:List Value)
(hf:P.built T (parts.map fun (i,x)=>(i,a.eval x)).toList=some cs.toArray):YieldsIf P ops S op (.agg cs.toArray) a:=
 .inl ⟨hw,λw _=>by unfold execOp;simp only[ho,Sem.run_bind,run_build w T _ _ hf,Result.andThen_ok];rfl⟩
theorem I0a{op:Oper}{a:Act}(hw:Region.wanted op (yielded ops a.tmps)=true)(x:Operand)(ho:op.op=.nilCheck x)(ad:Addr)(hx:a.eval x=.pointer (some ad)):YieldsIf P ops S op (.pointer (some ad)) a:=
 .inl ⟨hw,λw _=>by unfold execOp;simp[ho,hx]⟩
theorem u0a{op:Oper}{a:Act}(hw:Region.wanted op (yielded ops a.tmps)=true)(x:Operand)(ho:op.op=.move x)(v:Value)(hx:a.eval x=v):YieldsIf P ops S op v a:=
 .inl ⟨hw,λw _=>by unfold execOp;simp[ho,hx]⟩
theorem V6a{op:Oper}{a:Act}(hw:Region.wanted op (yielded ops a.tmps)=true)(x:Operand)(ho:op.op=.assign x)(v:Value)(hx:a.eval x=v):YieldsIf P ops S op v a:=
 .inl ⟨hw,λw _=>by unfold execOp;simp[ho,hx]⟩
theorem t2a{md:Region.Mode}{Q:Exit->Act->World->Prop}{fuel:Nat}{listed:Array Bool}{a:Act}{w:World}(h:∀a',a'=a->wpAnyH P md ops Q S fuel listed a' w):wpAnyH P md ops Q S fuel listed a w:=h a rfl
theorem Z2a{op:Oper}{a:Act}(hw:Region.wanted op (yielded ops a.tmps)=true)(fn:Fn)(xs ys:Array Operand)(ho:op.op=.makeFunc fn xs ys)(us vs:Array Value)(hx:xs.map a.eval=us)(hy:ys.map a.eval=vs)
(hf:∀w,(Instr.makeFunc fn us vs).run P w=.ok (.func fn us vs) w):YieldsIf P ops S op (.func fn us vs) a:=
 .inl ⟨hw,λw _=>by unfold execOp;simp only[ho,hx,hy,Sem.run_bind,hf,Result.andThen_ok];rfl⟩
theorem w0a{op:Oper}{a:Act}(hw:Region.wanted op (yielded ops a.tmps)=true)(T:TypeId)(x:Operand)(i:Nat)(ho:op.op=.fieldAddr T x i)(u v:Value)(hx:a.eval x=u)(hf:∀w,(Instr.fieldAt T u i).run P w=.ok v w):YieldsIf P ops S op v a:=
 .inl ⟨hw,λw _=>by unfold execOp;simp only[ho,hx,Sem.run_bind,hf,Result.andThen_ok];rfl⟩
theorem C3a{op:Oper}{a:Act}(hw:Region.wanted op (yielded ops a.tmps)=true)(T T':TypeId)(x:Operand)(ho:op.op=.convert T T' x)(u v:Value)(hx:a.eval x=u)(hf:∀w,(convert T T' u).run P w=.ok v w):YieldsIf P ops S op v a:=
 .inl ⟨hw,λw _=>by unfold execOp;simp only[ho,hx,Sem.run_bind,hf,Result.andThen_ok];rfl⟩
theorem s4a{op:Oper}{a:Act}(hw:Region.wanted op (yielded ops a.tmps)=true)(T:TypeId)(x:Operand)(ho:op.op=.load T x)(g:Nat)(hx:a.eval x=.pointer (some ⟨g,0,none⟩))(T':TypeId)(cs:List Value)
(hS:∀w,S w->Blk w g T' cs)(n:Nat)(d:TypeDesc)(hu:P.underlying T=some d)(hd:(match d with | .struct _ | .array _ _=>true | _=>false)=true)(hi:(P.info? T).map (·.size)=some n)(hn:Hid (cs.length=n)):YieldsIf P ops S op (.agg cs.toArray) a:=
 .inl ⟨hw,λw hw'=>by have hr:=run_loadVar_row (P:=P) w g T' T cs.toArray (0,0) _ (hS w hw') hu hd (by rw[hi];have:=hn.out;simp[this]);unfold execOp;simp only[ho,hx,Instr.loadAt,Instr.sureAddr,Sem.run_bind,Sem.run_pure,Result.andThen_ok,hr]⟩
end
theorem C9a(g:Nat)(i:Nat)(hi:i<11)(w:World):(Instr.fieldAt 28 (.pointer (some ⟨g,0,none⟩)) i).run Tryz.prog w=.ok (.pointer (some ⟨g,i,none⟩)) w:=by revert hi;refine λhi=>S7a (p:=λi=>(Instr.fieldAt 28 (.pointer (some ⟨g,0,none⟩)) i).run Tryz.prog w=.ok (.pointer (some ⟨g,i,none⟩)) w) ?_ ?_ ?_ ?_ ?_ ?_ ?_ ?_ ?_ ?_ ?_ i hi<;>go_simp
theorem N5b(n:Int)(h0:0<=n)(h1:n<=65535)(w:World):(convert 22 25 (.int .u16 n)).run Tryz.prog w=.ok (.int .u64 n) w:=by
 have e:IntKind.u64.wrap n=n:=by rw[IntKind.wrap_u64];omega
 go_simp
theorem L9b(n:Int)(h0:0<=n)(h1:n<=65535)(w:World):(convert 24 25 (.int .u16 n)).run Tryz.prog w=.ok (.int .u64 n) w:=by
 have e:IntKind.u64.wrap n=n:=by rw[IntKind.wrap_u64];omega
 go_simp
theorem f3b(n:Int)(h0:0<=n)(h1:n<=4294967295)(w:World):(convert 23 25 (.int .u32 n)).run Tryz.prog w=.ok (.int .u64 n) w:=by
 have e:IntKind.u64.wrap n=n:=by rw[IntKind.wrap_u64];omega
 go_simp
end
theorem l6a{α:Type}{xs ys:List α}{k:Nat}{x:α}(hx:xs[k]? = some x)(hy:ys[k]? = some x)(h:xs.take k=ys.take k):xs.take (k+1)=ys.take (k+1):=by obtain⟨h1,e1⟩:=List.getElem?_eq_some_iff.1 hx;obtain⟨h2,e2⟩:=List.getElem?_eq_some_iff.1 hy;rw[List.take_succ_eq_append_getElem h1,List.take_succ_eq_append_getElem h2,h,e1,e2]
theorem q9a{α:Type}[DecidableEq α]{xs ys:List α}{k:Nat}{x y:α}(hx:xs[k]? = some x)(hy:ys[k]? = some y)(h:x≠y):decide (xs=ys)=false:=by
 rw[decide_eq_false_iff_not];rintro rfl;rw[hx] at hy;injection hy with hy
 exact h hy
theorem g8a{α:Type}[DecidableEq α]{xs ys:List α}{n:Nat}(hx:xs.length=n)(hy:ys.length=n)(h:xs.take n=ys.take n):decide (xs=ys)=true:=by
 rw[decide_eq_true_iff]
 rwa [List.take_of_length_le (by omega),List.take_of_length_le (by omega)] at h
theorem W4b(w:World)(B B':Nat)(A A':Option Addr)(n c n' c':Nat)(xs ys:List Int)(h:G1a (Value.int .u16) w B A n c xs)(h':G1a (Value.int .u16) w B' A' n' c' ys)(hr:n<=281474976710656)(hr':n'<=281474976710656) :
  Calls Tryz.prog 47 #[.slice A n c,.slice A' n' c'] w λe w'=>e=.returned (.bool (decide (xs=ys)))/\∃k,w.drewN k=w':=by
 have hl:=h.len;have hl':=h'.len;have hf:=h.fit;have hf':=h'.fit;by_cases hn:n=n'
 ·subst hn;have HL:=hI hl;have HL':=hI hl';clear hl hl';go_enter Tryz.func47,Tryz.ntmps47;go_wp2;go_loopw [5] (λi wr=>∃k:Nat,k<=n/\i=.int .i64 k/\Hid (xs.take k=ys.take k)/\∃j,wr=w.drewN j) (λi _=>n-(intOf i).toNat)
  case atStart=>exact⟨0,Nat.zero_le _,rfl,by simp[Hid],0,rfl⟩
  case round=>
   obtain⟨k,hk,rfl,HT,j,rfl⟩:=hrel;by_cases hlt:k<n
   ·obtain⟨b,off,rfl,hb,hc⟩:=h.cells (by omega);obtain⟨b',off',rfl,hb',hc'⟩:=h'.cells (by omega);obtain⟨x,hx⟩:∃x,xs[k]? = some x:=⟨_,List.getElem?_eq_getElem (by have:=HL.out;omega)⟩;obtain⟨y,hy⟩:∃y,ys[k]? = some y:=⟨_,List.getElem?_eq_getElem (by have:=HL'.out;omega)⟩;have gc:=hc k x hx;have gc':=hc' k y hy;clear hc hc';have HX:=hI hx;have HY:=hI hy;clear hx hy;by_cases he:x=y
    ·have hS:Hid (xs.take (k+1)=ys.take (k+1)):=l6a HX.out (by rw[HY.out,he]) HT.out;clear HX HY HT;subst he;have hb0:(x != x)=false:=by simp
     go_wp2;go_quiet (fail);go_wp2;go_roundw
     case rel=>exact⟨k+1,by omega,by go_num,hS,_,rfl⟩
     case measure=>simp[intOf];omega
    ·have hS:=hI (q9a HX.out HY.out he);clear HX HY HT;have hb0:(x != y)=true:=by simpa using he
     clear he;go_wp2;go_quiet (fail);go_wp2;go_ret;exact⟨K0a hS.out.symm,_,(World.drewN_drewN ..).symm⟩
   ·have hS:=hI (g8a (n:=n) HL.out HL'.out (by have:=HT.out;rwa [show k=n from by omega] at this));clear HT;go_wp2;go_ret;exact⟨K0a hS.out.symm,_,rfl⟩
 ·have e1:decide (xs=ys)=false:=by rw[decide_eq_false_iff_not];rintro rfl;omega
  have hne:((n:Int)==(n':Int))=false:=by simp;omega
  have hne':((n:Int) != (n':Int))=true:=by simp;omega
  rw[e1];clear e1 hl hl';go_enter Tryz.func47,Tryz.ntmps47;go_wp2;go_ret;exact⟨rfl,0,rfl⟩
section
variable {P:Program} {w:World} {d:Nat} {xs ys:Array Value} {r:List (Bool×TypeId×Nat)} {q:Bool}
theorem bytes_beq(a b:ByteArray):(a.toList==b.toList)=decide (a=b):=by rw[Bool.eq_iff_iff,beq_iff_eq,decide_eq_true_iff,ByteArray.toList_eq,ByteArray.toList_eq];obtain⟨⟨x⟩⟩:=a;obtain⟨⟨y⟩⟩:=b;simp
theorem z6b(t:TypeId)(o:Nat)(x y:ByteArray)(ht:P.underlying t=some .string)(hx:xs[o]? = some (.string x))(hy:ys[o]? = some (.string y))(hr:(O4a (d+1) xs ys r).run P w=.ok q w) :
  (O4a (d+1) xs ys ((false,t,o)::r)).run P w=.ok (decide (x=y)&&q) w:=by
 have p1:(part t xs o).run P w=.ok (.string x) w:=by simp[part,isAgg,run_underlying ht,hx]
 have p2:(part t ys o).run P w=.ok (.string y) w:=by simp[part,isAgg,run_underlying ht,hy]
 simp only[O4a,Bool.false_eq_true,if_false,Sem.run_bind,p1,p2,Result.andThen_ok,run_equalIn_string w d t _ _ ht,bytes_beq];by_cases h:x=y
 ·subst h;simpa using hr
 ·simp[h]
end
theorem X4b:(Tryz.prog.fieldsOf 114).toList.map (λf=>(decide (f.name = "_"),f.type,f.offset))=[(false,3,0),(false,25,1),(false,25,2),(false,22,3)]:=by kernel_rfl
theorem Y9a(a b:g2a)(w:World):(Op.equalIn 10000 114 (.agg (E0a a).toArray) (.agg (E0a b).toArray)).run Tryz.prog w=.ok (decide (a=b)) w:=by
 rw[show(10000:Nat)=9999+1 from rfl,run_equalIn_struct w 9999 114 _ _ Tryz.underlying114 (by kernel_rfl),T4a,X4b];have h:=d2a (P:=Tryz.prog) (w:=w) (d:=9998) (xs:=(E0a a).toArray) (ys:=(E0a b).toArray) 3 .i64 0 a.op b.op Tryz.underlying3 rfl rfl
  (d2a 25 .u64 1 a.at_ b.at_ Tryz.underlying25 rfl rfl
  (d2a 25 .u64 2 a.n b.n Tryz.underlying25 rfl rfl
  (d2a (r:=[]) (q:=true) 22 .u16 3 a.md b.md Tryz.underlying22 rfl rfl (by simp[O4a]))))
 refine h.trans ?_
 congr 1
 obtain⟨a0,a1,a2,a3⟩:=a;obtain⟨b0,b1,b2,b3⟩:=b;rw[Bool.eq_iff_iff];simp
theorem A6b:Tryz.prog.eqGuardType Tryz.prog.depth 114=false:=by kernel_rfl
theorem P5a:(Tryz.prog.info? 114).map (·.size)=some 4:=by kernel_rfl
theorem S7b(w:World)(B B':Nat)(A A':Option Addr)(n c n' c':Nat)(xs ys:List g2a)(h:d1a E0a 4 w B A n c xs)(h':d1a E0a 4 w B' A' n' c' ys)(hr:n<=281474976710656)(hr':n'<=281474976710656) :
  Calls Tryz.prog 48 #[.slice A n c,.slice A' n' c'] w λe w'=>e=.returned (.bool (decide (xs=ys)))/\∃k,w.drewN k=w':=by
 have hl:=h.len;have hl':=h'.len;have hf:=h.fit;have hf':=h'.fit;by_cases hn:n=n'
 ·subst hn;have HL:=hI hl;have HL':=hI hl';clear hl hl';go_enter Tryz.func48,Tryz.ntmps48;go_wp2;go_loopw [5] (λi wr=>∃k:Nat,k<=n/\i=.int .i64 k/\Hid (xs.take k=ys.take k)/\∃j,wr=w.drewN j) (λi _=>n-(intOf i).toNat)
  case atStart=>exact⟨0,Nat.zero_le _,rfl,by simp[Hid],0,rfl⟩
  case round=>
   obtain⟨k,hk,rfl,HT,j,rfl⟩:=hrel;by_cases hlt:k<n
   ·obtain⟨b,off,rfl,hb,hc⟩:=h.cells (by omega);obtain⟨b',off',rfl,hb',hc'⟩:=h'.cells (by omega);obtain⟨x,hx⟩:∃x,xs[k]? = some x:=⟨_,List.getElem?_eq_getElem (by have:=HL.out;omega)⟩;obtain⟨y,hy⟩:∃y,ys[k]? = some y:=⟨_,List.getElem?_eq_getElem (by have:=HL'.out;omega)⟩;have rx:=h.range rfl hlt hx;have ry:=h'.range rfl hlt hy;clear hc hc';have HX:=hI hx;have HY:=hI hy;have q0:∀w:World,(Op.equalIn 10000 114 (.agg (E0a x).toArray) (.agg (E0a y).toArray)).run Tryz.prog w=.ok (decide (x=y)) w:=λw=>Y9a x y w
    have qg:=A6b;obtain⟨wj,hwj⟩:∃wj,wj=w.drewN j:=⟨_,rfl⟩;have Rx:Hid (wj.rangeAt b (off+k*4) (E0a x)):=by rw[hwj];exact rx
    have Ry:Hid (wj.rangeAt b' (off'+k*4) (E0a y)):=by rw[hwj];exact ry
    rw[<-hwj];have HW:=hI hwj;have LX:Hid ((E0a x).length=4):=rfl;have LY:Hid ((E0a y).length=4):=rfl;obtain⟨cx,hcx⟩:∃cx,cx=E0a x:=⟨_,rfl⟩;obtain⟨cy,hcy⟩:∃cy,cy=E0a y:=⟨_,rfl⟩;rw[<-hcx] at Rx LX q0;rw[<-hcy] at Ry LY q0;obtain⟨z,hz⟩:∃z,z=decide (x=y):=⟨_,rfl⟩;rw[<-hz] at q0;have HZ:=hI hz;clear hx hy hwj rx ry hcx hcy hz;go_upto_region 6 with fail
    refine wp_region_held (S:=λw'=>World.rangeAt w' b (off+k*4) cx/\World.rangeAt w' b' (off'+k*4) cy) (by kernel_rfl) ?_;change wpAnyH _ _ _ _ _ _ _ _ wj.drew
    have S0:Hid (World.rangeAt wj.drew b (off+k*4) cx/\World.rangeAt wj.drew b' (off'+k*4) cy):=⟨Rx.out,Ry.out⟩;have b0:Hid (Below w.heap.size w wj.drew):=by rw[HW.out];exact G2a w (j+1)
    refine tK 0 _ rfl (u0a (by kernel_rfl) (.tmp 0) rfl (.slice (some ⟨b,off,none⟩) n c) (by kernel_rfl)) S0.out ?_;refine tK 1 _ rfl (u0a (by kernel_rfl) (.tmp 5) rfl (.int .i64 k) (by kernel_rfl)) S0.out ?_;refine tK 2 (.pointer (some ⟨b,off+k*4,none⟩)) rfl (.inl ⟨by kernel_rfl,λw _=>by go_simp⟩) S0.out ?_;refine tK 3 _ rfl (yieldsIf_load_mid (by kernel_rfl) _ (.tmp 19) rfl b (off+k*4) (by kernel_rfl) cx _ (λ_ h=>h.1) Tryz.underlying114 rfl (by rw[P5a,LX.out])) S0.out ?_;refine tK 4 _ rfl (u0a (by kernel_rfl) (.tmp 1) rfl (.slice (some ⟨b',off',none⟩) n c') (by kernel_rfl)) S0.out ?_;refine tK 5 _ rfl (u0a (by kernel_rfl) (.tmp 5) rfl (.int .i64 k) (by kernel_rfl)) S0.out ?_;refine tK 6 (.pointer (some ⟨b',off'+k*4,none⟩)) rfl (.inl ⟨by kernel_rfl,λw _=>by go_simp⟩) S0.out ?_;refine tK 7 _ rfl (yieldsIf_load_mid (by kernel_rfl) _ (.tmp 23) rfl b' (off'+k*4) (by kernel_rfl) cy _ (λ_ h=>h.2) Tryz.underlying114 rfl (by rw[P5a,LY.out])) S0.out ?_;refine oN 8 _ rfl λK hK=>?_
    go_simp;refine hK _ _ S0.out ?_;clear hK K;refine dN ?_;have HE:Hid (wj.drew=w.drewN (j+1)):=by show _=_;rw[HW.out];exact World.drewN_drewN w j 1
    cases z
    ·have hS:=hI (q9a HX.out HY.out (by have:=HZ.out;simpa using this.symm));go_wp2_with fail;go_ret;exact⟨K0a hS.out.symm,_,HE.out.symm⟩
    ·have hxy:x=y:=by have:=HZ.out;simpa using this.symm
     have hS:Hid (xs.take (k+1)=ys.take (k+1)):=l6a HX.out (by rw[HY.out,hxy]) HT.out;clear hxy;go_wp2_with fail;go_roundw
     case rel=>exact⟨k+1,by omega,by go_num,hS,_,HE.out⟩
     case measure=>simp[intOf];omega
   ·have hS:=hI (g8a (n:=n) HL.out HL'.out (by have:=HT.out;rwa [show k=n from by omega] at this));clear HT;go_wp2;go_ret;exact⟨K0a hS.out.symm,_,rfl⟩
 ·have e1:decide (xs=ys)=false:=by rw[decide_eq_false_iff_not];rintro rfl;omega
  have hne:((n:Int)==(n':Int))=false:=by simp;omega
  have hne':((n:Int) != (n':Int))=true:=by simp;omega
  rw[e1];clear e1 hl hl';go_enter Tryz.func48,Tryz.ntmps48;go_wp2;go_ret;exact⟨rfl,0,rfl⟩
theorem Y4b:(Tryz.prog.fieldsOf 116).toList.map (λf=>(decide (f.name = "_"),f.type,f.offset))=[(false,36,0),(false,3,1)]:=by kernel_rfl
theorem Q3b:(Tryz.prog.fieldsOf 118).toList.map (λf=>(decide (f.name = "_"),f.type,f.offset))=[(false,9,0),(false,116,1)]:=by kernel_rfl
theorem T7b:(Tryz.prog.info? 116).map (·.size)=some 2:=by kernel_rfl
theorem Z9a(a b c d:Int)(w:World):(Op.equalIn 9999 116 (.agg #[.int .u8 a,.int .i64 b]) (.agg #[.int .u8 c,.int .i64 d])).run Tryz.prog w=.ok (decide (a=c/\b=d)) w:=by
 rw[show(9999:Nat)=9998+1 from rfl,run_equalIn_struct w 9998 116 _ _ Tryz.underlying116 (by kernel_rfl),T4a,Y4b];have h:=d2a (P:=Tryz.prog) (w:=w) (d:=9997) (xs:=#[.int .u8 a,.int .i64 b]) (ys:=#[.int .u8 c,.int .i64 d]) 36 .u8 0 a c Tryz.underlying36 rfl rfl
  (d2a (r:=[]) (q:=true) 3 .i64 1 b d Tryz.underlying3 rfl rfl (by simp[O4a]))
 refine h.trans ?_
 congr 1
 rw[Bool.eq_iff_iff];simp
theorem r9a(a b:y1a)(w:World):(Op.equalIn 10000 118 (.agg (z0a a).toArray) (.agg (z0a b).toArray)).run Tryz.prog w=.ok (decide (a=b)) w:=by
 rw[show(10000:Nat)=9999+1 from rfl,run_equalIn_struct w 9999 118 _ _ Tryz.underlying118 (by kernel_rfl),T4a,Q3b];have hs:(O4a 9999 (z0a a).toArray (z0a b).toArray [(false,116,1)]).run Tryz.prog w=.ok (decide (a.kind=b.kind/\a.size=b.size)) w:=by
  obtain⟨j,hj,hj1⟩:∃j,Tryz.prog.info? 116=some j/\j.size=2:=by
   have h2:=T7b;cases hq:Tryz.prog.info? 116 with
   | none=>rw[hq] at h2;cases h2
   | some j=>exact⟨j,rfl,by rw[hq] at h2;simpa using h2⟩
  have p1:∀c:y1a,(part 116 (z0a c).toArray 1).run Tryz.prog w=.ok (.agg #[.int .u8 c.kind,.int .i64 c.size]) w:=λc=>by simp[part,isAgg,run_underlying Tryz.underlying116,sizeOf,typeInfo,hj,hj1,z0a]
  simp only[O4a,Bool.false_eq_true,if_false,Sem.run_bind,p1,Result.andThen_ok,Z9a];by_cases h:a.kind=b.kind/\a.size=b.size
  ·simp[h]
  ·simp[h]
 have h:=z6b (P:=Tryz.prog) (w:=w) (d:=9998) (xs:=(z0a a).toArray) (ys:=(z0a b).toArray) 9 0 a.name b.name Tryz.underlying9 rfl rfl hs;refine h.trans ?_
 congr 1
 obtain⟨a0,a1,a2⟩:=a;obtain⟨b0,b1,b2⟩:=b;rw[Bool.eq_iff_iff];simp
theorem Z4b:Tryz.prog.eqGuardType Tryz.prog.depth 118=false:=by kernel_rfl
theorem D3a:(Tryz.prog.info? 118).map (·.size)=some 3:=by kernel_rfl
theorem a5b(w:World)(B B':Nat)(A A':Option Addr)(n c n' c':Nat)(xs ys:List y1a)(h:d1a z0a 3 w B A n c xs)(h':d1a z0a 3 w B' A' n' c' ys)(hr:n<=281474976710656)(hr':n'<=281474976710656) :
  Calls Tryz.prog 49 #[.slice A n c,.slice A' n' c'] w λe w'=>e=.returned (.bool (decide (xs=ys)))/\∃k,w.drewN k=w':=by
 have hl:=h.len;have hl':=h'.len;have hf:=h.fit;have hf':=h'.fit;by_cases hn:n=n'
 ·subst hn;have HL:=hI hl;have HL':=hI hl';clear hl hl';go_enter Tryz.func49,Tryz.ntmps49;go_wp2;go_loopw [5] (λi wr=>∃k:Nat,k<=n/\i=.int .i64 k/\Hid (xs.take k=ys.take k)/\∃j,wr=w.drewN j) (λi _=>n-(intOf i).toNat)
  case atStart=>exact⟨0,Nat.zero_le _,rfl,by simp[Hid],0,rfl⟩
  case round=>
   obtain⟨k,hk,rfl,HT,j,rfl⟩:=hrel;by_cases hlt:k<n
   ·obtain⟨b,off,rfl,hb,hc⟩:=h.cells (by omega);obtain⟨b',off',rfl,hb',hc'⟩:=h'.cells (by omega);obtain⟨x,hx⟩:∃x,xs[k]? = some x:=⟨_,List.getElem?_eq_getElem (by have:=HL.out;omega)⟩;obtain⟨y,hy⟩:∃y,ys[k]? = some y:=⟨_,List.getElem?_eq_getElem (by have:=HL'.out;omega)⟩;have rx:=h.range rfl hlt hx;have ry:=h'.range rfl hlt hy;clear hc hc';have HX:=hI hx;have HY:=hI hy;have q0:∀w:World,(Op.equalIn 10000 118 (.agg (z0a x).toArray) (.agg (z0a y).toArray)).run Tryz.prog w=.ok (decide (x=y)) w:=λw=>r9a x y w
    have qg:=Z4b;obtain⟨wj,hwj⟩:∃wj,wj=w.drewN j:=⟨_,rfl⟩;have Rx:Hid (wj.rangeAt b (off+k*3) (z0a x)):=by rw[hwj];exact rx
    have Ry:Hid (wj.rangeAt b' (off'+k*3) (z0a y)):=by rw[hwj];exact ry
    rw[<-hwj];have HW:=hI hwj;have LX:Hid ((z0a x).length=3):=rfl;have LY:Hid ((z0a y).length=3):=rfl;obtain⟨cx,hcx⟩:∃cx,cx=z0a x:=⟨_,rfl⟩;obtain⟨cy,hcy⟩:∃cy,cy=z0a y:=⟨_,rfl⟩;rw[<-hcx] at Rx LX q0;rw[<-hcy] at Ry LY q0;obtain⟨z,hz⟩:∃z,z=decide (x=y):=⟨_,rfl⟩;rw[<-hz] at q0;have HZ:=hI hz;clear hx hy hwj rx ry hcx hcy hz;go_upto_region 6 with fail
    refine wp_region_held (S:=λw'=>World.rangeAt w' b (off+k*3) cx/\World.rangeAt w' b' (off'+k*3) cy) (by kernel_rfl) ?_;change wpAnyH _ _ _ _ _ _ _ _ wj.drew
    have S0:Hid (World.rangeAt wj.drew b (off+k*3) cx/\World.rangeAt wj.drew b' (off'+k*3) cy):=⟨Rx.out,Ry.out⟩;have b0:Hid (Below w.heap.size w wj.drew):=by rw[HW.out];exact G2a w (j+1)
    refine tK 0 _ rfl (u0a (by kernel_rfl) (.tmp 0) rfl (.slice (some ⟨b,off,none⟩) n c) (by kernel_rfl)) S0.out ?_;refine tK 1 _ rfl (u0a (by kernel_rfl) (.tmp 5) rfl (.int .i64 k) (by kernel_rfl)) S0.out ?_;refine tK 2 (.pointer (some ⟨b,off+k*3,none⟩)) rfl (.inl ⟨by kernel_rfl,λw _=>by go_simp⟩) S0.out ?_;refine tK 3 _ rfl (yieldsIf_load_mid (by kernel_rfl) _ (.tmp 19) rfl b (off+k*3) (by kernel_rfl) cx _ (λ_ h=>h.1) Tryz.underlying118 rfl (by rw[D3a,LX.out])) S0.out ?_;refine tK 4 _ rfl (u0a (by kernel_rfl) (.tmp 1) rfl (.slice (some ⟨b',off',none⟩) n c') (by kernel_rfl)) S0.out ?_;refine tK 5 _ rfl (u0a (by kernel_rfl) (.tmp 5) rfl (.int .i64 k) (by kernel_rfl)) S0.out ?_;refine tK 6 (.pointer (some ⟨b',off'+k*3,none⟩)) rfl (.inl ⟨by kernel_rfl,λw _=>by go_simp⟩) S0.out ?_;refine tK 7 _ rfl (yieldsIf_load_mid (by kernel_rfl) _ (.tmp 23) rfl b' (off'+k*3) (by kernel_rfl) cy _ (λ_ h=>h.2) Tryz.underlying118 rfl (by rw[D3a,LY.out])) S0.out ?_;refine oN 8 _ rfl λK hK=>?_
    go_simp;refine hK _ _ S0.out ?_;clear hK K;refine dN ?_;have HE:Hid (wj.drew=w.drewN (j+1)):=by show _=_;rw[HW.out];exact World.drewN_drewN w j 1
    cases z
    ·have hS:=hI (q9a HX.out HY.out (by have:=HZ.out;simpa using this.symm));go_wp2_with fail;go_ret;exact⟨K0a hS.out.symm,_,HE.out.symm⟩
    ·have hxy:x=y:=by have:=HZ.out;simpa using this.symm
     have hS:Hid (xs.take (k+1)=ys.take (k+1)):=l6a HX.out (by rw[HY.out,hxy]) HT.out;clear hxy;go_wp2_with fail;go_roundw
     case rel=>exact⟨k+1,by omega,by go_num,hS,_,HE.out⟩
     case measure=>simp[intOf];omega
   ·have hS:=hI (g8a (n:=n) HL.out HL'.out (by have:=HT.out;rwa [show k=n from by omega] at this));clear HT;go_wp2;go_ret;exact⟨K0a hS.out.symm,_,rfl⟩
 ·have e1:decide (xs=ys)=false:=by rw[decide_eq_false_iff_not];rintro rfl;omega
  have hne:((n:Int)==(n':Int))=false:=by simp;omega
  have hne':((n:Int) != (n':Int))=true:=by simp;omega
  rw[e1];clear e1 hl hl';go_enter Tryz.func49,Tryz.ntmps49;go_wp2;go_ret;exact⟨rfl,0,rfl⟩
theorem R3b:(Tryz.prog.info? 114).map (λi=>(i.zero,i.size,i.bytes))=some (some (.agg (E0a ⟨0,0,0,0⟩).toArray),4,32):=by kernel_rfl
theorem m2b:(Tryz.prog.info? 118).map (λi=>(i.zero,i.size,i.bytes))=some (some (.agg (z0a ⟨.empty,0,0⟩).toArray),3,32):=by kernel_rfl
theorem D0a{P:Program}{ops:Array Oper}{rest:List Oper}{o:Oper}{a:Act}{w:World}{Q:Exit->Act->World->Prop}(hw:Region.wanted o (yielded ops a.tmps)=true)(ty:TypeId)(x:Operand)(ho:o.op=.load ty x)
(b i:Nat)(hx:a.eval x=.pointer (some ⟨b,i,none⟩))(cs:List Value)(d:TypeDesc)(hc:Hid (w.rangeAt b i cs))(hu:P.underlying ty=some d)(hd:d.isRow=true)(n:Nat)(hi:(P.info? ty).map (·.size)=some n)(hn:Hid (cs.length=n))
(h:wpList P ops Q rest (a.put o.dst (.agg cs.toArray)) w):wpList P ops Q (o::rest) a w:=
 wpList_step λK hK=>by rw[if_pos hw];exact wp_load_mid ty x ho b i hx cs d hc.out hu hd (by rw[hi,hn.out]) (hK _ _ h)
theorem t0a{P:Program}{ops:Array Oper}{rest:List Oper}{o:Oper}{a:Act}{w:World}{Q:Exit->Act->World->Prop}(hg:o.guard=none)(ty:TypeId)(x:Operand)(ho:o.op=.load ty x)
(b i:Nat)(hx:a.eval x=.pointer (some ⟨b,i,none⟩))(cs:List Value)(d:TypeDesc)(hc:Hid (w.rangeAt b i cs))(hu:P.underlying ty=some d)(hd:d.isRow=true)(n:Nat)(hi:(P.info? ty).map (·.size)=some n)(hn:Hid (cs.length=n))
(h:wpList P ops Q rest (a.put o.dst (.agg cs.toArray)) w):wpList P ops Q (o::rest) a w:=wpList_load_mid hg ty x ho b i hx cs d hc.out hu hd (by rw[hi,hn.out]) h
theorem T0a{P:Program}{ops:Array Oper}{rest:List Oper}{o:Oper}{a:Act}{w:World}{Q:Exit->Act->World->Prop}(hw:Region.wanted o (yielded ops a.tmps)=true)(T:TypeId)(x:Operand)(i:Nat)(ho:o.op=.fieldAddr T x i)(u v:Value)
(hx:a.eval x=u)(hf:∀w,(Instr.fieldAt T u i).run P w=.ok v w)(h:wpList P ops Q rest (a.put o.dst v) w):wpList P ops Q (o::rest) a w:=
 wpList_step λK hK=>by rw[if_pos hw];unfold Oper.wp execOp;simp only[ho,hx,Sem.run_bind,hf,Result.andThen_ok];exact hK _ _ h
theorem w5a(g:Nat)(w:World):(Instr.fieldAt 34 (.pointer (some ⟨g,0,none⟩)) 1).run Tryz.prog w=.ok (.pointer (some ⟨g,1,none⟩)) w:=by go_simp
theorem J7a(g:Nat)(w:World):(Instr.fieldAt 34 (.pointer (some ⟨g,0,none⟩)) 2).run Tryz.prog w=.ok (.pointer (some ⟨g,17,none⟩)) w:=by go_simp
theorem K7a(g:Nat)(w:World):(Instr.fieldAt 39 (.pointer (some ⟨g,0,none⟩)) 2).run Tryz.prog w=.ok (.pointer (some ⟨g,2,none⟩)) w:=by go_simp
theorem J3a:(Tryz.prog.info? 26).map (·.size)=some 16:=by kernel_rfl
theorem V3a:(Tryz.prog.info? 30).map (·.size)=some 32:=by kernel_rfl
theorem B4a:(Tryz.prog.info? 35).map (·.size)=some 8:=by kernel_rfl
theorem n2b:Tryz.prog.eqGuardType Tryz.prog.depth 26=false:=by kernel_rfl
theorem V0b:Tryz.prog.eqGuardType Tryz.prog.depth 30=false:=by kernel_rfl
theorem o2b:Tryz.prog.eqGuardType Tryz.prog.depth 35=false:=by kernel_rfl
theorem L7a:(Tryz.prog.info? 5).map (·.size)=some 1:=by kernel_rfl
theorem m6a{vd vx vl:Value}{a:m1a}{w:World}{g:Nat}{T:TypeId}(h:Blk w g T (j0a vd vx vl a))(k:a.ok):w.rangeAt g 1 (a.guid.map (Value.int .u8)):=λj v hj=>by
 rw[h.cell,show 1+j=j+1 from by omega];show(a.guid.map (Value.int .u8)++(a.proof.map (Value.int .u8)++A8a vx vl a))[j]? = some v
 rw[List.getElem?_append_left (List.getElem?_eq_some_iff.1 hj).1,hj]
theorem x5a{vd vx vl:Value}{a:m1a}{w:World}{g:Nat}{T:TypeId}(h:Blk w g T (j0a vd vx vl a))(k:a.ok):w.rangeAt g 17 (a.proof.map (Value.int .u8)):=λj v hj=>by
 rw[h.cell,show 17+j=(16+j)+1 from by omega];show(a.guid.map (Value.int .u8)++(a.proof.map (Value.int .u8)++A8a vx vl a))[16+j]? = some v
 rw[List.getElem?_append_right (by rw[List.length_map,k.glen];omega),List.length_map,k.glen,show 16+j-16=j from by omega,List.getElem?_append_left (List.getElem?_eq_some_iff.1 hj).1,hj]
theorem n6a{vx ve:Value}{a:M1a}{w:World}{g:Nat}{T:TypeId}(h:Blk w g T (r0a vx ve a))(k:a.ok):w.rangeAt g 2 (a.chal.map (Value.int .u8)):=λj v hj=>by
 rw[h.cell,show 2+j=j+1+1 from by omega];show(a.chal.map (Value.int .u8)++b2b vx ve a)[j]? = some v
 rw[List.getElem?_append_left (List.getElem?_eq_some_iff.1 hj).1,hj]
structure Fr (N x0:Nat) (pv:Value) (a:Act):Prop where
 size:a.tmps.size=N
 df:a.defers=[]
 ptr:a.eval (.tmp x0)=pv
section
variable {P:Program} {ops:Array Oper} {rest:List Oper} {o:Oper} {a:Act} {w:World} {Q:Exit->Act->World->Prop} {N x0:Nat} {pv v:Value}
theorem y4a{d:Nat}(h:d<a.tmps.size):(a.put (some d) v).eval (.tmp d)=v:=by simp[Act.put,Act.eval,h]
theorem S3b{d t:Nat}(h:d≠t):(a.put (some d) v).eval (.tmp t)=a.eval (.tmp t):=by simp[Act.put,Act.eval,Array.getElem?_setIfInBounds_ne h]
theorem Fr.put{d:Nat}(h:Fr N x0 pv a)(hd:d≠x0):Fr N x0 pv (a.put (some d) v):=⟨by simp[Act.put,h.size],by simp[Act.put,h.df],by rw[S3b hd];exact h.ptr⟩
theorem U0c{d:Nat}(h:d<a.tmps.size):(a.put (some d) v).tmps[d]? = some v:=by simp[Act.put,h]
theorem w0b{d t:Nat}(h:d≠t):(a.put (some d) v).tmps[t]? = a.tmps[t]?:=by simp[Act.put,Array.getElem?_setIfInBounds_ne h]
theorem eval_at{t:Nat}{u:Value}(h:a.tmps[t]? = some u):a.eval (.tmp t)=u:=by simp[Act.eval,h]
theorem D8a{gi m:Nat}{b:Bool}(hgd:o.guard=some (gi,true))(hgi:(ops[gi]?.bind λx=>x.dst)=some m)(h:a.tmps[m]? = some (.bool b)):Region.wanted o (yielded ops a.tmps)=b:=by unfold Region.wanted yielded;rw[hgd];simp only[hgi,Option.bind_some,h];cases b<;>rfl
theorem O1a(hy:YieldsIf P ops (λw'=>w'=w) o v a)(h:wpList P ops Q rest (a.put o.dst v) w):wpList P ops Q (o::rest) a w:=
 wpList_step λK hK=>by
  rcases hy with⟨hw,hv⟩ | ⟨hw,rfl⟩
  ·rw[if_pos hw];unfold Oper.wp;rw[hv w rfl];exact hK _ _ h
  ·rw[if_neg (by rw[hw];decide)];exact hK _ _ h
theorem X1c{gi m:Nat}(hgi:(ops[gi]?.bind λx=>x.dst)=some m):∀(mids:List Oper) (a:Act),(∀o∈mids,o.guard=some (gi,true)/\∃d,o.dst=some d/\d≠x0/\d≠m)->Fr N x0 pv a->a.tmps[m]? = some (.bool false)->
  (∀a',Fr N x0 pv a'->a'.tmps[m]? = some (.bool false)->wpList P ops Q rest a' w)->wpList P ops Q (mids++rest) a w
 | [],a,_,hF,hm,h=>h a hF hm
 | o::mids,a,hs,hF,hm,h=>by obtain⟨hg,d,hd,h1,h2⟩:=hs o List.mem_cons_self;refine O1a (.inr ⟨D8a hg hgi hm,rfl⟩) ?_;rw[hd];exact X1c hgi mids _ (λo ho=>hs o (List.mem_cons_of_mem _ ho)) (hF.put h1) (by rw[w0b h2];exact hm) h
theorem chain{gi p m e q:Nat}{b t:Bool}{mids:List Oper}{o1 o5:Oper}(hgi:(ops[gi]?.bind λx=>x.dst)=some m)
(q1:o1.op=.move (.tmp p)/\o1.dst=some m/\o1.guard=none)(q5:o5.op=.pick (.tmp m) (.tmp e) (.const (.bool false))/\o5.dst=some q/\o5.guard=none)
(hn:m≠x0/\q≠x0/\m<N/\q<N)(hF:Fr N x0 pv a)(hp:a.eval (.tmp p)=.bool b)
(hs:∀o∈mids,o.guard=some (gi,true)/\∃d,o.dst=some d/\d≠x0/\d≠m)
(hmid:∀a1,Fr N x0 pv a1->a1.tmps[m]? = some (.bool true)->(∀a2,Fr N x0 pv a2->a2.tmps[m]? = some (.bool true)->a2.eval (.tmp e)=.bool t->wpList P ops Q (o5::rest) a2 w)->wpList P ops Q (mids++(o5::rest)) a1 w)
(h:∀a',Fr N x0 pv a'->a'.eval (.tmp q)=.bool (b&&t)->wpList P ops Q rest a' w):wpList P ops Q (o1::(mids++(o5::rest))) a w:=by
 obtain⟨n1,n2,n3,n4⟩:=hn;refine O1a (u0a (by simp[Region.wanted,q1.2.2]) (.tmp p) q1.1 (.bool b) hp) ?_;rw[q1.2.1];have hF1:Fr N x0 pv (a.put (some m) (.bool b)):=hF.put n1;have hm1:(a.put (some m) (.bool b)).tmps[m]? = some (.bool b):=U0c (by rw[hF.size];exact n3);cases b
 ·refine X1c hgi mids _ hs hF1 hm1 λa' hF' hm'=>?_
  refine O1a (v:=.bool false) (.inl ⟨by simp[Region.wanted,q5.2.2],λw _=>by have hc:a'.eval (.const (.bool false))=.bool false:=rfl;unfold execOp;simp[q5.1,eval_at hm',hc,asBool]⟩) ?_;rw[q5.2.1];exact h _ (hF'.put n2) (y4a (by rw[hF'.size];exact n4))
 ·refine hmid _ hF1 hm1 λa' hF' hm' he=>?_
  refine O1a (v:=.bool t) (.inl ⟨by simp[Region.wanted,q5.2.2],λw _=>by unfold execOp;simp[q5.1,eval_at hm',asBool,he]⟩) ?_;rw[q5.2.1];exact h _ (hF'.put n2) (y4a (by rw[hF'.size];exact n4))
theorem e1a{gi m f l i off g:Nat}{T ty:TypeId}{o2 o3:Oper}{tail:List Oper}(hgi:(ops[gi]?.bind λx=>x.dst)=some m)
(q2:o2.op=.fieldAddr T (.tmp x0) i/\o2.dst=some f/\o2.guard=some (gi,true))(q3:o3.op=.load ty (.tmp f)/\o3.dst=some l/\o3.guard=some (gi,true))
(hn:f≠x0/\l≠x0/\f≠m/\l≠m/\f<N/\l<N)
(hf:∀w,(Instr.fieldAt T pv i).run P w=.ok (.pointer (some ⟨g,off,none⟩)) w)
(hl:(Instr.loadAt ty (.pointer (some ⟨g,off,none⟩))).run P w=.ok v w)
(a1:Act)(hF:Fr N x0 pv a1)(hm:a1.tmps[m]? = some (.bool true))
(h:∀a2,Fr N x0 pv a2->a2.tmps[m]? = some (.bool true)->a2.eval (.tmp l)=v->wpList P ops Q tail a2 w):wpList P ops Q (o2::o3::tail) a1 w:=by
 obtain⟨n1,n2,n3,n4,n5,n6⟩:=hn;refine O1a (w0a (D8a q2.2.2 hgi hm) T (.tmp x0) i q2.1 pv _ hF.ptr hf) ?_;rw[q2.2.1];have hF2:Fr N x0 pv (a1.put (some f) (.pointer (some ⟨g,off,none⟩))):=hF.put n1;have hm2:(a1.put (some f) (.pointer (some ⟨g,off,none⟩))).tmps[m]? = some (.bool true):=by rw[w0b n3];exact hm
 refine O1a (v:=v) (.inl ⟨D8a q3.2.2 hgi hm2,λw' hw'=>by subst hw';unfold execOp;simp only[q3.1,y4a (show f<a1.tmps.size by rw[hF.size];exact n5),Sem.run_bind,hl,Result.andThen_ok,Sem.run_pure]⟩) ?_
 rw[q3.2.1];exact h _ (hF2.put n2) (by rw[w0b n4];exact hm2) (y4a (by rw[hF2.size];exact n6))
theorem S0a{gi m l e:Nat}{u:Value}{o4:Oper}{tail:List Oper}(hgi:(ops[gi]?.bind λx=>x.dst)=some m)
(q4:o4.dst=some e/\o4.guard=some (gi,true))(hn:e≠x0/\e≠m/\e<N)(a1:Act)(hF:Fr N x0 pv a1)(hm:a1.tmps[m]? = some (.bool true))
(hv:(execOp a1.eval o4).run P w=.ok (.value u) w)
(h:∀a2,Fr N x0 pv a2->a2.tmps[m]? = some (.bool true)->a2.eval (.tmp e)=u->(∀t,t≠e->a2.eval (.tmp t)=a1.eval (.tmp t))->wpList P ops Q tail a2 w):wpList P ops Q (o4::tail) a1 w:=by obtain⟨n1,n2,n3⟩:=hn;refine O1a (v:=u) (.inl ⟨D8a q4.2 hgi hm,λw' hw'=>by subst hw';exact hv⟩) ?_;rw[q4.1];exact h _ (hF.put n1) (by rw[w0b n2];exact hm) (y4a (by rw[hF.size];exact n3)) (λt ht=>S3b (Ne.symm ht))
theorem p2b(hF:Fr N x0 pv a)(h:∀a',Fr N x0 pv a'->wpList P ops Q rest a' w):wpList P ops Q rest a w:=h a hF
theorem T3b{f l i off g:Nat}{T ty:TypeId}{o2 o3:Oper}{tail:List Oper}
(q2:o2.op=.fieldAddr T (.tmp x0) i/\o2.dst=some f/\o2.guard=none)(q3:o3.op=.load ty (.tmp f)/\o3.dst=some l/\o3.guard=none)
(hn:f≠x0/\l≠x0/\f<N/\l<N)
(hf:∀w,(Instr.fieldAt T pv i).run P w=.ok (.pointer (some ⟨g,off,none⟩)) w)
(hl:(Instr.loadAt ty (.pointer (some ⟨g,off,none⟩))).run P w=.ok v w)
(a1:Act)(hF:Fr N x0 pv a1)
(h:∀a2,Fr N x0 pv a2->a2.eval (.tmp l)=v->wpList P ops Q tail a2 w):wpList P ops Q (o2::o3::tail) a1 w:=by
 obtain⟨n1,n2,n5,n6⟩:=hn;refine O1a (w0a (by simp[Region.wanted,q2.2.2]) T (.tmp x0) i q2.1 pv _ hF.ptr hf) ?_;rw[q2.2.1];have hF2:Fr N x0 pv (a1.put (some f) (.pointer (some ⟨g,off,none⟩))):=hF.put n1;refine O1a (v:=v) (.inl ⟨by simp[Region.wanted,q3.2.2],λw' hw'=>by subst hw';unfold execOp;simp only[q3.1,y4a (show f<a1.tmps.size by rw[hF.size];exact n5),Sem.run_bind,hl,Result.andThen_ok,Sem.run_pure]⟩) ?_
 rw[q3.2.1];exact h _ (hF2.put n2) (y4a (by rw[hF2.size];exact n6))
theorem E8a{e:Nat}{u:Value}{o4:Oper}{tail:List Oper}
(q4:o4.dst=some e/\o4.guard=none)(hn:e≠x0/\e<N)(a1:Act)(hF:Fr N x0 pv a1)
(hv:(execOp a1.eval o4).run P w=.ok (.value u) w)
(h:∀a2,Fr N x0 pv a2->a2.eval (.tmp e)=u->wpList P ops Q tail a2 w):wpList P ops Q (o4::tail) a1 w:=by obtain⟨n1,n3⟩:=hn;refine O1a (v:=u) (.inl ⟨by simp[Region.wanted,q4.2],λw' hw'=>by subst hw';exact hv⟩) ?_;rw[q4.1];exact h _ (hF.put n1) (y4a (by rw[hF.size];exact n3))
theorem q1a{g off:Nat}{ty:TypeId}(hc:w.cell? ⟨g,off,none⟩=some v)(d:TypeDesc)(hu:P.underlying ty=some d)(hd:(match d with | .struct _ | .array _ _=>true | _=>false)=false) :
  (Instr.loadAt ty (.pointer (some ⟨g,off,none⟩))).run P w=.ok v w:=by
 have hagg:(isAgg ty).run P w=.ok false w:=by unfold isAgg;rw[Sem.run_bind,run_underlying hu w];cases d<;>simp_all
 simp[Instr.loadAt,Instr.sureAddr,Sem.run_bind,Result.andThen_ok,loadVar,hagg,hc]
end
theorem q2b:Tryz.prog.built 26 []=some ((List.replicate 16 (0:Int)).map (Value.int .u8)).toArray:=by kernel_rfl
theorem W0b:Tryz.prog.built 30 []=some ((List.replicate 32 (0:Int)).map (Value.int .u8)).toArray:=by kernel_rfl
theorem r2b:Tryz.prog.built 35 []=some ((List.replicate 8 (0:Int)).map (Value.int .u8)).toArray:=by kernel_rfl
theorem b5b(a:m1a):a=i0a↔a.dial=[]/\a.data=[]/\a.locks=[]/\a.guid=List.replicate 16 0/\a.proof=List.replicate 32 0/\a.user=.empty/\a.share=.empty/\a.name=.empty/\a.pat=.empty/\a.aft=.empty/\a.acc=0/\a.shr=0/\a.way=0/\a.opt=0/\a.lev=0/\a.dur=0/\a.file=0/\a.at_=0/\a.n=0/\a.most=0/\a.cls=0/\a.siz=0/\a.on=false:=by
 constructor
 ·rintro rfl;exact⟨rfl,rfl,rfl,rfl,rfl,rfl,rfl,rfl,rfl,rfl,rfl,rfl,rfl,rfl,rfl,rfl,rfl,rfl,rfl,rfl,rfl,rfl,rfl⟩
 ·rintro⟨h_dial,h_data,h_locks,h_guid,h_proof,h_user,h_share,h_name,h_pat,h_aft,h_acc,h_shr,h_way,h_opt,h_lev,h_dur,h_file,h_at_,h_n,h_most,h_cls,h_siz,h_on⟩;cases a;simp only at h_dial h_data h_locks h_guid h_proof h_user h_share h_name h_pat h_aft h_acc h_shr h_way h_opt h_lev h_dur h_file h_at_ h_n h_most h_cls h_siz h_on;subst h_dial h_data h_locks h_guid h_proof h_user h_share h_name h_pat h_aft h_acc h_shr h_way h_opt h_lev h_dur h_file h_at_ h_n h_most h_cls h_siz h_on;rfl
theorem c5b(a:M1a):a=q0a↔a.data=[]/\a.ents=[]/\a.chal=List.replicate 8 0/\a.dia=0/\a.siz=0/\a.lev=0/\a.dur=0/\a.made=0/\a.file=0/\a.kind=0/\a.n=0/\a.more=false/\a.gone=false:=by
 constructor
 ·rintro rfl;exact⟨rfl,rfl,rfl,rfl,rfl,rfl,rfl,rfl,rfl,rfl,rfl,rfl,rfl⟩
 ·rintro⟨h_data,h_ents,h_chal,h_dia,h_siz,h_lev,h_dur,h_made,h_file,h_kind,h_n,h_more,h_gone⟩;cases a;simp only at h_data h_ents h_chal h_dia h_siz h_lev h_dur h_made h_file h_kind h_n h_more h_gone;subst h_data h_ents h_chal h_dia h_siz h_lev h_dur h_made h_file h_kind h_n h_more h_gone;rfl
theorem X0b(g:Nat)(w:World):(Instr.fieldAt 34 (.pointer (some ⟨g,0,none⟩)) 0).run Tryz.prog w=.ok (.pointer (some ⟨g,0,none⟩)) w:=by go_simp
theorem Y0b(g:Nat)(w:World):(Instr.fieldAt 34 (.pointer (some ⟨g,0,none⟩)) 1).run Tryz.prog w=.ok (.pointer (some ⟨g,1,none⟩)) w:=by go_simp
theorem Z0b(g:Nat)(w:World):(Instr.fieldAt 34 (.pointer (some ⟨g,0,none⟩)) 2).run Tryz.prog w=.ok (.pointer (some ⟨g,17,none⟩)) w:=by go_simp
theorem a1b(g:Nat)(w:World):(Instr.fieldAt 34 (.pointer (some ⟨g,0,none⟩)) 3).run Tryz.prog w=.ok (.pointer (some ⟨g,49,none⟩)) w:=by go_simp
theorem b1b(g:Nat)(w:World):(Instr.fieldAt 34 (.pointer (some ⟨g,0,none⟩)) 4).run Tryz.prog w=.ok (.pointer (some ⟨g,50,none⟩)) w:=by go_simp
theorem c1b(g:Nat)(w:World):(Instr.fieldAt 34 (.pointer (some ⟨g,0,none⟩)) 5).run Tryz.prog w=.ok (.pointer (some ⟨g,51,none⟩)) w:=by go_simp
theorem d1b(g:Nat)(w:World):(Instr.fieldAt 34 (.pointer (some ⟨g,0,none⟩)) 6).run Tryz.prog w=.ok (.pointer (some ⟨g,52,none⟩)) w:=by go_simp
theorem e1b(g:Nat)(w:World):(Instr.fieldAt 34 (.pointer (some ⟨g,0,none⟩)) 7).run Tryz.prog w=.ok (.pointer (some ⟨g,53,none⟩)) w:=by go_simp
theorem f1b(g:Nat)(w:World):(Instr.fieldAt 34 (.pointer (some ⟨g,0,none⟩)) 8).run Tryz.prog w=.ok (.pointer (some ⟨g,54,none⟩)) w:=by go_simp
theorem W6a(g:Nat)(w:World):(Instr.fieldAt 34 (.pointer (some ⟨g,0,none⟩)) 9).run Tryz.prog w=.ok (.pointer (some ⟨g,55,none⟩)) w:=by go_simp
theorem C6a(g:Nat)(w:World):(Instr.fieldAt 34 (.pointer (some ⟨g,0,none⟩)) 10).run Tryz.prog w=.ok (.pointer (some ⟨g,56,none⟩)) w:=by go_simp
theorem a0b(g:Nat)(w:World):(Instr.fieldAt 34 (.pointer (some ⟨g,0,none⟩)) 11).run Tryz.prog w=.ok (.pointer (some ⟨g,57,none⟩)) w:=by go_simp
theorem b0b(g:Nat)(w:World):(Instr.fieldAt 34 (.pointer (some ⟨g,0,none⟩)) 12).run Tryz.prog w=.ok (.pointer (some ⟨g,58,none⟩)) w:=by go_simp
theorem K4a(g:Nat)(w:World):(Instr.fieldAt 34 (.pointer (some ⟨g,0,none⟩)) 13).run Tryz.prog w=.ok (.pointer (some ⟨g,59,none⟩)) w:=by go_simp
theorem D6a(g:Nat)(w:World):(Instr.fieldAt 34 (.pointer (some ⟨g,0,none⟩)) 14).run Tryz.prog w=.ok (.pointer (some ⟨g,60,none⟩)) w:=by go_simp
theorem M4a(g:Nat)(w:World):(Instr.fieldAt 34 (.pointer (some ⟨g,0,none⟩)) 15).run Tryz.prog w=.ok (.pointer (some ⟨g,61,none⟩)) w:=by go_simp
theorem c0b(g:Nat)(w:World):(Instr.fieldAt 34 (.pointer (some ⟨g,0,none⟩)) 16).run Tryz.prog w=.ok (.pointer (some ⟨g,62,none⟩)) w:=by go_simp
theorem d0b(g:Nat)(w:World):(Instr.fieldAt 34 (.pointer (some ⟨g,0,none⟩)) 17).run Tryz.prog w=.ok (.pointer (some ⟨g,63,none⟩)) w:=by go_simp
theorem e0b(g:Nat)(w:World):(Instr.fieldAt 34 (.pointer (some ⟨g,0,none⟩)) 18).run Tryz.prog w=.ok (.pointer (some ⟨g,64,none⟩)) w:=by go_simp
theorem f0b(g:Nat)(w:World):(Instr.fieldAt 34 (.pointer (some ⟨g,0,none⟩)) 19).run Tryz.prog w=.ok (.pointer (some ⟨g,65,none⟩)) w:=by go_simp
theorem g0b(g:Nat)(w:World):(Instr.fieldAt 34 (.pointer (some ⟨g,0,none⟩)) 20).run Tryz.prog w=.ok (.pointer (some ⟨g,66,none⟩)) w:=by go_simp
theorem h0b(g:Nat)(w:World):(Instr.fieldAt 34 (.pointer (some ⟨g,0,none⟩)) 21).run Tryz.prog w=.ok (.pointer (some ⟨g,67,none⟩)) w:=by go_simp
theorem i0b(g:Nat)(w:World):(Instr.fieldAt 34 (.pointer (some ⟨g,0,none⟩)) 22).run Tryz.prog w=.ok (.pointer (some ⟨g,68,none⟩)) w:=by go_simp
theorem X6a(g:Nat)(w:World):(Instr.fieldAt 39 (.pointer (some ⟨g,0,none⟩)) 0).run Tryz.prog w=.ok (.pointer (some ⟨g,0,none⟩)) w:=by go_simp
theorem Y6a(g:Nat)(w:World):(Instr.fieldAt 39 (.pointer (some ⟨g,0,none⟩)) 1).run Tryz.prog w=.ok (.pointer (some ⟨g,1,none⟩)) w:=by go_simp
theorem Z6a(g:Nat)(w:World):(Instr.fieldAt 39 (.pointer (some ⟨g,0,none⟩)) 2).run Tryz.prog w=.ok (.pointer (some ⟨g,2,none⟩)) w:=by go_simp
theorem a7a(g:Nat)(w:World):(Instr.fieldAt 39 (.pointer (some ⟨g,0,none⟩)) 3).run Tryz.prog w=.ok (.pointer (some ⟨g,10,none⟩)) w:=by go_simp
theorem b7a(g:Nat)(w:World):(Instr.fieldAt 39 (.pointer (some ⟨g,0,none⟩)) 4).run Tryz.prog w=.ok (.pointer (some ⟨g,11,none⟩)) w:=by go_simp
theorem c7a(g:Nat)(w:World):(Instr.fieldAt 39 (.pointer (some ⟨g,0,none⟩)) 5).run Tryz.prog w=.ok (.pointer (some ⟨g,12,none⟩)) w:=by go_simp
theorem d7a(g:Nat)(w:World):(Instr.fieldAt 39 (.pointer (some ⟨g,0,none⟩)) 6).run Tryz.prog w=.ok (.pointer (some ⟨g,13,none⟩)) w:=by go_simp
theorem e7a(g:Nat)(w:World):(Instr.fieldAt 39 (.pointer (some ⟨g,0,none⟩)) 7).run Tryz.prog w=.ok (.pointer (some ⟨g,14,none⟩)) w:=by go_simp
theorem f5a(g:Nat)(w:World):(Instr.fieldAt 39 (.pointer (some ⟨g,0,none⟩)) 8).run Tryz.prog w=.ok (.pointer (some ⟨g,15,none⟩)) w:=by go_simp
theorem g1b(g:Nat)(w:World):(Instr.fieldAt 39 (.pointer (some ⟨g,0,none⟩)) 9).run Tryz.prog w=.ok (.pointer (some ⟨g,16,none⟩)) w:=by go_simp
theorem j0b(g:Nat)(w:World):(Instr.fieldAt 39 (.pointer (some ⟨g,0,none⟩)) 10).run Tryz.prog w=.ok (.pointer (some ⟨g,17,none⟩)) w:=by go_simp
theorem k0b(g:Nat)(w:World):(Instr.fieldAt 39 (.pointer (some ⟨g,0,none⟩)) 11).run Tryz.prog w=.ok (.pointer (some ⟨g,18,none⟩)) w:=by go_simp
theorem l0b(g:Nat)(w:World):(Instr.fieldAt 39 (.pointer (some ⟨g,0,none⟩)) 12).run Tryz.prog w=.ok (.pointer (some ⟨g,19,none⟩)) w:=by go_simp
theorem f7a{w:World}{g off:Nat}{cs:List Value}{ty:TypeId}{d:TypeDesc}(hc:w.rangeAt g off cs)(hu:Tryz.prog.underlying ty=some d)(hd:d.isRow=true)(hs:(Tryz.prog.info? ty).map (·.size)=some cs.length) :
  (Instr.loadAt ty (.pointer (some ⟨g,off,none⟩))).run Tryz.prog w=.ok (.agg cs.toArray) w:=by
 have:=run_loadVar_mid (P:=Tryz.prog) w g off ty cs d hc hu hd hs;simpa[Instr.loadAt,Instr.sureAddr,Sem.run_bind,Result.andThen_ok] using this
theorem e4a(s:ByteArray):s.toList.isEmpty=decide (s=.empty):=by
 rw[ByteArray.toList_eq];obtain⟨⟨l⟩⟩:=s;cases l with
 | nil=>exact(decide_eq_true rfl).symm
 | cons x l=>rw[decide_eq_false (λh=>by injection h with h;injection h with h;cases h)];rfl
theorem h1b{a:Act}{w:World}{T:TypeId}{o:Oper}{ys:Array Value}(ho:o.op=.build T #[])(hf:Tryz.prog.built T []=some ys):(execOp a.eval o).run Tryz.prog w=.ok (.value (.agg ys)) w:=by
 obtain⟨cs,rfl⟩:∃cs:List Value,ys=cs.toArray:=⟨ys.toList,by simp⟩;have h:=h1a (P:=Tryz.prog) (ops:=#[]) (S:=λ_=>True) (op:={ o with guard:=none }) (a:=a) (by simp[Region.wanted]) T #[] ho cs (by simpa using hf);rcases h with⟨_,h⟩ | ⟨h,_⟩
 ·exact h w trivial
 ·simp[Region.wanted] at h
theorem M0a{a:Act}{t:Nat}{v:Value}(h:a.eval (.tmp t)=v):a.tmps[t]?.getD undef=v:=by rw[<-h];simp[Act.eval]
theorem g3b(w:World)(cs:List Value)(a:m1a)(ka:a.ok)(ha:f1a w w.heap.size cs a) :
  Calls Tryz.prog 108 #[.agg cs.toArray] w λe w'=>e=.returned (.bool (decide (a=i0a)))/\Below w.heap.size w w':=by
 have HL:=hI (ha.len ka);obtain⟨D1,D2,D3,X1,X2,X3,M1,M2,M3,rfl,h_D,h_X,h_M⟩:=ha;have l_D:=h_D.len;have l_X:=h_X.len;have l_M:=h_M.len;have HT:Hid ((((((((((((((((((((((((a.dial.length==0)&&(a.data.length==0))&&(a.locks.length==0))&&(decide (a.guid=List.replicate 16 0)))&&(decide (a.proof=List.replicate 32 0)))&&(decide (a.user=.empty)))&&(decide (a.share=.empty)))&&(decide (a.name=.empty)))&&(decide (a.pat=.empty)))&&(decide (a.aft=.empty)))&&(a.acc==0))&&(a.shr==0))&&(a.way==0))&&(a.opt==0))&&(a.lev==0))&&(a.dur==0))&&(a.file==0))&&(a.at_==0))&&(a.n==0))&&(a.most==0))&&(a.cls==0))&&(a.siz==0))&&(!a.on))=decide (a=i0a)):=by
  show _=_
  rw[Bool.eq_iff_iff,decide_eq_true_iff,b5b];simp only[Bool.and_eq_true,beq_iff_eq,decide_eq_true_iff,Bool.not_eq_true',List.length_eq_zero_iff,and_assoc]
 have FA:Hid (∀(w:World) (g:Nat),Blk w g 34 (j0a (.slice D1 D2 D3) (.slice X1 X2 X3) (.slice M1 M2 M3) a)->w.cell? ⟨g,0,none⟩=some (.slice D1 D2 D3)/\w.cell? ⟨g,49,none⟩=some (.string a.user)/\w.cell? ⟨g,50,none⟩=some (.string a.share)/\w.cell? ⟨g,51,none⟩=some (.int .u32 a.acc)/\w.cell? ⟨g,52,none⟩=some (.int .u32 a.shr)/\w.cell? ⟨g,53,none⟩=some (.int .u32 a.way)/\w.cell? ⟨g,54,none⟩=some (.int .u32 a.opt)/\w.cell? ⟨g,55,none⟩=some (.int .u8 a.lev)/\w.cell? ⟨g,56,none⟩=some (.int .u8 a.dur)/\w.cell? ⟨g,57,none⟩=some (.int .u64 a.file)/\w.cell? ⟨g,58,none⟩=some (.string a.name)/\w.cell? ⟨g,59,none⟩=some (.int .u64 a.at_)/\w.cell? ⟨g,60,none⟩=some (.int .u32 a.n)/\w.cell? ⟨g,61,none⟩=some (.slice X1 X2 X3)/\w.cell? ⟨g,62,none⟩=some (.slice M1 M2 M3)/\w.cell? ⟨g,63,none⟩=some (.int .u16 a.most)/\w.cell? ⟨g,64,none⟩=some (.string a.pat)/\w.cell? ⟨g,65,none⟩=some (.string a.aft)/\w.cell? ⟨g,66,none⟩=some (.int .u16 a.cls)/\w.cell? ⟨g,67,none⟩=some (.int .u64 a.siz)/\w.cell? ⟨g,68,none⟩=some (.bool a.on)):=λw g h=>⟨h.at rfl,h.at (p0a ka 0),h.at (p0a ka 1),h.at (p0a ka 2),h.at (p0a ka 3),h.at (p0a ka 4),h.at (p0a ka 5),h.at (p0a ka 6),h.at (p0a ka 7),h.at (p0a ka 8),h.at (p0a ka 9),h.at (p0a ka 10),h.at (p0a ka 11),h.at (p0a ka 12),h.at (p0a ka 13),h.at (p0a ka 14),h.at (p0a ka 15),h.at (p0a ka 16),h.at (p0a ka 17),h.at (p0a ka 18),h.at (p0a ka 19)⟩
 have R_guid:Hid (∀(w:World) (g:Nat),Blk w g 34 (j0a (.slice D1 D2 D3) (.slice X1 X2 X3) (.slice M1 M2 M3) a)->w.rangeAt g 1 (a.guid.map (Value.int .u8))):=λw g h=>m6a h ka
 have N_guid:Hid ((a.guid.map (Value.int .u8)).length=16):=by show _=_;rw[List.length_map];exact ka.glen
 have q_guid:∀w:World,(Op.equalIn 10000 26 (.agg (a.guid.map (Value.int .u8)).toArray) (.agg ((List.replicate 16 (0:Int)).map (Value.int .u8)).toArray)).run Tryz.prog w=.ok (decide (a.guid=List.replicate 16 0)) w:=λw=>n2a Tryz.underlying26 Tryz.underlying5 L7a _ _ ka.glen (by simp) _ w
 have R_proof:Hid (∀(w:World) (g:Nat),Blk w g 34 (j0a (.slice D1 D2 D3) (.slice X1 X2 X3) (.slice M1 M2 M3) a)->w.rangeAt g 17 (a.proof.map (Value.int .u8))):=λw g h=>x5a h ka
 have N_proof:Hid ((a.proof.map (Value.int .u8)).length=32):=by show _=_;rw[List.length_map];exact ka.plen
 have q_proof:∀w:World,(Op.equalIn 10000 30 (.agg (a.proof.map (Value.int .u8)).toArray) (.agg ((List.replicate 32 (0:Int)).map (Value.int .u8)).toArray)).run Tryz.prog w=.ok (decide (a.proof=List.replicate 32 0)) w:=λw=>n2a Tryz.underlying30 Tryz.underlying5 L7a _ _ ka.plen (by simp) _ w
 obtain⟨z_dial,k_dial⟩:∃z,(a.dial.length==0)=z:=⟨_,rfl⟩;obtain⟨z_data,k_data⟩:∃z,(a.data.length==0)=z:=⟨_,rfl⟩;obtain⟨z_locks,k_locks⟩:∃z,(a.locks.length==0)=z:=⟨_,rfl⟩;obtain⟨z_guid,k_guid⟩:∃z,(decide (a.guid=List.replicate 16 0))=z:=⟨_,rfl⟩;obtain⟨z_proof,k_proof⟩:∃z,(decide (a.proof=List.replicate 32 0))=z:=⟨_,rfl⟩;obtain⟨z_user,k_user⟩:∃z,(decide (a.user=.empty))=z:=⟨_,rfl⟩;obtain⟨z_share,k_share⟩:∃z,(decide (a.share=.empty))=z:=⟨_,rfl⟩;obtain⟨z_name,k_name⟩:∃z,(decide (a.name=.empty))=z:=⟨_,rfl⟩;obtain⟨z_pat,k_pat⟩:∃z,(decide (a.pat=.empty))=z:=⟨_,rfl⟩;obtain⟨z_aft,k_aft⟩:∃z,(decide (a.aft=.empty))=z:=⟨_,rfl⟩;obtain⟨z_acc,k_acc⟩:∃z,(a.acc==0)=z:=⟨_,rfl⟩;obtain⟨z_shr,k_shr⟩:∃z,(a.shr==0)=z:=⟨_,rfl⟩;obtain⟨z_way,k_way⟩:∃z,(a.way==0)=z:=⟨_,rfl⟩;obtain⟨z_opt,k_opt⟩:∃z,(a.opt==0)=z:=⟨_,rfl⟩;obtain⟨z_lev,k_lev⟩:∃z,(a.lev==0)=z:=⟨_,rfl⟩;obtain⟨z_dur,k_dur⟩:∃z,(a.dur==0)=z:=⟨_,rfl⟩;obtain⟨z_file,k_file⟩:∃z,(a.file==0)=z:=⟨_,rfl⟩;obtain⟨z_at_,k_at_⟩:∃z,(a.at_==0)=z:=⟨_,rfl⟩;obtain⟨z_n,k_n⟩:∃z,(a.n==0)=z:=⟨_,rfl⟩;obtain⟨z_most,k_most⟩:∃z,(a.most==0)=z:=⟨_,rfl⟩;obtain⟨z_cls,k_cls⟩:∃z,(a.cls==0)=z:=⟨_,rfl⟩;obtain⟨z_siz,k_siz⟩:∃z,(a.siz==0)=z:=⟨_,rfl⟩;obtain⟨z_on,k_on⟩:∃z,(!a.on)=z:=⟨_,rfl⟩;rw[k_dial,k_data,k_locks,k_guid,k_proof,k_user,k_share,k_name,k_pat,k_aft,k_acc,k_shr,k_way,k_opt,k_lev,k_dur,k_file,k_at_,k_n,k_most,k_cls,k_siz,k_on] at HT;rw[l_D] at k_dial;have kk_dial:((D2:Int)==0)=z_dial:=by rw[<-k_dial];rw[Bool.eq_iff_iff];simp
 rw[l_X] at k_data;have kk_data:((X2:Int)==0)=z_data:=by rw[<-k_data];rw[Bool.eq_iff_iff];simp
 rw[l_M] at k_locks;have kk_locks:((M2:Int)==0)=z_locks:=by rw[<-k_locks];rw[Bool.eq_iff_iff];simp
 rw[k_guid] at q_guid;obtain⟨y_guid,hy⟩:∃y,y=((List.replicate 16 (0:Int)).map (Value.int .u8)).toArray:=⟨_,rfl⟩;rw[<-hy] at q_guid;have bt_guid:Tryz.prog.built 26 []=some y_guid:=by rw[hy];exact q2b
 clear hy;rw[k_proof] at q_proof;obtain⟨y_proof,hy⟩:∃y,y=((List.replicate 32 (0:Int)).map (Value.int .u8)).toArray:=⟨_,rfl⟩;rw[<-hy] at q_proof;have bt_proof:Tryz.prog.built 30 []=some y_proof:=by rw[hy];exact W0b
 clear hy;have kk_user:a.user.toList.isEmpty=z_user:=by rw[<-k_user];exact e4a _
 have kk_share:a.share.toList.isEmpty=z_share:=by rw[<-k_share];exact e4a _
 have kk_name:a.name.toList.isEmpty=z_name:=by rw[<-k_name];exact e4a _
 have kk_pat:a.pat.toList.isEmpty=z_pat:=by rw[<-k_pat];exact e4a _
 have kk_aft:a.aft.toList.isEmpty=z_aft:=by rw[<-k_aft];exact e4a _
 obtain⟨r,hr⟩:∃r,r=decide (a=i0a):=⟨_,rfl⟩;rw[<-hr] at HT⊢;obtain⟨cs,hcs⟩:∃c,c=j0a (.slice D1 D2 D3) (.slice X1 X2 X3) (.slice M1 M2 M3) a:=⟨_,rfl⟩;rw[<-hcs] at FA HL R_guid R_proof⊢;clear hr hcs h_D h_X h_M;go_enter Tryz.func108,Tryz.ntmps108;go_upto_region 1 with(first
  | ((with_reducible refine sN 1 ?_);refine f0a rfl _ (.tmp 0) rfl cs rfl ?_;intro g w1 hg1 hg2 K1 L1)
  | fail)
 rename_i hret;simp only[List.append_eq,List.cons_append,List.nil_append];refine wp_region_lit ?_;have HK:=K1;obtain⟨c_dial,c_user,c_share,c_acc,c_shr,c_way,c_opt,c_lev,c_dur,c_file,c_name,c_at_,c_n,c_data,c_locks,c_most,c_pat,c_aft,c_cls,c_siz,c_on⟩:=FA.out _ _ K1.out;have r_guid:=R_guid.out _ _ K1.out;have r_proof:=R_proof.out _ _ K1.out;refine p2b (N:=121) (x0:=1) (pv:=.pointer (some ⟨g,0,none⟩)) ⟨rfl,rfl,rfl⟩ λa0 F0=>?_
 refine T3b (v:=(.slice D1 D2 D3)) (f:=3) (l:=4) (i:=0) (off:=0) (g:=g) ⟨rfl,rfl,rfl⟩ ⟨rfl,rfl,rfl⟩ (by decide) (X0b g) (q1a c_dial _ Tryz.underlying29 rfl) a0 F0 λa1 F1 e1=>?_
 refine E8a (e:=5) (u:=.int .i64 (D2:Int)) ⟨rfl,rfl⟩ (by decide) a1 F1 (by have e':=M0a e1;go_simp) λa2 F2 e2=>?_
 refine E8a (e:=6) (u:=.bool z_dial) ⟨rfl,rfl⟩ (by decide) a2 F2 (by have e':=M0a e2;go_simp) λb0 G0 h0=>?_
 clear F0 F1 F2 e1 e2;refine chain (gi:=4) (p:=6) (m:=7) (e:=11) (q:=12) (t:=z_data) (mids:=[_,_,_,_]) rfl ⟨rfl,rfl,rfl⟩ ⟨rfl,rfl,rfl⟩ (by decide) G0 h0 (by
  intro o ho;simp only[List.mem_cons,List.not_mem_nil,or_false] at ho;rcases ho with rfl | rfl | rfl | rfl
  all_goals exact⟨rfl,_,rfl,by decide,by decide⟩) (λa1 F1 m1 hk=>?_) λb1 G1 h1=>?_
 ·refine e1a (v:=(.slice X1 X2 X3)) (f:=8) (l:=9) (i:=15) (off:=61) (g:=g) (tail:=_) (gi:=4) (m:=7) rfl ⟨rfl,rfl,rfl⟩ ⟨rfl,rfl,rfl⟩ (by decide) (M4a g) (q1a c_data _ Tryz.underlying31 rfl) a1 F1 m1 λa2 F2 m2 e2=>?_
  refine S0a (l:=0) (e:=10) (u:=.int .i64 (X2:Int)) (gi:=4) (m:=7) rfl ⟨rfl,rfl⟩ (by decide) a2 F2 m2 (by have e':=M0a e2;go_simp) λa3 F3 m3 e3 _=>?_
  refine S0a (l:=0) (e:=11) (u:=.bool z_data) (gi:=4) (m:=7) rfl ⟨rfl,rfl⟩ (by decide) a3 F3 m3 (by have e':=M0a e3;go_simp) λa4 F4 m4 e4 _=>?_
  exact hk a4 F4 m4 e4
 refine chain (gi:=10) (p:=12) (m:=13) (e:=17) (q:=18) (t:=z_locks) (mids:=[_,_,_,_]) rfl ⟨rfl,rfl,rfl⟩ ⟨rfl,rfl,rfl⟩ (by decide) G1 h1 (by
  intro o ho;simp only[List.mem_cons,List.not_mem_nil,or_false] at ho;rcases ho with rfl | rfl | rfl | rfl
  all_goals exact⟨rfl,_,rfl,by decide,by decide⟩) (λa1 F1 m1 hk=>?_) λb2 G2 h2=>?_
 ·refine e1a (v:=(.slice M1 M2 M3)) (f:=14) (l:=15) (i:=16) (off:=62) (g:=g) (tail:=_) (gi:=10) (m:=13) rfl ⟨rfl,rfl,rfl⟩ ⟨rfl,rfl,rfl⟩ (by decide) (c0b g) (q1a c_locks _ Tryz.underlying32 rfl) a1 F1 m1 λa2 F2 m2 e2=>?_
  refine S0a (l:=0) (e:=16) (u:=.int .i64 (M2:Int)) (gi:=10) (m:=13) rfl ⟨rfl,rfl⟩ (by decide) a2 F2 m2 (by have e':=M0a e2;go_simp) λa3 F3 m3 e3 _=>?_
  refine S0a (l:=0) (e:=17) (u:=.bool z_locks) (gi:=10) (m:=13) rfl ⟨rfl,rfl⟩ (by decide) a3 F3 m3 (by have e':=M0a e3;go_simp) λa4 F4 m4 e4 _=>?_
  exact hk a4 F4 m4 e4
 clear G1 h1;refine chain (gi:=16) (p:=18) (m:=19) (e:=23) (q:=24) (t:=z_guid) (mids:=[_,_,_,_]) rfl ⟨rfl,rfl,rfl⟩ ⟨rfl,rfl,rfl⟩ (by decide) G2 h2 (by
  intro o ho;simp only[List.mem_cons,List.not_mem_nil,or_false] at ho;rcases ho with rfl | rfl | rfl | rfl
  all_goals exact⟨rfl,_,rfl,by decide,by decide⟩) (λa1 F1 m1 hk=>?_) λb3 G3 h3=>?_
 ·refine e1a (v:=(.agg (a.guid.map (Value.int .u8)).toArray)) (f:=20) (l:=21) (i:=1) (off:=1) (g:=g) (tail:=_) (gi:=16) (m:=19) rfl ⟨rfl,rfl,rfl⟩ ⟨rfl,rfl,rfl⟩ (by decide) (Y0b g) (f7a r_guid Tryz.underlying26 rfl (by rw[J3a,N_guid.out])) a1 F1 m1 λa2 F2 m2 e2=>?_
  refine S0a (l:=0) (e:=22) (u:=.agg y_guid) (gi:=16) (m:=19) rfl ⟨rfl,rfl⟩ (by decide) a2 F2 m2 (h1b rfl bt_guid) λa3 F3 m3 e3 o3=>?_
  have e2':=(o3 21 (by decide)).trans e2;refine S0a (l:=0) (e:=23) (u:=.bool z_guid) (gi:=16) (m:=19) rfl ⟨rfl,rfl⟩ (by decide) a3 F3 m3 (by have e':=M0a e2';have e'':=M0a e3;have qg:=n2b;go_simp) λa4 F4 m4 e4 _=>?_
  exact hk a4 F4 m4 e4
 clear G2 h2;refine chain (gi:=22) (p:=24) (m:=25) (e:=29) (q:=30) (t:=z_proof) (mids:=[_,_,_,_]) rfl ⟨rfl,rfl,rfl⟩ ⟨rfl,rfl,rfl⟩ (by decide) G3 h3 (by
  intro o ho;simp only[List.mem_cons,List.not_mem_nil,or_false] at ho;rcases ho with rfl | rfl | rfl | rfl
  all_goals exact⟨rfl,_,rfl,by decide,by decide⟩) (λa1 F1 m1 hk=>?_) λb4 G4 h4=>?_
 ·refine e1a (v:=(.agg (a.proof.map (Value.int .u8)).toArray)) (f:=26) (l:=27) (i:=2) (off:=17) (g:=g) (tail:=_) (gi:=22) (m:=25) rfl ⟨rfl,rfl,rfl⟩ ⟨rfl,rfl,rfl⟩ (by decide) (Z0b g) (f7a r_proof Tryz.underlying30 rfl (by rw[V3a,N_proof.out])) a1 F1 m1 λa2 F2 m2 e2=>?_
  refine S0a (l:=0) (e:=28) (u:=.agg y_proof) (gi:=22) (m:=25) rfl ⟨rfl,rfl⟩ (by decide) a2 F2 m2 (h1b rfl bt_proof) λa3 F3 m3 e3 o3=>?_
  have e2':=(o3 27 (by decide)).trans e2;refine S0a (l:=0) (e:=29) (u:=.bool z_proof) (gi:=22) (m:=25) rfl ⟨rfl,rfl⟩ (by decide) a3 F3 m3 (by have e':=M0a e2';have e'':=M0a e3;have qg:=V0b;go_simp) λa4 F4 m4 e4 _=>?_
  exact hk a4 F4 m4 e4
 clear G3 h3;refine chain (gi:=28) (p:=30) (m:=31) (e:=34) (q:=35) (t:=z_user) (mids:=[_,_,_]) rfl ⟨rfl,rfl,rfl⟩ ⟨rfl,rfl,rfl⟩ (by decide) G4 h4 (by
  intro o ho;simp only[List.mem_cons,List.not_mem_nil,or_false] at ho;rcases ho with rfl | rfl | rfl
  all_goals exact⟨rfl,_,rfl,by decide,by decide⟩) (λa1 F1 m1 hk=>?_) λb5 G5 h5=>?_
 ·refine e1a (v:=(.string a.user)) (f:=32) (l:=33) (i:=3) (off:=49) (g:=g) (tail:=_) (gi:=28) (m:=31) rfl ⟨rfl,rfl,rfl⟩ ⟨rfl,rfl,rfl⟩ (by decide) (a1b g) (q1a c_user _ Tryz.underlying9 rfl) a1 F1 m1 λa2 F2 m2 e2=>?_
  refine S0a (l:=0) (e:=34) (u:=.bool z_user) (gi:=28) (m:=31) rfl ⟨rfl,rfl⟩ (by decide) a2 F2 m2 (by have e':=M0a e2;go_simp) λa4 F4 m4 e4 _=>?_
  exact hk a4 F4 m4 e4
 clear G4 h4;refine chain (gi:=33) (p:=35) (m:=36) (e:=39) (q:=40) (t:=z_share) (mids:=[_,_,_]) rfl ⟨rfl,rfl,rfl⟩ ⟨rfl,rfl,rfl⟩ (by decide) G5 h5 (by
  intro o ho;simp only[List.mem_cons,List.not_mem_nil,or_false] at ho;rcases ho with rfl | rfl | rfl
  all_goals exact⟨rfl,_,rfl,by decide,by decide⟩) (λa1 F1 m1 hk=>?_) λb6 G6 h6=>?_
 ·refine e1a (v:=(.string a.share)) (f:=37) (l:=38) (i:=4) (off:=50) (g:=g) (tail:=_) (gi:=33) (m:=36) rfl ⟨rfl,rfl,rfl⟩ ⟨rfl,rfl,rfl⟩ (by decide) (b1b g) (q1a c_share _ Tryz.underlying9 rfl) a1 F1 m1 λa2 F2 m2 e2=>?_
  refine S0a (l:=0) (e:=39) (u:=.bool z_share) (gi:=33) (m:=36) rfl ⟨rfl,rfl⟩ (by decide) a2 F2 m2 (by have e':=M0a e2;go_simp) λa4 F4 m4 e4 _=>?_
  exact hk a4 F4 m4 e4
 clear G5 h5;refine chain (gi:=38) (p:=40) (m:=41) (e:=44) (q:=45) (t:=z_name) (mids:=[_,_,_]) rfl ⟨rfl,rfl,rfl⟩ ⟨rfl,rfl,rfl⟩ (by decide) G6 h6 (by
  intro o ho;simp only[List.mem_cons,List.not_mem_nil,or_false] at ho;rcases ho with rfl | rfl | rfl
  all_goals exact⟨rfl,_,rfl,by decide,by decide⟩) (λa1 F1 m1 hk=>?_) λb7 G7 h7=>?_
 ·refine e1a (v:=(.string a.name)) (f:=42) (l:=43) (i:=12) (off:=58) (g:=g) (tail:=_) (gi:=38) (m:=41) rfl ⟨rfl,rfl,rfl⟩ ⟨rfl,rfl,rfl⟩ (by decide) (b0b g) (q1a c_name _ Tryz.underlying9 rfl) a1 F1 m1 λa2 F2 m2 e2=>?_
  refine S0a (l:=0) (e:=44) (u:=.bool z_name) (gi:=38) (m:=41) rfl ⟨rfl,rfl⟩ (by decide) a2 F2 m2 (by have e':=M0a e2;go_simp) λa4 F4 m4 e4 _=>?_
  exact hk a4 F4 m4 e4
 clear G6 h6;refine chain (gi:=43) (p:=45) (m:=46) (e:=49) (q:=50) (t:=z_pat) (mids:=[_,_,_]) rfl ⟨rfl,rfl,rfl⟩ ⟨rfl,rfl,rfl⟩ (by decide) G7 h7 (by
  intro o ho;simp only[List.mem_cons,List.not_mem_nil,or_false] at ho;rcases ho with rfl | rfl | rfl
  all_goals exact⟨rfl,_,rfl,by decide,by decide⟩) (λa1 F1 m1 hk=>?_) λb8 G8 h8=>?_
 ·refine e1a (v:=(.string a.pat)) (f:=47) (l:=48) (i:=18) (off:=64) (g:=g) (tail:=_) (gi:=43) (m:=46) rfl ⟨rfl,rfl,rfl⟩ ⟨rfl,rfl,rfl⟩ (by decide) (e0b g) (q1a c_pat _ Tryz.underlying9 rfl) a1 F1 m1 λa2 F2 m2 e2=>?_
  refine S0a (l:=0) (e:=49) (u:=.bool z_pat) (gi:=43) (m:=46) rfl ⟨rfl,rfl⟩ (by decide) a2 F2 m2 (by have e':=M0a e2;go_simp) λa4 F4 m4 e4 _=>?_
  exact hk a4 F4 m4 e4
 clear G7 h7;refine chain (gi:=48) (p:=50) (m:=51) (e:=54) (q:=55) (t:=z_aft) (mids:=[_,_,_]) rfl ⟨rfl,rfl,rfl⟩ ⟨rfl,rfl,rfl⟩ (by decide) G8 h8 (by
  intro o ho;simp only[List.mem_cons,List.not_mem_nil,or_false] at ho;rcases ho with rfl | rfl | rfl
  all_goals exact⟨rfl,_,rfl,by decide,by decide⟩) (λa1 F1 m1 hk=>?_) λb9 G9 h9=>?_
 ·refine e1a (v:=(.string a.aft)) (f:=52) (l:=53) (i:=19) (off:=65) (g:=g) (tail:=_) (gi:=48) (m:=51) rfl ⟨rfl,rfl,rfl⟩ ⟨rfl,rfl,rfl⟩ (by decide) (f0b g) (q1a c_aft _ Tryz.underlying9 rfl) a1 F1 m1 λa2 F2 m2 e2=>?_
  refine S0a (l:=0) (e:=54) (u:=.bool z_aft) (gi:=48) (m:=51) rfl ⟨rfl,rfl⟩ (by decide) a2 F2 m2 (by have e':=M0a e2;go_simp) λa4 F4 m4 e4 _=>?_
  exact hk a4 F4 m4 e4
 clear G8 h8;refine chain (gi:=53) (p:=55) (m:=56) (e:=59) (q:=60) (t:=z_acc) (mids:=[_,_,_]) rfl ⟨rfl,rfl,rfl⟩ ⟨rfl,rfl,rfl⟩ (by decide) G9 h9 (by
  intro o ho;simp only[List.mem_cons,List.not_mem_nil,or_false] at ho;rcases ho with rfl | rfl | rfl
  all_goals exact⟨rfl,_,rfl,by decide,by decide⟩) (λa1 F1 m1 hk=>?_) λb10 G10 h10=>?_
 ·refine e1a (v:=(.int .u32 a.acc)) (f:=57) (l:=58) (i:=5) (off:=51) (g:=g) (tail:=_) (gi:=53) (m:=56) rfl ⟨rfl,rfl,rfl⟩ ⟨rfl,rfl,rfl⟩ (by decide) (c1b g) (q1a c_acc _ Tryz.underlying23 rfl) a1 F1 m1 λa2 F2 m2 e2=>?_
  refine S0a (l:=0) (e:=59) (u:=.bool z_acc) (gi:=53) (m:=56) rfl ⟨rfl,rfl⟩ (by decide) a2 F2 m2 (by have e':=M0a e2;go_simp) λa4 F4 m4 e4 _=>?_
  exact hk a4 F4 m4 e4
 clear G9 h9;refine chain (gi:=58) (p:=60) (m:=61) (e:=64) (q:=65) (t:=z_shr) (mids:=[_,_,_]) rfl ⟨rfl,rfl,rfl⟩ ⟨rfl,rfl,rfl⟩ (by decide) G10 h10 (by
  intro o ho;simp only[List.mem_cons,List.not_mem_nil,or_false] at ho;rcases ho with rfl | rfl | rfl
  all_goals exact⟨rfl,_,rfl,by decide,by decide⟩) (λa1 F1 m1 hk=>?_) λb11 G11 h11=>?_
 ·refine e1a (v:=(.int .u32 a.shr)) (f:=62) (l:=63) (i:=6) (off:=52) (g:=g) (tail:=_) (gi:=58) (m:=61) rfl ⟨rfl,rfl,rfl⟩ ⟨rfl,rfl,rfl⟩ (by decide) (d1b g) (q1a c_shr _ Tryz.underlying23 rfl) a1 F1 m1 λa2 F2 m2 e2=>?_
  refine S0a (l:=0) (e:=64) (u:=.bool z_shr) (gi:=58) (m:=61) rfl ⟨rfl,rfl⟩ (by decide) a2 F2 m2 (by have e':=M0a e2;go_simp) λa4 F4 m4 e4 _=>?_
  exact hk a4 F4 m4 e4
 clear G10 h10;refine chain (gi:=63) (p:=65) (m:=66) (e:=69) (q:=70) (t:=z_way) (mids:=[_,_,_]) rfl ⟨rfl,rfl,rfl⟩ ⟨rfl,rfl,rfl⟩ (by decide) G11 h11 (by
  intro o ho;simp only[List.mem_cons,List.not_mem_nil,or_false] at ho;rcases ho with rfl | rfl | rfl
  all_goals exact⟨rfl,_,rfl,by decide,by decide⟩) (λa1 F1 m1 hk=>?_) λb12 G12 h12=>?_
 ·refine e1a (v:=(.int .u32 a.way)) (f:=67) (l:=68) (i:=7) (off:=53) (g:=g) (tail:=_) (gi:=63) (m:=66) rfl ⟨rfl,rfl,rfl⟩ ⟨rfl,rfl,rfl⟩ (by decide) (e1b g) (q1a c_way _ Tryz.underlying23 rfl) a1 F1 m1 λa2 F2 m2 e2=>?_
  refine S0a (l:=0) (e:=69) (u:=.bool z_way) (gi:=63) (m:=66) rfl ⟨rfl,rfl⟩ (by decide) a2 F2 m2 (by have e':=M0a e2;go_simp) λa4 F4 m4 e4 _=>?_
  exact hk a4 F4 m4 e4
 clear G11 h11;refine chain (gi:=68) (p:=70) (m:=71) (e:=74) (q:=75) (t:=z_opt) (mids:=[_,_,_]) rfl ⟨rfl,rfl,rfl⟩ ⟨rfl,rfl,rfl⟩ (by decide) G12 h12 (by
  intro o ho;simp only[List.mem_cons,List.not_mem_nil,or_false] at ho;rcases ho with rfl | rfl | rfl
  all_goals exact⟨rfl,_,rfl,by decide,by decide⟩) (λa1 F1 m1 hk=>?_) λb13 G13 h13=>?_
 ·refine e1a (v:=(.int .u32 a.opt)) (f:=72) (l:=73) (i:=8) (off:=54) (g:=g) (tail:=_) (gi:=68) (m:=71) rfl ⟨rfl,rfl,rfl⟩ ⟨rfl,rfl,rfl⟩ (by decide) (f1b g) (q1a c_opt _ Tryz.underlying23 rfl) a1 F1 m1 λa2 F2 m2 e2=>?_
  refine S0a (l:=0) (e:=74) (u:=.bool z_opt) (gi:=68) (m:=71) rfl ⟨rfl,rfl⟩ (by decide) a2 F2 m2 (by have e':=M0a e2;go_simp) λa4 F4 m4 e4 _=>?_
  exact hk a4 F4 m4 e4
 clear G12 h12;refine chain (gi:=73) (p:=75) (m:=76) (e:=79) (q:=80) (t:=z_lev) (mids:=[_,_,_]) rfl ⟨rfl,rfl,rfl⟩ ⟨rfl,rfl,rfl⟩ (by decide) G13 h13 (by
  intro o ho;simp only[List.mem_cons,List.not_mem_nil,or_false] at ho;rcases ho with rfl | rfl | rfl
  all_goals exact⟨rfl,_,rfl,by decide,by decide⟩) (λa1 F1 m1 hk=>?_) λb14 G14 h14=>?_
 ·refine e1a (v:=(.int .u8 a.lev)) (f:=77) (l:=78) (i:=9) (off:=55) (g:=g) (tail:=_) (gi:=73) (m:=76) rfl ⟨rfl,rfl,rfl⟩ ⟨rfl,rfl,rfl⟩ (by decide) (W6a g) (q1a c_lev _ Tryz.underlying5 rfl) a1 F1 m1 λa2 F2 m2 e2=>?_
  refine S0a (l:=0) (e:=79) (u:=.bool z_lev) (gi:=73) (m:=76) rfl ⟨rfl,rfl⟩ (by decide) a2 F2 m2 (by have e':=M0a e2;go_simp) λa4 F4 m4 e4 _=>?_
  exact hk a4 F4 m4 e4
 clear G13 h13;refine chain (gi:=78) (p:=80) (m:=81) (e:=84) (q:=85) (t:=z_dur) (mids:=[_,_,_]) rfl ⟨rfl,rfl,rfl⟩ ⟨rfl,rfl,rfl⟩ (by decide) G14 h14 (by
  intro o ho;simp only[List.mem_cons,List.not_mem_nil,or_false] at ho;rcases ho with rfl | rfl | rfl
  all_goals exact⟨rfl,_,rfl,by decide,by decide⟩) (λa1 F1 m1 hk=>?_) λb15 G15 h15=>?_
 ·refine e1a (v:=(.int .u8 a.dur)) (f:=82) (l:=83) (i:=10) (off:=56) (g:=g) (tail:=_) (gi:=78) (m:=81) rfl ⟨rfl,rfl,rfl⟩ ⟨rfl,rfl,rfl⟩ (by decide) (C6a g) (q1a c_dur _ Tryz.underlying5 rfl) a1 F1 m1 λa2 F2 m2 e2=>?_
  refine S0a (l:=0) (e:=84) (u:=.bool z_dur) (gi:=78) (m:=81) rfl ⟨rfl,rfl⟩ (by decide) a2 F2 m2 (by have e':=M0a e2;go_simp) λa4 F4 m4 e4 _=>?_
  exact hk a4 F4 m4 e4
 clear G14 h14;refine chain (gi:=83) (p:=85) (m:=86) (e:=89) (q:=90) (t:=z_file) (mids:=[_,_,_]) rfl ⟨rfl,rfl,rfl⟩ ⟨rfl,rfl,rfl⟩ (by decide) G15 h15 (by
  intro o ho;simp only[List.mem_cons,List.not_mem_nil,or_false] at ho;rcases ho with rfl | rfl | rfl
  all_goals exact⟨rfl,_,rfl,by decide,by decide⟩) (λa1 F1 m1 hk=>?_) λb16 G16 h16=>?_
 ·refine e1a (v:=(.int .u64 a.file)) (f:=87) (l:=88) (i:=11) (off:=57) (g:=g) (tail:=_) (gi:=83) (m:=86) rfl ⟨rfl,rfl,rfl⟩ ⟨rfl,rfl,rfl⟩ (by decide) (a0b g) (q1a c_file _ Tryz.underlying25 rfl) a1 F1 m1 λa2 F2 m2 e2=>?_
  refine S0a (l:=0) (e:=89) (u:=.bool z_file) (gi:=83) (m:=86) rfl ⟨rfl,rfl⟩ (by decide) a2 F2 m2 (by have e':=M0a e2;go_simp) λa4 F4 m4 e4 _=>?_
  exact hk a4 F4 m4 e4
 clear G15 h15;refine chain (gi:=88) (p:=90) (m:=91) (e:=94) (q:=95) (t:=z_at_) (mids:=[_,_,_]) rfl ⟨rfl,rfl,rfl⟩ ⟨rfl,rfl,rfl⟩ (by decide) G16 h16 (by
  intro o ho;simp only[List.mem_cons,List.not_mem_nil,or_false] at ho;rcases ho with rfl | rfl | rfl
  all_goals exact⟨rfl,_,rfl,by decide,by decide⟩) (λa1 F1 m1 hk=>?_) λb17 G17 h17=>?_
 ·refine e1a (v:=(.int .u64 a.at_)) (f:=92) (l:=93) (i:=13) (off:=59) (g:=g) (tail:=_) (gi:=88) (m:=91) rfl ⟨rfl,rfl,rfl⟩ ⟨rfl,rfl,rfl⟩ (by decide) (K4a g) (q1a c_at_ _ Tryz.underlying25 rfl) a1 F1 m1 λa2 F2 m2 e2=>?_
  refine S0a (l:=0) (e:=94) (u:=.bool z_at_) (gi:=88) (m:=91) rfl ⟨rfl,rfl⟩ (by decide) a2 F2 m2 (by have e':=M0a e2;go_simp) λa4 F4 m4 e4 _=>?_
  exact hk a4 F4 m4 e4
 clear G16 h16;refine chain (gi:=93) (p:=95) (m:=96) (e:=99) (q:=100) (t:=z_n) (mids:=[_,_,_]) rfl ⟨rfl,rfl,rfl⟩ ⟨rfl,rfl,rfl⟩ (by decide) G17 h17 (by
  intro o ho;simp only[List.mem_cons,List.not_mem_nil,or_false] at ho;rcases ho with rfl | rfl | rfl
  all_goals exact⟨rfl,_,rfl,by decide,by decide⟩) (λa1 F1 m1 hk=>?_) λb18 G18 h18=>?_
 ·refine e1a (v:=(.int .u32 a.n)) (f:=97) (l:=98) (i:=14) (off:=60) (g:=g) (tail:=_) (gi:=93) (m:=96) rfl ⟨rfl,rfl,rfl⟩ ⟨rfl,rfl,rfl⟩ (by decide) (D6a g) (q1a c_n _ Tryz.underlying23 rfl) a1 F1 m1 λa2 F2 m2 e2=>?_
  refine S0a (l:=0) (e:=99) (u:=.bool z_n) (gi:=93) (m:=96) rfl ⟨rfl,rfl⟩ (by decide) a2 F2 m2 (by have e':=M0a e2;go_simp) λa4 F4 m4 e4 _=>?_
  exact hk a4 F4 m4 e4
 clear G17 h17;refine chain (gi:=98) (p:=100) (m:=101) (e:=104) (q:=105) (t:=z_most) (mids:=[_,_,_]) rfl ⟨rfl,rfl,rfl⟩ ⟨rfl,rfl,rfl⟩ (by decide) G18 h18 (by
  intro o ho;simp only[List.mem_cons,List.not_mem_nil,or_false] at ho;rcases ho with rfl | rfl | rfl
  all_goals exact⟨rfl,_,rfl,by decide,by decide⟩) (λa1 F1 m1 hk=>?_) λb19 G19 h19=>?_
 ·refine e1a (v:=(.int .u16 a.most)) (f:=102) (l:=103) (i:=17) (off:=63) (g:=g) (tail:=_) (gi:=98) (m:=101) rfl ⟨rfl,rfl,rfl⟩ ⟨rfl,rfl,rfl⟩ (by decide) (d0b g) (q1a c_most _ Tryz.underlying22 rfl) a1 F1 m1 λa2 F2 m2 e2=>?_
  refine S0a (l:=0) (e:=104) (u:=.bool z_most) (gi:=98) (m:=101) rfl ⟨rfl,rfl⟩ (by decide) a2 F2 m2 (by have e':=M0a e2;go_simp) λa4 F4 m4 e4 _=>?_
  exact hk a4 F4 m4 e4
 clear G18 h18;refine chain (gi:=103) (p:=105) (m:=106) (e:=109) (q:=110) (t:=z_cls) (mids:=[_,_,_]) rfl ⟨rfl,rfl,rfl⟩ ⟨rfl,rfl,rfl⟩ (by decide) G19 h19 (by
  intro o ho;simp only[List.mem_cons,List.not_mem_nil,or_false] at ho;rcases ho with rfl | rfl | rfl
  all_goals exact⟨rfl,_,rfl,by decide,by decide⟩) (λa1 F1 m1 hk=>?_) λb20 G20 h20=>?_
 ·refine e1a (v:=(.int .u16 a.cls)) (f:=107) (l:=108) (i:=20) (off:=66) (g:=g) (tail:=_) (gi:=103) (m:=106) rfl ⟨rfl,rfl,rfl⟩ ⟨rfl,rfl,rfl⟩ (by decide) (g0b g) (q1a c_cls _ Tryz.underlying22 rfl) a1 F1 m1 λa2 F2 m2 e2=>?_
  refine S0a (l:=0) (e:=109) (u:=.bool z_cls) (gi:=103) (m:=106) rfl ⟨rfl,rfl⟩ (by decide) a2 F2 m2 (by have e':=M0a e2;go_simp) λa4 F4 m4 e4 _=>?_
  exact hk a4 F4 m4 e4
 clear G19 h19;refine chain (gi:=108) (p:=110) (m:=111) (e:=114) (q:=115) (t:=z_siz) (mids:=[_,_,_]) rfl ⟨rfl,rfl,rfl⟩ ⟨rfl,rfl,rfl⟩ (by decide) G20 h20 (by
  intro o ho;simp only[List.mem_cons,List.not_mem_nil,or_false] at ho;rcases ho with rfl | rfl | rfl
  all_goals exact⟨rfl,_,rfl,by decide,by decide⟩) (λa1 F1 m1 hk=>?_) λb21 G21 h21=>?_
 ·refine e1a (v:=(.int .u64 a.siz)) (f:=112) (l:=113) (i:=21) (off:=67) (g:=g) (tail:=_) (gi:=108) (m:=111) rfl ⟨rfl,rfl,rfl⟩ ⟨rfl,rfl,rfl⟩ (by decide) (h0b g) (q1a c_siz _ Tryz.underlying25 rfl) a1 F1 m1 λa2 F2 m2 e2=>?_
  refine S0a (l:=0) (e:=114) (u:=.bool z_siz) (gi:=108) (m:=111) rfl ⟨rfl,rfl⟩ (by decide) a2 F2 m2 (by have e':=M0a e2;go_simp) λa4 F4 m4 e4 _=>?_
  exact hk a4 F4 m4 e4
 clear G20 h20;refine chain (gi:=113) (p:=115) (m:=116) (e:=119) (q:=120) (t:=z_on) (mids:=[_,_,_]) rfl ⟨rfl,rfl,rfl⟩ ⟨rfl,rfl,rfl⟩ (by decide) G21 h21 (by
  intro o ho;simp only[List.mem_cons,List.not_mem_nil,or_false] at ho;rcases ho with rfl | rfl | rfl
  all_goals exact⟨rfl,_,rfl,by decide,by decide⟩) (λa1 F1 m1 hk=>?_) λb22 G22 h22=>?_
 ·refine e1a (v:=(.bool a.on)) (f:=117) (l:=118) (i:=22) (off:=68) (g:=g) (tail:=_) (gi:=113) (m:=116) rfl ⟨rfl,rfl,rfl⟩ ⟨rfl,rfl,rfl⟩ (by decide) (i0b g) (q1a c_on _ Tryz.underlying4 rfl) a1 F1 m1 λa2 F2 m2 e2=>?_
  refine S0a (l:=0) (e:=119) (u:=.bool z_on) (gi:=113) (m:=116) rfl ⟨rfl,rfl⟩ (by decide) a2 F2 m2 (by have e':=M0a e2;go_simp) λa4 F4 m4 e4 _=>?_
  exact hk a4 F4 m4 e4
 clear G21 h21;have HT1:=HT.out;rw[HT1] at h22;refine O1a (v:=.bool r) (V6a (by simp[Region.wanted]) (.tmp 120) rfl _ h22) ?_;refine wpList_nil (hret _ _ (wp_ret ?_));have F9:=G22.put (d:=2) (v:=.bool r) (by decide);refine bodyPost_ret (results_tmp rfl _ _ _) F9.df ?_;refine⟨?_,L1.out⟩;have e9:(b22.put (some 2) (.bool r)).eval (.tmp 2)=.bool r:=y4a (by rw[G22.size];decide);exact congrArg Ending.returned e9
theorem h3b(w:World)(cs:List Value)(a:M1a)(ka:a.ok)(ha:n1a w w.heap.size cs a) :
  Calls Tryz.prog 117 #[.agg cs.toArray] w λe w'=>e=.returned (.bool (decide (a=q0a)))/\Below w.heap.size w w':=by
 have HL:=hI (ha.len ka);obtain⟨X1,X2,X3,E1,E2,E3,rfl,h_X,h_E⟩:=ha;have l_X:=h_X.len;have l_E:=h_E.len;have HT:Hid ((((((((((((((a.data.length==0)&&(a.ents.length==0))&&(decide (a.chal=List.replicate 8 0)))&&(a.dia==0))&&(a.siz==0))&&(a.lev==0))&&(a.dur==0))&&(a.made==0))&&(a.file==0))&&(a.kind==0))&&(a.n==0))&&(!a.more))&&(!a.gone))=decide (a=q0a)):=by
  show _=_
  rw[Bool.eq_iff_iff,decide_eq_true_iff,c5b];simp only[Bool.and_eq_true,beq_iff_eq,decide_eq_true_iff,Bool.not_eq_true',List.length_eq_zero_iff,and_assoc]
 have FA:Hid (∀(w:World) (g:Nat),Blk w g 39 (r0a (.slice X1 X2 X3) (.slice E1 E2 E3) a)->w.cell? ⟨g,0,none⟩=some (.int .u16 a.dia)/\w.cell? ⟨g,1,none⟩=some (.int .u64 a.siz)/\w.cell? ⟨g,10,none⟩=some (.int .u8 a.lev)/\w.cell? ⟨g,11,none⟩=some (.int .u8 a.dur)/\w.cell? ⟨g,12,none⟩=some (.int .u16 a.made)/\w.cell? ⟨g,13,none⟩=some (.int .u64 a.file)/\w.cell? ⟨g,14,none⟩=some (.int .u8 a.kind)/\w.cell? ⟨g,15,none⟩=some (.slice X1 X2 X3)/\w.cell? ⟨g,16,none⟩=some (.int .u32 a.n)/\w.cell? ⟨g,17,none⟩=some (.slice E1 E2 E3)/\w.cell? ⟨g,18,none⟩=some (.bool a.more)/\w.cell? ⟨g,19,none⟩=some (.bool a.gone)):=λw g h=>⟨h.at rfl,h.at rfl,h.at (B0a ka 0),h.at (B0a ka 1),h.at (B0a ka 2),h.at (B0a ka 3),h.at (B0a ka 4),h.at (B0a ka 5),h.at (B0a ka 6),h.at (B0a ka 7),h.at (B0a ka 8),h.at (B0a ka 9)⟩
 have R_chal:Hid (∀(w:World) (g:Nat),Blk w g 39 (r0a (.slice X1 X2 X3) (.slice E1 E2 E3) a)->w.rangeAt g 2 (a.chal.map (Value.int .u8))):=λw g h=>n6a h ka
 have N_chal:Hid ((a.chal.map (Value.int .u8)).length=8):=by show _=_;rw[List.length_map];exact ka.clen
 have q_chal:∀w:World,(Op.equalIn 10000 35 (.agg (a.chal.map (Value.int .u8)).toArray) (.agg ((List.replicate 8 (0:Int)).map (Value.int .u8)).toArray)).run Tryz.prog w=.ok (decide (a.chal=List.replicate 8 0)) w:=λw=>n2a Tryz.underlying35 Tryz.underlying5 L7a _ _ ka.clen (by simp) _ w
 obtain⟨z_data,k_data⟩:∃z,(a.data.length==0)=z:=⟨_,rfl⟩;obtain⟨z_ents,k_ents⟩:∃z,(a.ents.length==0)=z:=⟨_,rfl⟩;obtain⟨z_chal,k_chal⟩:∃z,(decide (a.chal=List.replicate 8 0))=z:=⟨_,rfl⟩;obtain⟨z_dia,k_dia⟩:∃z,(a.dia==0)=z:=⟨_,rfl⟩;obtain⟨z_siz,k_siz⟩:∃z,(a.siz==0)=z:=⟨_,rfl⟩;obtain⟨z_lev,k_lev⟩:∃z,(a.lev==0)=z:=⟨_,rfl⟩;obtain⟨z_dur,k_dur⟩:∃z,(a.dur==0)=z:=⟨_,rfl⟩;obtain⟨z_made,k_made⟩:∃z,(a.made==0)=z:=⟨_,rfl⟩;obtain⟨z_file,k_file⟩:∃z,(a.file==0)=z:=⟨_,rfl⟩;obtain⟨z_kind,k_kind⟩:∃z,(a.kind==0)=z:=⟨_,rfl⟩;obtain⟨z_n,k_n⟩:∃z,(a.n==0)=z:=⟨_,rfl⟩;obtain⟨z_more,k_more⟩:∃z,(!a.more)=z:=⟨_,rfl⟩;obtain⟨z_gone,k_gone⟩:∃z,(!a.gone)=z:=⟨_,rfl⟩;rw[k_data,k_ents,k_chal,k_dia,k_siz,k_lev,k_dur,k_made,k_file,k_kind,k_n,k_more,k_gone] at HT;rw[l_X] at k_data;have kk_data:((X2:Int)==0)=z_data:=by rw[<-k_data];rw[Bool.eq_iff_iff];simp
 rw[l_E] at k_ents;have kk_ents:((E2:Int)==0)=z_ents:=by rw[<-k_ents];rw[Bool.eq_iff_iff];simp
 rw[k_chal] at q_chal;obtain⟨y_chal,hy⟩:∃y,y=((List.replicate 8 (0:Int)).map (Value.int .u8)).toArray:=⟨_,rfl⟩;rw[<-hy] at q_chal;have bt_chal:Tryz.prog.built 35 []=some y_chal:=by rw[hy];exact r2b
 clear hy;obtain⟨r,hr⟩:∃r,r=decide (a=q0a):=⟨_,rfl⟩;rw[<-hr] at HT⊢;obtain⟨cs,hcs⟩:∃c,c=r0a (.slice X1 X2 X3) (.slice E1 E2 E3) a:=⟨_,rfl⟩;rw[<-hcs] at FA HL R_chal⊢;clear hr hcs h_X h_E;go_enter Tryz.func117,Tryz.ntmps117;go_upto_region 1 with(first
  | ((with_reducible refine sN 1 ?_);refine f0a rfl _ (.tmp 0) rfl cs rfl ?_;intro g w1 hg1 hg2 K1 L1)
  | fail)
 rename_i hret;simp only[List.append_eq,List.cons_append,List.nil_append];refine wp_region_lit ?_;have HK:=K1;obtain⟨c_dia,c_siz,c_lev,c_dur,c_made,c_file,c_kind,c_data,c_n,c_ents,c_more,c_gone⟩:=FA.out _ _ K1.out;have r_chal:=R_chal.out _ _ K1.out;refine p2b (N:=69) (x0:=1) (pv:=.pointer (some ⟨g,0,none⟩)) ⟨rfl,rfl,rfl⟩ λa0 F0=>?_
 refine T3b (v:=(.slice X1 X2 X3)) (f:=3) (l:=4) (i:=8) (off:=15) (g:=g) ⟨rfl,rfl,rfl⟩ ⟨rfl,rfl,rfl⟩ (by decide) (f5a g) (q1a c_data _ Tryz.underlying31 rfl) a0 F0 λa1 F1 e1=>?_
 refine E8a (e:=5) (u:=.int .i64 (X2:Int)) ⟨rfl,rfl⟩ (by decide) a1 F1 (by have e':=M0a e1;go_simp) λa2 F2 e2=>?_
 refine E8a (e:=6) (u:=.bool z_data) ⟨rfl,rfl⟩ (by decide) a2 F2 (by have e':=M0a e2;go_simp) λb0 G0 h0=>?_
 clear F0 F1 F2 e1 e2;refine chain (gi:=4) (p:=6) (m:=7) (e:=11) (q:=12) (t:=z_ents) (mids:=[_,_,_,_]) rfl ⟨rfl,rfl,rfl⟩ ⟨rfl,rfl,rfl⟩ (by decide) G0 h0 (by
  intro o ho;simp only[List.mem_cons,List.not_mem_nil,or_false] at ho;rcases ho with rfl | rfl | rfl | rfl
  all_goals exact⟨rfl,_,rfl,by decide,by decide⟩) (λa1 F1 m1 hk=>?_) λb1 G1 h1=>?_
 ·refine e1a (v:=(.slice E1 E2 E3)) (f:=8) (l:=9) (i:=10) (off:=17) (g:=g) (tail:=_) (gi:=4) (m:=7) rfl ⟨rfl,rfl,rfl⟩ ⟨rfl,rfl,rfl⟩ (by decide) (j0b g) (q1a c_ents _ Tryz.underlying37 rfl) a1 F1 m1 λa2 F2 m2 e2=>?_
  refine S0a (l:=0) (e:=10) (u:=.int .i64 (E2:Int)) (gi:=4) (m:=7) rfl ⟨rfl,rfl⟩ (by decide) a2 F2 m2 (by have e':=M0a e2;go_simp) λa3 F3 m3 e3 _=>?_
  refine S0a (l:=0) (e:=11) (u:=.bool z_ents) (gi:=4) (m:=7) rfl ⟨rfl,rfl⟩ (by decide) a3 F3 m3 (by have e':=M0a e3;go_simp) λa4 F4 m4 e4 _=>?_
  exact hk a4 F4 m4 e4
 refine chain (gi:=10) (p:=12) (m:=13) (e:=17) (q:=18) (t:=z_chal) (mids:=[_,_,_,_]) rfl ⟨rfl,rfl,rfl⟩ ⟨rfl,rfl,rfl⟩ (by decide) G1 h1 (by
  intro o ho;simp only[List.mem_cons,List.not_mem_nil,or_false] at ho;rcases ho with rfl | rfl | rfl | rfl
  all_goals exact⟨rfl,_,rfl,by decide,by decide⟩) (λa1 F1 m1 hk=>?_) λb2 G2 h2=>?_
 ·refine e1a (v:=(.agg (a.chal.map (Value.int .u8)).toArray)) (f:=14) (l:=15) (i:=2) (off:=2) (g:=g) (tail:=_) (gi:=10) (m:=13) rfl ⟨rfl,rfl,rfl⟩ ⟨rfl,rfl,rfl⟩ (by decide) (Z6a g) (f7a r_chal Tryz.underlying35 rfl (by rw[B4a,N_chal.out])) a1 F1 m1 λa2 F2 m2 e2=>?_
  refine S0a (l:=0) (e:=16) (u:=.agg y_chal) (gi:=10) (m:=13) rfl ⟨rfl,rfl⟩ (by decide) a2 F2 m2 (h1b rfl bt_chal) λa3 F3 m3 e3 o3=>?_
  have e2':=(o3 15 (by decide)).trans e2;refine S0a (l:=0) (e:=17) (u:=.bool z_chal) (gi:=10) (m:=13) rfl ⟨rfl,rfl⟩ (by decide) a3 F3 m3 (by have e':=M0a e2';have e'':=M0a e3;have qg:=o2b;go_simp) λa4 F4 m4 e4 _=>?_
  exact hk a4 F4 m4 e4
 clear G1 h1;refine chain (gi:=16) (p:=18) (m:=19) (e:=22) (q:=23) (t:=z_dia) (mids:=[_,_,_]) rfl ⟨rfl,rfl,rfl⟩ ⟨rfl,rfl,rfl⟩ (by decide) G2 h2 (by
  intro o ho;simp only[List.mem_cons,List.not_mem_nil,or_false] at ho;rcases ho with rfl | rfl | rfl
  all_goals exact⟨rfl,_,rfl,by decide,by decide⟩) (λa1 F1 m1 hk=>?_) λb3 G3 h3=>?_
 ·refine e1a (v:=(.int .u16 a.dia)) (f:=20) (l:=21) (i:=0) (off:=0) (g:=g) (tail:=_) (gi:=16) (m:=19) rfl ⟨rfl,rfl,rfl⟩ ⟨rfl,rfl,rfl⟩ (by decide) (X6a g) (q1a c_dia _ Tryz.underlying22 rfl) a1 F1 m1 λa2 F2 m2 e2=>?_
  refine S0a (l:=0) (e:=22) (u:=.bool z_dia) (gi:=16) (m:=19) rfl ⟨rfl,rfl⟩ (by decide) a2 F2 m2 (by have e':=M0a e2;go_simp) λa4 F4 m4 e4 _=>?_
  exact hk a4 F4 m4 e4
 clear G2 h2;refine chain (gi:=21) (p:=23) (m:=24) (e:=27) (q:=28) (t:=z_siz) (mids:=[_,_,_]) rfl ⟨rfl,rfl,rfl⟩ ⟨rfl,rfl,rfl⟩ (by decide) G3 h3 (by
  intro o ho;simp only[List.mem_cons,List.not_mem_nil,or_false] at ho;rcases ho with rfl | rfl | rfl
  all_goals exact⟨rfl,_,rfl,by decide,by decide⟩) (λa1 F1 m1 hk=>?_) λb4 G4 h4=>?_
 ·refine e1a (v:=(.int .u64 a.siz)) (f:=25) (l:=26) (i:=1) (off:=1) (g:=g) (tail:=_) (gi:=21) (m:=24) rfl ⟨rfl,rfl,rfl⟩ ⟨rfl,rfl,rfl⟩ (by decide) (Y6a g) (q1a c_siz _ Tryz.underlying25 rfl) a1 F1 m1 λa2 F2 m2 e2=>?_
  refine S0a (l:=0) (e:=27) (u:=.bool z_siz) (gi:=21) (m:=24) rfl ⟨rfl,rfl⟩ (by decide) a2 F2 m2 (by have e':=M0a e2;go_simp) λa4 F4 m4 e4 _=>?_
  exact hk a4 F4 m4 e4
 clear G3 h3;refine chain (gi:=26) (p:=28) (m:=29) (e:=32) (q:=33) (t:=z_lev) (mids:=[_,_,_]) rfl ⟨rfl,rfl,rfl⟩ ⟨rfl,rfl,rfl⟩ (by decide) G4 h4 (by
  intro o ho;simp only[List.mem_cons,List.not_mem_nil,or_false] at ho;rcases ho with rfl | rfl | rfl
  all_goals exact⟨rfl,_,rfl,by decide,by decide⟩) (λa1 F1 m1 hk=>?_) λb5 G5 h5=>?_
 ·refine e1a (v:=(.int .u8 a.lev)) (f:=30) (l:=31) (i:=3) (off:=10) (g:=g) (tail:=_) (gi:=26) (m:=29) rfl ⟨rfl,rfl,rfl⟩ ⟨rfl,rfl,rfl⟩ (by decide) (a7a g) (q1a c_lev _ Tryz.underlying5 rfl) a1 F1 m1 λa2 F2 m2 e2=>?_
  refine S0a (l:=0) (e:=32) (u:=.bool z_lev) (gi:=26) (m:=29) rfl ⟨rfl,rfl⟩ (by decide) a2 F2 m2 (by have e':=M0a e2;go_simp) λa4 F4 m4 e4 _=>?_
  exact hk a4 F4 m4 e4
 clear G4 h4;refine chain (gi:=31) (p:=33) (m:=34) (e:=37) (q:=38) (t:=z_dur) (mids:=[_,_,_]) rfl ⟨rfl,rfl,rfl⟩ ⟨rfl,rfl,rfl⟩ (by decide) G5 h5 (by
  intro o ho;simp only[List.mem_cons,List.not_mem_nil,or_false] at ho;rcases ho with rfl | rfl | rfl
  all_goals exact⟨rfl,_,rfl,by decide,by decide⟩) (λa1 F1 m1 hk=>?_) λb6 G6 h6=>?_
 ·refine e1a (v:=(.int .u8 a.dur)) (f:=35) (l:=36) (i:=4) (off:=11) (g:=g) (tail:=_) (gi:=31) (m:=34) rfl ⟨rfl,rfl,rfl⟩ ⟨rfl,rfl,rfl⟩ (by decide) (b7a g) (q1a c_dur _ Tryz.underlying5 rfl) a1 F1 m1 λa2 F2 m2 e2=>?_
  refine S0a (l:=0) (e:=37) (u:=.bool z_dur) (gi:=31) (m:=34) rfl ⟨rfl,rfl⟩ (by decide) a2 F2 m2 (by have e':=M0a e2;go_simp) λa4 F4 m4 e4 _=>?_
  exact hk a4 F4 m4 e4
 clear G5 h5;refine chain (gi:=36) (p:=38) (m:=39) (e:=42) (q:=43) (t:=z_made) (mids:=[_,_,_]) rfl ⟨rfl,rfl,rfl⟩ ⟨rfl,rfl,rfl⟩ (by decide) G6 h6 (by
  intro o ho;simp only[List.mem_cons,List.not_mem_nil,or_false] at ho;rcases ho with rfl | rfl | rfl
  all_goals exact⟨rfl,_,rfl,by decide,by decide⟩) (λa1 F1 m1 hk=>?_) λb7 G7 h7=>?_
 ·refine e1a (v:=(.int .u16 a.made)) (f:=40) (l:=41) (i:=5) (off:=12) (g:=g) (tail:=_) (gi:=36) (m:=39) rfl ⟨rfl,rfl,rfl⟩ ⟨rfl,rfl,rfl⟩ (by decide) (c7a g) (q1a c_made _ Tryz.underlying22 rfl) a1 F1 m1 λa2 F2 m2 e2=>?_
  refine S0a (l:=0) (e:=42) (u:=.bool z_made) (gi:=36) (m:=39) rfl ⟨rfl,rfl⟩ (by decide) a2 F2 m2 (by have e':=M0a e2;go_simp) λa4 F4 m4 e4 _=>?_
  exact hk a4 F4 m4 e4
 clear G6 h6;refine chain (gi:=41) (p:=43) (m:=44) (e:=47) (q:=48) (t:=z_file) (mids:=[_,_,_]) rfl ⟨rfl,rfl,rfl⟩ ⟨rfl,rfl,rfl⟩ (by decide) G7 h7 (by
  intro o ho;simp only[List.mem_cons,List.not_mem_nil,or_false] at ho;rcases ho with rfl | rfl | rfl
  all_goals exact⟨rfl,_,rfl,by decide,by decide⟩) (λa1 F1 m1 hk=>?_) λb8 G8 h8=>?_
 ·refine e1a (v:=(.int .u64 a.file)) (f:=45) (l:=46) (i:=6) (off:=13) (g:=g) (tail:=_) (gi:=41) (m:=44) rfl ⟨rfl,rfl,rfl⟩ ⟨rfl,rfl,rfl⟩ (by decide) (d7a g) (q1a c_file _ Tryz.underlying25 rfl) a1 F1 m1 λa2 F2 m2 e2=>?_
  refine S0a (l:=0) (e:=47) (u:=.bool z_file) (gi:=41) (m:=44) rfl ⟨rfl,rfl⟩ (by decide) a2 F2 m2 (by have e':=M0a e2;go_simp) λa4 F4 m4 e4 _=>?_
  exact hk a4 F4 m4 e4
 clear G7 h7;refine chain (gi:=46) (p:=48) (m:=49) (e:=52) (q:=53) (t:=z_kind) (mids:=[_,_,_]) rfl ⟨rfl,rfl,rfl⟩ ⟨rfl,rfl,rfl⟩ (by decide) G8 h8 (by
  intro o ho;simp only[List.mem_cons,List.not_mem_nil,or_false] at ho;rcases ho with rfl | rfl | rfl
  all_goals exact⟨rfl,_,rfl,by decide,by decide⟩) (λa1 F1 m1 hk=>?_) λb9 G9 h9=>?_
 ·refine e1a (v:=(.int .u8 a.kind)) (f:=50) (l:=51) (i:=7) (off:=14) (g:=g) (tail:=_) (gi:=46) (m:=49) rfl ⟨rfl,rfl,rfl⟩ ⟨rfl,rfl,rfl⟩ (by decide) (e7a g) (q1a c_kind _ Tryz.underlying36 rfl) a1 F1 m1 λa2 F2 m2 e2=>?_
  refine S0a (l:=0) (e:=52) (u:=.bool z_kind) (gi:=46) (m:=49) rfl ⟨rfl,rfl⟩ (by decide) a2 F2 m2 (by have e':=M0a e2;go_simp) λa4 F4 m4 e4 _=>?_
  exact hk a4 F4 m4 e4
 clear G8 h8;refine chain (gi:=51) (p:=53) (m:=54) (e:=57) (q:=58) (t:=z_n) (mids:=[_,_,_]) rfl ⟨rfl,rfl,rfl⟩ ⟨rfl,rfl,rfl⟩ (by decide) G9 h9 (by
  intro o ho;simp only[List.mem_cons,List.not_mem_nil,or_false] at ho;rcases ho with rfl | rfl | rfl
  all_goals exact⟨rfl,_,rfl,by decide,by decide⟩) (λa1 F1 m1 hk=>?_) λb10 G10 h10=>?_
 ·refine e1a (v:=(.int .u32 a.n)) (f:=55) (l:=56) (i:=9) (off:=16) (g:=g) (tail:=_) (gi:=51) (m:=54) rfl ⟨rfl,rfl,rfl⟩ ⟨rfl,rfl,rfl⟩ (by decide) (g1b g) (q1a c_n _ Tryz.underlying23 rfl) a1 F1 m1 λa2 F2 m2 e2=>?_
  refine S0a (l:=0) (e:=57) (u:=.bool z_n) (gi:=51) (m:=54) rfl ⟨rfl,rfl⟩ (by decide) a2 F2 m2 (by have e':=M0a e2;go_simp) λa4 F4 m4 e4 _=>?_
  exact hk a4 F4 m4 e4
 clear G9 h9;refine chain (gi:=56) (p:=58) (m:=59) (e:=62) (q:=63) (t:=z_more) (mids:=[_,_,_]) rfl ⟨rfl,rfl,rfl⟩ ⟨rfl,rfl,rfl⟩ (by decide) G10 h10 (by
  intro o ho;simp only[List.mem_cons,List.not_mem_nil,or_false] at ho;rcases ho with rfl | rfl | rfl
  all_goals exact⟨rfl,_,rfl,by decide,by decide⟩) (λa1 F1 m1 hk=>?_) λb11 G11 h11=>?_
 ·refine e1a (v:=(.bool a.more)) (f:=60) (l:=61) (i:=11) (off:=18) (g:=g) (tail:=_) (gi:=56) (m:=59) rfl ⟨rfl,rfl,rfl⟩ ⟨rfl,rfl,rfl⟩ (by decide) (k0b g) (q1a c_more _ Tryz.underlying4 rfl) a1 F1 m1 λa2 F2 m2 e2=>?_
  refine S0a (l:=0) (e:=62) (u:=.bool z_more) (gi:=56) (m:=59) rfl ⟨rfl,rfl⟩ (by decide) a2 F2 m2 (by have e':=M0a e2;go_simp) λa4 F4 m4 e4 _=>?_
  exact hk a4 F4 m4 e4
 clear G10 h10;refine chain (gi:=61) (p:=63) (m:=64) (e:=67) (q:=68) (t:=z_gone) (mids:=[_,_,_]) rfl ⟨rfl,rfl,rfl⟩ ⟨rfl,rfl,rfl⟩ (by decide) G11 h11 (by
  intro o ho;simp only[List.mem_cons,List.not_mem_nil,or_false] at ho;rcases ho with rfl | rfl | rfl
  all_goals exact⟨rfl,_,rfl,by decide,by decide⟩) (λa1 F1 m1 hk=>?_) λb12 G12 h12=>?_
 ·refine e1a (v:=(.bool a.gone)) (f:=65) (l:=66) (i:=12) (off:=19) (g:=g) (tail:=_) (gi:=61) (m:=64) rfl ⟨rfl,rfl,rfl⟩ ⟨rfl,rfl,rfl⟩ (by decide) (l0b g) (q1a c_gone _ Tryz.underlying4 rfl) a1 F1 m1 λa2 F2 m2 e2=>?_
  refine S0a (l:=0) (e:=67) (u:=.bool z_gone) (gi:=61) (m:=64) rfl ⟨rfl,rfl⟩ (by decide) a2 F2 m2 (by have e':=M0a e2;go_simp) λa4 F4 m4 e4 _=>?_
  exact hk a4 F4 m4 e4
 clear G11 h11;have HT1:=HT.out;rw[HT1] at h12;refine O1a (v:=.bool r) (V6a (by simp[Region.wanted]) (.tmp 68) rfl _ h12) ?_;refine wpList_nil (hret _ _ (wp_ret ?_));have F9:=G12.put (d:=2) (v:=.bool r) (by decide);refine bodyPost_ret (results_tmp rfl _ _ _) F9.df ?_;refine⟨?_,L1.out⟩;have e9:(b12.put (some 2) (.bool r)).eval (.tmp 2)=.bool r:=y4a (by rw[G12.size];decide);exact congrArg Ending.returned e9
theorem World.setCells_only(g:Nat):∀(vs:List Value) (o:Nat) (w:World),T1a g w (w.setCells g o vs)
 | [],_,w=>T1a.refl g w
 | v::r,o,w=>by have h1:=g1a w g o v;have h2:=World.setCells_only g r (o+1) (w.setCell ⟨g,o,none⟩ v);exact⟨h2.os.trans h1.os,h2.tape.trans h1.tape,h2.output.trans h1.output,h2.size.trans h1.size,λi hi=>(h2.rest i hi).trans (h1.rest i hi)⟩
theorem Blk.setCells{g:Nat}{T:TypeId}:∀(vs:List Value) (o:Nat) (w:World) (cs:List Value),Blk w g T cs->o+vs.length<=cs.length->Blk (w.setCells g o vs) g T (cs.take o++(vs++cs.drop (o+vs.length)))
 | [],o,w,cs,h,_=>by
  show Blk w g T _
  rw[List.nil_append,List.length_nil,Nat.add_zero,List.take_append_drop];exact h
 | v::r,o,w,cs,h,hl=>by
  have hl':o+1+r.length<=cs.length:=by simp at hl;omega
  have h1:=h.set o v;have h2:=Blk.setCells r (o+1) _ _ h1 (by rw[List.length_set];exact hl');have e:(cs.set o v).take (o+1)++(r++(cs.set o v).drop (o+1+r.length))=cs.take o++((v::r)++cs.drop (o+(v::r).length)):=by
   have ho:o<cs.length:=by omega
   have e1:(cs.set o v).take (o+1)=cs.take o++[v]:=by rw[List.take_succ_eq_append_getElem (by rw[List.length_set];exact ho),List.take_set_of_le (Nat.le_refl o)];simp
   have e2:(cs.set o v).drop (o+1+r.length)=cs.drop (o+(v::r).length):=by
    rw[List.drop_set_of_lt (by omega),List.length_cons]
    congr 1
    omega
   rw[e1,e2];simp
  rw[e] at h2;exact h2
section
variable {P:Program} {ops:Array Oper} {rest:List Oper} {o:Oper} {a:Act} {w:World} {Q:Exit->Act->World->Prop}
theorem U3b{g:Nat}{T:TypeId}{cs:List Value}(h:Blk w g T cs)(i n:Nat)(hn:i+n<=cs.length):w.there g i n:=λj hj=>by
 refine⟨?_,h.frozen _⟩;rw[h.cell];have:i+j<cs.length:=by omega
 simp[this]
theorem x2a(hgd:o.guard=none)(ty:TypeId)(x y:Operand)(ho:o.op=.store ty x y)(g i:Nat)(hx:a.eval x=.pointer (some ⟨g,i,none⟩))(T:TypeId)(cs vs:List Value)(hy:a.eval y=.agg vs.toArray)
(hA:Hid (Blk w g T cs))(n:Nat)(hi:(P.info? ty).map (·.size)=some n)(hn:Hid (vs.length=n))(hl:Hid (i+n<=cs.length))(h1:Hid (∀v∈vs,v.oneCell'=true))
(h:∀w',Hid (Blk w' g T (cs.take i++(vs++cs.drop (i+n))))->Hid (T1a g w w')->g<w'.heap.size->wpList P ops Q rest a w')(hd:o.dst=none:=by rfl):wpList P ops Q (o::rest) a w:=by
 have hp:a.put o.dst undef=a:=by rw[hd];rfl
 have hnn:=hn.out;refine wpList_store_mid hgd ty x y ho g i vs.toArray hx hy (U3b hA.out i _ (by have:=hl.out;simp;omega)) (by rw[hi];simp[hnn]) (all_oneCell_toArray h1.out) ?_;rw[hp];have hb:=Blk.setCells vs i w cs hA.out (by have:=hl.out;omega);rw[hnn] at hb;have hO:=World.setCells_only g vs i w;refine h _ hb hO ?_;have:=hO.size;rw[show(w.setCells g i vs.toArray.toList)=w.setCells g i vs from rfl,this];exact hA.out.lt
theorem Y7a{K:Act->World->Prop}{E:Prop}(hg:o.guard=none)(T:TypeId)(x y:Operand)(ho:o.op=.store T x y)(g i:Nat)(hx:a.eval x=.pointer (some ⟨g,i,none⟩))(T':TypeId)(cs:List Value)(u:Value)(hy:a.eval y=u)
(hA:Hid (Blk w g T' cs))(hi:Hid (i<cs.length))(hs:(P.info? T).map (·.size)=some 1)(h1:u.oneCell'=true)
(h:∀w',Hid (Blk w' g T' (cs.set i u))->Hid (T1a g w w')->g<w'.heap.size->K (a.put o.dst undef) w') :
  if Region.wanted o (yielded ops a.tmps)=true then Oper.wp P o a w K Q else E:=by
 have hw:Region.wanted o (yielded ops a.tmps)=true:=by simp[Region.wanted,hg]
 rw[if_pos hw];unfold Oper.wp execOp;simp only[ho,hx,hy,Instr.storeAt,Instr.sureAddr,Sem.run_bind,Sem.run_pure,Result.andThen_ok,B6a w g i T' T cs u hA.out hi.out hs h1];refine h _ (hA.out.set i u) (g1a w g i u) ?_;have:=(g1a w g i u).size;rw[this];exact hA.out.lt
end
theorem t1a{P:Program}{ops:Array Oper}{rest:List Oper}{o:Oper}{a:Act}{w:World}{Q:Exit->Act->World->Prop}(hw:Region.wanted o (yielded ops a.tmps)=true)(T:TypeId)(x:Operand)(ho:o.op=.load T x)(g:Nat)(hx:a.eval x=.pointer (some ⟨g,0,none⟩))(T':TypeId)(cs:List Value)
(hA:Hid (Blk w g T' cs))(n:Nat)(d:TypeDesc)(hu:P.underlying T=some d)(hd:(match d with | .struct _ | .array _ _=>true | _=>false)=true)(hi:(P.info? T).map (·.size)=some n)(hn:Hid (cs.length=n))
(h:wpList P ops Q rest (a.put o.dst (.agg cs.toArray)) w):wpList P ops Q (o::rest) a w:=
 wpList_step λK hK=>by rw[if_pos hw];exact wp_load_row T x ho g hx T' _ (0,0) d hA.out hu hd (by rw[hi];have:=hn.out;simp[this]) (hK _ _ h)
def pick(d:Nat×Nat):Int×Nat:=if d.1=65533/\d.2=1 then (0,0) else ((d.1:Int),d.2)
theorem O3a.holds{w:World}{base:Nat}{v:Value}{xs:List Int}(h:O3a .u8 5 w base v xs)(hx:Bytes xs)(hn:xs.length<=281474976710656) :
  ∃A c,v=.slice A xs.length c/\Holds w w.heap.size A xs.length c xs:=Own.holds (base:=base) h hx hn
def U0a(c:Int):Bool:=decide (c<=4)||c==13
theorem m0a{P:Program}{fn:Func}{p q:Tmp}{ty:TypeId}(h:fn.results=#[.cell p ty,.tmp q])(tmps:Array Value)(w:World)(g:Nat)(t:TypeId)(cs:Array Value)(fr:Nat×Nat)(d:TypeDesc)
(hp:tmps.getD p undef=.pointer (some ⟨g,0,none⟩))(hg:w.heap[g]? = some (.cells cs t fr))
(hu:P.underlying ty=some d)(hd:(match d with | .struct _ | .array _ _=>true | _=>false)=true)(hi:(P.info? ty).map (·.size)=some cs.size){v:Value}(hv:tmps.getD q undef=v) :
  (results fn tmps).run P w=.ok (.tuple #[.agg cs,v]) w:=by
 have hp':tmps[p]?.getD undef=.pointer (some ⟨g,0,none⟩):=by simpa using hp
 have hv':tmps[q]?.getD undef=v:=by simpa using hv
 simp[results,h,hp',hv',asAddr,run_loadVar_row w g t ty cs fr d hg hu hd hi]
def c1a(c:Int)(a:m1a):m1a:=if c=0 then { a with dial:=[],guid:=List.replicate 16 0 } else if c=1 then { a with proof:=List.replicate 32 0,user:=.empty } else if c=3 then { a with share:=.empty } else a
def o1a(c:Int)(s:M1a):M1a:=if c=0 then { s with dia:=0,siz:=0,chal:=List.replicate 8 0 } else s
theorem y5a{c:Int}{a:m1a}(k:a.ok):(c1a c a).ok:=by
 unfold c1a;split
 ·exact⟨λx h=>(by cases h),rfl,Bytes.zeros 16,k.plen,k.pbyte,k.acc,k.shr,k.way,k.opt,k.lev,k.dur,k.file,k.at_,k.n,k.data,k.locks,k.most,k.cls,k.siz⟩
 ·split
  ·exact⟨k.dial,k.glen,k.gbyte,rfl,Bytes.zeros 32,k.acc,k.shr,k.way,k.opt,k.lev,k.dur,k.file,k.at_,k.n,k.data,k.locks,k.most,k.cls,k.siz⟩
  ·split
   ·exact⟨k.dial,k.glen,k.gbyte,k.plen,k.pbyte,k.acc,k.shr,k.way,k.opt,k.lev,k.dur,k.file,k.at_,k.n,k.data,k.locks,k.most,k.cls,k.siz⟩
   ·exact k
theorem D9a{c:Int}{s:M1a}(k:s.ok):(o1a c s).ok:=by
 unfold o1a;split
 ·exact⟨by show(0:Int)<=0/\(0:Int)<=65535;decide,by show(0:Int)<=0/\(0:Int)<=18446744073709551615;decide,rfl,Bytes.zeros 8,k.lev,k.dur,k.made,k.file,k.kind,k.data,k.n,k.ents⟩
 ·exact k
section
variable {vd vx vl ve:Value} {a:m1a} {s:M1a}
theorem d5b(u:Value)(xs:List Int):(j0a vd vx vl a).set 0 u=j0a u vx vl { a with dial:=xs }:=rfl
theorem E9a(k:a.ok)(xs:List Int):(j0a vd vx vl a).take 1++(xs.map (Value.int .u8)++(j0a vd vx vl a).drop (1+16))=j0a vd vx vl { a with guid:=xs }:=by unfold j0a;rw[show 1+16=16+1 from rfl,List.drop_succ_cons,List.drop_left' (by rw[List.length_map];exact k.glen)];rfl
theorem F8a(k:a.ok)(xs:List Int):(j0a vd vx vl a).take 17++(xs.map (Value.int .u8)++(j0a vd vx vl a).drop (17+32))=j0a vd vx vl { a with proof:=xs }:=by unfold j0a;rw[show 17+32=48+1 from rfl,List.drop_succ_cons,show 17=16+1 from rfl,List.take_succ_cons,List.take_left' (by rw[List.length_map];exact k.glen),show 48=16+32 from rfl,<-List.drop_drop,List.drop_left' (by rw[List.length_map];exact k.glen),List.drop_left' (by rw[List.length_map];exact k.plen)];simp[A8a]
theorem i1b(k:a.ok)(u:ByteArray):(j0a vd vx vl a).set 49 (.string u)=j0a vd vx vl { a with user:=u }:=(G7a k 0 (.string u)).trans rfl
theorem F9a(k:a.ok)(u:ByteArray):(j0a vd vx vl a).set 50 (.string u)=j0a vd vx vl { a with share:=u }:=(G7a k 1 (.string u)).trans rfl
theorem B6b(x:Int):(r0a vx ve s).set 0 (.int .u16 x)=r0a vx ve { s with dia:=x }:=rfl
theorem C6b(x:Int):(r0a vx ve s).set 1 (.int .u64 x)=r0a vx ve { s with siz:=x }:=rfl
theorem G9a(k:s.ok)(xs:List Int):(r0a vx ve s).take 2++(xs.map (Value.int .u8)++(r0a vx ve s).drop (2+8))=r0a vx ve { s with chal:=xs }:=by unfold r0a;rw[show 2+8=8+1+1 from rfl,List.drop_succ_cons,List.drop_succ_cons,List.drop_left' (by rw[List.length_map];exact k.clen)];rfl
end
def G8a(w:World)(c:Int)(a:m1a)(e:Ending)(w':World):Prop:=∃ds,e=.returned (.tuple #[.agg ds.toArray,.bool (U0a c)])/\f1a w' w'.heap.size ds (if U0a c=true then c1a c a else i0a)/\Below w.heap.size w w'
theorem i3b(w:World)(c:Int)(cs:List Value)(a:m1a)(hc:0<=c/\c<=65535)(ka:a.ok)(ha:f1a w w.heap.size cs a) :
  Calls Tryz.prog 107 #[.int .u16 c,.agg cs.toArray] w (G8a w c a):=by
 have HL:=hI (ha.len ka);have HO1:=hI ha.one;have ZH:=hI H7a;have BZ:=B8a;have HZ:Hid ((j0a (.slice none 0 0) (.slice none 0 0) (.slice none 0 0) i0a).length=69):=I1a h0a;have HZ1:Hid (∀v∈j0a (.slice none 0 0) (.slice none 0 0) (.slice none 0 0) i0a,v.oneCell'=true):=(w2a w 0).one;have HA:=hI ha;have HQ:Hid (∀e w',(∃ds,e=.returned (.tuple #[.agg ds.toArray,.bool (U0a c)])/\f1a w' w'.heap.size ds (if U0a c=true then c1a c a else i0a)/\Below w.heap.size w w')->G8a w c a e w'):=λ_ _ h=>h
 obtain⟨zs,hzs⟩:∃zs,zs=j0a (.slice none 0 0) (.slice none 0 0) (.slice none 0 0) i0a:=⟨_,rfl⟩;have HZI:Hid (∀w':World,f1a w' w'.heap.size zs i0a):=by rw[hzs];exact λw'=>w2a w' _
 rw[<-hzs] at ZH BZ HZ HZ1;clear hzs;by_cases h0:c=0
 ·subst h0;have e0:(if U0a 0=true then c1a 0 a else i0a)={ a with dial:=[],guid:=List.replicate 16 0 }:=rfl;rw[e0,show U0a 0=true from rfl] at HQ;clear e0;obtain⟨A1,A2,A3,X1,X2,X3,M1,M2,M3,rfl,hA,hX,hM⟩:=ha;have HI:Hid (∀w':World,Below w.heap.size w w'->f1a w' w'.heap.size (j0a (.slice none 0 0) (.slice X1 X2 X3) (.slice M1 M2 M3) { a with dial:=[],guid:=List.replicate 16 0 }) ({ a with dial:=[],guid:=List.replicate 16 0 })):=λw' hb=>⟨none,0,0,X1,X2,X3,M1,M2,M3,rfl,G1a.nil _ _ _,hX.over hb,hM.over hb⟩
  have HN:Hid ((j0a (.slice none 0 0) (.slice X1 X2 X3) (.slice M1 M2 M3) { a with dial:=[],guid:=List.replicate 16 0 }).length=69):=I1a (by have:=y5a (c:=0) ka;exact this);have HN1:Hid (∀v∈j0a (.slice none 0 0) (.slice X1 X2 X3) (.slice M1 M2 M3) { a with dial:=[],guid:=List.replicate 16 0 },v.oneCell'=true):=x1a rfl rfl rfl;have HE0:Hid ((j0a (.slice A1 A2 A3) (.slice X1 X2 X3) (.slice M1 M2 M3) a).set 0 (.slice none 0 0)=j0a (.slice none 0 0) (.slice X1 X2 X3) (.slice M1 M2 M3) { a with dial:=[] }):=d5b _ [];have HE1:Hid ((j0a (.slice none 0 0) (.slice X1 X2 X3) (.slice M1 M2 M3) { a with dial:=[] }).take 1++((List.replicate 16 (0:Int)).map (Value.int .u8)++(j0a (.slice none 0 0) (.slice X1 X2 X3) (.slice M1 M2 M3) { a with dial:=[] }).drop (1+16))=j0a (.slice none 0 0) (.slice X1 X2 X3) (.slice M1 M2 M3) { a with dial:=[],guid:=List.replicate 16 0 }):=E9a (a:={ a with dial:=[] }) ⟨λx h=>(by cases h),ka.glen,ka.gbyte,ka.plen,ka.pbyte,ka.acc,ka.shr,ka.way,ka.opt,ka.lev,ka.dur,ka.file,ka.at_,ka.n,ka.data,ka.locks,ka.most,ka.cls,ka.siz⟩ (List.replicate 16 0);have HN0:Hid (0<(j0a (.slice A1 A2 A3) (.slice X1 X2 X3) (.slice M1 M2 M3) a).length):=by show _<_;simp[j0a,A8a,ka.glen,ka.plen]
  have HF:Hid (1+16<=(j0a (.slice none 0 0) (.slice X1 X2 X3) (.slice M1 M2 M3) { a with dial:=[] }).length):=by show _<=_;simp[j0a,A8a,ka.glen,ka.plen]
  have HLZ:Hid (((List.replicate 16 (0:Int)).map (Value.int .u8)).length=16):=by show _=_;simp
  have OZ:Hid (∀v∈(List.replicate 16 (0:Int)).map (Value.int .u8),v.oneCell'=true):=λv hv=>F7a hv
  have BL:=q2b;obtain⟨lz,hlz⟩:∃z,z=(List.replicate 16 (0:Int)).map (Value.int .u8):=⟨_,rfl⟩;rw[<-hlz] at HLZ OZ BL HE1;clear hlz;obtain⟨cs,hcs⟩:∃c,c=j0a (.slice A1 A2 A3) (.slice X1 X2 X3) (.slice M1 M2 M3) a:=⟨_,rfl⟩;rw[<-hcs] at HL HO1 HE0 HN0⊢;clear hcs HA hA hX hM;obtain⟨d0,hd0⟩:∃c,c=j0a (.slice none 0 0) (.slice X1 X2 X3) (.slice M1 M2 M3) { a with dial:=[] }:=⟨_,rfl⟩;rw[<-hd0] at HE0 HE1 HF;clear hd0;obtain⟨d1,hd1⟩:∃c,c=j0a (.slice none 0 0) (.slice X1 X2 X3) (.slice M1 M2 M3) { a with dial:=[],guid:=List.replicate 16 0 }:=⟨_,rfl⟩;rw[<-hd1] at HE1 HI HN HN1;clear hd1;go_enter Tryz.func107,Tryz.ntmps107;go_wp2_with(first
   | ((with_reducible refine sN 3 ?_);refine f0a rfl _ (.tmp 1) rfl cs rfl ?_;intro g w1 hg1 hg2 K1 L1)
   | ((with_reducible refine sN 4 ?_);refine a0a rfl _ rfl zs _ ZH ?_;intro h w2 hg3 hg4 Z2 L02;have G2:=hI (K1.out.over L02.out);have L2:=hI (step L1.out L02.out);have hgh:g≠h:=(by omega);have hhw:w.heap.size<=h:=(by have:=L1.out.size;omega))
   | ((with_reducible refine sT 11 ?_);refine d0a rfl _ (.tmp 11) (.const (.slice none 0 0)) rfl g 0 rfl _ cs (.slice none 0 0) rfl G2 HN0 (by kernel_rfl) rfl ?_;intro w3 K3 O3 q3;rw[HE0.out] at K3;have Z3:=hI (Z2.out.only O3.out (Ne.symm hgh));have L3:Hid (Below w.heap.size w w3):=c0a L2.out O3.out hg1)
   | ((with_reducible refine sT 12 ?_);refine x2a rfl _ (.tmp 12) (.tmp 10) rfl g 1 rfl _ d0 lz rfl K3 16 J3a HLZ HF OZ ?_;intro w4 K4 O4 q4;rw[HE1.out] at K4;have Z4:=hI (Z3.out.only O4.out (Ne.symm hgh));have L4:Hid (Below w.heap.size w w4):=c0a L3.out O4.out hg1)
   | ((with_reducible refine sN 10 ?_);refine x0a rfl _ rfl lz BL ?_)
   | ((with_reducible refine sN 25 ?_);refine e0a rfl _ (.tmp 3) rfl g rfl _ d1 K4 69 _ Tryz.underlying34 rfl n0a HN ?_)
   | ((with_reducible refine sT 4 ?_);refine b0a rfl _ (.tmp 4) (.tmp 25) rfl h rfl _ zs d1 rfl Z4 69 n0a HZ HN HN1 ?_;intro w9 K9 O9 hg9)
   | fail)
  have L9:=hI (c0a L4.out O9.out hhw);refine bodyPost_ret (v:=.tuple #[.agg d1.toArray,.bool true]) ?_ rfl (HQ.out _ _ ⟨_,rfl,HI.out w9 L9.out,L9.out⟩);exact m0a rfl _ _ h _ _ (0,0) _ rfl K9.out Tryz.underlying34 rfl (by rw[n0a];have:=HN.out;simp[this]) rfl
 by_cases h1:c=1
 ·subst h1;have e0:(if U0a 1=true then c1a 1 a else i0a)={ a with proof:=List.replicate 32 0,user:=.empty }:=rfl;rw[e0,show U0a 1=true from rfl] at HQ;clear e0;obtain⟨A1,A2,A3,X1,X2,X3,M1,M2,M3,rfl,hA,hX,hM⟩:=ha;have HI:Hid (∀w':World,Below w.heap.size w w'->f1a w' w'.heap.size (j0a (.slice A1 A2 A3) (.slice X1 X2 X3) (.slice M1 M2 M3) { a with proof:=List.replicate 32 0,user:=.empty }) ({ a with proof:=List.replicate 32 0,user:=.empty })):=λw' hb=>⟨A1,A2,A3,X1,X2,X3,M1,M2,M3,rfl,hA.over hb,hX.over hb,hM.over hb⟩
  have HN:Hid ((j0a (.slice A1 A2 A3) (.slice X1 X2 X3) (.slice M1 M2 M3) { a with proof:=List.replicate 32 0,user:=.empty }).length=69):=I1a (by have:=y5a (c:=1) ka;exact this);have HN1:Hid (∀v∈j0a (.slice A1 A2 A3) (.slice X1 X2 X3) (.slice M1 M2 M3) { a with proof:=List.replicate 32 0,user:=.empty },v.oneCell'=true):=x1a rfl rfl rfl;have HE0:Hid ((j0a (.slice A1 A2 A3) (.slice X1 X2 X3) (.slice M1 M2 M3) a).take 17++((List.replicate 32 (0:Int)).map (Value.int .u8)++(j0a (.slice A1 A2 A3) (.slice X1 X2 X3) (.slice M1 M2 M3) a).drop (17+32))=j0a (.slice A1 A2 A3) (.slice X1 X2 X3) (.slice M1 M2 M3) { a with proof:=List.replicate 32 0 }):=F8a ka (List.replicate 32 0);have HE1:Hid ((j0a (.slice A1 A2 A3) (.slice X1 X2 X3) (.slice M1 M2 M3) { a with proof:=List.replicate 32 0 }).set 49 (.string .empty)=j0a (.slice A1 A2 A3) (.slice X1 X2 X3) (.slice M1 M2 M3) { a with proof:=List.replicate 32 0,user:=.empty }):=i1b (a:={ a with proof:=List.replicate 32 0 }) ⟨ka.dial,ka.glen,ka.gbyte,rfl,Bytes.zeros 32,ka.acc,ka.shr,ka.way,ka.opt,ka.lev,ka.dur,ka.file,ka.at_,ka.n,ka.data,ka.locks,ka.most,ka.cls,ka.siz⟩ .empty;have HF:Hid (17+32<=(j0a (.slice A1 A2 A3) (.slice X1 X2 X3) (.slice M1 M2 M3) a).length):=by show _<=_;simp[j0a,A8a,ka.glen,ka.plen]
  have HN0:Hid (49<(j0a (.slice A1 A2 A3) (.slice X1 X2 X3) (.slice M1 M2 M3) { a with proof:=List.replicate 32 0 }).length):=by show _<_;simp[j0a,A8a,ka.glen]
  have HLZ:Hid (((List.replicate 32 (0:Int)).map (Value.int .u8)).length=32):=by show _=_;simp
  have OZ:Hid (∀v∈(List.replicate 32 (0:Int)).map (Value.int .u8),v.oneCell'=true):=λv hv=>F7a hv
  have BL:=W0b;obtain⟨lz,hlz⟩:∃z,z=(List.replicate 32 (0:Int)).map (Value.int .u8):=⟨_,rfl⟩;rw[<-hlz] at HLZ OZ BL HE0;clear hlz;obtain⟨cs,hcs⟩:∃c,c=j0a (.slice A1 A2 A3) (.slice X1 X2 X3) (.slice M1 M2 M3) a:=⟨_,rfl⟩;rw[<-hcs] at HL HO1 HE0 HF⊢;clear hcs HA hA hX hM;obtain⟨d0,hd0⟩:∃c,c=j0a (.slice A1 A2 A3) (.slice X1 X2 X3) (.slice M1 M2 M3) { a with proof:=List.replicate 32 0 }:=⟨_,rfl⟩;rw[<-hd0] at HE0 HE1 HN0;clear hd0;obtain⟨d1,hd1⟩:∃c,c=j0a (.slice A1 A2 A3) (.slice X1 X2 X3) (.slice M1 M2 M3) { a with proof:=List.replicate 32 0,user:=.empty }:=⟨_,rfl⟩;rw[<-hd1] at HE1 HI HN HN1;clear hd1;go_enter Tryz.func107,Tryz.ntmps107;go_wp2_with(first
   | ((with_reducible refine sN 3 ?_);refine f0a rfl _ (.tmp 1) rfl cs rfl ?_;intro g w1 hg1 hg2 K1 L1)
   | ((with_reducible refine sN 4 ?_);refine a0a rfl _ rfl zs _ ZH ?_;intro h w2 hg3 hg4 Z2 L02;have G2:=hI (K1.out.over L02.out);have L2:=hI (step L1.out L02.out);have hgh:g≠h:=(by omega);have hhw:w.heap.size<=h:=(by have:=L1.out.size;omega))
   | ((with_reducible refine sT 16 ?_);refine x2a rfl _ (.tmp 16) (.tmp 15) rfl g 17 rfl _ cs lz rfl G2 32 V3a HLZ HF OZ ?_;intro w3 K3 O3 q3;rw[HE0.out] at K3;have Z3:=hI (Z2.out.only O3.out (Ne.symm hgh));have L3:Hid (Below w.heap.size w w3):=c0a L2.out O3.out hg1)
   | ((with_reducible refine sT 17 ?_);refine d0a rfl _ (.tmp 17) (.const (.string .empty)) rfl g 49 rfl _ d0 (.string .empty) rfl K3 HN0 (by kernel_rfl) rfl ?_;intro w4 K4 O4 q4;rw[HE1.out] at K4;have Z4:=hI (Z3.out.only O4.out (Ne.symm hgh));have L4:Hid (Below w.heap.size w w4):=c0a L3.out O4.out hg1)
   | ((with_reducible refine sN 15 ?_);refine x0a rfl _ rfl lz BL ?_)
   | ((with_reducible refine sN 25 ?_);refine e0a rfl _ (.tmp 3) rfl g rfl _ d1 K4 69 _ Tryz.underlying34 rfl n0a HN ?_)
   | ((with_reducible refine sT 4 ?_);refine b0a rfl _ (.tmp 4) (.tmp 25) rfl h rfl _ zs d1 rfl Z4 69 n0a HZ HN HN1 ?_;intro w9 K9 O9 hg9)
   | fail)
  have L9:=hI (c0a L4.out O9.out hhw);refine bodyPost_ret (v:=.tuple #[.agg d1.toArray,.bool true]) ?_ rfl (HQ.out _ _ ⟨_,rfl,HI.out w9 L9.out,L9.out⟩);exact m0a rfl _ _ h _ _ (0,0) _ rfl K9.out Tryz.underlying34 rfl (by rw[n0a];have:=HN.out;simp[this]) rfl
 by_cases h3:c=3
 ·subst h3;have e0:(if U0a 3=true then c1a 3 a else i0a)={ a with share:=.empty }:=rfl;rw[e0,show U0a 3=true from rfl] at HQ;clear e0;obtain⟨A1,A2,A3,X1,X2,X3,M1,M2,M3,rfl,hA,hX,hM⟩:=ha;have HI:Hid (∀w':World,Below w.heap.size w w'->f1a w' w'.heap.size (j0a (.slice A1 A2 A3) (.slice X1 X2 X3) (.slice M1 M2 M3) { a with share:=.empty }) ({ a with share:=.empty })):=λw' hb=>⟨A1,A2,A3,X1,X2,X3,M1,M2,M3,rfl,hA.over hb,hX.over hb,hM.over hb⟩
  have HN:Hid ((j0a (.slice A1 A2 A3) (.slice X1 X2 X3) (.slice M1 M2 M3) { a with share:=.empty }).length=69):=I1a (by have:=y5a (c:=3) ka;exact this);have HN1:Hid (∀v∈j0a (.slice A1 A2 A3) (.slice X1 X2 X3) (.slice M1 M2 M3) { a with share:=.empty },v.oneCell'=true):=x1a rfl rfl rfl;have HE0:Hid ((j0a (.slice A1 A2 A3) (.slice X1 X2 X3) (.slice M1 M2 M3) a).set 50 (.string .empty)=j0a (.slice A1 A2 A3) (.slice X1 X2 X3) (.slice M1 M2 M3) { a with share:=.empty }):=F9a ka .empty;have HN0:Hid (50<(j0a (.slice A1 A2 A3) (.slice X1 X2 X3) (.slice M1 M2 M3) a).length):=by show _<_;simp[j0a,A8a,ka.glen,ka.plen]
  obtain⟨cs,hcs⟩:∃c,c=j0a (.slice A1 A2 A3) (.slice X1 X2 X3) (.slice M1 M2 M3) a:=⟨_,rfl⟩;rw[<-hcs] at HL HO1 HE0 HN0⊢;clear hcs HA hA hX hM;obtain⟨d0,hd0⟩:∃c,c=j0a (.slice A1 A2 A3) (.slice X1 X2 X3) (.slice M1 M2 M3) { a with share:=.empty }:=⟨_,rfl⟩;rw[<-hd0] at HE0 HI HN HN1;clear hd0;go_enter Tryz.func107,Tryz.ntmps107;go_wp2_with(first
   | ((with_reducible refine sN 3 ?_);refine f0a rfl _ (.tmp 1) rfl cs rfl ?_;intro g w1 hg1 hg2 K1 L1)
   | ((with_reducible refine sN 4 ?_);refine a0a rfl _ rfl zs _ ZH ?_;intro h w2 hg3 hg4 Z2 L02;have G2:=hI (K1.out.over L02.out);have L2:=hI (step L1.out L02.out);have hgh:g≠h:=(by omega);have hhw:w.heap.size<=h:=(by have:=L1.out.size;omega))
   | ((with_reducible refine sT 20 ?_);refine d0a rfl _ (.tmp 20) (.const (.string .empty)) rfl g 50 rfl _ cs (.string .empty) rfl G2 HN0 (by kernel_rfl) rfl ?_;intro w3 K3 O3 q3;rw[HE0.out] at K3;have Z3:=hI (Z2.out.only O3.out (Ne.symm hgh));have L3:Hid (Below w.heap.size w w3):=c0a L2.out O3.out hg1)
   | ((with_reducible refine sN 25 ?_);refine e0a rfl _ (.tmp 3) rfl g rfl _ d0 K3 69 _ Tryz.underlying34 rfl n0a HN ?_)
   | ((with_reducible refine sT 4 ?_);refine b0a rfl _ (.tmp 4) (.tmp 25) rfl h rfl _ zs d0 rfl Z3 69 n0a HZ HN HN1 ?_;intro w9 K9 O9 hg9)
   | fail)
  have L9:=hI (c0a L3.out O9.out hhw);refine bodyPost_ret (v:=.tuple #[.agg d0.toArray,.bool true]) ?_ rfl (HQ.out _ _ ⟨_,rfl,HI.out w9 L9.out,L9.out⟩);exact m0a rfl _ _ h _ _ (0,0) _ rfl K9.out Tryz.underlying34 rfl (by rw[n0a];have:=HN.out;simp[this]) rfl
 by_cases h2:c=2
 ·subst h2;have e0:(if U0a 2=true then c1a 2 a else i0a)=a:=rfl;rw[e0,show U0a 2=true from rfl] at HQ;clear e0;obtain⟨A1,A2,A3,X1,X2,X3,M1,M2,M3,rfl,hA,hX,hM⟩:=ha;have HI:Hid (∀w':World,Below w.heap.size w w'->f1a w' w'.heap.size (j0a (.slice A1 A2 A3) (.slice X1 X2 X3) (.slice M1 M2 M3) a) (a)):=λw' hb=>⟨A1,A2,A3,X1,X2,X3,M1,M2,M3,rfl,hA.over hb,hX.over hb,hM.over hb⟩
  have HN:Hid ((j0a (.slice A1 A2 A3) (.slice X1 X2 X3) (.slice M1 M2 M3) a).length=69):=I1a (ka);have HN1:Hid (∀v∈j0a (.slice A1 A2 A3) (.slice X1 X2 X3) (.slice M1 M2 M3) a,v.oneCell'=true):=x1a rfl rfl rfl;obtain⟨cs,hcs⟩:∃c,c=j0a (.slice A1 A2 A3) (.slice X1 X2 X3) (.slice M1 M2 M3) a:=⟨_,rfl⟩;rw[<-hcs] at HL HO1 HI HN HN1⊢;clear hcs HA hA hX hM;go_enter Tryz.func107,Tryz.ntmps107;go_wp2_with(first
   | ((with_reducible refine sN 3 ?_);refine f0a rfl _ (.tmp 1) rfl cs rfl ?_;intro g w1 hg1 hg2 K1 L1)
   | ((with_reducible refine sN 4 ?_);refine a0a rfl _ rfl zs _ ZH ?_;intro h w2 hg3 hg4 Z2 L02;have G2:=hI (K1.out.over L02.out);have L2:=hI (step L1.out L02.out);have hgh:g≠h:=(by omega);have hhw:w.heap.size<=h:=(by have:=L1.out.size;omega))
   | ((with_reducible refine sN 25 ?_);refine e0a rfl _ (.tmp 3) rfl g rfl _ cs G2 69 _ Tryz.underlying34 rfl n0a HN ?_)
   | ((with_reducible refine sT 4 ?_);refine b0a rfl _ (.tmp 4) (.tmp 25) rfl h rfl _ zs cs rfl Z2 69 n0a HZ HN HN1 ?_;intro w9 K9 O9 hg9)
   | fail)
  have L9:=hI (c0a L2.out O9.out hhw);refine bodyPost_ret (v:=.tuple #[.agg cs.toArray,.bool true]) ?_ rfl (HQ.out _ _ ⟨_,rfl,HI.out w9 L9.out,L9.out⟩);exact m0a rfl _ _ h _ _ (0,0) _ rfl K9.out Tryz.underlying34 rfl (by rw[n0a];have:=HN.out;simp[this]) rfl
 by_cases h4:c=4
 ·subst h4;have e0:(if U0a 4=true then c1a 4 a else i0a)=a:=rfl;rw[e0,show U0a 4=true from rfl] at HQ;clear e0;obtain⟨A1,A2,A3,X1,X2,X3,M1,M2,M3,rfl,hA,hX,hM⟩:=ha;have HI:Hid (∀w':World,Below w.heap.size w w'->f1a w' w'.heap.size (j0a (.slice A1 A2 A3) (.slice X1 X2 X3) (.slice M1 M2 M3) a) (a)):=λw' hb=>⟨A1,A2,A3,X1,X2,X3,M1,M2,M3,rfl,hA.over hb,hX.over hb,hM.over hb⟩
  have HN:Hid ((j0a (.slice A1 A2 A3) (.slice X1 X2 X3) (.slice M1 M2 M3) a).length=69):=I1a (ka);have HN1:Hid (∀v∈j0a (.slice A1 A2 A3) (.slice X1 X2 X3) (.slice M1 M2 M3) a,v.oneCell'=true):=x1a rfl rfl rfl;obtain⟨cs,hcs⟩:∃c,c=j0a (.slice A1 A2 A3) (.slice X1 X2 X3) (.slice M1 M2 M3) a:=⟨_,rfl⟩;rw[<-hcs] at HL HO1 HI HN HN1⊢;clear hcs HA hA hX hM;go_enter Tryz.func107,Tryz.ntmps107;go_wp2_with(first
   | ((with_reducible refine sN 3 ?_);refine f0a rfl _ (.tmp 1) rfl cs rfl ?_;intro g w1 hg1 hg2 K1 L1)
   | ((with_reducible refine sN 4 ?_);refine a0a rfl _ rfl zs _ ZH ?_;intro h w2 hg3 hg4 Z2 L02;have G2:=hI (K1.out.over L02.out);have L2:=hI (step L1.out L02.out);have hgh:g≠h:=(by omega);have hhw:w.heap.size<=h:=(by have:=L1.out.size;omega))
   | ((with_reducible refine sN 25 ?_);refine e0a rfl _ (.tmp 3) rfl g rfl _ cs G2 69 _ Tryz.underlying34 rfl n0a HN ?_)
   | ((with_reducible refine sT 4 ?_);refine b0a rfl _ (.tmp 4) (.tmp 25) rfl h rfl _ zs cs rfl Z2 69 n0a HZ HN HN1 ?_;intro w9 K9 O9 hg9)
   | fail)
  have L9:=hI (c0a L2.out O9.out hhw);refine bodyPost_ret (v:=.tuple #[.agg cs.toArray,.bool true]) ?_ rfl (HQ.out _ _ ⟨_,rfl,HI.out w9 L9.out,L9.out⟩);exact m0a rfl _ _ h _ _ (0,0) _ rfl K9.out Tryz.underlying34 rfl (by rw[n0a];have:=HN.out;simp[this]) rfl
 by_cases h13:c=13
 ·subst h13;have e0:(if U0a 13=true then c1a 13 a else i0a)=a:=rfl;rw[e0,show U0a 13=true from rfl] at HQ;clear e0;obtain⟨A1,A2,A3,X1,X2,X3,M1,M2,M3,rfl,hA,hX,hM⟩:=ha;have HI:Hid (∀w':World,Below w.heap.size w w'->f1a w' w'.heap.size (j0a (.slice A1 A2 A3) (.slice X1 X2 X3) (.slice M1 M2 M3) a) (a)):=λw' hb=>⟨A1,A2,A3,X1,X2,X3,M1,M2,M3,rfl,hA.over hb,hX.over hb,hM.over hb⟩
  have HN:Hid ((j0a (.slice A1 A2 A3) (.slice X1 X2 X3) (.slice M1 M2 M3) a).length=69):=I1a (ka);have HN1:Hid (∀v∈j0a (.slice A1 A2 A3) (.slice X1 X2 X3) (.slice M1 M2 M3) a,v.oneCell'=true):=x1a rfl rfl rfl;obtain⟨cs,hcs⟩:∃c,c=j0a (.slice A1 A2 A3) (.slice X1 X2 X3) (.slice M1 M2 M3) a:=⟨_,rfl⟩;rw[<-hcs] at HL HO1 HI HN HN1⊢;clear hcs HA hA hX hM;go_enter Tryz.func107,Tryz.ntmps107;go_wp2_with(first
   | ((with_reducible refine sN 3 ?_);refine f0a rfl _ (.tmp 1) rfl cs rfl ?_;intro g w1 hg1 hg2 K1 L1)
   | ((with_reducible refine sN 4 ?_);refine a0a rfl _ rfl zs _ ZH ?_;intro h w2 hg3 hg4 Z2 L02;have G2:=hI (K1.out.over L02.out);have L2:=hI (step L1.out L02.out);have hgh:g≠h:=(by omega);have hhw:w.heap.size<=h:=(by have:=L1.out.size;omega))
   | ((with_reducible refine sN 25 ?_);refine e0a rfl _ (.tmp 3) rfl g rfl _ cs G2 69 _ Tryz.underlying34 rfl n0a HN ?_)
   | ((with_reducible refine sT 4 ?_);refine b0a rfl _ (.tmp 4) (.tmp 25) rfl h rfl _ zs cs rfl Z2 69 n0a HZ HN HN1 ?_;intro w9 K9 O9 hg9)
   | fail)
  have L9:=hI (c0a L2.out O9.out hhw);refine bodyPost_ret (v:=.tuple #[.agg cs.toArray,.bool true]) ?_ rfl (HQ.out _ _ ⟨_,rfl,HI.out w9 L9.out,L9.out⟩);exact m0a rfl _ _ h _ _ (0,0) _ rfl K9.out Tryz.underlying34 rfl (by rw[n0a];have:=HN.out;simp[this]) rfl
 have hk:U0a c=false:=by unfold U0a;simp;omega
 rw[if_neg (by rw[hk];decide),hk] at HQ;have b0:(c==0)=false:=by simpa using h0
 have b1:(c==1)=false:=by simpa using h1
 have b3:(c==3)=false:=by simpa using h3
 have b2:(c==2)=false:=by simpa using h2
 have b4:(c==4)=false:=by simpa using h4
 have b13:(c==13)=false:=by simpa using h13
 go_enter Tryz.func107,Tryz.ntmps107;go_wp2_with(first
  | ((with_reducible refine sN 3 ?_);refine f0a rfl _ (.tmp 1) rfl cs rfl ?_;intro g w1 hg1 hg2 K1 L1)
  | ((with_reducible refine sN 4 ?_);refine a0a rfl _ rfl zs _ ZH ?_;intro h w2 hg3 hg4 Z2 L02;have G2:=hI (K1.out.over L02.out);have L2:=hI (step L1.out L02.out);have hgh:g≠h:=(by omega);have hhw:w.heap.size<=h:=(by have:=L1.out.size;omega))
  | ((with_reducible refine sN 7 ?_);refine x0a rfl _ rfl zs BZ ?_)
  | ((with_reducible refine sT 4 ?_);refine b0a rfl _ (.tmp 4) (.tmp 7) rfl h rfl _ zs zs rfl Z2 69 n0a HZ HZ HZ1 ?_;intro w9 K9 O9 hg9)
  | fail)
 have L9:=hI (c0a L2.out O9.out hhw);refine bodyPost_ret (v:=.tuple #[.agg zs.toArray,.bool false]) ?_ rfl (HQ.out _ _ ⟨_,rfl,HZI.out w9,L9.out⟩);exact m0a rfl _ _ h _ _ (0,0) _ rfl K9.out Tryz.underlying34 rfl (by rw[n0a];have:=HZ.out;simp[this]) rfl
def H8a(w:World)(c:Int)(a:M1a)(e:Ending)(w':World):Prop:=∃ds,e=.returned (.tuple #[.agg ds.toArray,.bool (U0a c)])/\n1a w' w'.heap.size ds (if U0a c=true then o1a c a else q0a)/\Below w.heap.size w w'
theorem j3b(w:World)(c:Int)(cs:List Value)(a:M1a)(hc:0<=c/\c<=65535)(ka:a.ok)(ha:n1a w w.heap.size cs a) :
  Calls Tryz.prog 116 #[.int .u16 c,.agg cs.toArray] w (H8a w c a):=by
 have HL:=hI (ha.len ka);have HO1:=hI ha.one;have ZH:=hI I7a;have BZ:=C8a;have HZ:Hid ((r0a (.slice none 0 0) (.slice none 0 0) q0a).length=20):=U1a G0a;have HZ1:Hid (∀v∈r0a (.slice none 0 0) (.slice none 0 0) q0a,v.oneCell'=true):=(E2a w 0).one;have HA:=hI ha;have HQ:Hid (∀e w',(∃ds,e=.returned (.tuple #[.agg ds.toArray,.bool (U0a c)])/\n1a w' w'.heap.size ds (if U0a c=true then o1a c a else q0a)/\Below w.heap.size w w')->H8a w c a e w'):=λ_ _ h=>h
 obtain⟨zs,hzs⟩:∃zs,zs=r0a (.slice none 0 0) (.slice none 0 0) q0a:=⟨_,rfl⟩;have HZI:Hid (∀w':World,n1a w' w'.heap.size zs q0a):=by rw[hzs];exact λw'=>E2a w' _
 rw[<-hzs] at ZH BZ HZ HZ1;clear hzs;by_cases h0:c=0
 ·subst h0;have e0:(if U0a 0=true then o1a 0 a else q0a)={ a with dia:=0,siz:=0,chal:=List.replicate 8 0 }:=rfl;rw[e0,show U0a 0=true from rfl] at HQ;clear e0;obtain⟨X1,X2,X3,M1,M2,M3,rfl,hX,hM⟩:=ha;have HI:Hid (∀w':World,Below w.heap.size w w'->n1a w' w'.heap.size (r0a (.slice X1 X2 X3) (.slice M1 M2 M3) { a with dia:=0,siz:=0,chal:=List.replicate 8 0 }) ({ a with dia:=0,siz:=0,chal:=List.replicate 8 0 })):=λw' hb=>⟨X1,X2,X3,M1,M2,M3,rfl,hX.over hb,hM.over hb⟩
  have HN:Hid ((r0a (.slice X1 X2 X3) (.slice M1 M2 M3) { a with dia:=0,siz:=0,chal:=List.replicate 8 0 }).length=20):=U1a (by have:=D9a (c:=0) ka;exact this);have HN1:Hid (∀v∈r0a (.slice X1 X2 X3) (.slice M1 M2 M3) { a with dia:=0,siz:=0,chal:=List.replicate 8 0 },v.oneCell'=true):=J1a rfl rfl;have HE0:Hid ((r0a (.slice X1 X2 X3) (.slice M1 M2 M3) a).set 0 (.int .u16 0)=r0a (.slice X1 X2 X3) (.slice M1 M2 M3) { a with dia:=0 }):=B6b 0;have HE1:Hid ((r0a (.slice X1 X2 X3) (.slice M1 M2 M3) { a with dia:=0 }).set 1 (.int .u64 0)=r0a (.slice X1 X2 X3) (.slice M1 M2 M3) { a with dia:=0,siz:=0 }):=C6b 0;have HE2:Hid ((r0a (.slice X1 X2 X3) (.slice M1 M2 M3) { a with dia:=0,siz:=0 }).take 2++((List.replicate 8 (0:Int)).map (Value.int .u8)++(r0a (.slice X1 X2 X3) (.slice M1 M2 M3) { a with dia:=0,siz:=0 }).drop (2+8))=r0a (.slice X1 X2 X3) (.slice M1 M2 M3) { a with dia:=0,siz:=0,chal:=List.replicate 8 0 }):=G9a (s:={ a with dia:=0,siz:=0 }) ⟨by show(0:Int)<=0/\(0:Int)<=65535;decide,by show(0:Int)<=0/\(0:Int)<=18446744073709551615;decide,ka.clen,ka.cbyte,ka.lev,ka.dur,ka.made,ka.file,ka.kind,ka.data,ka.n,ka.ents⟩ (List.replicate 8 0);have HN0:Hid (0<(r0a (.slice X1 X2 X3) (.slice M1 M2 M3) a).length):=by show _<_;simp[r0a,b2b,ka.clen]
  have HN2:Hid (1<(r0a (.slice X1 X2 X3) (.slice M1 M2 M3) { a with dia:=0 }).length):=by show _<_;simp[r0a,b2b,ka.clen]
  have HF:Hid (2+8<=(r0a (.slice X1 X2 X3) (.slice M1 M2 M3) { a with dia:=0,siz:=0 }).length):=by show _<=_;simp[r0a,b2b,ka.clen]
  have HLZ:Hid (((List.replicate 8 (0:Int)).map (Value.int .u8)).length=8):=by show _=_;simp
  have OZ:Hid (∀v∈(List.replicate 8 (0:Int)).map (Value.int .u8),v.oneCell'=true):=λv hv=>F7a hv
  have BL:=r2b;obtain⟨lz,hlz⟩:∃z,z=(List.replicate 8 (0:Int)).map (Value.int .u8):=⟨_,rfl⟩;rw[<-hlz] at HLZ OZ BL HE2;clear hlz;obtain⟨cs,hcs⟩:∃c,c=r0a (.slice X1 X2 X3) (.slice M1 M2 M3) a:=⟨_,rfl⟩;rw[<-hcs] at HL HO1 HE0 HN0⊢;clear hcs HA hX hM;obtain⟨d0,hd0⟩:∃c,c=r0a (.slice X1 X2 X3) (.slice M1 M2 M3) { a with dia:=0 }:=⟨_,rfl⟩;rw[<-hd0] at HE0 HE1 HN2;clear hd0;obtain⟨d1,hd1⟩:∃c,c=r0a (.slice X1 X2 X3) (.slice M1 M2 M3) { a with dia:=0,siz:=0 }:=⟨_,rfl⟩;rw[<-hd1] at HE1 HE2 HF;clear hd1;obtain⟨d2,hd2⟩:∃c,c=r0a (.slice X1 X2 X3) (.slice M1 M2 M3) { a with dia:=0,siz:=0,chal:=List.replicate 8 0 }:=⟨_,rfl⟩;rw[<-hd2] at HE2 HI HN HN1;clear hd2;go_enter Tryz.func116,Tryz.ntmps116;go_wp2_with(first
   | ((with_reducible refine sN 3 ?_);refine f0a rfl _ (.tmp 1) rfl cs rfl ?_;intro g w1 hg1 hg2 K1 L1)
   | ((with_reducible refine sN 4 ?_);refine a0a rfl _ rfl zs _ ZH ?_;intro h w2 hg3 hg4 Z2 L02;have G2:=hI (K1.out.over L02.out);have L2:=hI (step L1.out L02.out);have hgh:g≠h:=(by omega);have hhw:w.heap.size<=h:=(by have:=L1.out.size;omega))
   | ((with_reducible refine sT 11 ?_);refine d0a rfl _ (.tmp 11) (.const (.int .u16 0)) rfl g 0 rfl _ cs (.int .u16 0) rfl G2 HN0 (by kernel_rfl) rfl ?_;intro w3 K3 O3 q3;rw[HE0.out] at K3;have Z3:=hI (Z2.out.only O3.out (Ne.symm hgh));have L3:Hid (Below w.heap.size w w3):=c0a L2.out O3.out hg1)
   | ((with_reducible refine sT 12 ?_);refine d0a rfl _ (.tmp 12) (.const (.int .u64 0)) rfl g 1 rfl _ d0 (.int .u64 0) rfl K3 HN2 (by kernel_rfl) rfl ?_;intro w4 K4 O4 q4;rw[HE1.out] at K4;have Z4:=hI (Z3.out.only O4.out (Ne.symm hgh));have L4:Hid (Below w.heap.size w w4):=c0a L3.out O4.out hg1)
   | ((with_reducible refine sT 13 ?_);refine x2a rfl _ (.tmp 13) (.tmp 10) rfl g 2 rfl _ d1 lz rfl K4 8 B4a HLZ HF OZ ?_;intro w5 K5 O5 q5;rw[HE2.out] at K5;have Z5:=hI (Z4.out.only O5.out (Ne.symm hgh));have L5:Hid (Below w.heap.size w w5):=c0a L4.out O5.out hg1)
   | ((with_reducible refine sN 10 ?_);refine x0a rfl _ rfl lz BL ?_)
   | ((with_reducible refine sN 20 ?_);refine e0a rfl _ (.tmp 3) rfl g rfl _ d2 K5 20 _ Tryz.underlying39 rfl s0a HN ?_)
   | ((with_reducible refine sT 4 ?_);refine b0a rfl _ (.tmp 4) (.tmp 20) rfl h rfl _ zs d2 rfl Z5 20 s0a HZ HN HN1 ?_;intro w9 K9 O9 hg9)
   | fail)
  have L9:=hI (c0a L5.out O9.out hhw);refine bodyPost_ret (v:=.tuple #[.agg d2.toArray,.bool true]) ?_ rfl (HQ.out _ _ ⟨_,rfl,HI.out w9 L9.out,L9.out⟩);exact m0a rfl _ _ h _ _ (0,0) _ rfl K9.out Tryz.underlying39 rfl (by rw[s0a];have:=HN.out;simp[this]) rfl
 by_cases h1:c=1
 ·subst h1;have e0:(if U0a 1=true then o1a 1 a else q0a)=a:=rfl;rw[e0,show U0a 1=true from rfl] at HQ;clear e0;obtain⟨X1,X2,X3,M1,M2,M3,rfl,hX,hM⟩:=ha;have HI:Hid (∀w':World,Below w.heap.size w w'->n1a w' w'.heap.size (r0a (.slice X1 X2 X3) (.slice M1 M2 M3) a) (a)):=λw' hb=>⟨X1,X2,X3,M1,M2,M3,rfl,hX.over hb,hM.over hb⟩
  have HN:Hid ((r0a (.slice X1 X2 X3) (.slice M1 M2 M3) a).length=20):=U1a (ka);have HN1:Hid (∀v∈r0a (.slice X1 X2 X3) (.slice M1 M2 M3) a,v.oneCell'=true):=J1a rfl rfl;obtain⟨cs,hcs⟩:∃c,c=r0a (.slice X1 X2 X3) (.slice M1 M2 M3) a:=⟨_,rfl⟩;rw[<-hcs] at HL HO1 HI HN HN1⊢;clear hcs HA hX hM;go_enter Tryz.func116,Tryz.ntmps116;go_wp2_with(first
   | ((with_reducible refine sN 3 ?_);refine f0a rfl _ (.tmp 1) rfl cs rfl ?_;intro g w1 hg1 hg2 K1 L1)
   | ((with_reducible refine sN 4 ?_);refine a0a rfl _ rfl zs _ ZH ?_;intro h w2 hg3 hg4 Z2 L02;have G2:=hI (K1.out.over L02.out);have L2:=hI (step L1.out L02.out);have hgh:g≠h:=(by omega);have hhw:w.heap.size<=h:=(by have:=L1.out.size;omega))
   | ((with_reducible refine sN 20 ?_);refine e0a rfl _ (.tmp 3) rfl g rfl _ cs G2 20 _ Tryz.underlying39 rfl s0a HN ?_)
   | ((with_reducible refine sT 4 ?_);refine b0a rfl _ (.tmp 4) (.tmp 20) rfl h rfl _ zs cs rfl Z2 20 s0a HZ HN HN1 ?_;intro w9 K9 O9 hg9)
   | fail)
  have L9:=hI (c0a L2.out O9.out hhw);refine bodyPost_ret (v:=.tuple #[.agg cs.toArray,.bool true]) ?_ rfl (HQ.out _ _ ⟨_,rfl,HI.out w9 L9.out,L9.out⟩);exact m0a rfl _ _ h _ _ (0,0) _ rfl K9.out Tryz.underlying39 rfl (by rw[s0a];have:=HN.out;simp[this]) rfl
 by_cases h3:c=3
 ·subst h3;have e0:(if U0a 3=true then o1a 3 a else q0a)=a:=rfl;rw[e0,show U0a 3=true from rfl] at HQ;clear e0;obtain⟨X1,X2,X3,M1,M2,M3,rfl,hX,hM⟩:=ha;have HI:Hid (∀w':World,Below w.heap.size w w'->n1a w' w'.heap.size (r0a (.slice X1 X2 X3) (.slice M1 M2 M3) a) (a)):=λw' hb=>⟨X1,X2,X3,M1,M2,M3,rfl,hX.over hb,hM.over hb⟩
  have HN:Hid ((r0a (.slice X1 X2 X3) (.slice M1 M2 M3) a).length=20):=U1a (ka);have HN1:Hid (∀v∈r0a (.slice X1 X2 X3) (.slice M1 M2 M3) a,v.oneCell'=true):=J1a rfl rfl;obtain⟨cs,hcs⟩:∃c,c=r0a (.slice X1 X2 X3) (.slice M1 M2 M3) a:=⟨_,rfl⟩;rw[<-hcs] at HL HO1 HI HN HN1⊢;clear hcs HA hX hM;go_enter Tryz.func116,Tryz.ntmps116;go_wp2_with(first
   | ((with_reducible refine sN 3 ?_);refine f0a rfl _ (.tmp 1) rfl cs rfl ?_;intro g w1 hg1 hg2 K1 L1)
   | ((with_reducible refine sN 4 ?_);refine a0a rfl _ rfl zs _ ZH ?_;intro h w2 hg3 hg4 Z2 L02;have G2:=hI (K1.out.over L02.out);have L2:=hI (step L1.out L02.out);have hgh:g≠h:=(by omega);have hhw:w.heap.size<=h:=(by have:=L1.out.size;omega))
   | ((with_reducible refine sN 20 ?_);refine e0a rfl _ (.tmp 3) rfl g rfl _ cs G2 20 _ Tryz.underlying39 rfl s0a HN ?_)
   | ((with_reducible refine sT 4 ?_);refine b0a rfl _ (.tmp 4) (.tmp 20) rfl h rfl _ zs cs rfl Z2 20 s0a HZ HN HN1 ?_;intro w9 K9 O9 hg9)
   | fail)
  have L9:=hI (c0a L2.out O9.out hhw);refine bodyPost_ret (v:=.tuple #[.agg cs.toArray,.bool true]) ?_ rfl (HQ.out _ _ ⟨_,rfl,HI.out w9 L9.out,L9.out⟩);exact m0a rfl _ _ h _ _ (0,0) _ rfl K9.out Tryz.underlying39 rfl (by rw[s0a];have:=HN.out;simp[this]) rfl
 by_cases h2:c=2
 ·subst h2;have e0:(if U0a 2=true then o1a 2 a else q0a)=a:=rfl;rw[e0,show U0a 2=true from rfl] at HQ;clear e0;obtain⟨X1,X2,X3,M1,M2,M3,rfl,hX,hM⟩:=ha;have HI:Hid (∀w':World,Below w.heap.size w w'->n1a w' w'.heap.size (r0a (.slice X1 X2 X3) (.slice M1 M2 M3) a) (a)):=λw' hb=>⟨X1,X2,X3,M1,M2,M3,rfl,hX.over hb,hM.over hb⟩
  have HN:Hid ((r0a (.slice X1 X2 X3) (.slice M1 M2 M3) a).length=20):=U1a (ka);have HN1:Hid (∀v∈r0a (.slice X1 X2 X3) (.slice M1 M2 M3) a,v.oneCell'=true):=J1a rfl rfl;obtain⟨cs,hcs⟩:∃c,c=r0a (.slice X1 X2 X3) (.slice M1 M2 M3) a:=⟨_,rfl⟩;rw[<-hcs] at HL HO1 HI HN HN1⊢;clear hcs HA hX hM;go_enter Tryz.func116,Tryz.ntmps116;go_wp2_with(first
   | ((with_reducible refine sN 3 ?_);refine f0a rfl _ (.tmp 1) rfl cs rfl ?_;intro g w1 hg1 hg2 K1 L1)
   | ((with_reducible refine sN 4 ?_);refine a0a rfl _ rfl zs _ ZH ?_;intro h w2 hg3 hg4 Z2 L02;have G2:=hI (K1.out.over L02.out);have L2:=hI (step L1.out L02.out);have hgh:g≠h:=(by omega);have hhw:w.heap.size<=h:=(by have:=L1.out.size;omega))
   | ((with_reducible refine sN 20 ?_);refine e0a rfl _ (.tmp 3) rfl g rfl _ cs G2 20 _ Tryz.underlying39 rfl s0a HN ?_)
   | ((with_reducible refine sT 4 ?_);refine b0a rfl _ (.tmp 4) (.tmp 20) rfl h rfl _ zs cs rfl Z2 20 s0a HZ HN HN1 ?_;intro w9 K9 O9 hg9)
   | fail)
  have L9:=hI (c0a L2.out O9.out hhw);refine bodyPost_ret (v:=.tuple #[.agg cs.toArray,.bool true]) ?_ rfl (HQ.out _ _ ⟨_,rfl,HI.out w9 L9.out,L9.out⟩);exact m0a rfl _ _ h _ _ (0,0) _ rfl K9.out Tryz.underlying39 rfl (by rw[s0a];have:=HN.out;simp[this]) rfl
 by_cases h4:c=4
 ·subst h4;have e0:(if U0a 4=true then o1a 4 a else q0a)=a:=rfl;rw[e0,show U0a 4=true from rfl] at HQ;clear e0;obtain⟨X1,X2,X3,M1,M2,M3,rfl,hX,hM⟩:=ha;have HI:Hid (∀w':World,Below w.heap.size w w'->n1a w' w'.heap.size (r0a (.slice X1 X2 X3) (.slice M1 M2 M3) a) (a)):=λw' hb=>⟨X1,X2,X3,M1,M2,M3,rfl,hX.over hb,hM.over hb⟩
  have HN:Hid ((r0a (.slice X1 X2 X3) (.slice M1 M2 M3) a).length=20):=U1a (ka);have HN1:Hid (∀v∈r0a (.slice X1 X2 X3) (.slice M1 M2 M3) a,v.oneCell'=true):=J1a rfl rfl;obtain⟨cs,hcs⟩:∃c,c=r0a (.slice X1 X2 X3) (.slice M1 M2 M3) a:=⟨_,rfl⟩;rw[<-hcs] at HL HO1 HI HN HN1⊢;clear hcs HA hX hM;go_enter Tryz.func116,Tryz.ntmps116;go_wp2_with(first
   | ((with_reducible refine sN 3 ?_);refine f0a rfl _ (.tmp 1) rfl cs rfl ?_;intro g w1 hg1 hg2 K1 L1)
   | ((with_reducible refine sN 4 ?_);refine a0a rfl _ rfl zs _ ZH ?_;intro h w2 hg3 hg4 Z2 L02;have G2:=hI (K1.out.over L02.out);have L2:=hI (step L1.out L02.out);have hgh:g≠h:=(by omega);have hhw:w.heap.size<=h:=(by have:=L1.out.size;omega))
   | ((with_reducible refine sN 20 ?_);refine e0a rfl _ (.tmp 3) rfl g rfl _ cs G2 20 _ Tryz.underlying39 rfl s0a HN ?_)
   | ((with_reducible refine sT 4 ?_);refine b0a rfl _ (.tmp 4) (.tmp 20) rfl h rfl _ zs cs rfl Z2 20 s0a HZ HN HN1 ?_;intro w9 K9 O9 hg9)
   | fail)
  have L9:=hI (c0a L2.out O9.out hhw);refine bodyPost_ret (v:=.tuple #[.agg cs.toArray,.bool true]) ?_ rfl (HQ.out _ _ ⟨_,rfl,HI.out w9 L9.out,L9.out⟩);exact m0a rfl _ _ h _ _ (0,0) _ rfl K9.out Tryz.underlying39 rfl (by rw[s0a];have:=HN.out;simp[this]) rfl
 by_cases h13:c=13
 ·subst h13;have e0:(if U0a 13=true then o1a 13 a else q0a)=a:=rfl;rw[e0,show U0a 13=true from rfl] at HQ;clear e0;obtain⟨X1,X2,X3,M1,M2,M3,rfl,hX,hM⟩:=ha;have HI:Hid (∀w':World,Below w.heap.size w w'->n1a w' w'.heap.size (r0a (.slice X1 X2 X3) (.slice M1 M2 M3) a) (a)):=λw' hb=>⟨X1,X2,X3,M1,M2,M3,rfl,hX.over hb,hM.over hb⟩
  have HN:Hid ((r0a (.slice X1 X2 X3) (.slice M1 M2 M3) a).length=20):=U1a (ka);have HN1:Hid (∀v∈r0a (.slice X1 X2 X3) (.slice M1 M2 M3) a,v.oneCell'=true):=J1a rfl rfl;obtain⟨cs,hcs⟩:∃c,c=r0a (.slice X1 X2 X3) (.slice M1 M2 M3) a:=⟨_,rfl⟩;rw[<-hcs] at HL HO1 HI HN HN1⊢;clear hcs HA hX hM;go_enter Tryz.func116,Tryz.ntmps116;go_wp2_with(first
   | ((with_reducible refine sN 3 ?_);refine f0a rfl _ (.tmp 1) rfl cs rfl ?_;intro g w1 hg1 hg2 K1 L1)
   | ((with_reducible refine sN 4 ?_);refine a0a rfl _ rfl zs _ ZH ?_;intro h w2 hg3 hg4 Z2 L02;have G2:=hI (K1.out.over L02.out);have L2:=hI (step L1.out L02.out);have hgh:g≠h:=(by omega);have hhw:w.heap.size<=h:=(by have:=L1.out.size;omega))
   | ((with_reducible refine sN 20 ?_);refine e0a rfl _ (.tmp 3) rfl g rfl _ cs G2 20 _ Tryz.underlying39 rfl s0a HN ?_)
   | ((with_reducible refine sT 4 ?_);refine b0a rfl _ (.tmp 4) (.tmp 20) rfl h rfl _ zs cs rfl Z2 20 s0a HZ HN HN1 ?_;intro w9 K9 O9 hg9)
   | fail)
  have L9:=hI (c0a L2.out O9.out hhw);refine bodyPost_ret (v:=.tuple #[.agg cs.toArray,.bool true]) ?_ rfl (HQ.out _ _ ⟨_,rfl,HI.out w9 L9.out,L9.out⟩);exact m0a rfl _ _ h _ _ (0,0) _ rfl K9.out Tryz.underlying39 rfl (by rw[s0a];have:=HN.out;simp[this]) rfl
 have hk:U0a c=false:=by unfold U0a;simp;omega
 rw[if_neg (by rw[hk];decide),hk] at HQ;have b0:(c==0)=false:=by simpa using h0
 have b1:(c==1)=false:=by simpa using h1
 have b3:(c==3)=false:=by simpa using h3
 have b2:(c==2)=false:=by simpa using h2
 have b4:(c==4)=false:=by simpa using h4
 have b13:(c==13)=false:=by simpa using h13
 go_enter Tryz.func116,Tryz.ntmps116;go_wp2_with(first
  | ((with_reducible refine sN 3 ?_);refine f0a rfl _ (.tmp 1) rfl cs rfl ?_;intro g w1 hg1 hg2 K1 L1)
  | ((with_reducible refine sN 4 ?_);refine a0a rfl _ rfl zs _ ZH ?_;intro h w2 hg3 hg4 Z2 L02;have G2:=hI (K1.out.over L02.out);have L2:=hI (step L1.out L02.out);have hgh:g≠h:=(by omega);have hhw:w.heap.size<=h:=(by have:=L1.out.size;omega))
  | ((with_reducible refine sN 7 ?_);refine x0a rfl _ rfl zs BZ ?_)
  | ((with_reducible refine sT 4 ?_);refine b0a rfl _ (.tmp 4) (.tmp 7) rfl h rfl _ zs zs rfl Z2 20 s0a HZ HZ HZ1 ?_;intro w9 K9 O9 hg9)
  | fail)
 have L9:=hI (c0a L2.out O9.out hhw);refine bodyPost_ret (v:=.tuple #[.agg zs.toArray,.bool false]) ?_ rfl (HQ.out _ _ ⟨_,rfl,HZI.out w9,L9.out⟩);exact m0a rfl _ _ h _ _ (0,0) _ rfl K9.out Tryz.underlying39 rfl (by rw[s0a];have:=HZ.out;simp[this]) rfl
def u1a(xs:List Int):List Int:=xs.flatMap (λd=>le d 2)
def r3a(a:m1a):List Int:=le a.dial.length 2++u1a a.dial++a.guid
theorem t4a(xs:List Int):(u1a xs).length=2*xs.length:=by
 induction xs with
 | nil=>rfl
 | cons x xs ih=>rw[show u1a (x::xs)=le x 2++u1a xs from rfl,List.length_append,g0a,ih,List.length_cons];omega
theorem H9a(xs:List Int)(x:Int):u1a (xs++[x])=u1a xs++le x 2:=by simp[u1a]
theorem k3b(xs:List Int):Bytes (u1a xs):=by
 induction xs with
 | nil=>exact Bytes.nil
 | cons x xs ih=>exact(F0a x 2).append ih
theorem j1b(w:World)(n:Int)(h0:0<=n)(h1:n<=65535) :
  Calls Tryz.prog 118 #[.int .u64 n,.int .i64 2] w λe w'=>∃A',e=.returned (.slice A' 2 2)/\r2a w' w.heap.size A' (le n 2)/\Below w.heap.size w w':=by
 obtain⟨m,rfl⟩:=Int.eq_ofNat_of_zero_le h0;have h:=x6b w (m:Int) 2 (by omega) (by omega);unfold V4b at h;rw[(H0c m (by omega)).1,g0a] at h;exact h
theorem V3b{vd vx vl:Value}{a:m1a}{w:World}{g:Nat}{T:TypeId}(k:a.ok)(h:Blk w g T (j0a vd vx vl a)):Holds w w.heap.size (some ⟨g,1,none⟩) 16 16 a.guid:=by
 have hr:=m6a h k;refine⟨k.glen,Nat.le_refl _,by decide,k.gbyte,λhA=>(by cases hA),λ_=>⟨g,1,rfl,h.lt,λi hi=>?_⟩⟩;rw[hr i (.int .u8 (a.guid.getD i 0)) (by
  have:i<a.guid.length:=by rw[k.glen];exact hi
  simp[List.getD_eq_getElem?_getD,this])]
theorem l3b{vd vx vl:Value}{a:m1a}{w:World}{g:Nat}{T:TypeId}(k:a.ok)(h:Blk w g T (j0a vd vx vl a)):Holds w w.heap.size (some ⟨g,17,none⟩) 32 32 a.proof:=by
 have hr:=x5a h k;refine⟨k.plen,Nat.le_refl _,by decide,k.pbyte,λhA=>(by cases hA),λ_=>⟨g,17,rfl,h.lt,λi hi=>?_⟩⟩;rw[hr i (.int .u8 (a.proof.getD i 0)) (by
  have:i<a.proof.length:=by rw[k.plen];exact hi
  simp[List.getD_eq_getElem?_getD,this])]
theorem W3b{vx ve:Value}{s:M1a}{w:World}{g:Nat}{T:TypeId}(k:s.ok)(h:Blk w g T (r0a vx ve s)):Holds w w.heap.size (some ⟨g,2,none⟩) 8 8 s.chal:=by
 have hr:=n6a h k;refine⟨k.clen,Nat.le_refl _,by decide,k.cbyte,λhA=>(by cases hA),λ_=>⟨g,2,rfl,h.lt,λi hi=>?_⟩⟩;rw[hr i (.int .u8 (s.chal.getD i 0)) (by
  have:i<s.chal.length:=by rw[k.clen];exact hi
  simp[List.getD_eq_getElem?_getD,this])]
section
variable {P:Program} {ops:Array Oper} {Q:Exit->Act->World->Prop}
theorem D6b{md:Region.Mode}{S:World->Prop}(i j:Nat)(oi oj:Oper){fuel:Nat}{listed:Array Bool}{a:Act}{w:World}(hr:Region.ready md ops listed=[i,j])(hi:ops[i]? = some oi)(hj:ops[j]? = some oj)
(h1:∀K:Act->World->Prop,(∀a' w',S w'->wpAnyH P md ops Q S fuel (listed.setIfInBounds i true) a' w'->K a' w')->if Region.wanted oi (yielded ops a.tmps)=true then oi.wp P a w K Q else K (a.put oi.dst undef) w)
(h2:∀K:Act->World->Prop,(∀a' w',S w'->wpAnyH P md ops Q S fuel (listed.setIfInBounds j true) a' w'->K a' w')->if Region.wanted oj (yielded ops a.tmps)=true then oj.wp P a w K Q else K (a.put oj.dst undef) w) :
  wpAnyH P md ops Q S (fuel+1) listed a w:=by
 refine wpAnyH_all hr (by simp) λq hq=>?_
 rcases List.mem_cons.1 hq with rfl | hq
 ·have h3:=h1 (λa' w'=>S w'/\wpAnyH P md ops Q S fuel (listed.setIfInBounds q true) a' w') λ_ _ h2 h3=>⟨h2,h3⟩
  unfold wpOp;simp only[hi];by_cases hw:Region.wanted oi (yielded ops a.tmps)=true
  ·rw[if_pos hw] at h3⊢;exact .inl h3
  ·rw[if_neg hw] at h3⊢;exact h3
 ·obtain rfl:=List.mem_singleton.1 hq;have h3:=h2 (λa' w'=>S w'/\wpAnyH P md ops Q S fuel (listed.setIfInBounds q true) a' w') λ_ _ h2 h3=>⟨h2,h3⟩
  unfold wpOp;simp only[hj];by_cases hw:Region.wanted oj (yielded ops a.tmps)=true
  ·rw[if_pos hw] at h3⊢;exact .inl h3
  ·rw[if_neg hw] at h3⊢;exact h3
end
def k1a(c:Int)(a:m1a):Int:=if U0a c=true/\c1a c a=i0a then (if c=0 then (if a.dial.length<=16 then 0 else 3) else if c=1 then y0a a.user.data.toList else if c=3 then y0a a.share.data.toList else 0) else 2
def H2a(c:Int)(a:m1a):List Int:=if k1a c a=0 then (if c=0 then r3a a else if c=1 then a.proof++A0a a.user.data.toList else if c=3 then A0a a.share.data.toList else List.replicate 4 0) else []
def z1a(c:Int)(s:M1a):Int:=if U0a c=true/\o1a c s=q0a/\(c=0->s.siz<4294967296) then 0 else 2
def L2a(c:Int)(s:M1a):List Int:=if z1a c s=0 then (if c=0 then le s.dia 2++List.replicate 2 0++le s.siz 4++s.chal else List.replicate 4 0) else []
def M9b(w:World)(c:Int)(a:m1a)(e:Ending)(w':World):Prop:=∃v,e=.returned (.tuple #[v,.int .i64 (k1a c a)])/\Own w' w.heap.size v (H2a c a)/\Below w.heap.size w w'
def N9b(w:World)(c:Int)(s:M1a)(e:Ending)(w':World):Prop:=∃v,e=.returned (.tuple #[v,.int .i64 (z1a c s)])/\Own w' w.heap.size v (L2a c s)/\Below w.heap.size w w'
theorem s3a{o:Oper}{ops:Array Oper}{a:Act}{w:World}{K:Act->World->Prop}{Q:Exit->Act->World->Prop}{E:Prop}(hg:o.guard=none)(l c:Operand)(hop:o.op=Op.makeSlice 31 l c)(n:Nat)(hl:a.eval l=.int .i64 (n:Int))(hc:a.eval c=.int .i64 (n:Int))(hn:n<=281474976710656)
(hK:∀w',Hid (Row w' w.heap.size (List.replicate n 0))->Hid (Below w.heap.size w w')->K (a.put o.dst (.slice (some ⟨w.heap.size,0,none⟩) n n)) w') :
  if Region.wanted o (yielded ops a.tmps)=true then Oper.wp Tryz.prog o a w K Q else E:=by
 rw[if_pos (by simp[Region.wanted,hg])];have hrun:=run_make_row' (P:=Tryz.prog) 31 5 (.int .u8 0) 1 Tryz.underlying31 N3a rfl .i64 .i64 n (by omega) (by omega) w;unfold Oper.wp;simp[execOp,hop,hl,hc,hrun,Result.andThen];refine hK _ ?_ ((Below.refl _ _).alloc (Nat.le_refl _) _);show(w.alloc _).heap[w.heap.size]? = _
 rw[heap_alloc_new];have h:=toList_madeCells_one (.int .u8 0) n;rw[List.map_replicate,<-h]
theorem o4a.of_blk{w:World}{g:Nat}{T:TypeId}(l:List d3b)(h:Blk w g T (l.map O3b))(hh:∀p∈l,Holds w w.heap.size p.1 p.2.1 p.2.2.1 p.2.2.2):o4a w g l.length (Y1b l) (R0b l) (Z1b l) (d4a l):=by
 refine⟨h.lt,λi hi=>?_,λi hi=>?_⟩
 ·rw[h.cell];simp[Y1b,R0b,Z1b,List.getD_eq_getElem?_getD,hi,O3b]
 ·have he:l.getD i t6b=l[i]:=by simp[List.getD_eq_getElem?_getD,hi]
  have:=hh l[i] (List.getElem_mem hi);unfold Y1b R0b Z1b d4a;rw[he];exact this
theorem k3a(l:List UInt8):(A0a l).length<=514:=by
 unfold A0a;split
 ·rename_i h;have h2:(S1a l).length<=512:=by
   unfold y0a at h;by_cases ht:q3a l=0
   ·rw[if_pos ht] at h;by_cases hm:(S1a l).length<=512
    ·exact hm
    ·rw[if_neg hm] at h;exact absurd h (by decide)
   ·rw[if_neg ht] at h;exact absurd h ht
  rw[M7b _ (by omega)];omega
 ·simp
theorem b2a(l:List UInt8):Bytes (A0a l):=by
 unfold A0a;split
 ·exact Q4b (M0b l)
 ·exact Bytes.nil
structure Rd where
 p:Nat
 e:Int
def rdN(xs:List Int)(s:Nat)(r:Rd):Int×Rd:=if r.e=0 then (if xs.length<r.p+s then (0,⟨r.p,4⟩) else (Z0a xs r.p s,⟨r.p+s,0⟩)) else (0,r)
def b1a(xs:List Int)(s:Nat)(most er:Int)(r:Rd):Int×Rd:=if (rdN xs s r).2.e=0/\most<(rdN xs s r).1 then (0,⟨(rdN xs s r).2.p,er⟩) else rdN xs s r
def v0a(xs:List Int)(m:Nat)(r:Rd):List Int×Rd:=if r.e=0 then (if xs.length<r.p+m then ([],⟨r.p,4⟩) else ((xs.drop r.p).take m,⟨r.p+m,0⟩)) else ([],r)
def L1a(xs:List Int)(r:Rd):List UInt8×Rd:=if r.e=0 then (X1a xs r.p,⟨if Y0a xs r.p=0 then (a1a xs r.p).toNat else r.p,Y0a xs r.p⟩) else ([],r)
def H0a(xs:List Int)(r:Rd):Int:=if r.e=0/\r.p≠xs.length then 5 else r.e
theorem k1b{P:Program}{f:FuncId}{args:Array Value}{w:World}{n:Nat}{v:Value}
(h:Calls P f args (w.drewN n) λe w'=>e=.returned v/\w.drewN n=w'):Calls P f args (w.drewN n) λe w''=>e=.returned v/\∃m,w''=w.drewN m:=h.mono λ_ _ ⟨he,hm⟩=>⟨he,n,hm.symm⟩
theorem E3a(g:Nat)(w:World)(k:Nat):Q0a g w (w.drewN k):=⟨rfl,rfl,rfl,Nat.le_refl _,λ_ _ _=>rfl⟩
theorem Q0a.setCell{g:Nat}{w w':World}(h:Q0a g w w')(i:Nat)(v:Value):Q0a g w (w'.setCell ⟨g,i,none⟩ v):=h.trans (Q0a.of_only (g1a w' g i v))
theorem Q0a.drewN{g:Nat}{w w':World}(h:Q0a g w w')(k:Nat):Q0a g w (w'.drewN k):=h.trans (E3a g w' k)
theorem e5b(g:Nat)(w:World):(Instr.fieldAt 135 (.pointer (some ⟨g,0,none⟩)) 0).run Tryz.prog w=.ok (.pointer (some ⟨g,0,none⟩)) w:=by go_simp
theorem f5b(g:Nat)(w:World):(Instr.fieldAt 135 (.pointer (some ⟨g,0,none⟩)) 1).run Tryz.prog w=.ok (.pointer (some ⟨g,1,none⟩)) w:=by go_simp
def PRd(w:World)(g:Nat)(T:TypeId)(A:Option Addr)(n c:Nat)(r:Rd)(rest:List Value):Prop:=Blk w g T (.slice A n c::.int .i64 r.p::.int .i64 r.e::rest)
def C4a(w:World)(g:Nat)(T:TypeId)(A:Option Addr)(n c:Nat)(q:List Int×Rd)(rest:List Value)(e:Ending)(w':World):Prop:=∃A' m,e=.returned (.slice A' m m)/\m=q.1.length/\PRd w' g T A n c q.2 rest/\r2a w' w.heap.size A' q.1/\Q0a g w w'/\(¬q.2.e=0->A'=none/\m=0)
theorem r2a.onlyW{w w':World}{base g:Nat}{A:Option Addr}{xs:List Int}(h:r2a w base A xs)(hO:T1a g w w')(hg:g<base):r2a w' base A xs:=by
 rcases h with h | ⟨k,h1,h2,h3⟩
 ·exact .inl h
 ·exact .inr ⟨k,h1,h2,h3.only hO (by omega)⟩
theorem Q5a{xs:List Int}{m:Nat}{r:Rd}:(v0a xs m r).1.length<=m:=by
 unfold v0a;split
 ·split
  ·simp
  ·simp;omega
 ·simp
theorem u2a{xs:List Int}(h:Bytes xs)(m:Nat)(r:Rd):Bytes (v0a xs m r).1:=by
 unfold v0a;split
 ·split
  ·exact Bytes.nil
  ·exact(h.drop _).take _
 ·exact Bytes.nil
theorem z5a{xs:List Int}{m n:Nat}{r:Rd}(hl:xs.length=n)(h:r.p<=n):(v0a xs m r).2.p<=n:=by
 unfold v0a;split
 ·split
  ·exact h
  ·show r.p+m<=n;omega
 ·exact h
theorem m3b(w:World)(g:Nat)(T:TypeId)(A:Option Addr)(n c:Nat)(xs:List Int)(r:Rd)(m:Nat)(rest:List Value)(hB:PRd w g T A n c r rest)(hx:Holds w w.heap.size A n c xs)(hp:r.p<=n)(hm:m<=65536) :
  Calls Tryz.prog 163 #[.pointer (some ⟨g,0,none⟩),.int .i64 (m:Int)] w (C4a w g T A n c (v0a xs m r) rest):=by
 obtain⟨p,er⟩:=r;change p<=n at hp
 have hl:=hx.len;have hrm:=hx.room;have hft:=hx.fit;have hlt:=hB.lt;have HR0:Hid (Blk w g T (.slice A n c::.int .i64 (p:Int)::.int .i64 er::rest)):=hB;have c2:w.cell? ⟨g,2,none⟩=some (.int .i64 er):=Blk.at hB rfl;by_cases he:er=0;rotate_left
 ·have HQ:Hid (∀e w',(∃A' m,e=.returned (.slice A' m m)/\m=0/\Blk w' g T (.slice A n c::.int .i64 (p:Int)::.int .i64 er::rest)/\r2a w' w.heap.size A' []/\Q0a g w w'/\(¬er=0->A'=none/\m=0))->C4a w g T A n c (v0a xs m ⟨p,er⟩) rest e w'):=by intro e w' hh;unfold v0a;rw[if_neg he];exact hh
  have hne:(er != 0)=true:=by simpa using he
  clear hB hx hl he;go_enter Tryz.func163,Tryz.ntmps163;go_wp2;go_ret;exact HQ.out _ _ ⟨none,0,rfl,rfl,HR0.out,T0b _ _,Q0a.refl g w,λ_=>⟨rfl,rfl⟩⟩
 subst he;have C1:=D7a w A n c xs (p:Int) (m:Int) hx (by omega) (by omega);unfold c4a at C1;have ep:R0a xs.length (p:Int) (m:Int)=if n<p+m then 4 else 0:=by
  unfold R0a;rw[hl,if_neg (by omega)];by_cases h5:n<p+m
  ·rw[if_pos h5,if_pos (by omega)]
  ·rw[if_neg h5,if_neg (by omega)]
 rw[ep] at C1;by_cases hr:n<p+m
 ·have HQ:Hid (∀e w',(∃A' m,e=.returned (.slice A' m m)/\m=0/\Blk w' g T (.slice A n c::.int .i64 (p:Int)::.int .i64 4::rest)/\r2a w' w.heap.size A' []/\Q0a g w w'/\(¬(4:Int)=0->A'=none/\m=0))->C4a w g T A n c (v0a xs m ⟨p,0⟩) rest e w'):=by intro e w' hh;unfold v0a;rw[if_pos rfl,if_pos (by rw[hl];exact hr)];exact hh
  rw[if_pos hr] at C1 ep;have ep2:partOf xs (p:Int) (m:Int)=[]:=by unfold partOf;rw[ep,if_neg (by decide)]
  rw[ep2] at C1;have C1':Hid (∀k,Calls Tryz.prog 58 #[.slice A n c,.int .i64 (p:Int),.int .i64 (m:Int)] (w.drewN k) λe w'=>∃A',e=.returned (.tuple #[.slice A' 0 0,.int .i64 4])/\Below (w.drewN k).heap.size (w.drewN k) w'):=λk=>by have h1:=D7a (w.drewN k) A n c xs (p:Int) (m:Int) (hx.drewN k) (by omega) (by omega);unfold c4a at h1;rw[ep,ep2] at h1;exact h1.mono λe w' ⟨A',h1,_,h3⟩=>⟨A',h1,h3⟩
  clear hB hx hl C1 ep ep2;go_enter Tryz.func163,Tryz.ntmps163;go_upto_region 3 with fail
  refine wp_region_held (S:=λw'=>Blk w' g T (.slice A n c::.int .i64 (p:Int)::.int .i64 0::rest)) (by kernel_rfl) ?_;change wpAnyH _ _ _ _ _ _ _ _ w.drew
  have S0:Hid (Blk w.drew g T (.slice A n c::.int .i64 (p:Int)::.int .i64 0::rest)):=HR0.out.drew;have b0:Hid (Below w.heap.size w w.drew):=(G2a w 1);refine tK 0 _ rfl (u0a (by kernel_rfl) (.tmp 0) rfl (.pointer (some ⟨g,0,none⟩)) (by kernel_rfl)) S0.out ?_;refine tK 1 _ rfl (I0a (by kernel_rfl) (.tmp 13) rfl ⟨g,0,none⟩ (by kernel_rfl)) S0.out ?_;refine tK 2 _ rfl (w0a (by kernel_rfl) _ (.tmp 14) 0 rfl (.pointer (some ⟨g,0,none⟩)) (.pointer (some ⟨g,0,none⟩)) (by kernel_rfl) (e5b g)) S0.out ?_;refine tK 3 _ rfl (l0a (by kernel_rfl) _ (.tmp 15) rfl g 0 (by kernel_rfl) (.slice A n c) (λw h=>h.at rfl) _ Tryz.underlying31 rfl) S0.out ?_;refine tK 4 _ rfl (u0a (by kernel_rfl) (.tmp 0) rfl (.pointer (some ⟨g,0,none⟩)) (by kernel_rfl)) S0.out ?_;refine tK 5 _ rfl (I0a (by kernel_rfl) (.tmp 17) rfl ⟨g,0,none⟩ (by kernel_rfl)) S0.out ?_;refine tK 6 _ rfl (w0a (by kernel_rfl) _ (.tmp 18) 1 rfl (.pointer (some ⟨g,0,none⟩)) (.pointer (some ⟨g,1,none⟩)) (by kernel_rfl) (f5b g)) S0.out ?_;refine tK 7 _ rfl (l0a (by kernel_rfl) _ (.tmp 19) rfl g 1 (by kernel_rfl) (.int .i64 (p:Int)) (λw h=>h.at rfl) _ Tryz.underlying3 rfl) S0.out ?_;refine tK 8 _ rfl (u0a (by kernel_rfl) (.tmp 1) rfl (.int .i64 (m:Int)) (by kernel_rfl)) S0.out ?_;refine oN 9 _ rfl λK hK=>?_
  go_simp;refine(C1'.out 1).mono ?_;rintro e v1 ⟨A',rfl,L1⟩;have S1:Hid (Blk v1 g T (.slice A n c::.int .i64 (p:Int)::.int .i64 0::rest)):=S0.out.over L1;have b1:Hid (Below w.heap.size w v1):=step b0.out L1;refine hK _ _ S1.out ?_;clear hK K L1;refine tK 10 ((.tuple #[.slice A' 0 0,.int .i64 4])) rfl (.inl ⟨by kernel_rfl,λw _=>by go_simp⟩) S1.out ?_;refine tK 11 ((.slice A' 0 0)) rfl (.inl ⟨by kernel_rfl,λw _=>by go_simp⟩) S1.out ?_;refine tK 12 ((.int .i64 4)) rfl (.inl ⟨by kernel_rfl,λw _=>by go_simp⟩) S1.out ?_;refine tK 13 ((.slice A' 0 0)) rfl (.inl ⟨by kernel_rfl,λw _=>by go_simp⟩) S1.out ?_;refine tK 14 ((.int .i64 4)) rfl (.inl ⟨by kernel_rfl,λw _=>by go_simp⟩) S1.out ?_;refine dN ?_;have S1':=hI S1.out;have gd:v1.cell? ⟨g,2,none⟩=some (.int .i64 0):=S1.out.at rfl;have gf:=Blk.frozen S1.out 2;go_wp2;go_ret;exact HQ.out _ _ ⟨none,0,rfl,rfl,Blk.set S1'.out 2 _,T0b _ _,(Q0a.of_below b1.out g).setCell 2 _,λ_=>⟨rfl,rfl⟩⟩
 ·have HQ:Hid (∀e w',(∃A' k,e=.returned (.slice A' k k)/\k=m/\Blk w' g T (.slice A n c::.int .i64 ((p:Int)+m)::.int .i64 0::rest)/\r2a w' w.heap.size A' ((xs.drop p).take m)/\Q0a g w w')->C4a w g T A n c (v0a xs m ⟨p,0⟩) rest e w'):=by rintro e w' ⟨A',k,h1,h2,h3,h4,h5⟩;unfold v0a;rw[if_pos rfl,if_neg (by rw[hl];exact hr)];unfold C4a PRd;rw[show((p+m:Nat):Int)=(p:Int)+m from by omega];exact⟨A',k,h1,by show k=((xs.drop p).take m).length;rw[h2,List.length_take,List.length_drop];omega,h3,h4,h5,λh=>absurd rfl h⟩
  rw[if_neg hr] at C1 ep;have ep2:partOf xs (p:Int) (m:Int)=(xs.drop p).take m:=by unfold partOf;rw[ep,if_pos rfl];rfl
  have el:((xs.drop p).take m).length=m:=by rw[List.length_take,List.length_drop];omega
  have C1':Hid (∀k,Calls Tryz.prog 58 #[.slice A n c,.int .i64 (p:Int),.int .i64 (m:Int)] (w.drewN k) λe w'=>∃A',e=.returned (.tuple #[.slice A' m m,.int .i64 0])/\r2a w' (w.drewN k).heap.size A' ((xs.drop p).take m)/\Below (w.drewN k).heap.size (w.drewN k) w'):=λk=>by have h1:=D7a (w.drewN k) A n c xs (p:Int) (m:Int) (hx.drewN k) (by omega) (by omega);unfold c4a at h1;rw[ep,ep2,el] at h1;exact h1
  obtain⟨ys,hys⟩:∃ys,ys=(xs.drop p).take m:=⟨_,rfl⟩;rw[<-hys] at HQ C1';have hwr:IntKind.i64.wrap ((p:Int)+m)=(p:Int)+m:=by rw[IntKind.wrap_i64];omega
  clear hB hx hl C1 ep ep2 el hys;go_enter Tryz.func163,Tryz.ntmps163;go_upto_region 3 with fail
  refine wp_region_held (S:=λw'=>Blk w' g T (.slice A n c::.int .i64 (p:Int)::.int .i64 0::rest)) (by kernel_rfl) ?_;change wpAnyH _ _ _ _ _ _ _ _ w.drew
  have S0:Hid (Blk w.drew g T (.slice A n c::.int .i64 (p:Int)::.int .i64 0::rest)):=HR0.out.drew;have b0:Hid (Below w.heap.size w w.drew):=(G2a w 1);refine tK 0 _ rfl (u0a (by kernel_rfl) (.tmp 0) rfl (.pointer (some ⟨g,0,none⟩)) (by kernel_rfl)) S0.out ?_;refine tK 1 _ rfl (I0a (by kernel_rfl) (.tmp 13) rfl ⟨g,0,none⟩ (by kernel_rfl)) S0.out ?_;refine tK 2 _ rfl (w0a (by kernel_rfl) _ (.tmp 14) 0 rfl (.pointer (some ⟨g,0,none⟩)) (.pointer (some ⟨g,0,none⟩)) (by kernel_rfl) (e5b g)) S0.out ?_;refine tK 3 _ rfl (l0a (by kernel_rfl) _ (.tmp 15) rfl g 0 (by kernel_rfl) (.slice A n c) (λw h=>h.at rfl) _ Tryz.underlying31 rfl) S0.out ?_;refine tK 4 _ rfl (u0a (by kernel_rfl) (.tmp 0) rfl (.pointer (some ⟨g,0,none⟩)) (by kernel_rfl)) S0.out ?_;refine tK 5 _ rfl (I0a (by kernel_rfl) (.tmp 17) rfl ⟨g,0,none⟩ (by kernel_rfl)) S0.out ?_;refine tK 6 _ rfl (w0a (by kernel_rfl) _ (.tmp 18) 1 rfl (.pointer (some ⟨g,0,none⟩)) (.pointer (some ⟨g,1,none⟩)) (by kernel_rfl) (f5b g)) S0.out ?_;refine tK 7 _ rfl (l0a (by kernel_rfl) _ (.tmp 19) rfl g 1 (by kernel_rfl) (.int .i64 (p:Int)) (λw h=>h.at rfl) _ Tryz.underlying3 rfl) S0.out ?_;refine tK 8 _ rfl (u0a (by kernel_rfl) (.tmp 1) rfl (.int .i64 (m:Int)) (by kernel_rfl)) S0.out ?_;refine oN 9 _ rfl λK hK=>?_
  go_simp;refine(C1'.out 1).mono ?_;rintro e v1 ⟨A',rfl,hfr,L1⟩;have S1:Hid (Blk v1 g T (.slice A n c::.int .i64 (p:Int)::.int .i64 0::rest)):=S0.out.over L1;have b1:Hid (Below w.heap.size w v1):=step b0.out L1;have HF:Hid (r2a v1 w.heap.size A' ys):=hfr;refine hK _ _ S1.out ?_;clear hK K hfr L1;refine tK 10 ((.tuple #[.slice A' m m,.int .i64 0])) rfl (.inl ⟨by kernel_rfl,λw _=>by go_simp⟩) S1.out ?_;refine tK 11 ((.slice A' m m)) rfl (.inl ⟨by kernel_rfl,λw _=>by go_simp⟩) S1.out ?_;refine tK 12 ((.int .i64 0)) rfl (.inl ⟨by kernel_rfl,λw _=>by go_simp⟩) S1.out ?_;refine tK 13 ((.slice A' m m)) rfl (.inl ⟨by kernel_rfl,λw _=>by go_simp⟩) S1.out ?_;refine tK 14 ((.int .i64 0)) rfl (.inl ⟨by kernel_rfl,λw _=>by go_simp⟩) S1.out ?_;refine dN ?_;have S1':=hI S1.out;have gd:v1.cell? ⟨g,2,none⟩=some (.int .i64 0):=S1.out.at rfl;have gd1:v1.cell? ⟨g,1,none⟩=some (.int .i64 (p:Int)):=S1.out.at rfl;have gf:=Blk.frozen S1.out 1;go_wp2;go_ret;exact HQ.out _ _ ⟨A',m,rfl,rfl,Blk.set S1'.out 1 _,HF.out.onlyW (g1a _ g 1 _) hlt,(Q0a.of_below b1.out g).setCell 1 _⟩
theorem I8a{xs:List Int}{m n:Nat}{r:Rd}(hl:xs.length=n)(h:(v0a xs m r).2.e=0):(v0a xs m r).1.length=m:=by
 unfold v0a at h⊢;by_cases h1:r.e=0
 ·rw[if_pos h1] at h⊢;by_cases h2:xs.length<r.p+m
  ·rw[if_pos h2] at h;exact absurd (show(4:Int)=0 from h) (by decide)
  ·rw[if_neg h2];simp;omega
 ·rw[if_neg h1] at h;exact absurd h h1
theorem E6b{xs:List Int}{m:Nat}{r:Rd}(h:¬(v0a xs m r).2.e=0):(v0a xs m r).1=[]:=by
 unfold v0a at h⊢;by_cases h1:r.e=0
 ·rw[if_pos h1] at h⊢;by_cases h2:xs.length<r.p+m
  ·rw[if_pos h2]
  ·rw[if_neg h2] at h;exact absurd rfl h
 ·rw[if_neg h1]
theorem O9b{xs:List Int}{s:Nat}{r:Rd}(hs:j3a (s:Int)=true):(v0a xs s r).2=(rdN xs s r).2/\r4a (v0a xs s r).1 0 (s:Int)=(rdN xs s r).1:=by
 have hs8:1<=s/\s<=8:=by rcases Q1a hs with h | h | h | h<;>omega
 have h0:r4a [] 0 (s:Int)=0:=by
  have he:j2a 0 0 (s:Int)=4:=by unfold j2a R0a;rw[if_pos hs,if_neg (by omega),if_pos (by omega)]
  show(if j2a 0 0 (s:Int)=0 then _ else _)=_
  rw[he,if_neg (by decide)]
 unfold v0a rdN;by_cases h1:r.e=0
 ·rw[if_pos h1,if_pos h1];by_cases h2:xs.length<r.p+s
  ·rw[if_pos h2,if_pos h2];exact⟨rfl,h0⟩
  ·rw[if_neg h2,if_neg h2];refine⟨rfl,?_⟩;have hl:((xs.drop r.p).take s).length=s:=by rw[List.length_take,List.length_drop];omega
   have he:j2a s 0 (s:Int)=0:=by unfold j2a R0a;rw[if_pos hs,if_neg (by omega),if_neg (by omega)]
   unfold r4a Z0a;rw[hl,he,if_pos rfl];simp[List.take_take]
 ·rw[if_neg h1,if_neg h1];exact⟨rfl,h0⟩
def J8a(w:World)(g:Nat)(T:TypeId)(A:Option Addr)(n c:Nat)(q:Int×Rd)(rest:List Value)(e:Ending)(w':World):Prop:=e=.returned (.int .u64 q.1)/\PRd w' g T A n c q.2 rest/\Q0a g w w'
theorem o6a(w:World)(g:Nat)(T:TypeId)(A:Option Addr)(n c:Nat)(xs:List Int)(r:Rd)(s:Nat)(rest:List Value)(hB:PRd w g T A n c r rest)(hx:Holds w w.heap.size A n c xs)(hp:r.p<=n)(hs:j3a (s:Int)=true) :
  Calls Tryz.prog 119 #[.pointer (some ⟨g,0,none⟩),.int .i64 (s:Int)] w (J8a w g T A n c (rdN xs s r) rest):=by
 have hs8:1<=s/\s<=8:=by rcases Q1a hs with h | h | h | h<;>omega
 obtain⟨hs1,hs8⟩:=hs8;have C1:=m3b w g T A n c xs r s rest hB hx hp (by omega);unfold C4a at C1;obtain⟨e2,e1⟩:=O9b (xs:=xs) (r:=r) hs;have CG:Hid (∀(w:World) (A:Option Addr) (m:Nat),Holds w w.heap.size A m m (v0a xs s r).1->∃er,Calls Tryz.prog 102 #[.slice A m m,.int .i64 0,.int .i64 (s:Int)] w λe w'=>e=.returned (.tuple #[.int .u64 (rdN xs s r).1,.int .i64 er])/\w=w'):=λw A m hh=>by have h1:=c8a w w.heap.size A m m _ 0 (s:Int) hh (by omega) (by omega);rw[e1] at h1;exact⟨_,h1⟩
 have HQ:Hid (∀e w',(e=.returned (.int .u64 (rdN xs s r).1)/\PRd w' g T A n c (rdN xs s r).2 rest/\Q0a g w w')->J8a w g T A n c (rdN xs s r) rest e w'):=λ_ _ h=>h
 rw[e2] at C1;have HYB:=hI (u2a hx.byte s r);have hyl:(v0a xs s r).1.length<=s:=Q5a;obtain⟨ys,hys⟩:∃ys,ys=(v0a xs s r).1:=⟨_,rfl⟩;obtain⟨z,hz⟩:∃z,z=(rdN xs s r).1:=⟨_,rfl⟩;obtain⟨r',hr'⟩:∃z,z=(rdN xs s r).2:=⟨_,rfl⟩;rw[<-hys] at C1 CG HYB hyl;rw[<-hz] at CG HQ;rw[<-hr'] at C1 HQ;have C1':=hI C1;clear C1 e2 e1 hB hx hys hz hr' hp;go_enter Tryz.func119,Tryz.ntmps119;go_wp2_with fail;refine C1'.out.mono ?_;rintro e w1 ⟨A',m,rfl,hm,hB1,hfr,hS,_⟩;have HH:=hI (hfr.holds hm.symm HYB.out (by omega));have HB1:=hI hB1;have HS1:=hI hS;obtain⟨er,CG1⟩:=CG.out _ _ _ HH.out;have CG2:=hI CG1;clear hm hfr hB1 hS CG1 CG hyl;go_wp2_with fail;refine CG2.out.mono ?_;rintro e w2 ⟨rfl,rfl⟩;go_wp2;go_ret;exact HQ.out _ _ ⟨rfl,HB1.out,HS1.out⟩
def rdZ(xs:List Int)(m:Nat)(r:Rd):Rd:=if (v0a xs m r).2.e=0 then (if zeroOf (v0a xs m r).1 0 (m:Int)=true then (v0a xs m r).2 else ⟨(v0a xs m r).2.p,5⟩) else (v0a xs m r).2
def l3a(w:World)(g:Nat)(T:TypeId)(A:Option Addr)(n c:Nat)(r:Rd)(rest:List Value)(e:Ending)(w':World):Prop:=e=.returned (.tuple #[])/\PRd w' g T A n c r rest/\Q0a g w w'
theorem h8a(w:World)(g:Nat)(T:TypeId)(A:Option Addr)(n c:Nat)(xs:List Int)(r:Rd)(m:Nat)(rest:List Value)(hB:PRd w g T A n c r rest)(hx:Holds w w.heap.size A n c xs)(hp:r.p<=n)(hm0:m<=65536) :
  Calls Tryz.prog 114 #[.pointer (some ⟨g,0,none⟩),.int .i64 (m:Int)] w (l3a w g T A n c (rdZ xs m r) rest):=by
 have C1:=m3b w g T A n c xs r m rest hB hx hp hm0;unfold C4a at C1;have CZ:Hid (∀(w:World) (A:Option Addr) (k:Nat),Holds w w.heap.size A k k (v0a xs m r).1->Calls Tryz.prog 165 #[.slice A k k,.int .i64 0,.int .i64 (m:Int)] w λe w'=>e=.returned (.bool (zeroOf (v0a xs m r).1 0 (m:Int)))/\w=w'):=λw A k hh=>b3b w _ A k k _ 0 (m:Int) hh (by omega) (by omega)
 have HYB:=hI (u2a hx.byte m r);have hyl:(v0a xs m r).1.length<=m:=Q5a;have hQ:∀e w',(e=.returned (.tuple #[])/\PRd w' g T A n c (if (v0a xs m r).2.e=0 then (if zeroOf (v0a xs m r).1 0 (m:Int)=true then (v0a xs m r).2 else ⟨(v0a xs m r).2.p,5⟩) else (v0a xs m r).2) rest/\Q0a g w w')->l3a w g T A n c (rdZ xs m r) rest e w':=λ_ _ h=>h
 obtain⟨z,hz⟩:∃z,z=zeroOf (v0a xs m r).1 0 (m:Int):=⟨_,rfl⟩;rw[<-hz] at CZ hQ;obtain⟨ys,hys⟩:∃ys,ys=(v0a xs m r).1:=⟨_,rfl⟩;rw[<-hys] at C1 CZ HYB hyl;obtain⟨q,hq⟩:∃q,q=(v0a xs m r).2:=⟨_,rfl⟩;rw[<-hq] at C1 hQ;obtain⟨p',e'⟩:=q;have C1':=hI C1;unfold PRd at C1' hQ;clear C1 hB hx hys hz hp hq;by_cases he:e'=0
 ·subst he;cases z
  ·have HQ:Hid (∀e w',(e=.returned (.tuple #[])/\Blk w' g T (.slice A n c::.int .i64 (p':Int)::.int .i64 5::rest)/\Q0a g w w')->l3a w g T A n c (rdZ xs m r) rest e w'):=by intro e w' hh;refine hQ e w' ?_;rw[if_pos rfl,if_neg (by decide)];exact hh
   clear hQ;go_enter Tryz.func114,Tryz.ntmps114;go_wp2_with fail;refine C1'.out.mono ?_;rintro e w1 ⟨A',k,rfl,hk,hB1,hfr,hS,_⟩;have HH:=hI (hfr.holds hk.symm HYB.out (by omega));have HB1:Hid (Blk w1 g T (.slice A n c::.int .i64 (p':Int)::.int .i64 0::rest)):=hB1;have HS1:=hI hS;have gd:w1.cell? ⟨g,2,none⟩=some (.int .i64 0):=HB1.out.at rfl;have gf:=Blk.frozen HB1.out 2;have CZ1:=hI (CZ.out _ _ _ HH.out);clear hk hfr hB1 hS CZ hyl;go_wp2_with fail;refine CZ1.out.mono ?_;rintro e w2 ⟨rfl,rfl⟩;go_wp2;go_end0;exact HQ.out _ _ ⟨rfl,Blk.set HB1.out 2 _,HS1.out.setCell 2 _⟩
  ·have HQ:Hid (∀e w',(e=.returned (.tuple #[])/\Blk w' g T (.slice A n c::.int .i64 (p':Int)::.int .i64 0::rest)/\Q0a g w w')->l3a w g T A n c (rdZ xs m r) rest e w'):=by intro e w' hh;refine hQ e w' ?_;rw[if_pos rfl,if_pos rfl];exact hh
   clear hQ;go_enter Tryz.func114,Tryz.ntmps114;go_wp2_with fail;refine C1'.out.mono ?_;rintro e w1 ⟨A',k,rfl,hk,hB1,hfr,hS,_⟩;have HH:=hI (hfr.holds hk.symm HYB.out (by omega));have HB1:Hid (Blk w1 g T (.slice A n c::.int .i64 (p':Int)::.int .i64 0::rest)):=hB1;have HS1:=hI hS;have gd:w1.cell? ⟨g,2,none⟩=some (.int .i64 0):=HB1.out.at rfl;have CZ1:=hI (CZ.out _ _ _ HH.out);clear hk hfr hB1 hS CZ hyl;go_wp2_with fail;refine CZ1.out.mono ?_;rintro e w2 ⟨rfl,rfl⟩;go_wp2;go_end0;exact HQ.out _ _ ⟨rfl,HB1.out,HS1.out⟩
 ·have HQ:Hid (∀e w',(e=.returned (.tuple #[])/\Blk w' g T (.slice A n c::.int .i64 (p':Int)::.int .i64 e'::rest)/\Q0a g w w')->l3a w g T A n c (rdZ xs m r) rest e w'):=by intro e w' hh;refine hQ e w' ?_;rw[if_neg he];exact hh
  have hne:(e'==0)=false:=by simpa using he
  clear hQ CZ he;go_enter Tryz.func114,Tryz.ntmps114;go_wp2_with fail;refine C1'.out.mono ?_;rintro e w1 ⟨A',k,rfl,hk,hB1,hfr,hS,_⟩;have HB1:Hid (Blk w1 g T (.slice A n c::.int .i64 (p':Int)::.int .i64 e'::rest)):=hB1;have HS1:=hI hS;have gd:w1.cell? ⟨g,2,none⟩=some (.int .i64 e'):=HB1.out.at rfl;clear hk hfr hB1 hS hyl;go_wp2;go_end0;exact HQ.out _ _ ⟨rfl,HB1.out,HS1.out⟩
theorem n3b(w:World)(g:Nat)(T:TypeId)(A:Option Addr)(n c:Nat)(xs:List Int)(r:Rd)(o m kc:Nat)(rest:List Value)(hB:PRd w g T A n c r rest)(hx:Holds w w.heap.size A n c xs)(hp:r.p<=n)(hm0:0<m)(hm1:m<=65536)(ho:o+m<=rest.length) :
  Calls Tryz.prog 112 #[.pointer (some ⟨g,0,none⟩),.slice (some ⟨g,3+o,none⟩) m kc] w (l3a w g T A n c (v0a xs m r).2 (spliced rest o (v0a xs m r).1)):=by
 have C1:=m3b w g T A n c xs r m rest hB hx hp hm1;unfold C4a at C1;have HYB:=hI (u2a hx.byte m r);have hok:=I8a (m:=m) (r:=r) hx.len;have hbad:=E6b (xs:=xs) (m:=m) (r:=r);have hQ:∀e w',(e=.returned (.tuple #[])/\PRd w' g T A n c (v0a xs m r).2 (spliced rest o (v0a xs m r).1)/\Q0a g w w')->l3a w g T A n c (v0a xs m r).2 (spliced rest o (v0a xs m r).1) e w':=λ_ _ h=>h
 obtain⟨ys,hys⟩:∃ys,ys=(v0a xs m r).1:=⟨_,rfl⟩;rw[<-hys] at C1 HYB hok hbad hQ⊢;obtain⟨q,hq⟩:∃q,q=(v0a xs m r).2:=⟨_,rfl⟩;rw[<-hq] at C1 hQ hok hbad⊢;obtain⟨p',e'⟩:=q;have C1':=hI C1;unfold PRd at C1' hQ;have HQ:=hI hQ;clear C1 hB hx hys hp hq hQ;by_cases he:e'=0
 ·have hyl:=hok he;have HSP:Hid (spliced (.slice A n c::.int .i64 (p':Int)::.int .i64 e'::rest) (3+o) ys=.slice A n c::.int .i64 (p':Int)::.int .i64 e'::spliced rest o ys):=by
   show _=_
   unfold spliced;rw[show 3+o=o+1+1+1 from by omega,show o+1+1+1+ys.length=(o+ys.length)+1+1+1 from by omega];rfl
  have HFIT:Hid (3+o+m<=(Value.slice A n c::Value.int .i64 (p':Int)::Value.int .i64 e'::rest).length):=by
   show _<=_
   simp only[List.length_cons];omega
  have HYL:=hI hyl;obtain⟨cur,hcur⟩:∃cur,cur=Value.slice A n c::Value.int .i64 (p':Int)::Value.int .i64 e'::rest:=⟨_,rfl⟩;obtain⟨nxt,hnxt⟩:∃nxt,nxt=spliced rest o ys:=⟨_,rfl⟩;have HC:Hid (cur=Value.slice A n c::Value.int .i64 (p':Int)::Value.int .i64 e'::rest):=hcur;rw[<-hcur] at HSP HFIT;rw[<-hnxt] at HSP HQ⊢;clear hcur hnxt hok hbad hyl he;go_enter Tryz.func112,Tryz.ntmps112;go_wp2_with fail;refine C1'.out.mono ?_;rintro e w1 ⟨A',k,rfl,hk,hB1,hfr,hS,_⟩;obtain rfl:k=m:=by rw[hk];exact HYL.out
  have HH:=hI (hfr.holds HYL.out HYB.out (by omega));have HB1:Hid (Blk w1 g T cur):=by rw[HC.out];exact hB1
  have HS1:=hI hS;clear hk hfr hB1 hS;go_wp2_with(first
   | ((with_reducible refine sN 9 ?_);refine S6a rfl (.tmp 4) (.tmp 8) rfl g (3+o) T k kc k k A' rfl rfl cur ys _ HB1 HH.out hm0 (Nat.le_refl _) HFIT ?_;intro w2 X2 O2)
   | fail)
  go_end0;refine HQ.out _ _ ⟨rfl,?_,HS1.out.trans (Q0a.of_only O2.out)⟩;rw[<-HSP.out];exact X2.out
 ·have hyn:=hbad he;have HQ2:Hid (∀e w',(e=.returned (.tuple #[])/\Blk w' g T (.slice A n c::.int .i64 (p':Int)::.int .i64 e'::rest)/\Q0a g w w')->l3a w g T A n c ⟨p',e'⟩ (spliced rest o ys) e w'):=by
   intro e w' hh;have e1:spliced rest o ys=rest:=by rw[hyn];unfold spliced;simp
   rw[e1] at HQ⊢;exact HQ.out e w' hh
  have HE:=hI he;clear HQ hok hbad hyn he;go_enter Tryz.func112,Tryz.ntmps112;go_wp2_with fail;refine C1'.out.mono ?_;rintro e w1 ⟨A',k,rfl,hk,hB1,hfr,hS,hz⟩;obtain⟨rfl,rfl⟩:=hz HE.out;have HB1:Hid (Blk w1 g T (.slice A n c::.int .i64 (p':Int)::.int .i64 e'::rest)):=hB1;have HS1:=hI hS;clear hk hfr hB1 hS hz;go_wp2_with(first
   | ((with_reducible refine sN 9 ?_);refine wpList_copy_nothing rfl (.tmp 4) (.tmp 8) 31 31 rfl 5 Tryz.underlying31 (by kernel_rfl) (some ⟨g,3+o,none⟩) none m kc 0 0 rfl rfl (Nat.zero_min _) ?_)
   | fail)
  go_end0;exact HQ2.out _ _ ⟨rfl,HB1.out,HS1.out⟩
theorem M7a(w:World)(g:Nat)(T:TypeId)(A:Option Addr)(n c:Nat)(xs:List Int)(r:Rd)(rest:List Value)(hB:PRd w g T A n c r rest)(hl:xs.length=n)(hn:n<=281474976710656)(hp:r.p<=n) :
  Calls Tryz.prog 115 #[.pointer (some ⟨g,0,none⟩)] w λe w'=>e=.returned (.int .i64 (H0a xs r))/\∃k,w.drewN k=w':=by
 obtain⟨p,er⟩:=r;change p<=n at hp
 have c0:w.cell? ⟨g,0,none⟩=some (.slice A n c):=Blk.at hB rfl;have c1:w.cell? ⟨g,1,none⟩=some (.int .i64 (p:Int)):=Blk.at hB rfl;have c2:w.cell? ⟨g,2,none⟩=some (.int .i64 er):=Blk.at hB rfl;have hR:H0a xs ⟨p,er⟩=if er=0/\p≠n then 5 else er:=by unfold H0a;rw[hl]
 rw[hR];clear hB hR;by_cases he:er=0
 ·subst he;by_cases hpn:p=n
  ·rw[if_neg (λh=>h.2 hpn)];have hb:decide (p<n)=false:=by rw[hpn];simp
   have hb2:¬p<n:=by omega
   clear hpn;go_enter Tryz.func115,Tryz.ntmps115;go_wp2;go_quiet (fail);go_wp2;go_ret;exact⟨rfl,_,rfl⟩
  ·rw[if_pos ⟨rfl,hpn⟩];have hb2:p<n:=by omega
   have hb:decide (p<n)=true:=by rw[decide_eq_true_iff];omega
   clear hpn;go_enter Tryz.func115,Tryz.ntmps115;go_wp2;go_quiet (fail);go_wp2;go_ret;exact⟨rfl,_,rfl⟩
 ·rw[if_neg (λh=>he h.1)];have hb:(er==0)=false:=by simpa using he
  clear he;go_enter Tryz.func115,Tryz.ntmps115;go_wp2;go_quiet (fail);go_wp2;go_ret;exact⟨rfl,_,rfl⟩
def P0a(xs:List Int)(r:Rd):List UInt8×Rd:=if r.e=0 then (X1a xs r.p,⟨(a1a xs r.p).toNat,Y0a xs r.p⟩) else ([],r)
theorem M3a{xs:List Int}(hx:Bytes xs)(a:Int)(ha:0<=a):0<=a1a xs a/\a1a xs a<=xs.length:=by
 unfold a1a;split
 ·rename_i h;unfold B3a;split
  ·rename_i h2;have:=Q6a h2;have:=d5a xs hx a;omega
  ·omega
 ·omega
def Y4a(w:World)(g:Nat)(T:TypeId)(A:Option Addr)(n c:Nat)(q:List UInt8×Rd)(rest:List Value)(e:Ending)(w':World):Prop:=e=.returned (.string ⟨q.1.toArray⟩)/\PRd w' g T A n c q.2 rest/\Q0a g w w'
theorem X3b(w:World)(g:Nat)(T:TypeId)(A:Option Addr)(n c:Nat)(xs:List Int)(r:Rd)(rest:List Value)(hB:PRd w g T A n c r rest)(hx:Holds w w.heap.size A n c xs)(hp:r.p<=n) :
  Calls Tryz.prog 113 #[.pointer (some ⟨g,0,none⟩)] w (Y4a w g T A n c (P0a xs r) rest):=by
 obtain⟨p,er⟩:=r;change p<=n at hp
 have hl:=hx.len;have hrm:=hx.room;have hft:=hx.fit;have hlt:=hB.lt;have HR0:Hid (Blk w g T (.slice A n c::.int .i64 (p:Int)::.int .i64 er::rest)):=hB;have c2:w.cell? ⟨g,2,none⟩=some (.int .i64 er):=Blk.at hB rfl;by_cases he:er=0;rotate_left
 ·have HQ:Hid (∀e w',(e=.returned (.string .empty)/\Blk w' g T (.slice A n c::.int .i64 (p:Int)::.int .i64 er::rest)/\Q0a g w w')->Y4a w g T A n c (P0a xs ⟨p,er⟩) rest e w'):=by intro e w' hh;unfold P0a;rw[if_neg he];exact hh
  have hne:(er != 0)=true:=by simpa using he
  clear hB hx hl he;go_enter Tryz.func113,Tryz.ntmps113;go_wp2;go_ret;exact HQ.out _ _ ⟨rfl,HR0.out,Q0a.refl g w⟩
 subst he;obtain⟨hg0,hg1⟩:=M3a hx.byte (p:Int) (by omega);have C1':Hid (∀k,Calls Tryz.prog 164 #[.slice A n c,.int .i64 (p:Int)] (w.drewN k) λe w'=>e=.returned (.tuple #[.string ⟨(X1a xs (p:Int)).toArray⟩,.int .i64 (a1a xs (p:Int)),.int .i64 (Y0a xs (p:Int))])/\Below (w.drewN k).heap.size (w.drewN k) w'):=λk=>e8a (w.drewN k) A n c xs (p:Int) (hx.drewN k) (by omega)
 have HQ:Hid (∀e w',(e=.returned (.string ⟨(X1a xs (p:Int)).toArray⟩)/\Blk w' g T (.slice A n c::.int .i64 (a1a xs (p:Int))::.int .i64 (Y0a xs (p:Int))::rest)/\Q0a g w w')->Y4a w g T A n c (P0a xs ⟨p,0⟩) rest e w'):=by
  intro e w' hh;unfold P0a;rw[if_pos rfl];unfold Y4a PRd;show _/\Blk w' g T (.slice A n c::.int .i64 (((a1a xs (p:Int)).toNat:Nat):Int)::_)/\_
  rw[Int.toNat_of_nonneg hg0];exact hh
 obtain⟨tx,htx⟩:∃z,z=X1a xs (p:Int):=⟨_,rfl⟩;obtain⟨nx,hnx⟩:∃z,z=a1a xs (p:Int):=⟨_,rfl⟩;obtain⟨ex,hex⟩:∃z,z=Y0a xs (p:Int):=⟨_,rfl⟩;rw[<-htx,<-hnx,<-hex] at C1' HQ;rw[<-hnx] at hg0 hg1;clear hB hx hl htx hnx hex;go_enter Tryz.func113,Tryz.ntmps113;go_upto_region 3 with fail
 refine wp_region_held (S:=λw'=>Blk w' g T (.slice A n c::.int .i64 (p:Int)::.int .i64 0::rest)) (by kernel_rfl) ?_;change wpAnyH _ _ _ _ _ _ _ _ w.drew
 have S0:Hid (Blk w.drew g T (.slice A n c::.int .i64 (p:Int)::.int .i64 0::rest)):=HR0.out.drew;have b0:Hid (Below w.heap.size w w.drew):=(G2a w 1);refine tK 0 _ rfl (u0a (by kernel_rfl) (.tmp 0) rfl (.pointer (some ⟨g,0,none⟩)) (by kernel_rfl)) S0.out ?_;refine tK 1 _ rfl (I0a (by kernel_rfl) (.tmp 12) rfl ⟨g,0,none⟩ (by kernel_rfl)) S0.out ?_;refine tK 2 _ rfl (w0a (by kernel_rfl) _ (.tmp 13) 0 rfl (.pointer (some ⟨g,0,none⟩)) (.pointer (some ⟨g,0,none⟩)) (by kernel_rfl) (e5b g)) S0.out ?_;refine tK 3 _ rfl (l0a (by kernel_rfl) _ (.tmp 14) rfl g 0 (by kernel_rfl) (.slice A n c) (λw h=>h.at rfl) _ Tryz.underlying31 rfl) S0.out ?_;refine tK 4 _ rfl (u0a (by kernel_rfl) (.tmp 0) rfl (.pointer (some ⟨g,0,none⟩)) (by kernel_rfl)) S0.out ?_;refine tK 5 _ rfl (I0a (by kernel_rfl) (.tmp 16) rfl ⟨g,0,none⟩ (by kernel_rfl)) S0.out ?_;refine tK 6 _ rfl (w0a (by kernel_rfl) _ (.tmp 17) 1 rfl (.pointer (some ⟨g,0,none⟩)) (.pointer (some ⟨g,1,none⟩)) (by kernel_rfl) (f5b g)) S0.out ?_;refine tK 7 _ rfl (l0a (by kernel_rfl) _ (.tmp 18) rfl g 1 (by kernel_rfl) (.int .i64 (p:Int)) (λw h=>h.at rfl) _ Tryz.underlying3 rfl) S0.out ?_;refine oN 8 _ rfl λK hK=>?_
 go_simp;refine(C1'.out 1).mono ?_;rintro e v1 ⟨rfl,L1⟩;have S1:Hid (Blk v1 g T (.slice A n c::.int .i64 (p:Int)::.int .i64 0::rest)):=S0.out.over L1;have b1:Hid (Below w.heap.size w v1):=step b0.out L1;refine hK _ _ S1.out ?_;clear hK K L1;refine tK 9 ((.tuple #[.string ⟨tx.toArray⟩,.int .i64 nx,.int .i64 ex])) rfl (.inl ⟨by kernel_rfl,λw _=>by go_simp⟩) S1.out ?_;refine tK 10 ((.string ⟨tx.toArray⟩)) rfl (.inl ⟨by kernel_rfl,λw _=>by go_simp⟩) S1.out ?_;refine tK 11 ((.int .i64 nx)) rfl (.inl ⟨by kernel_rfl,λw _=>by go_simp⟩) S1.out ?_;refine tK 12 ((.int .i64 ex)) rfl (.inl ⟨by kernel_rfl,λw _=>by go_simp⟩) S1.out ?_;refine tK 13 ((.string ⟨tx.toArray⟩)) rfl (.inl ⟨by kernel_rfl,λw _=>by go_simp⟩) S1.out ?_;refine tK 14 ((.int .i64 nx)) rfl (.inl ⟨by kernel_rfl,λw _=>by go_simp⟩) S1.out ?_;refine tK 15 ((.int .i64 ex)) rfl (.inl ⟨by kernel_rfl,λw _=>by go_simp⟩) S1.out ?_;refine dN ?_;have gd1:v1.cell? ⟨g,1,none⟩=some (.int .i64 (p:Int)):=S1.out.at rfl;have gd2:v1.cell? ⟨g,2,none⟩=some (.int .i64 0):=S1.out.at rfl;have gf1:=Blk.frozen S1.out 1;have gf2:=Blk.frozen S1.out 2;have gf3:(v1.setCell ⟨g,1,none⟩ (.int .i64 nx)).frozen? ⟨g,2,none⟩=false:=Blk.frozen (Blk.set S1.out 1 _) 2;have S1':=hI S1.out;go_wp2;go_ret;exact HQ.out _ _ ⟨rfl,Blk.set (Blk.set S1'.out 1 _) 2 _,((Q0a.of_below b1.out g).setCell 1 _).setCell 2 _⟩
end Go.Proofs.YtgfflnjggnadpaaGreatDoor
