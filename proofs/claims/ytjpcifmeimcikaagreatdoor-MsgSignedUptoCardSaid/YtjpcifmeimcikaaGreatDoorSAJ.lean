import Derived.Test.YtjpcifmeimcikaaGreatDoorSAG
import Derived.Test.YtjpcifmeimcikaaGreatDoorS0
set_option linter.all false
set_option maxHeartbeats 8000000
set_option maxRecDepth 100000
namespace Go.Proofs.YtjpcifmeimcikaaGreatDoor
open Go.Proofs.Tryz
open Go.RowKit
set_option maxRecDepth 100000
theorem o2c(w:World)(l:r2a):Calls prog 132 #[.agg (H0a l).toArray] w λe w'=>e=.returned (.bool (l.op != 0))/\BW w w':=by
 obtain⟨op,at_,n,md⟩:=l;have HC:Hid (∀(w:World) (g:Nat),Blk w g 104 (H0a ⟨op,at_,n,md⟩)->w.cell? ⟨g,0,none⟩=some (.int .i64 op)):=λw g h=>h.at rfl
 obtain⟨cs,hcs⟩:=xX (H0a ⟨op,at_,n,md⟩);rw[<-hcs] at HC⊢;show Calls _ _ _ _ λe w'=>e=.returned (.bool (op != 0))/\_
 clear hcs;go_enter func132,ntmps132;go_wp2_with(first|(refine sN 1 ?_;refine d0a rfl _ (.tmp 0) rfl cs rfl ?_;intro g w1 hg1 hg2 K1 L1;have c0:=HC.o w1 g K1.o)|fail)
 go_ret;exact⟨rfl,L1.o⟩
theorem R9b(w:World)(A:Option Addr)(n c:Nat)(xs:List r2a)(h:c1a H0a 4 w w.heap.size A n c xs)(hn:n<=4398046511104) :
  Calls prog 147 #[.slice A n c,.func (.func 132) #[] #[]] w λe w'=>(∃k:Int,e=.returned (.int .i64 k)/\decide (0<=k) = !shut xs)/\BW w w':=by
 have HH:=hI h;have HL:=hI h.len;have hft:=h.fit;have CF:Hid (∀(w:World) (l:r2a),Calls prog 132 #[.agg (H0a l).toArray] w λe w'=>e=.returned (.bool (l.op != 0))/\BW w w'):=o2c;have HQ:Hid (∀(e:Ending) (w':World),((∃k:Int,e=.returned (.int .i64 k)/\decide (0<=k) = !shut xs)/\BW w w')->((∃k:Int,e=.returned (.int .i64 k)/\decide (0<=k) = !shut xs)/\BW w w')):=λ_ _ h=>h
 have H0:Hid (shut (xs.take 0)=true):=by show _=_;rw[List.take_zero];rfl
 have HN:Hid (shut (xs.take n)=true->shut xs=true):=λh1=>by rw[<-HL.o,List.take_length] at h1;exact h1
 have HST:Hid (∀(j:Nat) (x:r2a),xs[j]? = some x->shut (xs.take j)=true->x.op=0->shut (xs.take (j+1))=true):=λj x hx h1 h2=>by rw[List.take_add_one,hx,Option.toList_some];unfold shut at h1⊢;rw[List.all_append,h1];simp[h2]
 have HBAD:Hid (∀(j:Nat) (x:r2a),xs[j]? = some x->x.op≠0->shut xs=false):=λj x hx h1=>by unfold shut;rw[List.all_eq_false];exact⟨x,List.mem_of_getElem? hx,by simpa using h1⟩
 clear h;go_enter func147,ntmps147;go_wp2;go_loopw [8] (λi wr=>∃j:Nat,i=.int .i64 j/\j<=n/\Hid (shut (xs.take j)=true)/\Hid (BW w wr)) (λi _=>n-(intOf i).toNat)
 case atStart=>exact⟨0,rfl,Nat.zero_le _,H0.o,Below.refl _ _⟩
 case round=>
  obtain⟨j,rfl,hj,HS,HB1⟩:=hrel;by_cases hlt:j<n
  ·have hh:=HH.o.below HB1.o;obtain⟨b,off,rfl,hb,hc⟩:=hh.cells (by omega);obtain⟨x,hx⟩:∃x,xs[j]? = some x:=⟨_,List.getElem?_eq_getElem (by have:=HL.o;omega)⟩;have Rx:Hid (wr.rangeAt b (off+j*4) (H0a x)):=hh.range rfl hlt hx;have LX:Hid ((H0a x).length=4):=rfl;have CX:=CF.o wr x;have HST':=hI (HST.o j x hx HS.o);have HBAD':=hI (HBAD.o j x hx);obtain⟨cx,hcx⟩:=xX (H0a x);rw[<-hcx] at Rx LX CX;have hsz:=HB1.o.size;clear hh hc hx hcx;by_cases ho:x.op=0
   ·have hb0:(x.op != 0)=false:=by simpa using ho
    rw[hb0] at CX;have CX':=hI CX;have HS2:=hI (HST'.o ho);clear CX hb0 ho HST' HBAD' HS;go_wp2_with(first|(refine sN 15 ?_;refine q0a rfl _ (.tmp 14) rfl b (off+j*4) rfl cx _ Rx underlying104 rfl 4 n6a LX ?_)|fail)
    refine CX'.o.mono ?_;rintro e v1 ⟨rfl,L1⟩;have HB2:=hI (HB1.o.trans (L1.mono hsz));clear L1 HB1 CX';go_wp2;go_roundw
    case rel=>exact⟨j+1,by simp,by omega,HS2,HB2⟩
    case measure=>simp[intOf];omega
   ·have hb0:(x.op != 0)=true:=by simpa using ho
    rw[hb0] at CX;have CX':=hI CX;have HS2:=hI (HBAD'.o ho);clear CX hb0 ho HST' HBAD' HS;go_wp2_with(first|(refine sN 15 ?_;refine q0a rfl _ (.tmp 14) rfl b (off+j*4) rfl cx _ Rx underlying104 rfl 4 n6a LX ?_)|fail)
    refine CX'.o.mono ?_;rintro e v1 ⟨rfl,L1⟩;have HB2:=hI (HB1.o.trans (L1.mono hsz));clear L1 HB1 CX';go_wp2;go_ret;exact HQ.o _ _ ⟨⟨_,rfl,by rw[HS2.o];simp⟩,HB2.o⟩
  ·obtain rfl:j=n:=by omega
   have HS2:=hI (HN.o HS.o);go_wp2;go_ret;exact HQ.o _ _ ⟨⟨_,rfl,by rw[HS2.o];rfl⟩,HB1.o⟩
theorem c5b(w:World)(A:Option Addr)(n c:Nat)(xs:List r2a)(h:c1a H0a 4 w w.heap.size A n c xs)(hn:n<=4398046511104) :
  Calls prog 131 #[.slice A n c,.func (.func 132) #[] #[]] w λe w'=>e=.returned (.bool (!shut xs))/\BW w w':=by
 have C1:=hI (R9b w A n c xs h hn);obtain⟨z,hz⟩:∃z,z = !shut xs:=⟨_,rfl⟩;rw[<-hz] at C1⊢;clear h hz;go_enter func131,ntmps131;go_wp2_with fail;refine C1.o.mono ?_;rintro e w1 ⟨⟨k,rfl,hk⟩,L1⟩;go_wp2;go_ret;exact⟨by rfl,L1⟩
section
variable {vd vx vl ve:Value} {a:l1a} {s:O1a}
theorem A1a(hg:a.guid.length=16)(hp:a.proof.length=32)(i:Nat)(u:Value):(l0a vd vx vl a).set (49+i) u=vd::(a.guid.map (Value.int .u8)++(a.proof.map (Value.int .u8)++(p9a vx vl a).set i u)):=by
 unfold l0a;rw[show 49+i=(48+i)+1 from by omega,List.set_cons_succ,List.set_append_right _ _ (by rw[List.length_map,hg];omega),List.length_map,hg,List.set_append_right _ _ (by rw[List.length_map,hp];omega),List.length_map,hp]
 congr 4
 omega
theorem T2a(hg:s.chal.length=8)(i:Nat)(u:Value):(u0a vx ve s).set (10+i) u=.int .u16 s.dia::.int .u64 s.siz::(s.chal.map (Value.int .u8)++(A4b vx ve s).set i u):=by
 unfold u0a;rw[show 10+i=(8+i)+1+1 from by omega,List.set_cons_succ,List.set_cons_succ,List.set_append_right _ _ (by rw[List.length_map,hg];omega),List.length_map,hg]
 congr 4
 omega
theorem b7c(hg:a.guid.length=16)(hp:a.proof.length=32)(x:Int):(l0a vd vx vl a).set 51 (.int .u32 x)=l0a vd vx vl { a with acc:=x }:=(A1a hg hp 2 _).trans rfl
theorem c7c(hg:a.guid.length=16)(hp:a.proof.length=32)(x:Int):(l0a vd vx vl a).set 52 (.int .u32 x)=l0a vd vx vl { a with shr:=x }:=(A1a hg hp 3 _).trans rfl
theorem d7c(hg:a.guid.length=16)(hp:a.proof.length=32)(x:Int):(l0a vd vx vl a).set 53 (.int .u32 x)=l0a vd vx vl { a with way:=x }:=(A1a hg hp 4 _).trans rfl
theorem e7c(hg:a.guid.length=16)(hp:a.proof.length=32)(x:Int):(l0a vd vx vl a).set 54 (.int .u32 x)=l0a vd vx vl { a with opt:=x }:=(A1a hg hp 5 _).trans rfl
theorem S6c(hg:a.guid.length=16)(hp:a.proof.length=32)(x:Int):(l0a vd vx vl a).set 55 (.int .u8 x)=l0a vd vx vl { a with lev:=x }:=(A1a hg hp 6 _).trans rfl
theorem f7c(hg:a.guid.length=16)(hp:a.proof.length=32)(x:Int):(l0a vd vx vl a).set 56 (.int .u8 x)=l0a vd vx vl { a with dur:=x }:=(A1a hg hp 7 _).trans rfl
theorem b0c(hg:a.guid.length=16)(hp:a.proof.length=32)(x:Int):(l0a vd vx vl a).set 57 (.int .u64 x)=l0a vd vx vl { a with file:=x }:=(A1a hg hp 8 _).trans rfl
theorem T6c(hg:a.guid.length=16)(hp:a.proof.length=32)(x:ByteArray):(l0a vd vx vl a).set 58 (.string x)=l0a vd vx vl { a with name:=x }:=(A1a hg hp 9 _).trans rfl
theorem U6c(hg:a.guid.length=16)(hp:a.proof.length=32)(x:Int):(l0a vd vx vl a).set 59 (.int .u64 x)=l0a vd vx vl { a with at_:=x }:=(A1a hg hp 10 _).trans rfl
theorem g7c(hg:a.guid.length=16)(hp:a.proof.length=32)(x:Int):(l0a vd vx vl a).set 60 (.int .u32 x)=l0a vd vx vl { a with n:=x }:=(A1a hg hp 11 _).trans rfl
theorem h7c(hg:a.guid.length=16)(hp:a.proof.length=32)(v:Value)(xs:List Int):(l0a vd vx vl a).set 61 v=l0a vd v vl { a with data:=xs }:=(A1a hg hp 12 _).trans rfl
theorem i7c(hg:a.guid.length=16)(hp:a.proof.length=32)(v:Value)(xs:List r2a):(l0a vd vx vl a).set 62 v=l0a vd vx v { a with locks:=xs }:=(A1a hg hp 13 _).trans rfl
theorem V6c(hg:s.chal.length=8)(x:Int):(u0a vx ve s).set 10 (.int .u8 x)=u0a vx ve { s with lev:=x }:=(T2a hg 0 _).trans rfl
theorem j7c(hg:s.chal.length=8)(x:Int):(u0a vx ve s).set 11 (.int .u8 x)=u0a vx ve { s with dur:=x }:=(T2a hg 1 _).trans rfl
theorem k7c(hg:s.chal.length=8)(x:Int):(u0a vx ve s).set 12 (.int .u16 x)=u0a vx ve { s with made:=x }:=(T2a hg 2 _).trans rfl
theorem W6c(hg:s.chal.length=8)(x:Int):(u0a vx ve s).set 13 (.int .u64 x)=u0a vx ve { s with file:=x }:=(T2a hg 3 _).trans rfl
theorem X6c(hg:s.chal.length=8)(x:Int):(u0a vx ve s).set 14 (.int .u8 x)=u0a vx ve { s with kind:=x }:=(T2a hg 4 _).trans rfl
theorem l7c(hg:s.chal.length=8)(x:Int):(u0a vx ve s).set 16 (.int .u32 x)=u0a vx ve { s with n:=x }:=(T2a hg 6 _).trans rfl
theorem sc1(hg:s.chal.length=8)(x:Int):(u0a vx ve s).set 1 (.int .u64 x)=u0a vx ve { s with siz:=x }:=rfl
theorem m7c(hg:s.chal.length=8)(v:Value)(xs:List Int):(u0a vx ve s).set 15 v=u0a v ve { s with data:=xs }:=(T2a hg 5 _).trans rfl
theorem H6c(hg:a.guid.length=16)(hp:a.proof.length=32):(l0a vd vx vl a).set 61 (.slice none 0 0)=l0a vd (.slice none 0 0) vl { a with data:=[] }:=h7c hg hp _ []
theorem I6c(hg:a.guid.length=16)(hp:a.proof.length=32):(l0a vd vx vl a).set 62 (.slice none 0 0)=l0a vd vx (.slice none 0 0) { a with locks:=[] }:=i7c hg hp _ []
theorem J6c(hg:s.chal.length=8):(u0a vx ve s).set 15 (.slice none 0 0)=u0a (.slice none 0 0) ve { s with data:=[] }:=m7c hg _ []
end
theorem zb{M:Int}(h:0<=M):(0:Int)<=0/\(0:Int)<=M:=⟨Int.le_refl 0,h⟩
theorem S9b{c:Int}{a:l1a}(k:a.ok):(j1a c a).ok:=by
 unfold j1a;split
 ·exact⟨k.dial,k.glen,k.gbyte,k.plen,k.pbyte,zb (by decide),zb (by decide),zb (by decide),zb (by decide),zb (by decide),zb (by decide),zb (by decide),k.at_,k.n,k.data,k.locks,k.most,k.cls,k.siz⟩
 ·split
  ·exact⟨k.dial,k.glen,k.gbyte,k.plen,k.pbyte,k.acc,k.shr,k.way,k.opt,k.lev,k.dur,zb (by decide),zb (by decide),zb (by decide),k.data,k.locks,k.most,k.cls,k.siz⟩
  ·split
   ·exact⟨k.dial,k.glen,k.gbyte,k.plen,k.pbyte,k.acc,k.shr,k.way,k.opt,k.lev,k.dur,zb (by decide),zb (by decide),k.n,Bytes.nil,k.locks,k.most,k.cls,k.siz⟩
   ·split
    ·exact⟨k.dial,k.glen,k.gbyte,k.plen,k.pbyte,k.acc,k.shr,k.way,k.opt,k.lev,k.dur,zb (by decide),k.at_,k.n,k.data,(λl h=>by cases h),k.most,k.cls,k.siz⟩
    ·exact⟨k.dial,k.glen,k.gbyte,k.plen,k.pbyte,k.acc,k.shr,k.way,k.opt,k.lev,k.dur,zb (by decide),k.at_,k.n,k.data,k.locks,k.most,k.cls,k.siz⟩
theorem L7b{c:Int}{s:O1a}(k:s.ok):(k1a c s).ok:=by
 unfold k1a;split
 ·exact⟨k.dia,zb (by decide),k.clen,k.cbyte,zb (by decide),zb (by decide),zb (by decide),zb (by decide),zb (by decide),k.data,k.n,k.ents⟩
 ·split
  ·exact⟨k.dia,k.siz,k.clen,k.cbyte,k.lev,k.dur,k.made,k.file,k.kind,Bytes.nil,k.n,k.ents⟩
  ·split
   ·exact⟨k.dia,k.siz,k.clen,k.cbyte,k.lev,k.dur,k.made,k.file,k.kind,k.data,zb (by decide),k.ents⟩
   ·exact k
theorem T9a{c:Int}{a:l1a}(hk:c3a c=true)(hc:c≠10):U8a c a=decide (j1a c a=i0a):=by
 unfold U8a;rw[hk,Bool.true_and];by_cases h:j1a c a=i0a
 ·have hl:a.locks=[]:=by
   have h2:=congrArg l1a.locks h;unfold j1a at h2;rw[if_neg hc] at h2;split at h2
   ·exact h2
   ·split at h2
    ·exact h2
    ·split at h2<;>exact h2
  rw[decide_eq_true h,hl];rfl
 ·rw[decide_eq_false h,Bool.false_and]
theorem t8b(b:l1a):(h1a 13 b==0)=decide (b=i0a):=by
 have e:i1a 13 b=b:=by unfold i1a;rw[if_neg (by decide),if_neg (by decide),if_neg (by decide)]
 unfold h1a;rw[e];by_cases h:b=i0a
 ·rw[if_pos ⟨rfl,h⟩,decide_eq_true h];rfl
 ·rw[if_neg (λh2=>h h2.2),decide_eq_false h];rfl
theorem w6b(b:O1a):(q1a 13 b==0)=decide (b=n0a):=by
 have e:v1a 13 b=b:=by unfold v1a;rw[if_neg (by decide)]
 unfold q1a;rw[e];by_cases h:b=n0a
 ·rw[if_pos ⟨rfl,h,λh0=>absurd h0 (by decide)⟩,decide_eq_true h];rfl
 ·rw[if_neg (λh2=>h h2.2.1),decide_eq_false h];rfl
section
variable {P:Program} {ops:Array Oper} {Q:Exit->Act->World->Prop} {md:Region.Mode} {S:World->Prop}
def U9a(ops:Array Oper)(listed:Array Bool):Nat:=(List.range ops.size).countP λi=>!listed.getD i true
theorem c4b{α:Type}{p q:α->Bool}:∀(l:List α),(∀x,q x=true->p x=true)->(∃x∈l,p x=true/\q x=false)->l.countP q<l.countP p
 | [],_,⟨x,hx,_⟩=>absurd hx List.not_mem_nil
 | y::l,h,⟨x,hx,h1,h2⟩=>by
  have hle:l.countP q<=l.countP p:=List.countP_mono_left λx _=>h x
  rw[List.countP_cons,List.countP_cons];rcases List.mem_cons.1 hx with rfl | hx
  ·rw[h1,h2];simp;omega
  ·have:=c4b l h ⟨x,hx,h1,h2⟩;have hy:=h y;cases hq:q y<;>cases hp:p y<;>simp_all<;>omega
theorem S0b{listed:Array Bool}{i:Nat}(hi:i∈Region.ready md ops listed):U9a ops (listed.setIfInBounds i true)<U9a ops listed:=by
 obtain⟨hun,o,ho,_⟩:=mem_ready.1 hi;refine c4b _ (λx hx=>?_) ⟨i,List.mem_range.2 (Array.getElem?_eq_some_iff.1 ho).1,by rw[hun];rfl,?_⟩
 ·by_cases hxi:i=x
  ·subst hxi;rw[hun];rfl
  ·rw[getD_set_ne true hxi] at hx;exact hx
 ·have hlt:i<listed.size:=by
   rcases Nat.lt_or_ge i listed.size with h | h
   ·exact h
   ·rw[Array.getD_eq_getD_getElem?,Array.getElem?_eq_none h] at hun;cases hun
  simp[hlt]
theorem d4b{I:Array Bool->Act->World->Prop}
(hs:∀listed a w i,I listed a w->i∈Region.ready md ops listed->wpOp P ops Q i (λa' w'=>S w'/\I (listed.setIfInBounds i true) a' w') a w)
(he:∀listed a w,I listed a w->Region.ready md ops listed=[]->Q .normal a w) :
  ∀(fuel:Nat) (listed:Array Bool) (a:Act) (w:World),U9a ops listed<=fuel->I listed a w->wpAnyH P md ops Q S fuel listed a w
 | 0,listed,a,w,hf,hI=>by
  have h0:Region.ready md ops listed=[]:=by
   cases hr:Region.ready md ops listed with
   | nil=>rfl
   | cons i r=>have:=S0b (md:=md) (ops:=ops) (listed:=listed) (i:=i) (by rw[hr];exact List.mem_cons_self);omega
  exact⟨h0,he _ _ _ hI h0⟩
 | fuel+1,listed,a,w,hf,hI=>⟨he _ _ _ hI,λi hi=>wpOp_mono (λa' w' h=>⟨h.1,d4b hs he fuel _ _ _ (by have:=S0b hi;omega) h.2⟩) (hs _ _ _ _ hI hi)⟩
theorem p2c{a:Act}{t:Tmp}(h:t<a.tmps.size):a.tmps[t]? = some (a.eval (.tmp t)):=by simp[Act.eval,h]
theorem u8b(a:Act):∀(L:List (Nat×Tmp)) (fr:Act),a.defers=fr.defers->a.tmps.size=fr.tmps.size->(∀t,(∀x∈L,x.2≠t)->a.tmps[t]? = fr.tmps[t]?)->
  L.foldl (λb x=>b.put (some x.2) (a.eval (.tmp x.2))) fr=a
 | [],fr,h1,h2,h3=>by
  obtain⟨T,D⟩:=a;obtain⟨T',D'⟩:=fr;have h:T'=T:=by
   refine Array.ext (by simpa using h2.symm) λi hi hj=>?_
   have:=h3 i (by simp);simp only[Array.getElem?_eq_getElem hi,Array.getElem?_eq_getElem hj] at this;exact(Option.some.inj this).symm
  subst h;cases h1;rfl
 | x::L,fr,h1,h2,h3=>by
  rw[List.foldl_cons];refine u8b a L _ (by simpa[Act.put] using h1) (by simpa[Act.put] using h2) λt ht=>?_
  by_cases hx:x.2=t
  ·subst hx;rcases Nat.lt_or_ge x.2 a.tmps.size with h | h
   ·rw[p2c h];simp[Act.put,<-h2,h]
   ·rw[Array.getElem?_eq_none h,Array.getElem?_eq_none (by simpa[Act.put,<-h2] using h)]
  ·rw[h3 t (by
    intro y hy;rcases List.mem_cons.1 hy with rfl | hy
    ·exact hx
    ·exact ht y hy)]
   simp[Act.put,hx]
def i4c(md:Region.Mode)(ops:Array Oper)(listed:Array Bool)(R:List (Nat×Tmp))(z:Nat):Bool:=
 (List.range ops.size).all (λj=>listed.getD j true||R.any λx=>x.1==j)&&(R.all λx=>(((ops[x.1]?).map (·.dst))==some (some x.2))&&decide (x.2<z) && !listed.getD x.1 true) &&
 decide ((R.map (·.1)).Nodup)&&decide ((R.map (·.2)).Nodup)&&decide (listed.size=ops.size)&&(List.range ops.size).all (λj=>((ops[j]?).map λo=>o.after.all λe=>!Region.binds md e||decide (e.on<j)).getD true)
theorem c8a{α β:Type}{f:α->β}:∀{l:List α},(l.map f).Nodup->∀{x y:α},x∈l->y∈l->f x=f y->x=y
 | [],_,_,_,h,_,_=>absurd h List.not_mem_nil
 | z::l,hn,x,y,hx,hy,he=>by
  rw[List.map_cons,List.nodup_cons] at hn;rcases List.mem_cons.1 hx with h1 | h1<;>rcases List.mem_cons.1 hy with h2 | h2
  ·rw[h1,h2]
  ·exact absurd (List.mem_map.2 ⟨y,h2,by rw[<-he,h1]⟩) hn.1
  ·exact absurd (List.mem_map.2 ⟨x,h1,by rw[he,h2]⟩) hn.1
  ·exact c8a hn.2 h1 h2 he
def waits(md:Region.Mode)(o:Oper)(j:Nat):Bool:=o.after.any λe=>Region.binds md e&&e.on==j
theorem h4a(R:List (Nat×Tmp))(p:Nat->Value->World->Prop)(fr:Act){listed:Array Bool}{w:World}{fuel:Nat}
(hT:i4c md ops listed R fr.tmps.size=true)(hf:U9a ops listed<=fuel)(hS:S w)
(hp:∀i v w w',BW w w'->p i v w->p i v w')
(hs:∀x∈R,∃o,ops[x.1]? = some o/\∀(a:Act) (w:World),S w->(∀t,(R.all λy=>y.2 != t)=true->a.eval (.tmp t)=fr.eval (.tmp t))->
   (∀y∈R,waits md o y.1=true->p y.1 (a.eval (.tmp y.2)) w)->
   ∀K:Act->World->Prop,(∀v w',S w'->BW w w'->p x.1 v w'->K (a.put (some x.2) v) w')->if Region.wanted o (yielded ops a.tmps)=true then o.wp P a w K Q else K (a.put o.dst undef) w)
(he:∀(vs:Tmp->Value) (w:World),S w->(∀x∈R,p x.1 (vs x.2) w)->Q .normal (R.foldl (λb x=>b.put (some x.2) (vs x.2)) fr) w) :
  wpAnyH P md ops Q S fuel listed fr w:=by
 unfold i4c at hT;simp only[Bool.and_eq_true,decide_eq_true_eq,Bool.not_eq_true',List.all_eq_true,List.mem_range,Bool.or_eq_true,List.any_eq_true,beq_iff_eq] at hT;obtain⟨⟨⟨⟨⟨t1,t2⟩,t3⟩,t4⟩,t5⟩,t6⟩:=hT;refine d4b (P:=P) (ops:=ops) (Q:=Q) (md:=md) (S:=S) (I:=λl a w=>S w/\a.defers=fr.defers/\a.tmps.size=fr.tmps.size/\l.size=ops.size/\
   (∀t,(∀y∈R,y.2≠t)->a.tmps[t]? = fr.tmps[t]?)/\(∀y∈R,l.getD y.1 true=true->p y.1 (a.eval (.tmp y.2)) w)/\(∀j,listed.getD j true=true->l.getD j true=true))
  (λl a w i ⟨s0,s1,s2,s3,s4,s5,s6⟩ hi=>?_) (λl a w ⟨s0,s1,s2,s3,s4,s5,s6⟩ hr=>?_) fuel listed fr w hf ⟨hS,rfl,rfl,t5,λ_ _=>rfl,λy hy h=>?_,λ_ h=>h⟩
 ·obtain⟨hun,o,ho,hall⟩:=mem_ready.1 hi;have hlt:i<ops.size:=(Array.getElem?_eq_some_iff.1 ho).1;obtain⟨x,hx,rfl⟩:∃x∈R,x.1=i:=by
   rcases t1 i hlt with h | h
   ·rw[s6 i h] at hun;cases hun
   ·exact h
  obtain⟨⟨hd,hz⟩,_⟩:=t2 x hx;rw[ho,Option.map_some] at hd;have hd':o.dst=some x.2:=Option.some.inj hd;have hev:∀t,(∀y∈R,y.2≠t)->a.eval (.tmp t)=fr.eval (.tmp t):=λt ht=>by have:=s4 t ht;simp only[Act.eval,Array.getD_eq_getD_getElem?,this]
  obtain⟨o',ho',hs⟩:=hs x hx;obtain rfl:o=o':=Option.some.inj (ho.symm.trans ho');have h:=hs a w s0 (λt ht=>hev t λy hy=>by simpa using List.all_eq_true.1 ht y hy) (λy hy hwt=>s5 y hy (by
   unfold waits at hwt;rw[<-Array.any_toList,List.any_eq_true] at hwt;obtain⟨e,he,h3⟩:=hwt;simp only[Bool.and_eq_true,beq_iff_eq] at h3;have h2:=hall e (Array.mem_toList_iff.1 he) h3.1;rw[<-h3.2];have hlt2:e.on<l.size:=by
    rcases Nat.lt_or_ge e.on l.size with h | h
    ·exact h
    ·rw[Array.getD_eq_getD_getElem?,Array.getElem?_eq_none h] at h2;cases h2
   rw[Array.getD_eq_getD_getElem?,Array.getElem?_eq_getElem hlt2] at h2⊢;exact h2)) (λa' w'=>S w'/\(S w'/\a'.defers=fr.defers/\a'.tmps.size=fr.tmps.size/\(l.setIfInBounds x.1 true).size=ops.size/\
   (∀t,(∀y∈R,y.2≠t)->a'.tmps[t]? = fr.tmps[t]?)/\(∀y∈R,(l.setIfInBounds x.1 true).getD y.1 true=true->p y.1 (a'.eval (.tmp y.2)) w')/\(∀j,listed.getD j true=true->(l.setIfInBounds x.1 true).getD j true=true)))
   (λv w' hS' hb hv=>⟨hS',hS',s1,by simpa[Act.put] using s2,by simpa using s3,λt ht=>?_,λy hy hl=>?_,λj hj=>?_⟩)
  ·unfold wpOp;simp only[ho];by_cases hw:Region.wanted o (yielded ops a.tmps)=true
   ·rw[if_pos hw] at h⊢;exact .inl h
   ·rw[if_neg hw] at h⊢;exact h
  ·have hne:=ht x hx;simp only[Act.put];rw[Array.getElem?_setIfInBounds_ne hne];exact s4 t ht
  ·by_cases hxy:x.1=y.1
   ·obtain rfl:=c8a t3 hx hy hxy;have:(a.put (some x.2) v).eval (.tmp x.2)=v:=by simp[Act.put,Act.eval,s2,hz]
    rw[this];exact hv
   ·have hne:x.2≠y.2:=λh=>hxy (by rw[c8a t4 hx hy h])
    have:(a.put (some x.2) v).eval (.tmp y.2)=a.eval (.tmp y.2):=by simp only[Act.put,Act.eval,Array.getD_eq_getD_getElem?,Array.getElem?_setIfInBounds_ne hne]
    rw[this];rw[getD_set_ne true hxy] at hl;exact hp _ _ _ _ hb (s5 y hy hl)
  ·by_cases hxj:x.1=j
   ·subst hxj;have:=s6 _ hj;rw[this] at hun;cases hun
   ·rw[getD_set_ne true hxj];exact s6 j hj
 ·have hall:∀n,∀j,j<n->j<ops.size->l.getD j true=true:=by
   intro n
   induction n with
   | zero=>intro j h;omega
   | succ n ih=>
    intro j hj hjo;by_cases hjn:j<n
    ·exact ih j hjn hjo
    cases hl:l.getD j true with
    | true=>rfl
    | false=>
     have ho:ops[j]? = some ops[j]:=Array.getElem?_eq_getElem hjo;have h6:=t6 j hjo;rw[ho] at h6;simp only[Option.map_some,Option.getD_some] at h6;have:j∈Region.ready md ops l:=mem_ready.2 ⟨hl,ops[j],ho,λe he hb=>by
      have h7:=Array.all_eq_true_iff_forall_mem.1 h6 e he;rw[hb] at h7;have h8:e.on<j:=by simpa using h7
      have h9:=ih e.on (by omega) (by omega);have hlt2:e.on<l.size:=by omega
      rw[Array.getD_eq_getD_getElem?,Array.getElem?_eq_getElem hlt2] at h9⊢;exact h9⟩
     rw[hr] at this;cases this
  have h:=he (λt=>a.eval (.tmp t)) w s0 (λx hx=>s5 x hx (by
   rcases Nat.lt_or_ge x.1 ops.size with h | h
   ·exact hall (x.1+1) x.1 (by omega) h
   ·rw[Array.getD_eq_getD_getElem?,Array.getElem?_eq_none (by omega)];rfl))
  rw[u8b a R fr s1 s2 s4] at h;exact h
 ·rw[(t2 y hy).2] at h;cases h
end
theorem r3b(w:World)(c:Int)(cs:List Value)(a:l1a)(hc:0<=c/\c<=65535)(ka:a.ok)(ha:g1a w w.heap.size cs a)(hu:a.user.size<=17592186044416/\a.share.size<=17592186044416)(hn:a.locks.length<=4398046511104)(hT:E8a w) :
  Calls prog 89 #[.int .u16 c,.agg cs.toArray] w λe w'=>e=.returned (.bool (U8a c a))/\BW w w':=by
 have HL:=hI (ha.len ka);have HT:=hI hT;have hgl:=ka.glen;have hpl:=ka.plen;obtain⟨hu0,hu1⟩:=hu;have CP:Hid (∀(w':World) (ds:List Value) (b:l1a),b.ok->b.user=a.user->b.share=a.share->g1a w' w'.heap.size ds b->BW w w'->Calls prog 60 #[.int .u16 13,.agg ds.toArray] w' λe w2=>(∃v er,e=.returned (.tuple #[v,.int .i64 er])/\(er==0)=decide (b=i0a))/\BW w' w2):=λw' ds b kb h1 h2 hb hL=>by have h:=I2b w' 13 ds b (by decide) kb hb ⟨by rw[h1];exact hu0,by rw[h2];exact hu1⟩ (HT.o.below hL);exact h.mono λe w2 ⟨v,h1,_,h3⟩=>⟨⟨v,_,h1,t8b b⟩,h3⟩
 have kb:=S9b (c:=c) ka;by_cases hk:c3a c=true;rotate_left
 ·have hn0:U8a c a=false:=by unfold U8a;rw[show c3a c=false from by simpa using hk];rfl
  have hk':c≠5/\c≠6/\c≠7/\c≠8/\c≠9/\c≠10:=by refine⟨?_,?_,?_,?_,?_,?_⟩<;>(rintro rfl;exact hk (by decide))
  obtain⟨h5,h6,h7,h8,h9,h10⟩:=hk';have b5:(c==5)=false:=bF h5
  have b6:(c==6)=false:=bF h6
  have b7:(c==7)=false:=bF h7
  have b8:(c==8)=false:=bF h8
  have b9:(c==9)=false:=bF h9
  have b10:(c==10)=false:=bF h10
  rw[hn0];clear hk hn0 h5 h6 h7 h8 h9 h10 ha ka kb CP;go_enter func89,ntmps89;go_wp2_with(first|(refine sN 3 ?_;refine d0a rfl _ (.tmp 1) rfl cs rfl ?_;intro g w1 hg1 hg2 K1 L1)|fail)
  go_ret;exact⟨rfl,L1.o⟩
 have hcs:c=5∨c=6∨c=7∨c=8∨c=9∨c=10:=by unfold c3a at hk;simp at hk;omega
 obtain⟨A1,A2,A3,X1,X2,X3,M1,M2,M3,rfl,hA,hX,hM⟩:=ha;have FL:Hid (∀(w:World) (g:Nat),Blk w g 34 (l0a (.slice A1 A2 A3) (.slice X1 X2 X3) (.slice M1 M2 M3) a)->w.cell? ⟨g,62,none⟩=some (.slice M1 M2 M3)):=λw g h=>h.at (o0a ka 13)
 have HM:=hI hM;have hml:M2<=4398046511104:=by rw[<-hM.len];exact hn
 obtain⟨C0,hC0⟩:=xX (l0a (.slice A1 A2 A3) (.slice X1 X2 X3) (.slice M1 M2 M3) a);have HC0:=hI hC0;rw[<-hC0] at HL FL⊢;clear hC0;rcases hcs with h5 | h6 | h7 | h8 | h9 | h10
 ·subst h5;have HI:Hid (∀w':World,BW w w'->g1a w' w'.heap.size (l0a (.slice A1 A2 A3) (.slice X1 X2 X3) (.slice M1 M2 M3) (j1a 5 a)) (j1a 5 a)):=λw' hb=>⟨A1,A2,A3,X1,X2,X3,M1,M2,M3,rfl,hA.over hb,hX.over hb,hM.over hb⟩
  have HEQ:Hid (((((((((C0).set 51 (.int .u32 0)).set 52 (.int .u32 0)).set 53 (.int .u32 0)).set 54 (.int .u32 0)).set 55 (.int .u8 0)).set 56 (.int .u8 0)).set 58 (.string .empty)).set 57 (.int .u64 0)=l0a (.slice A1 A2 A3) (.slice X1 X2 X3) (.slice M1 M2 M3) (j1a 5 a)):=by
   show _=_
   rw[HC0.o];simp only[b7c,c7c,d7c,e7c,S6c,f7c,T6c,b0c,hgl,hpl];try rfl
  have hbu:(j1a 5 a).user=a.user/\(j1a 5 a).share=a.share:=⟨rfl,rfl⟩;obtain⟨hbu1,hbu2⟩:=hbu;rw[T9a hk (by decide)];obtain⟨b,hb⟩:=xX (j1a 5 a);rw[<-hb] at HI HEQ kb hbu1 hbu2⊢;obtain⟨D,hD⟩:=xX (l0a (.slice A1 A2 A3) (.slice X1 X2 X3) (.slice M1 M2 M3) b);rw[<-hD] at HI HEQ;clear hb hD hk ka;go_enter func89,ntmps89;go_wp2_with(first|(refine sN 3 ?_;refine d0a rfl _ (.tmp 1) rfl C0 rfl ?_;intro g w1 hg1 hg2 K1 L1)|(refine sT 10 ?_;refine f0a rfl _ (.tmp 10) (.const (.int .u32 0)) rfl g 51 rfl _ C0 (.int .u32 0) rfl K1 HL (by decide) (by kernel_rfl) rfl ?_;intro w2 C1 HC1 HL1 K2 O2 hq2;have L2:=hI (c0a L1.o O2.o hg1))|(refine sT 11 ?_;refine f0a rfl _ (.tmp 11) (.const (.int .u32 0)) rfl g 52 rfl _ C1 (.int .u32 0) rfl K2 HL1 (by decide) (by kernel_rfl) rfl ?_;intro w3 C2 HC2 HL2 K3 O3 hq3;have L3:=hI (c0a L2.o O3.o hg1))|(refine sT 12 ?_;refine f0a rfl _ (.tmp 12) (.const (.int .u32 0)) rfl g 53 rfl _ C2 (.int .u32 0) rfl K3 HL2 (by decide) (by kernel_rfl) rfl ?_;intro w4 C3 HC3 HL3 K4 O4 hq4;have L4:=hI (c0a L3.o O4.o hg1))|(refine sT 13 ?_;refine f0a rfl _ (.tmp 13) (.const (.int .u32 0)) rfl g 54 rfl _ C3 (.int .u32 0) rfl K4 HL3 (by decide) (by kernel_rfl) rfl ?_;intro w5 C4 HC4 HL4 K5 O5 hq5;have L5:=hI (c0a L4.o O5.o hg1))|(refine sT 14 ?_;refine f0a rfl _ (.tmp 14) (.const (.int .u8 0)) rfl g 55 rfl _ C4 (.int .u8 0) rfl K5 HL4 (by decide) (by kernel_rfl) rfl ?_;intro w6 C5 HC5 HL5 K6 O6 hq6;have L6:=hI (c0a L5.o O6.o hg1))|(refine sT 15 ?_;refine f0a rfl _ (.tmp 15) (.const (.int .u8 0)) rfl g 56 rfl _ C5 (.int .u8 0) rfl K6 HL5 (by decide) (by kernel_rfl) rfl ?_;intro w7 C6 HC6 HL6 K7 O7 hq7;have L7:=hI (c0a L6.o O7.o hg1))|(refine sT 16 ?_;refine f0a rfl _ (.tmp 16) (.const (.string .empty)) rfl g 58 rfl _ C6 (.string .empty) rfl K7 HL6 (by decide) (by kernel_rfl) rfl ?_;intro w8 C7 HC7 HL7 K8 O8 hq8;have L8:=hI (c0a L7.o O8.o hg1))|(refine sT 34 ?_;refine f0a rfl _ (.tmp 34) (.const (.int .u64 0)) rfl g 57 rfl _ C7 (.int .u64 0) rfl K8 HL7 (by decide) (by kernel_rfl) rfl ?_;intro w9 C8 HC8 HL8 K9 O9 hq9;have L9:=hI (c0a L8.o O9.o hg1))|(refine sN 36 ?_;refine e0a rfl _ (.tmp 3) rfl g rfl _ C8 K9 69 _ underlying34 rfl p0a HL8 ?_)|fail)
  have HF:Hid (C8=D):=by
   show _=_
   rw[HC8.o,HC7.o,HC6.o,HC5.o,HC4.o,HC3.o,HC2.o,HC1.o];exact HEQ.o
  rw[HF.o];refine(CP.o _ D b kb hbu1 hbu2 (HI.o _ L9.o) L9.o).mono ?_;rintro e v1 ⟨⟨v,er,rfl,her⟩,LQ⟩;have HER:=hI her;have L99:=hI (step L9.o LQ);clear her LQ;go_wp2;go_ret;exact⟨N0a HER.o,L99.o⟩
 ·subst h6;have HI:Hid (∀w':World,BW w w'->g1a w' w'.heap.size (l0a (.slice A1 A2 A3) (.slice X1 X2 X3) (.slice M1 M2 M3) (j1a 6 a)) (j1a 6 a)):=λw' hb=>⟨A1,A2,A3,X1,X2,X3,M1,M2,M3,rfl,hA.over hb,hX.over hb,hM.over hb⟩
  have HEQ:Hid ((C0).set 57 (.int .u64 0)=l0a (.slice A1 A2 A3) (.slice X1 X2 X3) (.slice M1 M2 M3) (j1a 6 a)):=by
   show _=_
   rw[HC0.o];simp only[b0c,hgl,hpl];try rfl
  have hbu:(j1a 6 a).user=a.user/\(j1a 6 a).share=a.share:=⟨rfl,rfl⟩;obtain⟨hbu1,hbu2⟩:=hbu;rw[T9a hk (by decide)];obtain⟨b,hb⟩:=xX (j1a 6 a);rw[<-hb] at HI HEQ kb hbu1 hbu2⊢;obtain⟨D,hD⟩:=xX (l0a (.slice A1 A2 A3) (.slice X1 X2 X3) (.slice M1 M2 M3) b);rw[<-hD] at HI HEQ;clear hb hD hk ka;go_enter func89,ntmps89;go_wp2_with(first|(refine sN 3 ?_;refine d0a rfl _ (.tmp 1) rfl C0 rfl ?_;intro g w1 hg1 hg2 K1 L1)|(refine sT 34 ?_;refine f0a rfl _ (.tmp 34) (.const (.int .u64 0)) rfl g 57 rfl _ C0 (.int .u64 0) rfl K1 HL (by decide) (by kernel_rfl) rfl ?_;intro w2 C1 HC1 HL1 K2 O2 hq2;have L2:=hI (c0a L1.o O2.o hg1))|(refine sN 36 ?_;refine e0a rfl _ (.tmp 3) rfl g rfl _ C1 K2 69 _ underlying34 rfl p0a HL1 ?_)|fail)
  have HF:Hid (C1=D):=by
   show _=_
   rw[HC1.o];exact HEQ.o
  rw[HF.o];refine(CP.o _ D b kb hbu1 hbu2 (HI.o _ L2.o) L2.o).mono ?_;rintro e v1 ⟨⟨v,er,rfl,her⟩,LQ⟩;have HER:=hI her;have L99:=hI (step L2.o LQ);clear her LQ;go_wp2;go_ret;exact⟨N0a HER.o,L99.o⟩
 ·subst h7;have HI:Hid (∀w':World,BW w w'->g1a w' w'.heap.size (l0a (.slice A1 A2 A3) (.slice X1 X2 X3) (.slice M1 M2 M3) (j1a 7 a)) (j1a 7 a)):=λw' hb=>⟨A1,A2,A3,X1,X2,X3,M1,M2,M3,rfl,hA.over hb,hX.over hb,hM.over hb⟩
  have HEQ:Hid ((C0).set 57 (.int .u64 0)=l0a (.slice A1 A2 A3) (.slice X1 X2 X3) (.slice M1 M2 M3) (j1a 7 a)):=by
   show _=_
   rw[HC0.o];simp only[b0c,hgl,hpl];try rfl
  have hbu:(j1a 7 a).user=a.user/\(j1a 7 a).share=a.share:=⟨rfl,rfl⟩;obtain⟨hbu1,hbu2⟩:=hbu;rw[T9a hk (by decide)];obtain⟨b,hb⟩:=xX (j1a 7 a);rw[<-hb] at HI HEQ kb hbu1 hbu2⊢;obtain⟨D,hD⟩:=xX (l0a (.slice A1 A2 A3) (.slice X1 X2 X3) (.slice M1 M2 M3) b);rw[<-hD] at HI HEQ;clear hb hD hk ka;go_enter func89,ntmps89;go_wp2_with(first|(refine sN 3 ?_;refine d0a rfl _ (.tmp 1) rfl C0 rfl ?_;intro g w1 hg1 hg2 K1 L1)|(refine sT 34 ?_;refine f0a rfl _ (.tmp 34) (.const (.int .u64 0)) rfl g 57 rfl _ C0 (.int .u64 0) rfl K1 HL (by decide) (by kernel_rfl) rfl ?_;intro w2 C1 HC1 HL1 K2 O2 hq2;have L2:=hI (c0a L1.o O2.o hg1))|(refine sN 36 ?_;refine e0a rfl _ (.tmp 3) rfl g rfl _ C1 K2 69 _ underlying34 rfl p0a HL1 ?_)|fail)
  have HF:Hid (C1=D):=by
   show _=_
   rw[HC1.o];exact HEQ.o
  rw[HF.o];refine(CP.o _ D b kb hbu1 hbu2 (HI.o _ L2.o) L2.o).mono ?_;rintro e v1 ⟨⟨v,er,rfl,her⟩,LQ⟩;have HER:=hI her;have L99:=hI (step L2.o LQ);clear her LQ;go_wp2;go_ret;exact⟨N0a HER.o,L99.o⟩
 ·subst h8;have HI:Hid (∀w':World,BW w w'->g1a w' w'.heap.size (l0a (.slice A1 A2 A3) (.slice X1 X2 X3) (.slice M1 M2 M3) (j1a 8 a)) (j1a 8 a)):=λw' hb=>⟨A1,A2,A3,X1,X2,X3,M1,M2,M3,rfl,hA.over hb,hX.over hb,hM.over hb⟩
  have HEQ:Hid ((((C0).set 59 (.int .u64 0)).set 60 (.int .u32 0)).set 57 (.int .u64 0)=l0a (.slice A1 A2 A3) (.slice X1 X2 X3) (.slice M1 M2 M3) (j1a 8 a)):=by
   show _=_
   rw[HC0.o];simp only[U6c,g7c,b0c,hgl,hpl];try rfl
  have hbu:(j1a 8 a).user=a.user/\(j1a 8 a).share=a.share:=⟨rfl,rfl⟩;obtain⟨hbu1,hbu2⟩:=hbu;rw[T9a hk (by decide)];obtain⟨b,hb⟩:=xX (j1a 8 a);rw[<-hb] at HI HEQ kb hbu1 hbu2⊢;obtain⟨D,hD⟩:=xX (l0a (.slice A1 A2 A3) (.slice X1 X2 X3) (.slice M1 M2 M3) b);rw[<-hD] at HI HEQ;clear hb hD hk ka;go_enter func89,ntmps89;go_wp2_with(first|(refine sN 3 ?_;refine d0a rfl _ (.tmp 1) rfl C0 rfl ?_;intro g w1 hg1 hg2 K1 L1)|(refine sT 22 ?_;refine f0a rfl _ (.tmp 22) (.const (.int .u64 0)) rfl g 59 rfl _ C0 (.int .u64 0) rfl K1 HL (by decide) (by kernel_rfl) rfl ?_;intro w2 C1 HC1 HL1 K2 O2 hq2;have L2:=hI (c0a L1.o O2.o hg1))|(refine sT 23 ?_;refine f0a rfl _ (.tmp 23) (.const (.int .u32 0)) rfl g 60 rfl _ C1 (.int .u32 0) rfl K2 HL1 (by decide) (by kernel_rfl) rfl ?_;intro w3 C2 HC2 HL2 K3 O3 hq3;have L3:=hI (c0a L2.o O3.o hg1))|(refine sT 34 ?_;refine f0a rfl _ (.tmp 34) (.const (.int .u64 0)) rfl g 57 rfl _ C2 (.int .u64 0) rfl K3 HL2 (by decide) (by kernel_rfl) rfl ?_;intro w4 C3 HC3 HL3 K4 O4 hq4;have L4:=hI (c0a L3.o O4.o hg1))|(refine sN 36 ?_;refine e0a rfl _ (.tmp 3) rfl g rfl _ C3 K4 69 _ underlying34 rfl p0a HL3 ?_)|fail)
  have HF:Hid (C3=D):=by
   show _=_
   rw[HC3.o,HC2.o,HC1.o];exact HEQ.o
  rw[HF.o];refine(CP.o _ D b kb hbu1 hbu2 (HI.o _ L4.o) L4.o).mono ?_;rintro e v1 ⟨⟨v,er,rfl,her⟩,LQ⟩;have HER:=hI her;have L99:=hI (step L4.o LQ);clear her LQ;go_wp2;go_ret;exact⟨N0a HER.o,L99.o⟩
 ·subst h9;have HI:Hid (∀w':World,BW w w'->g1a w' w'.heap.size (l0a (.slice A1 A2 A3) (.slice none 0 0) (.slice M1 M2 M3) (j1a 9 a)) (j1a 9 a)):=λw' hb=>⟨A1,A2,A3,none,0,0,M1,M2,M3,rfl,hA.over hb,Holds.nil _ _,hM.over hb⟩
  have HEQ:Hid ((((C0).set 59 (.int .u64 0)).set 61 (.slice none 0 0)).set 57 (.int .u64 0)=l0a (.slice A1 A2 A3) (.slice none 0 0) (.slice M1 M2 M3) (j1a 9 a)):=by
   show _=_
   rw[HC0.o];simp only[U6c,H6c,b0c,hgl,hpl];try rfl
  have hbu:(j1a 9 a).user=a.user/\(j1a 9 a).share=a.share:=⟨rfl,rfl⟩;obtain⟨hbu1,hbu2⟩:=hbu;rw[T9a hk (by decide)];obtain⟨b,hb⟩:=xX (j1a 9 a);rw[<-hb] at HI HEQ kb hbu1 hbu2⊢;obtain⟨D,hD⟩:=xX (l0a (.slice A1 A2 A3) (.slice none 0 0) (.slice M1 M2 M3) b);rw[<-hD] at HI HEQ;clear hb hD hk ka;go_enter func89,ntmps89;go_wp2_with(first|(refine sN 3 ?_;refine d0a rfl _ (.tmp 1) rfl C0 rfl ?_;intro g w1 hg1 hg2 K1 L1)|(refine sT 26 ?_;refine f0a rfl _ (.tmp 26) (.const (.int .u64 0)) rfl g 59 rfl _ C0 (.int .u64 0) rfl K1 HL (by decide) (by kernel_rfl) rfl ?_;intro w2 C1 HC1 HL1 K2 O2 hq2;have L2:=hI (c0a L1.o O2.o hg1))|(refine sT 27 ?_;refine f0a rfl _ (.tmp 27) (.const (.slice none 0 0)) rfl g 61 rfl _ C1 (.slice none 0 0) rfl K2 HL1 (by decide) (by kernel_rfl) rfl ?_;intro w3 C2 HC2 HL2 K3 O3 hq3;have L3:=hI (c0a L2.o O3.o hg1))|(refine sT 34 ?_;refine f0a rfl _ (.tmp 34) (.const (.int .u64 0)) rfl g 57 rfl _ C2 (.int .u64 0) rfl K3 HL2 (by decide) (by kernel_rfl) rfl ?_;intro w4 C3 HC3 HL3 K4 O4 hq4;have L4:=hI (c0a L3.o O4.o hg1))|(refine sN 36 ?_;refine e0a rfl _ (.tmp 3) rfl g rfl _ C3 K4 69 _ underlying34 rfl p0a HL3 ?_)|fail)
  have HF:Hid (C3=D):=by
   show _=_
   rw[HC3.o,HC2.o,HC1.o];exact HEQ.o
  rw[HF.o];refine(CP.o _ D b kb hbu1 hbu2 (HI.o _ L4.o) L4.o).mono ?_;rintro e v1 ⟨⟨v,er,rfl,her⟩,LQ⟩;have HER:=hI her;have L99:=hI (step L4.o LQ);clear her LQ;go_wp2;go_ret;exact⟨N0a HER.o,L99.o⟩
 ·subst h10;have HI:Hid (∀w':World,BW w w'->g1a w' w'.heap.size (l0a (.slice A1 A2 A3) (.slice X1 X2 X3) (.slice none 0 0) (j1a 10 a)) (j1a 10 a)):=λw' hb=>⟨A1,A2,A3,X1,X2,X3,none,0,0,rfl,hA.over hb,hX.over hb,c1a.nil _ _ _ _⟩
  have HEQ:Hid (((C0).set 62 (.slice none 0 0)).set 57 (.int .u64 0)=l0a (.slice A1 A2 A3) (.slice X1 X2 X3) (.slice none 0 0) (j1a 10 a)):=by
   show _=_
   rw[HC0.o];simp only[I6c,b0c,hgl,hpl];try rfl
  have hbu:(j1a 10 a).user=a.user/\(j1a 10 a).share=a.share:=⟨rfl,rfl⟩;obtain⟨hbu1,hbu2⟩:=hbu;have CC:Hid (∀w',BW w w'->Calls prog 131 #[.slice M1 M2 M3,.func (.func 132) #[] #[]] w' λe w2=>e=.returned (.bool (!shut a.locks))/\BW w' w2):=λw' hb=>c5b w' M1 M2 M3 a.locks (HM.o.over hb) hml
  have hnf:U8a 10 a=(decide (j1a 10 a=i0a)&&shut a.locks):=by unfold U8a;rw[hk,Bool.true_and]
  rw[hnf];obtain⟨b,hb⟩:=xX (j1a 10 a);rw[<-hb] at HI HEQ kb hbu1 hbu2⊢;obtain⟨D,hD⟩:=xX (l0a (.slice A1 A2 A3) (.slice X1 X2 X3) (.slice none 0 0) b);rw[<-hD] at HI HEQ;clear hb hD hk ka;by_cases hs:shut a.locks=true;rotate_left
  ·have hsf:shut a.locks=false:=by simpa using hs
   rw[hsf,Bool.and_false];rw[hsf] at CC;clear hs hsf;go_enter func89,ntmps89;go_wp2_with(first|(refine sN 3 ?_;refine d0a rfl _ (.tmp 1) rfl C0 rfl ?_;intro g w1 hg1 hg2 K1 L1;have cl:=FL.o w1 g K1.o)|fail)
   refine(CC.o w1 L1.o).mono ?_;rintro e v1 ⟨rfl,L9⟩;go_wp2;go_ret;exact⟨rfl,step L1.o L9⟩
  ·rw[hs,Bool.and_true];rw[hs] at CC;clear hs;go_enter func89,ntmps89;go_wp2_with(first|(refine sN 3 ?_;refine d0a rfl _ (.tmp 1) rfl C0 rfl ?_;intro g w1 hg1 hg2 K1 L1;have cl:=FL.o w1 g K1.o)|fail)
   refine(CC.o w1 L1.o).mono ?_;rintro e v0 ⟨rfl,L9⟩;have Kx:=hI (K1.o.over L9);have Lx:=hI (step L1.o L9);clear L9 cl K1 L1;have K1:=Kx;have L1:=Lx;clear Kx Lx;go_wp2_with(first|(refine sT 33 ?_;refine f0a rfl _ (.tmp 33) (.const (.slice none 0 0)) rfl g 62 rfl _ C0 (.slice none 0 0) rfl K1 HL (by decide) (by kernel_rfl) rfl ?_;intro w2 C1 HC1 HL1 K2 O2 hq2;have L2:=hI (c0a L1.o O2.o hg1))|(refine sT 34 ?_;refine f0a rfl _ (.tmp 34) (.const (.int .u64 0)) rfl g 57 rfl _ C1 (.int .u64 0) rfl K2 HL1 (by decide) (by kernel_rfl) rfl ?_;intro w3 C2 HC2 HL2 K3 O3 hq3;have L3:=hI (c0a L2.o O3.o hg1))|(refine sN 36 ?_;refine e0a rfl _ (.tmp 3) rfl g rfl _ C2 K3 69 _ underlying34 rfl p0a HL2 ?_)|fail)
   have HF:Hid (C2=D):=by
    show _=_
    rw[HC2.o,HC1.o];exact HEQ.o
   rw[HF.o];refine(CP.o _ D b kb hbu1 hbu2 (HI.o _ L3.o) L3.o).mono ?_;rintro e v1 ⟨⟨v,er,rfl,her⟩,LQ⟩;have HER:=hI her;have L99:=hI (step L3.o LQ);clear her LQ;go_wp2;go_ret;exact⟨N0a HER.o,L99.o⟩
theorem s3b(w:World)(c:Int)(cs:List Value)(a:O1a)(hc:0<=c/\c<=65535)(ka:a.ok)(ha:s1a w w.heap.size cs a) :
  Calls prog 100 #[.int .u16 c,.agg cs.toArray] w λe w'=>e=.returned (.bool (E3a c a))/\BW w w':=by
 have HL:=hI (ha.len ka);have hcl:=ka.clen;have CP:Hid (∀(w':World) (ds:List Value) (b:O1a),b.ok->s1a w' w'.heap.size ds b->Calls prog 62 #[.int .u16 13,.agg ds.toArray] w' λe w2=>(∃v er,e=.returned (.tuple #[v,.int .i64 er])/\(er==0)=decide (b=n0a))/\BW w' w2):=λw' ds b kb hb=>by have h:=J2b w' 13 ds b (by decide) kb hb;exact h.mono λe w2 ⟨v,h1,_,h3⟩=>⟨⟨v,_,h1,w6b b⟩,h3⟩
 have kb:=L7b (c:=c) ka;by_cases hk:c3a c=true;rotate_left
 ·have hn0:E3a c a=false:=by unfold E3a;rw[show c3a c=false from by simpa using hk];rfl
  have hk':c≠5/\c≠6/\c≠7/\c≠8/\c≠9/\c≠10:=by refine⟨?_,?_,?_,?_,?_,?_⟩<;>(rintro rfl;exact hk (by decide))
  obtain⟨h5,h6,h7,h8,h9,h10⟩:=hk';have b5:(c==5)=false:=bF h5
  have b6:(c==6)=false:=bF h6
  have b7:(c==7)=false:=bF h7
  have b8:(c==8)=false:=bF h8
  have b9:(c==9)=false:=bF h9
  have b10:(c==10)=false:=bF h10
  rw[hn0];clear hk hn0 h5 h6 h7 h8 h9 h10 ha ka kb CP;go_enter func100,ntmps100;go_wp2_with(first|(refine sN 3 ?_;refine d0a rfl _ (.tmp 1) rfl cs rfl ?_;intro g w1 hg1 hg2 K1 L1)|fail)
  go_ret;exact⟨rfl,L1.o⟩
 have hcs:c=5∨c=6∨c=7∨c=8∨c=9∨c=10:=by unfold c3a at hk;simp at hk;omega
 obtain⟨X1,X2,X3,M1,M2,M3,rfl,hX,hM⟩:=ha;obtain⟨C0,hC0⟩:=xX (u0a (.slice X1 X2 X3) (.slice M1 M2 M3) a);have HC0:=hI hC0;rw[<-hC0] at HL ⊢;clear hC0;rcases hcs with h5 | h6 | h7 | h8 | h9 | h10
 ·subst h5;have HI:Hid (∀w':World,BW w w'->s1a w' w'.heap.size (u0a (.slice X1 X2 X3) (.slice M1 M2 M3) (k1a 5 a)) (k1a 5 a)):=λw' hb=>⟨X1,X2,X3,M1,M2,M3,rfl,hX.over hb,hM.over hb⟩
  have HEQ:Hid (((((((C0).set 10 (.int .u8 0)).set 11 (.int .u8 0)).set 12 (.int .u16 0)).set 13 (.int .u64 0)).set 1 (.int .u64 0)).set 14 (.int .u8 0)=u0a (.slice X1 X2 X3) (.slice M1 M2 M3) (k1a 5 a)):=by
   show _=_
   rw[HC0.o];simp only[V6c,j7c,k7c,W6c,sc1,X6c,hcl];try rfl
  have hnf:E3a 5 a=decide (k1a 5 a=n0a):=by unfold E3a;rw[hk,Bool.true_and]
  rw[hnf];obtain⟨b,hb⟩:=xX (k1a 5 a);rw[<-hb] at HI HEQ kb ⊢;obtain⟨D,hD⟩:=xX (u0a (.slice X1 X2 X3) (.slice M1 M2 M3) b);rw[<-hD] at HI HEQ;clear hb hD hk ka;go_enter func100,ntmps100;go_wp2_with(first|(refine sN 3 ?_;refine d0a rfl _ (.tmp 1) rfl C0 rfl ?_;intro g w1 hg1 hg2 K1 L1)|(refine sT 10 ?_;refine f0a rfl _ (.tmp 10) (.const (.int .u8 0)) rfl g 10 rfl _ C0 (.int .u8 0) rfl K1 HL (by decide) (by kernel_rfl) rfl ?_;intro w2 C1 HC1 HL1 K2 O2 hq2;have L2:=hI (c0a L1.o O2.o hg1))|(refine sT 11 ?_;refine f0a rfl _ (.tmp 11) (.const (.int .u8 0)) rfl g 11 rfl _ C1 (.int .u8 0) rfl K2 HL1 (by decide) (by kernel_rfl) rfl ?_;intro w3 C2 HC2 HL2 K3 O3 hq3;have L3:=hI (c0a L2.o O3.o hg1))|(refine sT 12 ?_;refine f0a rfl _ (.tmp 12) (.const (.int .u16 0)) rfl g 12 rfl _ C2 (.int .u16 0) rfl K3 HL2 (by decide) (by kernel_rfl) rfl ?_;intro w4 C3 HC3 HL3 K4 O4 hq4;have L4:=hI (c0a L3.o O4.o hg1))|(refine sT 13 ?_;refine f0a rfl _ (.tmp 13) (.const (.int .u64 0)) rfl g 13 rfl _ C3 (.int .u64 0) rfl K4 HL3 (by decide) (by kernel_rfl) rfl ?_;intro w5 C4 HC4 HL4 K5 O5 hq5;have L5:=hI (c0a L4.o O5.o hg1))|(refine sT 14 ?_;refine f0a rfl _ (.tmp 14) (.const (.int .u64 0)) rfl g 1 rfl _ C4 (.int .u64 0) rfl K5 HL4 (by decide) (by kernel_rfl) rfl ?_;intro w6 C5 HC5 HL5 K6 O6 hq6;have L6:=hI (c0a L5.o O6.o hg1))|(refine sT 15 ?_;refine f0a rfl _ (.tmp 15) (.const (.int .u8 0)) rfl g 14 rfl _ C5 (.int .u8 0) rfl K6 HL5 (by decide) (by kernel_rfl) rfl ?_;intro w7 C6 HC6 HL6 K7 O7 hq7;have L7:=hI (c0a L6.o O7.o hg1))|(refine sN 27 ?_;refine e0a rfl _ (.tmp 3) rfl g rfl _ C6 K7 20 _ underlying39 rfl t0a HL6 ?_)|fail)
  have HF:Hid (C6=D):=by
   show _=_
   rw[HC6.o,HC5.o,HC4.o,HC3.o,HC2.o,HC1.o];exact HEQ.o
  rw[HF.o];refine(CP.o _ D b kb (HI.o _ L7.o)).mono ?_;rintro e v1 ⟨⟨v,er,rfl,her⟩,LQ⟩;have HER:=hI her;have L99:=hI (step L7.o LQ);clear her LQ;go_wp2;go_ret;exact⟨N0a HER.o,L99.o⟩
 ·subst h6;have HI:Hid (∀w':World,BW w w'->s1a w' w'.heap.size (u0a (.slice X1 X2 X3) (.slice M1 M2 M3) (k1a 6 a)) (k1a 6 a)):=λw' hb=>⟨X1,X2,X3,M1,M2,M3,rfl,hX.over hb,hM.over hb⟩
  have HEQ:Hid (C0=u0a (.slice X1 X2 X3) (.slice M1 M2 M3) (k1a 6 a)):=by
   show _=_
   exact HC0.o
  have hnf:E3a 6 a=decide (k1a 6 a=n0a):=by unfold E3a;rw[hk,Bool.true_and]
  rw[hnf];obtain⟨b,hb⟩:=xX (k1a 6 a);rw[<-hb] at HI HEQ kb ⊢;obtain⟨D,hD⟩:=xX (u0a (.slice X1 X2 X3) (.slice M1 M2 M3) b);rw[<-hD] at HI HEQ;clear hb hD hk ka;go_enter func100,ntmps100;go_wp2_with(first|(refine sN 3 ?_;refine d0a rfl _ (.tmp 1) rfl C0 rfl ?_;intro g w1 hg1 hg2 K1 L1)|(refine sN 27 ?_;refine e0a rfl _ (.tmp 3) rfl g rfl _ C0 K1 20 _ underlying39 rfl t0a HL ?_)|fail)
  have HF:Hid (C0=D):=by
   show _=_
   exact HEQ.o
  rw[HF.o];refine(CP.o _ D b kb (HI.o _ L1.o)).mono ?_;rintro e v1 ⟨⟨v,er,rfl,her⟩,LQ⟩;have HER:=hI her;have L99:=hI (step L1.o LQ);clear her LQ;go_wp2;go_ret;exact⟨N0a HER.o,L99.o⟩
 ·subst h7;have HI:Hid (∀w':World,BW w w'->s1a w' w'.heap.size (u0a (.slice X1 X2 X3) (.slice M1 M2 M3) (k1a 7 a)) (k1a 7 a)):=λw' hb=>⟨X1,X2,X3,M1,M2,M3,rfl,hX.over hb,hM.over hb⟩
  have HEQ:Hid (C0=u0a (.slice X1 X2 X3) (.slice M1 M2 M3) (k1a 7 a)):=by
   show _=_
   exact HC0.o
  have hnf:E3a 7 a=decide (k1a 7 a=n0a):=by unfold E3a;rw[hk,Bool.true_and]
  rw[hnf];obtain⟨b,hb⟩:=xX (k1a 7 a);rw[<-hb] at HI HEQ kb ⊢;obtain⟨D,hD⟩:=xX (u0a (.slice X1 X2 X3) (.slice M1 M2 M3) b);rw[<-hD] at HI HEQ;clear hb hD hk ka;go_enter func100,ntmps100;go_wp2_with(first|(refine sN 3 ?_;refine d0a rfl _ (.tmp 1) rfl C0 rfl ?_;intro g w1 hg1 hg2 K1 L1)|(refine sN 27 ?_;refine e0a rfl _ (.tmp 3) rfl g rfl _ C0 K1 20 _ underlying39 rfl t0a HL ?_)|fail)
  have HF:Hid (C0=D):=by
   show _=_
   exact HEQ.o
  rw[HF.o];refine(CP.o _ D b kb (HI.o _ L1.o)).mono ?_;rintro e v1 ⟨⟨v,er,rfl,her⟩,LQ⟩;have HER:=hI her;have L99:=hI (step L1.o LQ);clear her LQ;go_wp2;go_ret;exact⟨N0a HER.o,L99.o⟩
 ·subst h8;have HI:Hid (∀w':World,BW w w'->s1a w' w'.heap.size (u0a (.slice none 0 0) (.slice M1 M2 M3) (k1a 8 a)) (k1a 8 a)):=λw' hb=>⟨none,0,0,M1,M2,M3,rfl,Holds.nil _ _,hM.over hb⟩
  have HEQ:Hid ((C0).set 15 (.slice none 0 0)=u0a (.slice none 0 0) (.slice M1 M2 M3) (k1a 8 a)):=by
   show _=_
   rw[HC0.o];simp only[J6c,hcl];try rfl
  have hnf:E3a 8 a=decide (k1a 8 a=n0a):=by unfold E3a;rw[hk,Bool.true_and]
  rw[hnf];obtain⟨b,hb⟩:=xX (k1a 8 a);rw[<-hb] at HI HEQ kb ⊢;obtain⟨D,hD⟩:=xX (u0a (.slice none 0 0) (.slice M1 M2 M3) b);rw[<-hD] at HI HEQ;clear hb hD hk ka;go_enter func100,ntmps100;go_wp2_with(first|(refine sN 3 ?_;refine d0a rfl _ (.tmp 1) rfl C0 rfl ?_;intro g w1 hg1 hg2 K1 L1)|(refine sT 18 ?_;refine f0a rfl _ (.tmp 18) (.const (.slice none 0 0)) rfl g 15 rfl _ C0 (.slice none 0 0) rfl K1 HL (by decide) (by kernel_rfl) rfl ?_;intro w2 C1 HC1 HL1 K2 O2 hq2;have L2:=hI (c0a L1.o O2.o hg1))|(refine sN 27 ?_;refine e0a rfl _ (.tmp 3) rfl g rfl _ C1 K2 20 _ underlying39 rfl t0a HL1 ?_)|fail)
  have HF:Hid (C1=D):=by
   show _=_
   rw[HC1.o];exact HEQ.o
  rw[HF.o];refine(CP.o _ D b kb (HI.o _ L2.o)).mono ?_;rintro e v1 ⟨⟨v,er,rfl,her⟩,LQ⟩;have HER:=hI her;have L99:=hI (step L2.o LQ);clear her LQ;go_wp2;go_ret;exact⟨N0a HER.o,L99.o⟩
 ·subst h9;have HI:Hid (∀w':World,BW w w'->s1a w' w'.heap.size (u0a (.slice X1 X2 X3) (.slice M1 M2 M3) (k1a 9 a)) (k1a 9 a)):=λw' hb=>⟨X1,X2,X3,M1,M2,M3,rfl,hX.over hb,hM.over hb⟩
  have HEQ:Hid ((C0).set 16 (.int .u32 0)=u0a (.slice X1 X2 X3) (.slice M1 M2 M3) (k1a 9 a)):=by
   show _=_
   rw[HC0.o];simp only[l7c,hcl];try rfl
  have hnf:E3a 9 a=decide (k1a 9 a=n0a):=by unfold E3a;rw[hk,Bool.true_and]
  rw[hnf];obtain⟨b,hb⟩:=xX (k1a 9 a);rw[<-hb] at HI HEQ kb ⊢;obtain⟨D,hD⟩:=xX (u0a (.slice X1 X2 X3) (.slice M1 M2 M3) b);rw[<-hD] at HI HEQ;clear hb hD hk ka;go_enter func100,ntmps100;go_wp2_with(first|(refine sN 3 ?_;refine d0a rfl _ (.tmp 1) rfl C0 rfl ?_;intro g w1 hg1 hg2 K1 L1)|(refine sT 21 ?_;refine f0a rfl _ (.tmp 21) (.const (.int .u32 0)) rfl g 16 rfl _ C0 (.int .u32 0) rfl K1 HL (by decide) (by kernel_rfl) rfl ?_;intro w2 C1 HC1 HL1 K2 O2 hq2;have L2:=hI (c0a L1.o O2.o hg1))|(refine sN 27 ?_;refine e0a rfl _ (.tmp 3) rfl g rfl _ C1 K2 20 _ underlying39 rfl t0a HL1 ?_)|fail)
  have HF:Hid (C1=D):=by
   show _=_
   rw[HC1.o];exact HEQ.o
  rw[HF.o];refine(CP.o _ D b kb (HI.o _ L2.o)).mono ?_;rintro e v1 ⟨⟨v,er,rfl,her⟩,LQ⟩;have HER:=hI her;have L99:=hI (step L2.o LQ);clear her LQ;go_wp2;go_ret;exact⟨N0a HER.o,L99.o⟩
 ·subst h10;have HI:Hid (∀w':World,BW w w'->s1a w' w'.heap.size (u0a (.slice X1 X2 X3) (.slice M1 M2 M3) (k1a 10 a)) (k1a 10 a)):=λw' hb=>⟨X1,X2,X3,M1,M2,M3,rfl,hX.over hb,hM.over hb⟩
  have HEQ:Hid (C0=u0a (.slice X1 X2 X3) (.slice M1 M2 M3) (k1a 10 a)):=by
   show _=_
   exact HC0.o
  have hnf:E3a 10 a=decide (k1a 10 a=n0a):=by unfold E3a;rw[hk,Bool.true_and]
  rw[hnf];obtain⟨b,hb⟩:=xX (k1a 10 a);rw[<-hb] at HI HEQ kb ⊢;obtain⟨D,hD⟩:=xX (u0a (.slice X1 X2 X3) (.slice M1 M2 M3) b);rw[<-hD] at HI HEQ;clear hb hD hk ka;go_enter func100,ntmps100;go_wp2_with(first|(refine sN 3 ?_;refine d0a rfl _ (.tmp 1) rfl C0 rfl ?_;intro g w1 hg1 hg2 K1 L1)|(refine sN 27 ?_;refine e0a rfl _ (.tmp 3) rfl g rfl _ C0 K1 20 _ underlying39 rfl t0a HL ?_)|fail)
  have HF:Hid (C0=D):=by
   show _=_
   exact HEQ.o
  rw[HF.o];refine(CP.o _ D b kb (HI.o _ L1.o)).mono ?_;rintro e v1 ⟨⟨v,er,rfl,her⟩,LQ⟩;have HER:=hI her;have L99:=hI (step L1.o LQ);clear her LQ;go_wp2;go_ret;exact⟨N0a HER.o,L99.o⟩
def WI(w:World)(g base:Nat)(xs:List Int)(e:Int):Prop:=base<=g/\∃v,Blk w g 151 [v,.int .i64 e]/\b1a .u8 5 w base v xs
structure L1a (g base:Nat) (w w':World):Prop where
 below:Below base w w'
 rest:∀k cs T,T≠5->k≠g->w.heap[k]? = some (.cells cs T (0,0))->w'.heap[k]? = some (.cells cs T (0,0))
def d8a(w:World)(g base:Nat)(xs:List Int)(er:Int)(e:Ending)(w':World):Prop:=e=.returned (.tuple #[])/\WI w' g base xs er/\L1a g base w w'
def e8a(base:Nat)(w:World):Prop:=∀w',Below base w w'->E8a w'
theorem e8a.of{w:World}(h:E8a w):e8a w.heap.size w:=λw' hb=>h.below hb
theorem e8a.next{base:Nat}{w w':World}(h:e8a base w)(hb:Below base w w'):e8a base w':=λw2 h2=>h w2 (hb.trans h2)
theorem e8a.tabs{base:Nat}{w:World}(h:e8a base w):E8a w:=h w (Below.refl _ _)
section
variable {w w' w2:World} {g base:Nat} {xs:List Int} {er:Int} {v:Value} {cs:List Value} {T:TypeId}
theorem L1a.refl(g base:Nat)(w:World):L1a g base w w:=⟨Below.refl _ _,λ_ _ _ _ _ h=>h⟩
theorem L1a.trans(a:L1a g base w w')(b:L1a g base w' w2):L1a g base w w2:=⟨a.below.trans b.below,λk cs T h1 h2 h3=>b.rest k cs T h1 h2 (a.rest k cs T h1 h2 h3)⟩
theorem L1a.of_below(hb:BW w w')(h:base<=w.heap.size):L1a g base w w':=⟨hb.mono h,λk cs T _ _ h3=>(hb.block k (Array.getElem?_eq_some_iff.1 h3).1).trans h3⟩
theorem L1a.of_only(hO:s2a g w w')(h:base<=g):L1a g base w w':=⟨hO.below h,λk cs T _ h2 h3=>(hO.rest k h2).trans h3⟩
theorem L1a.of_grown(hg:w.grownBy w' v.ownBlock)(ho:b1a .u8 5 w base v xs)(h:base<=w.heap.size):L1a g base w w':=by refine⟨(Below.refl _ _).grown hg h (λk hk=>(World.ownsRow.lt ho.own k hk).1),λk cs T h1 h2 h3=>?_⟩;rw[hg.block k (Array.getElem?_eq_some_iff.1 h3).1 (λe=>?_),h3];obtain⟨_,cs',hc⟩:=ho.own.block e.symm;rw[hc] at h3;cases h3;exact h1 rfl
theorem L1a.blk{k:Nat}(a:L1a g base w w')(h:Blk w k T cs)(h1:T≠5)(h2:k≠g):Blk w' k T cs:=a.rest k _ T h1 h2 h
theorem WI.lt(h:WI w g base xs er):g<w.heap.size:=by obtain⟨_,v,hB,_⟩:=h;exact hB.lt
theorem WI.size(h:WI w g base xs er):base<=w.heap.size:=by have:=h.lt;have:=h.1;omega
theorem WI.below(h:WI w g base xs er)(hb:BW w w'):WI w' g base xs er:=by obtain⟨h1,v,hB,hO⟩:=h;exact⟨h1,v,hB.over hb,hO.below hb⟩
theorem L1a.onlyNew{h:Nat}(a:L1a g base w w')(hO:s2a h w' w2)(h1:w.heap.size<=h)(h2:base<=h):L1a g base w w2:=⟨a.below.trans (hO.below h2),λk cs T q1 q2 q3=>(hO.rest k (λe=>by have:=(Array.getElem?_eq_some_iff.1 q3).1;omega)).trans (a.rest k cs T q1 q2 q3)⟩
theorem Y2b{A:Option Addr}{n c:Nat}(h:b1a .u8 5 w base (.slice A n c) xs)(hx:Bytes xs)(hn:xs.length<=281474976710656):Holds w w.heap.size A n c xs:=by obtain⟨A',c',e,h1⟩:=b1a.holds8 h hx hn;cases e;exact h1
theorem WI.onlyT{k:Nat}(h:WI w g base xs er)(hB:Blk w k T cs)(hT:T≠5)(hO:s2a k w w')(hk:k≠g):WI w' g base xs er:=by obtain⟨h1,v,hBv,hOv⟩:=h;refine⟨h1,v,hBv.only hO (λe=>hk e.symm),hOv.keep λi c hi hc=>hO.rest i (λe=>?_)⟩;subst e;rw[show w.heap[i]? = _ from hB] at hc;cases hc;exact hT rfl
theorem V9a(h:b1a .u8 5 w base v xs)(hB:Blk w g 151 cs)(hO:s2a g w w'):b1a .u8 5 w' base v xs:=
 h.keep λi c hi hc=>hO.rest i (λe=>by subst e;rw[show w.heap[i]? = _ from hB] at hc;cases hc)
theorem W9a(hB:Blk w g 151 cs)(h:b1a .u8 5 w base v xs)(hg:w.grownBy w' v.ownBlock):Blk w' g 151 cs:=by
 show w'.heap[g]? = _
 rw[hg.block g hB.lt (λe=>?_)]
 ·exact hB
 ·obtain⟨_,c,hc⟩:=h.own.block e.symm;rw[show w.heap[g]? = _ from hB] at hc;cases hc
end
theorem u0b{w:World}{base:Nat}{v:Value}{xs ys:List Int}{B m c:Nat}{ad:Addr}(hown:b1a .u8 5 w base v xs)(hr:Holds w B (some ad) m c ys)(hlen:xs.length+ys.length<=140737488355328)(hbase:base<=w.heap.size)(ty:TypeId) :
  ∃v' w',(Builtin.append_ #[31,31] ty #[v,.slice (some ad) m c]).run prog w=.ok v' w'/\b1a .u8 5 w' base v' (xs++ys)/\w.grownBy w' v.ownBlock:=by
 obtain⟨i0,hi0,hz0,hz1,hz2⟩:=info_parts i3a;have hl:=hr.len;have hOK:=hown.own;have hnews:∀j y,(ys.map (Value.int .u8))[j]? = some y->w.cell? (ad.add j)=some y:=by
  intro j u hj;have hjl:j<ys.length:=by
   by_cases hj':j<ys.length
   ·exact hj'
   ·rw[List.getElem?_eq_none (by simp;omega)] at hj;cases hj
  obtain⟨b,off,he,_,hcl⟩:=hr.cells (by omega);obtain rfl:=Option.some.inj he;have e:(⟨b,off,none⟩:Addr).add j=⟨b,off+j,none⟩:=by
   by_cases hj0:j=0
   ·subst hj0;simp[Addr.add]
   ·simp[Addr.add,hj0]
  rw[e,hcl j (by omega),<-hj];simp[hjl]
 have h1:∀y∈ys.map (Value.int .u8),y.oneCell'=true:=by intro v hv;obtain⟨x,_,rfl⟩:=List.mem_map.1 hv;rfl
 have hmax:maxLen=9223372036854775807:=rfl;have key:∀ty,∃v' w',(Builtin.append_ #[31,31] ty #[v,.slice (some ad) m c]).run prog w=.ok v' w'/\b1a .u8 5 w' base v' (xs++ys)/\w.grownBy w' v.ownBlock:=by
  intro ty;rcases hown with⟨rfl,rfl⟩ | ⟨g,z,rfl,hb,hz,hg⟩
  ·by_cases hm0:m=0
   ·subst hm0;have:ys=[]:=List.eq_nil_of_length_eq_zero hl;subst this;obtain⟨v',w',hrun,_,hgr,hnil⟩:=run_append_own (P:=prog) w base 31 ty 5 i0 (.int .u8 0) 1 1 underlying31 hi0 hz0 hz1 hz2 rfl (by omega) (.slice none 0 0) 0 [] (World.ownsRow_nil w base _ 1) ad 0 c [] rfl (λj u hj=>by cases hj) (λu hu=>by cases hu) (by omega) (by omega) hbase;obtain rfl:=hnil.2 ⟨rfl,rfl⟩;exact⟨_,_,hrun,b1a.nil _ _ _ _,hgr⟩
   ·have hrun:=run_append_nil (P:=prog) w 31 ty 5 i0 (.int .u8 0) underlying31 hi0 hz0 ad m c (ys.map (Value.int .u8)) (by simp[hl,hz1]) hnews (by omega) (by omega) (by rw[hz2];simp at hlen;omega);exact⟨_,_,hrun,by simpa using S5a .u8 5 w base ys 0 m hl hbase (by omega),⟨rfl,rfl,rfl,by simp,λj hj _=>Below.heap_alloc w.drew _ j hj⟩⟩
  ·by_cases hroom:xs.length+m<=xs.length+z
   ·have hrun:=run_append_room (P:=prog) w 31 ty 5 i0 underlying31 hi0 g xs.length (xs.length+z) _ hg ad m c (ys.map (Value.int .u8)) (by simp[hl,hz1]) hnews h1 hroom (by simp[hz1];omega);refine⟨_,_,hrun,.inr ⟨g,z-m,by simp[hl];omega,hb,by simp;omega,?_⟩,⟨rfl,rfl,rfl,by simp,λj _ hj=>setRow_other w g j _ (λe=>hj (by simp[Value.ownBlock,e]))⟩⟩;rw[setRow_heap w g _ _ 5 _ hg]
    congr 2
    have e1:((xs++List.replicate z 0).map (Value.int .u8)).take (xs.length*i0.size)=xs.map (Value.int .u8):=by rw[hz1,Nat.mul_one,List.map_append,List.take_left' (by simp)]
    have e2:((xs++List.replicate z 0).map (Value.int .u8)).drop (xs.length*i0.size+(ys.map (Value.int .u8)).length)=(List.replicate (z-m) 0).map (Value.int .u8):=by rw[hz1,Nat.mul_one,List.length_map,hl,<-List.drop_drop,List.map_append,List.drop_left' (by simp),<-List.map_drop,List.drop_replicate]
    rw[e1,e2];simp
   ·have m0a:∀j y,(xs.map (Value.int .u8))[j]? = some y->w.cell? ((⟨g,0,none⟩:Addr).add j)=some y:=hOK.cells (g:=g) rfl;have hrun:=run_append_grow (P:=prog) w 31 ty 5 i0 (.int .u8 0) underlying31 hi0 hz0 ⟨g,0,none⟩ xs.length (xs.length+z) (xs.map (Value.int .u8)) (by simp[hz1]) m0a ad m c (ys.map (Value.int .u8)) (by simp[hl,hz1]) hnews (by omega) (by omega) (growslice_fits (by omega) (by rw[hz2];omega));refine⟨_,_,hrun,?_,⟨rfl,rfl,rfl,by simp,λj hj _=>Below.heap_alloc w.drew _ j hj⟩⟩;have:=S5a .u8 5 w base (xs++ys) (xs.length+z) (xs.length+m) (by simp[hl]) hbase (by omega);simpa using this
 exact key ty
theorem U3a{w:World}{ops:Array Oper}{rest:List Oper}{o:Oper}{a:Act}{Q:Exit->Act->World->Prop}(hgd:o.guard=none)(s x:Operand)
(ho:o.op=.call { callee:=.builtin .append,args:=#[s,x],argTypes:=#[31,31] })
(base:Nat)(v:Value)(xs:List Int)(hs:a.eval s=v)(hown:b1a .u8 5 w base v xs)(B:Nat)(A:Option Addr)(m c:Nat)(ys:List Int)(hx:a.eval x=.slice A m c)
(hr:Holds w B A m c ys)(hlen:xs.length+ys.length<=140737488355328)(hbase:base<=w.heap.size)
(h:∀v' w',Hid (b1a .u8 5 w' base v' (xs++ys))->Hid (w.grownBy w' v.ownBlock)->wpList prog ops Q rest (a.put o.dst v') w') :
  wpList prog ops Q (o::rest) a w:=by
 have hl:=hr.len;rcases A with _ | ad
 ·have hc:=hr.bare rfl;have hf:=hr.fit;have hm:m=0:=by omega
  subst hm;subst hc;have:ys=[]:=List.eq_nil_of_length_eq_zero hl;subst this;obtain⟨i0,hi0,hz0,hz1,hz2⟩:=info_parts i3a;refine wpList_append_own_none hgd s x 31 ho base 5 i0 1 underlying31 hi0 v xs.length _ hs hown.own hx ?_;exact h v w (by rw[List.append_nil];exact hown) (World.grownBy.refl w _)
 ·obtain⟨v',w',hrun,h2,h3⟩:=u0b hown hr hlen hbase o.type;exact Lib.wpList_append_run w hgd s x _ _ ho _ _ hs hx v' w' hrun (h v' w' h2 h3)
theorem z8a{w:World}{ops:Array Oper}{rest:List Oper}{o:Oper}{a:Act}{Q:Exit->Act->World->Prop}(hgd:o.guard=none)(s x:Operand)
(ho:o.op=.call { callee:=.builtin .append,args:=#[s,x],argTypes:=#[31,3] })
(base n:Nat)(v:Value)(xs:List Int)(hs:a.eval s=v)(hx:a.eval x=.int .i64 (n:Int))(hown:b1a .u8 5 w base v xs)(h0:0<n)(hn:n<=65536)(hlen:xs.length<=1000000)(hbase:base<=w.heap.size)
(h:∀v' w',Hid (b1a .u8 5 w' base v' (xs++List.replicate n 0))->Hid (w.grownBy w' v.ownBlock)->wpList prog ops Q rest (a.put o.dst v') w') :
  wpList prog ops Q (o::rest) a w:=by
 obtain⟨v',w',hrun,h2,h3⟩:=n7a h0 hn hown hlen hbase o.type;exact Lib.wpList_append_run w hgd s x _ _ ho _ _ hs hx v' w' hrun (h v' w' h2 h3)
theorem D1b:(prog.info? 31).map (·.size)=some 1:=by kernel_rfl
theorem e4b(w:World)(b:Bool):Calls prog 107 #[.bool b] w λe w'=>e=.returned (.int .u64 (e1a b))/\w=w':=by
 cases b
 ·go_enter func107,ntmps107;go_wp2;go_ret;exact⟨rfl,rfl⟩
 ·go_enter func107,ntmps107;go_wp2;go_ret;exact⟨rfl,rfl⟩
theorem d5b(w:World)(g base:Nat)(xs:List Int)(er n:Int)(s:Nat)(hW:WI w g base xs er)(hs:u3a (s:Int)=true)(hn:0<=n/\n<256^s)(hl:xs.length<=1000000) :
  Calls prog 137 #[.pointer (some ⟨g,0,none⟩),.int .u64 n,.int .i64 (s:Int)] w (d8a w g base (xs++le n s) er):=by
 have hs8:1<=s/\s<=8:=by rcases S1a hs with h | h | h | h<;>omega
 obtain⟨hs1,hs8⟩:=hs8;have hp8:(256:Int)^s<=18446744073709551616:=by
  rcases S1a hs with h | h | h | h
  ·obtain rfl:s=1:=by omega
   decide
  ·obtain rfl:s=2:=by omega
   decide
  ·obtain rfl:s=4:=by omega
   decide
  ·obtain rfl:s=8:=by omega
   decide
 have CP:Hid (Calls prog 32 #[.int .u64 n,.int .i64 (s:Int)] w λe w'=>∃A',e=.returned (.tuple #[.slice A' s s,.int .i64 0])/\p2a w' w.heap.size A' (le n s)/\BW w w'):=by
  obtain⟨h0,h1⟩:=hn;have h:=P8a w n (s:Int) ⟨h0,by omega⟩ (by omega);unfold z5a at h;have hp:N4a n (s:Int)=true:=by unfold N4a;rw[hs,Int.toNat_natCast,decide_eq_true h1];rfl
  unfold e7a N5a at h;rw[if_pos hp,if_pos hp,Int.toNat_natCast,g0a] at h;exact h
 have hsz:=hW.size;have hgb:=hW.1;have HLN:Hid ((le n s).length=s/\Bytes (le n s)):=⟨g0a _ _,F0a _ _⟩;obtain⟨_,v,hB,hO⟩:=hW;have HBw:=hI hB;have HO:=hI hO;have HQ:Hid (∀e w',(e=.returned (.tuple #[])/\(∃u,Blk w' g 151 [u,.int .i64 er]/\b1a .u8 5 w' base u (xs++le n s))/\L1a g base w w')->d8a w g base (xs++le n s) er e w'):=λe w' ⟨h1,h2,h3⟩=>⟨h1,⟨hgb,h2⟩,h3⟩
 obtain⟨ys,hys⟩:=xX (le n s);rw[<-hys] at CP HQ HLN⊢;clear hB hO hys hn hp8 hs;go_enter func137,ntmps137;go_wp2_with fail;refine CP.o.mono ?_;rintro e w1 ⟨A',rfl,hF,L1⟩;have HH:=hI (hF.holds HLN.o.1 HLN.o.2 (by omega));have hyl:=HLN.o.1;have B1:=hI (HBw.o.over L1);have O1:=hI (HO.o.below L1);have K1:Hid (L1a g base w w1):=L1a.of_below L1 hsz;have hsz1:base<=w1.heap.size:=by have:=L1.size;omega
 have c0:w1.cell? ⟨g,0,none⟩=some v:=B1.o.at rfl;clear hF L1 CP HBw HO;go_wp2_with(first|(refine sN 20 ?_;refine U3a rfl (.tmp 18) (.tmp 19) rfl base v xs rfl O1.o w1.heap.size A' s s ys rfl HH.o (by omega) hsz1 ?_;intro u w2 O2 G2;have B2:=hI (W9a B1.o O1.o G2.o);have K2:Hid (L1a g base w w2):=(K1.o.trans (L1a.of_grown G2.o O1.o hsz1));have HU:=hI (n5a O2.o))|(refine sT 22 ?_;refine x0a rfl _ (.tmp 22) (.tmp 20) rfl g 0 rfl _ [v,.int .i64 er] u rfl B2 (hI (by show 0<2;decide)) D1b HU.o ?_;intro w3 B3 P3 hg3;have O3:=hI (V9a O2.o B2.o P3.o);have K3:Hid (L1a g base w w3):=(K2.o.trans (L1a.of_only P3.o hgb)))|fail)
 go_end0;exact HQ.o _ _ ⟨rfl,⟨u,B3.o,O3.o⟩,K3.o⟩
theorem v4a(w:World)(g base:Nat)(xs:List Int)(er n:Int)(hW:WI w g base xs er)(hn:0<=n/\n<=65535)(hl:xs.length<=1000000) :
  Calls prog 104 #[.pointer (some ⟨g,0,none⟩),.int .u64 n] w (d8a w g base (xs++le n 2) er):=by
 have C1:=hI (d5b w g base xs er n 2 hW (by decide) ⟨hn.1,by have:=hn.2;rw[show(256:Int)^2=65536 from by decide];omega⟩ hl);have HQ:Hid (∀e w',(e=.returned (.tuple #[])/\WI w' g base (xs++le n 2) er/\L1a g base w w')->d8a w g base (xs++le n 2) er e w'):=λ_ _ h=>h
 unfold d8a at C1;obtain⟨ys,hys⟩:=xX (xs++le n 2);rw[<-hys] at C1 HQ⊢;clear hys hW hn;go_enter func104,ntmps104;go_wp2_with fail;refine C1.o.mono ?_;rintro e w1 ⟨rfl,h1,h2⟩;have H1:=hI h1;have H2:=hI h2;clear h1 h2;go_wp2;go_end0;exact HQ.o _ _ ⟨rfl,H1.o,H2.o⟩
theorem R3a(w:World)(g base:Nat)(xs:List Int)(er n:Int)(hW:WI w g base xs er)(hn:0<=n/\n<=18446744073709551615)(hl:xs.length<=1000000) :
  Calls prog 103 #[.pointer (some ⟨g,0,none⟩),.int .u64 n] w (d8a w g base (xs++le n 8) er):=by
 have C1:=hI (d5b w g base xs er n 8 hW (by decide) ⟨hn.1,by have:=hn.2;rw[show(256:Int)^8=18446744073709551616 from by decide];omega⟩ hl);have HQ:Hid (∀e w',(e=.returned (.tuple #[])/\WI w' g base (xs++le n 8) er/\L1a g base w w')->d8a w g base (xs++le n 8) er e w'):=λ_ _ h=>h
 unfold d8a at C1;obtain⟨ys,hys⟩:=xX (xs++le n 8);rw[<-hys] at C1 HQ⊢;clear hys hW hn;go_enter func103,ntmps103;go_wp2_with fail;refine C1.o.mono ?_;rintro e w1 ⟨rfl,h1,h2⟩;have H1:=hI h1;have H2:=hI h2;clear h1 h2;go_wp2;go_end0;exact HQ.o _ _ ⟨rfl,H1.o,H2.o⟩
theorem I5a(w:World)(g base:Nat)(xs:List Int)(er:Int)(n:Nat)(hW:WI w g base xs er)(h0:0<n)(hn:n<=65536)(hl:xs.length<=1000000) :
  Calls prog 105 #[.pointer (some ⟨g,0,none⟩),.int .i64 (n:Int)] w (d8a w g base (xs++List.replicate n 0) er):=by
 have hsz:=hW.size;have hgb:=hW.1;obtain⟨_,v,hB,hO⟩:=hW;have HBw:=hI hB;have HO:=hI hO;have HQ:Hid (∀e w',(e=.returned (.tuple #[])/\(∃u,Blk w' g 151 [u,.int .i64 er]/\b1a .u8 5 w' base u (xs++List.replicate n 0))/\L1a g base w w')->d8a w g base (xs++List.replicate n 0) er e w'):=λe w' ⟨h1,h2,h3⟩=>⟨h1,⟨hgb,h2⟩,h3⟩
 have c0:w.cell? ⟨g,0,none⟩=some v:=hB.at rfl;clear hB hO;go_enter func105,ntmps105;go_wp2_with(first|(refine sN 10 ?_;refine z8a rfl (.tmp 8) (.tmp 9) rfl base n v xs rfl rfl HO.o h0 hn hl hsz ?_;intro u w2 O2 G2;have B2:=hI (W9a HBw.o HO.o G2.o);have K2:Hid (L1a g base w w2):=(L1a.of_grown G2.o HO.o hsz);have HU:=hI (n5a O2.o))|(refine sT 12 ?_;refine x0a rfl _ (.tmp 12) (.tmp 10) rfl g 0 rfl _ [v,.int .i64 er] u rfl B2 (hI (by show 0<2;decide)) D1b HU.o ?_;intro w3 B3 P3 hg3;have O3:=hI (V9a O2.o B2.o P3.o);have K3:Hid (L1a g base w w3):=(K2.o.trans (L1a.of_only P3.o hgb)))|fail)
 go_end0;exact HQ.o _ _ ⟨rfl,⟨u,B3.o,O3.o⟩,K3.o⟩
theorem Y9a(w:World)(g base:Nat)(xs:List Int)(er:Int)(s:ByteArray)(hW:WI w g base xs er)(hs:s.size<=17592186044416)(hT:e8a base w)(hl:xs.length<=1000000) :
  Calls prog 106 #[.pointer (some ⟨g,0,none⟩),.string s] w (d8a w g base (xs++C0a s.data.toList) (if er=0 then z0a s.data.toList else er)):=by
 have hsz:=hW.size;have hgb:=hW.1;have CP:Hid (Calls prog 79 #[.string s] w λe w'=>∃A m c,e=.returned (.tuple #[.slice A m c,.int .i64 (z0a s.data.toList)])/\m<=1000/\b1a .u8 5 w' w.heap.size (.slice A m c) (C0a s.data.toList)/\BW w w'):=by
  refine(Z5a s w hs hT.tabs).mono λe w' ⟨v,h1,h2,h3⟩=>?_
  have hle:(C0a s.data.toList).length<=514:=v3a _;obtain⟨A,c,rfl,h4⟩:=b1a.holds8 h2 (e2a _) (by omega);exact⟨A,_,c,h1,by omega,h2,h3⟩
 obtain⟨_,v,hB,hO⟩:=hW;have HBw:=hI hB;have HO:=hI hO;have HQ:Hid (∀e w',(e=.returned (.tuple #[])/\(∃u,Blk w' g 151 [u,.int .i64 (if er=0 then z0a s.data.toList else er)]/\b1a .u8 5 w' base u (xs++C0a s.data.toList))/\L1a g base w w')->d8a w g base (xs++C0a s.data.toList) (if er=0 then z0a s.data.toList else er) e w'):=λe w' ⟨h1,h2,h3⟩=>⟨h1,⟨hgb,h2⟩,h3⟩
 have HYB:Hid (Bytes (C0a s.data.toList)/\(C0a s.data.toList).length<=514):=⟨e2a _,v3a _⟩;obtain⟨ys,hys⟩:=xX (C0a s.data.toList);obtain⟨et,het⟩:=xX (z0a s.data.toList);rw[<-hys,<-het] at CP HQ⊢;rw[<-hys] at HYB;have hgw:g<w.heap.size:=hB.lt;clear hB hO hys het;by_cases he:er=0
 ·subst he;rw[if_pos rfl] at HQ⊢;go_enter func106,ntmps106;go_wp2_with fail;refine CP.o.mono ?_;rintro e w1 ⟨A',m,c,rfl,hm,hh,L1⟩;have HYL:=HYB.o.2;have HOT:=hI hh;have HH:=hI (Y2b hh HYB.o.1 (by omega));have hyl:=HH.o.len;have B1:=hI (HBw.o.over L1);have O1:=hI (HO.o.below L1);have K1:Hid (L1a g base w w1):=L1a.of_below L1 hsz;have hsz1:base<=w1.heap.size:=by have:=L1.size;omega
  have c0:w1.cell? ⟨g,0,none⟩=some v:=B1.o.at rfl;have c1:w1.cell? ⟨g,1,none⟩=some (.int .i64 0):=B1.o.at rfl;clear hh L1 CP HBw HO;go_wp2_with(first|(refine sT 19 ?_;refine x0a rfl _ (.tmp 19) (.tmp 17) rfl g 1 rfl _ [v,.int .i64 0] (.int .i64 et) rfl B1 (hI (by show 1<2;decide)) (by kernel_rfl) rfl ?_;intro w2 B2 P2 hg2;have O2:=hI (V9a O1.o B1.o P2.o);have K2:Hid (L1a g base w w2):=(K1.o.trans (L1a.of_only P2.o hgb));have HH2:=hI (Y2b (HOT.o.onlyAt P2.o hgw) HYB.o.1 (by omega));have hsz2:base<=w2.heap.size:=(by have:=P2.o.size;omega);have d0:w2.cell? ⟨g,0,none⟩=some v:=B2.o.at rfl)|(refine sN 26 ?_;refine U3a rfl (.tmp 24) (.tmp 25) rfl base v xs rfl O2.o _ A' m c ys rfl HH2.o (by omega) hsz2 ?_;intro u w3 O3 G3;have B3:=hI (W9a B2.o O2.o G3.o);have K3:Hid (L1a g base w w3):=(K2.o.trans (L1a.of_grown G3.o O2.o hsz2));have HU:=hI (n5a O3.o))|(refine sT 28 ?_;refine x0a rfl _ (.tmp 28) (.tmp 26) rfl g 0 rfl _ [v,.int .i64 et] u rfl B3 (hI (by show 0<2;decide)) D1b HU.o ?_;intro w4 B4 P4 hg4;have O4:=hI (V9a O3.o B3.o P4.o);have K4:Hid (L1a g base w w4):=(K3.o.trans (L1a.of_only P4.o hgb)))|fail)
  go_end0;exact HQ.o _ _ ⟨rfl,⟨u,B4.o,O4.o⟩,K4.o⟩
 ·rw[if_neg he] at HQ⊢;have hne:(er==0)=false:=bF he
  clear he;go_enter func106,ntmps106;go_wp2_with fail;refine CP.o.mono ?_;rintro e w1 ⟨A',m,c,rfl,hm,hh,L1⟩;have HYL:=HYB.o.2;have HOT:=hI hh;have HH:=hI (Y2b hh HYB.o.1 (by omega));have hyl:=HH.o.len;have B1:=hI (HBw.o.over L1);have O1:=hI (HO.o.below L1);have K1:Hid (L1a g base w w1):=L1a.of_below L1 hsz;have hsz1:base<=w1.heap.size:=by have:=L1.size;omega
  have c0:w1.cell? ⟨g,0,none⟩=some v:=B1.o.at rfl;have c1:w1.cell? ⟨g,1,none⟩=some (.int .i64 er):=B1.o.at rfl;clear hh L1 CP HBw HO;go_wp2_with(first|(refine sN 26 ?_;refine U3a rfl (.tmp 24) (.tmp 25) rfl base v xs rfl O1.o _ A' m c ys rfl HH.o (by omega) hsz1 ?_;intro u w3 O3 G3;have B3:=hI (W9a B1.o O1.o G3.o);have K3:Hid (L1a g base w w3):=(K1.o.trans (L1a.of_grown G3.o O1.o hsz1));have HU:=hI (n5a O3.o))|(refine sT 28 ?_;refine x0a rfl _ (.tmp 28) (.tmp 26) rfl g 0 rfl _ [v,.int .i64 er] u rfl B3 (hI (by show 0<2;decide)) D1b HU.o ?_;intro w4 B4 P4 hg4;have O4:=hI (V9a O3.o B3.o P4.o);have K4:Hid (L1a g base w w4):=(K3.o.trans (L1a.of_only P4.o hgb)))|fail)
  go_end0;exact HQ.o _ _ ⟨rfl,⟨u,B4.o,O4.o⟩,K4.o⟩
theorem f4b(w:World)(g base:Nat)(xs:List Int)(er f v:Int)(hW:WI w g base xs er)(hf:0<=f/\f<=18446744073709551615)(hv:0<=v/\v<=255)(hl:xs.length<=900000) :
  Calls prog 108 #[.pointer (some ⟨g,0,none⟩),.int .u64 f,.int .u8 v] w (d8a w g base (xs++(le f 8++(le v 1++List.replicate 3 0))) er):=by
 obtain⟨hv0,hv1⟩:=hv;have C1:=hI (R3a w g base xs er f hW hf (by omega));have C2:Hid (∀w':World,WI w' g base (xs++le f 8) er->Calls prog 137 #[.pointer (some ⟨g,0,none⟩),.int .u64 v,.int .i64 1] w' λe w2=>e=.returned (.tuple #[])/\WI w2 g base (xs++le f 8++le v 1) er/\L1a g base w' w2):=λw' h=>d5b w' g base _ er v 1 h (by decide) ⟨hv0,by rw[show(256:Int)^1=256 from by decide];omega⟩ (by rw[List.length_append,g0a];omega)
 have C3:Hid (∀w':World,WI w' g base (xs++le f 8++le v 1) er->Calls prog 105 #[.pointer (some ⟨g,0,none⟩),.int .i64 3] w' λe w2=>e=.returned (.tuple #[])/\WI w2 g base (xs++le f 8++le v 1++List.replicate 3 0) er/\L1a g base w' w2):=λw' h=>I5a w' g base _ er 3 h (by decide) (by decide) (by rw[List.length_append,List.length_append,g0a,g0a];omega)
 have HQ:Hid (∀e w',(e=.returned (.tuple #[])/\WI w' g base (xs++le f 8++le v 1++List.replicate 3 0) er/\L1a g base w w')->d8a w g base (xs++(le f 8++(le v 1++List.replicate 3 0))) er e w'):=λe w' h=>by rw[show xs++(le f 8++(le v 1++List.replicate 3 0))=xs++le f 8++le v 1++List.replicate 3 0 from by simp only[List.append_assoc]];exact h
 unfold d8a at C1;obtain⟨y3,hy3⟩:=xX (xs++le f 8++le v 1++List.replicate 3 0);rw[<-hy3] at C3 HQ;obtain⟨y2,hy2⟩:=xX (xs++le f 8++le v 1);rw[<-hy2] at C2 C3;obtain⟨y1,hy1⟩:=xX (xs++le f 8);rw[<-hy1] at C1 C2;clear hy1 hy2 hy3 hW hf;go_enter func108,ntmps108;go_wp2_with fail;refine C1.o.mono ?_;rintro e w1 ⟨rfl,h1,h2⟩;have D2:=hI (C2.o w1 h1);have K1:=hI h2;clear h1 h2 C1 C2;go_wp2_with fail;refine D2.o.mono ?_;rintro e w2 ⟨rfl,h1,h2⟩;have D3:=hI (C3.o w2 h1);have K2:=hI (K1.o.trans h2);clear h1 h2 D2 C3;go_wp2_with fail;refine D3.o.mono ?_;rintro e w3 ⟨rfl,h1,h2⟩;have H3:=hI h1;have K3:=hI (K2.o.trans h2);clear h1 h2 D3;go_wp2;go_end0;exact HQ.o _ _ ⟨rfl,H3.o,K3.o⟩
def e5b(w:World)(base:Nat)(xs:List Int)(er:Int)(e:Ending)(w':World):Prop:=∃v,e=.returned (.tuple #[v,.int .i64 er])/\b1a .u8 5 w' base v (if er=0 then xs else [])/\BW w w'
theorem w4a(w:World)(g base:Nat)(xs:List Int)(er:Int)(hW:WI w g base xs er) :
  Calls prog 109 #[.pointer (some ⟨g,0,none⟩)] w (e5b w base xs er):=by
 obtain⟨_,v,hB,hO⟩:=hW;have HO:=hI hO;have HV:=hI (n5a hO);have c0:w.cell? ⟨g,0,none⟩=some v:=hB.at rfl;have c1:w.cell? ⟨g,1,none⟩=some (.int .i64 er):=hB.at rfl;have HBw:=hI hB;by_cases he:er=0
 ·subst he;have HQ:Hid (∀e w',(e=.returned (.tuple #[v,.int .i64 0])/\b1a .u8 5 w' base v xs/\BW w w')->e5b w base xs 0 e w'):=λe w' ⟨h1,h2,h3⟩=>⟨v,h1,by rw[if_pos rfl];exact h2,h3⟩
  clear hB hO;go_enter func109,ntmps109;go_wp2;go_ret2;exact HQ.o _ _ ⟨rfl,HO.o,Below.refl _ _⟩
 ·have HQ:Hid (∀e w',(e=.returned (.tuple #[.slice none 0 0,.int .i64 er])/\BW w w')->e5b w base xs er e w'):=λe w' ⟨h1,h2⟩=>⟨_,h1,by rw[if_neg he];exact b1a.nil _ _ _ _,h2⟩
  have hne:(er != 0)=true:=by simpa using he
  clear hB hO he;go_enter func109,ntmps109;go_wp2;go_quiet (fail);go_wp2;go_ret2;exact HQ.o _ _ ⟨rfl,x3a w _⟩
theorem g4b:(prog.info? 108).map (λi=>(i.zero,i.size))=some (some (.agg ([.string .empty,.int .u8 0,.int .i64 0]:List Value).toArray),3):=by kernel_rfl
def g5c(e:y1a):Prop:=e.ok/\G3a e=true/\e.name.size<=17592186044416
theorem x6b(w:World)(g base:Nat)(xs:List Int)(A:Option Addr)(n c:Nat)(es:List y1a)(hW:WI w g base xs 0)(hE:c1a B0a 3 w base A n c es)(hn:n<=64)(hi:∀e∈es,g5c e)(hT:e8a base w)(hl:xs.length<=100000) :
  Calls prog 121 #[.pointer (some ⟨g,0,none⟩),.slice A n c] w (d8a w g base (xs++X0a es) (w1a es)):=by
 have hsz:=hW.size;have HW:=hI hW;have HE:=hI hE;have HT:=hI hT;have HLE:=hI hE.len;have hft:=hE.fit;have HQ:Hid (∀e w',(e=.returned (.tuple #[])/\WI w' g base (xs++X0a es) (w1a es)/\L1a g base w w')->d8a w g base (xs++X0a es) (w1a es) e w'):=λ_ _ h=>h
 have H0:Hid (xs++X0a (es.take 0)=xs/\w1a (es.take 0)=0):=by
  refine⟨?_,?_⟩
  ·rw[List.take_zero];exact List.append_nil _
  ·rw[List.take_zero];rfl
 have HN:Hid (xs++X0a (es.take n)=xs++X0a es/\w1a (es.take n)=w1a es):=by
  have h1:es.take n=es:=by rw[<-hE.len,List.take_length]
  exact⟨by rw[h1],by rw[h1]⟩
 have HX:Hid (∀j,j<n->∃x,es[j]? = some x/\g5c x):=λj hj=>⟨_,List.getElem?_eq_getElem (by have:=hE.len;omega),hi _ (List.getElem_mem _)⟩
 have HST:Hid (∀(j:Nat) (x:y1a),es[j]? = some x->xs++X0a (es.take j)++le x.kind 2++List.replicate 2 0++le x.size 8++C0a x.name.data.toList=xs++X0a (es.take (j+1))/\(if w1a (es.take j)=0 then z0a x.name.data.toList else w1a (es.take j))=w1a (es.take (j+1))):=λj x hx=>by
  rw[List.take_add_one,hx,Option.toList_some,b6a,N2b];refine⟨by simp only[X0a,l7a,List.append_nil,List.append_assoc],?_⟩;have e1:w1a [x]=z0a x.name.data.toList:=by
   show(if z0a x.name.data.toList=0 then (0:Int) else z0a x.name.data.toList)=_
   split
   ·rename_i h;exact h.symm
   ·rfl
  rw[e1]
 have HLEN:Hid (∀j,j<=n->(xs++X0a (es.take j)).length<=200000):=λj hj=>by have h1:=O2b (es.take j);rw[List.length_take] at h1;rw[List.length_append];omega
 obtain⟨YS,hYS⟩:∃f:Nat->List Int,f=λj=>xs++X0a (es.take j):=⟨_,rfl⟩
 have hYS2:∀j,xs++X0a (es.take j)=YS j:=λj=>by rw[hYS]
 obtain⟨ER,hER⟩:∃f:Nat->Int,f=λj=>w1a (es.take j):=⟨_,rfl⟩
 have hER2:∀j,w1a (es.take j)=ER j:=λj=>by rw[hER]
 simp only[hYS2,hER2] at H0 HN HST HLEN;rw[<-HN.o.1,<-HN.o.2] at HQ⊢;clear hYS hYS2 hER hER2 hW hE hT hi HN;have hzk:=g4b;obtain⟨zk,hzk2⟩:=xX ([.string .empty,.int .u8 0,.int .i64 0]:List Value);have ZKL:Hid (zk.length=3):=by rw[hzk2];rfl
 rw[<-hzk2] at hzk;have HZK:=hI hzk;clear hzk hzk2;go_enter func121,ntmps121;go_wp2;go_loopw [8] (λi wr=>∃j:Nat,i=.int .i64 j/\j<=n/\Hid (WI wr g base (YS j) (ER j))/\Hid (L1a g base w wr)) (λi _=>n-(intOf i).toNat)
 case atStart=>exact⟨0,rfl,Nat.zero_le _,(by rw[H0.o.1,H0.o.2];exact HW.o),L1a.refl _ _ _⟩
 case round=>
  obtain⟨j,rfl,hj,HW1,HK1⟩:=hrel;by_cases hlt:j<n
  ·have hh:=HE.o.below HK1.o.below;obtain⟨b,off,rfl,hb,hc⟩:=hh.cells (by omega);obtain⟨x,hx,hin⟩:=HX.o j hlt;have Rx:Hid (wr.rangeAt b (off+j*3) (B0a x)):=hh.range rfl hlt hx;have LX:Hid ((B0a x).length=3):=rfl;have HX1:Hid (∀v∈B0a x,v.oneCell'=true):=h6a x;have HS:=hI (HST.o j x hx);have HLJ:=HLEN.o j hj;obtain⟨x1,x2,x3⟩:=hin;have hk1:=x1.kind;obtain⟨hk0,hk1⟩:=hk1;have hs1:0<=x.size/\x.size<=1048576:=by unfold G3a at x2;simp only[Bool.and_eq_true,decide_eq_true_eq] at x2;exact x2.2
   obtain⟨hs0,hs1⟩:=hs1;have HTr:=hI (HT.o.next HK1.o.below);have hwsz:=HW1.o.size;have hwgr:=HK1.o.below.size;have hwlt:=HW1.o.lt;have C1:Hid (∀w',WI w' g base (YS j) (ER j)->Calls prog 104 #[.pointer (some ⟨g,0,none⟩),.int .u64 x.kind] w' λe w2=>e=.returned (.tuple #[])/\WI w2 g base (YS j++le x.kind 2) (ER j)/\L1a g base w' w2):=λw' h=>v4a w' g base _ _ x.kind h ⟨hk0,by omega⟩ (by omega)
   have C2:Hid (∀w',WI w' g base (YS j++le x.kind 2) (ER j)->Calls prog 105 #[.pointer (some ⟨g,0,none⟩),.int .i64 2] w' λe w2=>e=.returned (.tuple #[])/\WI w2 g base (YS j++le x.kind 2++List.replicate 2 0) (ER j)/\L1a g base w' w2):=λw' h=>I5a w' g base _ _ 2 h (by decide) (by decide) (by rw[List.length_append,g0a];omega)
   have C3:Hid (∀w',WI w' g base (YS j++le x.kind 2++List.replicate 2 0) (ER j)->Calls prog 103 #[.pointer (some ⟨g,0,none⟩),.int .u64 x.size] w' λe w2=>e=.returned (.tuple #[])/\WI w2 g base (YS j++le x.kind 2++List.replicate 2 0++le x.size 8) (ER j)/\L1a g base w' w2):=λw' h=>R3a w' g base _ _ x.size h ⟨hs0,by omega⟩ (by rw[List.length_append,List.length_append,g0a,List.length_replicate];omega)
   have C4:Hid (∀w',e8a base w'->WI w' g base (YS j++le x.kind 2++List.replicate 2 0++le x.size 8) (ER j)->Calls prog 106 #[.pointer (some ⟨g,0,none⟩),.string x.name] w' λe w2=>e=.returned (.tuple #[])/\WI w2 g base (YS (j+1)) (ER (j+1))/\L1a g base w' w2):=λw' ht h=>by have h1:=Y9a w' g base _ _ x.name h x3 ht (by rw[List.length_append,List.length_append,List.length_append,g0a,g0a,List.length_replicate];omega);rw[HS.o.1,HS.o.2] at h1;exact h1
   obtain⟨y3,hy3⟩:=xX (YS j++le x.kind 2++List.replicate 2 0++le x.size 8);rw[<-hy3] at C3 C4;obtain⟨y2,hy2⟩:=xX (YS j++le x.kind 2++List.replicate 2 0);rw[<-hy2] at C2 C3;obtain⟨y1,hy1⟩:=xX (YS j++le x.kind 2);rw[<-hy1] at C1 C2;have FK:Hid (∀(w:World) (h:Nat),Blk w h 108 (B0a x)->w.cell? ⟨h,0,none⟩=some (.string x.name)/\w.cell? ⟨h,1,none⟩=some (.int .u8 x.kind)/\w.cell? ⟨h,2,none⟩=some (.int .i64 x.size)):=λw h hb=>⟨hb.at rfl,hb.at rfl,hb.at rfl⟩
   obtain⟨cx,hcx⟩:=xX (B0a x);rw[<-hcx] at Rx LX HX1 FK;have hwr8:IntKind.u64.wrap x.size=x.size:=by rw[IntKind.wrap_u64];omega
   have hwk8:IntKind.u64.wrap x.kind=x.kind:=by rw[IntKind.wrap_u64];omega
   obtain⟨kd,hkd⟩:=xX x.kind;obtain⟨sz,hszx⟩:=xX x.size;obtain⟨nm,hnm⟩:=xX x.name;rw[<-hkd,<-hszx,<-hnm] at FK;rw[<-hkd] at C1 hk0 hk1 hwk8;rw[<-hszx] at C3 hs0 hs1 hwr8;rw[<-hnm] at C4;clear hh hc hx hcx hy1 hy2 hy3 x1 x2 x3 HS hkd hszx hnm;go_wp2_with(first|(refine sN 11 ?_;refine q0a rfl _ (.tmp 10) rfl b (off+j*3) rfl cx _ Rx underlying108 rfl 3 N3a LX ?_)|(refine sN 5 ?_;refine b0a rfl _ rfl zk _ HZK ?_;intro h u1 hg1 hg2 Z1 N1;have V1:=hI (HW1.o.below N1.o);have hhg:h≠g:=(by omega);have KA:Hid (L1a g base w u1):=(HK1.o.trans (L1a.of_below N1.o hwsz)))|(refine sT 5 ?_;refine a0a rfl _ (.tmp 5) (.tmp 11) rfl h rfl _ zk cx rfl Z1 3 N3a ZKL LX HX1 ?_;intro u2 Z2 P2 hg3;have V2:Hid (WI u2 g base (YS j) (ER j)):=(V1.o.onlyT Z1.o (by decide) P2.o hhg);have KB:Hid (L1a g base w u2):=(KA.o.onlyNew P2.o (by omega) (by omega));have q0:=FK.o u2 h Z2.o)|fail)
   obtain⟨q1,q2,q3⟩:=q0;go_wp2_with fail;refine(C1.o u2 V2.o).mono ?_;rintro e u3 ⟨rfl,h1,h2⟩;have D2:=hI (C2.o u3 h1);have Z3:=hI (h2.blk Z2.o (by decide) hhg);have KC:=hI (KB.o.trans h2);obtain⟨r1,r2,r3⟩:=FK.o u3 h Z3.o;clear h1 h2 C1 C2 q1 q2 q3;go_wp2_with fail;refine D2.o.mono ?_;rintro e u4 ⟨rfl,h1,h2⟩;have D3:=hI (C3.o u4 h1);have Z4:=hI (h2.blk Z3.o (by decide) hhg);have KD:=hI (KC.o.trans h2);obtain⟨s1,s2,s3⟩:=FK.o u4 h Z4.o;clear h1 h2 D2 C3 r1 r2 r3;go_wp2_with fail;refine D3.o.mono ?_;rintro e u5 ⟨rfl,h1,h2⟩;have KE:=hI (KD.o.trans h2);have D4:=hI (C4.o u5 (HT.o.next KE.o.below) h1);have Z5:=hI (h2.blk Z4.o (by decide) hhg);obtain⟨t1,t2,t3⟩:=FK.o u5 h Z5.o;clear h1 h2 D3 C4 s1 s2 s3;go_wp2_with fail;refine D4.o.mono ?_;rintro e u6 ⟨rfl,h1,h2⟩;have HWn:=hI h1;have KF:=hI (KE.o.trans h2);clear h1 h2 D4 t1 t2 t3;go_wp2;go_roundw
   case rel=>exact⟨j+1,by simp,by omega,HWn,KF⟩
   case measure=>simp[intOf];omega
  ·obtain rfl:j=n:=by omega
   go_wp2;go_end0;exact HQ.o _ _ ⟨rfl,HW1.o,HK1.o⟩
section
variable {vd vx vl ve:Value} {a:l1a} {s:O1a}
theorem n7c(hg:a.guid.length=16)(hp:a.proof.length=32)(x:Int):(l0a vd vx vl a).set 63 (.int .u16 x)=l0a vd vx vl { a with most:=x }:=(A1a hg hp 14 _).trans rfl
theorem o7c(hg:a.guid.length=16)(hp:a.proof.length=32)(x:ByteArray):(l0a vd vx vl a).set 64 (.string x)=l0a vd vx vl { a with pat:=x }:=(A1a hg hp 15 _).trans rfl
theorem p7c(hg:a.guid.length=16)(hp:a.proof.length=32)(x:ByteArray):(l0a vd vx vl a).set 65 (.string x)=l0a vd vx vl { a with aft:=x }:=(A1a hg hp 16 _).trans rfl
theorem K6c(hg:a.guid.length=16)(hp:a.proof.length=32)(x:Int):(l0a vd vx vl a).set 66 (.int .u16 x)=l0a vd vx vl { a with cls:=x }:=(A1a hg hp 17 _).trans rfl
theorem q7c(hg:a.guid.length=16)(hp:a.proof.length=32)(x:Int):(l0a vd vx vl a).set 67 (.int .u64 x)=l0a vd vx vl { a with siz:=x }:=(A1a hg hp 18 _).trans rfl
theorem Y6c(hg:a.guid.length=16)(hp:a.proof.length=32)(x:Bool):(l0a vd vx vl a).set 68 (.bool x)=l0a vd vx vl { a with on:=x }:=(A1a hg hp 19 _).trans rfl
theorem r7c(hg:s.chal.length=8)(v:Value)(xs:List y1a):(u0a vx ve s).set 17 v=u0a vx v { s with ents:=xs }:=(T2a hg 7 _).trans rfl
theorem L6c(hg:s.chal.length=8):(u0a vx ve s).set 17 (.slice none 0 0)=u0a vx (.slice none 0 0) { s with ents:=[] }:=r7c hg _ []
theorem s7c(hg:s.chal.length=8)(x:Bool):(u0a vx ve s).set 18 (.bool x)=u0a vx ve { s with more:=x }:=(T2a hg 8 _).trans rfl
theorem t7c(hg:s.chal.length=8)(x:Bool):(u0a vx ve s).set 19 (.bool x)=u0a vx ve { s with gone:=x }:=(T2a hg 9 _).trans rfl
end
theorem T9b(w:World)(l:y1a):Calls prog 120 #[.agg (B0a l).toArray] w λe w'=>e=.returned (.bool (!G3a l))/\BW w w':=by
 obtain⟨nm,kd,sz⟩:=l;have HC:Hid (∀(w:World) (g:Nat),Blk w g 108 (B0a ⟨nm,kd,sz⟩)->w.cell? ⟨g,1,none⟩=some (.int .u8 kd)/\w.cell? ⟨g,2,none⟩=some (.int .i64 sz)):=λw g h=>⟨h.at rfl,h.at rfl⟩
 obtain⟨cs,hcs⟩:=xX (B0a ⟨nm,kd,sz⟩);rw[<-hcs] at HC⊢;have hok:G3a ⟨nm,kd,sz⟩=(decide (kd<=2)&&(decide (0<=sz)&&decide (sz<=1048576))):=rfl;rw[hok];obtain⟨z,hz⟩:∃z,z = !(decide (kd<=2)&&(decide (0<=sz)&&decide (sz<=1048576))):=⟨_,rfl⟩;rw[<-hz];have HZ:=hI hz;clear hcs hok hz;by_cases h1:kd<=2
 ·have q1:¬(2:Int)<kd:=by omega
  by_cases h2:0<=sz
  ·have q2:¬sz<0:=by omega
   by_cases h3:sz<=1048576
   ·have q3:¬(1048576:Int)<sz:=by omega
    have HR:Hid (z=false):=by show _=_;rw[HZ.o,decide_eq_true h1,decide_eq_true h2,decide_eq_true h3];rfl
    clear h1 h2 h3;go_enter func120,ntmps120;go_wp2_with(first|(refine sN 1 ?_;refine d0a rfl _ (.tmp 0) rfl cs rfl ?_;intro g w1 hg1 hg2 K1 L1;obtain⟨c1,c2⟩:=HC.o w1 g K1.o)|fail)
    go_wp2;go_ret;exact⟨N0a HR.o.symm,L1.o⟩
   ·have q3:(1048576:Int)<sz:=by omega
    have HR:Hid (z=true):=by show _=_;rw[HZ.o,decide_eq_true h1,decide_eq_true h2,decide_eq_false h3];rfl
    clear h1 h2 h3;go_enter func120,ntmps120;go_wp2_with(first|(refine sN 1 ?_;refine d0a rfl _ (.tmp 0) rfl cs rfl ?_;intro g w1 hg1 hg2 K1 L1;obtain⟨c1,c2⟩:=HC.o w1 g K1.o)|fail)
    go_wp2;go_ret;exact⟨N0a HR.o.symm,L1.o⟩
  ·have q2:sz<0:=by omega
   have HR:Hid (z=true):=by show _=_;rw[HZ.o,decide_eq_true h1,decide_eq_false h2];rfl
   clear h1 h2;go_enter func120,ntmps120;go_wp2_with(first|(refine sN 1 ?_;refine d0a rfl _ (.tmp 0) rfl cs rfl ?_;intro g w1 hg1 hg2 K1 L1;obtain⟨c1,c2⟩:=HC.o w1 g K1.o)|fail)
   go_wp2;go_ret;exact⟨N0a HR.o.symm,L1.o⟩
 ·have q1:(2:Int)<kd:=by omega
  have HR:Hid (z=true):=by show _=_;rw[HZ.o,decide_eq_false h1];rfl
  clear h1;go_enter func120,ntmps120;go_wp2_with(first|(refine sN 1 ?_;refine d0a rfl _ (.tmp 0) rfl cs rfl ?_;intro g w1 hg1 hg2 K1 L1;obtain⟨c1,c2⟩:=HC.o w1 g K1.o)|fail)
  go_wp2;go_ret;exact⟨N0a HR.o.symm,L1.o⟩
theorem U9b(w:World)(A:Option Addr)(n c:Nat)(xs:List y1a)(h:c1a B0a 3 w w.heap.size A n c xs)(hn:n<=4398046511104) :
  Calls prog 139 #[.slice A n c,.func (.func 120) #[] #[]] w λe w'=>(∃k:Int,e=.returned (.int .i64 k)/\decide (0<=k) = !xs.all G3a)/\BW w w':=by
 have HH:=hI h;have HL:=hI h.len;have hft:=h.fit;have CF:Hid (∀(w:World) (l:y1a),Calls prog 120 #[.agg (B0a l).toArray] w λe w'=>e=.returned (.bool (!G3a l))/\BW w w'):=T9b;have HQ:Hid (∀(e:Ending) (w':World),((∃k:Int,e=.returned (.int .i64 k)/\decide (0<=k) = !xs.all G3a)/\BW w w')->((∃k:Int,e=.returned (.int .i64 k)/\decide (0<=k) = !xs.all G3a)/\BW w w')):=λ_ _ h=>h
 have H0:Hid ((xs.take 0).all G3a=true):=by show _=_;rw[List.take_zero];rfl
 have HN:Hid ((xs.take n).all G3a=true->xs.all G3a=true):=λh1=>by rw[<-HL.o,List.take_length] at h1;exact h1
 have HST:Hid (∀(j:Nat) (x:y1a),xs[j]? = some x->(xs.take j).all G3a=true->G3a x=true->(xs.take (j+1)).all G3a=true):=λj x hx h1 h2=>by rw[List.take_add_one,hx,Option.toList_some,List.all_append,h1];simp[h2]
 have HBAD:Hid (∀(j:Nat) (x:y1a),xs[j]? = some x->¬G3a x=true->xs.all G3a=false):=λj x hx h1=>by rw[List.all_eq_false];exact⟨x,List.mem_of_getElem? hx,h1⟩
 clear h;go_enter func139,ntmps139;go_wp2;go_loopw [8] (λi wr=>∃j:Nat,i=.int .i64 j/\j<=n/\Hid ((xs.take j).all G3a=true)/\Hid (BW w wr)) (λi _=>n-(intOf i).toNat)
 case atStart=>exact⟨0,rfl,Nat.zero_le _,H0.o,Below.refl _ _⟩
 case round=>
  obtain⟨j,rfl,hj,HS,HB1⟩:=hrel;by_cases hlt:j<n
  ·have hh:=HH.o.below HB1.o;obtain⟨b,off,rfl,hb,hc⟩:=hh.cells (by omega);obtain⟨x,hx⟩:∃x,xs[j]? = some x:=⟨_,List.getElem?_eq_getElem (by have:=HL.o;omega)⟩;have Rx:Hid (wr.rangeAt b (off+j*3) (B0a x)):=hh.range rfl hlt hx;have LX:Hid ((B0a x).length=3):=rfl;have CX:=CF.o wr x;have HST':=hI (HST.o j x hx HS.o);have HBAD':=hI (HBAD.o j x hx);obtain⟨cx,hcx⟩:=xX (B0a x);rw[<-hcx] at Rx LX CX;have hsz:=HB1.o.size;obtain⟨z,hz⟩:=xX (G3a x);rw[<-hz] at CX HST' HBAD';clear hh hc hx hcx hz;cases z
   ·have CX':Hid (Calls prog 120 #[.agg cx.toArray] wr λe w'=>e=.returned (.bool true)/\BW wr w'):=CX;have HS2:=hI (HBAD'.o (by decide));clear CX HST' HBAD' HS;go_wp2_with(first|(refine sN 15 ?_;refine q0a rfl _ (.tmp 14) rfl b (off+j*3) rfl cx _ Rx underlying108 rfl 3 N3a LX ?_)|fail)
    refine CX'.o.mono ?_;rintro e v1 ⟨rfl,L1⟩;have HB2:=hI (HB1.o.trans (L1.mono hsz));clear L1 HB1 CX';go_wp2;go_ret;exact HQ.o _ _ ⟨⟨_,rfl,by rw[HS2.o];simp⟩,HB2.o⟩
   ·have CX':Hid (Calls prog 120 #[.agg cx.toArray] wr λe w'=>e=.returned (.bool false)/\BW wr w'):=CX;have HS2:=hI (HST'.o rfl);clear CX HST' HBAD' HS;go_wp2_with(first|(refine sN 15 ?_;refine q0a rfl _ (.tmp 14) rfl b (off+j*3) rfl cx _ Rx underlying108 rfl 3 N3a LX ?_)|fail)
    refine CX'.o.mono ?_;rintro e v1 ⟨rfl,L1⟩;have HB2:=hI (HB1.o.trans (L1.mono hsz));clear L1 HB1 CX';go_wp2;go_roundw
    case rel=>exact⟨j+1,by simp,by omega,HS2,HB2⟩
    case measure=>simp[intOf];omega
  ·obtain rfl:j=n:=by omega
   have HS2:=hI (HN.o HS.o);go_wp2;go_ret;exact HQ.o _ _ ⟨⟨_,rfl,by rw[HS2.o];rfl⟩,HB1.o⟩
theorem f5b(w:World)(A:Option Addr)(n c:Nat)(xs:List y1a)(h:c1a B0a 3 w w.heap.size A n c xs)(hn:n<=4398046511104) :
  Calls prog 119 #[.slice A n c,.func (.func 120) #[] #[]] w λe w'=>e=.returned (.bool (!xs.all G3a))/\BW w w':=by
 have C1:=hI (U9b w A n c xs h hn);obtain⟨z,hz⟩:∃z,z = !xs.all G3a:=⟨_,rfl⟩;rw[<-hz] at C1⊢;clear h hz;go_enter func119,ntmps119;go_wp2_with fail;refine C1.o.mono ?_;rintro e w1 ⟨⟨k,rfl,hk⟩,L1⟩;go_wp2;go_ret;exact⟨by rfl,L1⟩
theorem g5b(w:World)(c:Int)(cs:List Value)(a:l1a)(hc:0<=c/\c<=65535)(ka:a.ok)(ha:g1a w w.heap.size cs a)(hu:a.user.size<=17592186044416/\a.share.size<=17592186044416)(hT:E8a w) :
  Calls prog 102 #[.int .u16 c,.agg cs.toArray] w λe w'=>e=.returned (.bool (s4a c a))/\BW w w':=by
 have HL:=hI (ha.len ka);have HT:=hI hT;have hgl:=ka.glen;have hpl:=ka.plen;obtain⟨hu0,hu1⟩:=hu;have CP:Hid (∀(w':World) (ds:List Value) (b:l1a),b.ok->b.user=a.user->b.share=a.share->g1a w' w'.heap.size ds b->BW w w'->Calls prog 60 #[.int .u16 13,.agg ds.toArray] w' λe w2=>(∃v er,e=.returned (.tuple #[v,.int .i64 er])/\(er==0)=decide (b=i0a))/\BW w' w2):=λw' ds b kb h1 h2 hb hL=>by have h:=I2b w' 13 ds b (by decide) kb hb ⟨by rw[h1];exact hu0,by rw[h2];exact hu1⟩ (HT.o.below hL);exact h.mono λe w2 ⟨v,h1,_,h3⟩=>⟨⟨v,_,h1,t8b b⟩,h3⟩
 by_cases hk:J8a c=true;rotate_left
 ·have hn0:s4a c a=false:=by unfold s4a;rw[show J8a c=false from by simpa using hk];rfl
  have hk':c≠12/\c≠14/\c≠16/\c≠17/\c≠18:=by refine⟨?_,?_,?_,?_,?_⟩<;>(rintro rfl;exact hk (by decide))
  obtain⟨h12,h14,h16,h17,h18⟩:=hk';have b12:(c==12)=false:=bF h12
  have b14:(c==14)=false:=bF h14
  have b16:(c==16)=false:=bF h16
  have b17:(c==17)=false:=bF h17
  have b18:(c==18)=false:=bF h18
  rw[hn0];clear hk hn0 h12 h14 h16 h17 h18 ha ka CP;go_enter func102,ntmps102;go_wp2_with(first|(refine sN 3 ?_;refine d0a rfl _ (.tmp 1) rfl cs rfl ?_;intro g w1 hg1 hg2 K1 L1)|fail)
  go_ret;exact⟨rfl,L1.o⟩
 have hcs:=T4a hk;obtain⟨A1,A2,A3,X1,X2,X3,M1,M2,M3,rfl,hA,hX,hM⟩:=ha;have FL:Hid (∀(w:World) (g:Nat),Blk w g 34 (l0a (.slice A1 A2 A3) (.slice X1 X2 X3) (.slice M1 M2 M3) a)->w.cell? ⟨g,66,none⟩=some (.int .u16 a.cls)):=λw g h=>h.at (o0a ka 17)
 obtain⟨C0,hC0⟩:=xX (l0a (.slice A1 A2 A3) (.slice X1 X2 X3) (.slice M1 M2 M3) a);have HC0:=hI hC0;rw[<-hC0] at HL FL⊢;clear hC0;rcases hcs with h12 | h14 | h16 | h17 | h18
 ·subst h12;have hbe:F2a 12 a=a:=by unfold F2a;rw[if_neg (by decide),if_neg (by decide),if_neg (by decide),if_neg (by decide)]
  have hnf:s4a 12 a=decide (F2a 12 a=i0a):=by unfold s4a;rw[hk];simp
  rw[hnf,hbe];have kb:(a:l1a).ok:=⟨ka.dial,ka.glen,ka.gbyte,ka.plen,ka.pbyte,ka.acc,ka.shr,ka.way,ka.opt,ka.lev,ka.dur,ka.file,ka.at_,ka.n,ka.data,ka.locks,ka.most,ka.cls,ka.siz⟩;have HI:Hid (∀w':World,BW w w'->g1a w' w'.heap.size (l0a (.slice A1 A2 A3) (.slice X1 X2 X3) (.slice M1 M2 M3) (a)) (a)):=λw' hb=>⟨A1,A2,A3,X1,X2,X3,M1,M2,M3,rfl,hA.over hb,hX.over hb,hM.over hb⟩
  have hbu1:(a:l1a).user=a.user:=rfl;have hbu2:(a:l1a).share=a.share:=rfl;have HEQ:Hid (C0=l0a (.slice A1 A2 A3) (.slice X1 X2 X3) (.slice M1 M2 M3) (a)):=by
   show _=_
   exact HC0.o
  obtain⟨D,hD⟩:=xX (l0a (.slice A1 A2 A3) (.slice X1 X2 X3) (.slice M1 M2 M3) a);rw[<-hD] at HI HEQ;clear hD hk ka hbe hnf hbu1 hbu2;go_enter func102,ntmps102;go_wp2_with(first|(refine sN 3 ?_;refine d0a rfl _ (.tmp 1) rfl C0 rfl ?_;intro g w1 hg1 hg2 K1 L1)|(refine sN 40 ?_;refine e0a rfl _ (.tmp 3) rfl g rfl _ C0 K1 69 _ underlying34 rfl p0a HL ?_)|fail)
  have HF:Hid (C0=D):=by
   show _=_
   exact HEQ.o
  rw[HF.o];refine(CP.o _ D a kb rfl rfl (HI.o _ L1.o) L1.o).mono ?_;rintro e v1 ⟨⟨v,er,rfl,her⟩,LQ⟩;have HER:=hI her;have L99:=hI (step L1.o LQ);clear her LQ;go_wp2;go_ret;exact⟨N0a HER.o,L99.o⟩
 ·subst h14;have hbe:F2a 14 a={ a with file:=0,most:=0,pat:=.empty,aft:=.empty }:=by unfold F2a;rw[if_pos rfl]
  have hnf:s4a 14 a=decide (F2a 14 a=i0a):=by unfold s4a;rw[hk];simp
  rw[hnf,hbe];have kb:({ a with file:=0,most:=0,pat:=.empty,aft:=.empty }:l1a).ok:=⟨ka.dial,ka.glen,ka.gbyte,ka.plen,ka.pbyte,ka.acc,ka.shr,ka.way,ka.opt,ka.lev,ka.dur,zb (by decide),ka.at_,ka.n,ka.data,ka.locks,zb (by decide),ka.cls,ka.siz⟩;have HI:Hid (∀w':World,BW w w'->g1a w' w'.heap.size (l0a (.slice A1 A2 A3) (.slice X1 X2 X3) (.slice M1 M2 M3) ({ a with file:=0,most:=0,pat:=.empty,aft:=.empty })) ({ a with file:=0,most:=0,pat:=.empty,aft:=.empty })):=λw' hb=>⟨A1,A2,A3,X1,X2,X3,M1,M2,M3,rfl,hA.over hb,hX.over hb,hM.over hb⟩
  have hbu1:({ a with file:=0,most:=0,pat:=.empty,aft:=.empty }:l1a).user=a.user:=rfl;have hbu2:({ a with file:=0,most:=0,pat:=.empty,aft:=.empty }:l1a).share=a.share:=rfl;have HEQ:Hid (((((C0).set 57 (.int .u64 0)).set 63 (.int .u16 0)).set 64 (.string .empty)).set 65 (.string .empty)=l0a (.slice A1 A2 A3) (.slice X1 X2 X3) (.slice M1 M2 M3) ({ a with file:=0,most:=0,pat:=.empty,aft:=.empty })):=by
   show _=_
   rw[HC0.o];simp only[b0c,n7c,o7c,p7c,hgl,hpl];try rfl
  obtain⟨b,hb⟩:∃x:l1a,x={ a with file:=0,most:=0,pat:=.empty,aft:=.empty }:=⟨_,rfl⟩;rw[<-hb] at HI HEQ kb hbu1 hbu2⊢;obtain⟨D,hD⟩:=xX (l0a (.slice A1 A2 A3) (.slice X1 X2 X3) (.slice M1 M2 M3) b);rw[<-hD] at HI HEQ;clear hb hD hk ka hbe hnf;go_enter func102,ntmps102;go_wp2_with(first|(refine sN 3 ?_;refine d0a rfl _ (.tmp 1) rfl C0 rfl ?_;intro g w1 hg1 hg2 K1 L1)|(refine sT 10 ?_;refine f0a rfl _ (.tmp 10) (.const (.int .u64 0)) rfl g 57 rfl _ C0 (.int .u64 0) rfl K1 HL (by decide) (by kernel_rfl) rfl ?_;intro w2 C1 HC1 HL1 K2 O2 hq2;have L2:=hI (c0a L1.o O2.o hg1))|(refine sT 11 ?_;refine f0a rfl _ (.tmp 11) (.const (.int .u16 0)) rfl g 63 rfl _ C1 (.int .u16 0) rfl K2 HL1 (by decide) (by kernel_rfl) rfl ?_;intro w3 C2 HC2 HL2 K3 O3 hq3;have L3:=hI (c0a L2.o O3.o hg1))|(refine sT 12 ?_;refine f0a rfl _ (.tmp 12) (.const (.string .empty)) rfl g 64 rfl _ C2 (.string .empty) rfl K3 HL2 (by decide) (by kernel_rfl) rfl ?_;intro w4 C3 HC3 HL3 K4 O4 hq4;have L4:=hI (c0a L3.o O4.o hg1))|(refine sT 13 ?_;refine f0a rfl _ (.tmp 13) (.const (.string .empty)) rfl g 65 rfl _ C3 (.string .empty) rfl K4 HL3 (by decide) (by kernel_rfl) rfl ?_;intro w5 C4 HC4 HL4 K5 O5 hq5;have L5:=hI (c0a L4.o O5.o hg1))|(refine sN 40 ?_;refine e0a rfl _ (.tmp 3) rfl g rfl _ C4 K5 69 _ underlying34 rfl p0a HL4 ?_)|fail)
  have HF:Hid (C4=D):=by
   show _=_
   rw[HC4.o,HC3.o,HC2.o,HC1.o];exact HEQ.o
  rw[HF.o];refine(CP.o _ D b kb hbu1 hbu2 (HI.o _ L5.o) L5.o).mono ?_;rintro e v1 ⟨⟨v,er,rfl,her⟩,LQ⟩;have HER:=hI her;have L99:=hI (step L5.o LQ);clear her LQ;go_wp2;go_ret;exact⟨N0a HER.o,L99.o⟩
 ·subst h16;have hbe:F2a 16 a={ a with file:=0 }:=by unfold F2a;rw[if_neg (by decide),if_pos rfl]
  have hnf:s4a 16 a=decide (F2a 16 a=i0a):=by unfold s4a;rw[hk];simp
  rw[hnf,hbe];have kb:({ a with file:=0 }:l1a).ok:=⟨ka.dial,ka.glen,ka.gbyte,ka.plen,ka.pbyte,ka.acc,ka.shr,ka.way,ka.opt,ka.lev,ka.dur,zb (by decide),ka.at_,ka.n,ka.data,ka.locks,ka.most,ka.cls,ka.siz⟩;have HI:Hid (∀w':World,BW w w'->g1a w' w'.heap.size (l0a (.slice A1 A2 A3) (.slice X1 X2 X3) (.slice M1 M2 M3) ({ a with file:=0 })) ({ a with file:=0 })):=λw' hb=>⟨A1,A2,A3,X1,X2,X3,M1,M2,M3,rfl,hA.over hb,hX.over hb,hM.over hb⟩
  have hbu1:({ a with file:=0 }:l1a).user=a.user:=rfl;have hbu2:({ a with file:=0 }:l1a).share=a.share:=rfl;have HEQ:Hid ((C0).set 57 (.int .u64 0)=l0a (.slice A1 A2 A3) (.slice X1 X2 X3) (.slice M1 M2 M3) ({ a with file:=0 })):=by
   show _=_
   rw[HC0.o];simp only[b0c,hgl,hpl];try rfl
  obtain⟨b,hb⟩:∃x:l1a,x={ a with file:=0 }:=⟨_,rfl⟩;rw[<-hb] at HI HEQ kb hbu1 hbu2⊢;obtain⟨D,hD⟩:=xX (l0a (.slice A1 A2 A3) (.slice X1 X2 X3) (.slice M1 M2 M3) b);rw[<-hD] at HI HEQ;clear hb hD hk ka hbe hnf;go_enter func102,ntmps102;go_wp2_with(first|(refine sN 3 ?_;refine d0a rfl _ (.tmp 1) rfl C0 rfl ?_;intro g w1 hg1 hg2 K1 L1)|(refine sT 16 ?_;refine f0a rfl _ (.tmp 16) (.const (.int .u64 0)) rfl g 57 rfl _ C0 (.int .u64 0) rfl K1 HL (by decide) (by kernel_rfl) rfl ?_;intro w2 C1 HC1 HL1 K2 O2 hq2;have L2:=hI (c0a L1.o O2.o hg1))|(refine sN 40 ?_;refine e0a rfl _ (.tmp 3) rfl g rfl _ C1 K2 69 _ underlying34 rfl p0a HL1 ?_)|fail)
  have HF:Hid (C1=D):=by
   show _=_
   rw[HC1.o];exact HEQ.o
  rw[HF.o];refine(CP.o _ D b kb hbu1 hbu2 (HI.o _ L2.o) L2.o).mono ?_;rintro e v1 ⟨⟨v,er,rfl,her⟩,LQ⟩;have HER:=hI her;have L99:=hI (step L2.o LQ);clear her LQ;go_wp2;go_ret;exact⟨N0a HER.o,L99.o⟩
 ·subst h17;by_cases q1:a.cls=1
  ·rw[q1] at FL;have hbe:F2a 17 a={ a with siz:=0,file:=0,cls:=0 }:=by unfold F2a;rw[if_neg (by decide),if_neg (by decide),if_pos rfl,if_pos q1]
   have hnf:s4a 17 a=decide (F2a 17 a=i0a):=by unfold s4a L9a;rw[hk,q1];simp
   rw[hnf,hbe];have kb:({ a with siz:=0,file:=0,cls:=0 }:l1a).ok:=⟨ka.dial,ka.glen,ka.gbyte,ka.plen,ka.pbyte,ka.acc,ka.shr,ka.way,ka.opt,ka.lev,ka.dur,zb (by decide),ka.at_,ka.n,ka.data,ka.locks,ka.most,zb (by decide),zb (by decide)⟩;have HI:Hid (∀w':World,BW w w'->g1a w' w'.heap.size (l0a (.slice A1 A2 A3) (.slice X1 X2 X3) (.slice M1 M2 M3) ({ a with siz:=0,file:=0,cls:=0 })) ({ a with siz:=0,file:=0,cls:=0 })):=λw' hb=>⟨A1,A2,A3,X1,X2,X3,M1,M2,M3,rfl,hA.over hb,hX.over hb,hM.over hb⟩
   have hbu1:({ a with siz:=0,file:=0,cls:=0 }:l1a).user=a.user:=rfl;have hbu2:({ a with siz:=0,file:=0,cls:=0 }:l1a).share=a.share:=rfl;have HEQ:Hid ((((C0).set 67 (.int .u64 0)).set 57 (.int .u64 0)).set 66 (.int .u16 0)=l0a (.slice A1 A2 A3) (.slice X1 X2 X3) (.slice M1 M2 M3) ({ a with siz:=0,file:=0,cls:=0 })):=by
    show _=_
    rw[HC0.o];simp only[q7c,b0c,K6c,hgl,hpl];try rfl
   obtain⟨b,hb⟩:∃x:l1a,x={ a with siz:=0,file:=0,cls:=0 }:=⟨_,rfl⟩;rw[<-hb] at HI HEQ kb hbu1 hbu2⊢;obtain⟨D,hD⟩:=xX (l0a (.slice A1 A2 A3) (.slice X1 X2 X3) (.slice M1 M2 M3) b);rw[<-hD] at HI HEQ;clear hb hD hk ka hbe hnf;go_enter func102,ntmps102;go_wp2_with(first|(refine sN 3 ?_;refine d0a rfl _ (.tmp 1) rfl C0 rfl ?_;intro g w1 hg1 hg2 K1 L1;have cl:=FL.o w1 g K1.o)|(refine sT 23 ?_;refine f0a rfl _ (.tmp 23) (.const (.int .u64 0)) rfl g 67 rfl _ C0 (.int .u64 0) rfl K1 HL (by decide) (by kernel_rfl) rfl ?_;intro w2 C1 HC1 HL1 K2 O2 hq2;have L2:=hI (c0a L1.o O2.o hg1))|(refine sT 31 ?_;refine f0a rfl _ (.tmp 31) (.const (.int .u64 0)) rfl g 57 rfl _ C1 (.int .u64 0) rfl K2 HL1 (by decide) (by kernel_rfl) rfl ?_;intro w3 C2 HC2 HL2 K3 O3 hq3;have L3:=hI (c0a L2.o O3.o hg1))|(refine sT 32 ?_;refine f0a rfl _ (.tmp 32) (.const (.int .u16 0)) rfl g 66 rfl _ C2 (.int .u16 0) rfl K3 HL2 (by decide) (by kernel_rfl) rfl ?_;intro w4 C3 HC3 HL3 K4 O4 hq4;have L4:=hI (c0a L3.o O4.o hg1))|(refine sN 40 ?_;refine e0a rfl _ (.tmp 3) rfl g rfl _ C3 K4 69 _ underlying34 rfl p0a HL3 ?_)|fail)
   have HF:Hid (C3=D):=by
    show _=_
    rw[HC3.o,HC2.o,HC1.o];exact HEQ.o
   rw[HF.o];refine(CP.o _ D b kb hbu1 hbu2 (HI.o _ L4.o) L4.o).mono ?_;rintro e v1 ⟨⟨v,er,rfl,her⟩,LQ⟩;have HER:=hI her;have L99:=hI (step L4.o LQ);clear her LQ;go_wp2;go_ret;exact⟨N0a HER.o,L99.o⟩
  ·by_cases q2:a.cls=2
   ·rw[q2] at FL;have hbe:F2a 17 a={ a with on:=false,file:=0,cls:=0 }:=by unfold F2a;rw[if_neg (by decide),if_neg (by decide),if_pos rfl,if_neg q1,if_pos q2]
    have hnf:s4a 17 a=decide (F2a 17 a=i0a):=by unfold s4a L9a;rw[hk,q2];simp
    rw[hnf,hbe];have kb:({ a with on:=false,file:=0,cls:=0 }:l1a).ok:=⟨ka.dial,ka.glen,ka.gbyte,ka.plen,ka.pbyte,ka.acc,ka.shr,ka.way,ka.opt,ka.lev,ka.dur,zb (by decide),ka.at_,ka.n,ka.data,ka.locks,ka.most,zb (by decide),ka.siz⟩;have HI:Hid (∀w':World,BW w w'->g1a w' w'.heap.size (l0a (.slice A1 A2 A3) (.slice X1 X2 X3) (.slice M1 M2 M3) ({ a with on:=false,file:=0,cls:=0 })) ({ a with on:=false,file:=0,cls:=0 })):=λw' hb=>⟨A1,A2,A3,X1,X2,X3,M1,M2,M3,rfl,hA.over hb,hX.over hb,hM.over hb⟩
    have hbu1:({ a with on:=false,file:=0,cls:=0 }:l1a).user=a.user:=rfl;have hbu2:({ a with on:=false,file:=0,cls:=0 }:l1a).share=a.share:=rfl;have HEQ:Hid ((((C0).set 68 (.bool false)).set 57 (.int .u64 0)).set 66 (.int .u16 0)=l0a (.slice A1 A2 A3) (.slice X1 X2 X3) (.slice M1 M2 M3) ({ a with on:=false,file:=0,cls:=0 })):=by
     show _=_
     rw[HC0.o];simp only[Y6c,b0c,K6c,hgl,hpl];try rfl
    obtain⟨b,hb⟩:∃x:l1a,x={ a with on:=false,file:=0,cls:=0 }:=⟨_,rfl⟩;rw[<-hb] at HI HEQ kb hbu1 hbu2⊢;obtain⟨D,hD⟩:=xX (l0a (.slice A1 A2 A3) (.slice X1 X2 X3) (.slice M1 M2 M3) b);rw[<-hD] at HI HEQ;clear hb hD hk ka hbe hnf;go_enter func102,ntmps102;go_wp2_with(first|(refine sN 3 ?_;refine d0a rfl _ (.tmp 1) rfl C0 rfl ?_;intro g w1 hg1 hg2 K1 L1;have cl:=FL.o w1 g K1.o)|(refine sT 26 ?_;refine f0a rfl _ (.tmp 26) (.const (.bool false)) rfl g 68 rfl _ C0 (.bool false) rfl K1 HL (by decide) (by kernel_rfl) rfl ?_;intro w2 C1 HC1 HL1 K2 O2 hq2;have L2:=hI (c0a L1.o O2.o hg1))|(refine sT 31 ?_;refine f0a rfl _ (.tmp 31) (.const (.int .u64 0)) rfl g 57 rfl _ C1 (.int .u64 0) rfl K2 HL1 (by decide) (by kernel_rfl) rfl ?_;intro w3 C2 HC2 HL2 K3 O3 hq3;have L3:=hI (c0a L2.o O3.o hg1))|(refine sT 32 ?_;refine f0a rfl _ (.tmp 32) (.const (.int .u16 0)) rfl g 66 rfl _ C2 (.int .u16 0) rfl K3 HL2 (by decide) (by kernel_rfl) rfl ?_;intro w4 C3 HC3 HL3 K4 O4 hq4;have L4:=hI (c0a L3.o O4.o hg1))|(refine sN 40 ?_;refine e0a rfl _ (.tmp 3) rfl g rfl _ C3 K4 69 _ underlying34 rfl p0a HL3 ?_)|fail)
    have HF:Hid (C3=D):=by
     show _=_
     rw[HC3.o,HC2.o,HC1.o];exact HEQ.o
    rw[HF.o];refine(CP.o _ D b kb hbu1 hbu2 (HI.o _ L4.o) L4.o).mono ?_;rintro e v1 ⟨⟨v,er,rfl,her⟩,LQ⟩;have HER:=hI her;have L99:=hI (step L4.o LQ);clear her LQ;go_wp2;go_ret;exact⟨N0a HER.o,L99.o⟩
   ·by_cases q3:a.cls=3
    ·rw[q3] at FL;have hbe:F2a 17 a={ a with on:=false,name:=.empty,file:=0,cls:=0 }:=by unfold F2a;rw[if_neg (by decide),if_neg (by decide),if_pos rfl,if_neg q1,if_neg q2]
     have hnf:s4a 17 a=decide (F2a 17 a=i0a):=by unfold s4a L9a;rw[hk,q3];simp
     rw[hnf,hbe];have kb:({ a with on:=false,name:=.empty,file:=0,cls:=0 }:l1a).ok:=⟨ka.dial,ka.glen,ka.gbyte,ka.plen,ka.pbyte,ka.acc,ka.shr,ka.way,ka.opt,ka.lev,ka.dur,zb (by decide),ka.at_,ka.n,ka.data,ka.locks,ka.most,zb (by decide),ka.siz⟩;have HI:Hid (∀w':World,BW w w'->g1a w' w'.heap.size (l0a (.slice A1 A2 A3) (.slice X1 X2 X3) (.slice M1 M2 M3) ({ a with on:=false,name:=.empty,file:=0,cls:=0 })) ({ a with on:=false,name:=.empty,file:=0,cls:=0 })):=λw' hb=>⟨A1,A2,A3,X1,X2,X3,M1,M2,M3,rfl,hA.over hb,hX.over hb,hM.over hb⟩
     have hbu1:({ a with on:=false,name:=.empty,file:=0,cls:=0 }:l1a).user=a.user:=rfl;have hbu2:({ a with on:=false,name:=.empty,file:=0,cls:=0 }:l1a).share=a.share:=rfl;have HEQ:Hid (((((C0).set 68 (.bool false)).set 58 (.string .empty)).set 57 (.int .u64 0)).set 66 (.int .u16 0)=l0a (.slice A1 A2 A3) (.slice X1 X2 X3) (.slice M1 M2 M3) ({ a with on:=false,name:=.empty,file:=0,cls:=0 })):=by
      show _=_
      rw[HC0.o];simp only[Y6c,T6c,b0c,K6c,hgl,hpl];try rfl
     obtain⟨b,hb⟩:∃x:l1a,x={ a with on:=false,name:=.empty,file:=0,cls:=0 }:=⟨_,rfl⟩;rw[<-hb] at HI HEQ kb hbu1 hbu2⊢;obtain⟨D,hD⟩:=xX (l0a (.slice A1 A2 A3) (.slice X1 X2 X3) (.slice M1 M2 M3) b);rw[<-hD] at HI HEQ;clear hb hD hk ka hbe hnf;go_enter func102,ntmps102;go_wp2_with(first|(refine sN 3 ?_;refine d0a rfl _ (.tmp 1) rfl C0 rfl ?_;intro g w1 hg1 hg2 K1 L1;have cl:=FL.o w1 g K1.o)|(refine sT 29 ?_;refine f0a rfl _ (.tmp 29) (.const (.bool false)) rfl g 68 rfl _ C0 (.bool false) rfl K1 HL (by decide) (by kernel_rfl) rfl ?_;intro w2 C1 HC1 HL1 K2 O2 hq2;have L2:=hI (c0a L1.o O2.o hg1))|(refine sT 30 ?_;refine f0a rfl _ (.tmp 30) (.const (.string .empty)) rfl g 58 rfl _ C1 (.string .empty) rfl K2 HL1 (by decide) (by kernel_rfl) rfl ?_;intro w3 C2 HC2 HL2 K3 O3 hq3;have L3:=hI (c0a L2.o O3.o hg1))|(refine sT 31 ?_;refine f0a rfl _ (.tmp 31) (.const (.int .u64 0)) rfl g 57 rfl _ C2 (.int .u64 0) rfl K3 HL2 (by decide) (by kernel_rfl) rfl ?_;intro w4 C3 HC3 HL3 K4 O4 hq4;have L4:=hI (c0a L3.o O4.o hg1))|(refine sT 32 ?_;refine f0a rfl _ (.tmp 32) (.const (.int .u16 0)) rfl g 66 rfl _ C3 (.int .u16 0) rfl K4 HL3 (by decide) (by kernel_rfl) rfl ?_;intro w5 C4 HC4 HL4 K5 O5 hq5;have L5:=hI (c0a L4.o O5.o hg1))|(refine sN 40 ?_;refine e0a rfl _ (.tmp 3) rfl g rfl _ C4 K5 69 _ underlying34 rfl p0a HL4 ?_)|fail)
     have HF:Hid (C4=D):=by
      show _=_
      rw[HC4.o,HC3.o,HC2.o,HC1.o];exact HEQ.o
     rw[HF.o];refine(CP.o _ D b kb hbu1 hbu2 (HI.o _ L5.o) L5.o).mono ?_;rintro e v1 ⟨⟨v,er,rfl,her⟩,LQ⟩;have HER:=hI her;have L99:=hI (step L5.o LQ);clear her LQ;go_wp2;go_ret;exact⟨N0a HER.o,L99.o⟩
    ·have hcf:L9a a=false:=by unfold L9a;by_cases z1:1<=a.cls<;>by_cases z2:a.cls<=3<;>simp[z1,z2]<;>omega
     have hn0:s4a 17 a=false:=by unfold s4a;rw[hk,hcf];rfl
     rw[hn0];obtain⟨q,hq⟩:=xX a.cls;rw[<-hq] at FL q1 q2 q3;have b1:(q==1)=false:=bF q1
     have b2:(q==2)=false:=bF q2
     have b3:(q==3)=false:=bF q3
     clear hk hcf hn0 q1 q2 q3 ka CP hq;go_enter func102,ntmps102;go_wp2_with(first|(refine sN 3 ?_;refine d0a rfl _ (.tmp 1) rfl C0 rfl ?_;intro g w1 hg1 hg2 K1 L1;have cl:=FL.o w1 g K1.o)|fail)
     go_ret;exact⟨rfl,L1.o⟩
 ·subst h18;have hbe:F2a 18 a={ a with file:=0,lev:=0 }:=by unfold F2a;rw[if_neg (by decide),if_neg (by decide),if_neg (by decide),if_pos rfl]
  have hnf:s4a 18 a=decide (F2a 18 a=i0a):=by unfold s4a;rw[hk];simp
  rw[hnf,hbe];have kb:({ a with file:=0,lev:=0 }:l1a).ok:=⟨ka.dial,ka.glen,ka.gbyte,ka.plen,ka.pbyte,ka.acc,ka.shr,ka.way,ka.opt,zb (by decide),ka.dur,zb (by decide),ka.at_,ka.n,ka.data,ka.locks,ka.most,ka.cls,ka.siz⟩;have HI:Hid (∀w':World,BW w w'->g1a w' w'.heap.size (l0a (.slice A1 A2 A3) (.slice X1 X2 X3) (.slice M1 M2 M3) ({ a with file:=0,lev:=0 })) ({ a with file:=0,lev:=0 })):=λw' hb=>⟨A1,A2,A3,X1,X2,X3,M1,M2,M3,rfl,hA.over hb,hX.over hb,hM.over hb⟩
  have hbu1:({ a with file:=0,lev:=0 }:l1a).user=a.user:=rfl;have hbu2:({ a with file:=0,lev:=0 }:l1a).share=a.share:=rfl;have HEQ:Hid (((C0).set 57 (.int .u64 0)).set 55 (.int .u8 0)=l0a (.slice A1 A2 A3) (.slice X1 X2 X3) (.slice M1 M2 M3) ({ a with file:=0,lev:=0 })):=by
   show _=_
   rw[HC0.o];simp only[b0c,S6c,hgl,hpl];try rfl
  obtain⟨b,hb⟩:∃x:l1a,x={ a with file:=0,lev:=0 }:=⟨_,rfl⟩;rw[<-hb] at HI HEQ kb hbu1 hbu2⊢;obtain⟨D,hD⟩:=xX (l0a (.slice A1 A2 A3) (.slice X1 X2 X3) (.slice M1 M2 M3) b);rw[<-hD] at HI HEQ;clear hb hD hk ka hbe hnf;go_enter func102,ntmps102;go_wp2_with(first|(refine sN 3 ?_;refine d0a rfl _ (.tmp 1) rfl C0 rfl ?_;intro g w1 hg1 hg2 K1 L1)|(refine sT 35 ?_;refine f0a rfl _ (.tmp 35) (.const (.int .u64 0)) rfl g 57 rfl _ C0 (.int .u64 0) rfl K1 HL (by decide) (by kernel_rfl) rfl ?_;intro w2 C1 HC1 HL1 K2 O2 hq2;have L2:=hI (c0a L1.o O2.o hg1))|(refine sT 36 ?_;refine f0a rfl _ (.tmp 36) (.const (.int .u8 0)) rfl g 55 rfl _ C1 (.int .u8 0) rfl K2 HL1 (by decide) (by kernel_rfl) rfl ?_;intro w3 C2 HC2 HL2 K3 O3 hq3;have L3:=hI (c0a L2.o O3.o hg1))|(refine sN 40 ?_;refine e0a rfl _ (.tmp 3) rfl g rfl _ C2 K3 69 _ underlying34 rfl p0a HL2 ?_)|fail)
  have HF:Hid (C2=D):=by
   show _=_
   rw[HC2.o,HC1.o];exact HEQ.o
  rw[HF.o];refine(CP.o _ D b kb hbu1 hbu2 (HI.o _ L3.o) L3.o).mono ?_;rintro e v1 ⟨⟨v,er,rfl,her⟩,LQ⟩;have HER:=hI her;have L99:=hI (step L3.o LQ);clear her LQ;go_wp2;go_ret;exact⟨N0a HER.o,L99.o⟩
theorem q2c:(prog.info? 151).map (λi=>(i.zero,i.size))=some (some (.agg ([.slice none 0 0,.int .i64 0]:List Value).toArray),2):=by kernel_rfl
def x4a(w:World)(c:Int)(a:l1a)(e:Ending)(w':World):Prop:=∃v,e=.returned (.tuple #[v,.int .i64 (z4a c a)])/\b1a .u8 5 w' w.heap.size v (c0b c a)/\BW w w'
theorem M7b(w:World)(c:Int)(cs:List Value)(a:l1a)(hc:0<=c/\c<=65535)(ka:a.ok)(ha:g1a w w.heap.size cs a)(hu:a.user.size<=17592186044416/\a.share.size<=17592186044416)(hn:a.name.size<=17592186044416/\a.pat.size<=17592186044416/\a.aft.size<=17592186044416)(hT:E8a w) :
  Calls prog 68 #[.int .u16 c,.agg cs.toArray] w (x4a w c a):=by
 have HL:=hI (ha.len ka);have HA:=hI ha;have HT:Hid (e8a w.heap.size w):=e8a.of hT;obtain⟨hn1,hn2,hn3⟩:=hn;have CN:Hid (∀w',BW w w'->Calls prog 102 #[.int .u16 c,.agg cs.toArray] w' λe w2=>e=.returned (.bool (s4a c a))/\BW w' w2):=λw' hb=>g5b w' c cs a hc ka (HA.o.over hb) hu (HT.o w' hb)
 have CT:Hid (∀(w:World) (b:Bool),Calls prog 107 #[.bool b] w λe w'=>e=.returned (.int .u64 (e1a b))/\w=w'):=e4b;have FL:Hid (∀(w:World) (g:Nat),Blk w g 34 cs->w.cell? ⟨g,57,none⟩=some (.int .u64 a.file)/\w.cell? ⟨g,63,none⟩=some (.int .u16 a.most)/\w.cell? ⟨g,64,none⟩=some (.string a.pat)/\w.cell? ⟨g,65,none⟩=some (.string a.aft)/\w.cell? ⟨g,66,none⟩=some (.int .u16 a.cls)/\w.cell? ⟨g,67,none⟩=some (.int .u64 a.siz)/\w.cell? ⟨g,68,none⟩=some (.bool a.on)/\w.cell? ⟨g,58,none⟩=some (.string a.name)/\w.cell? ⟨g,55,none⟩=some (.int .u8 a.lev)):=by obtain⟨A1,A2,A3,X1,X2,X3,M1,M2,M3,rfl,hA,hX,hM⟩:=ha;exact λw g h=>⟨h.at (o0a ka 8),h.at (o0a ka 14),h.at (o0a ka 15),h.at (o0a ka 16),h.at (o0a ka 17),h.at (o0a ka 18),h.at (o0a ka 19),h.at (o0a ka 9),h.at (o0a ka 6)⟩
 have ZW:=hI q2c;have b1:=ka.file;have b2:=ka.most;have b3:=ka.cls;have b4:=ka.siz;have b5:=ka.lev
 have rp:=v3a a.pat.data.toList;have ra:=v3a a.aft.data.toList;have rn:=v3a a.name.data.toList;by_cases hnm:s4a c a=true;rotate_left
 ·have hnf:s4a c a=false:=by simpa using hnm
  have he:z4a c a=2:=by unfold z4a;rw[if_neg hnm]
  have HQ:Hid (∀(e:Ending) (w':World),e=.returned (.tuple #[.slice none 0 0,.int .i64 2])->BW w w'->x4a w c a e w'):=by intro e w' h1 h2;refine⟨_,by rw[he];exact h1,?_,h2⟩;unfold c0b;rw[he,if_neg (by decide)];exact b1a.nil _ _ _ _
  rw[hnf] at CN;clear hnm hnf he ha ka hT hu hc CT ZW FL;go_enter func68,ntmps68;go_wp2_with(first|(refine sN 3 ?_;refine d0a rfl _ (.tmp 1) rfl cs rfl ?_;intro z w1 hz1 hz2 Z1 L1)|(refine sN 8 ?_;refine e0a rfl _ (.tmp 3) rfl z rfl _ cs Z1 69 _ underlying34 rfl p0a HL ?_)|fail)
  refine(CN.o w1 L1.o).mono ?_;rintro e w2 ⟨rfl,L2⟩;have L22:=hI (step L1.o L2);clear L2;go_wp2;go_ret2;exact HQ.o _ _ rfl L22.o
 rw[hnm] at CN;have hk:J8a c=true:=by unfold s4a at hnm;simp only[Bool.and_eq_true] at hnm;exact hnm.1
 have hcl:c=17->1<=a.cls/\a.cls<=3:=by
  intro h17;unfold s4a L9a at hnm;simp only[Bool.and_eq_true,Bool.or_eq_true,Bool.not_eq_true',decide_eq_false_iff_not,decide_eq_true_eq] at hnm;rcases hnm.2.1 with h | h
  ·exact absurd h17 h
  ·exact h
 have hw1:IntKind.u64.wrap a.most=a.most:=by rw[IntKind.wrap_u64];omega
 have hw2:IntKind.u64.wrap a.cls=a.cls:=by rw[IntKind.wrap_u64];omega
 obtain⟨b10,b11⟩:=b1;obtain⟨b20,b21⟩:=b2;obtain⟨b30,b31⟩:=b3;obtain⟨b40,b41⟩:=b4;obtain⟨b50,b51⟩:=b5;have bf:0<=a.file/\a.file<=18446744073709551615:=⟨b10,b11⟩;have bs:0<=a.siz/\a.siz<=18446744073709551615:=⟨b40,b41⟩;have bm:0<=a.most/\a.most<=65535:=⟨b20,b21⟩;have bc:0<=a.cls/\a.cls<=65535:=⟨b30,b31⟩;have bl:0<=a.lev/\a.lev<=255:=⟨b50,b51⟩;have bo:0<=e1a a.on/\e1a a.on<=65535:=by have:=M9a a.on;omega
 have H2:Hid (([.slice none 0 0,.int .i64 0]:List Value).length=2):=rfl;go_enter func68,ntmps68;go_wp2_with(first|(refine sN 3 ?_;refine d0a rfl _ (.tmp 1) rfl cs rfl ?_;intro z w1 hz1 hz2 Z1 L1)|(refine sN 8 ?_;refine e0a rfl _ (.tmp 3) rfl z rfl _ cs Z1 69 _ underlying34 rfl p0a HL ?_)|fail)
 refine(CN.o w1 L1.o).mono ?_;rintro e w2 ⟨rfl,L2⟩;have Z2:=hI (Z1.o.over L2);have L22:=hI (step L1.o L2);have hzs:z<w2.heap.size:=Z2.o.lt;clear L2 Z1 L1 CN;have hws:=L22.o.size;obtain⟨f1,f2,f3,f4,f5,f6,f7,f8,f9⟩:=FL.o _ _ Z2.o;go_upto_if 12 with(first|(refine sN 6 ?_;refine b0a rfl _ rfl _ _ ZW ?_;intro g u0 hg1 hg2 G0 N0;have hzg:z≠g:=(by omega);have Z0:=hI (Z2.o.over N0.o);have K0:Hid (L1a g w.heap.size w u0):=(L1a.of_below (L22.o.trans (N0.o.mono hws)) (Nat.le_refl _));have V0:Hid (WI u0 g w.heap.size [] 0):=⟨by omega,_,G0.o,b1a.nil _ _ _ _⟩;clear f1 f2 f3 f4 f5 f6 f7 f8 f9;obtain⟨f1,f2,f3,f4,f5,f6,f7,f8,f9⟩:=FL.o _ _ Z0.o)|fail)
 rcases T4a hk with h12 | h14 | h16 | h17 | h18
 subst h12;have D1:=hI fun (w':World) (g:Nat) h=>I5a w' g w.heap.size ([]) (0) 4 h (by decide) (by decide) (by have h1:=rp;have h2:=ra;have h3:=rn;simp only[List.length_append,g0a,List.length_replicate,List.length_nil];omega)
 have DE:=hI fun (w':World) (g:Nat) h=>w4a w' g w.heap.size ([]++List.replicate 4 0) 0 h
 have hbd:[]++List.replicate 4 0=H3a 12 a:=by unfold H3a;rw[if_neg (by decide),if_neg (by decide),if_neg (by decide),if_neg (by decide),List.nil_append]
 have her:z4a 12 a=0:=by unfold z4a;rw[if_pos hnm,if_neg (by decide),if_neg (λh=>absurd h.1 (by decide))]
 have HQ:Hid (∀(v:Value) (e:Ending) (w':World),e=.returned (.tuple #[v,.int .i64 0])->b1a .u8 5 w' w.heap.size v (if 0=0 then []++List.replicate 4 0 else [])->BW w w'->x4a w 12 a e w'):=by intro v e w' h1 h2 h3;refine⟨v,by rw[her];exact h1,?_,h3⟩;unfold c0b;rw[her,<-hbd];exact h2
 obtain⟨y1,hy1⟩:∃y:List Int,y=[]++List.replicate 4 0:=⟨_,rfl⟩;rw[<-hy1] at D1 DE HQ;clear hy1;clear hk hnm hcl her hbd ka ha hT hu hc;have F1:=hI (D1.o _ _ V0.o);go_wp2_with fail;refine F1.o.mono ?_;rintro e u1 ⟨rfl,p1,p2⟩;have Vz:=hI p1;have Kz:=hI (K0.o.trans p2);clear p1 p2 F1 V0;rotate_left;subst h14;have D1:=hI fun (w':World) (g:Nat) h=>R3a w' g w.heap.size ([]) (0) a.file h bf (by have h1:=rp;have h2:=ra;have h3:=rn;simp only[List.length_append,g0a,List.length_replicate,List.length_nil];omega)
 have D2:=hI fun (w':World) (g:Nat) h=>v4a w' g w.heap.size ([]++le a.file 8) (0) a.most h bm (by have h1:=rp;have h2:=ra;have h3:=rn;simp only[List.length_append,g0a,List.length_replicate,List.length_nil];omega)
 have D3:=hI fun (w':World) (g:Nat) h=>I5a w' g w.heap.size ([]++le a.file 8++le a.most 2) (0) 2 h (by decide) (by decide) (by have h1:=rp;have h2:=ra;have h3:=rn;simp only[List.length_append,g0a,List.length_replicate,List.length_nil];omega)
 have D4:Hid (∀(w':World) (g:Nat),e8a w.heap.size w'->WI w' g w.heap.size ([]++le a.file 8++le a.most 2++List.replicate 2 0) (0)->Calls prog 106 #[.pointer (some ⟨g,0,none⟩),.string a.pat] w' λe w2=>e=.returned (.tuple #[])/\WI w2 g w.heap.size ([]++le a.file 8++le a.most 2++List.replicate 2 0++C0a a.pat.data.toList) (z0a a.pat.data.toList)/\L1a g w.heap.size w' w2):=λw' g ht h=>by have h1:=Y9a w' g _ _ _ a.pat h hn2 ht (by have h1:=rp;have h2:=ra;have h3:=rn;simp only[List.length_append,g0a,List.length_replicate,List.length_nil];omega);rw[if_pos rfl] at h1;exact h1
 have D5:=hI fun (w':World) (g:Nat) ht h=>Y9a w' g w.heap.size ([]++le a.file 8++le a.most 2++List.replicate 2 0++C0a a.pat.data.toList) ((z0a a.pat.data.toList)) a.aft h hn3 ht (by have h1:=rp;have h2:=ra;have h3:=rn;simp only[List.length_append,g0a,List.length_replicate,List.length_nil];omega)
 have DE:=hI fun (w':World) (g:Nat) h=>w4a w' g w.heap.size ([]++le a.file 8++le a.most 2++List.replicate 2 0++C0a a.pat.data.toList++C0a a.aft.data.toList) (if (z0a a.pat.data.toList)=0 then z0a a.aft.data.toList else (z0a a.pat.data.toList)) h
 have hbd:[]++le a.file 8++le a.most 2++List.replicate 2 0++C0a a.pat.data.toList++C0a a.aft.data.toList=H3a 14 a:=by unfold H3a;rw[if_pos rfl];simp only[List.nil_append,List.append_assoc]
 have her:z4a 14 a=(if (z0a a.pat.data.toList)=0 then z0a a.aft.data.toList else (z0a a.pat.data.toList)):=by unfold z4a;rw[if_pos hnm,if_pos rfl]
 have HQ:Hid (∀(v:Value) (e:Ending) (w':World),e=.returned (.tuple #[v,.int .i64 (if (z0a a.pat.data.toList)=0 then z0a a.aft.data.toList else (z0a a.pat.data.toList))])->b1a .u8 5 w' w.heap.size v (if (if (z0a a.pat.data.toList)=0 then z0a a.aft.data.toList else (z0a a.pat.data.toList))=0 then []++le a.file 8++le a.most 2++List.replicate 2 0++C0a a.pat.data.toList++C0a a.aft.data.toList else [])->BW w w'->x4a w 14 a e w'):=by intro v e w' h1 h2 h3;refine⟨v,by rw[her];exact h1,?_,h3⟩;unfold c0b;rw[her,<-hbd];exact h2
 obtain⟨y5,hy5⟩:∃y:List Int,y=[]++le a.file 8++le a.most 2++List.replicate 2 0++C0a a.pat.data.toList++C0a a.aft.data.toList:=⟨_,rfl⟩;rw[<-hy5] at D5 DE HQ;obtain⟨y4,hy4⟩:∃y:List Int,y=[]++le a.file 8++le a.most 2++List.replicate 2 0++C0a a.pat.data.toList:=⟨_,rfl⟩;rw[<-hy4] at D4 D5;obtain⟨y3,hy3⟩:∃y:List Int,y=[]++le a.file 8++le a.most 2++List.replicate 2 0:=⟨_,rfl⟩;rw[<-hy3] at D3 D4;obtain⟨y2,hy2⟩:∃y:List Int,y=[]++le a.file 8++le a.most 2:=⟨_,rfl⟩;rw[<-hy2] at D2 D3;obtain⟨y1,hy1⟩:∃y:List Int,y=[]++le a.file 8:=⟨_,rfl⟩;rw[<-hy1] at D1 D2;obtain⟨er5,her5⟩:∃y:Int,y=(if (z0a a.pat.data.toList)=0 then z0a a.aft.data.toList else (z0a a.pat.data.toList)):=⟨_,rfl⟩;try rw[<-her5] at D5
 try rw[<-her5] at DE
 try rw[<-her5] at HQ
 obtain⟨er4,her4⟩:∃y:Int,y=(z0a a.pat.data.toList):=⟨_,rfl⟩;try rw[<-her4] at D4
 try rw[<-her4] at D5
 try rw[<-her4] at DE
 try rw[<-her4] at HQ
 clear her5;clear her4;clear hy1;clear hy2;clear hy3;clear hy4;clear hy5;clear hk hnm hcl her hbd ka ha hT hu hc;have F1:=hI (D1.o _ _ V0.o);go_wp2_with fail;refine F1.o.mono ?_;rintro e u1 ⟨rfl,p1,p2⟩;have V1:=hI p1;have K1:=hI (K0.o.trans p2);have Z1:=hI (p2.blk Z0.o (by decide) hzg);obtain⟨c1_1,c1_2,c1_3,c1_4,c1_5,c1_6,c1_7,c1_8,c1_9⟩:=FL.o _ _ Z1.o;clear p1 p2 F1 V0;have F2:=hI (D2.o _ _ V1.o);go_wp2_with fail;refine F2.o.mono ?_;rintro e u2 ⟨rfl,p1,p2⟩;have V2:=hI p1;have K2:=hI (K1.o.trans p2);have Z2:=hI (p2.blk Z1.o (by decide) hzg);obtain⟨c2_1,c2_2,c2_3,c2_4,c2_5,c2_6,c2_7,c2_8,c2_9⟩:=FL.o _ _ Z2.o;clear p1 p2 F2 V1;have F3:=hI (D3.o _ _ V2.o);go_wp2_with fail;refine F3.o.mono ?_;rintro e u3 ⟨rfl,p1,p2⟩;have V3:=hI p1;have K3:=hI (K2.o.trans p2);have Z3:=hI (p2.blk Z2.o (by decide) hzg);obtain⟨c3_1,c3_2,c3_3,c3_4,c3_5,c3_6,c3_7,c3_8,c3_9⟩:=FL.o _ _ Z3.o;clear p1 p2 F3 V2;have F4:=hI (D4.o _ _ (HT.o.next K3.o.below) V3.o);go_wp2_with fail;refine F4.o.mono ?_;rintro e u4 ⟨rfl,p1,p2⟩;have V4:=hI p1;have K4:=hI (K3.o.trans p2);have Z4:=hI (p2.blk Z3.o (by decide) hzg);obtain⟨c4_1,c4_2,c4_3,c4_4,c4_5,c4_6,c4_7,c4_8,c4_9⟩:=FL.o _ _ Z4.o;clear p1 p2 F4 V3;have F5:=hI (D5.o _ _ (HT.o.next K4.o.below) V4.o);go_wp2_with fail;refine F5.o.mono ?_;rintro e u5 ⟨rfl,p1,p2⟩;have Vz:=hI p1;have Kz:=hI (K4.o.trans p2);clear p1 p2 F5 V4;rotate_left;subst h16;have D1:=hI fun (w':World) (g:Nat) h=>R3a w' g w.heap.size ([]) (0) a.file h bf (by have h1:=rp;have h2:=ra;have h3:=rn;simp only[List.length_append,g0a,List.length_replicate,List.length_nil];omega)
 have DE:=hI fun (w':World) (g:Nat) h=>w4a w' g w.heap.size ([]++le a.file 8) 0 h
 have hbd:[]++le a.file 8=H3a 16 a:=by unfold H3a;rw[if_neg (by decide),if_pos rfl,List.nil_append]
 have her:z4a 16 a=0:=by unfold z4a;rw[if_pos hnm,if_neg (by decide),if_neg (λh=>absurd h.1 (by decide))]
 have HQ:Hid (∀(v:Value) (e:Ending) (w':World),e=.returned (.tuple #[v,.int .i64 0])->b1a .u8 5 w' w.heap.size v (if 0=0 then []++le a.file 8 else [])->BW w w'->x4a w 16 a e w'):=by intro v e w' h1 h2 h3;refine⟨v,by rw[her];exact h1,?_,h3⟩;unfold c0b;rw[her,<-hbd];exact h2
 obtain⟨y1,hy1⟩:∃y:List Int,y=[]++le a.file 8:=⟨_,rfl⟩;rw[<-hy1] at D1 DE HQ;clear hy1;clear hk hnm hcl her hbd ka ha hT hu hc;have F1:=hI (D1.o _ _ V0.o);go_wp2_with fail;refine F1.o.mono ?_;rintro e u1 ⟨rfl,p1,p2⟩;have Vz:=hI p1;have Kz:=hI (K0.o.trans p2);clear p1 p2 F1 V0;rotate_left;subst h17;obtain⟨hc1,hc3⟩:=hcl rfl;have hcs:a.cls=1∨a.cls=2∨a.cls=3:=by omega
 rcases hcs with q | q | q
 have D1:=hI fun (w':World) (g:Nat) h=>R3a w' g w.heap.size ([]) (0) a.file h bf (by have h1:=rp;have h2:=ra;have h3:=rn;simp only[List.length_append,g0a,List.length_replicate,List.length_nil];omega)
 have D2:=hI fun (w':World) (g:Nat) h=>v4a w' g w.heap.size ([]++le a.file 8) (0) 1 h ⟨by decide,by decide⟩ (by have h1:=rp;have h2:=ra;have h3:=rn;simp only[List.length_append,g0a,List.length_replicate,List.length_nil];omega)
 have D3:=hI fun (w':World) (g:Nat) h=>R3a w' g w.heap.size ([]++le a.file 8++le 1 2) (0) a.siz h bs (by have h1:=rp;have h2:=ra;have h3:=rn;simp only[List.length_append,g0a,List.length_replicate,List.length_nil];omega)
 have DE:=hI fun (w':World) (g:Nat) h=>w4a w' g w.heap.size ([]++le a.file 8++le 1 2++le a.siz 8) 0 h
 rw[q] at FL f5;have hbd:[]++le a.file 8++le 1 2++le a.siz 8=H3a 17 a:=by unfold H3a;rw[if_neg (by decide),if_neg (by decide),if_pos rfl,if_pos q];simp only[List.nil_append,List.append_assoc,q]
 have her:z4a 17 a=0:=by unfold z4a;rw[if_pos hnm,if_neg (by decide),if_neg (λh=>by have:=h.2;omega)]
 have HQ:Hid (∀(v:Value) (e:Ending) (w':World),e=.returned (.tuple #[v,.int .i64 0])->b1a .u8 5 w' w.heap.size v (if 0=0 then []++le a.file 8++le 1 2++le a.siz 8 else [])->BW w w'->x4a w 17 a e w'):=by intro v e w' h1 h2 h3;refine⟨v,by rw[her];exact h1,?_,h3⟩;unfold c0b;rw[her,<-hbd];exact h2
 obtain⟨y3,hy3⟩:∃y:List Int,y=[]++le a.file 8++le 1 2++le a.siz 8:=⟨_,rfl⟩;rw[<-hy3] at D3 DE HQ;obtain⟨y2,hy2⟩:∃y:List Int,y=[]++le a.file 8++le 1 2:=⟨_,rfl⟩;rw[<-hy2] at D2 D3;obtain⟨y1,hy1⟩:∃y:List Int,y=[]++le a.file 8:=⟨_,rfl⟩;rw[<-hy1] at D1 D2;clear hy1;clear hy2;clear hy3;clear hk hnm hcl her hbd ka ha hT hu hc;have F1:=hI (D1.o _ _ V0.o);go_wp2_with fail;refine F1.o.mono ?_;rintro e u1 ⟨rfl,p1,p2⟩;have V1:=hI p1;have K1:=hI (K0.o.trans p2);have Z1:=hI (p2.blk Z0.o (by decide) hzg);obtain⟨c1_1,c1_2,c1_3,c1_4,c1_5,c1_6,c1_7,c1_8,c1_9⟩:=FL.o _ _ Z1.o;clear p1 p2 F1 V0;have F2:=hI (D2.o _ _ V1.o);go_wp2_with fail;refine F2.o.mono ?_;rintro e u2 ⟨rfl,p1,p2⟩;have V2:=hI p1;have K2:=hI (K1.o.trans p2);have Z2:=hI (p2.blk Z1.o (by decide) hzg);obtain⟨c2_1,c2_2,c2_3,c2_4,c2_5,c2_6,c2_7,c2_8,c2_9⟩:=FL.o _ _ Z2.o;clear p1 p2 F2 V1;have F3:=hI (D3.o _ _ V2.o);go_wp2_with fail;refine F3.o.mono ?_;rintro e u3 ⟨rfl,p1,p2⟩;have Vz:=hI p1;have Kz:=hI (K2.o.trans p2);clear p1 p2 F3 V2;rotate_left;have D1:=hI fun (w':World) (g:Nat) h=>R3a w' g w.heap.size ([]) (0) a.file h bf (by have h1:=rp;have h2:=ra;have h3:=rn;simp only[List.length_append,g0a,List.length_replicate,List.length_nil];omega)
 have D2:=hI fun (w':World) (g:Nat) h=>v4a w' g w.heap.size ([]++le a.file 8) (0) 2 h ⟨by decide,by decide⟩ (by have h1:=rp;have h2:=ra;have h3:=rn;simp only[List.length_append,g0a,List.length_replicate,List.length_nil];omega)
 have D3:=hI fun (w':World) (g:Nat) h=>v4a w' g w.heap.size ([]++le a.file 8++le 2 2) (0) (e1a a.on) h bo (by have h1:=rp;have h2:=ra;have h3:=rn;simp only[List.length_append,g0a,List.length_replicate,List.length_nil];omega)
 have DE:=hI fun (w':World) (g:Nat) h=>w4a w' g w.heap.size ([]++le a.file 8++le 2 2++le (e1a a.on) 2) 0 h
 rw[q] at FL f5;have hbd:[]++le a.file 8++le 2 2++le (e1a a.on) 2=H3a 17 a:=by unfold H3a;rw[if_neg (by decide),if_neg (by decide),if_pos rfl,if_neg (by omega),if_pos q];simp only[List.nil_append,List.append_assoc,q]
 have her:z4a 17 a=0:=by unfold z4a;rw[if_pos hnm,if_neg (by decide),if_neg (λh=>by have:=h.2;omega)]
 have HQ:Hid (∀(v:Value) (e:Ending) (w':World),e=.returned (.tuple #[v,.int .i64 0])->b1a .u8 5 w' w.heap.size v (if 0=0 then []++le a.file 8++le 2 2++le (e1a a.on) 2 else [])->BW w w'->x4a w 17 a e w'):=by intro v e w' h1 h2 h3;refine⟨v,by rw[her];exact h1,?_,h3⟩;unfold c0b;rw[her,<-hbd];exact h2
 obtain⟨y3,hy3⟩:∃y:List Int,y=[]++le a.file 8++le 2 2++le (e1a a.on) 2:=⟨_,rfl⟩;rw[<-hy3] at D3 DE HQ;obtain⟨y2,hy2⟩:∃y:List Int,y=[]++le a.file 8++le 2 2:=⟨_,rfl⟩;rw[<-hy2] at D2 D3;obtain⟨y1,hy1⟩:∃y:List Int,y=[]++le a.file 8:=⟨_,rfl⟩;rw[<-hy1] at D1 D2;clear hy1;clear hy2;clear hy3;clear hk hnm hcl her hbd ka ha hT hu hc;have F1:=hI (D1.o _ _ V0.o);go_wp2_with fail;refine F1.o.mono ?_;rintro e u1 ⟨rfl,p1,p2⟩;have V1:=hI p1;have K1:=hI (K0.o.trans p2);have Z1:=hI (p2.blk Z0.o (by decide) hzg);obtain⟨c1_1,c1_2,c1_3,c1_4,c1_5,c1_6,c1_7,c1_8,c1_9⟩:=FL.o _ _ Z1.o;clear p1 p2 F1 V0;have F2:=hI (D2.o _ _ V1.o);go_wp2_with fail;refine F2.o.mono ?_;rintro e u2 ⟨rfl,p1,p2⟩;have V2:=hI p1;have K2:=hI (K1.o.trans p2);have Z2:=hI (p2.blk Z1.o (by decide) hzg);obtain⟨c2_1,c2_2,c2_3,c2_4,c2_5,c2_6,c2_7,c2_8,c2_9⟩:=FL.o _ _ Z2.o;clear p1 p2 F2 V1;go_wp2_with fail;refine(CT.o _ _).mono ?_;rintro e wt ⟨rfl,rfl⟩;have F3:=hI (D3.o _ _ V2.o);go_wp2_with fail;refine F3.o.mono ?_;rintro e u3 ⟨rfl,p1,p2⟩;have Vz:=hI p1;have Kz:=hI (K2.o.trans p2);clear p1 p2 F3 V2;rotate_left;have D1:=hI fun (w':World) (g:Nat) h=>R3a w' g w.heap.size ([]) (0) a.file h bf (by have h1:=rp;have h2:=ra;have h3:=rn;simp only[List.length_append,g0a,List.length_replicate,List.length_nil];omega)
 have D2:=hI fun (w':World) (g:Nat) h=>v4a w' g w.heap.size ([]++le a.file 8) (0) 3 h ⟨by decide,by decide⟩ (by have h1:=rp;have h2:=ra;have h3:=rn;simp only[List.length_append,g0a,List.length_replicate,List.length_nil];omega)
 have D3:=hI fun (w':World) (g:Nat) h=>v4a w' g w.heap.size ([]++le a.file 8++le 3 2) (0) (e1a a.on) h bo (by have h1:=rp;have h2:=ra;have h3:=rn;simp only[List.length_append,g0a,List.length_replicate,List.length_nil];omega)
 have D4:Hid (∀(w':World) (g:Nat),e8a w.heap.size w'->WI w' g w.heap.size ([]++le a.file 8++le 3 2++le (e1a a.on) 2) (0)->Calls prog 106 #[.pointer (some ⟨g,0,none⟩),.string a.name] w' λe w2=>e=.returned (.tuple #[])/\WI w2 g w.heap.size ([]++le a.file 8++le 3 2++le (e1a a.on) 2++C0a a.name.data.toList) (z0a a.name.data.toList)/\L1a g w.heap.size w' w2):=λw' g ht h=>by have h1:=Y9a w' g _ _ _ a.name h hn1 ht (by have h1:=rp;have h2:=ra;have h3:=rn;simp only[List.length_append,g0a,List.length_replicate,List.length_nil];omega);rw[if_pos rfl] at h1;exact h1
 have DE:=hI fun (w':World) (g:Nat) h=>w4a w' g w.heap.size ([]++le a.file 8++le 3 2++le (e1a a.on) 2++C0a a.name.data.toList) (z0a a.name.data.toList) h
 rw[q] at FL f5;have hbd:[]++le a.file 8++le 3 2++le (e1a a.on) 2++C0a a.name.data.toList=H3a 17 a:=by unfold H3a;rw[if_neg (by decide),if_neg (by decide),if_pos rfl,if_neg (by omega),if_neg (by omega)];simp only[List.nil_append,List.append_assoc,q]
 have her:z4a 17 a=(z0a a.name.data.toList):=by unfold z4a;rw[if_pos hnm,if_neg (by decide),if_pos ⟨rfl,q⟩]
 have HQ:Hid (∀(v:Value) (e:Ending) (w':World),e=.returned (.tuple #[v,.int .i64 (z0a a.name.data.toList)])->b1a .u8 5 w' w.heap.size v (if (z0a a.name.data.toList)=0 then []++le a.file 8++le 3 2++le (e1a a.on) 2++C0a a.name.data.toList else [])->BW w w'->x4a w 17 a e w'):=by intro v e w' h1 h2 h3;refine⟨v,by rw[her];exact h1,?_,h3⟩;unfold c0b;rw[her,<-hbd];exact h2
 obtain⟨y4,hy4⟩:∃y:List Int,y=[]++le a.file 8++le 3 2++le (e1a a.on) 2++C0a a.name.data.toList:=⟨_,rfl⟩;rw[<-hy4] at D4 DE HQ;obtain⟨y3,hy3⟩:∃y:List Int,y=[]++le a.file 8++le 3 2++le (e1a a.on) 2:=⟨_,rfl⟩;rw[<-hy3] at D3 D4;obtain⟨y2,hy2⟩:∃y:List Int,y=[]++le a.file 8++le 3 2:=⟨_,rfl⟩;rw[<-hy2] at D2 D3;obtain⟨y1,hy1⟩:∃y:List Int,y=[]++le a.file 8:=⟨_,rfl⟩;rw[<-hy1] at D1 D2;obtain⟨er4,her4⟩:∃y:Int,y=(z0a a.name.data.toList):=⟨_,rfl⟩;try rw[<-her4] at D4
 try rw[<-her4] at DE
 try rw[<-her4] at HQ
 clear her4;clear hy1;clear hy2;clear hy3;clear hy4;clear hk hnm hcl her hbd ka ha hT hu hc;have F1:=hI (D1.o _ _ V0.o);go_wp2_with fail;refine F1.o.mono ?_;rintro e u1 ⟨rfl,p1,p2⟩;have V1:=hI p1;have K1:=hI (K0.o.trans p2);have Z1:=hI (p2.blk Z0.o (by decide) hzg);obtain⟨c1_1,c1_2,c1_3,c1_4,c1_5,c1_6,c1_7,c1_8,c1_9⟩:=FL.o _ _ Z1.o;clear p1 p2 F1 V0;have F2:=hI (D2.o _ _ V1.o);go_wp2_with fail;refine F2.o.mono ?_;rintro e u2 ⟨rfl,p1,p2⟩;have V2:=hI p1;have K2:=hI (K1.o.trans p2);have Z2:=hI (p2.blk Z1.o (by decide) hzg);obtain⟨c2_1,c2_2,c2_3,c2_4,c2_5,c2_6,c2_7,c2_8,c2_9⟩:=FL.o _ _ Z2.o;clear p1 p2 F2 V1;go_wp2_with fail;refine(CT.o _ _).mono ?_;rintro e wt ⟨rfl,rfl⟩;have F3:=hI (D3.o _ _ V2.o);go_wp2_with fail;refine F3.o.mono ?_;rintro e u3 ⟨rfl,p1,p2⟩;have V3:=hI p1;have K3:=hI (K2.o.trans p2);have Z3:=hI (p2.blk Z2.o (by decide) hzg);obtain⟨c3_1,c3_2,c3_3,c3_4,c3_5,c3_6,c3_7,c3_8,c3_9⟩:=FL.o _ _ Z3.o;clear p1 p2 F3 V2;have F4:=hI (D4.o _ _ (HT.o.next K3.o.below) V3.o);go_wp2_with fail;refine F4.o.mono ?_;rintro e u4 ⟨rfl,p1,p2⟩;have Vz:=hI p1;have Kz:=hI (K3.o.trans p2);clear p1 p2 F4 V3;rotate_left;subst h18;have D1:=hI fun (w':World) (g:Nat) h=>f4b w' g w.heap.size ([]) (0) a.file a.lev h bf bl (by have h1:=rp;have h2:=ra;have h3:=rn;simp only[List.length_append,g0a,List.length_replicate,List.length_nil];omega)
 have DE:=hI fun (w':World) (g:Nat) h=>w4a w' g w.heap.size ([]++(le a.file 8++(le a.lev 1++List.replicate 3 0))) 0 h
 have hbd:[]++(le a.file 8++(le a.lev 1++List.replicate 3 0))=H3a 18 a:=by unfold H3a;rw[if_neg (by decide),if_neg (by decide),if_neg (by decide),if_pos rfl,List.nil_append]
 have her:z4a 18 a=0:=by unfold z4a;rw[if_pos hnm,if_neg (by decide),if_neg (λh=>absurd h.1 (by decide))]
 have HQ:Hid (∀(v:Value) (e:Ending) (w':World),e=.returned (.tuple #[v,.int .i64 0])->b1a .u8 5 w' w.heap.size v (if 0=0 then []++(le a.file 8++(le a.lev 1++List.replicate 3 0)) else [])->BW w w'->x4a w 18 a e w'):=by intro v e w' h1 h2 h3;refine⟨v,by rw[her];exact h1,?_,h3⟩;unfold c0b;rw[her,<-hbd];exact h2
 obtain⟨y1,hy1⟩:∃y:List Int,y=[]++(le a.file 8++(le a.lev 1++List.replicate 3 0)):=⟨_,rfl⟩;rw[<-hy1] at D1 DE HQ;clear hy1;clear hk hnm hcl her hbd ka ha hT hu hc;have F1:=hI (D1.o _ _ V0.o);go_wp2_with fail;refine F1.o.mono ?_;rintro e u1 ⟨rfl,p1,p2⟩;have Vz:=hI p1;have Kz:=hI (K0.o.trans p2);clear p1 p2 F1 V0;rotate_left;all_goals
  have FE:=hI (DE.o _ _ Vz.o);go_wp2_with fail;refine FE.o.mono ?_;rintro e ue ⟨v,rfl,p1,p2⟩;have OE:=hI p1;have LE:=hI (Kz.o.below.trans (p2.mono (by have:=Kz.o.below.size;omega)));clear p1 p2 FE;go_wp2;go_ret2;exact HQ.o _ _ _ rfl OE.o LE.o
theorem h5b(w:World)(c:Int)(cs:List Value)(a:O1a)(hc:0<=c/\c<=65535)(ka:a.ok)(ha:s1a w w.heap.size cs a) :
  Calls prog 118 #[.int .u16 c,.agg cs.toArray] w λe w'=>e=.returned (.bool (Z3a c a))/\BW w w':=by
 have HL:=hI (ha.len ka);have hcl:=ka.clen;have CP:Hid (∀(w':World) (ds:List Value) (b:O1a),b.ok->s1a w' w'.heap.size ds b->Calls prog 62 #[.int .u16 13,.agg ds.toArray] w' λe w2=>(∃v er,e=.returned (.tuple #[v,.int .i64 er])/\(er==0)=decide (b=n0a))/\BW w' w2):=λw' ds b kb hb=>by exact(J2b w' 13 ds b (by decide) kb hb).mono λe w2 ⟨v,h1,_,h3⟩=>⟨⟨v,_,h1,w6b b⟩,h3⟩
 by_cases hk:i6a c=true;rotate_left
 ·have hn0:Z3a c a=false:=by unfold Z3a;rw[show i6a c=false from by simpa using hk];rfl
  have hk':c≠14/\c≠16/\c≠17/\c≠18:=by refine⟨?_,?_,?_,?_⟩<;>(rintro rfl;exact hk (by decide))
  obtain⟨h14,h16,h17,h18⟩:=hk';have b14:(c==14)=false:=bF h14
  have b16:(c==16)=false:=bF h16
  have b17:(c==17)=false:=bF h17
  have b18:(c==18)=false:=bF h18
  rw[hn0];clear hk hn0 h14 h16 h17 h18 ha ka CP;go_enter func118,ntmps118;go_wp2_with(first|(refine sN 3 ?_;refine d0a rfl _ (.tmp 1) rfl cs rfl ?_;intro g w1 hg1 hg2 K1 L1)|fail)
  go_ret;exact⟨rfl,L1.o⟩
 have hcs:=u4a hk;obtain⟨X1,X2,X3,M1,M2,M3,rfl,hX,hM⟩:=ha;obtain⟨C0,hC0⟩:=xX (u0a (.slice X1 X2 X3) (.slice M1 M2 M3) a);have HC0:=hI hC0;rw[<-hC0] at HL ⊢;clear hC0;rcases hcs with h14 | h16 | h17 | h18
 ·subst h14;have hbe:k3a 14 a={ a with ents:=[],more:=false }:=by unfold k3a;rw[if_pos rfl]
  have hnf:Z3a 14 a=decide (k3a 14 a=n0a):=by unfold Z3a;rw[hk,Bool.true_and]
  rw[hnf,hbe];have kb:({ a with ents:=[],more:=false }:O1a).ok:=⟨ka.dia,ka.siz,ka.clen,ka.cbyte,ka.lev,ka.dur,ka.made,ka.file,ka.kind,ka.data,ka.n,(λl h=>by cases h)⟩;have HI:Hid (∀w':World,BW w w'->s1a w' w'.heap.size (u0a (.slice X1 X2 X3) (.slice none 0 0) ({ a with ents:=[],more:=false })) ({ a with ents:=[],more:=false })):=λw' hb=>⟨X1,X2,X3,none,0,0,rfl,hX.over hb,c1a.nil _ _ _ _⟩
  have HEQ:Hid (((C0).set 17 (.slice none 0 0)).set 18 (.bool false)=u0a (.slice X1 X2 X3) (.slice none 0 0) ({ a with ents:=[],more:=false })):=by
   show _=_
   rw[HC0.o];simp only[L6c,s7c,hcl];try rfl
  obtain⟨b,hb⟩:∃x:O1a,x={ a with ents:=[],more:=false }:=⟨_,rfl⟩;rw[<-hb] at HI HEQ kb ⊢;obtain⟨D,hD⟩:=xX (u0a (.slice X1 X2 X3) (.slice none 0 0) b);rw[<-hD] at HI HEQ;clear hb hD hk ka hbe hnf;go_enter func118,ntmps118;go_wp2_with(first|(refine sN 3 ?_;refine d0a rfl _ (.tmp 1) rfl C0 rfl ?_;intro g w1 hg1 hg2 K1 L1)|(refine sT 10 ?_;refine f0a rfl _ (.tmp 10) (.const (.slice none 0 0)) rfl g 17 rfl _ C0 (.slice none 0 0) rfl K1 HL (by decide) (by kernel_rfl) rfl ?_;intro w2 C1 HC1 HL1 K2 O2 hq2;have L2:=hI (c0a L1.o O2.o hg1))|(refine sT 11 ?_;refine f0a rfl _ (.tmp 11) (.const (.bool false)) rfl g 18 rfl _ C1 (.bool false) rfl K2 HL1 (by decide) (by kernel_rfl) rfl ?_;intro w3 C2 HC2 HL2 K3 O3 hq3;have L3:=hI (c0a L2.o O3.o hg1))|(refine sN 24 ?_;refine e0a rfl _ (.tmp 3) rfl g rfl _ C2 K3 20 _ underlying39 rfl t0a HL2 ?_)|fail)
  have HF:Hid (C2=D):=by
   show _=_
   rw[HC2.o,HC1.o];exact HEQ.o
  rw[HF.o];refine(CP.o _ D b kb (HI.o _ L3.o)).mono ?_;rintro e v1 ⟨⟨v,er,rfl,her⟩,LQ⟩;have HER:=hI her;have L99:=hI (step L3.o LQ);clear her LQ;go_wp2;go_ret;exact⟨N0a HER.o,L99.o⟩
 ·subst h16;have hbe:k3a 16 a={ a with siz:=0,kind:=0,gone:=false }:=by unfold k3a;rw[if_neg (by decide),if_pos rfl]
  have hnf:Z3a 16 a=decide (k3a 16 a=n0a):=by unfold Z3a;rw[hk,Bool.true_and]
  rw[hnf,hbe];have kb:({ a with siz:=0,kind:=0,gone:=false }:O1a).ok:=⟨ka.dia,zb (by decide),ka.clen,ka.cbyte,ka.lev,ka.dur,ka.made,ka.file,zb (by decide),ka.data,ka.n,ka.ents⟩;have HI:Hid (∀w':World,BW w w'->s1a w' w'.heap.size (u0a (.slice X1 X2 X3) (.slice M1 M2 M3) ({ a with siz:=0,kind:=0,gone:=false })) ({ a with siz:=0,kind:=0,gone:=false })):=λw' hb=>⟨X1,X2,X3,M1,M2,M3,rfl,hX.over hb,hM.over hb⟩
  have HEQ:Hid ((((C0).set 1 (.int .u64 0)).set 14 (.int .u8 0)).set 19 (.bool false)=u0a (.slice X1 X2 X3) (.slice M1 M2 M3) ({ a with siz:=0,kind:=0,gone:=false })):=by
   show _=_
   rw[HC0.o];simp only[sc1,X6c,t7c,hcl];try rfl
  obtain⟨b,hb⟩:∃x:O1a,x={ a with siz:=0,kind:=0,gone:=false }:=⟨_,rfl⟩;rw[<-hb] at HI HEQ kb ⊢;obtain⟨D,hD⟩:=xX (u0a (.slice X1 X2 X3) (.slice M1 M2 M3) b);rw[<-hD] at HI HEQ;clear hb hD hk ka hbe hnf;go_enter func118,ntmps118;go_wp2_with(first|(refine sN 3 ?_;refine d0a rfl _ (.tmp 1) rfl C0 rfl ?_;intro g w1 hg1 hg2 K1 L1)|(refine sT 14 ?_;refine f0a rfl _ (.tmp 14) (.const (.int .u64 0)) rfl g 1 rfl _ C0 (.int .u64 0) rfl K1 HL (by decide) (by kernel_rfl) rfl ?_;intro w2 C1 HC1 HL1 K2 O2 hq2;have L2:=hI (c0a L1.o O2.o hg1))|(refine sT 15 ?_;refine f0a rfl _ (.tmp 15) (.const (.int .u8 0)) rfl g 14 rfl _ C1 (.int .u8 0) rfl K2 HL1 (by decide) (by kernel_rfl) rfl ?_;intro w3 C2 HC2 HL2 K3 O3 hq3;have L3:=hI (c0a L2.o O3.o hg1))|(refine sT 16 ?_;refine f0a rfl _ (.tmp 16) (.const (.bool false)) rfl g 19 rfl _ C2 (.bool false) rfl K3 HL2 (by decide) (by kernel_rfl) rfl ?_;intro w4 C3 HC3 HL3 K4 O4 hq4;have L4:=hI (c0a L3.o O4.o hg1))|(refine sN 24 ?_;refine e0a rfl _ (.tmp 3) rfl g rfl _ C3 K4 20 _ underlying39 rfl t0a HL3 ?_)|fail)
  have HF:Hid (C3=D):=by
   show _=_
   rw[HC3.o,HC2.o,HC1.o];exact HEQ.o
  rw[HF.o];refine(CP.o _ D b kb (HI.o _ L4.o)).mono ?_;rintro e v1 ⟨⟨v,er,rfl,her⟩,LQ⟩;have HER:=hI her;have L99:=hI (step L4.o LQ);clear her LQ;go_wp2;go_ret;exact⟨N0a HER.o,L99.o⟩
 ·subst h17;have hbe:k3a 17 a=a:=by unfold k3a;rw[if_neg (by decide),if_neg (by decide),if_neg (by decide)]
  have hnf:Z3a 17 a=decide (k3a 17 a=n0a):=by unfold Z3a;rw[hk,Bool.true_and]
  rw[hnf,hbe];have kb:(a:O1a).ok:=⟨ka.dia,ka.siz,ka.clen,ka.cbyte,ka.lev,ka.dur,ka.made,ka.file,ka.kind,ka.data,ka.n,ka.ents⟩;have HI:Hid (∀w':World,BW w w'->s1a w' w'.heap.size (u0a (.slice X1 X2 X3) (.slice M1 M2 M3) (a)) (a)):=λw' hb=>⟨X1,X2,X3,M1,M2,M3,rfl,hX.over hb,hM.over hb⟩
  have HEQ:Hid (C0=u0a (.slice X1 X2 X3) (.slice M1 M2 M3) (a)):=by
   show _=_
   exact HC0.o
  obtain⟨b,hb⟩:∃x:O1a,x=a:=⟨_,rfl⟩;rw[<-hb] at HI HEQ kb ⊢;obtain⟨D,hD⟩:=xX (u0a (.slice X1 X2 X3) (.slice M1 M2 M3) b);rw[<-hD] at HI HEQ;clear hb hD hk ka hbe hnf;go_enter func118,ntmps118;go_wp2_with(first|(refine sN 3 ?_;refine d0a rfl _ (.tmp 1) rfl C0 rfl ?_;intro g w1 hg1 hg2 K1 L1)|(refine sN 24 ?_;refine e0a rfl _ (.tmp 3) rfl g rfl _ C0 K1 20 _ underlying39 rfl t0a HL ?_)|fail)
  have HF:Hid (C0=D):=by
   show _=_
   exact HEQ.o
  rw[HF.o];refine(CP.o _ D b kb (HI.o _ L1.o)).mono ?_;rintro e v1 ⟨⟨v,er,rfl,her⟩,LQ⟩;have HER:=hI her;have L99:=hI (step L1.o LQ);clear her LQ;go_wp2;go_ret;exact⟨N0a HER.o,L99.o⟩
 ·subst h18;have hbe:k3a 18 a={ a with file:=0,lev:=0 }:=by unfold k3a;rw[if_neg (by decide),if_neg (by decide),if_pos rfl]
  have hnf:Z3a 18 a=decide (k3a 18 a=n0a):=by unfold Z3a;rw[hk,Bool.true_and]
  rw[hnf,hbe];have kb:({ a with file:=0,lev:=0 }:O1a).ok:=⟨ka.dia,ka.siz,ka.clen,ka.cbyte,zb (by decide),ka.dur,ka.made,zb (by decide),ka.kind,ka.data,ka.n,ka.ents⟩;have HI:Hid (∀w':World,BW w w'->s1a w' w'.heap.size (u0a (.slice X1 X2 X3) (.slice M1 M2 M3) ({ a with file:=0,lev:=0 })) ({ a with file:=0,lev:=0 })):=λw' hb=>⟨X1,X2,X3,M1,M2,M3,rfl,hX.over hb,hM.over hb⟩
  have HEQ:Hid (((C0).set 13 (.int .u64 0)).set 10 (.int .u8 0)=u0a (.slice X1 X2 X3) (.slice M1 M2 M3) ({ a with file:=0,lev:=0 })):=by
   show _=_
   rw[HC0.o];simp only[W6c,V6c,hcl];try rfl
  obtain⟨b,hb⟩:∃x:O1a,x={ a with file:=0,lev:=0 }:=⟨_,rfl⟩;rw[<-hb] at HI HEQ kb ⊢;obtain⟨D,hD⟩:=xX (u0a (.slice X1 X2 X3) (.slice M1 M2 M3) b);rw[<-hD] at HI HEQ;clear hb hD hk ka hbe hnf;go_enter func118,ntmps118;go_wp2_with(first|(refine sN 3 ?_;refine d0a rfl _ (.tmp 1) rfl C0 rfl ?_;intro g w1 hg1 hg2 K1 L1)|(refine sT 21 ?_;refine f0a rfl _ (.tmp 21) (.const (.int .u64 0)) rfl g 13 rfl _ C0 (.int .u64 0) rfl K1 HL (by decide) (by kernel_rfl) rfl ?_;intro w2 C1 HC1 HL1 K2 O2 hq2;have L2:=hI (c0a L1.o O2.o hg1))|(refine sT 22 ?_;refine f0a rfl _ (.tmp 22) (.const (.int .u8 0)) rfl g 10 rfl _ C1 (.int .u8 0) rfl K2 HL1 (by decide) (by kernel_rfl) rfl ?_;intro w3 C2 HC2 HL2 K3 O3 hq3;have L3:=hI (c0a L2.o O3.o hg1))|(refine sN 24 ?_;refine e0a rfl _ (.tmp 3) rfl g rfl _ C2 K3 20 _ underlying39 rfl t0a HL2 ?_)|fail)
  have HF:Hid (C2=D):=by
   show _=_
   rw[HC2.o,HC1.o];exact HEQ.o
  rw[HF.o];refine(CP.o _ D b kb (HI.o _ L3.o)).mono ?_;rintro e v1 ⟨⟨v,er,rfl,her⟩,LQ⟩;have HER:=hI her;have L99:=hI (step L3.o LQ);clear her LQ;go_wp2;go_ret;exact⟨N0a HER.o,L99.o⟩
def D6a(w:World)(c:Int)(a:O1a)(e:Ending)(w':World):Prop:=∃v,e=.returned (.tuple #[v,.int .i64 (c5a c a)])/\b1a .u8 5 w' w.heap.size v (M2b c a)/\BW w w'
theorem N7b(w:World)(c:Int)(cs:List Value)(a:O1a)(hc:0<=c/\c<=65535)(ka:a.ok)(ha:s1a w w.heap.size cs a)(hn:a.ents.length<=4398046511104/\∀e∈a.ents,e.name.size<=17592186044416)(hT:E8a w) :
  Calls prog 70 #[.int .u16 c,.agg cs.toArray] w (D6a w c a):=by
 have HL:=hI (ha.len ka);have HA:=hI ha;have HT:Hid (e8a w.heap.size w):=e8a.of hT;obtain⟨hn1,hn2⟩:=hn;have CN:Hid (∀w',BW w w'->Calls prog 118 #[.int .u16 c,.agg cs.toArray] w' λe w2=>e=.returned (.bool (Z3a c a))/\BW w' w2):=λw' hb=>h5b w' c cs a hc ka (HA.o.over hb)
 have CT:Hid (∀(w:World) (b:Bool),Calls prog 107 #[.bool b] w λe w'=>e=.returned (.int .u64 (e1a b))/\w=w'):=e4b;obtain⟨X1,X2,X3,M1,M2,M3,hcs,hX,hM⟩:=ha;have hml:=hM.len;have CC:Hid (∀w',BW w w'->Calls prog 119 #[.slice M1 M2 M3,.func (.func 120) #[] #[]] w' λe w2=>e=.returned (.bool (!a.ents.all G3a))/\BW w' w2):=λw' hb=>f5b w' M1 M2 M3 a.ents (hM.over hb) (by omega)
 have FL:Hid (∀(w:World) (g:Nat),Blk w g 39 cs->w.cell? ⟨g,17,none⟩=some (.slice M1 M2 M3)/\w.cell? ⟨g,18,none⟩=some (.bool a.more)/\w.cell? ⟨g,1,none⟩=some (.int .u64 a.siz)/\w.cell? ⟨g,14,none⟩=some (.int .u8 a.kind)/\w.cell? ⟨g,19,none⟩=some (.bool a.gone)/\w.cell? ⟨g,13,none⟩=some (.int .u64 a.file)/\w.cell? ⟨g,10,none⟩=some (.int .u8 a.lev)):=by rw[hcs];exact λw g h=>⟨h.at (D0a ka 7),h.at (D0a ka 8),h.at rfl,h.at (D0a ka 4),h.at (D0a ka 9),h.at (D0a ka 3),h.at (D0a ka 0)⟩
 have ZW:=hI q2c;have b1:=ka.siz;have b2:=ka.kind;have b3:=ka.file;have b5:=ka.lev
 have hents:=ka.ents;have HE:Hid (∀er,c5a c a=er->er≠0->∀(e:Ending) (w':World),e=.returned (.tuple #[.slice none 0 0,.int .i64 er])->BW w w'->D6a w c a e w'):=by intro er h0 h1 e w' h2 h3;refine⟨_,by rw[h0];exact h2,?_,h3⟩;unfold M2b;rw[h0,if_neg h1];exact b1a.nil _ _ _ _
 clear hcs HA hX;by_cases hnm:Z3a c a=true;rotate_left
 ·have hnf:Z3a c a=false:=by simpa using hnm
  have HQ:=hI (HE.o 2 (by unfold c5a;rw[if_neg (λh=>hnm h.1)]) (by decide));rw[hnf] at CN;clear hnm hnf hM ka hT hc CT ZW CC HE;go_enter func70,ntmps70;go_wp2_with(first|(refine sN 3 ?_;refine d0a rfl _ (.tmp 1) rfl cs rfl ?_;intro z w1 hz1 hz2 Z1 L1;obtain⟨c1,c2,c3,c4,c5,c6,c7⟩:=FL.o _ _ Z1.o)|(refine sN 8 ?_;refine e0a rfl _ (.tmp 3) rfl z rfl _ cs Z1 20 _ underlying39 rfl t0a HL ?_)|fail)
  refine(CN.o w1 L1.o).mono ?_;rintro e w2 ⟨rfl,L2⟩;have L22:=hI (step L1.o L2);clear L2;go_wp2;go_ret2;exact HQ.o _ _ rfl L22.o
 rw[hnm] at CN;by_cases hkd:a.kind<=2;rotate_left
 ·have HQ:=hI (HE.o 2 (by unfold c5a;rw[if_neg (λh=>hkd h.2.1)]) (by decide));have q1:(2:Int)<a.kind:=by omega
  clear hnm hM ka hT hc CT ZW CC HE hkd;go_enter func70,ntmps70;go_wp2_with(first|(refine sN 3 ?_;refine d0a rfl _ (.tmp 1) rfl cs rfl ?_;intro z w1 hz1 hz2 Z1 L1;obtain⟨c1,c2,c3,c4,c5,c6,c7⟩:=FL.o _ _ Z1.o)|(refine sN 8 ?_;refine e0a rfl _ (.tmp 3) rfl z rfl _ cs Z1 20 _ underlying39 rfl t0a HL ?_)|fail)
  refine(CN.o w1 L1.o).mono ?_;rintro e w2 ⟨rfl,L2⟩;obtain⟨d1,d2,d3,d4,d5,d6,d7⟩:=FL.o _ _ (Z1.o.over L2);have L22:=hI (step L1.o L2);clear L2;go_wp2;go_ret2;exact HQ.o _ _ rfl L22.o
 have q1:¬(2:Int)<a.kind:=by omega
 by_cases hall:a.ents.all G3a=true;rotate_left
 ·have HQ:=hI (HE.o 2 (by unfold c5a;rw[if_neg (λh=>hall h.2.2)]) (by decide));have hf:a.ents.all G3a=false:=by simpa using hall
  rw[hf] at CC;have CC1:Hid (∀w',BW w w'->Calls prog 119 #[.slice M1 M2 M3,.func (.func 120) #[] #[]] w' λe w2=>e=.returned (.bool true)/\BW w' w2):=CC.o;clear hnm hM ka hT hc CT ZW HE hall hf CC;go_enter func70,ntmps70;go_wp2_with(first|(refine sN 3 ?_;refine d0a rfl _ (.tmp 1) rfl cs rfl ?_;intro z w1 hz1 hz2 Z1 L1;obtain⟨c1,c2,c3,c4,c5,c6,c7⟩:=FL.o _ _ Z1.o)|(refine sN 8 ?_;refine e0a rfl _ (.tmp 3) rfl z rfl _ cs Z1 20 _ underlying39 rfl t0a HL ?_)|fail)
  refine(CN.o w1 L1.o).mono ?_;rintro e w2 ⟨rfl,L2⟩;obtain⟨d1,d2,d3,d4,d5,d6,d7⟩:=FL.o _ _ (Z1.o.over L2);have L22:=hI (step L1.o L2);clear L2;go_wp2_with fail;refine(CC1.o w2 L22.o).mono ?_;rintro e w3 ⟨rfl,L3⟩;have L33:=hI (step L22.o L3);clear L3;go_wp2;go_ret2;exact HQ.o _ _ rfl L33.o
 rw[hall] at CC;have CC1:Hid (∀w',BW w w'->Calls prog 119 #[.slice M1 M2 M3,.func (.func 120) #[] #[]] w' λe w2=>e=.returned (.bool false)/\BW w' w2):=CC.o;clear CC;by_cases hlen:a.ents.length<=64;rotate_left
 ·have HQ:=hI (HE.o 3 (by unfold c5a;rw[if_pos ⟨hnm,hkd,hall⟩,if_neg hlen]) (by decide));have q2:(64:Int)<(M2:Int):=by omega
  clear hnm hM ka hT hc CT ZW HE hall;go_enter func70,ntmps70;go_wp2_with(first|(refine sN 3 ?_;refine d0a rfl _ (.tmp 1) rfl cs rfl ?_;intro z w1 hz1 hz2 Z1 L1;obtain⟨c1,c2,c3,c4,c5,c6,c7⟩:=FL.o _ _ Z1.o)|(refine sN 8 ?_;refine e0a rfl _ (.tmp 3) rfl z rfl _ cs Z1 20 _ underlying39 rfl t0a HL ?_)|fail)
  refine(CN.o w1 L1.o).mono ?_;rintro e w2 ⟨rfl,L2⟩;obtain⟨d1,d2,d3,d4,d5,d6,d7⟩:=FL.o _ _ (Z1.o.over L2);have Z2:=hI (Z1.o.over L2);have L22:=hI (step L1.o L2);clear L2;go_wp2_with fail;refine(CC1.o w2 L22.o).mono ?_;rintro e w3 ⟨rfl,L3⟩;obtain⟨e1,e2,e3,e4,e5,e6,e7⟩:=FL.o _ _ (Z2.o.over L3);have L33:=hI (step L22.o L3);clear L3;go_wp2;go_ret2;exact HQ.o _ _ rfl L33.o
 have q2:¬(64:Int)<(M2:Int):=by omega
 have hml64:M2<=64:=by omega
 have hin:∀e∈a.ents,g5c e:=λe he=>⟨hents e he,List.all_eq_true.1 hall e he,hn2 e he⟩
 have hk:i6a c=true:=by unfold Z3a at hnm;simp only[Bool.and_eq_true] at hnm;exact hnm.1
 have hpos:Z3a c a=true/\a.kind<=2/\a.ents.all G3a=true:=⟨hnm,hkd,hall⟩;have hw1:IntKind.u64.wrap (M2:Int)=(M2:Int):=by rw[IntKind.wrap_u64];omega
 have hw2:IntKind.u64.wrap a.kind=a.kind:=by rw[IntKind.wrap_u64];omega
 obtain⟨b10,b11⟩:=b1;obtain⟨b20,b21⟩:=b2;obtain⟨b30,b31⟩:=b3;obtain⟨b50,b51⟩:=b5;have bf:0<=a.file/\a.file<=18446744073709551615:=⟨b30,b31⟩;have bs:0<=a.siz/\a.siz<=18446744073709551615:=⟨b10,b11⟩;have bk:0<=a.kind/\a.kind<=65535:=by omega
 have bl:0<=a.lev/\a.lev<=255:=⟨b50,b51⟩;have bn:0<=(M2:Int)/\(M2:Int)<=65535:=by omega
 have bo:0<=e1a a.more/\e1a a.more<=65535:=by have:=M9a a.more;omega
 have bg:0<=e1a a.gone/\e1a a.gone<=65535:=by have:=M9a a.gone;omega
 clear HE;go_enter func70,ntmps70;go_wp2_with(first|(refine sN 3 ?_;refine d0a rfl _ (.tmp 1) rfl cs rfl ?_;intro z w1 hz1 hz2 Z1 L1;obtain⟨c1,c2,c3,c4,c5,c6,c7⟩:=FL.o _ _ Z1.o)|(refine sN 8 ?_;refine e0a rfl _ (.tmp 3) rfl z rfl _ cs Z1 20 _ underlying39 rfl t0a HL ?_)|fail)
 refine(CN.o w1 L1.o).mono ?_;rintro e w2 ⟨rfl,L2⟩;obtain⟨d1,d2,d3,d4,d5,d6,d7⟩:=FL.o _ _ (Z1.o.over L2);have Z2:=hI (Z1.o.over L2);have L22:=hI (step L1.o L2);clear L2 Z1 L1 CN c1 c2 c3 c4 c5 c6 c7;go_wp2_with fail;refine(CC1.o w2 L22.o).mono ?_;rintro e w3 ⟨rfl,L3⟩;have Z3:=hI (Z2.o.over L3);have L33:=hI (step L22.o L3);have hzs:z<w3.heap.size:=Z3.o.lt;clear L3 Z2 L22 CC1 d1 d2 d3 d4 d5 d6 d7;have hws:=L33.o.size;obtain⟨f1,f2,f3,f4,f5,f6,f7⟩:=FL.o _ _ Z3.o;go_upto_if 26 with(first|(refine sN 6 ?_;refine b0a rfl _ rfl _ _ ZW ?_;intro g u0 hg1 hg2 G0 N0;have hzg:z≠g:=(by omega);have Z0:=hI (Z3.o.over N0.o);have K0:Hid (L1a g w.heap.size w u0):=(L1a.of_below (L33.o.trans (N0.o.mono hws)) (Nat.le_refl _));have V0:Hid (WI u0 g w.heap.size [] 0):=⟨by omega,_,G0.o,b1a.nil _ _ _ _⟩;clear f1 f2 f3 f4 f5 f6 f7;obtain⟨f1,f2,f3,f4,f5,f6,f7⟩:=FL.o _ _ Z0.o)|fail)
 rcases u4a hk with h14 | h16 | h17 | h18
 subst h14;have D1:=hI fun (w':World) (g:Nat) h=>v4a w' g w.heap.size ([]) (0) (M2:Int) h bn (by simp only[List.length_append,g0a,List.length_replicate,List.length_nil];omega)
 have D2:=hI fun (w':World) (g:Nat) h=>v4a w' g w.heap.size ([]++le (M2:Int) 2) (0) (e1a a.more) h bo (by simp only[List.length_append,g0a,List.length_replicate,List.length_nil];omega)
 have D3:Hid (∀(w':World) (g:Nat),BW w w'->e8a w.heap.size w'->WI w' g w.heap.size ([]++le (M2:Int) 2++le (e1a a.more) 2) (0)->Calls prog 121 #[.pointer (some ⟨g,0,none⟩),.slice M1 M2 M3] w' λe w2=>e=.returned (.tuple #[])/\WI w2 g w.heap.size ([]++le (M2:Int) 2++le (e1a a.more) 2++X0a a.ents) (w1a a.ents)/\L1a g w.heap.size w' w2):=λw' g hb ht h=>x6b w' g _ _ M1 M2 M3 a.ents h (hM.below hb) hml64 hin ht (by simp only[List.length_append,g0a,List.length_replicate,List.length_nil];omega)
 have DE:=hI fun (w':World) (g:Nat) h=>w4a w' g w.heap.size ([]++le (M2:Int) 2++le (e1a a.more) 2++X0a a.ents) (w1a a.ents) h
 have hbd:[]++le (M2:Int) 2++le (e1a a.more) 2++X0a a.ents=p3a 14 a:=by unfold p3a;rw[if_pos rfl,hml];simp only[List.nil_append,List.append_assoc]
 have her:c5a 14 a=(w1a a.ents):=by unfold c5a;rw[if_pos hpos,if_pos hlen,if_pos rfl]
 have HQ:Hid (∀(v:Value) (e:Ending) (w':World),e=.returned (.tuple #[v,.int .i64 (w1a a.ents)])->b1a .u8 5 w' w.heap.size v (if (w1a a.ents)=0 then []++le (M2:Int) 2++le (e1a a.more) 2++X0a a.ents else [])->BW w w'->D6a w 14 a e w'):=by intro v e w' h1 h2 h3;refine⟨v,by rw[her];exact h1,?_,h3⟩;unfold M2b;rw[her,<-hbd];exact h2
 obtain⟨y3,hy3⟩:∃y:List Int,y=[]++le (M2:Int) 2++le (e1a a.more) 2++X0a a.ents:=⟨_,rfl⟩;rw[<-hy3] at D3 DE HQ;obtain⟨y2,hy2⟩:∃y:List Int,y=[]++le (M2:Int) 2++le (e1a a.more) 2:=⟨_,rfl⟩;rw[<-hy2] at D2 D3;obtain⟨y1,hy1⟩:∃y:List Int,y=[]++le (M2:Int) 2:=⟨_,rfl⟩;rw[<-hy1] at D1 D2;obtain⟨er3,her3⟩:∃y:Int,y=(w1a a.ents):=⟨_,rfl⟩;try rw[<-her3] at D3
 try rw[<-her3] at DE
 try rw[<-her3] at HQ
 clear her3;clear hy1;clear hy2;clear hy3;clear hk hnm hpos hall hkd her hbd ka hT hc hin hents hn2;have F1:=hI (D1.o _ _ V0.o);go_wp2_with fail;refine F1.o.mono ?_;rintro e u1 ⟨rfl,p1,p2⟩;have V1:=hI p1;have K1:=hI (K0.o.trans p2);have Z1:=hI (p2.blk Z0.o (by decide) hzg);obtain⟨g1_1,g1_2,g1_3,g1_4,g1_5,g1_6,g1_7⟩:=FL.o _ _ Z1.o;clear p1 p2 F1 V0;go_wp2_with fail;refine(CT.o _ _).mono ?_;rintro e wt ⟨rfl,rfl⟩;have F2:=hI (D2.o _ _ V1.o);go_wp2_with fail;refine F2.o.mono ?_;rintro e u2 ⟨rfl,p1,p2⟩;have V2:=hI p1;have K2:=hI (K1.o.trans p2);have Z2:=hI (p2.blk Z1.o (by decide) hzg);obtain⟨g2_1,g2_2,g2_3,g2_4,g2_5,g2_6,g2_7⟩:=FL.o _ _ Z2.o;clear p1 p2 F2 V1;have F3:=hI (D3.o _ _ (K2.o.below) (HT.o.next K2.o.below) V2.o);go_wp2_with fail;refine F3.o.mono ?_;rintro e u3 ⟨rfl,p1,p2⟩;have Vz:=hI p1;have Kz:=hI (K2.o.trans p2);clear p1 p2 F3 V2;rotate_left;subst h16;have D1:=hI fun (w':World) (g:Nat) h=>R3a w' g w.heap.size ([]) (0) a.siz h bs (by simp only[List.length_append,g0a,List.length_replicate,List.length_nil];omega)
 have D2:=hI fun (w':World) (g:Nat) h=>v4a w' g w.heap.size ([]++le a.siz 8) (0) a.kind h bk (by simp only[List.length_append,g0a,List.length_replicate,List.length_nil];omega)
 have D3:=hI fun (w':World) (g:Nat) h=>v4a w' g w.heap.size ([]++le a.siz 8++le a.kind 2) (0) (e1a a.gone) h bg (by simp only[List.length_append,g0a,List.length_replicate,List.length_nil];omega)
 have DE:=hI fun (w':World) (g:Nat) h=>w4a w' g w.heap.size ([]++le a.siz 8++le a.kind 2++le (e1a a.gone) 2) 0 h
 have hbd:[]++le a.siz 8++le a.kind 2++le (e1a a.gone) 2=p3a 16 a:=by unfold p3a;rw[if_neg (by decide),if_pos rfl];simp only[List.nil_append,List.append_assoc]
 have her:c5a 16 a=0:=by unfold c5a;rw[if_pos hpos,if_pos hlen,if_neg (by decide)]
 have HQ:Hid (∀(v:Value) (e:Ending) (w':World),e=.returned (.tuple #[v,.int .i64 0])->b1a .u8 5 w' w.heap.size v (if 0=0 then []++le a.siz 8++le a.kind 2++le (e1a a.gone) 2 else [])->BW w w'->D6a w 16 a e w'):=by intro v e w' h1 h2 h3;refine⟨v,by rw[her];exact h1,?_,h3⟩;unfold M2b;rw[her,<-hbd];exact h2
 obtain⟨y3,hy3⟩:∃y:List Int,y=[]++le a.siz 8++le a.kind 2++le (e1a a.gone) 2:=⟨_,rfl⟩;rw[<-hy3] at D3 DE HQ;obtain⟨y2,hy2⟩:∃y:List Int,y=[]++le a.siz 8++le a.kind 2:=⟨_,rfl⟩;rw[<-hy2] at D2 D3;obtain⟨y1,hy1⟩:∃y:List Int,y=[]++le a.siz 8:=⟨_,rfl⟩;rw[<-hy1] at D1 D2;clear hy1;clear hy2;clear hy3;clear hk hnm hpos hall hkd her hbd ka hT hc hin hents hn2;have F1:=hI (D1.o _ _ V0.o);go_wp2_with fail;refine F1.o.mono ?_;rintro e u1 ⟨rfl,p1,p2⟩;have V1:=hI p1;have K1:=hI (K0.o.trans p2);have Z1:=hI (p2.blk Z0.o (by decide) hzg);obtain⟨g1_1,g1_2,g1_3,g1_4,g1_5,g1_6,g1_7⟩:=FL.o _ _ Z1.o;clear p1 p2 F1 V0;have F2:=hI (D2.o _ _ V1.o);go_wp2_with fail;refine F2.o.mono ?_;rintro e u2 ⟨rfl,p1,p2⟩;have V2:=hI p1;have K2:=hI (K1.o.trans p2);have Z2:=hI (p2.blk Z1.o (by decide) hzg);obtain⟨g2_1,g2_2,g2_3,g2_4,g2_5,g2_6,g2_7⟩:=FL.o _ _ Z2.o;clear p1 p2 F2 V1;go_wp2_with fail;refine(CT.o _ _).mono ?_;rintro e wt ⟨rfl,rfl⟩;have F3:=hI (D3.o _ _ V2.o);go_wp2_with fail;refine F3.o.mono ?_;rintro e u3 ⟨rfl,p1,p2⟩;have Vz:=hI p1;have Kz:=hI (K2.o.trans p2);clear p1 p2 F3 V2;rotate_left;subst h17;have D1:=hI fun (w':World) (g:Nat) h=>I5a w' g w.heap.size ([]) (0) 4 h (by decide) (by decide) (by simp only[List.length_append,g0a,List.length_replicate,List.length_nil];omega)
 have DE:=hI fun (w':World) (g:Nat) h=>w4a w' g w.heap.size ([]++List.replicate 4 0) 0 h
 have hbd:[]++List.replicate 4 0=p3a 17 a:=by unfold p3a;rw[if_neg (by decide),if_neg (by decide),if_neg (by decide),List.nil_append]
 have her:c5a 17 a=0:=by unfold c5a;rw[if_pos hpos,if_pos hlen,if_neg (by decide)]
 have HQ:Hid (∀(v:Value) (e:Ending) (w':World),e=.returned (.tuple #[v,.int .i64 0])->b1a .u8 5 w' w.heap.size v (if 0=0 then []++List.replicate 4 0 else [])->BW w w'->D6a w 17 a e w'):=by intro v e w' h1 h2 h3;refine⟨v,by rw[her];exact h1,?_,h3⟩;unfold M2b;rw[her,<-hbd];exact h2
 obtain⟨y1,hy1⟩:∃y:List Int,y=[]++List.replicate 4 0:=⟨_,rfl⟩;rw[<-hy1] at D1 DE HQ;clear hy1;clear hk hnm hpos hall hkd her hbd ka hT hc hin hents hn2;have F1:=hI (D1.o _ _ V0.o);go_wp2_with fail;refine F1.o.mono ?_;rintro e u1 ⟨rfl,p1,p2⟩;have Vz:=hI p1;have Kz:=hI (K0.o.trans p2);clear p1 p2 F1 V0;rotate_left;subst h18;have D1:=hI fun (w':World) (g:Nat) h=>f4b w' g w.heap.size ([]) (0) a.file a.lev h bf bl (by simp only[List.length_append,g0a,List.length_replicate,List.length_nil];omega)
 have DE:=hI fun (w':World) (g:Nat) h=>w4a w' g w.heap.size ([]++(le a.file 8++(le a.lev 1++List.replicate 3 0))) 0 h
 have hbd:[]++(le a.file 8++(le a.lev 1++List.replicate 3 0))=p3a 18 a:=by unfold p3a;rw[if_neg (by decide),if_neg (by decide),if_pos rfl,List.nil_append]
 have her:c5a 18 a=0:=by unfold c5a;rw[if_pos hpos,if_pos hlen,if_neg (by decide)]
 have HQ:Hid (∀(v:Value) (e:Ending) (w':World),e=.returned (.tuple #[v,.int .i64 0])->b1a .u8 5 w' w.heap.size v (if 0=0 then []++(le a.file 8++(le a.lev 1++List.replicate 3 0)) else [])->BW w w'->D6a w 18 a e w'):=by intro v e w' h1 h2 h3;refine⟨v,by rw[her];exact h1,?_,h3⟩;unfold M2b;rw[her,<-hbd];exact h2
 obtain⟨y1,hy1⟩:∃y:List Int,y=[]++(le a.file 8++(le a.lev 1++List.replicate 3 0)):=⟨_,rfl⟩;rw[<-hy1] at D1 DE HQ;clear hy1;clear hk hnm hpos hall hkd her hbd ka hT hc hin hents hn2;have F1:=hI (D1.o _ _ V0.o);go_wp2_with fail;refine F1.o.mono ?_;rintro e u1 ⟨rfl,p1,p2⟩;have Vz:=hI p1;have Kz:=hI (K0.o.trans p2);clear p1 p2 F1 V0;rotate_left;all_goals
  have FE:=hI (DE.o _ _ Vz.o);go_wp2_with fail;refine FE.o.mono ?_;rintro e ue ⟨v,rfl,p1,p2⟩;have OE:=hI p1;have LE:=hI (Kz.o.below.trans (p2.mono (by have:=Kz.o.below.size;omega)));clear p1 p2 FE;go_wp2;go_ret2;exact HQ.o _ _ _ rfl OE.o LE.o
end Go.Proofs.YtjpcifmeimcikaaGreatDoor
