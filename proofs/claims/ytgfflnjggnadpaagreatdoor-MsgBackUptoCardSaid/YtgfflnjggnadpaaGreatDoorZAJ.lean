import Derived.Test.YtgfflnjggnadpaaGreatDoorZAI
import Derived.Test.YtgfflnjggnadpaaGreatDoorS0
set_option linter.all false
set_option maxHeartbeats 8000000
set_option maxRecDepth 100000
namespace Go.Proofs.YtgfflnjggnadpaaGreatDoor
set_option maxRecDepth 100000
theorem n4a(h:Hd)(r:List Int)(j:Nat)(hj:j<11)(h0:0<=(h9a h).getD j 0)(h1:(h9a h).getD j 0<256^szs.getD j 0):Z0a (pre h 11++r) (N6a.getD j 0) (szs.getD j 0)=(h9a h).getD j 0:=by
 have h3:∀m k,k+m=11->∃r,pre h 11=pre h k++r:=by
  intro m
  induction m with
  | zero=>intro k hk;exact⟨[],by rw[List.append_nil,show k=11 from by omega]⟩
  | succ m ih=>intro k hk;obtain⟨r,hr⟩:=ih (k+1) (by omega);exact⟨_,by rw[hr,pre,List.append_assoc]⟩
 obtain⟨q,hq⟩:=h3 (11-(j+1)) (j+1) (by omega);unfold Z0a;rw[hq,pre,List.append_assoc,List.append_assoc,List.drop_left' (g6a h j (by omega)),List.take_left' (g0a _ _),v7b _ _ h0 h1]
theorem Q1b{h:Hd}(k:h.ok)(hm:r0b h=true):F1a (e6a h)=h:=by
 have ab:=B7a k;have e2:(256:Int)^2=65536:=by decide
 have e4:(256:Int)^4=4294967296:=by decide
 have e8:(256:Int)^8=18446744073709551616:=by decide
 have a6:Z0a (e6a h) 6 2=h.ch:=n4a h h.sg 2 (by omega) k.ch.1 (by show h.ch<256^2;have:=k.ch;omega);have a8:Z0a (e6a h) 8 4=h.st:=n4a h h.sg 3 (by omega) k.st.1 (by show h.st<256^4;have:=k.st;omega);have a12:Z0a (e6a h) 12 2=h.cm:=n4a h h.sg 4 (by omega) k.cm.1 (by show h.cm<256^2;have:=k.cm;omega);have a14:Z0a (e6a h) 14 2=h.cr:=n4a h h.sg 5 (by omega) k.cr.1 (by show h.cr<256^2;have:=k.cr;omega);have a16:Z0a (e6a h) 16 4=h.fl:=n4a h h.sg 6 (by omega) k.fl.1 (by show h.fl<256^4;have:=k.fl;omega);have a20:Z0a (e6a h) 20 4=h.nx:=n4a h h.sg 7 (by omega) k.nx.1 (by show h.nx<256^4;have:=k.nx;omega);have a24:Z0a (e6a h) 24 8=h.id:=n4a h h.sg 8 (by omega) k.id.1 (by show h.id<256^8;have:=k.id;omega);have a32:Z0a (e6a h) 32 8=aot h:=n4a h h.sg 9 (by omega) ab.1 (by show aot h<256^8;omega);have a40:Z0a (e6a h) 40 8=h.se:=n4a h h.sg 10 (by omega) k.se.1 (by show h.se<256^8;have:=k.se;omega);have asg:((e6a h).drop 48).take 16=h.sg:=by unfold e6a;rw[List.drop_left' (by rw[g6a h 11 (by omega)];rfl),List.take_of_length_le (by rw[k.len];omega)]
 rw[M5a,a6,a8,a12,a14,a16,a20,a24,a32,a40,asg];unfold r0b at hm;simp only[Bool.and_eq_true,decide_eq_true_eq] at hm;obtain⟨_,_,hm⟩:=hm;obtain⟨ch,st,cm,cr,fl,nx,id,asy,tr,se,sg⟩:=h;unfold aot;have ht:=k.tr;dsimp only at hm ht⊢;by_cases hi:d6a fl=true
 ·simp only[hi,if_true,decide_eq_true_eq] at hm⊢;rw[hm]
 ·simp only[hi,Bool.false_eq_true,if_false,decide_eq_true_eq] at hm⊢;rw[hm,show tr*4294967296/4294967296=tr from by omega]
theorem h9b{h:Hd}(k:h.ok)(hm:r0b h=true):p6b (e6a h)=true:=by unfold p6b;rw[Q1b k hm,hm,<-G3b _ (K5a k.byte) (b4a k.len),Q1b k hm];simp
theorem get_put{h:Hd}(k:h.ok)(hm:r0b h=true)(x z:List Int):m2a (x++e6a h++z) x.length=0/\l2a (x++e6a h++z) x.length=h:=by
 have hl:=b4a k.len;have hp:R0a (x++e6a h++z).length x.length 64=0:=by unfold R0a;rw[if_neg (by simp;omega),if_neg (by simp;omega)]
 have hd:((x++e6a h++z).drop (Int.toNat x.length)).take 64=e6a h:=by rw[Int.toNat_natCast,List.append_assoc,List.drop_left,List.take_left' hl]
 have he:m2a (x++e6a h++z) x.length=0:=by unfold m2a;rw[if_pos hp,hd,h9b k hm,if_pos rfl]
 refine⟨he,?_⟩;unfold l2a;rw[if_pos he,hd,Q1b k hm]
open Go.Lib
theorem i9b(l:List UInt8)(hne:l≠[]):l.take (decodeL l).2=enc (P6a l):=by
 unfold enc;rcases C7a l hne with⟨h0,h1,h2⟩ | ⟨_,h0,h1,h2⟩
 ·rw[h1,if_neg h2.lt,encode_decode l hne h0]
 ·rw[h1,if_pos (by omega),h0,takeA l (List.length_pos_iff.2 hne)];rw[toByte _ (l.getD 0 0) (by omega)]
theorem D5b(l:List UInt8):(E1a l).flatMap enc=l:=by
 induction l using i6a with
 | h0=>rfl
 | h1 l hne ih=>rw[p3a l hne,List.flatMap_cons,ih,<-i9b l hne,List.take_append_drop]
open Go.RowKit
theorem j9b(pre:List Int)(r:Int)(hr:C1a r)(post:List Int):P2a (pre++(p2a r++post)) pre.length=(r,(p2a r).length):=by
 obtain⟨h0,h1,h2⟩:=hr;have g:∀(ys:List Int) i,(pre++ys).getD (pre.length+i) 0=ys.getD i 0:=λys i=>by rw[List.getD_eq_getElem?_getD,List.getElem?_append_right (by omega),Nat.add_sub_cancel_left,List.getD_eq_getElem?_getD]
 have g0:∀(ys:List Int),(pre++ys).getD pre.length 0=ys.getD 0 0:=λys=>g ys 0
 unfold P2a O2a;rw[g0,g,Nat.add_assoc,g,g,List.length_append];unfold p2a;by_cases c:r<65536
 ·rw[if_pos c];simp only[List.cons_append,List.nil_append,List.length_cons,List.length_nil,List.getD_cons_zero,List.getD_cons_succ];rw[if_neg (by omega),if_neg (by omega),if_pos (by omega)];exact Prod.ext (by dsimp only;omega) rfl
 ·rw[if_neg c];simp only[List.cons_append,List.nil_append,List.length_cons,List.length_nil,List.getD_cons_zero,List.getD_cons_succ];rw[if_neg (by omega),if_neg (by omega),if_neg (by omega),if_neg (by omega),if_pos (by omega)];exact Prod.ext (by dsimp only;omega) rfl
theorem m6b:∀(rs:List Int) (_:∀r∈rs,C1a r) (pre:List Int) (_:Bytes pre),H7b (pre++f2a rs) pre.length=some rs
 | [],_,pre,_=>by rw[a3b (by simp[f2a])]
 | r::rs,h,pre,hp=>by
  have hr:=h r List.mem_cons_self;have hrs:∀x∈rs,C1a x:=λx hx=>h x (List.mem_cons_of_mem _ hx)
  have e:f2a (r::rs)=p2a r++f2a rs:=by simp[f2a]
  have hpos:2<=(p2a r).length:=by unfold p2a;split<;>simp
  have hb:Bytes (pre++f2a (r::rs)):=hp.append (v8a h);rw[Q0b hb (by rw[e];simp;omega),e,j9b pre r hr];dsimp only;rw[if_neg (by omega),<-List.append_assoc];have:=m6b rs hrs (pre++p2a r) (hp.append (U7a hr));rw[List.length_append] at this;rw[this];rfl
theorem v0c{rs:List Int}(h:∀r∈rs,C1a r):s7b (f2a rs)=some rs:=m6b rs h [] Bytes.nil
theorem E5b{l:List UInt8}(h:H3a l=true):P3a (S1a l)=l/\J4a (S1a l)=0:=by
 have e:s7b (S1a l)=some (E1a l):=by unfold S1a;rw[if_pos h];exact v0c (T7a h)
 unfold P3a J4a;rw[e];exact⟨D5b l,rfl⟩
theorem n6b(pre post:List Int)(v:Int)(s:Nat)(h0:0<=v)(h1:v<256^s):Z0a (pre++(le v s++post)) pre.length s=v:=by unfold Z0a;rw[List.drop_left,List.take_left' (g0a v s)];exact v7b v s h0 h1
theorem D4b(pre post:List Int)(v:Int)(s:Nat)(h0:0<=v)(h1:v<256^s):rdN (pre++(le v s++post)) s ⟨pre.length,0⟩=(v,⟨pre.length+s,0⟩):=by unfold rdN;rw[if_pos rfl,if_neg (by simp only[List.length_append,g0a];omega),n6b pre post v s h0 h1]
theorem I4a(pre ys post:List Int)(m:Nat)(hm:ys.length=m):v0a (pre++(ys++post)) m ⟨pre.length,0⟩=(ys,⟨pre.length+m,0⟩):=by unfold v0a;rw[if_pos rfl,if_neg (by simp only[List.length_append];omega),List.drop_left,List.take_left' hm]
theorem k9b(pre post ds:List Int)(hd:∀x∈ds,0<=x/\x<=65535):∀k,k<=ds.length->D2a (pre++(u1a ds++post)) ⟨pre.length,0⟩ k=(ds.take k,⟨pre.length+2*k,0⟩):=by
 intro k
 induction k with
 | zero=>intro _;rfl
 | succ k ih=>
  intro hk;have ih':=ih (by omega);simp only[D2a,ih'];have hx:=hd ds[k] (List.getElem_mem (by omega));have e:pre++(u1a ds++post)=(pre++u1a (ds.take k))++(le ds[k] 2++(u1a (ds.drop (k+1))++post)):=by
   have e1:ds=ds.take k++ds[k]::ds.drop (k+1):=by rw[<-List.drop_eq_getElem_cons (by omega),List.take_append_drop]
   have e2:u1a ds=u1a (ds.take k)++(le ds[k] 2++u1a (ds.drop (k+1))):=by
    have h1:u1a (ds.take k++ds[k]::ds.drop (k+1))=u1a (ds.take k)++(le ds[k] 2++u1a (ds.drop (k+1))):=by unfold u1a;rw[List.flatMap_append,List.flatMap_cons]
    exact(congrArg u1a e1).trans h1
   rw[e2];simp only[List.append_assoc]
  have hl:(pre++u1a (ds.take k)).length=pre.length+2*k:=by rw[List.length_append,t4a,List.length_take];omega
  have h:=D4b (pre++u1a (ds.take k)) (u1a (ds.drop (k+1))++post) ds[k] 2 hx.1 (by show ds[k]<256^2;rw[show(256:Int)^2=65536 from by decide];omega);rw[<-e,hl] at h;rw[h,List.take_add_one,List.getElem?_eq_getElem (by omega),Option.toList_some];rfl
theorem H1c(pre ys post:List Int)(hy:ys.length<=512):W1a (pre++(le ys.length 2++(ys++post))) pre.length 512=0/\a2a (pre++(le ys.length 2++(ys++post))) pre.length 512=ys/\B3a (pre++(le ys.length 2++(ys++post))) pre.length 512=pre.length+2+ys.length:=by
 have hr:W9a (pre++(le ys.length 2++(ys++post))) (pre.length:Int)=ys.length:=by unfold W9a;rw[Int.toNat_natCast];exact n6b pre (ys++post) ys.length 2 (by omega) (by rw[show(256:Int)^2=65536 from by decide];omega)
 have h0:W1a (pre++(le ys.length 2++(ys++post))) pre.length 512=0:=by unfold W1a;rw[hr,if_neg (by simp only[List.length_append,g0a];omega),if_neg (by simp only[List.length_append,g0a];omega),if_neg (by omega),if_neg (by simp only[List.length_append,g0a];omega)]
 refine⟨h0,?_,?_⟩
 ·unfold a2a;rw[h0,if_pos rfl,hr,Int.toNat_natCast,Int.toNat_natCast,<-List.drop_drop,List.drop_left,List.drop_left' (g0a _ _),List.take_left' rfl]
 ·unfold B3a;rw[h0,if_pos rfl,hr]
theorem B9a(pre post:List Int){l:List UInt8}(h:y0a l=0):P0a (pre++(A0a l++post)) ⟨pre.length,0⟩=(l,⟨pre.length+(A0a l).length,0⟩):=by
 obtain⟨h1,h2,h3⟩:=s1b h;obtain⟨g1,g2,g3⟩:=H1c pre (S1a l) post h2;obtain⟨t1,t2⟩:=E5b h1;rw[h3,List.append_assoc];have e1:Y0a (pre++(le (S1a l).length 2++(S1a l++post))) pre.length=0:=by unfold Y0a;rw[if_pos g1,g2,t2]
 unfold P0a X1a a1a;rw[if_pos rfl];show(if Y0a (pre++(le (S1a l).length 2++(S1a l++post))) (pre.length:Nat)=0 then _ else _,_)=_
 rw[e1,if_pos rfl,if_pos rfl,g2,t1,g3,List.length_append,g0a];have e2:((pre.length:Int)+2+((S1a l).length:Nat)).toNat=pre.length+(2+(S1a l).length):=by omega
 rw[e2]
theorem l9b(c:Int)(a:m1a)(ka:a.ok)(he:k1a c a=0)(post:List Int):(i7a c (H2a c a++post)).2=⟨(H2a c a).length,0⟩/\(i7a c (H2a c a++post)).1=a/\U0a c=true:=by
 have h0:=he;unfold k1a at he;by_cases hk:U0a c=true/\c1a c a=i0a;rotate_left
 ·rw[if_neg hk] at he;exact absurd he (by decide)
 rw[if_pos hk] at he;obtain⟨hk,hb⟩:=hk;unfold H2a i7a;rw[if_pos h0];by_cases c0:c=0
 ·rw[if_pos c0] at he;simp only[if_pos c0];have hd:a.dial.length<=16:=by
   by_cases hd:a.dial.length<=16
   ·exact hd
   ·rw[if_neg hd] at he;exact absurd he (by decide)
  have e1:r3a a++post=[]++(le a.dial.length 2++(u1a a.dial++(a.guid++post))):=by unfold r3a;simp only[List.append_assoc,List.nil_append]
  have r1:rdN (r3a a++post) 2 rd0=((a.dial.length:Int),⟨2,0⟩):=by rw[e1];exact D4b [] _ _ 2 (by omega) (by rw[show(256:Int)^2=65536 from by decide];omega)
  have e2:r3a a++post=le a.dial.length 2++(u1a a.dial++(a.guid++post)):=by rw[e1,List.nil_append]
  have r2:v1a (r3a a++post) rd0=(a.dial,⟨2+2*a.dial.length,0⟩):=by
   unfold v1a;rw[r1,if_neg (by omega)];show D2a _ ⟨2,0⟩ (a.dial.length:Int).toNat=_
   rw[Int.toNat_natCast,e2];have h:=k9b (le a.dial.length 2) (a.guid++post) a.dial ka.dial a.dial.length (Nat.le_refl _);rw[g0a] at h;rw[h,List.take_of_length_le (Nat.le_refl _)]
  have e3:r3a a++post=(le a.dial.length 2++u1a a.dial)++(a.guid++post):=by rw[e2,List.append_assoc]
  have r3:v0a (r3a a++post) 16 ⟨2+2*a.dial.length,0⟩=(a.guid,⟨2+2*a.dial.length+16,0⟩):=by have h:=I4a (le a.dial.length 2++u1a a.dial) a.guid post 16 ka.glen;rw[List.length_append,g0a,t4a,<-e3] at h;exact h
  have el:(r3a a).length=2+2*a.dial.length+16:=by unfold r3a;rw[List.length_append,List.length_append,g0a,t4a,ka.glen]
  rw[r2];simp only[];rw[r3,el];refine⟨rfl,?_,hk⟩;unfold c1a at hb;rw[if_pos c0] at hb;cases a;simp only[i0a,m1a.mk.injEq,true_and] at hb⊢;obtain⟨q3,q4,q5,q6,q7,q8,q9,q10,q11,q12,q13,q14,q15,q16,q17,q18,q19,q20,q21,q22,q23⟩:=hb
  subst_vars
  simp
 ·rw[if_neg c0] at he;simp only[if_neg c0];by_cases c1:c=1
  ·rw[if_pos c1] at he;simp only[if_pos c1];have e1:a.proof++A0a a.user.data.toList++post=[]++(a.proof++(A0a a.user.data.toList++post)):=by simp only[List.append_assoc,List.nil_append]
   have r1:v0a (a.proof++A0a a.user.data.toList++post) 32 rd0=(a.proof,⟨32,0⟩):=by rw[e1];have h:=I4a [] a.proof (A0a a.user.data.toList++post) 32 ka.plen;rw[List.length_nil,Nat.zero_add] at h;exact h
   have r2:P0a (a.proof++A0a a.user.data.toList++post) ⟨32,0⟩=(a.user.data.toList,⟨32+(A0a a.user.data.toList).length,0⟩):=by have h:=B9a a.proof post he;rw[ka.plen,<-List.append_assoc] at h;exact h
   rw[r1];simp only[];rw[r2,List.length_append,ka.plen];refine⟨rfl,?_,hk⟩;unfold c1a at hb;rw[if_neg c0,if_pos c1] at hb;cases a;simp only[i0a,m1a.mk.injEq,true_and] at hb⊢;obtain⟨q3,q4,q5,q6,q7,q8,q9,q10,q11,q12,q13,q14,q15,q16,q17,q18,q19,q20,q21,q22,q23⟩:=hb
   subst_vars
   simp
  ·rw[if_neg c1] at he;simp only[if_neg c1];by_cases c3:c=3
   ·rw[if_pos c3] at he;simp only[if_pos c3];have r2:P0a (A0a a.share.data.toList++post) rd0=(a.share.data.toList,⟨(A0a a.share.data.toList).length,0⟩):=by have h:=B9a [] post he;rw[List.length_nil,Nat.zero_add,List.nil_append] at h;exact h
    rw[r2];refine⟨rfl,?_,hk⟩;unfold c1a at hb;rw[if_neg c0,if_neg c1,if_pos c3] at hb;cases a;simp only[i0a,m1a.mk.injEq,true_and] at hb⊢;obtain⟨q2,q3,q4,q5,q6,q7,q8,q9,q10,q11,q12,q13,q14,q15,q16,q17,q18,q19,q20,q21,q22,q23⟩:=hb
    subst_vars
    simp
   ·simp only[if_neg c3];unfold c1a at hb;rw[if_neg c0,if_neg c1,if_neg c3] at hb;refine⟨?_,hb.symm,hk⟩;have r1:v0a (List.replicate 4 0++post) 4 rd0=(List.replicate 4 0,⟨4,0⟩):=by have h:=I4a [] (List.replicate 4 0) post 4 (by simp);rw[List.length_nil,Nat.zero_add,List.nil_append] at h;exact h
    unfold rdZ;rw[r1];simp only[];rw[if_pos trivial,if_pos (by decide),List.length_replicate]
theorem m9b(c:Int)(a:m1a)(ka:a.ok)(he:k1a c a=0):A2a c (H2a c a)=0/\B2a c (H2a c a)=a:=by
 obtain⟨h1,h2,h3⟩:=l9b c a ka he [];rw[List.append_nil] at h1 h2;have e:A2a c (H2a c a)=0:=by unfold A2a H0a;rw[if_pos h3,h1,if_neg (λh=>h.2 rfl)]
 exact⟨e,by unfold B2a;rw[if_pos e,h2]⟩
theorem n9b(c:Int)(a:m1a)(ka:a.ok)(he:k1a c a=0)(more:List Int)(hm:more≠[]):A2a c (H2a c a++more)=5:=by obtain⟨h1,h2,h3⟩:=l9b c a ka he more;unfold A2a H0a;rw[if_pos h3,h1,if_pos ⟨rfl,by have:=List.length_pos_iff.2 hm;simp only[List.length_append];omega⟩]
theorem o9b(c:Int)(s:M1a)(ks:s.ok)(he:z1a c s=0)(post:List Int):(L8a c (L2a c s++post)).2=⟨(L2a c s).length,0⟩/\(L8a c (L2a c s++post)).1=s/\U0a c=true:=by
 have h0:=he;unfold z1a at he;by_cases hk:U0a c=true/\o1a c s=q0a/\(c=0->s.siz<4294967296);rotate_left
 ·rw[if_neg hk] at he;exact absurd he (by decide)
 obtain⟨hk,hb,hz⟩:=hk;have key:(L8a c (L2a c s++post)).2=⟨(L2a c s).length,0⟩/\(L8a c (L2a c s++post)).1=s:=by
  unfold L2a L8a;rw[if_pos h0];by_cases c0:c=0
  ·simp only[if_pos c0];have hs:=hz c0;have r1:rdN (le s.dia 2++List.replicate 2 0++le s.siz 4++s.chal++post) 2 rd0=(s.dia,⟨2,0⟩):=by have h:=D4b [] (List.replicate 2 0++(le s.siz 4++(s.chal++post))) s.dia 2 ks.dia.1 (by rw[show(256:Int)^2=65536 from by decide];have:=ks.dia;omega);simp only[List.nil_append,List.length_nil,Nat.zero_add] at h;simp only[List.append_assoc];exact h
   have r2:v0a (le s.dia 2++List.replicate 2 0++le s.siz 4++s.chal++post) 2 ⟨2,0⟩=(List.replicate 2 0,⟨4,0⟩):=by have h:=I4a (le s.dia 2) (List.replicate 2 0) (le s.siz 4++(s.chal++post)) 2 (by simp);rw[g0a] at h;simpa only[List.append_assoc] using h
   have r2':rdZ (le s.dia 2++List.replicate 2 0++le s.siz 4++s.chal++post) 2 ⟨2,0⟩=⟨4,0⟩:=by unfold rdZ;rw[r2];simp only[];rw[if_pos trivial,if_pos (by decide)]
   have r3:rdN (le s.dia 2++List.replicate 2 0++le s.siz 4++s.chal++post) 4 ⟨4,0⟩=(s.siz,⟨8,0⟩):=by have h:=D4b (le s.dia 2++List.replicate 2 0) (s.chal++post) s.siz 4 ks.siz.1 (by rw[show(256:Int)^4=4294967296 from by decide];exact hs);rw[List.length_append,g0a,List.length_replicate] at h;simpa only[List.append_assoc] using h
   have r4:v0a (le s.dia 2++List.replicate 2 0++le s.siz 4++s.chal++post) 8 ⟨8,0⟩=(s.chal,⟨16,0⟩):=by have h:=I4a (le s.dia 2++List.replicate 2 0++le s.siz 4) s.chal post 8 ks.clen;rw[List.length_append,List.length_append,g0a,g0a,List.length_replicate] at h;simpa only[List.append_assoc] using h
   rw[r1];simp only[];rw[r2',r3];simp only[];rw[r4];refine⟨by simp only[List.length_append,g0a,List.length_replicate,ks.clen],?_⟩;unfold o1a at hb;rw[if_pos c0] at hb;cases s;simp only[q0a,M1a.mk.injEq,true_and] at hb⊢;obtain⟨q4,q5,q6,q7,q8,q9,q10,q11,q12,q13⟩:=hb
   subst_vars
   simp
  ·simp only[if_neg c0];unfold o1a at hb;rw[if_neg c0] at hb;refine⟨?_,hb.symm⟩;have r1:v0a (List.replicate 4 0++post) 4 rd0=(List.replicate 4 0,⟨4,0⟩):=by have h:=I4a [] (List.replicate 4 0) post 4 (by simp);rw[List.length_nil,Nat.zero_add,List.nil_append] at h;exact h
   unfold rdZ;rw[r1];simp only[];rw[if_pos trivial,if_pos (by decide),List.length_replicate]
 exact⟨key.1,key.2,hk⟩
theorem p9b(c:Int)(s:M1a)(ks:s.ok)(he:z1a c s=0):t3a c (L2a c s)=0/\K3a c (L2a c s)=s:=by
 obtain⟨h1,h2,h3⟩:=o9b c s ks he [];rw[List.append_nil] at h1 h2;have e:t3a c (L2a c s)=0:=by unfold t3a H0a;rw[if_pos h3,h1,if_neg (λh=>h.2 rfl)]
 exact⟨e,by unfold K3a;rw[if_pos e,h2]⟩
theorem q9b(c:Int)(s:M1a)(ks:s.ok)(he:z1a c s=0)(more:List Int)(hm:more≠[]):t3a c (L2a c s++more)=5:=by obtain⟨h1,h2,h3⟩:=o9b c s ks he more;unfold t3a H0a;rw[if_pos h3,h1,if_pos ⟨rfl,by have:=List.length_pos_iff.2 hm;simp only[List.length_append];omega⟩]
theorem l7b{xs:List Int}{r:Rd}(h:(P0a xs r).2.e=0):L1a xs r=P0a xs r:=by
 refine(v2b ?_).symm;unfold P0a at h;unfold L1a;by_cases he:r.e=0
 ·rw[if_pos he] at h⊢;exact h
 ·rw[if_neg he] at h⊢;exact h
theorem p1a{xs pre post:List Int}{v:Int}{s p:Nat}(M:Int)(hM:(256:Int)^s=M)(hx:xs=pre++(le v s++post))(hp:pre.length=p)(h0:0<=v)(h1:v<M):rdN xs s ⟨p,0⟩=(v,⟨p+s,0⟩):=by subst hx hp;exact D4b pre post v s h0 (by rw[hM];exact h1)
theorem E4b(m:Nat):zeroOf (List.replicate m 0) 0 (m:Int)=true:=by
 have h0:R0a m 0 (m:Int)=0:=by unfold R0a;rw[if_neg (by omega),if_neg (by omega)]
 unfold zeroOf partOf;rw[List.length_replicate,h0,if_pos rfl,show Int.toNat 0=0 from rfl,List.drop_zero,Int.toNat_natCast,List.take_of_length_le (by simp)];simp
theorem w4a{xs pre post:List Int}{m p:Nat}(hx:xs=pre++(List.replicate m 0++post))(hp:pre.length=p):rdZ xs m ⟨p,0⟩=⟨p+m,0⟩:=by
 subst hx hp;have h:=I4a pre (List.replicate m 0) post m (by simp);unfold rdZ;rw[h];show(if (0:Int)=0 then (if zeroOf (List.replicate m 0) 0 (m:Int)=true then _ else _) else _)=_
 rw[if_pos rfl,if_pos (E4b m)]
theorem b6a{xs pre post:List Int}{l:List UInt8}{p:Nat}(hx:xs=pre++(A0a l++post))(hp:pre.length=p)(h:y0a l=0):L1a xs ⟨p,0⟩=(l,⟨p+(A0a l).length,0⟩):=by subst hx hp;have h1:=B9a pre post h;rw[l7b (by rw[h1]),h1]
theorem c6a{xs:List Int}{s:Nat}{most er:Int}{r:Rd}{v:Int}{q:Rd}(h:rdN xs s r=(v,q))(hv:v<=most):b1a xs s most er r=(v,q):=by unfold b1a;rw[h,if_neg (λh2=>by have h3:most<v:=h2.2;omega)]
theorem r9b{xs:List Int}{most:Int}{r:Rd}{v:Int}{q:Rd}(h:rdN xs 2 r=(v,q))(hv:v<=most):s9a xs most r=(v,q):=by unfold s9a;rw[h,if_neg (λh2=>by have h3:most<v:=h2.2;omega)]
theorem P2b{xs pre post ys:List Int}{p:Nat}(hx:xs=pre++(le ys.length 4++(ys++post)))(hp:pre.length=p)(hl:ys.length<=32768):X3a xs ⟨p,0⟩=(ys,⟨p+4+ys.length,0⟩):=by
 have h1:=p1a (xs:=xs) (pre:=pre) (post:=ys++post) (v:=ys.length) (s:=4) (p:=p) 4294967296 (by decide) hx hp (by omega) (by omega);unfold X3a;rw[c6a h1 (by omega)];show v0a xs ((ys.length:Int)).toNat ⟨p+4,0⟩=_
 rw[Int.toNat_natCast];have h2:=I4a (pre++le ys.length 4) ys post ys.length rfl;rw[List.append_assoc,<-hx,List.length_append,g0a,hp] at h2;exact h2
theorem m7b{xs pre post:List Int}{l:g2a}{p:Nat}(hx:xs=pre++(m0b l++post))(hp:pre.length=p)(k:l.ok)(h0:l.op=0):g5a xs ⟨p,0⟩=(l,⟨p+20,0⟩):=by
 obtain⟨op,x,y,z⟩:=l;obtain⟨_,k1,k2,k3⟩:=k;change op=0 at h0
 subst h0;change 0<=x/\x<=_ at k1
 change 0<=y/\y<=_ at k2
 change 0<=z/\z<=_ at k3
 have hx1:xs=pre++(le x 8++(le y 8++(le z 2++(List.replicate 2 0++post)))):=by rw[hx];simp only[m0b,List.append_assoc]
 have e1:=p1a (xs:=xs) (p:=p) 18446744073709551616 (by decide) hx1 hp k1.1 (by omega);have hx2:xs=(pre++le x 8)++(le y 8++(le z 2++(List.replicate 2 0++post))):=by rw[hx1];simp only[List.append_assoc]
 have e2:=p1a (xs:=xs) (p:=p+8) 18446744073709551616 (by decide) hx2 (by rw[List.length_append,g0a,hp]) k2.1 (by omega);have hx3:xs=(pre++le x 8++le y 8)++(le z 2++(List.replicate 2 0++post)):=by rw[hx1];simp only[List.append_assoc]
 have e3:=p1a (xs:=xs) (p:=p+8+8) 65536 (by decide) hx3 (by rw[List.length_append,List.length_append,g0a,g0a,hp]) k3.1 (by omega);have hx4:xs=(pre++le x 8++le y 8++le z 2)++(List.replicate 2 0++post):=by rw[hx1];simp only[List.append_assoc]
 have e4:=w4a (xs:=xs) (m:=2) (p:=p+8+8+2) hx4 (by rw[List.length_append,List.length_append,List.length_append,g0a,g0a,g0a,hp]);unfold g5a;rw[e1];show((⟨0,x,(rdN xs 8 ⟨p+8,0⟩).1,(rdN xs 2 (rdN xs 8 ⟨p+8,0⟩).2).1⟩:g2a),rdZ xs 2 (rdN xs 2 (rdN xs 8 ⟨p+8,0⟩).2).2)=_
 rw[e2];show((⟨0,x,y,(rdN xs 2 ⟨p+8+8,0⟩).1⟩:g2a),rdZ xs 2 (rdN xs 2 ⟨p+8+8,0⟩).2)=_
 rw[e3];show((⟨0,x,y,z⟩:g2a),rdZ xs 2 ⟨p+8+8+2,0⟩)=_
 rw[e4]
theorem n7b(a b:List g2a):P1a (a++b)=P1a a++P1a b:=by
 induction a with
 | nil=>rfl
 | cons x r ih=>simp only[List.cons_append,P1a,ih,List.append_assoc]
theorem F5b{xs pre post:List Int}{ls:List g2a}{p:Nat}(hx:xs=pre++(P1a ls++post))(hp:pre.length=p)(k:∀l∈ls,l.ok)(h0:shut ls=true):∀j,j<=ls.length->A1a xs ⟨p,0⟩ j=(ls.take j,⟨p+20*j,0⟩):=by
 intro j
 induction j with
 | zero=>intro _;rfl
 | succ j ih=>
  intro hj;have ih:=ih (by omega);have hl:ls[j]? = some ls[j]:=List.getElem?_eq_getElem (by omega);have hsp:ls=ls.take j++(ls[j]::ls.drop (j+1)):=by rw[<-List.drop_eq_getElem_cons (by omega),List.take_append_drop]
  have hx2:xs=(pre++P1a (ls.take j))++(m0b ls[j]++(P1a (ls.drop (j+1))++post)):=by
   rw[hx]
   conv=>lhs;rw[hsp]
   rw[n7b];simp only[P1a,List.append_assoc]
  have hm:ls[j]∈ls:=List.getElem_mem (by omega);have ho:ls[j].op=0:=by have:=List.all_eq_true.1 h0 _ hm;simpa using this
  have e:=m7b (xs:=xs) (p:=p+20*j) hx2 (by rw[List.length_append,R5a,List.length_take,hp];omega) (k _ hm) ho;show((A1a xs ⟨p,0⟩ j).1++[(g5a xs (A1a xs ⟨p,0⟩ j).2).1],(g5a xs (A1a xs ⟨p,0⟩ j).2).2)=_
  rw[ih];show(ls.take j++[(g5a xs ⟨p+20*j,0⟩).1],(g5a xs ⟨p+20*j,0⟩).2)=_
  rw[e,List.take_add_one,hl];show(ls.take j++[ls[j]],(⟨p+20*j+20,0⟩:Rd))=_
  rw[show p+20*j+20=p+20*(j+1) from by omega];rfl
theorem F4b(b:ByteArray):(⟨b.data.toList.toArray⟩:ByteArray)=b:=by cases b;simp
theorem D2c(c:Int)(a:m1a)(ka:a.ok)(he:I6a c a=0)(post:List Int):fgP c (t1b c a++post)=(a,⟨(t1b c a).length,0⟩):=by
 obtain⟨hk,hw,hs,hd,hl,ht,ho⟩:=y0b he;rw[ho];have b1:=ka.acc;have b2:=ka.shr;have b3:=ka.way;have b4:=ka.opt;have b5:=ka.lev;have b6:=ka.dur;have b7:=ka.file;have b8:=ka.at_;have b9:=ka.n
 rcases B5a hk with rfl | rfl | rfl | rfl | rfl | rfl
 ·have ht:=ht rfl;obtain⟨xs,hxs⟩:∃x,x=p4a 5 a++post:=⟨_,rfl⟩;rw[<-hxs];have hx0:xs=le a.acc 4++(le a.shr 4++(le a.way 4++(le a.opt 4++(le a.lev 1++(le a.dur 1++(List.replicate 2 0++(le a.file 8++(A0a a.name.data.toList++post)))))))):=by rw[hxs];unfold p4a;rw[if_pos rfl];simp only[List.append_assoc]
  have e1:c1 xs=(a.acc,⟨4,0⟩):=p1a (pre:=[]) 4294967296 (by decide) (by rw[hx0];rfl) rfl b1.1 (by omega);have e2:c2 xs=(a.shr,⟨8,0⟩):=by unfold c2;rw[e1];exact p1a (pre:=le a.acc 4) 4294967296 (by decide) hx0 (by simp[g0a]) b2.1 (by omega)
  have e3:c3 xs=(a.way,⟨12,0⟩):=by unfold c3;rw[e2];exact p1a (pre:=le a.acc 4++le a.shr 4) 4294967296 (by decide) (by rw[hx0];simp only[List.append_assoc];rfl) (by simp[g0a]) b3.1 (by omega)
  have e4:c4 xs=(a.opt,⟨16,0⟩):=by unfold c4;rw[e3];exact p1a (pre:=le a.acc 4++le a.shr 4++le a.way 4) 4294967296 (by decide) (by rw[hx0];simp only[List.append_assoc];rfl) (by simp[g0a]) b4.1 (by omega)
  have e5:c5 xs=(a.lev,⟨17,0⟩):=by unfold c5;rw[e4];exact p1a (pre:=le a.acc 4++le a.shr 4++le a.way 4++le a.opt 4) 256 (by decide) (by rw[hx0];simp only[List.append_assoc];rfl) (by simp[g0a]) b5.1 (by omega)
  have e6:c6 xs=(a.dur,⟨18,0⟩):=by unfold c6;rw[e5];exact p1a (pre:=le a.acc 4++le a.shr 4++le a.way 4++le a.opt 4++le a.lev 1) 256 (by decide) (by rw[hx0];simp only[List.append_assoc];rfl) (by simp[g0a]) b6.1 (by omega)
  have e7:c7 xs=⟨20,0⟩:=by unfold c7;rw[e6];exact w4a (pre:=le a.acc 4++le a.shr 4++le a.way 4++le a.opt 4++le a.lev 1++le a.dur 1) (by rw[hx0];simp only[List.append_assoc];rfl) (by simp[g0a])
  have e8:c8 xs=(a.file,⟨28,0⟩):=by unfold c8;rw[e7];exact p1a (pre:=le a.acc 4++le a.shr 4++le a.way 4++le a.opt 4++le a.lev 1++le a.dur 1++List.replicate 2 0) 18446744073709551616 (by decide) (by rw[hx0];simp only[List.append_assoc];rfl) (by simp[g0a]) b7.1 (by omega)
  have e9:c9 xs=(a.name.data.toList,⟨28+(A0a a.name.data.toList).length,0⟩):=by unfold c9;rw[e8];exact b6a (pre:=le a.acc 4++le a.shr 4++le a.way 4++le a.opt 4++le a.lev 1++le a.dur 1++List.replicate 2 0++le a.file 8) (post:=post) (by rw[hx0];simp only[List.append_assoc]) (by simp[g0a]) ht
  have hlen:(p4a 5 a).length=28+(A0a a.name.data.toList).length:=by unfold p4a;rw[if_pos rfl];simp only[List.length_append,g0a,List.length_replicate];omega
  unfold fgP;rw[if_pos rfl,e1,e2,e3,e4,e5,e6,e8,e9,hlen];show(({ i0a with acc:=a.acc,shr:=a.shr,way:=a.way,opt:=a.opt,lev:=a.lev,dur:=a.dur,file:=a.file,name:=⟨a.name.data.toList.toArray⟩ }:m1a),_)=_
  rw[F4b]
  conv=>rhs;rw[<-hw]
  rfl
 ·obtain⟨xs,hxs⟩:∃x,x=p4a 6 a++post:=⟨_,rfl⟩;rw[<-hxs];have e1:o1 xs=(a.file,⟨8,0⟩):=p1a (pre:=[]) (post:=post) 18446744073709551616 (by decide) hxs rfl b7.1 (by omega);unfold fgP;rw[if_neg (by decide),if_neg (by decide),if_neg (by decide),if_neg (by decide),e1]
  conv=>rhs;rw[<-hw]
  have hlen:(p4a 6 (I6b 6 a)).length=8:=by show(le a.file 8).length=8;exact g0a _ _
  rw[hlen];rfl
 ·obtain⟨xs,hxs⟩:∃x,x=p4a 7 a++post:=⟨_,rfl⟩;rw[<-hxs];have e1:o1 xs=(a.file,⟨8,0⟩):=p1a (pre:=[]) (post:=post) 18446744073709551616 (by decide) hxs rfl b7.1 (by omega);unfold fgP;rw[if_neg (by decide),if_neg (by decide),if_neg (by decide),if_neg (by decide),e1]
  conv=>rhs;rw[<-hw]
  have hlen:(p4a 7 (I6b 7 a)).length=8:=by show(le a.file 8).length=8;exact g0a _ _
  rw[hlen];rfl
 ·obtain⟨xs,hxs⟩:∃x,x=p4a 8 a++post:=⟨_,rfl⟩;rw[<-hxs];have hx0:xs=le a.file 8++(le a.at_ 8++(le a.n 4++post)):=by rw[hxs];show(le a.file 8++(le a.at_ 8++le a.n 4))++post=_;simp only[List.append_assoc]
  have e1:o1 xs=(a.file,⟨8,0⟩):=p1a (pre:=[]) 18446744073709551616 (by decide) hx0 rfl b7.1 (by omega);have e2:o2 xs=(a.at_,⟨16,0⟩):=by unfold o2;rw[e1];exact p1a (pre:=le a.file 8) 18446744073709551616 (by decide) hx0 (by simp[g0a]) b8.1 (by omega)
  have e3:o3 xs=(a.n,⟨20,0⟩):=by unfold o3;rw[e2];exact p1a (pre:=le a.file 8++le a.at_ 8) (post:=post) 4294967296 (by decide) (by rw[hx0];simp only[List.append_assoc]) (by simp[g0a]) b9.1 (by omega)
  have hlen:(p4a 8 a).length=20:=by show(le a.file 8++(le a.at_ 8++le a.n 4)).length=20;simp[g0a]
  unfold fgP;rw[if_neg (by decide),if_pos rfl,e1,e2,e3,hlen]
  conv=>rhs;rw[<-hw]
  rfl
 ·obtain⟨xs,hxs⟩:∃x,x=p4a 9 a++post:=⟨_,rfl⟩;rw[<-hxs];have hx0:xs=le a.file 8++(le a.at_ 8++(le a.data.length 4++(a.data++post))):=by rw[hxs];show(le a.file 8++(le a.at_ 8++(le a.data.length 4++a.data)))++post=_;simp only[List.append_assoc]
  have e1:o1 xs=(a.file,⟨8,0⟩):=p1a (pre:=[]) 18446744073709551616 (by decide) hx0 rfl b7.1 (by omega);have e2:o2 xs=(a.at_,⟨16,0⟩):=by unfold o2;rw[e1];exact p1a (pre:=le a.file 8) 18446744073709551616 (by decide) hx0 (by simp[g0a]) b8.1 (by omega)
  have e3:o4 xs=(a.data,⟨20+a.data.length,0⟩):=by unfold o4;rw[e2];exact P2b (pre:=le a.file 8++le a.at_ 8) (post:=post) (p:=16) (by rw[hx0];simp only[List.append_assoc]) (by simp[g0a]) hd
  have hlen:(p4a 9 a).length=20+a.data.length:=by show(le a.file 8++(le a.at_ 8++(le a.data.length 4++a.data))).length=_;simp only[List.length_append,g0a];omega
  unfold fgP;rw[if_neg (by decide),if_neg (by decide),if_pos rfl,e1,e2,e3,hlen]
  conv=>rhs;rw[<-hw]
  rfl
 ·obtain⟨xs,hxs⟩:∃x,x=p4a 10 a++post:=⟨_,rfl⟩;rw[<-hxs];have hx0:xs=le a.file 8++(le a.locks.length 2++(List.replicate 2 0++(P1a a.locks++post))):=by rw[hxs];show(le a.file 8++(le a.locks.length 2++(List.replicate 2 0++P1a a.locks)))++post=_;simp only[List.append_assoc]
  have e1:o1 xs=(a.file,⟨8,0⟩):=p1a (pre:=[]) 18446744073709551616 (by decide) hx0 rfl b7.1 (by omega);have e2:rdN xs 2 ⟨8,0⟩=((a.locks.length:Int),⟨10,0⟩):=p1a (pre:=le a.file 8) 65536 (by decide) hx0 (by simp[g0a]) (by omega) (by omega);have e3:rdZ xs 2 ⟨10,0⟩=⟨12,0⟩:=w4a (pre:=le a.file 8++le a.locks.length 2) (post:=P1a a.locks++post) (by rw[hx0];simp only[List.append_assoc]) (by simp[g0a]);have e4:A1a xs ⟨12,0⟩ a.locks.length=(a.locks,⟨12+20*a.locks.length,0⟩):=by have h:=F5b (xs:=xs) (pre:=le a.file 8++le a.locks.length 2++List.replicate 2 0) (post:=post) (ls:=a.locks) (p:=12) (by rw[hx0];simp only[List.append_assoc]) (by simp[g0a]) ka.locks hs a.locks.length (Nat.le_refl _);rw[h,List.take_length]
  have e5:o5 xs=(a.locks,⟨12+20*a.locks.length,0⟩):=by
   unfold o5 J6a;rw[e1];show A1a xs (rdZ xs 2 (b1a xs 2 16 3 ⟨8,0⟩).2) (b1a xs 2 16 3 ⟨8,0⟩).1.toNat=_
   rw[c6a e2 (by omega)];show A1a xs (rdZ xs 2 ⟨10,0⟩) ((a.locks.length:Int)).toNat=_
   rw[Int.toNat_natCast,e3,e4]
  have hlen:(p4a 10 a).length=12+20*a.locks.length:=by show(le a.file 8++(le a.locks.length 2++(List.replicate 2 0++P1a a.locks))).length=_;simp only[List.length_append,g0a,List.length_replicate,R5a];omega
  unfold fgP;rw[if_neg (by decide),if_neg (by decide),if_neg (by decide),if_pos rfl,e1,e5,hlen]
  conv=>rhs;rw[<-hw]
  rfl
theorem I1c(c:Int)(a:m1a)(ka:a.ok)(he:I6a c a=0):h5a c (t1b c a)=0/\n0b c (t1b c a)=a:=by
 have h:=D2c c a ka he [];rw[List.append_nil] at h;have h0:h5a c (t1b c a)=0:=by unfold h5a;rw[if_pos (y0b he).1,h];unfold H0a;rw[if_neg (λh2=>h2.2 rfl)]
 refine⟨h0,?_⟩;unfold n0b;rw[if_pos h0,h]
theorem J1c(c:Int)(a:m1a)(ka:a.ok)(he:I6a c a=0)(more:List Int)(hm:more≠[]):h5a c (t1b c a++more)=5:=by
 have h:=D2c c a ka he more;unfold h5a;rw[if_pos (y0b he).1,h];have hne:(t1b c a).length≠(t1b c a++more).length:=by
  rw[List.length_append];have:more.length≠0:=λh0=>hm (List.eq_nil_of_length_eq_zero h0)
  omega
 unfold H0a;rw[if_pos ⟨rfl,hne⟩]
theorem E2c(c:Int)(s:M1a)(ks:s.ok)(he:q6a c s=0)(post:List Int):sgP c (u2b c s++post)=(s,⟨(u2b c s).length,0⟩):=by
 obtain⟨hk,hw,hm,hkd,hd,ho⟩:=R8a he;have b1:=ks.lev;have b2:=ks.dur;have b3:=ks.made;have b4:=ks.file;have b5:=ks.siz;have b6:=ks.kind;have b7:=ks.n
 rw[ho];rcases B5a hk with rfl | rfl | rfl | rfl | rfl | rfl
 ·obtain⟨xs,hxs⟩:∃x,x=M2a 5 s++post:=⟨_,rfl⟩;rw[<-hxs];have hx0:xs=le s.lev 1++(le s.dur 1++(le s.made 2++(le s.file 8++(le s.siz 8++(le s.kind 2++(List.replicate 2 0++post)))))):=by rw[hxs];unfold M2a;rw[if_pos rfl];simp only[List.append_assoc]
  have e1:s1 xs=(s.lev,⟨1,0⟩):=p1a (pre:=[]) 256 (by decide) hx0 rfl b1.1 (by omega);have e2:s2 xs=(s.dur,⟨2,0⟩):=by unfold s2;rw[e1];exact p1a (pre:=le s.lev 1) 256 (by decide) hx0 (by simp[g0a]) b2.1 (by omega)
  have e3:s3 xs=(s.made,⟨4,0⟩):=by unfold s3;rw[e2];exact r9b (p1a (pre:=le s.lev 1++le s.dur 1) 65536 (by decide) (by rw[hx0];simp only[List.append_assoc];rfl) (by simp[g0a]) b3.1 (by omega)) hm
  have e4:s4 xs=(s.file,⟨12,0⟩):=by unfold s4;rw[e3];exact p1a (pre:=le s.lev 1++le s.dur 1++le s.made 2) 18446744073709551616 (by decide) (by rw[hx0];simp only[List.append_assoc];rfl) (by simp[g0a]) b4.1 (by omega)
  have e5:s5 xs=(s.siz,⟨20,0⟩):=by unfold s5;rw[e4];exact p1a (pre:=le s.lev 1++le s.dur 1++le s.made 2++le s.file 8) 18446744073709551616 (by decide) (by rw[hx0];simp only[List.append_assoc];rfl) (by simp[g0a]) b5.1 (by omega)
  have e6:s6 xs=(s.kind,⟨22,0⟩):=by unfold s6;rw[e5];exact r9b (p1a (pre:=le s.lev 1++le s.dur 1++le s.made 2++le s.file 8++le s.siz 8) 65536 (by decide) (by rw[hx0];simp only[List.append_assoc];rfl) (by simp[g0a]) b6.1 (by omega)) hkd
  have e7:s7 xs=⟨24,0⟩:=by unfold s7;rw[e6];exact w4a (pre:=le s.lev 1++le s.dur 1++le s.made 2++le s.file 8++le s.siz 8++le s.kind 2) (post:=post) (by rw[hx0];simp only[List.append_assoc]) (by simp[g0a])
  have hlen:(M2a 5 s).length=24:=by unfold M2a;rw[if_pos rfl];simp[g0a]
  unfold sgP;rw[if_pos rfl,e1,e2,e3,e4,e5,e6,e7,hlen]
  conv=>rhs;rw[<-hw]
  rfl
 ·have e:=w4a (xs:=M2a 6 s++post) (pre:=[]) (post:=post) (m:=4) (p:=0) (by show List.replicate 4 0++post=_;simp) rfl;unfold sgP;rw[if_neg (by decide),if_neg (by decide),if_neg (by decide)];show(q0a,rdZ (M2a 6 s++post) 4 ⟨0,0⟩)=_
  rw[e]
  conv=>rhs;rw[<-hw]
  rfl
 ·have e:=w4a (xs:=M2a 7 s++post) (pre:=[]) (post:=post) (m:=4) (p:=0) (by show List.replicate 4 0++post=_;simp) rfl;unfold sgP;rw[if_neg (by decide),if_neg (by decide),if_neg (by decide)];show(q0a,rdZ (M2a 7 s++post) 4 ⟨0,0⟩)=_
  rw[e]
  conv=>rhs;rw[<-hw]
  rfl
 ·have e1:s8 (M2a 8 s++post)=(s.data,⟨0+4+s.data.length,0⟩):=P2b (pre:=[]) (post:=post) (by show le s.data.length 4++s.data++post=_;simp) rfl hd;have hlen:(M2a 8 s).length=0+4+s.data.length:=by show(le s.data.length 4++s.data).length=_;rw[List.length_append,g0a,Nat.zero_add]
  unfold sgP;rw[if_neg (by decide),if_pos rfl,e1,hlen]
  conv=>rhs;rw[<-hw]
  rfl
 ·have e1:s9 (M2a 9 s++post)=(s.n,⟨4,0⟩):=p1a (pre:=[]) (post:=post) 4294967296 (by decide) (by show le s.n 4++post=_;simp) rfl b7.1 (by omega);have hlen:(M2a 9 s).length=4:=g0a _ _;unfold sgP;rw[if_neg (by decide),if_neg (by decide),if_pos rfl,e1,hlen]
  conv=>rhs;rw[<-hw]
  rfl
 ·have e:=w4a (xs:=M2a 10 s++post) (pre:=[]) (post:=post) (m:=4) (p:=0) (by show List.replicate 4 0++post=_;simp) rfl;unfold sgP;rw[if_neg (by decide),if_neg (by decide),if_neg (by decide)];show(q0a,rdZ (M2a 10 s++post) 4 ⟨0,0⟩)=_
  rw[e]
  conv=>rhs;rw[<-hw]
  rfl
theorem K1c(c:Int)(s:M1a)(ks:s.ok)(he:q6a c s=0):s5a c (u2b c s)=0/\o0b c (u2b c s)=s:=by
 have h:=E2c c s ks he [];rw[List.append_nil] at h;have h0:s5a c (u2b c s)=0:=by unfold s5a;rw[if_pos (R8a he).1,h];unfold H0a;rw[if_neg (λh2=>h2.2 rfl)]
 refine⟨h0,?_⟩;unfold o0b;rw[if_pos h0,h]
theorem L1c(c:Int)(s:M1a)(ks:s.ok)(he:q6a c s=0)(more:List Int)(hm:more≠[]):s5a c (u2b c s++more)=5:=by have h:=E2c c s ks he more;unfold s5a;rw[if_pos (R8a he).1,h];unfold H0a;rw[if_pos ⟨rfl,by have:=List.length_pos_iff.2 hm;simp only[List.length_append];omega⟩]
theorem g9a(b:Bool):(V0a b != 0)=b:=by cases b<;>rfl
theorem F2c{a:m1a}:k1a 13 a=0↔a=i0a:=by
 have hb:c1a 13 a=a:=by unfold c1a;rw[if_neg (by decide),if_neg (by decide),if_neg (by decide)]
 unfold k1a;rw[hb];constructor
 ·intro h;by_cases hz:a=i0a
  ·exact hz
  ·rw[if_neg (λh2=>hz h2.2)] at h;exact absurd h (by decide)
 ·intro h;rw[if_pos ⟨by decide,h⟩,if_neg (by decide),if_neg (by decide),if_neg (by decide)]
theorem G2c{s:M1a}:z1a 13 s=0↔s=q0a:=by
 have hb:o1a 13 s=s:=by unfold o1a;rw[if_neg (by decide)]
 unfold z1a;rw[hb];constructor
 ·intro h;by_cases hz:s=q0a
  ·exact hz
  ·rw[if_neg (λh2=>hz h2.2.1)] at h;exact absurd h (by decide)
 ·intro h;rw[if_pos ⟨by decide,h,λh2=>absurd h2 (by decide)⟩]
theorem w0c(n:Nat):(n+T1b n)%8=0:=by unfold T1b;omega
theorem o7b(h:Hd)(b:List Int)(hn:h.nx≠0):(Q4a h b).length%8=0:=by unfold Q4a;rw[if_neg hn,List.length_append,List.length_replicate,w0c]
theorem A3b{xs pre post:List Int}{b:Bool}{p:Nat}(hx:xs=pre++(le (V0a b) 2++post))(hp:pre.length=p):rdT xs ⟨p,0⟩=(V0a b,⟨p+2,0⟩):=by obtain⟨h0,h1⟩:=T8a b;exact c6a (p1a 65536 (by decide) hx hp h0 (by omega)) h1
theorem s9b{xs pre post:List Int}{v:Int}{p:Nat}(hx:xs=pre++(le v 2++post))(hp:pre.length=p)(h0:0<=v)(h1:v<=2):rdK xs ⟨p,0⟩=(v,⟨p+2,0⟩):=c6a (p1a 65536 (by decide) hx hp h0 (by omega)) h1
theorem t9b{xs pre post:List Int}{e:y1a}{p:Nat}(hx:xs=pre++(E6a e++post))(hp:pre.length=p)(k:e.ok)(ho:w3a e=true)(ht:y0a e.name.data.toList=0):i4a xs ⟨p,0⟩=(e,⟨p+(E6a e).length,0⟩):=by
 obtain⟨nm,kd,sz⟩:=e;have k1:=k.kind;change 0<=kd/\kd<=_ at k1
 change y0a nm.data.toList=0 at ht
 unfold w3a at ho;simp only[Bool.and_eq_true,decide_eq_true_eq] at ho;obtain⟨o1,o2,o3⟩:=ho;have hx1:xs=pre++(le kd 2++(List.replicate 2 0++(le sz 8++(A0a nm.data.toList++post)))):=by rw[hx];simp only[E6a,List.append_assoc]
 have q1:e1 xs ⟨p,0⟩=(kd,⟨p+2,0⟩):=s9b hx1 hp k1.1 o1;have hx2:xs=(pre++le kd 2)++(List.replicate 2 0++(le sz 8++(A0a nm.data.toList++post))):=by rw[hx1];simp only[List.append_assoc]
 have q2:e2 xs ⟨p,0⟩=⟨p+2+2,0⟩:=by unfold e2;rw[q1];exact w4a hx2 (by rw[List.length_append,g0a,hp])
 have hx3:xs=(pre++le kd 2++List.replicate 2 0)++(le sz 8++(A0a nm.data.toList++post)):=by rw[hx1];simp only[List.append_assoc]
 have q3:e3 xs ⟨p,0⟩=(sz,⟨p+2+2+8,0⟩):=by unfold e3;rw[q2];exact c6a (p1a 18446744073709551616 (by decide) hx3 (by rw[List.length_append,List.length_append,g0a,List.length_replicate,hp]) o2 (by omega)) o3
 have hx4:xs=(pre++le kd 2++List.replicate 2 0++le sz 8)++(A0a nm.data.toList++post):=by rw[hx1];simp only[List.append_assoc]
 have q4:e4 xs ⟨p,0⟩=(nm.data.toList,⟨p+2+2+8+(A0a nm.data.toList).length,0⟩):=by unfold e4;rw[q3];exact b6a hx4 (by rw[List.length_append,List.length_append,List.length_append,g0a,g0a,List.length_replicate,hp]) ht
 have hl:(E6a ⟨nm,kd,sz⟩).length=2+2+8+(A0a nm.data.toList).length:=by
  show(le kd 2++(List.replicate 2 0++(le sz 8++A0a nm.data.toList))).length=_
  simp only[List.length_append,g0a,List.length_replicate];omega
 unfold i4a;rw[q1,q3,q4,hl];show((⟨⟨nm.data.toList.toArray⟩,kd,sz⟩:y1a),(⟨p+2+2+8+(A0a nm.data.toList).length,0⟩:Rd))=_
 rw[F4b,show p+(2+2+8+(A0a nm.data.toList).length)=p+2+2+8+(A0a nm.data.toList).length from by omega]
theorem G5b{l:List y1a}(h:w1a l=0):∀e∈l,y0a e.name.data.toList=0:=by
 induction l with
 | nil=>intro e he;cases he
 | cons x r ih=>
  unfold w1a at h;by_cases h1:y0a x.name.data.toList=0
  ·rw[if_pos h1] at h;intro e he;rcases List.mem_cons.1 he with rfl | he
   ·exact h1
   ·exact ih h e he
  ·rw[if_neg h1] at h;exact absurd h h1
theorem p7b{xs pre post:List Int}{ls:List y1a}{p:Nat}(hx:xs=pre++(W0a ls++post))(hp:pre.length=p)(k:∀l∈ls,l.ok)(h0:ls.all w3a=true)(ht:w1a ls=0):∀j,j<=ls.length->V1a xs ⟨p,0⟩ j=(ls.take j,⟨p+(W0a (ls.take j)).length,0⟩):=by
 intro j
 induction j with
 | zero=>intro _;rfl
 | succ j ih=>
  intro hj;have ih:=ih (by omega);have hl:ls[j]? = some ls[j]:=List.getElem?_eq_getElem (by omega);have hsp:ls=ls.take j++(ls[j]::ls.drop (j+1)):=by rw[<-List.drop_eq_getElem_cons (by omega),List.take_append_drop]
  have hx2:xs=(pre++W0a (ls.take j))++(E6a ls[j]++(W0a (ls.drop (j+1))++post)):=by
   rw[hx]
   conv=>lhs;rw[hsp]
   rw[C5a];simp only[W0a,List.append_assoc]
  have hm:ls[j]∈ls:=List.getElem_mem (by omega);have e:=t9b (xs:=xs) (p:=p+(W0a (ls.take j)).length) hx2 (by rw[List.length_append,hp]) (k _ hm) (List.all_eq_true.1 h0 _ hm) (G5b ht _ hm);show((V1a xs ⟨p,0⟩ j).1++[(i4a xs (V1a xs ⟨p,0⟩ j).2).1],(i4a xs (V1a xs ⟨p,0⟩ j).2).2)=_
  rw[ih];show(ls.take j++[(i4a xs ⟨p+(W0a (ls.take j)).length,0⟩).1],(i4a xs ⟨p+(W0a (ls.take j)).length,0⟩).2)=_
  rw[e,List.take_add_one,hl];show(ls.take j++[ls[j]],(⟨p+(W0a (ls.take j)).length+(E6a ls[j]).length,0⟩:Rd))=(ls.take j++[ls[j]],⟨p+(W0a (ls.take j++[ls[j]])).length,0⟩)
  rw[C5a,List.length_append];simp only[W0a,List.append_nil,Nat.add_assoc]
theorem B3b{c:Int}{a:m1a}(h:q4a c a=0):Z7a c=true/\c2b c a=a/\(c=17->1<=a.cls/\a.cls<=3)/\(c=14->y0a a.pat.data.toList=0/\y0a a.aft.data.toList=0)/\(c=17->a.cls=3->y0a a.name.data.toList=0)/\i9a c a=x3a c a:=by
 have h0:=h;unfold q4a at h;by_cases h1:h4a c a=true
 ·rw[if_pos h1] at h;unfold h4a at h1;simp only[Bool.and_eq_true,Bool.or_eq_true,Bool.not_eq_true',decide_eq_false_iff_not,decide_eq_true_eq,S8a] at h1;obtain⟨k1,k2,k3⟩:=h1;refine⟨k1,(S9a c a).1 k3,λhc=>?_,λhc=>?_,λhc hs=>?_,by unfold i9a;rw[if_pos h0]⟩
  ·rcases k2 with k2 | k2
   ·exact absurd hc k2
   ·exact k2
  ·rw[if_pos hc] at h;by_cases h2:y0a a.pat.data.toList=0
   ·rw[if_pos h2] at h;exact⟨h2,h⟩
   ·rw[if_neg h2] at h;exact absurd h h2
  ·rw[if_neg (by omega),if_pos ⟨hc,hs⟩] at h;exact h
 ·rw[if_neg h1] at h;exact absurd h (by decide)
theorem H2c(c:Int)(a:m1a)(ka:a.ok)(he:q4a c a=0)(post:List Int):igP c (i9a c a++post)=(a,⟨(i9a c a).length,0⟩):=by
 obtain⟨hk,hw,hcl,htl,htn,ho⟩:=B3b he;rw[ho];have b1:=ka.file;have b2:=ka.most;have b3:=ka.cls;have b4:=ka.siz;have b5:=ka.lev
 rcases F4a hk with rfl | rfl | rfl | rfl | rfl
 ·have e:=w4a (xs:=x3a 12 a++post) (pre:=[]) (post:=post) (m:=4) (p:=0) rfl rfl;unfold igP;rw[if_neg (by decide),if_neg (by decide),if_neg (by decide),if_neg (by decide)];show(i0a,rdZ (x3a 12 a++post) 4 ⟨0,0⟩)=_
  rw[e]
  conv=>rhs;rw[<-hw]
  rfl
 ·obtain⟨ht1,ht2⟩:=htl rfl;obtain⟨xs,hxs⟩:∃x,x=x3a 14 a++post:=⟨_,rfl⟩;rw[<-hxs];have hx0:xs=le a.file 8++(le a.most 2++(List.replicate 2 0++(A0a a.pat.data.toList++(A0a a.aft.data.toList++post)))):=by rw[hxs];unfold x3a;rw[if_pos rfl];simp only[List.append_assoc]
  have e1:l1 xs=(a.file,⟨8,0⟩):=p1a (pre:=[]) 18446744073709551616 (by decide) hx0 rfl b1.1 (by omega);have e2:l2 xs=(a.most,⟨10,0⟩):=by unfold l2;rw[e1];exact p1a (pre:=le a.file 8) 65536 (by decide) hx0 (by simp[g0a]) b2.1 (by omega)
  have e3:l3 xs=⟨12,0⟩:=by unfold l3;rw[e2];exact w4a (pre:=le a.file 8++le a.most 2) (by rw[hx0];simp only[List.append_assoc];rfl) (by simp[g0a])
  have e4:l4 xs=(a.pat.data.toList,⟨12+(A0a a.pat.data.toList).length,0⟩):=by unfold l4;rw[e3];exact b6a (pre:=le a.file 8++le a.most 2++List.replicate 2 0) (by rw[hx0];simp only[List.append_assoc];rfl) (by simp[g0a]) ht1
  have e5:l5 xs=(a.aft.data.toList,⟨12+(A0a a.pat.data.toList).length+(A0a a.aft.data.toList).length,0⟩):=by unfold l5;rw[e4];exact b6a (pre:=le a.file 8++le a.most 2++List.replicate 2 0++A0a a.pat.data.toList) (post:=post) (by rw[hx0];simp only[List.append_assoc]) (by simp only[List.length_append,g0a,List.length_replicate]) ht2
  have hlen:(x3a 14 a).length=12+(A0a a.pat.data.toList).length+(A0a a.aft.data.toList).length:=by unfold x3a;rw[if_pos rfl];simp only[List.length_append,g0a,List.length_replicate];omega
  unfold igP;rw[if_pos rfl,e1,e2,e4,e5,hlen];show(({ i0a with file:=a.file,most:=a.most,pat:=⟨a.pat.data.toList.toArray⟩,aft:=⟨a.aft.data.toList.toArray⟩ }:m1a),_)=_
  rw[F4b,F4b]
  conv=>rhs;rw[<-hw]
  rfl
 ·obtain⟨xs,hxs⟩:∃x,x=x3a 16 a++post:=⟨_,rfl⟩;rw[<-hxs];have e1:l1 xs=(a.file,⟨8,0⟩):=p1a (pre:=[]) (post:=post) 18446744073709551616 (by decide) hxs rfl b1.1 (by omega);unfold igP;rw[if_neg (by decide),if_pos rfl,e1];have hlen:(x3a 16 a).length=8:=by show(le a.file 8).length=8;exact g0a _ _
  rw[hlen]
  conv=>rhs;rw[<-hw]
  rfl
 ·obtain⟨hc0,hc1⟩:=hcl rfl;obtain⟨xs,hxs⟩:∃x,x=x3a 17 a++post:=⟨_,rfl⟩;rw[<-hxs];have key:∀more:List Int,x3a 17 a=le a.file 8++(le a.cls 2++more)->l1 xs=(a.file,⟨8,0⟩)/\l2 xs=(a.cls,⟨10,0⟩)/\xs=(le a.file 8++le a.cls 2)++(more++post)/\(x3a 17 a).length=10+more.length:=by
   intro more hb;have hx0:xs=le a.file 8++(le a.cls 2++(more++post)):=by rw[hxs,hb];simp only[List.append_assoc]
   have e1:l1 xs=(a.file,⟨8,0⟩):=p1a (pre:=[]) 18446744073709551616 (by decide) hx0 rfl b1.1 (by omega);have e2:l2 xs=(a.cls,⟨10,0⟩):=by unfold l2;rw[e1];exact p1a (pre:=le a.file 8) 65536 (by decide) hx0 (by simp[g0a]) b3.1 (by omega)
   exact⟨e1,e2,by rw[hx0];simp only[List.append_assoc],by rw[hb];simp only[List.length_append,g0a];omega⟩
  have hpl:(le a.file 8++le a.cls 2).length=10:=by simp[g0a]
  unfold igP;rw[if_neg (by decide),if_neg (by decide),if_pos rfl];by_cases h1:a.cls=1
  ·obtain⟨e1,e2,hx1,hlen⟩:=key (le a.siz 8) (by unfold x3a;rw[if_neg (by decide),if_neg (by decide),if_pos rfl,if_pos h1]);have e3:t3 xs=(a.siz,⟨18,0⟩):=by unfold t3;rw[e2];exact p1a 18446744073709551616 (by decide) hx1 hpl b4.1 (by omega)
   rw[e1,e2,e3,hlen,g0a];unfold c2b at hw;rw[if_neg (by decide),if_neg (by decide),if_pos rfl,if_pos h1] at hw;show(if a.cls=1 then (({ i0a with file:=a.file,cls:=a.cls,siz:=a.siz }:m1a),(⟨18,0⟩:Rd)) else _)=_
   rw[if_pos h1,hw]
  ·by_cases h2:a.cls=2
   ·obtain⟨e1,e2,hx1,hlen⟩:=key (le (V0a a.on) 2) (by unfold x3a;rw[if_neg (by decide),if_neg (by decide),if_pos rfl,if_neg h1,if_pos h2]);have e3:t4 xs=(V0a a.on,⟨12,0⟩):=by unfold t4;rw[e2];exact A3b hx1 hpl
    rw[e1,e2,e3,hlen,g0a];unfold c2b at hw;rw[if_neg (by decide),if_neg (by decide),if_pos rfl,if_neg h1,if_pos h2] at hw;show(if a.cls=1 then _ else if a.cls=2 then (({ i0a with file:=a.file,cls:=a.cls,on:=V0a a.on != 0 }:m1a),(⟨12,0⟩:Rd)) else _)=_
    rw[if_neg h1,if_pos h2,g9a,hw]
   ·have h3:a.cls=3:=by omega
    have ht:=htn rfl h3;obtain⟨e1,e2,hx1,hlen⟩:=key (le (V0a a.on) 2++A0a a.name.data.toList) (by unfold x3a;rw[if_neg (by decide),if_neg (by decide),if_pos rfl,if_neg h1,if_neg h2]);rw[List.append_assoc] at hx1;have e3:t4 xs=(V0a a.on,⟨12,0⟩):=by unfold t4;rw[e2];exact A3b hx1 hpl
    have e4:t5 xs=(a.name.data.toList,⟨12+(A0a a.name.data.toList).length,0⟩):=by unfold t5;rw[e3];exact b6a (pre:=le a.file 8++le a.cls 2++le (V0a a.on) 2) (post:=post) (by rw[hx1];simp only[List.append_assoc]) (by simp[g0a]) ht
    have hlen2:10+(le (V0a a.on) 2++A0a a.name.data.toList).length=12+(A0a a.name.data.toList).length:=by rw[List.length_append,g0a];omega
    rw[e1,e2,e3,e4,hlen,hlen2];unfold c2b at hw;rw[if_neg (by decide),if_neg (by decide),if_pos rfl,if_neg h1,if_neg h2] at hw;show(if a.cls=1 then _ else if a.cls=2 then _ else if a.cls=3 then (({ i0a with file:=a.file,cls:=a.cls,on:=V0a a.on != 0,name:=⟨a.name.data.toList.toArray⟩ }:m1a),(⟨12+(A0a a.name.data.toList).length,0⟩:Rd)) else _)=_
    rw[if_neg h1,if_neg h2,if_pos h3,g9a,F4b,hw]
 ·obtain⟨xs,hxs⟩:∃x,x=x3a 18 a++post:=⟨_,rfl⟩;rw[<-hxs];have hx0:xs=le a.file 8++(le a.lev 1++(List.replicate 3 0++post)):=by rw[hxs];show(le a.file 8++(le a.lev 1++List.replicate 3 0))++post=_;simp only[List.append_assoc]
  have e1:l1 xs=(a.file,⟨8,0⟩):=p1a (pre:=[]) 18446744073709551616 (by decide) hx0 rfl b1.1 (by omega);have e2:k2 xs=(a.lev,⟨9,0⟩):=by unfold k2;rw[e1];exact p1a (pre:=le a.file 8) 256 (by decide) hx0 (by simp[g0a]) b5.1 (by omega)
  have e3:k3 xs=⟨12,0⟩:=by unfold k3;rw[e2];exact w4a (pre:=le a.file 8++le a.lev 1) (post:=post) (by rw[hx0];simp only[List.append_assoc]) (by simp[g0a])
  have hlen:(x3a 18 a).length=12:=by show(le a.file 8++(le a.lev 1++List.replicate 3 0)).length=12;simp[g0a]
  unfold igP;rw[if_neg (by decide),if_neg (by decide),if_neg (by decide),if_pos rfl,e1,e2,e3,hlen]
  conv=>rhs;rw[<-hw]
  rfl
theorem M1c(c:Int)(a:m1a)(ka:a.ok)(he:q4a c a=0):Y3a c (i9a c a)=0/\F6a c (i9a c a)=a:=by
 have h:=H2c c a ka he [];rw[List.append_nil] at h;have h0:Y3a c (i9a c a)=0:=by unfold Y3a;rw[if_pos (B3b he).1,h];unfold H0a;rw[if_neg (λh2=>h2.2 rfl)]
 refine⟨h0,?_⟩;unfold F6a;rw[if_pos h0,h]
theorem N1c(c:Int)(a:m1a)(ka:a.ok)(he:q4a c a=0)(more:List Int)(hm:more≠[]):Y3a c (i9a c a++more)=5:=by
 have h:=H2c c a ka he more;unfold Y3a;rw[if_pos (B3b he).1,h];have hne:(i9a c a).length≠(i9a c a++more).length:=by
  rw[List.length_append];have:more.length≠0:=λh0=>hm (List.eq_nil_of_length_eq_zero h0)
  omega
 unfold H0a;rw[if_pos ⟨rfl,hne⟩]
theorem I2c(c:Int)(s:M1a)(ks:s.ok)(he:N4a c s=0)(post:List Int):jgP c (A1b c s++post)=(s,⟨(A1b c s).length,0⟩):=by
 obtain⟨hk,hw,hkd,hes,hn,ht,ho⟩:=Y8a he;have b1:=ks.siz;have b2:=ks.kind;have b3:=ks.file;have b4:=ks.lev
 rw[ho];rcases j4a hk with rfl | rfl | rfl | rfl
 ·have ht:=ht rfl;obtain⟨xs,hxs⟩:∃x,x=e3a 14 s++post:=⟨_,rfl⟩;rw[<-hxs];have hx0:xs=le s.ents.length 2++(le (V0a s.more) 2++(W0a s.ents++post)):=by rw[hxs];unfold e3a;rw[if_pos rfl];simp only[List.append_assoc]
  have e1:m1 xs=((s.ents.length:Int),⟨2,0⟩):=c6a (p1a (pre:=[]) 65536 (by decide) hx0 rfl (by omega) (by omega)) (by omega);have e2:m2 xs=(V0a s.more,⟨4,0⟩):=by unfold m2;rw[e1];exact A3b (pre:=le s.ents.length 2) hx0 (by simp[g0a])
  have e3:m3 xs=(s.ents,⟨4+(W0a s.ents).length,0⟩):=by
   unfold m3;rw[e1,e2];show V1a xs ⟨4,0⟩ ((s.ents.length:Int)).toNat=_
   rw[Int.toNat_natCast];have h:=p7b (xs:=xs) (pre:=le s.ents.length 2++le (V0a s.more) 2) (post:=post) (ls:=s.ents) (p:=4) (by rw[hx0];simp only[List.append_assoc]) (by simp[g0a]) ks.ents hes ht s.ents.length (Nat.le_refl _);rw[h,List.take_length]
  have hlen:(e3a 14 s).length=4+(W0a s.ents).length:=by unfold e3a;rw[if_pos rfl];simp only[List.length_append,g0a];omega
  unfold jgP;rw[if_pos rfl,e2,e3,hlen];show(({ q0a with ents:=s.ents,more:=V0a s.more != 0 }:M1a),_)=_
  rw[g9a]
  conv=>rhs;rw[<-hw]
  rfl
 ·obtain⟨xs,hxs⟩:∃x,x=e3a 16 s++post:=⟨_,rfl⟩;rw[<-hxs];have hx0:xs=le s.siz 8++(le s.kind 2++(le (V0a s.gone) 2++post)):=by rw[hxs];unfold e3a;rw[if_neg (by decide),if_pos rfl];simp only[List.append_assoc]
  have e1:l1 xs=(s.siz,⟨8,0⟩):=p1a (pre:=[]) 18446744073709551616 (by decide) hx0 rfl b1.1 (by omega);have e2:g2 xs=(s.kind,⟨10,0⟩):=by unfold g2;rw[e1];exact s9b (pre:=le s.siz 8) hx0 (by simp[g0a]) b2.1 hkd
  have e3:g3 xs=(V0a s.gone,⟨12,0⟩):=by unfold g3;rw[e2];exact A3b (pre:=le s.siz 8++le s.kind 2) (post:=post) (by rw[hx0];simp only[List.append_assoc]) (by simp[g0a])
  have hlen:(e3a 16 s).length=12:=by unfold e3a;rw[if_neg (by decide),if_pos rfl];simp[g0a]
  unfold jgP;rw[if_neg (by decide),if_pos rfl,e1,e2,e3,hlen];show(({ q0a with siz:=s.siz,kind:=s.kind,gone:=V0a s.gone != 0 }:M1a),_)=_
  rw[g9a]
  conv=>rhs;rw[<-hw]
  rfl
 ·have e:=w4a (xs:=e3a 17 s++post) (pre:=[]) (post:=post) (m:=4) (p:=0) (by show List.replicate 4 0++post=_;simp) rfl;unfold jgP;rw[if_neg (by decide),if_neg (by decide),if_neg (by decide)];show(q0a,rdZ (e3a 17 s++post) 4 ⟨0,0⟩)=_
  rw[e]
  conv=>rhs;rw[<-hw]
  rfl
 ·obtain⟨xs,hxs⟩:∃x,x=e3a 18 s++post:=⟨_,rfl⟩;rw[<-hxs];have hx0:xs=le s.file 8++(le s.lev 1++(List.replicate 3 0++post)):=by rw[hxs];show le s.file 8++(le s.lev 1++List.replicate 3 0)++post=_;simp only[List.append_assoc]
  have e1:l1 xs=(s.file,⟨8,0⟩):=p1a (pre:=[]) 18446744073709551616 (by decide) hx0 rfl b3.1 (by omega);have e2:k2 xs=(s.lev,⟨9,0⟩):=by unfold k2;rw[e1];exact p1a (pre:=le s.file 8) 256 (by decide) hx0 (by simp[g0a]) b4.1 (by omega)
  have e3:k3 xs=⟨12,0⟩:=by unfold k3;rw[e2];exact w4a (pre:=le s.file 8++le s.lev 1) (post:=post) (by rw[hx0];simp only[List.append_assoc]) (by simp[g0a])
  have hlen:(e3a 18 s).length=12:=by show(le s.file 8++(le s.lev 1++List.replicate 3 0)).length=_;simp[g0a]
  unfold jgP;rw[if_neg (by decide),if_neg (by decide),if_pos rfl,e1,e2,e3,hlen]
  conv=>rhs;rw[<-hw]
  rfl
theorem O1c(c:Int)(s:M1a)(ks:s.ok)(he:N4a c s=0):t5a c (A1b c s)=0/\L9a c (A1b c s)=s:=by
 have h:=I2c c s ks he [];rw[List.append_nil] at h;have h0:t5a c (A1b c s)=0:=by unfold t5a;rw[if_pos (Y8a he).1,h];unfold H0a;rw[if_neg (λh2=>h2.2 rfl)]
 refine⟨h0,?_⟩;unfold L9a;rw[if_pos h0,h]
theorem P1c(c:Int)(s:M1a)(ks:s.ok)(he:N4a c s=0)(more:List Int)(hm:more≠[]):t5a c (A1b c s++more)=5:=by have h:=I2c c s ks he more;unfold t5a;rw[if_pos (Y8a he).1,h];unfold H0a;rw[if_pos ⟨rfl,by have:=List.length_pos_iff.2 hm;simp only[List.length_append];omega⟩]
theorem Q1c{c:Int}{a:m1a}(k:a.ok)(h:pae c a=0):gae c (pao c a)=0/\gao c (pao c a)=a:=by
 unfold gae gao pao;unfold pae at h;split
 ·rename_i h1;rw[if_pos h1] at h;exact m9b c a k h
 ·rename_i h1;rw[if_neg h1] at h;split
  ·rename_i h2;rw[if_pos h2] at h;exact I1c c a k h
  ·rename_i h2;rw[if_neg h2] at h;exact M1c c a k h
theorem R1c{c:Int}{a:m1a}(k:a.ok)(h:pae c a=0){more:List Int}(hm:more≠[]):gae c (pao c a++more)≠0:=by
 unfold gae pao;unfold pae at h;split
 ·rename_i h1;rw[if_pos h1] at h;rw[n9b c a k h more hm];decide
 ·rename_i h1;rw[if_neg h1] at h;split
  ·rename_i h2;rw[if_pos h2] at h;rw[J1c c a k h more hm];decide
  ·rename_i h2;rw[if_neg h2] at h;rw[N1c c a k h more hm];decide
theorem S1c{c:Int}{s:M1a}(k:s.ok)(h:pse c s=0):gse c (pso c s)=0/\gso c (pso c s)=s:=by
 unfold gse gso pso;unfold pse at h;split
 ·rename_i h1;rw[if_pos h1] at h;exact p9b c s k h
 ·rename_i h1;rw[if_neg h1] at h;split
  ·rename_i h2;rw[if_pos h2] at h;exact K1c c s k h
  ·rename_i h2;rw[if_neg h2] at h;exact O1c c s k h
theorem T1c{c:Int}{s:M1a}(k:s.ok)(h:pse c s=0){more:List Int}(hm:more≠[]):gse c (pso c s++more)≠0:=by
 unfold gse pso;unfold pse at h;split
 ·rename_i h1;rw[if_pos h1] at h;rw[q9b c s k h more hm];decide
 ·rename_i h1;rw[if_neg h1] at h;split
  ·rename_i h2;rw[if_pos h2] at h;rw[L1c c s k h more hm];decide
  ·rename_i h2;rw[if_neg h2] at h;rw[P1c c s k h more hm];decide
theorem G4b{m:J5a}(k:m.ok)(he:K6a m=0):G4a m.h (u6a m)=0/\gbA m.h (u6a m)=m.a/\gbS m.h (u6a m)=m.s:=by
 unfold G4a gbA gbS u6a;rw[if_pos he];unfold K6a at he;by_cases hr:m3a m.h.fl=true
 ·rw[if_pos hr] at he;simp only[if_pos hr];by_cases ha:k1a 13 m.a=0
  ·rw[if_pos ha] at he;obtain⟨h1,h2⟩:=S1c k.s he;rw[h1];exact⟨by rw[if_neg (by decide)],(F2c.1 ha).symm,h2⟩
  ·rw[if_neg ha] at he;exact absurd he (by decide)
 ·rw[if_neg hr] at he;simp only[if_neg hr];by_cases hs:z1a 13 m.s=0
  ·rw[if_pos hs] at he;obtain⟨h1,h2⟩:=Q1c k.a he;exact⟨h1,h2,(G2c.1 hs).symm⟩
  ·rw[if_neg hs] at he;exact absurd he (by decide)
theorem u9b{m:J5a}(k:m.ok)(he:K6a m=0){more:List Int}(hm:more≠[]):G4a m.h (u6a m++more)≠0:=by
 unfold G4a u6a;rw[if_pos he];unfold K6a at he;by_cases hr:m3a m.h.fl=true
 ·rw[if_pos hr] at he;simp only[if_pos hr];by_cases ha:k1a 13 m.a=0
  ·rw[if_pos ha] at he;have h1:=T1c k.s he hm;split
   ·decide
   ·exact h1
  ·rw[if_neg ha] at he;exact absurd he (by decide)
 ·rw[if_neg hr] at he;simp only[if_neg hr];by_cases hs:z1a 13 m.s=0
  ·rw[if_pos hs] at he;exact R1c k.a he hm
  ·rw[if_neg hs] at he;exact absurd he (by decide)
theorem x0c(b:List Int)(p n:Nat)(h:n<=p):L6a (b++List.replicate p 0) n=true:=by unfold L6a;rw[decide_eq_true_iff,List.length_append,List.length_replicate,show b.length+p-n=b.length+(p-n) by omega,<-List.drop_drop,List.drop_left,List.drop_replicate,show p-(p-n)=n by omega]
theorem C3b(b:List Int)(p n:Nat)(h:n<=p):(b++List.replicate p 0).take ((b++List.replicate p 0).length-n)=b++List.replicate (p-n) 0:=by rw[List.length_append,List.length_replicate,show b.length+p-n=b.length+(p-n) by omega,List.take_length_add_append,List.take_replicate,Nat.min_eq_left (by omega)]
theorem J2c{m:J5a}(k:m.ok)(he:K6a m=0):atN m.h (u6a m++List.replicate (T1b (u6a m).length) 0)=some (T1b (u6a m).length):=by
 obtain⟨p,hp⟩:∃p,p=T1b (u6a m).length:=⟨_,rfl⟩;have hp8:=q3b (u6a m).length;unfold atN;rw[<-hp] at hp8⊢;rw[List.find?_range_eq_some];refine⟨?_,List.mem_range.2 hp8,λn hn=>?_⟩
 ·unfold K4b;rw[x0c _ _ _ (Nat.le_refl _),C3b _ _ _ (Nat.le_refl _),Nat.sub_self,List.replicate_zero,List.append_nil,(G4b k he).1,List.length_append,List.length_replicate,Nat.add_sub_cancel,<-hp];simp
 ·unfold K4b;rw[C3b _ _ _ (by omega),show decide (G4a m.h (u6a m++List.replicate (p-n) 0)=0)=false from decide_eq_false (u9b k he (by intro h0;have:=congrArg List.length h0;simp at this;omega))]
  simp
theorem y0c{m:J5a}(k:m.ok)(he:W4a m=0):q0b (f6a m)=0/\n4b (f6a m)=m:=by
 have hmay:r0b m.h=true:=by
  unfold W4a at he;by_cases h:r0b m.h=true
  ·exact h
  ·rw[if_neg h] at he;exact absurd he (by decide)
 have hb:K6a m=0:=by unfold W4a at he;rwa [if_pos hmay] at he
 obtain⟨g1,g2⟩:=get_put k.h hmay [] (Q4a m.h (u6a m));have hmp:f6a m=e6a m.h++Q4a m.h (u6a m):=by unfold f6a;rw[if_pos he]
 simp only[List.nil_append,List.length_nil,Int.ofNat_zero] at g1 g2;rw[<-hmp] at g1 g2;have hd:(f6a m).drop 64=Q4a m.h (u6a m):=by rw[hmp,List.drop_left' (b4a k.h.len)]
 obtain⟨b1,b2,b3⟩:=G4b k hb;have hc:p0b m.h (Q4a m.h (u6a m))=0/\e2b m.h (Q4a m.h (u6a m))=u6a m:=by
  unfold p0b e2b Q4a;by_cases hn:m.h.nx=0
  ·simp only[if_pos hn];exact⟨b1,trivial⟩
  ·simp only[if_neg hn];rw[J2c k hb];refine⟨if_pos rfl,?_⟩;rw[Option.getD_some,C3b _ _ _ (Nat.le_refl _),Nat.sub_self,List.replicate_zero,List.append_nil]
 have h1:q0b (f6a m)=0:=by unfold q0b;rw[if_pos g1,g2,hd,hc.1]
 refine⟨h1,?_⟩;unfold n4b;rw[if_pos h1,g2,hd,hc.2,b2,b3]
theorem G1c.fit{m:J5a}(h:G1c m):L2c m.a/\M2c m.s/\h6b m:=by obtain⟨⟨h1,h2,h3⟩,⟨h4,h5,h6,h7,h8⟩,h9,h10,h11⟩:=h;refine⟨⟨⟨by omega,by omega⟩,⟨by omega,by omega,by omega⟩,by omega⟩,⟨by omega,λe he=>by have:=h11 e he;omega⟩,⟨by omega,by omega,by omega⟩,by omega,by omega⟩
theorem K2c{m:J5a}(k:m.ok)(he:W4a m=0)(hn:m.h.nx≠0):(f6a m).length%8=0:=by unfold f6a;rw[if_pos he,List.length_append,b4a k.h.len];have:=o7b m.h (u6a m) hn;omega
theorem H5b{m:J5a}(he:¬W4a m=0):f6a m=[]:=by unfold f6a;rw[if_neg he]
theorem walk_MsgBack(W:World)(hT:V7a W)(cs0:List Value)(a0:J5a)(k0h:a0.ok)(h0h:Z3a W W.heap.size cs0 a0)(b0:G1c a0) :
  Calls Tryz.prog 4 #[.agg cs0.toArray] W λe W'=>e=.returned (.bool true)/\Below W.heap.size W W':=by
 have HL:=hI (h0h.len k0h);have HO:=hI h0h.one;have HA:=hI h0h;obtain⟨fa,fs,sm⟩:=b0.fit;have HYB:=hI (X5b k0h);have HYL:=hI (N0c k0h);have CP:Hid (∀w:World,Below W.heap.size W w->Calls Tryz.prog 8 #[.agg cs0.toArray] w λe w'=>∃v,e=.returned (.tuple #[v,.int .i64 (W4a a0)])/\T5a w' w.heap.size v (f6a a0)/\Below w.heap.size w w'):=λw hb=>d6b w a0 cs0 k0h (h0h.over hb) fa fs (hT.below hb)
 have CL:Hid (∀w:World,Below W.heap.size W w->Calls Tryz.prog 12 #[] w λe w'=>e=.returned (.bool true)/\Below w.heap.size w w'):=λw hb=>N2b w (hT.below hb)
 by_cases he:W4a a0=0
 ·have CG:Hid (∀(w:World) (A:Option Addr) (n c:Nat),Holds w w.heap.size A n c (f6a a0)->Calls Tryz.prog 13 #[.slice A n c] w λe w'=>∃ds:List Value,e=.returned (.tuple #[.agg ds.toArray,.int .i64 0])/\Z3a w' w'.heap.size ds a0/\ds.length=115/\(∀v∈ds,v.oneCell'=true)/\Below w.heap.size w w'):=λw A n c hh=>by
   have h1:=f6b w A n c (f6a a0) hh;unfold t7a at h1;obtain⟨p1,p2⟩:=y0c k0h he;rw[p1,p2] at h1;refine h1.mono λe w' ⟨ac,sc,h2,ha,hs,hb⟩=>?_
   have hm:Z3a w' w'.heap.size (o0a a0.h++(ac++sc)) a0:=⟨ac,sc,rfl,ha.2.1,hs.2.1⟩;exact⟨_,h2,hm,hm.len k0h,hm.one,hb⟩
  have CS:Hid (∀(w:World) (ds:List Value),Z3a w w.heap.size ds a0->Z3a w w.heap.size cs0 a0->Calls Tryz.prog 11 #[.agg ds.toArray,.agg cs0.toArray] w λe w'=>e=.returned (.bool true)/\Below w.heap.size w w'):=λw ds h1 h2=>by have h3:=N1b w ds cs0 a0 a0 k0h k0h h1 h2 sm sm;simpa using h3
  have FN:Hid (∀(w:World) (g:Nat),Blk w g 41 cs0->w.cell? ⟨g,5,none⟩=some (.int .u32 a0.h.nx)):=λw g h=>by obtain⟨ac,sc,rfl,_,_⟩:=h0h;exact h.at rfl
  have HM8:=hI (λhn=>K2c k0h he hn:a0.h.nx≠0->(f6a a0).length%8=0);have F0:∀(g:Nat) (w:World),(Instr.fieldAt 41 (.pointer (some ⟨g,0,none⟩)) 0).run Tryz.prog w=.ok (.pointer (some ⟨g,0,none⟩)) w:=λg w=>by go_simp
  have F5:∀(g:Nat) (w:World),(Instr.fieldAt 28 (.pointer (some ⟨g,0,none⟩)) 5).run Tryz.prog w=.ok (.pointer (some ⟨g,5,none⟩)) w:=λg w=>by go_simp
  have ZM:=hI U8a;have HZ:=hI y3a;rw[he] at CP;obtain⟨ys,hys⟩:∃x,x=f6a a0:=⟨_,rfl⟩;rw[<-hys] at CP CG HYB HYL HM8;obtain⟨nx,hnx⟩:∃x,x=a0.h.nx:=⟨_,rfl⟩;rw[<-hnx] at FN HM8;obtain⟨zm,hzm⟩:∃x,x=K1a:=⟨_,rfl⟩;rw[<-hzm] at ZM HZ;clear hnx hzm hys he sm fs fa hT h0h b0 HO;go_enter Tryz.func4,Tryz.ntmps4;go_wp2_with(first
   | ((with_reducible refine sN 1 ?_);refine f0a rfl _ (.tmp 0) rfl cs0 rfl ?_;intro g v1 hg1 hg2 K1 L1)
   | ((with_reducible refine sN 8 ?_);refine e0a rfl _ (.tmp 1) rfl g rfl _ cs0 K1 115 _ Tryz.underlying41 rfl r1a HL ?_)
   | fail)
  refine(CP.out v1 L1.out).mono ?_;rintro e w2 ⟨v,rfl,ho,L2⟩;have K2:=hI (K1.out.over L2);have M2:=hI (step L1.out L2);obtain⟨A2,c2,rfl,hh2⟩:=X0a.holds8 ho HYB.out (by have:=HYL.out;omega);have H2:=hI hh2;obtain⟨m,hm⟩:∃m,m=ys.length:=⟨_,rfl⟩;rw[<-hm] at H2 HM8 HYL⊢;clear hh2 hm ho L2 K1 L1 CP;go_wp2_with fail;refine(CG.out w2 A2 m c2 H2.out).mono ?_;rintro e w3 ⟨ds,rfl,hm1,hm2,hm3,L3⟩;have DM:=hI hm1;have DL:=hI hm2;have DO:=hI hm3;have K3:=hI (K2.out.over L3);have M3:=hI (step M2.out L3);clear hm1 hm2 hm3 L3 K2 M2 H2 CG;go_wp2_with(first
   | ((with_reducible refine sN 5 ?_);refine a0a rfl _ rfl zm _ ZM ?_;intro g5 w4 hg1 hg2 Z4 L4;have K4:=hI (K3.out.over L4.out))
   | ((with_reducible refine sT 5 ?_);refine b0a rfl _ (.tmp 5) (.tmp 23) rfl g5 rfl _ zm ds rfl Z4 115 r1a HZ DL DO ?_;intro w5 X5 O5 hg3;have L5:=hI (c0a L4.out O5.out hg1);have M5:=hI (step M3.out L5.out);have K5:=hI (K3.out.over L5.out);have D5:=hI (DM.out.over L5.out))
   | fail)
  refine wp_load_row 41 (.tmp 5) rfl g5 rfl _ _ (0,0) _ X5.out Tryz.underlying41 rfl (by rw[r1a];have:=DL.out;simp[this]) ?_;go_wp2_with fail;refine wp_load_row 41 (.tmp 1) rfl g rfl _ _ (0,0) _ K5.out Tryz.underlying41 rfl (by rw[r1a];have:=HL.out;simp[this]) ?_;go_wp2_with fail;refine(CS.out w5 ds D5.out (HA.out.over M5.out)).mono ?_;rintro e w6 ⟨rfl,L6⟩;have K6:=hI (K5.out.over L6);have M6:=hI (step M5.out L6);have e6:=FN.out w6 g K6.out;clear L6 K5 M5 D5 DM X5 O5 Z4 L4 L5 K3 K4 M3 CS FN;by_cases hn:nx=0
  ·rw[hn] at e6;clear hn HM8;go_wp2_with fail;refine(CL.out _ M6.out).mono ?_;rintro e w7 ⟨rfl,L7⟩;go_wp2;go_ret;exact⟨rfl,step M6.out L7⟩
  ·have hq:(nx==0)=false:=by simpa using hn
   have h8:m%8=0:=HM8.out hn;have h8i:(m:Int).tmod 8=0:=by rw[Int.tmod_eq_emod_of_nonneg (by omega)];omega
   clear HM8 h8;go_wp2_with fail;refine(CL.out _ M6.out).mono ?_;rintro e w7 ⟨rfl,L7⟩;go_wp2;go_ret;exact⟨rfl,step M6.out L7⟩
 ·have hne:(W4a a0 != 0)=true:=by simpa using he
  rw[H5b he] at CP;obtain⟨er,her⟩:∃x,x=W4a a0:=⟨_,rfl⟩;rw[<-her] at CP hne;clear her he sm fs fa hT h0h b0 HO HYB HYL;go_enter Tryz.func4,Tryz.ntmps4;go_wp2_with(first
   | ((with_reducible refine sN 1 ?_);refine f0a rfl _ (.tmp 0) rfl cs0 rfl ?_;intro g v1 hg1 hg2 K1 L1)
   | ((with_reducible refine sN 8 ?_);refine e0a rfl _ (.tmp 1) rfl g rfl _ cs0 K1 115 _ Tryz.underlying41 rfl r1a HL ?_)
   | fail)
  refine(CP.out v1 L1.out).mono ?_;rintro e w2 ⟨v,rfl,ho,L2⟩;have M2:=hI (step L1.out L2);obtain⟨A2,c2,rfl,hh2⟩:=X0a.holds8 ho (Bytes.zeros 0) (by simp);clear hh2 ho L2 K1 L1 CP;go_wp2_with fail;refine(CL.out _ M2.out).mono ?_;rintro e w7 ⟨rfl,L7⟩;go_wp2;go_ret;exact⟨rfl,step M2.out L7⟩
end Go.Proofs.YtgfflnjggnadpaaGreatDoor
