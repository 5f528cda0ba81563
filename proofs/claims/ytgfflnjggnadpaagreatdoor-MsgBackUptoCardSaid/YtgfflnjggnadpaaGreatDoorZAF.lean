import Derived.Test.YtgfflnjggnadpaaGreatDoorZAE
import Derived.Test.YtgfflnjggnadpaaGreatDoorS0
set_option linter.all false
set_option maxHeartbeats 8000000
set_option maxRecDepth 100000
namespace Go.Proofs.YtgfflnjggnadpaaGreatDoor
set_option maxRecDepth 100000
theorem S9a(c:Int)(a:m1a):s2a c a=i0a↔c2b c a=a:=by
 obtain⟨a1,a2,a3,a4,a5,a6,a7,a8,a9,a10,a11,a12,a13,a14,a15,a16,a17,a18,a19,a20,a21,a22,a23⟩:=a;unfold s2a c2b;split
 ·simp only[i0a,m1a.mk.injEq];constructor<;>(intro h;obtain⟨h1,h2,h3,h4,h5,h6,h7,h8,h9,h10,h11,h12,h13,h14,h15,h16,h17,h18,h19,h20,h21,h22,h23⟩:=h;subst_vars;simp)
 ·split
  ·simp only[i0a,m1a.mk.injEq];constructor<;>(intro h;obtain⟨h1,h2,h3,h4,h5,h6,h7,h8,h9,h10,h11,h12,h13,h14,h15,h16,h17,h18,h19,h20,h21,h22,h23⟩:=h;subst_vars;simp)
  ·split
   ·split
    ·simp only[i0a,m1a.mk.injEq];constructor<;>(intro h;obtain⟨h1,h2,h3,h4,h5,h6,h7,h8,h9,h10,h11,h12,h13,h14,h15,h16,h17,h18,h19,h20,h21,h22,h23⟩:=h;subst_vars;simp)
    ·split
     ·simp only[i0a,m1a.mk.injEq];constructor<;>(intro h;obtain⟨h1,h2,h3,h4,h5,h6,h7,h8,h9,h10,h11,h12,h13,h14,h15,h16,h17,h18,h19,h20,h21,h22,h23⟩:=h;subst_vars;simp)
     ·simp only[i0a,m1a.mk.injEq];constructor<;>(intro h;obtain⟨h1,h2,h3,h4,h5,h6,h7,h8,h9,h10,h11,h12,h13,h14,h15,h16,h17,h18,h19,h20,h21,h22,h23⟩:=h;subst_vars;simp)
   ·split
    ·simp only[i0a,m1a.mk.injEq];constructor<;>(intro h;obtain⟨h1,h2,h3,h4,h5,h6,h7,h8,h9,h10,h11,h12,h13,h14,h15,h16,h17,h18,h19,h20,h21,h22,h23⟩:=h;subst_vars;simp)
    ·exact eq_comm
theorem X8a(c:Int)(s:M1a):a3a c s=q0a↔T5b c s=s:=by
 obtain⟨a1,a2,a3,a4,a5,a6,a7,a8,a9,a10,a11,a12,a13⟩:=s;unfold a3a T5b;split
 ·simp only[q0a,M1a.mk.injEq];constructor<;>(intro h;obtain⟨h1,h2,h3,h4,h5,h6,h7,h8,h9,h10,h11,h12,h13⟩:=h;subst_vars;simp)
 ·split
  ·simp only[q0a,M1a.mk.injEq];constructor<;>(intro h;obtain⟨h1,h2,h3,h4,h5,h6,h7,h8,h9,h10,h11,h12,h13⟩:=h;subst_vars;simp)
  ·split
   ·simp only[q0a,M1a.mk.injEq];constructor<;>(intro h;obtain⟨h1,h2,h3,h4,h5,h6,h7,h8,h9,h10,h11,h12,h13⟩:=h;subst_vars;simp)
   ·exact eq_comm
theorem Y8a{c:Int}{s:M1a}(h:N4a c s=0):G5a c=true/\T5b c s=s/\s.kind<=2/\s.ents.all w3a=true/\s.ents.length<=64/\(c=14->w1a s.ents=0)/\A1b c s=e3a c s:=by
 have h0:=h;unfold N4a at h;by_cases h1:L3a c s=true/\s.kind<=2/\s.ents.all w3a=true
 ·rw[if_pos h1] at h;by_cases h2:s.ents.length<=64
  ·rw[if_pos h2] at h;obtain⟨h3,h4,h5⟩:=h1;unfold L3a at h3;simp only[Bool.and_eq_true,decide_eq_true_eq] at h3;exact⟨h3.1,(X8a c s).1 h3.2,h4,h5,h2,λhc=>by rw[if_pos hc] at h;exact h,by unfold A1b;rw[if_pos h0]⟩
  ·rw[if_neg h2] at h;exact absurd h (by decide)
 ·rw[if_neg h1] at h;exact absurd h (by decide)
theorem g0c{c:Int}{a:m1a}(k:a.ok):Bytes (i9a c a):=by
 unfold i9a;split
 ·unfold x3a;split
  ·exact(F0a _ _).append ((F0a _ _).append ((Bytes.zeros 2).append ((b2a _).append (b2a _))))
  ·split
   ·exact F0a _ _
   ·split
    ·split
     ·exact(F0a _ _).append ((F0a _ _).append (F0a _ _))
     ·split
      ·exact(F0a _ _).append ((F0a _ _).append (F0a _ _))
      ·exact(F0a _ _).append ((F0a _ _).append ((F0a _ _).append (b2a _)))
    ·split
     ·exact(F0a _ _).append ((F0a _ _).append (Bytes.zeros 3))
     ·exact Bytes.zeros 4
 ·exact Bytes.nil
theorem x2c{c:Int}{a:m1a}:(i9a c a).length<=70000:=by
 have h1:=k3a a.pat.data.toList;have h2:=k3a a.aft.data.toList;have h3:=k3a a.name.data.toList;unfold i9a;split
 ·unfold x3a;repeat' split
  all_goals (simp only[List.length_append,g0a,List.length_replicate];omega)
 ·simp
theorem h0c{c:Int}{a:M1a}(k:a.ok):Bytes (A1b c a):=by
 unfold A1b;split
 ·unfold e3a;split
  ·exact(F0a _ _).append ((F0a _ _).append (d2b _))
  ·split
   ·exact(F0a _ _).append ((F0a _ _).append (F0a _ _))
   ·split
    ·exact(F0a _ _).append ((F0a _ _).append (Bytes.zeros 3))
    ·exact Bytes.zeros 4
 ·exact Bytes.nil
theorem y2c{c:Int}{a:M1a}:(A1b c a).length<=70000:=by
 unfold A1b;split
 ·rename_i he;obtain⟨_,_,_,_,hl,_,_⟩:=Y8a he;have h1:=C1b a.ents;unfold e3a;repeat' split
  all_goals (simp only[List.length_append,g0a,List.length_replicate];omega)
 ·simp
theorem P7a{xs:List Int}{r:Rd}(hx:Bytes xs)(h:(rdT xs r).2.e=0):r.e=0/\xs.take (rdT xs r).2.p=xs.take r.p++le (V0a ((rdT xs r).1 != 0)) 2:=by obtain⟨m1,m2,m3⟩:=X5a hx (by decide) (show(b1a xs 2 1 5 r).2.e=0 from h);obtain⟨q1,q2⟩:=I0c hx r;refine⟨m1,?_⟩;rw[q8b q1 q2];exact m3
theorem r4b{xs:List Int}{r:Rd}(hx:Bytes xs)(h:(rdK xs r).2.e=0):r.e=0/\xs.take (rdK xs r).2.p=xs.take r.p++le (rdK xs r).1 2:=by obtain⟨m1,m2,m3⟩:=X5a hx (by decide) (show(b1a xs 2 2 5 r).2.e=0 from h);exact⟨m1,m3⟩
theorem i0c{xs:List Int}{r:Rd}(hx:Bytes xs)(h:(i4a xs r).2.e=0):r.e=0/\y0a (i4a xs r).1.name.data.toList=0/\xs.take (i4a xs r).2.p=xs.take r.p++E6a (i4a xs r).1:=by
 obtain⟨t1,t2,t3⟩:=n7a hx (show(L1a xs (e3 xs r).2).2.e=0 from h);obtain⟨a1,a2,a3⟩:=X5a hx (by decide) (show(b1a xs 8 1048576 5 (e2 xs r)).2.e=0 from t1);obtain⟨z1,z2⟩:=W5a (show(rdZ xs 2 (e1 xs r).2).e=0 from a1);obtain⟨d1,d2⟩:=r4b hx (show(rdK xs r).2.e=0 from z1);refine⟨d1,t2,?_⟩;show xs.take (L1a xs (e3 xs r).2).2.p=xs.take r.p++(le (rdK xs r).1 2++(List.replicate 2 0++(le (b1a xs 8 1048576 5 (e2 xs r)).1 8++A0a (L1a xs (e3 xs r).2).1)))
 rw[t3];show xs.take (b1a xs 8 1048576 5 (e2 xs r)).2.p++_=_
 rw[a3];show xs.take (rdZ xs 2 (e1 xs r).2).p++_++_=_
 rw[z2];show xs.take (rdK xs r).2.p++_++_++_=_
 rw[d2];simp only[List.append_assoc]
theorem s4b{xs:List Int}{r:Rd}(hx:Bytes xs):∀k,(V1a xs r k).2.e=0->r.e=0/\w1a (V1a xs r k).1=0/\xs.take (V1a xs r k).2.p=xs.take r.p++W0a (V1a xs r k).1
 | 0,h=>⟨h,rfl,by show xs.take r.p=xs.take r.p++[];rw[List.append_nil]⟩
 | k+1,h=>by
  have h':(i4a xs (V1a xs r k).2).2.e=0:=h;obtain⟨l1,l2,l3⟩:=i0c hx h';obtain⟨i1,i2,i3⟩:=s4b hx k l1;refine⟨i1,?_,?_⟩
  ·show w1a ((V1a xs r k).1++[(i4a xs (V1a xs r k).2).1])=0
   rw[B1b,if_pos i2];show(if y0a (i4a xs (V1a xs r k).2).1.name.data.toList=0 then w1a [] else _)=0
   rw[if_pos l2];rfl
  ·show xs.take (i4a xs (V1a xs r k).2).2.p=xs.take r.p++W0a ((V1a xs r k).1++[(i4a xs (V1a xs r k).2).1])
   rw[l3,i3,C5a,List.append_assoc];simp only[W0a,List.append_nil]
theorem b2'{xs:List Int}(hx:Bytes xs)(r:Rd):0<=(rdN xs 2 r).1/\(rdN xs 2 r).1<=65535:=by have:=P4a hx 2 r 65536 (by decide) (by decide);exact⟨this.1,by omega⟩
theorem m1c(c:Int){xs:List Int}(hx:Bytes xs)(h:Y3a c xs=0):q4a c (F6a c xs)=0/\i9a c (F6a c xs)=xs/\(F6a c xs).ok:=by
 have e0:F6a c xs=(igP c xs).1:=by unfold F6a;rw[if_pos h]
 unfold Y3a at h;by_cases hk:Z7a c=true;rotate_left
 ·rw[if_neg hk] at h;exact absurd h (by decide)
 rw[if_pos hk] at h;obtain⟨h1,h2⟩:=u4a h;rw[e0];have key:∀a:m1a,c2b c a=a->(c=17->1<=a.cls/\a.cls<=3)->(c=14->y0a a.pat.data.toList=0/\y0a a.aft.data.toList=0)->(c=17->a.cls=3->y0a a.name.data.toList=0)->a.ok->x3a c a=xs->q4a c a=0/\i9a c a=xs/\a.ok:=by
  intro a w1 w2 w3 w4 w6 w7;have hn:h4a c a=true:=by
   unfold h4a S8a;rw[hk,(S9a c a).2 w1];by_cases h17:c=17
   ·obtain⟨q1,q2⟩:=w2 h17;simp[q1,q2]
   ·simp[h17]
  have e:q4a c a=0:=by
   unfold q4a;rw[if_pos hn];split
   ·rename_i h14;rw[if_pos (w3 h14).1];exact(w3 h14).2
   ·split
    ·rename_i h17;exact w4 h17.1 h17.2
    ·rfl
  exact⟨e,by unfold i9a;rw[if_pos e];exact w7,w6⟩
 have zd:=h0a;unfold igP at h1 h2⊢;rcases F4a hk with k | k | k | k | k
 ·subst k;simp only[show ¬((12:Int)=14) by decide,show ¬((12:Int)=16) by decide,show ¬((12:Int)=17) by decide,show ¬((12:Int)=18) by decide,if_false] at h1 h2⊢;obtain⟨u1,v1⟩:=W5a h1;exact key _ rfl (λh=>absurd h (by decide)) (λh=>absurd h (by decide)) (λh=>absurd h (by decide)) zd (whole (r:=rdZ xs 4 rd0) v1 h2)
 ·subst k;simp only[if_true] at h1 h2⊢;obtain⟨u5,w5,v5⟩:=n7a hx h1;obtain⟨u4,w4,v4⟩:=n7a hx u5;obtain⟨u3,v3⟩:=W5a u4;obtain⟨u2,v2⟩:=e2a hx u3;obtain⟨u1,v1⟩:=e2a hx u2;refine key _ rfl (λh=>absurd h (by decide)) (λ_=>⟨w4,w5⟩) (λh=>absurd h (by decide)) ⟨zd.dial,zd.glen,zd.gbyte,zd.plen,zd.pbyte,zd.acc,zd.shr,zd.way,zd.opt,zd.lev,zd.dur,b8 hx _,zd.at_,zd.n,zd.data,zd.locks,b2' hx _,zd.cls,zd.siz⟩ ?_;refine whole (r:=(l5 xs).2) ?_ h2;show xs.take (L1a xs (l4 xs).2).2.p=le (l1 xs).1 8++(le (l2 xs).1 2++(List.replicate 2 0++(A0a (L1a xs (l3 xs)).1++A0a (L1a xs (l4 xs).2).1)))
  rw[v5];show xs.take (L1a xs (l3 xs)).2.p++_=_
  rw[v4];show xs.take (rdZ xs 2 (l2 xs).2).p++_++_=_
  rw[v3];show xs.take (rdN xs 2 (l1 xs).2).2.p++_++_++_=_
  rw[v2];show xs.take (rdN xs 8 rd0).2.p++_++_++_++_=_
  rw[v1,show xs.take rd0.p=[] from rfl,List.nil_append];simp only[List.append_assoc];rfl
 ·subst k;simp only[show ¬((16:Int)=14) by decide,if_true,if_false] at h1 h2⊢;obtain⟨u1,v1⟩:=e2a hx h1;refine key _ rfl (λh=>absurd h (by decide)) (λh=>absurd h (by decide)) (λh=>absurd h (by decide)) ⟨zd.dial,zd.glen,zd.gbyte,zd.plen,zd.pbyte,zd.acc,zd.shr,zd.way,zd.opt,zd.lev,zd.dur,b8 hx _,zd.at_,zd.n,zd.data,zd.locks,zd.most,zd.cls,zd.siz⟩ ?_;exact whole (r:=(l1 xs).2) v1 h2
 ·subst k;simp only[show ¬((17:Int)=14) by decide,show ¬((17:Int)=16) by decide,if_true,if_false] at h1 h2⊢;have start:(l2 xs).2.e=0->xs.take (l2 xs).2.p=le (l1 xs).1 8++le (l2 xs).1 2:=by
   intro u;obtain⟨u2,v2⟩:=e2a hx u;obtain⟨u1,v1⟩:=e2a hx u2;show xs.take (rdN xs 2 (l1 xs).2).2.p=_
   rw[v2];show xs.take (rdN xs 8 rd0).2.p++_=_
   rw[v1,show xs.take rd0.p=[] from rfl,List.nil_append];rfl
  by_cases c1:(l2 xs).1=1
  ·simp only[if_pos c1] at h1 h2⊢;obtain⟨u3,v3⟩:=e2a hx h1;have v2:=start u3;refine key _ ?_ (λ_=>?_) (λh=>absurd h (by decide)) (λ_ h3=>?_) ⟨zd.dial,zd.glen,zd.gbyte,zd.plen,zd.pbyte,zd.acc,zd.shr,zd.way,zd.opt,zd.lev,zd.dur,b8 hx _,zd.at_,zd.n,zd.data,zd.locks,zd.most,b2' hx _,b8 hx _⟩ ?_
   ·unfold c2b;rw[if_neg (by decide),if_neg (by decide),if_pos rfl];show(if (l2 xs).1=1 then _ else _)=_
    rw[if_pos c1]
   ·show 1<=(l2 xs).1/\(l2 xs).1<=3
    omega
   ·have h4:(l2 xs).1=3:=h3;omega
   ·refine whole (r:=(t3 xs).2) ?_ h2;show xs.take (rdN xs 8 (l2 xs).2).2.p=if (l2 xs).1=1 then le (l1 xs).1 8++(le (l2 xs).1 2++le (rdN xs 8 (l2 xs).2).1 8) else _
    rw[if_pos c1,v3,v2];simp only[List.append_assoc]
  ·by_cases c2:(l2 xs).1=2
   ·simp only[if_neg c1,if_pos c2] at h1 h2⊢;obtain⟨u3,v3⟩:=P7a hx h1;have v2:=start u3;refine key _ ?_ (λ_=>?_) (λh=>absurd h (by decide)) (λ_ h3=>?_) ⟨zd.dial,zd.glen,zd.gbyte,zd.plen,zd.pbyte,zd.acc,zd.shr,zd.way,zd.opt,zd.lev,zd.dur,b8 hx _,zd.at_,zd.n,zd.data,zd.locks,zd.most,b2' hx _,zd.siz⟩ ?_
    ·unfold c2b;rw[if_neg (by decide),if_neg (by decide),if_pos rfl];show(if (l2 xs).1=1 then _ else if (l2 xs).1=2 then _ else _)=_
     rw[if_neg c1,if_pos c2]
    ·show 1<=(l2 xs).1/\(l2 xs).1<=3
     omega
    ·have h4:(l2 xs).1=3:=h3;omega
    ·refine whole (r:=(t4 xs).2) ?_ h2;show xs.take (rdT xs (l2 xs).2).2.p=if (l2 xs).1=1 then _ else if (l2 xs).1=2 then le (l1 xs).1 8++(le (l2 xs).1 2++le (V0a ((rdT xs (l2 xs).2).1 != 0)) 2) else _
     rw[if_neg c1,if_pos c2,v3,v2];simp only[List.append_assoc]
   ·by_cases c3:(l2 xs).1=3
    ·simp only[if_neg c1,if_neg c2,if_pos c3] at h1 h2⊢;obtain⟨u4,w4,v4⟩:=n7a hx h1;obtain⟨u3,v3⟩:=P7a hx u4;have v2:=start u3;refine key _ ?_ (λ_=>?_) (λh=>absurd h (by decide)) (λ_ h3=>?_) ⟨zd.dial,zd.glen,zd.gbyte,zd.plen,zd.pbyte,zd.acc,zd.shr,zd.way,zd.opt,zd.lev,zd.dur,b8 hx _,zd.at_,zd.n,zd.data,zd.locks,zd.most,b2' hx _,zd.siz⟩ ?_
     ·unfold c2b;rw[if_neg (by decide),if_neg (by decide),if_pos rfl];show(if (l2 xs).1=1 then _ else if (l2 xs).1=2 then _ else _)=_
      rw[if_neg c1,if_neg c2]
     ·show 1<=(l2 xs).1/\(l2 xs).1<=3
      omega
     ·exact w4
     ·refine whole (r:=(t5 xs).2) ?_ h2;show xs.take (L1a xs (t4 xs).2).2.p=if (l2 xs).1=1 then _ else if (l2 xs).1=2 then _ else le (l1 xs).1 8++(le (l2 xs).1 2++(le (V0a ((rdT xs (l2 xs).2).1 != 0)) 2++A0a (L1a xs (t4 xs).2).1))
      rw[if_neg c1,if_neg c2,v4];show xs.take (rdT xs (l2 xs).2).2.p++_=_
      rw[v3,v2];simp only[List.append_assoc]
    ·simp only[if_neg c1,if_neg c2,if_neg c3] at h1 h2⊢;unfold V2a at h1;split at h1
     ·exact absurd h1 (show ¬(5:Int)=0 by decide)
     ·rename_i hne;exact absurd h1 hne
 ·subst k;simp only[show ¬((18:Int)=14) by decide,show ¬((18:Int)=16) by decide,show ¬((18:Int)=17) by decide,if_true,if_false] at h1 h2⊢;obtain⟨u3,v3⟩:=W5a h1;obtain⟨u2,v2⟩:=e2a hx u3;obtain⟨u1,v1⟩:=e2a hx u2;refine key _ rfl (λh=>absurd h (by decide)) (λh=>absurd h (by decide)) (λh=>absurd h (by decide)) ⟨zd.dial,zd.glen,zd.gbyte,zd.plen,zd.pbyte,zd.acc,zd.shr,zd.way,zd.opt,b1' hx _,zd.dur,b8 hx _,zd.at_,zd.n,zd.data,zd.locks,zd.most,zd.cls,zd.siz⟩ ?_;refine whole (r:=k3 xs) ?_ h2;show xs.take (rdZ xs 3 (k2 xs).2).p=le (l1 xs).1 8++(le (k2 xs).1 1++List.replicate 3 0)
  rw[v3];show xs.take (rdN xs 1 (l1 xs).2).2.p++_=_
  rw[v2];show xs.take (rdN xs 8 rd0).2.p++_++_=_
  rw[v1,show xs.take rd0.p=[] from rfl,List.nil_append];simp only[List.append_assoc];rfl
theorem R8b(c:Int){xs:List Int}(hx:Bytes xs)(h:t5a c xs=0):N4a c (L9a c xs)=0/\A1b c (L9a c xs)=xs/\(L9a c xs).ok:=by
 have e0:L9a c xs=(jgP c xs).1:=by unfold L9a;rw[if_pos h]
 unfold t5a at h;by_cases hk:G5a c=true;rotate_left
 ·rw[if_neg hk] at h;exact absurd h (by decide)
 rw[if_pos hk] at h;obtain⟨h1,h2⟩:=u4a h;rw[e0];have key:∀a:M1a,T5b c a=a->a.kind<=2->a.ents.all w3a=true->a.ents.length<=64->(c=14->w1a a.ents=0)->a.ok->e3a c a=xs->N4a c a=0/\A1b c a=xs/\a.ok:=by
  intro a w1 w2 w3 w4 w5 w6 w7;have hn:L3a c a=true:=by unfold L3a;rw[hk,(X8a c a).2 w1];simp
  have e:N4a c a=0:=by
   unfold N4a;rw[if_pos ⟨hn,w2,w3⟩,if_pos w4];split
   ·rename_i h14;exact w5 h14
   ·rfl
  exact⟨e,by unfold A1b;rw[if_pos e];exact w7,w6⟩
 have zd:=G0a;have m0:=d3a hx 2 64 3 rd0 ⟨by decide,by decide⟩ (by decide);have kk:=r8b hx (l1 xs).2;have ek:=s8b hx (m2 xs).2 (m1 xs).1.toNat;have el:=y2b (xs:=xs) (r:=(m2 xs).2) (m1 xs).1.toNat;unfold jgP at h1 h2⊢;rcases j4a hk with k | k | k | k
 ·subst k;simp only[if_true] at h1 h2⊢;obtain⟨u3,w3,v3⟩:=s4b hx _ (show(V1a xs (m2 xs).2 (m1 xs).1.toNat).2.e=0 from h1);obtain⟨u2,v2⟩:=P7a hx u3;obtain⟨u1,_,v1⟩:=X5a hx (by decide) u2;have hl:((V1a xs (m2 xs).2 (m1 xs).1.toNat).1.length:Int)=(m1 xs).1:=by
   rw[el];show((b1a xs 2 64 3 rd0).1.toNat:Int)=(b1a xs 2 64 3 rd0).1
   omega
  refine key _ rfl (show(0:Int)<=2 by decide) ek.2 ?_ (λ_=>w3) ⟨zd.dia,zd.siz,zd.clen,zd.cbyte,zd.lev,zd.dur,zd.made,zd.file,zd.kind,zd.data,zd.n,ek.1⟩ ?_
  ·show(V1a xs (m2 xs).2 (m1 xs).1.toNat).1.length<=64
   have:(m1 xs).1<=64:=m0.2;omega
  ·refine whole (r:=(m3 xs).2) ?_ h2;show xs.take (V1a xs (m2 xs).2 (m1 xs).1.toNat).2.p=le ((V1a xs (m2 xs).2 (m1 xs).1.toNat).1.length:Int) 2++(le (V0a ((rdT xs (m1 xs).2).1 != 0)) 2++W0a (V1a xs (m2 xs).2 (m1 xs).1.toNat).1)
   rw[v3,hl];show xs.take (rdT xs (m1 xs).2).2.p++_=_
   rw[v2];show xs.take (b1a xs 2 64 3 rd0).2.p++_++_=_
   rw[v1,show xs.take rd0.p=[] from rfl,List.nil_append];simp only[List.append_assoc];rfl
 ·subst k;simp only[show ¬((16:Int)=14) by decide,if_true,if_false] at h1 h2⊢;obtain⟨u3,v3⟩:=P7a hx h1;obtain⟨u2,v2⟩:=r4b hx u3;obtain⟨u1,v1⟩:=e2a hx u2;refine key _ rfl kk.2 rfl (Nat.zero_le _) (λ_=>rfl) ⟨zd.dia,b8 hx _,zd.clen,zd.cbyte,zd.lev,zd.dur,zd.made,zd.file,⟨kk.1,?_⟩,zd.data,zd.n,zd.ents⟩ ?_
  ·show(rdK xs (l1 xs).2).1<=255;omega
  ·refine whole (r:=(g3 xs).2) ?_ h2;show xs.take (rdT xs (g2 xs).2).2.p=le (l1 xs).1 8++(le (rdK xs (l1 xs).2).1 2++le (V0a ((rdT xs (g2 xs).2).1 != 0)) 2)
   rw[v3];show xs.take (rdK xs (l1 xs).2).2.p++_=_
   rw[v2];show xs.take (rdN xs 8 rd0).2.p++_++_=_
   rw[v1,show xs.take rd0.p=[] from rfl,List.nil_append];simp only[List.append_assoc];rfl
 ·subst k;simp only[show ¬((17:Int)=14) by decide,show ¬((17:Int)=16) by decide,show ¬((17:Int)=18) by decide,if_false] at h1 h2⊢;obtain⟨u1,v1⟩:=W5a h1;exact key _ rfl (by decide) rfl (Nat.zero_le _) (λ_=>rfl) zd (whole (r:=rdZ xs 4 rd0) v1 h2)
 ·subst k;simp only[show ¬((18:Int)=14) by decide,show ¬((18:Int)=16) by decide,if_true,if_false] at h1 h2⊢;obtain⟨u3,v3⟩:=W5a h1;obtain⟨u2,v2⟩:=e2a hx u3;obtain⟨u1,v1⟩:=e2a hx u2;refine key _ rfl (show(0:Int)<=2 by decide) rfl (Nat.zero_le _) (λ_=>rfl) ⟨zd.dia,zd.siz,zd.clen,zd.cbyte,b1' hx _,zd.dur,zd.made,b8 hx _,zd.kind,zd.data,zd.n,zd.ents⟩ ?_;refine whole (r:=k3 xs) ?_ h2;show xs.take (rdZ xs 3 (k2 xs).2).p=le (l1 xs).1 8++(le (k2 xs).1 1++List.replicate 3 0)
  rw[v3];show xs.take (rdN xs 1 (l1 xs).2).2.p++_=_
  rw[v2];show xs.take (rdN xs 8 rd0).2.p++_++_=_
  rw[v1,show xs.take rd0.p=[] from rfl,List.nil_append];simp only[List.append_assoc];rfl
theorem n1c(c:Int){xs:List Int}(hx:Bytes xs):(F6a c xs).ok:=by
 by_cases h:Y3a c xs=0
 ·exact(m1c c hx h).2.2
 ·unfold F6a;rw[if_neg h];exact h0a
theorem o1c(c:Int){xs:List Int}(hx:Bytes xs):(L9a c xs).ok:=by
 by_cases h:t5a c xs=0
 ·exact(R8b c hx h).2.2
 ·unfold L9a;rw[if_neg h];exact G0a
theorem E5a{xs:List Int}(hx:Bytes xs)(r:Rd):(⟨(L1a xs r).1.toArray⟩:ByteArray).size<=262140:=by
 rw[m8b];unfold L1a;split
 ·exact Q6b hx _
 ·exact Nat.zero_le _
theorem Z6b(c:Int){xs:List Int}(hx:Bytes xs):(F6a c xs).dial.length<=0/\(F6a c xs).data.length<=0/\(F6a c xs).locks.length<=0/\(F6a c xs).name.size<=262140/\(F6a c xs).pat.size<=262140/\(F6a c xs).aft.size<=262140/\(F6a c xs).user.size<=0/\(F6a c xs).share.size<=0:=by
 have z:i0a.name.size<=262140/\i0a.pat.size<=262140/\i0a.aft.size<=262140/\i0a.user.size<=0/\i0a.share.size<=0:=by decide
 by_cases h:Y3a c xs=0
 ·unfold F6a;rw[if_pos h];unfold igP;split
  ·exact⟨Nat.zero_le _,Nat.zero_le _,Nat.zero_le _,z.1,E5a hx _,E5a hx _,z.2.2.2⟩
  ·split
   ·exact⟨Nat.zero_le _,Nat.zero_le _,Nat.zero_le _,z⟩
   ·split
    ·split
     ·exact⟨Nat.zero_le _,Nat.zero_le _,Nat.zero_le _,z⟩
     ·split
      ·exact⟨Nat.zero_le _,Nat.zero_le _,Nat.zero_le _,z⟩
      ·split
       ·exact⟨Nat.zero_le _,Nat.zero_le _,Nat.zero_le _,E5a hx _,z.2⟩
       ·exact⟨Nat.zero_le _,Nat.zero_le _,Nat.zero_le _,z⟩
    ·split
     ·exact⟨Nat.zero_le _,Nat.zero_le _,Nat.zero_le _,z⟩
     ·exact⟨Nat.zero_le _,Nat.zero_le _,Nat.zero_le _,z⟩
 ·unfold F6a;rw[if_neg h];exact⟨Nat.zero_le _,Nat.zero_le _,Nat.zero_le _,z⟩
theorem t4b{xs:List Int}(hx:Bytes xs)(r:Rd)(k:Nat):∀e∈(V1a xs r k).1,e.name.size<=262140:=by
 induction k with
 | zero=>intro e h;cases h
 | succ k ih=>
  intro e h;rcases List.mem_append.1 h with h | h
  ·exact ih e h
  ·rw[List.mem_singleton.1 h];exact E5a hx _
theorem a7b(c:Int){xs:List Int}(hx:Bytes xs):(L9a c xs).data.length<=0/\(L9a c xs).ents.length<=64/\∀e∈(L9a c xs).ents,e.name.size<=262140:=by
 by_cases h:t5a c xs=0
 ·obtain⟨h1,_,_⟩:=R8b c hx h;obtain⟨_,_,_,_,hl,_⟩:=Y8a h1;refine⟨?_,hl,?_⟩
  ·unfold L9a;rw[if_pos h];unfold jgP;repeat' split
   all_goals exact Nat.zero_le _
  ·unfold L9a;rw[if_pos h];unfold jgP;split
   ·exact t4b hx _ _
   ·split
    ·intro e h;cases h
    ·split
     ·intro e h;cases h
     ·intro e h;cases h
 ·unfold L9a;rw[if_neg h];exact⟨Nat.zero_le _,Nat.zero_le _,λe h=>by cases h⟩
open Go.RowKit
theorem W5b{m:J5a}(k:m.ok):Bytes (u6a m):=by
 unfold u6a pso pao;split
 ·split
  ·split
   ·exact j8b k.s
   ·split
    ·exact W9b k.s
    ·exact h0c k.s
  ·split
   ·exact i8b k.a
   ·split
    ·exact V9b k.a
    ·exact g0c k.a
 ·exact Bytes.zeros 0
theorem M0c{m:J5a}(k:m.ok):(u6a m).length<=70000:=by
 unfold u6a pso pao;split
 ·split
  ·split
   ·exact a1c k.s
   ·split
    ·exact c2c
    ·exact y2c
  ·split
   ·exact Z0c k.a
   ·split
    ·exact b2c
    ·exact x2c
 ·exact Nat.zero_le _
theorem u4b{h:Hd}{b:List Int}(hb:Bytes b):Bytes (Q4a h b):=by
 unfold Q4a;split
 ·exact hb
 ·exact hb.append (Bytes.zeros _)
theorem X5b{m:J5a}(k:m.ok):Bytes (f6a m):=by
 unfold f6a;split
 ·exact(K5a k.h.byte).append (u4b (W5b k))
 ·exact Bytes.zeros 0
theorem N0c{m:J5a}(k:m.ok):(f6a m).length<=70071:=by
 unfold f6a;split
 ·have h1:=S6b m.h (u6a m);have h2:=M0c k;have h3:=b4a k.h.len;simp only[List.length_append];omega
 ·exact Nat.zero_le _
theorem p1c{xs:List Int}{n:Nat}(h:L6a xs n=true):n<=xs.length/\xs=xs.take (xs.length-n)++List.replicate n 0:=by
 unfold L6a at h;rw[decide_eq_true_iff] at h;have hl:=congrArg List.length h;rw[List.length_drop,List.length_replicate] at hl;refine⟨by omega,?_⟩
 conv=>lhs;rw[<-List.take_append_drop (xs.length-n) xs]
 rw[h]
theorem G6a{w:World}{base n:Nat}{v:Value}{xs:List Int}(h0:0<n)(hn:n<=65536)(hown:X0a .u8 5 w base v xs)(hx:xs.length<=1000000)(hbase:base<=w.heap.size)(ty:TypeId) :
  ∃v' w',(Builtin.append_ #[31,3] ty #[v,.int .i64 (n:Int)]).run Tryz.prog w=.ok v' w'/\X0a .u8 5 w' base v' (xs++List.replicate n 0)/\w.grownBy w' v.ownBlock:=by
 obtain⟨i0,hi,hz0,hz1,hz2⟩:=info_parts N3a;have hmax:maxLen=9223372036854775807:=rfl;have ht:Tryz.prog.underlying 31=some (.slice 5):=Tryz.underlying31;have htn:Tryz.prog.underlying 3=some (.int .i64):=Tryz.underlying3;have hw:IntKind.i64.wrap (n:Int)=n:=by rw[IntKind.wrap_i64];omega
 have hneg:¬((n:Int)<0):=by omega
 have h48i:¬(281474976710656<(n:Int)*(i0.bytes:Int)):=by rw[hz2];omega
 have hns:¬(n*i0.size=0):=by rw[hz1];omega
 have hn0:n≠0:=by omega
 have hOK:=hown.own;rcases hown with⟨rfl,rfl⟩ | ⟨g,z,rfl,hb,hz,hg⟩
 ·have hrun:=Lib.run_append_nil_zeros (P:=Tryz.prog) w 31 3 ty 5 i0 (.int .u8 0) .i64 .i64 ht htn hi hz0 n h0 (by omega) (by omega) (by rw[hz2];omega);refine⟨_,_,hrun,?_,⟨rfl,rfl,rfl,by simp,λj hj _=>Below.heap_alloc w.drew _ j hj⟩⟩;have:=v5a .u8 5 w base (List.replicate n 0) 0 n (by simp) hbase (by omega);rw[A3a .u8 n,List.nil_append];simpa using this
 ·by_cases hroom:xs.length+n<=xs.length+z
  ·have hst:=run_storeCells_at Tryz.prog g (xs.length*i0.size) 5 ((List.replicate n (0:Int)).map (Value.int .u8)) 0 _ w hg (by simp[hz1];omega) (by intro u hu;obtain⟨x,_,rfl⟩:=List.mem_map.1 hu;rfl);simp only[Nat.add_zero] at hst;have hzc:(Builtin.zeroCells (Value.int .u8 0).cells n).toList=(List.replicate n (0:Int)).map (Value.int .u8):=by rw[A3a];simp
   refine⟨.slice (some ⟨g,0,none⟩) (xs.length+n) (xs.length+z),w.setRow g ((xs++List.replicate n 0++List.replicate (z-n) 0).map (Value.int .u8)).toArray,?_,.inr ⟨g,z-n,by simp;omega,hb,by simp;omega,setRow_heap w g _ _ 5 _ hg⟩,?_⟩;rotate_left
   ·exact⟨rfl,rfl,rfl,by simp,λj _ hj=>setRow_other w g j _ (λe=>hj (by simp[Value.ownBlock,e]))⟩
   ·have e1:((xs++List.replicate z (0:Int)).map (Value.int .u8)).take (xs.length*i0.size)=xs.map (Value.int .u8):=by rw[hz1,Nat.mul_one,List.map_append,List.take_left' (by simp)]
    have e2:((xs++List.replicate z (0:Int)).map (Value.int .u8)).drop (xs.length*i0.size+((List.replicate n (0:Int)).map (Value.int .u8)).length)=(List.replicate (z-n) (0:Int)).map (Value.int .u8):=by rw[hz1,Nat.mul_one,List.length_map,List.length_replicate,<-List.drop_drop,List.map_append,List.drop_left' (by simp),<-List.map_drop,List.drop_replicate]
    rw[e1,e2,<-hzc] at hst;rw[List.map_append,List.map_append,<-hzc];have hroom2:n<=z:=by omega
    simp[Builtin.append_,run_underlying ht,run_underlying htn,sizeOf,typeInfo,zeroValue,hi,hz0,asInt,asIntOf,hw,hneg,hns,h48i,hroom2,Addr.add_lit,hst,hn0]
  ·have o0a:∀j y,(xs.map (Value.int .u8))[j]? = some y->w.cell? ((⟨g,0,none⟩:Addr).add j)=some y:=hOK.cells (g:=g) rfl;have hfit:=growslice_fits (need:=xs.length+n) (old:=xs.length+z) (bytes:=i0.bytes) (by omega) (by rw[hz2];omega);have h48':¬(281474976710656<Builtin.nextslicecap (xs.length+n) (xs.length+z)*i0.bytes):=by omega
   have h63':¬(9223372036854775807<((xs.length:Int)+(n:Int))):=by omega
   have hfo:=run_firstCells_some (P:=Tryz.prog) w.drew i0.size xs.length ⟨g,0,none⟩ xs.length (xs.length+z) (xs.map (Value.int .u8)) (by simp[hz1]) (by simpa using o0a);have hnr:¬n<=z:=by omega
   have:=v5a .u8 5 w base (xs++List.replicate n 0) (xs.length+z) (xs.length+n) (by simp) hbase (by omega);refine⟨.slice (some ⟨w.heap.size,0,none⟩) (xs.length+n) (grownCap w (xs.length+n) (xs.length+z) 5),_,?_,this,?_⟩;rotate_left
   ·exact⟨rfl,rfl,rfl,by simp,λj hj _=>Below.heap_alloc w.drew _ j hj⟩
   ·simp[Builtin.append_,run_underlying ht,run_underlying htn,sizeOf,typeInfo,zeroValue,hi,hz0,asInt,asIntOf,hw,hneg,hns,h48i,h48',h63',hn0,Question.forced,hfo,newRow,grownCap,hnr,A3a]
    congr 2
    apply Array.ext';simp[List.append_assoc,List.replicate_append_replicate]
theorem m8a{w:World}{ops:Array Oper}{rest:List Oper}{o:Oper}{a:Act}{Q:Exit->Act->World->Prop}(hgd:o.guard=none)(s x:Operand)
(ho:o.op=.call { callee:=.builtin .append,args:=#[s,x],argTypes:=#[31,3] })
(base n:Nat)(v:Value)(xs:List Int)(hs:a.eval s=v)(hx:a.eval x=.int .i64 (n:Int))(hown:X0a .u8 5 w base v xs)(h0:0<n)(hn:n<=65536)(hlen:xs.length<=1000000)(hbase:base<=w.heap.size)
(h:∀v' w',Hid (X0a .u8 5 w' base v' (xs++List.replicate n 0))->Hid (Below base w w')->wpList Tryz.prog ops Q rest (a.put o.dst v') w') :
  wpList Tryz.prog ops Q (o::rest) a w:=by
 have hOK:=hown.own;obtain⟨v',w',hrun,h2,h3⟩:=G6a h0 hn hown hlen hbase o.type;exact Lib.wpList_append_run w hgd s x _ _ ho _ _ hs hx v' w' hrun (h v' w' h2 ((Below.refl _ _).grown h3 hbase (λk hk=>(World.ownsRow.lt hOK k hk).1)))
def q2a(s:Nat):List Int->List Int
 | []=>[]
 | x::r=>le x s++q2a s r
theorem b7b(s:Nat)(xs:List Int)(x:Int):q2a s (xs++[x])=q2a s xs++le x s:=by
 induction xs with
 | nil=>simp[q2a]
 | cons a r ih=>simp[q2a,ih,List.append_assoc]
theorem v4b(s:Nat)(xs:List Int):(q2a s xs).length=s*xs.length:=by
 induction xs with
 | nil=>rfl
 | cons a r ih=>simp only[q2a,List.length_append,g0a,ih,List.length_cons,Nat.mul_add,Nat.mul_one];omega
theorem s5b(s:Nat)(xs:List Int):Bytes (q2a s xs):=by
 induction xs with
 | nil=>exact Bytes.nil
 | cons a r ih=>exact(F0a _ _).append ih
def B0b(w:World)(s:Nat)(vs:List Int)(e:Ending)(w':World):Prop:=∃v,e=.returned v/\X0a .u8 5 w' w.heap.size v (q2a s vs)/\Below w.heap.size w w'
theorem K1b(w:World)(gl m s:Nat)(vs:List Int)(hB:Blk w gl 25 (vs.map (Value.int .u64)))(hl:vs.length=m)(hm:m<=1000)(hs:j3a (s:Int)=true)(hv:∀x∈vs,0<=x/\x<256^s) :
  Calls Tryz.prog 121 #[.int .i64 (s:Int),.slice (some ⟨gl,0,none⟩) m m] w (B0b w s vs):=by
 have hs8:1<=s/\s<=8:=by rcases Q1a hs with h | h | h | h<;>omega
 obtain⟨hs1,hs8⟩:=hs8;have hgl:=hB.lt;have HBl:=hI hB;have HL:=hI hl;have hp8:(256:Int)^s<=18446744073709551616:=by
  rcases Q1a hs with h | h | h | h
  ·obtain rfl:s=1:=by omega
   decide
  ·obtain rfl:s=2:=by omega
   decide
  ·obtain rfl:s=4:=by omega
   decide
  ·obtain rfl:s=8:=by omega
   decide
 have CP:Hid (∀(w:World) (x:Int),x∈vs->Calls Tryz.prog 37 #[.int .u64 x,.int .i64 (s:Int)] w λe w'=>∃A',e=.returned (.tuple #[.slice A' s s,.int .i64 0])/\r2a w' w.heap.size A' (le x s)/\Below w.heap.size w w'):=λw x hx=>by
  obtain⟨h0,h1⟩:=hv x hx;have h:=d8a w x (s:Int) ⟨h0,by omega⟩ (by omega);unfold e5a at h;have hp:A4a x (s:Int)=true:=by unfold A4a;rw[hs,Int.toNat_natCast,decide_eq_true h1];rfl
  unfold z6a p5a at h;rw[if_pos hp,if_pos hp,Int.toNat_natCast,g0a] at h;exact h
 have HQ:Hid (∀e w',(∃v,e=.returned v/\X0a .u8 5 w' w.heap.size v (q2a s vs)/\Below w.heap.size w w')->B0b w s vs e w'):=λ_ _ h=>h
 have HLB:Hid (∀x:Int,(le x s).length=s/\Bytes (le x s)):=λx=>⟨g0a x s,F0a x s⟩
 have HNL:Hid (∀j,j<=m->(q2a s (vs.take j)).length<=8000):=λj hj=>by rw[v4b,List.length_take];have h1:s*min j vs.length<=8*1000:=Nat.mul_le_mul hs8 (by omega);omega
 have HST:Hid (∀(j:Nat) (x:Int),vs[j]? = some x->q2a s (vs.take (j+1))=q2a s (vs.take j)++le x s):=λj x hx=>by rw[List.take_add_one,hx,Option.toList_some,b7b]
 have HN:Hid (q2a s (vs.take m)=q2a s vs):=by show _=_;rw[<-hl,List.take_length]
 have H0:Hid (q2a s (vs.take 0)=[]):=by show _=_;rw[List.take_zero];rfl
 obtain⟨nb,hnb⟩:∃f:Nat->List Int,f=λj=>q2a s (vs.take j):=⟨_,rfl⟩
 have hnb2:∀j,q2a s (vs.take j)=nb j:=λj=>by rw[hnb]
 simp only[hnb2] at HNL HST HN H0;rw[<-HN.out] at HQ;obtain⟨lb,hlb⟩:∃f:Int->List Int,f=λx=>le x s:=⟨_,rfl⟩
 have hlb2:∀x,le x s=lb x:=λx=>by rw[hlb]
 simp only[hlb2] at CP HLB HST;have HMEM:Hid (∀(j:Nat) (x:Int),vs[j]? = some x->x∈vs):=λj x h=>List.mem_of_getElem? h
 have HGET:Hid (∀j,j<m->∃x,vs[j]? = some x):=λj hj=>⟨_,List.getElem?_eq_getElem (by omega)⟩
 have HCELL:Hid (∀(j:Nat) (x:Int),vs[j]? = some x->(vs.map (Value.int .u64))[j]? = some (.int .u64 x)):=λj x h=>by simp[h]
 clear hB hl hv hs hp8 hnb hnb2 hlb hlb2 HN;go_enter Tryz.func121,Tryz.ntmps121;go_wp2;go_loopw [5,12] (λv i wr=>∃j:Nat,i=.int .i64 j/\j<=m/\Hid (X0a .u8 5 wr w.heap.size v (nb j))/\Hid (Below w.heap.size w wr)) (λ_ i _=>m-(intOf i).toNat)
 case atStart=>exact⟨0,rfl,Nat.zero_le _,by rw[H0.out];exact X0a.nil _ _ _ _,Below.refl _ _⟩
 case round=>
  obtain⟨j,rfl,hj,HO,HB1⟩:=hrel;by_cases hlt2:j<m
  ·obtain⟨x,hx⟩:=HGET.out j hlt2;have HKl:=hI (HBl.out.over HB1.out);have hc:wr.cell? ⟨gl,j,none⟩=some (.int .u64 x):=(HKl.out.cell j).trans (HCELL.out j x hx);have HS:=hI (HST.out j x hx);have HM:=hI (HMEM.out j x hx);have hnl:=HNL.out j hj;have hsz:=HB1.out.size;clear hx;go_wp2_with fail;refine(CP.out wr x HM.out).mono ?_;rintro e v1 ⟨A',rfl,hf,L1⟩;have HH:=hI (hf.holds (HLB.out x).1 (HLB.out x).2 (by omega));have HO1:=hI (HO.out.below L1);have HB2:=hI (HB1.out.trans (L1.mono hsz));have hll:=(HLB.out x).1;have hsz1:=HB2.out.size;clear hf L1 hc HKl HO HB1;go_wp2_with(first
    | (at_builtin;refine N2a rfl (.tmp 22) (.tmp 23) rfl w.heap.size _ (nb j) rfl HO1.out v1.heap.size A' s s (lb x) rfl HH.out (by omega) hsz1 ?_;intro u5 v5 HO5 L5)
    | fail)
   rw[<-HS.out] at HO5;have HB5:=hI (HB2.out.trans L5);clear HO1 HB2 L5 HH HS;go_roundw
   case rel=>exact⟨j+1,by simp,by omega,HO5,HB5⟩
   case measure=>simp[intOf];omega
  ·obtain rfl:j=m:=by omega
   go_wp2;go_ret;exact HQ.out _ _ ⟨_,rfl,HO.out,HB1.out⟩
theorem S8b(w:World)(l:g2a):Calls Tryz.prog 167 #[.agg (E0a l).toArray] w λe w'=>e=.returned (.bool (l.op != 0))/\Below w.heap.size w w':=by
 obtain⟨op,at_,n,md⟩:=l;have HC:Hid (∀(w:World) (g:Nat),Blk w g 114 (E0a ⟨op,at_,n,md⟩)->w.cell? ⟨g,0,none⟩=some (.int .i64 op)):=λw g h=>h.at rfl
 obtain⟨cs,hcs⟩:∃x,x=E0a ⟨op,at_,n,md⟩:=⟨_,rfl⟩;rw[<-hcs] at HC⊢;show Calls _ _ _ _ λe w'=>e=.returned (.bool (op != 0))/\_
 clear hcs;go_enter Tryz.func167,Tryz.ntmps167;go_wp2_with(first
  | ((with_reducible refine sN 1 ?_);refine f0a rfl _ (.tmp 0) rfl cs rfl ?_;intro g w1 hg1 hg2 K1 L1;have c0:=HC.out w1 g K1.out)
  | fail)
 go_ret;exact⟨rfl,L1.out⟩
theorem c7b(w:World)(A:Option Addr)(n c:Nat)(xs:List g2a)(h:d1a E0a 4 w w.heap.size A n c xs)(hn:n<=4398046511104) :
  Calls Tryz.prog 182 #[.slice A n c,.func (.func 167) #[] #[]] w λe w'=>(∃k:Int,e=.returned (.int .i64 k)/\decide (0<=k) = !shut xs)/\Below w.heap.size w w':=by
 have HH:=hI h;have HL:=hI h.len;have hft:=h.fit;have CF:Hid (∀(w:World) (l:g2a),Calls Tryz.prog 167 #[.agg (E0a l).toArray] w λe w'=>e=.returned (.bool (l.op != 0))/\Below w.heap.size w w'):=S8b;have HQ:Hid (∀(e:Ending) (w':World),((∃k:Int,e=.returned (.int .i64 k)/\decide (0<=k) = !shut xs)/\Below w.heap.size w w')->((∃k:Int,e=.returned (.int .i64 k)/\decide (0<=k) = !shut xs)/\Below w.heap.size w w')):=λ_ _ h=>h
 have H0:Hid (shut (xs.take 0)=true):=by show _=_;rw[List.take_zero];rfl
 have HN:Hid (shut (xs.take n)=true->shut xs=true):=λh1=>by rw[<-HL.out,List.take_length] at h1;exact h1
 have HST:Hid (∀(j:Nat) (x:g2a),xs[j]? = some x->shut (xs.take j)=true->x.op=0->shut (xs.take (j+1))=true):=λj x hx h1 h2=>by rw[List.take_add_one,hx,Option.toList_some];unfold shut at h1⊢;rw[List.all_append,h1];simp[h2]
 have HBAD:Hid (∀(j:Nat) (x:g2a),xs[j]? = some x->x.op≠0->shut xs=false):=λj x hx h1=>by unfold shut;rw[List.all_eq_false];exact⟨x,List.mem_of_getElem? hx,by simpa using h1⟩
 clear h;go_enter Tryz.func182,Tryz.ntmps182;go_wp2;go_loopw [8] (λi wr=>∃j:Nat,i=.int .i64 j/\j<=n/\Hid (shut (xs.take j)=true)/\Hid (Below w.heap.size w wr)) (λi _=>n-(intOf i).toNat)
 case atStart=>exact⟨0,rfl,Nat.zero_le _,H0.out,Below.refl _ _⟩
 case round=>
  obtain⟨j,rfl,hj,HS,HB1⟩:=hrel;by_cases hlt:j<n
  ·have hh:=HH.out.below HB1.out;obtain⟨b,off,rfl,hb,hc⟩:=hh.cells (by omega);obtain⟨x,hx⟩:∃x,xs[j]? = some x:=⟨_,List.getElem?_eq_getElem (by have:=HL.out;omega)⟩;have Rx:Hid (wr.rangeAt b (off+j*4) (E0a x)):=hh.range rfl hlt hx;have LX:Hid ((E0a x).length=4):=rfl;have CX:=CF.out wr x;have HST':=hI (HST.out j x hx HS.out);have HBAD':=hI (HBAD.out j x hx);obtain⟨cx,hcx⟩:∃cx,cx=E0a x:=⟨_,rfl⟩;rw[<-hcx] at Rx LX CX;have hsz:=HB1.out.size;clear hh hc hx hcx;by_cases ho:x.op=0
   ·have hb0:(x.op != 0)=false:=by simpa using ho
    rw[hb0] at CX;have CX':=hI CX;have HS2:=hI (HST'.out ho);clear CX hb0 ho HST' HBAD' HS;go_wp2_with(first
     | ((with_reducible refine sN 15 ?_);refine t0a rfl _ (.tmp 14) rfl b (off+j*4) rfl cx _ Rx Tryz.underlying114 rfl 4 P5a LX ?_)
     | fail)
    refine CX'.out.mono ?_;rintro e v1 ⟨rfl,L1⟩;have HB2:=hI (HB1.out.trans (L1.mono hsz));clear L1 HB1 CX';go_wp2;go_roundw
    case rel=>exact⟨j+1,by simp,by omega,HS2,HB2⟩
    case measure=>simp[intOf];omega
   ·have hb0:(x.op != 0)=true:=by simpa using ho
    rw[hb0] at CX;have CX':=hI CX;have HS2:=hI (HBAD'.out ho);clear CX hb0 ho HST' HBAD' HS;go_wp2_with(first
     | ((with_reducible refine sN 15 ?_);refine t0a rfl _ (.tmp 14) rfl b (off+j*4) rfl cx _ Rx Tryz.underlying114 rfl 4 P5a LX ?_)
     | fail)
    refine CX'.out.mono ?_;rintro e v1 ⟨rfl,L1⟩;have HB2:=hI (HB1.out.trans (L1.mono hsz));clear L1 HB1 CX';go_wp2;go_ret;exact HQ.out _ _ ⟨⟨_,rfl,by rw[HS2.out];simp⟩,HB2.out⟩
  ·obtain rfl:j=n:=by omega
   have HS2:=hI (HN.out HS.out);go_wp2;go_ret;exact HQ.out _ _ ⟨⟨_,rfl,by rw[HS2.out];rfl⟩,HB1.out⟩
theorem s3b(w:World)(A:Option Addr)(n c:Nat)(xs:List g2a)(h:d1a E0a 4 w w.heap.size A n c xs)(hn:n<=4398046511104) :
  Calls Tryz.prog 166 #[.slice A n c,.func (.func 167) #[] #[]] w λe w'=>e=.returned (.bool (!shut xs))/\Below w.heap.size w w':=by
 have C1:=hI (c7b w A n c xs h hn);obtain⟨z,hz⟩:∃z,z = !shut xs:=⟨_,rfl⟩;rw[<-hz] at C1⊢;clear h hz;go_enter Tryz.func166,Tryz.ntmps166;go_wp2_with fail;refine C1.out.mono ?_;rintro e w1 ⟨⟨k,rfl,hk⟩,L1⟩;go_wp2;go_ret;exact⟨by rfl,L1⟩
section
variable {vd vx vl ve:Value} {a:m1a} {s:M1a}
theorem B1a(hg:a.guid.length=16)(hp:a.proof.length=32)(i:Nat)(u:Value):(j0a vd vx vl a).set (49+i) u=vd::(a.guid.map (Value.int .u8)++(a.proof.map (Value.int .u8)++(A8a vx vl a).set i u)):=by
 unfold j0a;rw[show 49+i=(48+i)+1 from by omega,List.set_cons_succ,List.set_append_right _ _ (by rw[List.length_map,hg];omega),List.length_map,hg,List.set_append_right _ _ (by rw[List.length_map,hp];omega),List.length_map,hp]
 congr 4
 omega
theorem K2a(hg:s.chal.length=8)(i:Nat)(u:Value):(r0a vx ve s).set (10+i) u=.int .u16 s.dia::.int .u64 s.siz::(s.chal.map (Value.int .u8)++(b2b vx ve s).set i u):=by
 unfold r0a;rw[show 10+i=(8+i)+1+1 from by omega,List.set_cons_succ,List.set_cons_succ,List.set_append_right _ _ (by rw[List.length_map,hg];omega),List.length_map,hg]
 congr 4
 omega
theorem c3c(hg:a.guid.length=16)(hp:a.proof.length=32)(x:Int):(j0a vd vx vl a).set 51 (.int .u32 x)=j0a vd vx vl { a with acc:=x }:=(B1a hg hp 2 _).trans rfl
theorem d3c(hg:a.guid.length=16)(hp:a.proof.length=32)(x:Int):(j0a vd vx vl a).set 52 (.int .u32 x)=j0a vd vx vl { a with shr:=x }:=(B1a hg hp 3 _).trans rfl
theorem e3c(hg:a.guid.length=16)(hp:a.proof.length=32)(x:Int):(j0a vd vx vl a).set 53 (.int .u32 x)=j0a vd vx vl { a with way:=x }:=(B1a hg hp 4 _).trans rfl
theorem f3c(hg:a.guid.length=16)(hp:a.proof.length=32)(x:Int):(j0a vd vx vl a).set 54 (.int .u32 x)=j0a vd vx vl { a with opt:=x }:=(B1a hg hp 5 _).trans rfl
theorem V2c(hg:a.guid.length=16)(hp:a.proof.length=32)(x:Int):(j0a vd vx vl a).set 55 (.int .u8 x)=j0a vd vx vl { a with lev:=x }:=(B1a hg hp 6 _).trans rfl
theorem g3c(hg:a.guid.length=16)(hp:a.proof.length=32)(x:Int):(j0a vd vx vl a).set 56 (.int .u8 x)=j0a vd vx vl { a with dur:=x }:=(B1a hg hp 7 _).trans rfl
theorem t7b(hg:a.guid.length=16)(hp:a.proof.length=32)(x:Int):(j0a vd vx vl a).set 57 (.int .u64 x)=j0a vd vx vl { a with file:=x }:=(B1a hg hp 8 _).trans rfl
theorem W2c(hg:a.guid.length=16)(hp:a.proof.length=32)(x:ByteArray):(j0a vd vx vl a).set 58 (.string x)=j0a vd vx vl { a with name:=x }:=(B1a hg hp 9 _).trans rfl
theorem X2c(hg:a.guid.length=16)(hp:a.proof.length=32)(x:Int):(j0a vd vx vl a).set 59 (.int .u64 x)=j0a vd vx vl { a with at_:=x }:=(B1a hg hp 10 _).trans rfl
theorem h3c(hg:a.guid.length=16)(hp:a.proof.length=32)(x:Int):(j0a vd vx vl a).set 60 (.int .u32 x)=j0a vd vx vl { a with n:=x }:=(B1a hg hp 11 _).trans rfl
theorem i3c(hg:a.guid.length=16)(hp:a.proof.length=32)(v:Value)(xs:List Int):(j0a vd vx vl a).set 61 v=j0a vd v vl { a with data:=xs }:=(B1a hg hp 12 _).trans rfl
theorem j3c(hg:a.guid.length=16)(hp:a.proof.length=32)(v:Value)(xs:List g2a):(j0a vd vx vl a).set 62 v=j0a vd vx v { a with locks:=xs }:=(B1a hg hp 13 _).trans rfl
theorem Y2c(hg:s.chal.length=8)(x:Int):(r0a vx ve s).set 10 (.int .u8 x)=r0a vx ve { s with lev:=x }:=(K2a hg 0 _).trans rfl
theorem k3c(hg:s.chal.length=8)(x:Int):(r0a vx ve s).set 11 (.int .u8 x)=r0a vx ve { s with dur:=x }:=(K2a hg 1 _).trans rfl
theorem l3c(hg:s.chal.length=8)(x:Int):(r0a vx ve s).set 12 (.int .u16 x)=r0a vx ve { s with made:=x }:=(K2a hg 2 _).trans rfl
theorem Z2c(hg:s.chal.length=8)(x:Int):(r0a vx ve s).set 13 (.int .u64 x)=r0a vx ve { s with file:=x }:=(K2a hg 3 _).trans rfl
theorem a3c(hg:s.chal.length=8)(x:Int):(r0a vx ve s).set 14 (.int .u8 x)=r0a vx ve { s with kind:=x }:=(K2a hg 4 _).trans rfl
theorem m3c(hg:s.chal.length=8)(x:Int):(r0a vx ve s).set 16 (.int .u32 x)=r0a vx ve { s with n:=x }:=(K2a hg 6 _).trans rfl
theorem sc1(hg:s.chal.length=8)(x:Int):(r0a vx ve s).set 1 (.int .u64 x)=r0a vx ve { s with siz:=x }:=rfl
theorem n3c(hg:s.chal.length=8)(v:Value)(xs:List Int):(r0a vx ve s).set 15 v=r0a v ve { s with data:=xs }:=(K2a hg 5 _).trans rfl
theorem O2c(hg:a.guid.length=16)(hp:a.proof.length=32):(j0a vd vx vl a).set 61 (.slice none 0 0)=j0a vd (.slice none 0 0) vl { a with data:=[] }:=i3c hg hp _ []
theorem P2c(hg:a.guid.length=16)(hp:a.proof.length=32):(j0a vd vx vl a).set 62 (.slice none 0 0)=j0a vd vx (.slice none 0 0) { a with locks:=[] }:=j3c hg hp _ []
theorem Q2c(hg:s.chal.length=8):(r0a vx ve s).set 15 (.slice none 0 0)=r0a (.slice none 0 0) ve { s with data:=[] }:=n3c hg _ []
end
theorem zb{M:Int}(h:0<=M):(0:Int)<=0/\(0:Int)<=M:=⟨Int.le_refl 0,h⟩
theorem d7b{c:Int}{a:m1a}(k:a.ok):(i1a c a).ok:=by
 unfold i1a;split
 ·exact⟨k.dial,k.glen,k.gbyte,k.plen,k.pbyte,zb (by decide),zb (by decide),zb (by decide),zb (by decide),zb (by decide),zb (by decide),zb (by decide),k.at_,k.n,k.data,k.locks,k.most,k.cls,k.siz⟩
 ·split
  ·exact⟨k.dial,k.glen,k.gbyte,k.plen,k.pbyte,k.acc,k.shr,k.way,k.opt,k.lev,k.dur,zb (by decide),zb (by decide),zb (by decide),k.data,k.locks,k.most,k.cls,k.siz⟩
  ·split
   ·exact⟨k.dial,k.glen,k.gbyte,k.plen,k.pbyte,k.acc,k.shr,k.way,k.opt,k.lev,k.dur,zb (by decide),zb (by decide),k.n,Bytes.nil,k.locks,k.most,k.cls,k.siz⟩
   ·split
    ·exact⟨k.dial,k.glen,k.gbyte,k.plen,k.pbyte,k.acc,k.shr,k.way,k.opt,k.lev,k.dur,zb (by decide),k.at_,k.n,k.data,(λl h=>by cases h),k.most,k.cls,k.siz⟩
    ·exact⟨k.dial,k.glen,k.gbyte,k.plen,k.pbyte,k.acc,k.shr,k.way,k.opt,k.lev,k.dur,zb (by decide),k.at_,k.n,k.data,k.locks,k.most,k.cls,k.siz⟩
theorem t5b{c:Int}{s:M1a}(k:s.ok):(l1a c s).ok:=by
 unfold l1a;split
 ·exact⟨k.dia,zb (by decide),k.clen,k.cbyte,zb (by decide),zb (by decide),zb (by decide),zb (by decide),zb (by decide),k.data,k.n,k.ents⟩
 ·split
  ·exact⟨k.dia,k.siz,k.clen,k.cbyte,k.lev,k.dur,k.made,k.file,k.kind,Bytes.nil,k.n,k.ents⟩
  ·split
   ·exact⟨k.dia,k.siz,k.clen,k.cbyte,k.lev,k.dur,k.made,k.file,k.kind,k.data,zb (by decide),k.ents⟩
   ·exact k
theorem Z8a{c:Int}{a:m1a}(hk:R2a c=true)(hc:c≠10):i8a c a=decide (i1a c a=i0a):=by
 unfold i8a;rw[hk,Bool.true_and];by_cases h:i1a c a=i0a
 ·have hl:a.locks=[]:=by
   have h2:=congrArg m1a.locks h;unfold i1a at h2;rw[if_neg hc] at h2;split at h2
   ·exact h2
   ·split at h2
    ·exact h2
    ·split at h2<;>exact h2
  rw[decide_eq_true h,hl];rfl
 ·rw[decide_eq_false h,Bool.false_and]
theorem Y5b(b:m1a):(k1a 13 b==0)=decide (b=i0a):=by
 have e:c1a 13 b=b:=by unfold c1a;rw[if_neg (by decide),if_neg (by decide),if_neg (by decide)]
 unfold k1a;rw[e];by_cases h:b=i0a
 ·rw[if_pos ⟨rfl,h⟩,decide_eq_true h];rfl
 ·rw[if_neg (λh2=>h h2.2),decide_eq_false h];rfl
theorem w4b(b:M1a):(z1a 13 b==0)=decide (b=q0a):=by
 have e:o1a 13 b=b:=by unfold o1a;rw[if_neg (by decide)]
 unfold z1a;rw[e];by_cases h:b=q0a
 ·rw[if_pos ⟨rfl,h,λh0=>absurd h0 (by decide)⟩,decide_eq_true h];rfl
 ·rw[if_neg (λh2=>h h2.2.1),decide_eq_false h];rfl
section
variable {P:Program} {ops:Array Oper} {Q:Exit->Act->World->Prop} {md:Region.Mode} {S:World->Prop}
def a9a(ops:Array Oper)(listed:Array Bool):Nat:=(List.range ops.size).countP λi=>!listed.getD i true
theorem F2b{α:Type}{p q:α->Bool}:∀(l:List α),(∀x,q x=true->p x=true)->(∃x∈l,p x=true/\q x=false)->l.countP q<l.countP p
 | [],_,⟨x,hx,_⟩=>absurd hx List.not_mem_nil
 | y::l,h,⟨x,hx,h1,h2⟩=>by
  have hle:l.countP q<=l.countP p:=List.countP_mono_left λx _=>h x
  rw[List.countP_cons,List.countP_cons];rcases List.mem_cons.1 hx with rfl | hx
  ·rw[h1,h2];simp;omega
  ·have:=F2b l h ⟨x,hx,h1,h2⟩;have hy:=h y;cases hq:q y<;>cases hp:p y<;>simp_all<;>omega
theorem T9a{listed:Array Bool}{i:Nat}(hi:i∈Region.ready md ops listed):a9a ops (listed.setIfInBounds i true)<a9a ops listed:=by
 obtain⟨hun,o,ho,_⟩:=mem_ready.1 hi;refine F2b _ (λx hx=>?_) ⟨i,List.mem_range.2 (Array.getElem?_eq_some_iff.1 ho).1,by rw[hun];rfl,?_⟩
 ·by_cases hxi:i=x
  ·subst hxi;rw[hun];rfl
  ·rw[getD_set_ne true hxi] at hx;exact hx
 ·have hlt:i<listed.size:=by
   rcases Nat.lt_or_ge i listed.size with h | h
   ·exact h
   ·rw[Array.getD_eq_getD_getElem?,Array.getElem?_eq_none h] at hun;cases hun
  simp[hlt]
theorem G2b{I:Array Bool->Act->World->Prop}
(hs:∀listed a w i,I listed a w->i∈Region.ready md ops listed->wpOp P ops Q i (λa' w'=>S w'/\I (listed.setIfInBounds i true) a' w') a w)
(he:∀listed a w,I listed a w->Region.ready md ops listed=[]->Q .normal a w) :
  ∀(fuel:Nat) (listed:Array Bool) (a:Act) (w:World),a9a ops listed<=fuel->I listed a w->wpAnyH P md ops Q S fuel listed a w
 | 0,listed,a,w,hf,hI=>by
  have h0:Region.ready md ops listed=[]:=by
   cases hr:Region.ready md ops listed with
   | nil=>rfl
   | cons i r=>have:=T9a (md:=md) (ops:=ops) (listed:=listed) (i:=i) (by rw[hr];exact List.mem_cons_self);omega
  exact⟨h0,he _ _ _ hI h0⟩
 | fuel+1,listed,a,w,hf,hI=>⟨he _ _ _ hI,λi hi=>wpOp_mono (λa' w' h=>⟨h.1,G2b hs he fuel _ _ _ (by have:=T9a hi;omega) h.2⟩) (hs _ _ _ _ hI hi)⟩
theorem T8b{a:Act}{t:Tmp}(h:t<a.tmps.size):a.tmps[t]? = some (a.eval (.tmp t)):=by simp[Act.eval,h]
theorem Z5b(a:Act):∀(L:List (Nat×Tmp)) (fr:Act),a.defers=fr.defers->a.tmps.size=fr.tmps.size->(∀t,(∀x∈L,x.2≠t)->a.tmps[t]? = fr.tmps[t]?)->
  L.foldl (λb x=>b.put (some x.2) (a.eval (.tmp x.2))) fr=a
 | [],fr,h1,h2,h3=>by
  obtain⟨T,D⟩:=a;obtain⟨T',D'⟩:=fr;have h:T'=T:=by
   refine Array.ext (by simpa using h2.symm) λi hi hj=>?_
   have:=h3 i (by simp);simp only[Array.getElem?_eq_getElem hi,Array.getElem?_eq_getElem hj] at this;exact(Option.some.inj this).symm
  subst h;cases h1;rfl
 | x::L,fr,h1,h2,h3=>by
  rw[List.foldl_cons];refine Z5b a L _ (by simpa[Act.put] using h1) (by simpa[Act.put] using h2) λt ht=>?_
  by_cases hx:x.2=t
  ·subst hx;rcases Nat.lt_or_ge x.2 a.tmps.size with h | h
   ·rw[T8b h];simp[Act.put,<-h2,h]
   ·rw[Array.getElem?_eq_none h,Array.getElem?_eq_none (by simpa[Act.put,<-h2] using h)]
  ·rw[h3 t (by
    intro y hy;rcases List.mem_cons.1 hy with rfl | hy
    ·exact hx
    ·exact ht y hy)]
   simp[Act.put,hx]
def O0c(md:Region.Mode)(ops:Array Oper)(listed:Array Bool)(R:List (Nat×Tmp))(z:Nat):Bool:=
 (List.range ops.size).all (λj=>listed.getD j true||R.any λx=>x.1==j)&&(R.all λx=>(((ops[x.1]?).map (·.dst))==some (some x.2))&&decide (x.2<z) && !listed.getD x.1 true) &&
 decide ((R.map (·.1)).Nodup)&&decide ((R.map (·.2)).Nodup)&&decide (listed.size=ops.size)&&(List.range ops.size).all (λj=>((ops[j]?).map λo=>o.after.all λe=>!Region.binds md e||decide (e.on<j)).getD true)
theorem u7a{α β:Type}{f:α->β}:∀{l:List α},(l.map f).Nodup->∀{x y:α},x∈l->y∈l->f x=f y->x=y
 | [],_,_,_,h,_,_=>absurd h List.not_mem_nil
 | z::l,hn,x,y,hx,hy,he=>by
  rw[List.map_cons,List.nodup_cons] at hn;rcases List.mem_cons.1 hx with h1 | h1<;>rcases List.mem_cons.1 hy with h2 | h2
  ·rw[h1,h2]
  ·exact absurd (List.mem_map.2 ⟨y,h2,by rw[<-he,h1]⟩) hn.1
  ·exact absurd (List.mem_map.2 ⟨x,h1,by rw[he,h2]⟩) hn.1
  ·exact u7a hn.2 h1 h2 he
def waits(md:Region.Mode)(o:Oper)(j:Nat):Bool:=o.after.any λe=>Region.binds md e&&e.on==j
theorem T3a(R:List (Nat×Tmp))(p:Nat->Value->World->Prop)(fr:Act){listed:Array Bool}{w:World}{fuel:Nat}
(hT:O0c md ops listed R fr.tmps.size=true)(hf:a9a ops listed<=fuel)(hS:S w)
(hp:∀i v w w',Below w.heap.size w w'->p i v w->p i v w')
(hs:∀x∈R,∃o,ops[x.1]? = some o/\∀(a:Act) (w:World),S w->(∀t,(R.all λy=>y.2 != t)=true->a.eval (.tmp t)=fr.eval (.tmp t))->
   (∀y∈R,waits md o y.1=true->p y.1 (a.eval (.tmp y.2)) w)->
   ∀K:Act->World->Prop,(∀v w',S w'->Below w.heap.size w w'->p x.1 v w'->K (a.put (some x.2) v) w')->if Region.wanted o (yielded ops a.tmps)=true then o.wp P a w K Q else K (a.put o.dst undef) w)
(he:∀(vs:Tmp->Value) (w:World),S w->(∀x∈R,p x.1 (vs x.2) w)->Q .normal (R.foldl (λb x=>b.put (some x.2) (vs x.2)) fr) w) :
  wpAnyH P md ops Q S fuel listed fr w:=by
 unfold O0c at hT;simp only[Bool.and_eq_true,decide_eq_true_eq,Bool.not_eq_true',List.all_eq_true,List.mem_range,Bool.or_eq_true,List.any_eq_true,beq_iff_eq] at hT;obtain⟨⟨⟨⟨⟨t1,t2⟩,t3⟩,t4⟩,t5⟩,t6⟩:=hT;refine G2b (P:=P) (ops:=ops) (Q:=Q) (md:=md) (S:=S) (I:=λl a w=>S w/\a.defers=fr.defers/\a.tmps.size=fr.tmps.size/\l.size=ops.size/\
   (∀t,(∀y∈R,y.2≠t)->a.tmps[t]? = fr.tmps[t]?)/\(∀y∈R,l.getD y.1 true=true->p y.1 (a.eval (.tmp y.2)) w)/\(∀j,listed.getD j true=true->l.getD j true=true))
  (λl a w i ⟨s0,s1,s2,s3,s4,s5,s6⟩ hi=>?_) (λl a w ⟨s0,s1,s2,s3,s4,s5,s6⟩ hr=>?_) fuel listed fr w hf ⟨hS,rfl,rfl,t5,λ_ _=>rfl,λy hy h=>?_,λ_ h=>h⟩
 ·obtain⟨hun,o,ho,hall⟩:=mem_ready.1 hi;have hlt:i<ops.size:=(Array.getElem?_eq_some_iff.1 ho).1;obtain⟨x,hx,rfl⟩:∃x∈R,x.1=i:=by
   rcases t1 i hlt with h | h
   ·rw[s6 i h] at hun;cases hun
   ·exact h
  obtain⟨⟨hd,hz⟩,_⟩:=t2 x hx;rw[ho,Option.map_some] at hd;have hd':o.dst=some x.2:=Option.some.inj hd;have hev:∀t,(∀y∈R,y.2≠t)->a.eval (.tmp t)=fr.eval (.tmp t):=λt ht=>by have:=s4 t ht;simp only[Act.eval,Array.getD_eq_getD_getElem?,this]
  obtain⟨o',ho',hs⟩:=hs x hx;obtain rfl:o=o':=Option.some.inj (ho.symm.trans ho');have h:=hs a w s0 (λt ht=>hev t λy hy=>by simpa using List.all_eq_true.1 ht y hy) (λy hy hwt=>s5 y hy (by
   unfold waits at hwt;rw[<-Array.any_toList,List.any_eq_true] at hwt;obtain⟨e,he,h3⟩:=hwt;simp only[Bool.and_eq_true,beq_iff_eq] at h3;have h2:=hall e (Array.mem_toList_iff.1 he) h3.1;rw[<-h3.2];have hlt2:e.on<l.size:=by
    rcases Nat.lt_or_ge e.on l.size with h | h
    ·exact h
    ·rw[Array.getD_eq_getD_getElem?,Array.getElem?_eq_none h] at h2;cases h2
   rw[Array.getD_eq_getD_getElem?,Array.getElem?_eq_getElem hlt2] at h2⊢;exact h2)) (λa' w'=>S w'/\(S w'/\a'.defers=fr.defers/\a'.tmps.size=fr.tmps.size/\(l.setIfInBounds x.1 true).size=ops.size/\
   (∀t,(∀y∈R,y.2≠t)->a'.tmps[t]? = fr.tmps[t]?)/\(∀y∈R,(l.setIfInBounds x.1 true).getD y.1 true=true->p y.1 (a'.eval (.tmp y.2)) w')/\(∀j,listed.getD j true=true->(l.setIfInBounds x.1 true).getD j true=true)))
   (λv w' hS' hb hv=>⟨hS',hS',s1,by simpa[Act.put] using s2,by simpa using s3,λt ht=>?_,λy hy hl=>?_,λj hj=>?_⟩)
  ·unfold wpOp;simp only[ho];by_cases hw:Region.wanted o (yielded ops a.tmps)=true
   ·rw[if_pos hw] at h⊢;exact .inl h
   ·rw[if_neg hw] at h⊢;exact h
  ·have hne:=ht x hx;simp only[Act.put];rw[Array.getElem?_setIfInBounds_ne hne];exact s4 t ht
  ·by_cases hxy:x.1=y.1
   ·obtain rfl:=u7a t3 hx hy hxy;have:(a.put (some x.2) v).eval (.tmp x.2)=v:=by simp[Act.put,Act.eval,s2,hz]
    rw[this];exact hv
   ·have hne:x.2≠y.2:=λh=>hxy (by rw[u7a t4 hx hy h])
    have:(a.put (some x.2) v).eval (.tmp y.2)=a.eval (.tmp y.2):=by simp only[Act.put,Act.eval,Array.getD_eq_getD_getElem?,Array.getElem?_setIfInBounds_ne hne]
    rw[this];rw[getD_set_ne true hxy] at hl;exact hp _ _ _ _ hb (s5 y hy hl)
  ·by_cases hxj:x.1=j
   ·subst hxj;have:=s6 _ hj;rw[this] at hun;cases hun
   ·rw[getD_set_ne true hxj];exact s6 j hj
 ·have hall:∀n,∀j,j<n->j<ops.size->l.getD j true=true:=by
   intro n
   induction n with
   | zero=>intro j h;omega
   | succ n ih=>
    intro j hj hjo;by_cases hjn:j<n
    ·exact ih j hjn hjo
    cases hl:l.getD j true with
    | true=>rfl
    | false=>
     have ho:ops[j]? = some ops[j]:=Array.getElem?_eq_getElem hjo;have h6:=t6 j hjo;rw[ho] at h6;simp only[Option.map_some,Option.getD_some] at h6;have:j∈Region.ready md ops l:=mem_ready.2 ⟨hl,ops[j],ho,λe he hb=>by
      have h7:=Array.all_eq_true_iff_forall_mem.1 h6 e he;rw[hb] at h7;have h8:e.on<j:=by simpa using h7
      have h9:=ih e.on (by omega) (by omega);have hlt2:e.on<l.size:=by omega
      rw[Array.getD_eq_getD_getElem?,Array.getElem?_eq_getElem hlt2] at h9⊢;exact h9⟩
     rw[hr] at this;cases this
  have h:=he (λt=>a.eval (.tmp t)) w s0 (λx hx=>s5 x hx (by
   rcases Nat.lt_or_ge x.1 ops.size with h | h
   ·exact hall (x.1+1) x.1 (by omega) h
   ·rw[Array.getD_eq_getD_getElem?,Array.getElem?_eq_none (by omega)];rfl))
  rw[Z5b a R fr s1 s2 s4] at h;exact h
 ·rw[(t2 y hy).2] at h;cases h
end
def rowP(n:Nat)(xs:List Int)(v:Value)(w:World):Prop:=∃A c,v=.slice A n c/\Holds w w.heap.size A n c xs
def u7b(m:Nat)(T:TypeId)(vs:List Value)(v:Value)(w:World):Prop:=∃g,v=.slice (some ⟨g,0,none⟩) m m/\Blk w g T vs
def U9a(m:Nat)(X:List Int)(v:Value)(w:World):Prop:=∃g l,v=.slice (some ⟨g,0,none⟩) m m/\o4a w g m (Y1b l) (R0b l) (Z1b l) (d4a l)/\X1b (R0b l) m<=140737488355328/\E7a (d4a l) m=X
def H2b(T:TypeId)(base:Nat)(xs:List Int)(v:Value)(w:World):Prop:=X0a .u8 T w base v xs
def isP(x v:Value)(_:World):Prop:=v=x
theorem l5a{n:Nat}{xs:List Int}{v:Value}{w w':World}(hb:Below w.heap.size w w'):rowP n xs v w->rowP n xs v w'
 | ⟨A,c,h1,h2⟩=>⟨A,c,h1,h2.over hb⟩
theorem m5a{m:Nat}{T:TypeId}{vs:List Value}{v:Value}{w w':World}(hb:Below w.heap.size w w'):u7b m T vs v w->u7b m T vs v w'
 | ⟨A,h1,h2⟩=>⟨A,h1,h2.over hb⟩
theorem U3a{m:Nat}{X:List Int}{v:Value}{w w':World}(hb:Below w.heap.size w w'):U9a m X v w->U9a m X v w'
 | ⟨A,l,h1,h2,h3⟩=>⟨A,l,h1,h2.over hb,h3⟩
theorem n5a{T:TypeId}{base:Nat}{xs:List Int}{v:Value}{w w':World}(hb:Below w.heap.size w w')(h:H2b T base xs v w):H2b T base xs v w':=X0a.below h hb
theorem q1c:(Tryz.prog.info? 114).map (λi=>(i.zero,i.size))=some (some (.agg (E0a ⟨0,0,0,0⟩).toArray),4):=by kernel_rfl
theorem r1c(g:Nat)(w:World):(Instr.fieldAt 114 (.pointer (some ⟨g,0,none⟩)) 1).run Tryz.prog w=.ok (.pointer (some ⟨g,1,none⟩)) w:=by go_simp
theorem s1c(g:Nat)(w:World):(Instr.fieldAt 114 (.pointer (some ⟨g,0,none⟩)) 2).run Tryz.prog w=.ok (.pointer (some ⟨g,2,none⟩)) w:=by go_simp
theorem t1c(g:Nat)(w:World):(Instr.fieldAt 114 (.pointer (some ⟨g,0,none⟩)) 3).run Tryz.prog w=.ok (.pointer (some ⟨g,3,none⟩)) w:=by go_simp
theorem v4a(w:World)(gl m s:Nat)(vs:List Int)(hB:Blk w gl 25 (vs.map (Value.int .u64)))(hl:vs.length=m)(hm:m<=1000)(hs:j3a (s:Int)=true)(hv:∀x∈vs,0<=x/\x<256^s) :
  Calls Tryz.prog 121 #[.int .i64 (s:Int),.slice (some ⟨gl,0,none⟩) m m] w λe w'=>∃A' c',e=.returned (.slice A' (q2a s vs).length c')/\(X0a .u8 5 w' w.heap.size (.slice A' (q2a s vs).length c') (q2a s vs)/\Holds w' w'.heap.size A' (q2a s vs).length c' (q2a s vs))/\Below w.heap.size w w':=by
 have h:=K1b w gl m s vs hB hl hm hs hv;unfold B0b at h;refine h.mono λe w' ⟨v,h1,h2,h3⟩=>?_
 have hlen:(q2a s vs).length<=281474976710656:=by
  rw[v4b,hl];have hs8:s<=8:=by rcases Q1a hs with h | h | h | h<;>omega
  have h1:s*m<=8*1000:=Nat.mul_le_mul hs8 hm;omega
 obtain⟨A',c',rfl,hh⟩:=X0a.holds8 h2 (s5b s vs) hlen;exact⟨A',c',h1,⟨h2,hh⟩,h3⟩
theorem P0c(s:Nat)(x:Int):q2a s [x]=le x s:=by simp[q2a]
def a6b(w:World)(ls:List g2a)(e:Ending)(w':World):Prop:=∃v,e=.returned v/\X0a .u8 5 w' w.heap.size v (le ls.length 2++(List.replicate 2 0++P1a ls))/\Below w.heap.size w w'
theorem x4b(w:World)(A:Option Addr)(n c:Nat)(ls:List g2a)(h:d1a E0a 4 w w.heap.size A n c ls)(hn:n<=16)(hok:∀l∈ls,l.ok) :
  Calls Tryz.prog 122 #[.slice A n c] w (a6b w ls):=by
 have hl:=h.len;have HH:=hI h;have HOK:=hI hok;have HL:=hI hl;have hnz:IntKind.u64.wrap (n:Int)=(n:Int):=by rw[IntKind.wrap_u64];omega
 have CN0:Hid (∀(w:World) (gl:Nat),Blk w gl 25 [.int .u64 (n:Int)]->Calls Tryz.prog 121 #[.int .i64 2,.slice (some ⟨gl,0,none⟩) 1 1] w λe w'=>∃v,e=.returned v/\X0a .u8 5 w' w.heap.size v (le n 2)/\Below w.heap.size w w'):=λw gl hB=>by have h:=K1b w gl 1 2 [(n:Int)] hB rfl (by decide) (by decide) (λx hx=>by rw[List.mem_singleton.1 hx,show(256:Int)^2=65536 from by decide];omega);unfold B0b at h;rw[P0c] at h;exact h
 have CN8:Hid (∀(x y:Int),(0<=x/\x<=18446744073709551615)->(0<=y/\y<=18446744073709551615)->∀(w:World) (gl:Nat),Blk w gl 25 [.int .u64 x,.int .u64 y]->Calls Tryz.prog 121 #[.int .i64 8,.slice (some ⟨gl,0,none⟩) 2 2] w λe w'=>∃A' c',e=.returned (.slice A' 16 c')/\Holds w' w'.heap.size A' 16 c' (le x 8++le y 8)/\Below w.heap.size w w'):=λx y hx hy w gl hB=>by
  have h:=v4a w gl 2 8 [x,y] hB rfl (by decide) (by decide) (λz hz=>by
   rw[show(256:Int)^8=18446744073709551616 from by decide];rcases List.mem_cons.1 hz with rfl | hz
   ·omega
   ·rw[List.mem_singleton.1 hz];omega)
  have e1:q2a 8 [x,y]=le x 8++le y 8:=by simp[q2a]
  rw[e1,show(le x 8++le y 8).length=16 from by rw[List.length_append,g0a,g0a]] at h;exact h.mono λe w' ⟨A',c',h1,h2,h3⟩=>⟨A',c',h1,h2.2,h3⟩
 have CN2:Hid (∀(x:Int),(0<=x/\x<=65535)->∀(w:World) (gl:Nat),Blk w gl 25 [.int .u64 x]->Calls Tryz.prog 121 #[.int .i64 2,.slice (some ⟨gl,0,none⟩) 1 1] w λe w'=>∃A' c',e=.returned (.slice A' 2 c')/\Holds w' w'.heap.size A' 2 c' (le x 2)/\Below w.heap.size w w'):=λx hx w gl hB=>by have h:=v4a w gl 1 2 [x] hB rfl (by decide) (by decide) (λz hz=>by rw[List.mem_singleton.1 hz,show(256:Int)^2=65536 from by decide];omega);rw[P0c,g0a] at h;exact h.mono λe w' ⟨A',c',h1,h2,h3⟩=>⟨A',c',h1,h2.2,h3⟩
 have CC:Hid (∀(w:World) (gs m:Nat) (A:Nat->Option Addr) (n c:Nat->Nat) (X:Nat->List Int),o4a w gs m A n c X->m<=1000->X1b n m<=140737488355328->Calls Tryz.prog 22 #[.slice (some ⟨gs,0,none⟩) m m] w λe w'=>∃v,e=.returned v/\X0a .u8 5 w' w.heap.size v (E7a X m)/\Below w.heap.size w w'):=X2a;have HQ:Hid (∀e w',(∃v,e=.returned v/\X0a .u8 5 w' w.heap.size v (le n 2++(List.replicate 2 0++P1a (ls.take n)))/\Below w.heap.size w w')->a6b w ls e w'):=λe w' hh=>by rw[<-HL.out,List.take_length] at hh;exact hh
 have HST:Hid (∀(j:Nat) (l:g2a),ls[j]? = some l->P1a (ls.take (j+1))=P1a (ls.take j)++m0b l):=λj l hx=>by rw[List.take_add_one,hx,Option.toList_some,v1b]
 have HLN:Hid (∀j,j<=n->(le (n:Int) 2++(List.replicate 2 0++P1a (ls.take j))).length<=1000/\Bytes (le (n:Int) 2++(List.replicate 2 0++P1a (ls.take j)))):=λj hj=>by refine⟨?_,(F0a _ _).append ((Bytes.zeros 2).append (l7a _))⟩;rw[List.length_append,List.length_append,R5a,g0a,List.length_replicate,List.length_take];omega
 have H0:Hid (le (n:Int) 2++(List.replicate 2 0++P1a (ls.take 0))=le (n:Int) 2++List.replicate 2 0):=by show _=_;rw[List.take_zero];simp[P1a]
 obtain⟨pre,hpre⟩:∃f:Nat->List Int,f=λj=>le (n:Int) 2++(List.replicate 2 0++P1a (ls.take j)):=⟨_,rfl⟩
 have hpre2:∀j,le (n:Int) 2++(List.replicate 2 0++P1a (ls.take j))=pre j:=λj=>by rw[hpre]
 have HST2:Hid (∀(j:Nat) (l:g2a),ls[j]? = some l->pre (j+1)=pre j++m0b l):=λj l hx=>by
  rw[hpre];show le (n:Int) 2++(List.replicate 2 0++P1a (ls.take (j+1)))=(le (n:Int) 2++(List.replicate 2 0++P1a (ls.take j)))++m0b l
  rw[HST.out j l hx];simp only[List.append_assoc]
 simp only[hpre2] at HLN H0 HQ;have ZK:=hI q1c;have ZKL:Hid ((E0a ⟨0,0,0,0⟩).length=4):=rfl;obtain⟨zk,hzk⟩:∃x,x=E0a ⟨0,0,0,0⟩:=⟨_,rfl⟩;rw[<-hzk] at ZK ZKL;have hle2:(le (n:Int) 2).length=2:=g0a _ _;obtain⟨n2,hn2⟩:∃x,x=le (n:Int) 2:=⟨_,rfl⟩;rw[<-hn2] at CN0 H0 hle2;clear h hl hok hpre hpre2 HST hzk hn2 HL;go_enter Tryz.func122,Tryz.ntmps122;go_wp2_with(first
  | ((with_reducible refine sN 9 ?_);refine s1a rfl _ _ 1 _ rfl Tryz.underlying192 ([.int .u64 (n:Int)]:List Value) (by kernel_rfl) ?_;intro g1 w1 hg1 hg2 K1 L1)
  | fail)
 refine(CN0.out w1 g1 K1.out).mono ?_;rintro e w2 ⟨v2,rfl,hv2,L2⟩;have HV2:=hI (X0a.mono hv2 L1.out.size);have M2:=hI (step L1.out L2);have hs2:=M2.out.size;clear hv2 L2 L1 K1 CN0;go_wp2_with(first
  | (at_builtin;refine m8a rfl (.tmp 10) (.const (.int .i64 2)) rfl w.heap.size 2 _ n2 rfl rfl HV2.out (by decide) (by decide) (by omega) hs2 ?_;intro v3 w3 HV3 L3)
  | fail)
 rw[<-H0.out] at HV3;have M3:=hI (M2.out.trans L3.out);clear HV2 M2 L3 H0 hs2 hle2;go_loopw [3,14] (λv i wr=>∃j:Nat,i=.int .i64 j/\j<=n/\Hid (X0a .u8 5 wr w.heap.size v (pre j))/\Hid (Below w.heap.size w wr)) (λ_ i _=>n-(intOf i).toNat)
 case atStart=>exact⟨0,rfl,Nat.zero_le _,HV3,M3⟩
 case round=>
  obtain⟨j,rfl,hj,HO,HB1⟩:=hrel;by_cases hlt:j<n
  ·have hh:=HH.out.below HB1.out;obtain⟨b,off,rfl,hb,hc⟩:=hh.cells (by omega);obtain⟨l,hx⟩:∃l,ls[j]? = some l:=⟨_,List.getElem?_eq_getElem (by have:=hh.len;omega)⟩;have Rx:Hid (wr.rangeAt b (off+j*4) (E0a l)):=hh.range rfl hlt hx;have hlo:=HOK.out l (List.mem_of_getElem? hx);have HE:=hI (HST2.out j l hx);obtain⟨hln,hlb⟩:=HLN.out j hj;obtain⟨Ab,cb,rfl,hhold⟩:=X0a.holds8 HO.out hlb (by omega);have HOb:=hI hhold;obtain⟨op,x,y,z⟩:=l;have D8:=hI (CN8.out x y hlo.at_ hlo.n);have D2:=hI (CN2.out z hlo.md);obtain⟨z0,z1⟩:=hlo.md;change 0<=z at z0
   change z<=65535 at z1
   have hz:IntKind.u64.wrap z=z:=by rw[IntKind.wrap_u64];omega
   have LX:Hid ((E0a ⟨op,x,y,z⟩).length=4):=rfl;have HX1:Hid (∀v∈E0a ⟨op,x,y,z⟩,v.oneCell'=true):=k6a _;have FX:Hid (∀(w:World) (g:Nat),Blk w g 114 (E0a ⟨op,x,y,z⟩)->w.cell? ⟨g,1,none⟩=some (.int .u64 x)/\w.cell? ⟨g,2,none⟩=some (.int .u64 y)/\w.cell? ⟨g,3,none⟩=some (.int .u16 z)):=λw g h=>⟨h.at rfl,h.at rfl,h.at rfl⟩
   obtain⟨cx,hcx⟩:∃cx,cx=E0a ⟨op,x,y,z⟩:=⟨_,rfl⟩;rw[<-hcx] at Rx LX HX1 FX;have HE2:Hid (pre (j+1)=pre j++(le x 8++le y 8++(le z 2++List.replicate 2 0))):=by
    show _=_
    rw[HE.out];show pre j++(le x 8++(le y 8++(le z 2++List.replicate 2 0)))=_
    simp only[List.append_assoc]
   obtain⟨pj,hpj⟩:∃p,p=pre j:=⟨_,rfl⟩;rw[<-hpj] at HE2 HOb hln hlb⊢;obtain⟨m,hm⟩:∃m,m=pj.length:=⟨_,rfl⟩;rw[<-hm] at HOb hln⊢;obtain⟨xy,hxy⟩:∃p,p=le x 8++le y 8:=⟨_,rfl⟩;obtain⟨zz,hzz⟩:∃p,p=le z 2:=⟨_,rfl⟩;rw[<-hxy] at D8 HE2;rw[<-hzz] at D2 HE2;have hsz:=HB1.out.size;clear hh hc hx hcx hlo HE hpj hm hlb hhold HO hxy hzz;go_upto_region 5 with(first
    | ((with_reducible refine sN 17 ?_);refine t0a rfl _ (.tmp 16) rfl b (off+j*4) rfl cx _ Rx Tryz.underlying114 rfl 4 P5a LX ?_)
    | ((with_reducible refine sN 5 ?_);refine a0a rfl _ rfl zk _ ZK ?_;intro g u1 hg1 hg2 Z1 N1;have HOc:=hI (HOb.out.over N1.out);have HB2:=hI (HB1.out.trans (N1.out.mono hsz)))
    | ((with_reducible refine sT 5 ?_);refine b0a rfl _ (.tmp 5) (.tmp 17) rfl g rfl _ zk cx rfl Z1 4 P5a ZKL LX HX1 ?_;intro u2 Z2 O2 hg3;have N2:=hI (c0a N1.out O2.out hg1);have HOd:=hI (HOb.out.over N2.out);have HB3:=hI (HB1.out.trans (N2.out.mono hsz)))
    | fail)
   have hst:Hid (∀w1 w2:World,(Blk w1 g 114 cx/\Below w.heap.size w w1/\Holds w1 w1.heap.size Ab m cb pj)->Below w1.heap.size w1 w2->(Blk w2 g 114 cx/\Below w.heap.size w w2/\Holds w2 w2.heap.size Ab m cb pj)):=λw1 w2 s hb=>⟨s.1.over hb,step s.2.1 hb,s.2.2.over hb⟩
   refine wp_region_held (S:=λw'=>Blk w' g 114 cx/\Below w.heap.size w w'/\Holds w' w'.heap.size Ab m cb pj) (by kernel_rfl) ?_;change wpAnyH _ _ _ _ _ _ _ _ u2.drew
   have S0:Hid (Blk u2.drew g 114 cx/\Below w.heap.size w u2.drew/\Holds u2.drew u2.drew.heap.size Ab m cb pj):=⟨Z2.out.drew,HB3.out.drew,HOd.out.drew⟩;refine tK 0 _ rfl (u0a (by kernel_rfl) (.tmp 3) rfl (.slice Ab m cb) (by kernel_rfl)) S0.out ?_;refine tK 1 _ rfl (w0a (by kernel_rfl) _ (.tmp 5) 1 rfl (.pointer (some ⟨g,0,none⟩)) (.pointer (some ⟨g,1,none⟩)) (by kernel_rfl) (r1c g)) S0.out ?_;refine tK 2 _ rfl (l0a (by kernel_rfl) _ (.tmp 19) rfl g 1 (by kernel_rfl) (.int .u64 x) (λw h=>(FX.out w g h.1).1) _ Tryz.underlying25 rfl) S0.out ?_;refine tK 3 _ rfl (w0a (by kernel_rfl) _ (.tmp 5) 2 rfl (.pointer (some ⟨g,0,none⟩)) (.pointer (some ⟨g,2,none⟩)) (by kernel_rfl) (s1c g)) S0.out ?_;refine tK 4 _ rfl (l0a (by kernel_rfl) _ (.tmp 21) rfl g 2 (by kernel_rfl) (.int .u64 y) (λw h=>(FX.out w g h.1).2.1) _ Tryz.underlying25 rfl) S0.out ?_;refine tK 7 _ rfl (w0a (by kernel_rfl) _ (.tmp 5) 3 rfl (.pointer (some ⟨g,0,none⟩)) (.pointer (some ⟨g,3,none⟩)) (by kernel_rfl) (t1c g)) S0.out ?_;refine tK 8 _ rfl (l0a (by kernel_rfl) _ (.tmp 25) rfl g 3 (by kernel_rfl) (.int .u16 z) (λw h=>(FX.out w g h.1).2.2) _ Tryz.underlying22 rfl) S0.out ?_;refine tK 9 ((.int .u64 z)) rfl (.inl ⟨by kernel_rfl,λw _=>by go_simp⟩) S0.out ?_;refine t2a λfr1 hfr1=>?_
   have f18:fr1.eval (.tmp 18)=.slice Ab m cb:=by rw[hfr1];kernel_rfl
   have f20:fr1.eval (.tmp 20)=.int .u64 x:=by rw[hfr1];kernel_rfl
   have f22:fr1.eval (.tmp 22)=.int .u64 y:=by rw[hfr1];kernel_rfl
   have f27:fr1.eval (.tmp 27)=.int .u64 z:=by rw[hfr1];kernel_rfl
   refine T3a [(5,23),(6,24),(10,28),(11,29),(12,30),(13,31),(14,32),(15,3)] (λi=>match i with
    | 5=>u7b 2 25 [.int .u64 x,.int .u64 y]
    | 6=>rowP 16 xy
    | 10=>u7b 1 25 [.int .u64 z]
    | 11=>rowP 2 zz
    | 12=>rowP 2 (List.replicate 2 0)
    | 13=>U9a 4 (pj++(xy++(zz++((List.replicate 2 0)))))
    | 14=>H2b 5 w.heap.size (pj++(xy++(zz++((List.replicate 2 0)))))
    | 15=>H2b 5 w.heap.size (pj++(xy++(zz++((List.replicate 2 0)))))
    | _=>λ_ _=>True) fr1 (by rw[hfr1];kernel_rfl) (Nat.le_of_ble_eq_true (by kernel_rfl)) S0.out ?_ ?_ ?_
   ·intro i v w1 w2 hb h;split at h;all_goals first | exact l5a hb h | exact m5a hb h | exact U3a hb h | exact n5a hb h | exact h
   ·refine List.forall_mem_cons.2 ⟨⟨_,rfl,λb w1 s hev hd K hK=>?_⟩,List.forall_mem_cons.2 ⟨⟨_,rfl,λb w1 s hev hd K hK=>?_⟩,List.forall_mem_cons.2 ⟨⟨_,rfl,λb w1 s hev hd K hK=>?_⟩,List.forall_mem_cons.2 ⟨⟨_,rfl,λb w1 s hev hd K hK=>?_⟩,List.forall_mem_cons.2 ⟨⟨_,rfl,λb w1 s hev hd K hK=>?_⟩,List.forall_mem_cons.2 ⟨⟨_,rfl,λb w1 s hev hd K hK=>?_⟩,List.forall_mem_cons.2 ⟨⟨_,rfl,λb w1 s hev hd K hK=>?_⟩,List.forall_mem_cons.2 ⟨⟨_,rfl,λb w1 s hev hd K hK=>?_⟩,λ_ h=>absurd h List.not_mem_nil⟩⟩⟩⟩⟩⟩⟩⟩
    ·have e20:=(hev 20 (by decide)).trans f20;have e22:=(hev 22 (by decide)).trans f22;refine O0a rfl _ _ 2 _ rfl Tryz.underlying192 ([.int .u64 x,.int .u64 y]:List Value) (by simp only[List.map_toArray,List.map_cons,List.map_nil,e20,e22];kernel_rfl) ?_;intro g2 w2 _ _ hY hL;exact hK _ _ (hst.out _ _ s hL.out) hL.out ⟨_,rfl,hY.out⟩
    ·obtain⟨g4,e4,hB⟩:=hd (5,23) (by simp) (by kernel_rfl);simp only[Act.eval,Array.getD_eq_getD_getElem?] at e4;go_simp;refine(D8.out _ _ hB).mono ?_;rintro e w2 ⟨A,c,rfl,hY,hL⟩;exact hK _ _ (hst.out _ _ s hL) hL ⟨_,_,rfl,hY⟩
    ·have e27:=(hev 27 (by decide)).trans f27;refine O0a rfl _ _ 1 _ rfl Tryz.underlying192 ([.int .u64 z]:List Value) (by simp only[List.map_toArray,List.map_cons,List.map_nil,e27];kernel_rfl) ?_;intro g2 w2 _ _ hY hL;exact hK _ _ (hst.out _ _ s hL.out) hL.out ⟨_,rfl,hY.out⟩
    ·obtain⟨g4,e4,hB⟩:=hd (10,28) (by simp) (by kernel_rfl);simp only[Act.eval,Array.getD_eq_getD_getElem?] at e4;go_simp;refine(D2.out _ _ hB).mono ?_;rintro e w2 ⟨A,c,rfl,hY,hL⟩;exact hK _ _ (hst.out _ _ s hL) hL ⟨_,_,rfl,hY⟩
    ·refine s3a rfl _ _ rfl 2 rfl rfl (by omega) ?_;intro w2 hR hL;exact hK _ _ (hst.out _ _ s hL.out) hL.out ⟨_,_,rfl,r2a.holds (base:=0) (.inr ⟨_,rfl,Nat.zero_le _,hR.out⟩) (by rfl:(List.replicate 2 (0:Int)).length=2) (Bytes.zeros 2) (by omega)⟩
    ·have e18:=(hev 18 (by decide)).trans f18;obtain⟨A1,c1,e24,h1⟩:=hd (6,24) (by simp) (by kernel_rfl);obtain⟨A2,c2,e29,h2⟩:=hd (11,29) (by simp) (by kernel_rfl);obtain⟨A3,c3,e30,h3⟩:=hd (12,30) (by simp) (by kernel_rfl);refine O0a rfl _ _ 4 _ rfl Tryz.underlying93 ([.slice Ab m cb,.slice A1 16 c1,.slice A2 2 c2,.slice A3 2 c3]:List Value) (by simp only[List.map_toArray,List.map_cons,List.map_nil,e18,e24,e29,e30];kernel_rfl) ?_;intro g2 w2 _ _ hY hL;exact hK _ _ (hst.out _ _ s hL.out) hL.out ⟨_,[(Ab,m,cb,pj),(A1,16,c1,xy),(A2,2,c2,zz),(A3,2,c3,(List.replicate 2 0))],rfl,o4a.of_blk _ hY.out (List.forall_mem_cons.2 ⟨s.2.2.over hL.out,List.forall_mem_cons.2 ⟨h1.over hL.out,List.forall_mem_cons.2 ⟨h2.over hL.out,List.forall_mem_cons.2 ⟨h3.over hL.out,λ_ h=>absurd h List.not_mem_nil⟩⟩⟩⟩),by show 0+m+16+2+2<=_;omega,by simp[E7a,d4a,List.append_assoc]⟩
    ·obtain⟨g5,l5,e5,hp5,hn5,hc5⟩:=hd (13,31) (by simp) (by kernel_rfl);simp only[Act.eval,Array.getD_eq_getD_getElem?] at e5;go_simp;refine(CC.out _ g5 4 _ _ _ _ hp5 (by omega) (by omega)).mono ?_;rintro e w2 ⟨v,rfl,hY,hL⟩;exact hK _ _ (hst.out _ _ s hL) hL (by rw[<-hc5];exact hY.mono s.2.1.size)
    ·have h15:(H2b 5 w.heap.size (pj++(xy++(zz++((List.replicate 2 0)))))) (b.eval (.tmp 32)) w1:=hd (14,32) (by simp) (by kernel_rfl);simp only[Act.eval,Array.getD_eq_getD_getElem?] at h15;go_simp;exact hK _ _ s (Below.refl _ _) h15
   ·intro vs w9 s hv;have OUT0:X0a .u8 5 w9 w.heap.size (vs 3) (pj++(xy++(zz++((List.replicate 2 0))))):=hv (15,3) (by simp);obtain⟨v,hv15⟩:∃x,x=vs 3:=⟨_,rfl⟩;rw[<-hv15] at OUT0;have OUT:=hI OUT0;have S9:=hI s.1;have b9:=hI s.2.1;have HB_9:=hI s.2.2;subst hfr1;simp only[List.foldl_cons,List.foldl_nil,<-hv15];obtain⟨y23,hy0⟩:∃x,x=vs 23:=⟨_,rfl⟩;rw[<-hy0];clear hy0;obtain⟨y24,hy0⟩:∃x,x=vs 24:=⟨_,rfl⟩;rw[<-hy0];clear hy0;obtain⟨y28,hy0⟩:∃x,x=vs 28:=⟨_,rfl⟩;rw[<-hy0];clear hy0;obtain⟨y29,hy0⟩:∃x,x=vs 29:=⟨_,rfl⟩;rw[<-hy0];clear hy0;obtain⟨y30,hy0⟩:∃x,x=vs 30:=⟨_,rfl⟩;rw[<-hy0];clear hy0;obtain⟨y31,hy0⟩:∃x,x=vs 31:=⟨_,rfl⟩;rw[<-hy0];clear hy0;obtain⟨y32,hy0⟩:∃x,x=vs 32:=⟨_,rfl⟩;rw[<-hy0];clear hy0;clear hv s vs hst S0 hv15 OUT0 f18 f20 f22 f27;have HO6:=hI (OUT.out);have HO7:Hid (X0a .u8 5 w9 w.heap.size v (pre (j+1))):=by
     show X0a _ _ _ _ _ _
     rw[HE2.out];have h9:=HO6.out;simpa[E7a,d4a,List.append_assoc] using h9
    have HB9:=hI b9.out;clear OUT HO6;go_wp2;go_roundw
    case rel=>exact⟨j+1,by simp,by omega,HO7,HB9⟩
    case measure=>simp[intOf];omega
  ·obtain rfl:j=n:=by omega
   go_wp2;go_ret;exact HQ.out _ _ ⟨_,rfl,HO.out,HB1.out⟩
theorem f2b(w:World)(c:Int)(cs:List Value)(a:m1a)(hc:0<=c/\c<=65535)(ka:a.ok)(ha:f1a w w.heap.size cs a)(hu:a.user.size<=17592186044416/\a.share.size<=17592186044416)(hn:a.locks.length<=4398046511104)(hT:V7a w) :
  Calls Tryz.prog 120 #[.int .u16 c,.agg cs.toArray] w λe w'=>e=.returned (.bool (i8a c a))/\Below w.heap.size w w':=by
 have HL:=hI (ha.len ka);have HT:=hI hT;have hgl:=ka.glen;have hpl:=ka.plen;obtain⟨hu0,hu1⟩:=hu;have CP:Hid (∀(w':World) (ds:List Value) (b:m1a),b.ok->b.user=a.user->b.share=a.share->f1a w' w'.heap.size ds b->Below w.heap.size w w'->Calls Tryz.prog 80 #[.int .u16 13,.agg ds.toArray] w' λe w2=>(∃v er,e=.returned (.tuple #[v,.int .i64 er])/\(er==0)=decide (b=i0a))/\Below w'.heap.size w' w2):=λw' ds b kb h1 h2 hb hL=>by have h:=w1b w' 13 ds b (by decide) kb hb ⟨by rw[h1];exact hu0,by rw[h2];exact hu1⟩ (HT.out.below hL);exact h.mono λe w2 ⟨v,h1,_,h3⟩=>⟨⟨v,_,h1,Y5b b⟩,h3⟩
 have kb:=d7b (c:=c) ka;by_cases hk:R2a c=true;rotate_left
 ·have hn0:i8a c a=false:=by unfold i8a;rw[show R2a c=false from by simpa using hk];rfl
  have hk':c≠5/\c≠6/\c≠7/\c≠8/\c≠9/\c≠10:=by refine⟨?_,?_,?_,?_,?_,?_⟩<;>(rintro rfl;exact hk (by decide))
  obtain⟨h5,h6,h7,h8,h9,h10⟩:=hk';have b5:(c==5)=false:=by simpa using h5
  have b6:(c==6)=false:=by simpa using h6
  have b7:(c==7)=false:=by simpa using h7
  have b8:(c==8)=false:=by simpa using h8
  have b9:(c==9)=false:=by simpa using h9
  have b10:(c==10)=false:=by simpa using h10
  rw[hn0];clear hk hn0 h5 h6 h7 h8 h9 h10 ha ka kb CP;go_enter Tryz.func120,Tryz.ntmps120;go_wp2_with(first
   | ((with_reducible refine sN 3 ?_);refine f0a rfl _ (.tmp 1) rfl cs rfl ?_;intro g w1 hg1 hg2 K1 L1)
   | fail)
  go_ret;exact⟨rfl,L1.out⟩
 have hcs:c=5∨c=6∨c=7∨c=8∨c=9∨c=10:=by unfold R2a at hk;simp at hk;omega
 obtain⟨A1,A2,A3,X1,X2,X3,M1,M2,M3,rfl,hA,hX,hM⟩:=ha;have FL:Hid (∀(w:World) (g:Nat),Blk w g 34 (j0a (.slice A1 A2 A3) (.slice X1 X2 X3) (.slice M1 M2 M3) a)->w.cell? ⟨g,62,none⟩=some (.slice M1 M2 M3)):=λw g h=>h.at (p0a ka 13)
 have HM:=hI hM;have hml:M2<=4398046511104:=by rw[<-hM.len];exact hn
 obtain⟨C0,hC0⟩:∃x,x=j0a (.slice A1 A2 A3) (.slice X1 X2 X3) (.slice M1 M2 M3) a:=⟨_,rfl⟩;have HC0:=hI hC0;rw[<-hC0] at HL FL⊢;clear hC0;rcases hcs with h5 | h6 | h7 | h8 | h9 | h10
 ·subst h5;have HI:Hid (∀w':World,Below w.heap.size w w'->f1a w' w'.heap.size (j0a (.slice A1 A2 A3) (.slice X1 X2 X3) (.slice M1 M2 M3) (i1a 5 a)) (i1a 5 a)):=λw' hb=>⟨A1,A2,A3,X1,X2,X3,M1,M2,M3,rfl,hA.over hb,hX.over hb,hM.over hb⟩
  have HEQ:Hid (((((((((C0).set 51 (.int .u32 0)).set 52 (.int .u32 0)).set 53 (.int .u32 0)).set 54 (.int .u32 0)).set 55 (.int .u8 0)).set 56 (.int .u8 0)).set 58 (.string .empty)).set 57 (.int .u64 0)=j0a (.slice A1 A2 A3) (.slice X1 X2 X3) (.slice M1 M2 M3) (i1a 5 a)):=by
   show _=_
   rw[HC0.out];simp only[c3c,d3c,e3c,f3c,V2c,g3c,W2c,t7b,hgl,hpl];try rfl
  have hbu:(i1a 5 a).user=a.user/\(i1a 5 a).share=a.share:=⟨rfl,rfl⟩;obtain⟨hbu1,hbu2⟩:=hbu;rw[Z8a hk (by decide)];obtain⟨b,hb⟩:∃x,x=i1a 5 a:=⟨_,rfl⟩;rw[<-hb] at HI HEQ kb hbu1 hbu2⊢;obtain⟨D,hD⟩:∃x,x=j0a (.slice A1 A2 A3) (.slice X1 X2 X3) (.slice M1 M2 M3) b:=⟨_,rfl⟩;rw[<-hD] at HI HEQ;clear hb hD hk ka;go_enter Tryz.func120,Tryz.ntmps120;go_wp2_with(first
   | ((with_reducible refine sN 3 ?_);refine f0a rfl _ (.tmp 1) rfl C0 rfl ?_;intro g w1 hg1 hg2 K1 L1)
   | ((with_reducible refine sT 10 ?_);refine d0a rfl _ (.tmp 10) (.const (.int .u32 0)) rfl g 51 rfl _ C0 (.int .u32 0) rfl K1 (hI (by have:=HL.out;omega)) (by kernel_rfl) rfl ?_;intro w2 K2 O2 hq2;obtain⟨C1,hC1⟩:∃x,x=C0.set 51 (.int .u32 0):=⟨_,rfl⟩;have HC1:=hI hC1;have HL1:Hid (C1.length=69):=(by rw[hC1,List.length_set];exact HL.out);rw[<-hC1] at K2;have L2:=hI (c0a L1.out O2.out hg1);clear hC1)
   | ((with_reducible refine sT 11 ?_);refine d0a rfl _ (.tmp 11) (.const (.int .u32 0)) rfl g 52 rfl _ C1 (.int .u32 0) rfl K2 (hI (by have:=HL1.out;omega)) (by kernel_rfl) rfl ?_;intro w3 K3 O3 hq3;obtain⟨C2,hC2⟩:∃x,x=C1.set 52 (.int .u32 0):=⟨_,rfl⟩;have HC2:=hI hC2;have HL2:Hid (C2.length=69):=(by rw[hC2,List.length_set];exact HL1.out);rw[<-hC2] at K3;have L3:=hI (c0a L2.out O3.out hg1);clear hC2)
   | ((with_reducible refine sT 12 ?_);refine d0a rfl _ (.tmp 12) (.const (.int .u32 0)) rfl g 53 rfl _ C2 (.int .u32 0) rfl K3 (hI (by have:=HL2.out;omega)) (by kernel_rfl) rfl ?_;intro w4 K4 O4 hq4;obtain⟨C3,hC3⟩:∃x,x=C2.set 53 (.int .u32 0):=⟨_,rfl⟩;have HC3:=hI hC3;have HL3:Hid (C3.length=69):=(by rw[hC3,List.length_set];exact HL2.out);rw[<-hC3] at K4;have L4:=hI (c0a L3.out O4.out hg1);clear hC3)
   | ((with_reducible refine sT 13 ?_);refine d0a rfl _ (.tmp 13) (.const (.int .u32 0)) rfl g 54 rfl _ C3 (.int .u32 0) rfl K4 (hI (by have:=HL3.out;omega)) (by kernel_rfl) rfl ?_;intro w5 K5 O5 hq5;obtain⟨C4,hC4⟩:∃x,x=C3.set 54 (.int .u32 0):=⟨_,rfl⟩;have HC4:=hI hC4;have HL4:Hid (C4.length=69):=(by rw[hC4,List.length_set];exact HL3.out);rw[<-hC4] at K5;have L5:=hI (c0a L4.out O5.out hg1);clear hC4)
   | ((with_reducible refine sT 14 ?_);refine d0a rfl _ (.tmp 14) (.const (.int .u8 0)) rfl g 55 rfl _ C4 (.int .u8 0) rfl K5 (hI (by have:=HL4.out;omega)) (by kernel_rfl) rfl ?_;intro w6 K6 O6 hq6;obtain⟨C5,hC5⟩:∃x,x=C4.set 55 (.int .u8 0):=⟨_,rfl⟩;have HC5:=hI hC5;have HL5:Hid (C5.length=69):=(by rw[hC5,List.length_set];exact HL4.out);rw[<-hC5] at K6;have L6:=hI (c0a L5.out O6.out hg1);clear hC5)
   | ((with_reducible refine sT 15 ?_);refine d0a rfl _ (.tmp 15) (.const (.int .u8 0)) rfl g 56 rfl _ C5 (.int .u8 0) rfl K6 (hI (by have:=HL5.out;omega)) (by kernel_rfl) rfl ?_;intro w7 K7 O7 hq7;obtain⟨C6,hC6⟩:∃x,x=C5.set 56 (.int .u8 0):=⟨_,rfl⟩;have HC6:=hI hC6;have HL6:Hid (C6.length=69):=(by rw[hC6,List.length_set];exact HL5.out);rw[<-hC6] at K7;have L7:=hI (c0a L6.out O7.out hg1);clear hC6)
   | ((with_reducible refine sT 16 ?_);refine d0a rfl _ (.tmp 16) (.const (.string .empty)) rfl g 58 rfl _ C6 (.string .empty) rfl K7 (hI (by have:=HL6.out;omega)) (by kernel_rfl) rfl ?_;intro w8 K8 O8 hq8;obtain⟨C7,hC7⟩:∃x,x=C6.set 58 (.string .empty):=⟨_,rfl⟩;have HC7:=hI hC7;have HL7:Hid (C7.length=69):=(by rw[hC7,List.length_set];exact HL6.out);rw[<-hC7] at K8;have L8:=hI (c0a L7.out O8.out hg1);clear hC7)
   | ((with_reducible refine sT 34 ?_);refine d0a rfl _ (.tmp 34) (.const (.int .u64 0)) rfl g 57 rfl _ C7 (.int .u64 0) rfl K8 (hI (by have:=HL7.out;omega)) (by kernel_rfl) rfl ?_;intro w9 K9 O9 hq9;obtain⟨C8,hC8⟩:∃x,x=C7.set 57 (.int .u64 0):=⟨_,rfl⟩;have HC8:=hI hC8;have HL8:Hid (C8.length=69):=(by rw[hC8,List.length_set];exact HL7.out);rw[<-hC8] at K9;have L9:=hI (c0a L8.out O9.out hg1);clear hC8)
   | ((with_reducible refine sN 36 ?_);refine e0a rfl _ (.tmp 3) rfl g rfl _ C8 K9 69 _ Tryz.underlying34 rfl n0a HL8 ?_)
   | fail)
  have HF:Hid (C8=D):=by
   show _=_
   rw[HC8.out,HC7.out,HC6.out,HC5.out,HC4.out,HC3.out,HC2.out,HC1.out];exact HEQ.out
  rw[HF.out];refine(CP.out _ D b kb hbu1 hbu2 (HI.out _ L9.out) L9.out).mono ?_;rintro e v1 ⟨⟨v,er,rfl,her⟩,LQ⟩;have HER:=hI her;have L99:=hI (step L9.out LQ);clear her LQ;go_wp2;go_ret;exact⟨K0a HER.out,L99.out⟩
 ·subst h6;have HI:Hid (∀w':World,Below w.heap.size w w'->f1a w' w'.heap.size (j0a (.slice A1 A2 A3) (.slice X1 X2 X3) (.slice M1 M2 M3) (i1a 6 a)) (i1a 6 a)):=λw' hb=>⟨A1,A2,A3,X1,X2,X3,M1,M2,M3,rfl,hA.over hb,hX.over hb,hM.over hb⟩
  have HEQ:Hid ((C0).set 57 (.int .u64 0)=j0a (.slice A1 A2 A3) (.slice X1 X2 X3) (.slice M1 M2 M3) (i1a 6 a)):=by
   show _=_
   rw[HC0.out];simp only[t7b,hgl,hpl];try rfl
  have hbu:(i1a 6 a).user=a.user/\(i1a 6 a).share=a.share:=⟨rfl,rfl⟩;obtain⟨hbu1,hbu2⟩:=hbu;rw[Z8a hk (by decide)];obtain⟨b,hb⟩:∃x,x=i1a 6 a:=⟨_,rfl⟩;rw[<-hb] at HI HEQ kb hbu1 hbu2⊢;obtain⟨D,hD⟩:∃x,x=j0a (.slice A1 A2 A3) (.slice X1 X2 X3) (.slice M1 M2 M3) b:=⟨_,rfl⟩;rw[<-hD] at HI HEQ;clear hb hD hk ka;go_enter Tryz.func120,Tryz.ntmps120;go_wp2_with(first
   | ((with_reducible refine sN 3 ?_);refine f0a rfl _ (.tmp 1) rfl C0 rfl ?_;intro g w1 hg1 hg2 K1 L1)
   | ((with_reducible refine sT 34 ?_);refine d0a rfl _ (.tmp 34) (.const (.int .u64 0)) rfl g 57 rfl _ C0 (.int .u64 0) rfl K1 (hI (by have:=HL.out;omega)) (by kernel_rfl) rfl ?_;intro w2 K2 O2 hq2;obtain⟨C1,hC1⟩:∃x,x=C0.set 57 (.int .u64 0):=⟨_,rfl⟩;have HC1:=hI hC1;have HL1:Hid (C1.length=69):=(by rw[hC1,List.length_set];exact HL.out);rw[<-hC1] at K2;have L2:=hI (c0a L1.out O2.out hg1);clear hC1)
   | ((with_reducible refine sN 36 ?_);refine e0a rfl _ (.tmp 3) rfl g rfl _ C1 K2 69 _ Tryz.underlying34 rfl n0a HL1 ?_)
   | fail)
  have HF:Hid (C1=D):=by
   show _=_
   rw[HC1.out];exact HEQ.out
  rw[HF.out];refine(CP.out _ D b kb hbu1 hbu2 (HI.out _ L2.out) L2.out).mono ?_;rintro e v1 ⟨⟨v,er,rfl,her⟩,LQ⟩;have HER:=hI her;have L99:=hI (step L2.out LQ);clear her LQ;go_wp2;go_ret;exact⟨K0a HER.out,L99.out⟩
 ·subst h7;have HI:Hid (∀w':World,Below w.heap.size w w'->f1a w' w'.heap.size (j0a (.slice A1 A2 A3) (.slice X1 X2 X3) (.slice M1 M2 M3) (i1a 7 a)) (i1a 7 a)):=λw' hb=>⟨A1,A2,A3,X1,X2,X3,M1,M2,M3,rfl,hA.over hb,hX.over hb,hM.over hb⟩
  have HEQ:Hid ((C0).set 57 (.int .u64 0)=j0a (.slice A1 A2 A3) (.slice X1 X2 X3) (.slice M1 M2 M3) (i1a 7 a)):=by
   show _=_
   rw[HC0.out];simp only[t7b,hgl,hpl];try rfl
  have hbu:(i1a 7 a).user=a.user/\(i1a 7 a).share=a.share:=⟨rfl,rfl⟩;obtain⟨hbu1,hbu2⟩:=hbu;rw[Z8a hk (by decide)];obtain⟨b,hb⟩:∃x,x=i1a 7 a:=⟨_,rfl⟩;rw[<-hb] at HI HEQ kb hbu1 hbu2⊢;obtain⟨D,hD⟩:∃x,x=j0a (.slice A1 A2 A3) (.slice X1 X2 X3) (.slice M1 M2 M3) b:=⟨_,rfl⟩;rw[<-hD] at HI HEQ;clear hb hD hk ka;go_enter Tryz.func120,Tryz.ntmps120;go_wp2_with(first
   | ((with_reducible refine sN 3 ?_);refine f0a rfl _ (.tmp 1) rfl C0 rfl ?_;intro g w1 hg1 hg2 K1 L1)
   | ((with_reducible refine sT 34 ?_);refine d0a rfl _ (.tmp 34) (.const (.int .u64 0)) rfl g 57 rfl _ C0 (.int .u64 0) rfl K1 (hI (by have:=HL.out;omega)) (by kernel_rfl) rfl ?_;intro w2 K2 O2 hq2;obtain⟨C1,hC1⟩:∃x,x=C0.set 57 (.int .u64 0):=⟨_,rfl⟩;have HC1:=hI hC1;have HL1:Hid (C1.length=69):=(by rw[hC1,List.length_set];exact HL.out);rw[<-hC1] at K2;have L2:=hI (c0a L1.out O2.out hg1);clear hC1)
   | ((with_reducible refine sN 36 ?_);refine e0a rfl _ (.tmp 3) rfl g rfl _ C1 K2 69 _ Tryz.underlying34 rfl n0a HL1 ?_)
   | fail)
  have HF:Hid (C1=D):=by
   show _=_
   rw[HC1.out];exact HEQ.out
  rw[HF.out];refine(CP.out _ D b kb hbu1 hbu2 (HI.out _ L2.out) L2.out).mono ?_;rintro e v1 ⟨⟨v,er,rfl,her⟩,LQ⟩;have HER:=hI her;have L99:=hI (step L2.out LQ);clear her LQ;go_wp2;go_ret;exact⟨K0a HER.out,L99.out⟩
 ·subst h8;have HI:Hid (∀w':World,Below w.heap.size w w'->f1a w' w'.heap.size (j0a (.slice A1 A2 A3) (.slice X1 X2 X3) (.slice M1 M2 M3) (i1a 8 a)) (i1a 8 a)):=λw' hb=>⟨A1,A2,A3,X1,X2,X3,M1,M2,M3,rfl,hA.over hb,hX.over hb,hM.over hb⟩
  have HEQ:Hid ((((C0).set 59 (.int .u64 0)).set 60 (.int .u32 0)).set 57 (.int .u64 0)=j0a (.slice A1 A2 A3) (.slice X1 X2 X3) (.slice M1 M2 M3) (i1a 8 a)):=by
   show _=_
   rw[HC0.out];simp only[X2c,h3c,t7b,hgl,hpl];try rfl
  have hbu:(i1a 8 a).user=a.user/\(i1a 8 a).share=a.share:=⟨rfl,rfl⟩;obtain⟨hbu1,hbu2⟩:=hbu;rw[Z8a hk (by decide)];obtain⟨b,hb⟩:∃x,x=i1a 8 a:=⟨_,rfl⟩;rw[<-hb] at HI HEQ kb hbu1 hbu2⊢;obtain⟨D,hD⟩:∃x,x=j0a (.slice A1 A2 A3) (.slice X1 X2 X3) (.slice M1 M2 M3) b:=⟨_,rfl⟩;rw[<-hD] at HI HEQ;clear hb hD hk ka;go_enter Tryz.func120,Tryz.ntmps120;go_wp2_with(first
   | ((with_reducible refine sN 3 ?_);refine f0a rfl _ (.tmp 1) rfl C0 rfl ?_;intro g w1 hg1 hg2 K1 L1)
   | ((with_reducible refine sT 22 ?_);refine d0a rfl _ (.tmp 22) (.const (.int .u64 0)) rfl g 59 rfl _ C0 (.int .u64 0) rfl K1 (hI (by have:=HL.out;omega)) (by kernel_rfl) rfl ?_;intro w2 K2 O2 hq2;obtain⟨C1,hC1⟩:∃x,x=C0.set 59 (.int .u64 0):=⟨_,rfl⟩;have HC1:=hI hC1;have HL1:Hid (C1.length=69):=(by rw[hC1,List.length_set];exact HL.out);rw[<-hC1] at K2;have L2:=hI (c0a L1.out O2.out hg1);clear hC1)
   | ((with_reducible refine sT 23 ?_);refine d0a rfl _ (.tmp 23) (.const (.int .u32 0)) rfl g 60 rfl _ C1 (.int .u32 0) rfl K2 (hI (by have:=HL1.out;omega)) (by kernel_rfl) rfl ?_;intro w3 K3 O3 hq3;obtain⟨C2,hC2⟩:∃x,x=C1.set 60 (.int .u32 0):=⟨_,rfl⟩;have HC2:=hI hC2;have HL2:Hid (C2.length=69):=(by rw[hC2,List.length_set];exact HL1.out);rw[<-hC2] at K3;have L3:=hI (c0a L2.out O3.out hg1);clear hC2)
   | ((with_reducible refine sT 34 ?_);refine d0a rfl _ (.tmp 34) (.const (.int .u64 0)) rfl g 57 rfl _ C2 (.int .u64 0) rfl K3 (hI (by have:=HL2.out;omega)) (by kernel_rfl) rfl ?_;intro w4 K4 O4 hq4;obtain⟨C3,hC3⟩:∃x,x=C2.set 57 (.int .u64 0):=⟨_,rfl⟩;have HC3:=hI hC3;have HL3:Hid (C3.length=69):=(by rw[hC3,List.length_set];exact HL2.out);rw[<-hC3] at K4;have L4:=hI (c0a L3.out O4.out hg1);clear hC3)
   | ((with_reducible refine sN 36 ?_);refine e0a rfl _ (.tmp 3) rfl g rfl _ C3 K4 69 _ Tryz.underlying34 rfl n0a HL3 ?_)
   | fail)
  have HF:Hid (C3=D):=by
   show _=_
   rw[HC3.out,HC2.out,HC1.out];exact HEQ.out
  rw[HF.out];refine(CP.out _ D b kb hbu1 hbu2 (HI.out _ L4.out) L4.out).mono ?_;rintro e v1 ⟨⟨v,er,rfl,her⟩,LQ⟩;have HER:=hI her;have L99:=hI (step L4.out LQ);clear her LQ;go_wp2;go_ret;exact⟨K0a HER.out,L99.out⟩
 ·subst h9;have HI:Hid (∀w':World,Below w.heap.size w w'->f1a w' w'.heap.size (j0a (.slice A1 A2 A3) (.slice none 0 0) (.slice M1 M2 M3) (i1a 9 a)) (i1a 9 a)):=λw' hb=>⟨A1,A2,A3,none,0,0,M1,M2,M3,rfl,hA.over hb,Holds.nil _ _,hM.over hb⟩
  have HEQ:Hid ((((C0).set 59 (.int .u64 0)).set 61 (.slice none 0 0)).set 57 (.int .u64 0)=j0a (.slice A1 A2 A3) (.slice none 0 0) (.slice M1 M2 M3) (i1a 9 a)):=by
   show _=_
   rw[HC0.out];simp only[X2c,O2c,t7b,hgl,hpl];try rfl
  have hbu:(i1a 9 a).user=a.user/\(i1a 9 a).share=a.share:=⟨rfl,rfl⟩;obtain⟨hbu1,hbu2⟩:=hbu;rw[Z8a hk (by decide)];obtain⟨b,hb⟩:∃x,x=i1a 9 a:=⟨_,rfl⟩;rw[<-hb] at HI HEQ kb hbu1 hbu2⊢;obtain⟨D,hD⟩:∃x,x=j0a (.slice A1 A2 A3) (.slice none 0 0) (.slice M1 M2 M3) b:=⟨_,rfl⟩;rw[<-hD] at HI HEQ;clear hb hD hk ka;go_enter Tryz.func120,Tryz.ntmps120;go_wp2_with(first
   | ((with_reducible refine sN 3 ?_);refine f0a rfl _ (.tmp 1) rfl C0 rfl ?_;intro g w1 hg1 hg2 K1 L1)
   | ((with_reducible refine sT 26 ?_);refine d0a rfl _ (.tmp 26) (.const (.int .u64 0)) rfl g 59 rfl _ C0 (.int .u64 0) rfl K1 (hI (by have:=HL.out;omega)) (by kernel_rfl) rfl ?_;intro w2 K2 O2 hq2;obtain⟨C1,hC1⟩:∃x,x=C0.set 59 (.int .u64 0):=⟨_,rfl⟩;have HC1:=hI hC1;have HL1:Hid (C1.length=69):=(by rw[hC1,List.length_set];exact HL.out);rw[<-hC1] at K2;have L2:=hI (c0a L1.out O2.out hg1);clear hC1)
   | ((with_reducible refine sT 27 ?_);refine d0a rfl _ (.tmp 27) (.const (.slice none 0 0)) rfl g 61 rfl _ C1 (.slice none 0 0) rfl K2 (hI (by have:=HL1.out;omega)) (by kernel_rfl) rfl ?_;intro w3 K3 O3 hq3;obtain⟨C2,hC2⟩:∃x,x=C1.set 61 (.slice none 0 0):=⟨_,rfl⟩;have HC2:=hI hC2;have HL2:Hid (C2.length=69):=(by rw[hC2,List.length_set];exact HL1.out);rw[<-hC2] at K3;have L3:=hI (c0a L2.out O3.out hg1);clear hC2)
   | ((with_reducible refine sT 34 ?_);refine d0a rfl _ (.tmp 34) (.const (.int .u64 0)) rfl g 57 rfl _ C2 (.int .u64 0) rfl K3 (hI (by have:=HL2.out;omega)) (by kernel_rfl) rfl ?_;intro w4 K4 O4 hq4;obtain⟨C3,hC3⟩:∃x,x=C2.set 57 (.int .u64 0):=⟨_,rfl⟩;have HC3:=hI hC3;have HL3:Hid (C3.length=69):=(by rw[hC3,List.length_set];exact HL2.out);rw[<-hC3] at K4;have L4:=hI (c0a L3.out O4.out hg1);clear hC3)
   | ((with_reducible refine sN 36 ?_);refine e0a rfl _ (.tmp 3) rfl g rfl _ C3 K4 69 _ Tryz.underlying34 rfl n0a HL3 ?_)
   | fail)
  have HF:Hid (C3=D):=by
   show _=_
   rw[HC3.out,HC2.out,HC1.out];exact HEQ.out
  rw[HF.out];refine(CP.out _ D b kb hbu1 hbu2 (HI.out _ L4.out) L4.out).mono ?_;rintro e v1 ⟨⟨v,er,rfl,her⟩,LQ⟩;have HER:=hI her;have L99:=hI (step L4.out LQ);clear her LQ;go_wp2;go_ret;exact⟨K0a HER.out,L99.out⟩
 ·subst h10;have HI:Hid (∀w':World,Below w.heap.size w w'->f1a w' w'.heap.size (j0a (.slice A1 A2 A3) (.slice X1 X2 X3) (.slice none 0 0) (i1a 10 a)) (i1a 10 a)):=λw' hb=>⟨A1,A2,A3,X1,X2,X3,none,0,0,rfl,hA.over hb,hX.over hb,d1a.nil _ _ _ _⟩
  have HEQ:Hid (((C0).set 62 (.slice none 0 0)).set 57 (.int .u64 0)=j0a (.slice A1 A2 A3) (.slice X1 X2 X3) (.slice none 0 0) (i1a 10 a)):=by
   show _=_
   rw[HC0.out];simp only[P2c,t7b,hgl,hpl];try rfl
  have hbu:(i1a 10 a).user=a.user/\(i1a 10 a).share=a.share:=⟨rfl,rfl⟩;obtain⟨hbu1,hbu2⟩:=hbu;have CC:Hid (∀w',Below w.heap.size w w'->Calls Tryz.prog 166 #[.slice M1 M2 M3,.func (.func 167) #[] #[]] w' λe w2=>e=.returned (.bool (!shut a.locks))/\Below w'.heap.size w' w2):=λw' hb=>s3b w' M1 M2 M3 a.locks (HM.out.over hb) hml
  have hnf:i8a 10 a=(decide (i1a 10 a=i0a)&&shut a.locks):=by unfold i8a;rw[hk,Bool.true_and]
  rw[hnf];obtain⟨b,hb⟩:∃x,x=i1a 10 a:=⟨_,rfl⟩;rw[<-hb] at HI HEQ kb hbu1 hbu2⊢;obtain⟨D,hD⟩:∃x,x=j0a (.slice A1 A2 A3) (.slice X1 X2 X3) (.slice none 0 0) b:=⟨_,rfl⟩;rw[<-hD] at HI HEQ;clear hb hD hk ka;by_cases hs:shut a.locks=true;rotate_left
  ·have hsf:shut a.locks=false:=by simpa using hs
   rw[hsf,Bool.and_false];rw[hsf] at CC;clear hs hsf;go_enter Tryz.func120,Tryz.ntmps120;go_wp2_with(first
    | ((with_reducible refine sN 3 ?_);refine f0a rfl _ (.tmp 1) rfl C0 rfl ?_;intro g w1 hg1 hg2 K1 L1;have cl:=FL.out w1 g K1.out)
    | fail)
   refine(CC.out w1 L1.out).mono ?_;rintro e v1 ⟨rfl,L9⟩;go_wp2;go_ret;exact⟨rfl,step L1.out L9⟩
  ·rw[hs,Bool.and_true];rw[hs] at CC;clear hs;go_enter Tryz.func120,Tryz.ntmps120;go_wp2_with(first
    | ((with_reducible refine sN 3 ?_);refine f0a rfl _ (.tmp 1) rfl C0 rfl ?_;intro g w1 hg1 hg2 K1 L1;have cl:=FL.out w1 g K1.out)
    | fail)
   refine(CC.out w1 L1.out).mono ?_;rintro e v0 ⟨rfl,L9⟩;have Kx:=hI (K1.out.over L9);have Lx:=hI (step L1.out L9);clear L9 cl K1 L1;have K1:=Kx;have L1:=Lx;clear Kx Lx;go_wp2_with(first
    | ((with_reducible refine sT 33 ?_);refine d0a rfl _ (.tmp 33) (.const (.slice none 0 0)) rfl g 62 rfl _ C0 (.slice none 0 0) rfl K1 (hI (by have:=HL.out;omega)) (by kernel_rfl) rfl ?_;intro w2 K2 O2 hq2;obtain⟨C1,hC1⟩:∃x,x=C0.set 62 (.slice none 0 0):=⟨_,rfl⟩;have HC1:=hI hC1;have HL1:Hid (C1.length=69):=(by rw[hC1,List.length_set];exact HL.out);rw[<-hC1] at K2;have L2:=hI (c0a L1.out O2.out hg1);clear hC1)
    | ((with_reducible refine sT 34 ?_);refine d0a rfl _ (.tmp 34) (.const (.int .u64 0)) rfl g 57 rfl _ C1 (.int .u64 0) rfl K2 (hI (by have:=HL1.out;omega)) (by kernel_rfl) rfl ?_;intro w3 K3 O3 hq3;obtain⟨C2,hC2⟩:∃x,x=C1.set 57 (.int .u64 0):=⟨_,rfl⟩;have HC2:=hI hC2;have HL2:Hid (C2.length=69):=(by rw[hC2,List.length_set];exact HL1.out);rw[<-hC2] at K3;have L3:=hI (c0a L2.out O3.out hg1);clear hC2)
    | ((with_reducible refine sN 36 ?_);refine e0a rfl _ (.tmp 3) rfl g rfl _ C2 K3 69 _ Tryz.underlying34 rfl n0a HL2 ?_)
    | fail)
   have HF:Hid (C2=D):=by
    show _=_
    rw[HC2.out,HC1.out];exact HEQ.out
   rw[HF.out];refine(CP.out _ D b kb hbu1 hbu2 (HI.out _ L3.out) L3.out).mono ?_;rintro e v1 ⟨⟨v,er,rfl,her⟩,LQ⟩;have HER:=hI her;have L99:=hI (step L3.out LQ);clear her LQ;go_wp2;go_ret;exact⟨K0a HER.out,L99.out⟩
theorem le1(x:Int)(h0:0<=x)(h1:x<=255):le x 1=[x]:=by
 show[x%256]=[x]
 rw[Int.emod_eq_of_lt h0 (by omega)]
def w6a(w:World)(c:Int)(a:m1a)(e:Ending)(w':World):Prop:=∃v,e=.returned (.tuple #[v,.int .i64 (I6a c a)])/\X0a .u8 5 w' w.heap.size v (t1b c a)/\Below w.heap.size w w'
theorem u5b(w:World)(c:Int)(cs:List Value)(a:m1a)(hc:0<=c/\c<=65535)(ka:a.ok)(ha:f1a w w.heap.size cs a)(hu:a.user.size<=17592186044416/\a.share.size<=17592186044416)(hnm:a.name.size<=17592186044416)(hn:a.locks.length<=4398046511104)(hT:V7a w) :
  Calls Tryz.prog 84 #[.int .u16 c,.agg cs.toArray] w (w6a w c a):=by
 have HL:=hI (ha.len ka);have HT:=hI hT;have HA:=hI ha;have CN:Hid (∀w',Below w.heap.size w w'->Calls Tryz.prog 120 #[.int .u16 c,.agg cs.toArray] w' λe w2=>e=.returned (.bool (i8a c a))/\Below w'.heap.size w' w2):=λw' hb=>f2b w' c cs a hc ka (HA.out.over hb) hu hn (HT.out.below hb)
 obtain⟨A1,A2,A3,X1,X2,X3,M1,M2,M3,hcs,hA,hX,hM⟩:=ha;have FL:Hid (∀(w:World) (g:Nat),Blk w g 34 cs->w.cell? ⟨g,61,none⟩=some (.slice X1 X2 X3)/\w.cell? ⟨g,62,none⟩=some (.slice M1 M2 M3)):=λw g h=>by rw[hcs] at h;exact⟨h.at (p0a ka 12),h.at (p0a ka 13)⟩
 have hxl:a.data.length=X2:=hX.len;have hml:a.locks.length=M2:=hM.len;have hxr:=hX.room;have HE:Hid (∀er,I6a c a=er->er≠0->∀v e w',e=.returned (.tuple #[v,.int .i64 er])->v=.slice none 0 0->Below w.heap.size w w'->w6a w c a e w'):=by intro er h1 h2 v e w' he hv hb;unfold w6a t1b;rw[h1,if_neg h2];exact⟨_,he,by rw[hv];exact X0a.nil _ _ _ _,hb⟩
 by_cases hnf:i8a c a=true;rotate_left
 ·have hnb:i8a c a=false:=by simpa using hnf
  have HQ:=hI (HE.out 2 (by unfold I6a;rw[if_neg hnf]) (by decide));rw[hnb] at CN;clear hnf hnb HE hA hX hM ka HA hcs hxl hml;go_enter Tryz.func84,Tryz.ntmps84;go_wp2_with(first
   | ((with_reducible refine sN 3 ?_);refine f0a rfl _ (.tmp 1) rfl cs rfl ?_;intro g w1 hg1 hg2 K1 L1)
   | ((with_reducible refine sN 11 ?_);refine e0a rfl _ (.tmp 3) rfl g rfl _ cs K1 69 _ Tryz.underlying34 rfl n0a HL ?_)
   | fail)
  refine(CN.out w1 L1.out).mono ?_;rintro e w2 ⟨rfl,L2⟩;have K2:=hI (K1.out.over L2);have M2':=hI (step L1.out L2);obtain⟨c61,c62⟩:=FL.out w2 g K2.out;clear L2 K1 L1 CN;go_wp2;go_ret2;exact HQ.out _ _ _ rfl rfl M2'.out
 by_cases hlim:X2<=32768/\M2<=16;rotate_left
 ·have HQ:=hI (HE.out 3 (by unfold I6a;rw[if_pos hnf,hxl,hml,if_neg hlim]) (by decide));rw[hnf] at CN;clear hnf HE hA hX hM ka HA hcs hxl hml;by_cases hx3:X2<=32768
  ·have hm3:¬M2<=16:=λh=>hlim ⟨hx3,h⟩
   clear hlim;go_enter Tryz.func84,Tryz.ntmps84;go_wp2_with(first
    | ((with_reducible refine sN 3 ?_);refine f0a rfl _ (.tmp 1) rfl cs rfl ?_;intro g w1 hg1 hg2 K1 L1)
    | ((with_reducible refine sN 11 ?_);refine e0a rfl _ (.tmp 3) rfl g rfl _ cs K1 69 _ Tryz.underlying34 rfl n0a HL ?_)
    | fail)
   refine(CN.out w1 L1.out).mono ?_;rintro e w2 ⟨rfl,L2⟩;have K2:=hI (K1.out.over L2);have M2':=hI (step L1.out L2);obtain⟨c61,c62⟩:=FL.out w2 g K2.out;clear L2 K1 L1 CN;go_wp2;go_ret2;exact HQ.out _ _ _ rfl rfl M2'.out
  ·clear hlim;go_enter Tryz.func84,Tryz.ntmps84;go_wp2_with(first
    | ((with_reducible refine sN 3 ?_);refine f0a rfl _ (.tmp 1) rfl cs rfl ?_;intro g w1 hg1 hg2 K1 L1)
    | ((with_reducible refine sN 11 ?_);refine e0a rfl _ (.tmp 3) rfl g rfl _ cs K1 69 _ Tryz.underlying34 rfl n0a HL ?_)
    | fail)
   refine(CN.out w1 L1.out).mono ?_;rintro e w2 ⟨rfl,L2⟩;have K2:=hI (K1.out.over L2);have M2':=hI (step L1.out L2);obtain⟨c61,c62⟩:=FL.out w2 g K2.out;clear L2 K1 L1 CN;go_wp2;go_ret2;exact HQ.out _ _ _ rfl rfl M2'.out
 obtain⟨hx3,hm3⟩:=hlim;rw[hnf] at CN;have hk:R2a c=true:=by
  unfold i8a at hnf;cases h:R2a c
  ·rw[h,Bool.false_and] at hnf;exact absurd hnf (by decide)
  ·rfl
 have hcc:c=5∨c=6∨c=7∨c=8∨c=9∨c=10:=by unfold R2a at hk;simp at hk;omega
 have HOK:Hid (I6a c a=if c=5 then y0a a.name.data.toList else 0):=by
  show _=_
  unfold I6a;rw[if_pos hnf,hxl,hml,if_pos ⟨hx3,hm3⟩]
 have HQ0:Hid (I6a c a=0->∀v e w',e=.returned (.tuple #[v,.int .i64 0])->X0a .u8 5 w' w.heap.size v (p4a c a)->Below w.heap.size w w'->w6a w c a e w'):=by intro h v e w' he hv hb;unfold w6a t1b;rw[h,if_pos rfl];exact⟨_,he,hv,hb⟩
 have b_acc:=ka.acc;obtain⟨l_acc,u_acc⟩:=b_acc;have b_shr:=ka.shr;obtain⟨l_shr,u_shr⟩:=b_shr;have b_way:=ka.way;obtain⟨l_way,u_way⟩:=b_way;have b_opt:=ka.opt;obtain⟨l_opt,u_opt⟩:=b_opt;have b_lev:=ka.lev;obtain⟨l_lev,u_lev⟩:=b_lev;have b_dur:=ka.dur;obtain⟨l_dur,u_dur⟩:=b_dur;have b_file:=ka.file;obtain⟨l_file,u_file⟩:=b_file;have b_at_:=ka.at_;obtain⟨l_at_,u_at_⟩:=b_at_;have b_n:=ka.n;obtain⟨l_n,u_n⟩:=b_n;have z_acc:IntKind.u64.wrap a.acc=a.acc:=by rw[IntKind.wrap_u64];omega
 have z_shr:IntKind.u64.wrap a.shr=a.shr:=by rw[IntKind.wrap_u64];omega
 have z_way:IntKind.u64.wrap a.way=a.way:=by rw[IntKind.wrap_u64];omega
 have z_opt:IntKind.u64.wrap a.opt=a.opt:=by rw[IntKind.wrap_u64];omega
 have z_n:IntKind.u64.wrap a.n=a.n:=by rw[IntKind.wrap_u64];omega
 have z_x:IntKind.u64.wrap (X2:Int)=(X2:Int):=by rw[IntKind.wrap_u64];omega
 have FC:Hid (∀(w:World) (g:Nat),Blk w g 34 cs->w.cell? ⟨g,51,none⟩=some (.int .u32 a.acc)/\w.cell? ⟨g,52,none⟩=some (.int .u32 a.shr)/\w.cell? ⟨g,53,none⟩=some (.int .u32 a.way)/\w.cell? ⟨g,54,none⟩=some (.int .u32 a.opt)/\w.cell? ⟨g,55,none⟩=some (.int .u8 a.lev)/\w.cell? ⟨g,56,none⟩=some (.int .u8 a.dur)/\w.cell? ⟨g,57,none⟩=some (.int .u64 a.file)/\w.cell? ⟨g,58,none⟩=some (.string a.name)/\w.cell? ⟨g,59,none⟩=some (.int .u64 a.at_)/\w.cell? ⟨g,60,none⟩=some (.int .u32 a.n)):=λw g h=>by rw[hcs] at h;exact⟨h.at (p0a ka 2),h.at (p0a ka 3),h.at (p0a ka 4),h.at (p0a ka 5),h.at (p0a ka 6),h.at (p0a ka 7),h.at (p0a ka 8),h.at (p0a ka 9),h.at (p0a ka 10),h.at (p0a ka 11)⟩
 have CC:Hid (∀(w:World) (gs m:Nat) (A:Nat->Option Addr) (n c:Nat->Nat) (X:Nat->List Int),o4a w gs m A n c X->m<=1000->X1b n m<=140737488355328->Calls Tryz.prog 22 #[.slice (some ⟨gs,0,none⟩) m m] w λe w'=>∃v,e=.returned v/\X0a .u8 5 w' w.heap.size v (E7a X m)/\Below w.heap.size w w'):=X2a;have CF8:Hid (∀(w:World) (gl:Nat),Blk w gl 25 [.int .u64 a.file]->Calls Tryz.prog 121 #[.int .i64 8,.slice (some ⟨gl,0,none⟩) 1 1] w λe w'=>∃A' c',e=.returned (.slice A' 8 c')/\(X0a .u8 5 w' w.heap.size (.slice A' 8 c') (le a.file 8)/\Holds w' w'.heap.size A' 8 c' (le a.file 8))/\Below w.heap.size w w'):=λw gl hB=>by
  have h:=v4a w gl 1 8 ([a.file]:List Int) hB rfl (by decide) (by decide) (λz hz=>by rw[show(256:Int)^8=18446744073709551616 from by decide];simp only[List.mem_cons,List.not_mem_nil,or_false] at hz;rw[hz];omega)
  have e1:q2a 8 ([a.file]:List Int)=le a.file 8:=by simp[q2a]
  rw[e1] at h;have e2:(le a.file 8).length=8:=by simp[g0a]
  rw[e2] at h;exact h
 have HX:=hI hX;have HM:=hI hM;clear HE hA hX hM HA hcs hnf hxl hml hk;rcases hcc with h5 | h6 | h7 | h8 | h9 | h10
 ·subst h5;rw[if_pos rfl] at HOK;have CT:Hid (∀w',Below w.heap.size w w'->Calls Tryz.prog 110 #[.string a.name] w' λe w2=>(∃v,e=.returned (.tuple #[v,.int .i64 (y0a a.name.data.toList)])/\X0a .u8 5 w2 w'.heap.size v (A0a a.name.data.toList))/\Below w'.heap.size w' w2):=λw' hb=>(A5a a.name w' hnm (HT.out.below hb)).mono λe w2 ⟨v,h1,h2,h3⟩=>⟨⟨v,h1,h2⟩,h3⟩
  by_cases hp:y0a a.name.data.toList=0;rotate_left
  ·have HQ:Hid (∀e w',e=.returned (.tuple #[.slice none 0 0,.int .i64 (y0a a.name.data.toList)])->Below w.heap.size w w'->w6a w 5 a e w'):=by intro e w' he hb;unfold w6a t1b;rw[HOK.out,if_neg hp];exact⟨_,he,X0a.nil _ _ _ _,hb⟩
   obtain⟨er,her⟩:∃x,x=y0a a.name.data.toList:=⟨_,rfl⟩;rw[<-her] at CT HQ hp;have hne:(er != 0)=true:=by simpa using hp
   clear her hp HOK HQ0;go_enter Tryz.func84,Tryz.ntmps84;go_wp2_with(first
    | ((with_reducible refine sN 3 ?_);refine f0a rfl _ (.tmp 1) rfl cs rfl ?_;intro g w1 hg1 hg2 K1 L1)
    | ((with_reducible refine sN 11 ?_);refine e0a rfl _ (.tmp 3) rfl g rfl _ cs K1 69 _ Tryz.underlying34 rfl n0a HL ?_)
    | fail)
   refine(CN.out w1 L1.out).mono ?_;rintro e w2 ⟨rfl,L2⟩;have K2:=hI (K1.out.over L2);have M2':=hI (step L1.out L2);obtain⟨c61,c62⟩:=FL.out w2 g K2.out;clear L2 K1 L1 CN;obtain⟨c51,c52,c53,c54,c55,c56,c57,c58,c59,c60⟩:=FC.out w2 g K2.out;go_wp2_with(first
    | ((with_reducible refine sN 26 ?_);refine s1a rfl _ _ 1 _ rfl Tryz.underlying192 ([.int .u64 a.file]:List Value) (by kernel_rfl) ?_;intro g3 w3 hg5 hg6 Y3 L3)
    | fail)
   refine(CF8.out w3 g3 Y3.out).mono ?_;rintro e w4 ⟨Af,cf,rfl,⟨hOf,hHf⟩,L4⟩;have HF:=hI hHf;have K4:=hI ((K2.out.over L3.out).over L4);have M4:=hI (step (step M2'.out L3.out) L4);have OF:=hI (X0a.mono hOf (Nat.le_trans M2'.out.size L3.out.size));have HXD:=hI (HX.out.over M4.out);have hs4:=M4.out.size;clear hHf hOf L4 L3 Y3 K2 M2' c51 c52 c53 c54 c55 c56 c57 c58 c59 c60 c61 c62 CF8;obtain⟨c51,c52,c53,c54,c55,c56,c57,c58,c59,c60⟩:=FC.out w4 g K4.out;go_wp2_with fail;refine(CT.out w4 M4.out).mono ?_;rintro e w5 ⟨⟨v,rfl,hv⟩,L5⟩;have M5:=hI (step M4.out L5);clear hv L5;go_wp2;go_ret2;exact HQ.out _ _ rfl M5.out
  ·have HQ:=hI (HQ0.out (by rw[HOK.out,hp]));rw[hp] at CT;have hb5:p4a 5 a=(le a.acc 4++(le a.shr 4++(le a.way 4++le a.opt 4)))++([a.lev,a.dur]++(List.replicate 2 0++(le a.file 8++A0a a.name.data.toList))):=by unfold p4a;rw[if_pos rfl,le1 a.lev l_lev u_lev,le1 a.dur l_dur u_dur];simp only[List.append_assoc,List.cons_append,List.nil_append]
   rw[hb5] at HQ;have CM4:Hid (∀(w:World) (gl:Nat),Blk w gl 25 [.int .u64 a.acc,.int .u64 a.shr,.int .u64 a.way,.int .u64 a.opt]->Calls Tryz.prog 121 #[.int .i64 4,.slice (some ⟨gl,0,none⟩) 4 4] w λe w'=>∃A' c',e=.returned (.slice A' 16 c')/\(X0a .u8 5 w' w.heap.size (.slice A' 16 c') (le a.acc 4++(le a.shr 4++(le a.way 4++le a.opt 4)))/\Holds w' w'.heap.size A' 16 c' (le a.acc 4++(le a.shr 4++(le a.way 4++le a.opt 4))))/\Below w.heap.size w w'):=λw gl hB=>by
    have h:=v4a w gl 4 4 ([a.acc,a.shr,a.way,a.opt]:List Int) hB rfl (by decide) (by decide) (λz hz=>by rw[show(256:Int)^4=4294967296 from by decide];simp only[List.mem_cons,List.not_mem_nil,or_false] at hz;rcases hz with hz | hz | hz | hz<;>omega)
    have e1:q2a 4 ([a.acc,a.shr,a.way,a.opt]:List Int)=le a.acc 4++(le a.shr 4++(le a.way 4++le a.opt 4)):=by simp[q2a]
    rw[e1] at h;have e2:(le a.acc 4++(le a.shr 4++(le a.way 4++le a.opt 4))).length=16:=by simp[g0a]
    rw[e2] at h;exact h
   have HLT:Hid ((A0a a.name.data.toList).length<=514/\Bytes (A0a a.name.data.toList)):=⟨k3a _,b2a _⟩;obtain⟨tx,htx⟩:∃x,x=A0a a.name.data.toList:=⟨_,rfl⟩;rw[<-htx] at CT HQ HLT;obtain⟨f8,hf8⟩:∃x,x=le a.file 8:=⟨_,rfl⟩;rw[<-hf8] at CF8 HQ;obtain⟨m4,hm4⟩:∃x,x=le a.acc 4++(le a.shr 4++(le a.way 4++le a.opt 4)):=⟨_,rfl⟩;rw[<-hm4] at CM4 HQ;have hld:Bytes [a.lev,a.dur]:=by intro x hx;simp only[List.mem_cons,List.not_mem_nil,or_false] at hx;rcases hx with hx | hx<;>omega
   have HLD:=hI hld;obtain⟨hlt,hlb⟩:=HLT.out;obtain⟨lt,hltx⟩:∃x,x=tx.length:=⟨_,rfl⟩;have HLTX:=hI hltx;rw[<-hltx] at hlt;clear htx hf8 hm4 hp HOK HQ0 hb5 hltx hld;go_enter Tryz.func84,Tryz.ntmps84;go_wp2_with(first
    | ((with_reducible refine sN 3 ?_);refine f0a rfl _ (.tmp 1) rfl cs rfl ?_;intro g w1 hg1 hg2 K1 L1)
    | ((with_reducible refine sN 11 ?_);refine e0a rfl _ (.tmp 3) rfl g rfl _ cs K1 69 _ Tryz.underlying34 rfl n0a HL ?_)
    | fail)
   refine(CN.out w1 L1.out).mono ?_;rintro e w2 ⟨rfl,L2⟩;have K2:=hI (K1.out.over L2);have M2':=hI (step L1.out L2);obtain⟨c61,c62⟩:=FL.out w2 g K2.out;clear L2 K1 L1 CN;obtain⟨c51,c52,c53,c54,c55,c56,c57,c58,c59,c60⟩:=FC.out w2 g K2.out;go_wp2_with(first
    | ((with_reducible refine sN 26 ?_);refine s1a rfl _ _ 1 _ rfl Tryz.underlying192 ([.int .u64 a.file]:List Value) (by kernel_rfl) ?_;intro g3 w3 hg5 hg6 Y3 L3)
    | fail)
   refine(CF8.out w3 g3 Y3.out).mono ?_;rintro e w4 ⟨Af,cf,rfl,⟨hOf,hHf⟩,L4⟩;have HF:=hI hHf;have K4:=hI ((K2.out.over L3.out).over L4);have M4:=hI (step (step M2'.out L3.out) L4);have OF:=hI (X0a.mono hOf (Nat.le_trans M2'.out.size L3.out.size));have HXD:=hI (HX.out.over M4.out);have hs4:=M4.out.size;clear hHf hOf L4 L3 Y3 K2 M2' c51 c52 c53 c54 c55 c56 c57 c58 c59 c60 c61 c62 CF8;obtain⟨c51,c52,c53,c54,c55,c56,c57,c58,c59,c60⟩:=FC.out w4 g K4.out;go_wp2_with fail;refine(CT.out w4 M4.out).mono ?_;rintro e w5 ⟨⟨v,rfl,hv⟩,L5⟩;obtain⟨At,ct,rfl,hHt⟩:=X0a.holds8 hv hlb (by rw[<-HLTX.out];omega);rw[<-HLTX.out] at hHt⊢;have HTX:=hI hHt;have K5:=hI (K4.out.over L5);have M5:=hI (step M4.out L5);have HF5:=hI (HF.out.over L5);clear hv hHt L5 K4 M4 HF OF HXD c51 c52 c53 c54 c55 c56 c57 c58 c59 c60;obtain⟨c51,c52,c53,c54,c55,c56,c57,c58,c59,c60⟩:=FC.out w5 g K5.out;go_wp2_with(first
    | ((with_reducible refine sN 52 ?_);refine s1a rfl _ _ 4 _ rfl Tryz.underlying192 ([.int .u64 a.acc,.int .u64 a.shr,.int .u64 a.way,.int .u64 a.opt]:List Value) (by kernel_rfl) ?_;intro g6 w6 hg7 hg8 Y6 L6)
    | fail)
   refine(CM4.out w6 g6 Y6.out).mono ?_;rintro e w7 ⟨Am,cm,rfl,⟨_,hHm⟩,L7⟩;have HMM:=hI hHm;have K7:=hI ((K5.out.over L6.out).over L7);have M7:=hI (step (step M5.out L6.out) L7);have HF7:=hI ((HF5.out.over L6.out).over L7);have HTX7:=hI ((HTX.out.over L6.out).over L7);have hs7:=M7.out.size;clear hHm L6 L7 Y6 K5 M5 HF5 HTX c51 c52 c53 c54 c55 c56 c57 c58 c59 c60;go_upto_region 12 with fail
   have hst:Hid (∀w1 w2:World,(Blk w1 g 34 cs/\Below w.heap.size w w1/\Holds w1 w1.heap.size Am 16 cm m4/\Holds w1 w1.heap.size Af 8 cf f8/\Holds w1 w1.heap.size At lt ct tx)->Below w1.heap.size w1 w2->(Blk w2 g 34 cs/\Below w.heap.size w w2/\Holds w2 w2.heap.size Am 16 cm m4/\Holds w2 w2.heap.size Af 8 cf f8/\Holds w2 w2.heap.size At lt ct tx)):=λw1 w2 s hb=>⟨s.1.over hb,step s.2.1 hb,s.2.2.1.over hb,s.2.2.2.1.over hb,s.2.2.2.2.over hb⟩
   refine wp_region_held (S:=λw'=>Blk w' g 34 cs/\Below w.heap.size w w'/\Holds w' w'.heap.size Am 16 cm m4/\Holds w' w'.heap.size Af 8 cf f8/\Holds w' w'.heap.size At lt ct tx) (by kernel_rfl) ?_;change wpAnyH _ _ _ _ _ _ _ _ w7.drew
   have S0:Hid (Blk w7.drew g 34 cs/\Below w.heap.size w w7.drew/\Holds w7.drew w7.drew.heap.size Am 16 cm m4/\Holds w7.drew w7.drew.heap.size Af 8 cf f8/\Holds w7.drew w7.drew.heap.size At lt ct tx):=⟨K7.out.drew,M7.out.drew,HMM.out.drew,HF7.out.drew,HTX7.out.drew⟩;refine tK 0 _ rfl (u0a (by kernel_rfl) (.tmp 9) rfl (.slice Am 16 cm) (by kernel_rfl)) S0.out ?_;refine tK 1 _ rfl (w0a (by kernel_rfl) _ (.tmp 3) 9 rfl (.pointer (some ⟨g,0,none⟩)) (.pointer (some ⟨g,55,none⟩)) (by kernel_rfl) (W6a g)) S0.out ?_;refine tK 2 _ rfl (l0a (by kernel_rfl) _ (.tmp 55) rfl g 55 (by kernel_rfl) (.int .u8 a.lev) (λw h=>(FC.out w g h.1).2.2.2.2.1) _ Tryz.underlying5 rfl) S0.out ?_;refine tK 3 _ rfl (w0a (by kernel_rfl) _ (.tmp 3) 10 rfl (.pointer (some ⟨g,0,none⟩)) (.pointer (some ⟨g,56,none⟩)) (by kernel_rfl) (C6a g)) S0.out ?_;refine tK 4 _ rfl (l0a (by kernel_rfl) _ (.tmp 57) rfl g 56 (by kernel_rfl) (.int .u8 a.dur) (λw h=>(FC.out w g h.1).2.2.2.2.2.1) _ Tryz.underlying5 rfl) S0.out ?_;refine tK 7 _ rfl (u0a (by kernel_rfl) (.tmp 6) rfl (.slice Af 8 cf) (by kernel_rfl)) S0.out ?_;refine tK 8 _ rfl (u0a (by kernel_rfl) (.tmp 7) rfl (.slice At lt ct) (by kernel_rfl)) S0.out ?_;refine t2a λfr1 hfr1=>?_
   have f54:fr1.eval (.tmp 54)=.slice Am 16 cm:=by rw[hfr1];kernel_rfl
   have f56:fr1.eval (.tmp 56)=.int .u8 a.lev:=by rw[hfr1];kernel_rfl
   have f58:fr1.eval (.tmp 58)=.int .u8 a.dur:=by rw[hfr1];kernel_rfl
   have f61:fr1.eval (.tmp 61)=.slice Af 8 cf:=by rw[hfr1];kernel_rfl
   have f62:fr1.eval (.tmp 62)=.slice At lt ct:=by rw[hfr1];kernel_rfl
   refine T3a [(5,59),(6,60),(9,63),(10,64),(11,4),(12,5)] (λi=>match i with
    | 5=>rowP 2 [a.lev,a.dur]
    | 6=>rowP 2 (List.replicate 2 0)
    | 9=>U9a 5 (m4++([a.lev,a.dur]++((List.replicate 2 0)++(f8++tx))))
    | 10=>H2b 5 w.heap.size (m4++([a.lev,a.dur]++((List.replicate 2 0)++(f8++tx))))
    | 11=>H2b 5 w.heap.size (m4++([a.lev,a.dur]++((List.replicate 2 0)++(f8++tx))))
    | 12=>isP (.int .i64 0)
    | _=>λ_ _=>True) fr1 (by rw[hfr1];kernel_rfl) (Nat.le_of_ble_eq_true (by kernel_rfl)) S0.out ?_ ?_ ?_
   ·intro i v w1 w2 hb h;split at h;all_goals first | exact l5a hb h | exact m5a hb h | exact U3a hb h | exact n5a hb h | exact h
   ·refine List.forall_mem_cons.2 ⟨⟨_,rfl,λb w1 s hev hd K hK=>?_⟩,List.forall_mem_cons.2 ⟨⟨_,rfl,λb w1 s hev hd K hK=>?_⟩,List.forall_mem_cons.2 ⟨⟨_,rfl,λb w1 s hev hd K hK=>?_⟩,List.forall_mem_cons.2 ⟨⟨_,rfl,λb w1 s hev hd K hK=>?_⟩,List.forall_mem_cons.2 ⟨⟨_,rfl,λb w1 s hev hd K hK=>?_⟩,List.forall_mem_cons.2 ⟨⟨_,rfl,λb w1 s hev hd K hK=>?_⟩,λ_ h=>absurd h List.not_mem_nil⟩⟩⟩⟩⟩⟩
    ·have e56:=(hev 56 (by decide)).trans f56;have e58:=(hev 58 (by decide)).trans f58;refine O0a rfl _ _ 2 _ rfl Tryz.underlying31 ([.int .u8 a.lev,.int .u8 a.dur]:List Value) (by simp only[List.map_toArray,List.map_cons,List.map_nil,e56,e58];kernel_rfl) ?_;intro g2 w2 _ _ hY hL;exact hK _ _ (hst.out _ _ s hL.out) hL.out ⟨_,_,rfl,Holds.of_lit (xs:=[a.lev,a.dur]) hY.out HLD.out⟩
    ·refine s3a rfl _ _ rfl 2 rfl rfl (by omega) ?_;intro w2 hR hL;exact hK _ _ (hst.out _ _ s hL.out) hL.out ⟨_,_,rfl,r2a.holds (base:=0) (.inr ⟨_,rfl,Nat.zero_le _,hR.out⟩) (by rfl:(List.replicate 2 (0:Int)).length=2) (Bytes.zeros 2) (by omega)⟩
    ·have e54:=(hev 54 (by decide)).trans f54;obtain⟨A1,c1,e59,h1⟩:=hd (5,59) (by simp) (by kernel_rfl);obtain⟨A2,c2,e60,h2⟩:=hd (6,60) (by simp) (by kernel_rfl);have e61:=(hev 61 (by decide)).trans f61;have e62:=(hev 62 (by decide)).trans f62;refine O0a rfl _ _ 5 _ rfl Tryz.underlying93 ([.slice Am 16 cm,.slice A1 2 c1,.slice A2 2 c2,.slice Af 8 cf,.slice At lt ct]:List Value) (by simp only[List.map_toArray,List.map_cons,List.map_nil,e54,e59,e60,e61,e62];kernel_rfl) ?_;intro g2 w2 _ _ hY hL;exact hK _ _ (hst.out _ _ s hL.out) hL.out ⟨_,[(Am,16,cm,m4),(A1,2,c1,[a.lev,a.dur]),(A2,2,c2,(List.replicate 2 0)),(Af,8,cf,f8),(At,lt,ct,tx)],rfl,o4a.of_blk _ hY.out (List.forall_mem_cons.2 ⟨s.2.2.1.over hL.out,List.forall_mem_cons.2 ⟨h1.over hL.out,List.forall_mem_cons.2 ⟨h2.over hL.out,List.forall_mem_cons.2 ⟨s.2.2.2.1.over hL.out,List.forall_mem_cons.2 ⟨s.2.2.2.2.over hL.out,λ_ h=>absurd h List.not_mem_nil⟩⟩⟩⟩⟩),by show 0+16+2+2+8+lt<=_;omega,by simp[E7a,d4a,List.append_assoc]⟩
    ·obtain⟨g5,l5,e5,hp5,hn5,hc5⟩:=hd (9,63) (by simp) (by kernel_rfl);simp only[Act.eval,Array.getD_eq_getD_getElem?] at e5;go_simp;refine(CC.out _ g5 5 _ _ _ _ hp5 (by omega) (by omega)).mono ?_;rintro e w2 ⟨v,rfl,hY,hL⟩;exact hK _ _ (hst.out _ _ s hL) hL (by rw[<-hc5];exact hY.mono s.2.1.size)
    ·have h15:(H2b 5 w.heap.size (m4++([a.lev,a.dur]++((List.replicate 2 0)++(f8++tx))))) (b.eval (.tmp 64)) w1:=hd (10,64) (by simp) (by kernel_rfl);simp only[Act.eval,Array.getD_eq_getD_getElem?] at h15;go_simp;exact hK _ _ s (Below.refl _ _) h15
    ·go_simp;exact hK _ _ s (Below.refl _ _) rfl
   ·intro vs w9 s hv;have OUT0:X0a .u8 5 w9 w.heap.size (vs 4) (m4++([a.lev,a.dur]++((List.replicate 2 0)++(f8++tx)))):=hv (11,4) (by simp);obtain⟨v,hv11⟩:∃x,x=vs 4:=⟨_,rfl⟩;rw[<-hv11] at OUT0;have OUT:=hI OUT0;have hv12:vs 5=.int .i64 0:=hv (12,5) (by simp);have S9:=hI s.1;have b9:=hI s.2.1;have HMM_9:=hI s.2.2.1;have HF_9:=hI s.2.2.2.1;have HTX_9:=hI s.2.2.2.2;subst hfr1;simp only[List.foldl_cons,List.foldl_nil,<-hv11,hv12];obtain⟨y59,hy0⟩:∃x,x=vs 59:=⟨_,rfl⟩;rw[<-hy0];clear hy0;obtain⟨y60,hy0⟩:∃x,x=vs 60:=⟨_,rfl⟩;rw[<-hy0];clear hy0;obtain⟨y63,hy0⟩:∃x,x=vs 63:=⟨_,rfl⟩;rw[<-hy0];clear hy0;obtain⟨y64,hy0⟩:∃x,x=vs 64:=⟨_,rfl⟩;rw[<-hy0];clear hy0;clear hv s vs hst S0 hv11 OUT0 hv12 f54 f56 f58 f61 f62;go_simp;have HO6:=hI (OUT.out);go_wp2;go_ret2;refine HQ.out _ _ _ rfl ?_ b9.out;have h9:=HO6.out;simpa[E7a,d4a,List.append_assoc] using h9
 ·subst h6;rw[if_neg (by decide)] at HOK;have HQ:=hI (HQ0.out HOK.out);have hb0:p4a 6 a=le a.file 8:=rfl;rw[hb0] at HQ;obtain⟨f8,hf8⟩:∃x,x=le a.file 8:=⟨_,rfl⟩;rw[<-hf8] at CF8 HQ;clear hf8 HOK HQ0 hb0;go_enter Tryz.func84,Tryz.ntmps84;go_wp2_with(first
   | ((with_reducible refine sN 3 ?_);refine f0a rfl _ (.tmp 1) rfl cs rfl ?_;intro g w1 hg1 hg2 K1 L1)
   | ((with_reducible refine sN 11 ?_);refine e0a rfl _ (.tmp 3) rfl g rfl _ cs K1 69 _ Tryz.underlying34 rfl n0a HL ?_)
   | fail)
  refine(CN.out w1 L1.out).mono ?_;rintro e w2 ⟨rfl,L2⟩;have K2:=hI (K1.out.over L2);have M2':=hI (step L1.out L2);obtain⟨c61,c62⟩:=FL.out w2 g K2.out;clear L2 K1 L1 CN;obtain⟨c51,c52,c53,c54,c55,c56,c57,c58,c59,c60⟩:=FC.out w2 g K2.out;go_wp2_with(first
   | ((with_reducible refine sN 26 ?_);refine s1a rfl _ _ 1 _ rfl Tryz.underlying192 ([.int .u64 a.file]:List Value) (by kernel_rfl) ?_;intro g3 w3 hg5 hg6 Y3 L3)
   | fail)
  refine(CF8.out w3 g3 Y3.out).mono ?_;rintro e w4 ⟨Af,cf,rfl,⟨hOf,hHf⟩,L4⟩;have HF:=hI hHf;have K4:=hI ((K2.out.over L3.out).over L4);have M4:=hI (step (step M2'.out L3.out) L4);have OF:=hI (X0a.mono hOf (Nat.le_trans M2'.out.size L3.out.size));have HXD:=hI (HX.out.over M4.out);have hs4:=M4.out.size;clear hHf hOf L4 L3 Y3 K2 M2' c51 c52 c53 c54 c55 c56 c57 c58 c59 c60 c61 c62 CF8;go_wp2;go_ret2;exact HQ.out _ _ _ rfl OF.out M4.out
 ·subst h7;rw[if_neg (by decide)] at HOK;have HQ:=hI (HQ0.out HOK.out);have hb0:p4a 7 a=le a.file 8:=rfl;rw[hb0] at HQ;obtain⟨f8,hf8⟩:∃x,x=le a.file 8:=⟨_,rfl⟩;rw[<-hf8] at CF8 HQ;clear hf8 HOK HQ0 hb0;go_enter Tryz.func84,Tryz.ntmps84;go_wp2_with(first
   | ((with_reducible refine sN 3 ?_);refine f0a rfl _ (.tmp 1) rfl cs rfl ?_;intro g w1 hg1 hg2 K1 L1)
   | ((with_reducible refine sN 11 ?_);refine e0a rfl _ (.tmp 3) rfl g rfl _ cs K1 69 _ Tryz.underlying34 rfl n0a HL ?_)
   | fail)
  refine(CN.out w1 L1.out).mono ?_;rintro e w2 ⟨rfl,L2⟩;have K2:=hI (K1.out.over L2);have M2':=hI (step L1.out L2);obtain⟨c61,c62⟩:=FL.out w2 g K2.out;clear L2 K1 L1 CN;obtain⟨c51,c52,c53,c54,c55,c56,c57,c58,c59,c60⟩:=FC.out w2 g K2.out;go_wp2_with(first
   | ((with_reducible refine sN 26 ?_);refine s1a rfl _ _ 1 _ rfl Tryz.underlying192 ([.int .u64 a.file]:List Value) (by kernel_rfl) ?_;intro g3 w3 hg5 hg6 Y3 L3)
   | fail)
  refine(CF8.out w3 g3 Y3.out).mono ?_;rintro e w4 ⟨Af,cf,rfl,⟨hOf,hHf⟩,L4⟩;have HF:=hI hHf;have K4:=hI ((K2.out.over L3.out).over L4);have M4:=hI (step (step M2'.out L3.out) L4);have OF:=hI (X0a.mono hOf (Nat.le_trans M2'.out.size L3.out.size));have HXD:=hI (HX.out.over M4.out);have hs4:=M4.out.size;clear hHf hOf L4 L3 Y3 K2 M2' c51 c52 c53 c54 c55 c56 c57 c58 c59 c60 c61 c62 CF8;go_wp2;go_ret2;exact HQ.out _ _ _ rfl OF.out M4.out
 ·subst h8;rw[if_neg (by decide)] at HOK;have HQ:=hI (HQ0.out HOK.out);have hb0:p4a 8 a=le a.file 8++(le a.at_ 8++le a.n 4):=rfl;rw[hb0] at HQ;have CA8:Hid (∀(w:World) (gl:Nat),Blk w gl 25 [.int .u64 a.at_]->Calls Tryz.prog 121 #[.int .i64 8,.slice (some ⟨gl,0,none⟩) 1 1] w λe w'=>∃A' c',e=.returned (.slice A' 8 c')/\(X0a .u8 5 w' w.heap.size (.slice A' 8 c') (le a.at_ 8)/\Holds w' w'.heap.size A' 8 c' (le a.at_ 8))/\Below w.heap.size w w'):=λw gl hB=>by
   have h:=v4a w gl 1 8 ([a.at_]:List Int) hB rfl (by decide) (by decide) (λz hz=>by rw[show(256:Int)^8=18446744073709551616 from by decide];simp only[List.mem_cons,List.not_mem_nil,or_false] at hz;rw[hz];omega)
   have e1:q2a 8 ([a.at_]:List Int)=le a.at_ 8:=by simp[q2a]
   rw[e1] at h;have e2:(le a.at_ 8).length=8:=by simp[g0a]
   rw[e2] at h;exact h
  have CN4:Hid (∀(w:World) (gl:Nat),Blk w gl 25 [.int .u64 a.n]->Calls Tryz.prog 121 #[.int .i64 4,.slice (some ⟨gl,0,none⟩) 1 1] w λe w'=>∃A' c',e=.returned (.slice A' 4 c')/\(X0a .u8 5 w' w.heap.size (.slice A' 4 c') (le a.n 4)/\Holds w' w'.heap.size A' 4 c' (le a.n 4))/\Below w.heap.size w w'):=λw gl hB=>by
   have h:=v4a w gl 1 4 ([a.n]:List Int) hB rfl (by decide) (by decide) (λz hz=>by rw[show(256:Int)^4=4294967296 from by decide];simp only[List.mem_cons,List.not_mem_nil,or_false] at hz;rw[hz];omega)
   have e1:q2a 4 ([a.n]:List Int)=le a.n 4:=by simp[q2a]
   rw[e1] at h;have e2:(le a.n 4).length=4:=by simp[g0a]
   rw[e2] at h;exact h
  obtain⟨f8,hf8⟩:∃x,x=le a.file 8:=⟨_,rfl⟩;rw[<-hf8] at CF8 HQ;obtain⟨a8,ha8⟩:∃x,x=le a.at_ 8:=⟨_,rfl⟩;rw[<-ha8] at CA8 HQ;obtain⟨n4,hn4⟩:∃x,x=le a.n 4:=⟨_,rfl⟩;rw[<-hn4] at CN4 HQ;clear HOK HQ0 hb0 hf8 ha8 hn4;go_enter Tryz.func84,Tryz.ntmps84;go_wp2_with(first
   | ((with_reducible refine sN 3 ?_);refine f0a rfl _ (.tmp 1) rfl cs rfl ?_;intro g w1 hg1 hg2 K1 L1)
   | ((with_reducible refine sN 11 ?_);refine e0a rfl _ (.tmp 3) rfl g rfl _ cs K1 69 _ Tryz.underlying34 rfl n0a HL ?_)
   | fail)
  refine(CN.out w1 L1.out).mono ?_;rintro e w2 ⟨rfl,L2⟩;have K2:=hI (K1.out.over L2);have M2':=hI (step L1.out L2);obtain⟨c61,c62⟩:=FL.out w2 g K2.out;clear L2 K1 L1 CN;obtain⟨c51,c52,c53,c54,c55,c56,c57,c58,c59,c60⟩:=FC.out w2 g K2.out;go_wp2_with(first
   | ((with_reducible refine sN 26 ?_);refine s1a rfl _ _ 1 _ rfl Tryz.underlying192 ([.int .u64 a.file]:List Value) (by kernel_rfl) ?_;intro g3 w3 hg5 hg6 Y3 L3)
   | fail)
  refine(CF8.out w3 g3 Y3.out).mono ?_;rintro e w4 ⟨Af,cf,rfl,⟨hOf,hHf⟩,L4⟩;have HF:=hI hHf;have K4:=hI ((K2.out.over L3.out).over L4);have M4:=hI (step (step M2'.out L3.out) L4);have OF:=hI (X0a.mono hOf (Nat.le_trans M2'.out.size L3.out.size));have HXD:=hI (HX.out.over M4.out);have hs4:=M4.out.size;clear hHf hOf L4 L3 Y3 K2 M2' c51 c52 c53 c54 c55 c56 c57 c58 c59 c60 c61 c62 CF8;go_upto_region 14 with fail
  have hst:Hid (∀w1 w2:World,(Blk w1 g 34 cs/\Below w.heap.size w w1/\Holds w1 w1.heap.size Af 8 cf f8)->Below w1.heap.size w1 w2->(Blk w2 g 34 cs/\Below w.heap.size w w2/\Holds w2 w2.heap.size Af 8 cf f8)):=λw1 w2 s hb=>⟨s.1.over hb,step s.2.1 hb,s.2.2.over hb⟩
  refine wp_region_held (S:=λw'=>Blk w' g 34 cs/\Below w.heap.size w w'/\Holds w' w'.heap.size Af 8 cf f8) (by kernel_rfl) ?_;change wpAnyH _ _ _ _ _ _ _ _ w4.drew
  have S0:Hid (Blk w4.drew g 34 cs/\Below w.heap.size w w4.drew/\Holds w4.drew w4.drew.heap.size Af 8 cf f8):=⟨K4.out.drew,M4.out.drew,HF.out.drew⟩;refine tK 0 _ rfl (u0a (by kernel_rfl) (.tmp 6) rfl (.slice Af 8 cf) (by kernel_rfl)) S0.out ?_;refine tK 1 _ rfl (w0a (by kernel_rfl) _ (.tmp 3) 13 rfl (.pointer (some ⟨g,0,none⟩)) (.pointer (some ⟨g,59,none⟩)) (by kernel_rfl) (K4a g)) S0.out ?_;refine tK 2 _ rfl (l0a (by kernel_rfl) _ (.tmp 68) rfl g 59 (by kernel_rfl) (.int .u64 a.at_) (λw h=>(FC.out w g h.1).2.2.2.2.2.2.2.2.1) _ Tryz.underlying25 rfl) S0.out ?_;refine tK 5 _ rfl (w0a (by kernel_rfl) _ (.tmp 3) 14 rfl (.pointer (some ⟨g,0,none⟩)) (.pointer (some ⟨g,60,none⟩)) (by kernel_rfl) (D6a g)) S0.out ?_;refine tK 6 _ rfl (l0a (by kernel_rfl) _ (.tmp 72) rfl g 60 (by kernel_rfl) (.int .u32 a.n) (λw h=>(FC.out w g h.1).2.2.2.2.2.2.2.2.2) _ Tryz.underlying23 rfl) S0.out ?_;refine tK 7 ((.int .u64 a.n)) rfl (.inl ⟨by kernel_rfl,λw _=>by go_simp⟩) S0.out ?_;refine t2a λfr1 hfr1=>?_
  have f67:fr1.eval (.tmp 67)=.slice Af 8 cf:=by rw[hfr1];kernel_rfl
  have f69:fr1.eval (.tmp 69)=.int .u64 a.at_:=by rw[hfr1];kernel_rfl
  have f74:fr1.eval (.tmp 74)=.int .u64 a.n:=by rw[hfr1];kernel_rfl
  refine T3a [(3,70),(4,71),(8,75),(9,76),(10,77),(11,78),(12,4),(13,5)] (λi=>match i with
   | 3=>u7b 1 25 [.int .u64 a.at_]
   | 4=>rowP 8 a8
   | 8=>u7b 1 25 [.int .u64 a.n]
   | 9=>rowP 4 n4
   | 10=>U9a 3 (f8++(a8++n4))
   | 11=>H2b 5 w.heap.size (f8++(a8++n4))
   | 12=>H2b 5 w.heap.size (f8++(a8++n4))
   | 13=>isP (.int .i64 0)
   | _=>λ_ _=>True) fr1 (by rw[hfr1];kernel_rfl) (Nat.le_of_ble_eq_true (by kernel_rfl)) S0.out ?_ ?_ ?_
  ·intro i v w1 w2 hb h;split at h;all_goals first | exact l5a hb h | exact m5a hb h | exact U3a hb h | exact n5a hb h | exact h
  ·refine List.forall_mem_cons.2 ⟨⟨_,rfl,λb w1 s hev hd K hK=>?_⟩,List.forall_mem_cons.2 ⟨⟨_,rfl,λb w1 s hev hd K hK=>?_⟩,List.forall_mem_cons.2 ⟨⟨_,rfl,λb w1 s hev hd K hK=>?_⟩,List.forall_mem_cons.2 ⟨⟨_,rfl,λb w1 s hev hd K hK=>?_⟩,List.forall_mem_cons.2 ⟨⟨_,rfl,λb w1 s hev hd K hK=>?_⟩,List.forall_mem_cons.2 ⟨⟨_,rfl,λb w1 s hev hd K hK=>?_⟩,List.forall_mem_cons.2 ⟨⟨_,rfl,λb w1 s hev hd K hK=>?_⟩,List.forall_mem_cons.2 ⟨⟨_,rfl,λb w1 s hev hd K hK=>?_⟩,λ_ h=>absurd h List.not_mem_nil⟩⟩⟩⟩⟩⟩⟩⟩
   ·have e69:=(hev 69 (by decide)).trans f69;refine O0a rfl _ _ 1 _ rfl Tryz.underlying192 ([.int .u64 a.at_]:List Value) (by simp only[List.map_toArray,List.map_cons,List.map_nil,e69];kernel_rfl) ?_;intro g2 w2 _ _ hY hL;exact hK _ _ (hst.out _ _ s hL.out) hL.out ⟨_,rfl,hY.out⟩
   ·obtain⟨g4,e4,hB⟩:=hd (3,70) (by simp) (by kernel_rfl);simp only[Act.eval,Array.getD_eq_getD_getElem?] at e4;go_simp;refine(CA8.out _ _ hB).mono ?_;rintro e w2 ⟨A,c,rfl,⟨_,hY⟩,hL⟩;exact hK _ _ (hst.out _ _ s hL) hL ⟨_,_,rfl,hY⟩
   ·have e74:=(hev 74 (by decide)).trans f74;refine O0a rfl _ _ 1 _ rfl Tryz.underlying192 ([.int .u64 a.n]:List Value) (by simp only[List.map_toArray,List.map_cons,List.map_nil,e74];kernel_rfl) ?_;intro g2 w2 _ _ hY hL;exact hK _ _ (hst.out _ _ s hL.out) hL.out ⟨_,rfl,hY.out⟩
   ·obtain⟨g4,e4,hB⟩:=hd (8,75) (by simp) (by kernel_rfl);simp only[Act.eval,Array.getD_eq_getD_getElem?] at e4;go_simp;refine(CN4.out _ _ hB).mono ?_;rintro e w2 ⟨A,c,rfl,⟨_,hY⟩,hL⟩;exact hK _ _ (hst.out _ _ s hL) hL ⟨_,_,rfl,hY⟩
   ·have e67:=(hev 67 (by decide)).trans f67;obtain⟨A1,c1,e71,h1⟩:=hd (4,71) (by simp) (by kernel_rfl);obtain⟨A2,c2,e76,h2⟩:=hd (9,76) (by simp) (by kernel_rfl);refine O0a rfl _ _ 3 _ rfl Tryz.underlying93 ([.slice Af 8 cf,.slice A1 8 c1,.slice A2 4 c2]:List Value) (by simp only[List.map_toArray,List.map_cons,List.map_nil,e67,e71,e76];kernel_rfl) ?_;intro g2 w2 _ _ hY hL;exact hK _ _ (hst.out _ _ s hL.out) hL.out ⟨_,[(Af,8,cf,f8),(A1,8,c1,a8),(A2,4,c2,n4)],rfl,o4a.of_blk _ hY.out (List.forall_mem_cons.2 ⟨s.2.2.over hL.out,List.forall_mem_cons.2 ⟨h1.over hL.out,List.forall_mem_cons.2 ⟨h2.over hL.out,λ_ h=>absurd h List.not_mem_nil⟩⟩⟩),by show 0+8+8+4<=_;omega,by simp[E7a,d4a,List.append_assoc]⟩
   ·obtain⟨g5,l5,e5,hp5,hn5,hc5⟩:=hd (10,77) (by simp) (by kernel_rfl);simp only[Act.eval,Array.getD_eq_getD_getElem?] at e5;go_simp;refine(CC.out _ g5 3 _ _ _ _ hp5 (by omega) (by omega)).mono ?_;rintro e w2 ⟨v,rfl,hY,hL⟩;exact hK _ _ (hst.out _ _ s hL) hL (by rw[<-hc5];exact hY.mono s.2.1.size)
   ·have h15:(H2b 5 w.heap.size (f8++(a8++n4))) (b.eval (.tmp 78)) w1:=hd (11,78) (by simp) (by kernel_rfl);simp only[Act.eval,Array.getD_eq_getD_getElem?] at h15;go_simp;exact hK _ _ s (Below.refl _ _) h15
   ·go_simp;exact hK _ _ s (Below.refl _ _) rfl
  ·intro vs w9 s hv;have OUT0:X0a .u8 5 w9 w.heap.size (vs 4) (f8++(a8++n4)):=hv (12,4) (by simp);obtain⟨v,hv12⟩:∃x,x=vs 4:=⟨_,rfl⟩;rw[<-hv12] at OUT0;have OUT:=hI OUT0;have hv13:vs 5=.int .i64 0:=hv (13,5) (by simp);have S9:=hI s.1;have b9:=hI s.2.1;have HF_9:=hI s.2.2;subst hfr1;simp only[List.foldl_cons,List.foldl_nil,<-hv12,hv13];obtain⟨y70,hy0⟩:∃x,x=vs 70:=⟨_,rfl⟩;rw[<-hy0];clear hy0;obtain⟨y71,hy0⟩:∃x,x=vs 71:=⟨_,rfl⟩;rw[<-hy0];clear hy0;obtain⟨y75,hy0⟩:∃x,x=vs 75:=⟨_,rfl⟩;rw[<-hy0];clear hy0;obtain⟨y76,hy0⟩:∃x,x=vs 76:=⟨_,rfl⟩;rw[<-hy0];clear hy0;obtain⟨y77,hy0⟩:∃x,x=vs 77:=⟨_,rfl⟩;rw[<-hy0];clear hy0;obtain⟨y78,hy0⟩:∃x,x=vs 78:=⟨_,rfl⟩;rw[<-hy0];clear hy0;clear hv s vs hst S0 hv12 OUT0 hv13 f67 f69 f74;go_simp;have HO6:=hI (OUT.out);go_wp2;go_ret2;refine HQ.out _ _ _ rfl ?_ b9.out;have h9:=HO6.out;simpa[E7a,d4a,List.append_assoc] using h9
 ·subst h9;rw[if_neg (by decide)] at HOK;have HQ:=hI (HQ0.out HOK.out);have hb0:p4a 9 a=le a.file 8++(le a.at_ 8++(le (X2:Int) 4++a.data)):=by unfold p4a;rw[if_neg (by decide),if_neg (by decide),if_pos rfl,HX.out.len]
  rw[hb0] at HQ;have CA8:Hid (∀(w:World) (gl:Nat),Blk w gl 25 [.int .u64 a.at_]->Calls Tryz.prog 121 #[.int .i64 8,.slice (some ⟨gl,0,none⟩) 1 1] w λe w'=>∃A' c',e=.returned (.slice A' 8 c')/\(X0a .u8 5 w' w.heap.size (.slice A' 8 c') (le a.at_ 8)/\Holds w' w'.heap.size A' 8 c' (le a.at_ 8))/\Below w.heap.size w w'):=λw gl hB=>by
   have h:=v4a w gl 1 8 ([a.at_]:List Int) hB rfl (by decide) (by decide) (λz hz=>by rw[show(256:Int)^8=18446744073709551616 from by decide];simp only[List.mem_cons,List.not_mem_nil,or_false] at hz;rw[hz];omega)
   have e1:q2a 8 ([a.at_]:List Int)=le a.at_ 8:=by simp[q2a]
   rw[e1] at h;have e2:(le a.at_ 8).length=8:=by simp[g0a]
   rw[e2] at h;exact h
  have CN4:Hid (∀(w:World) (gl:Nat),Blk w gl 25 [.int .u64 (X2:Int)]->Calls Tryz.prog 121 #[.int .i64 4,.slice (some ⟨gl,0,none⟩) 1 1] w λe w'=>∃A' c',e=.returned (.slice A' 4 c')/\(X0a .u8 5 w' w.heap.size (.slice A' 4 c') (le (X2:Int) 4)/\Holds w' w'.heap.size A' 4 c' (le (X2:Int) 4))/\Below w.heap.size w w'):=λw gl hB=>by
   have h:=v4a w gl 1 4 ([(X2:Int)]:List Int) hB rfl (by decide) (by decide) (λz hz=>by rw[show(256:Int)^4=4294967296 from by decide];simp only[List.mem_cons,List.not_mem_nil,or_false] at hz;rw[hz];omega)
   have e1:q2a 4 ([(X2:Int)]:List Int)=le (X2:Int) 4:=by simp[q2a]
   rw[e1] at h;have e2:(le (X2:Int) 4).length=4:=by simp[g0a]
   rw[e2] at h;exact h
  obtain⟨f8,hf8⟩:∃x,x=le a.file 8:=⟨_,rfl⟩;rw[<-hf8] at CF8 HQ;obtain⟨a8,ha8⟩:∃x,x=le a.at_ 8:=⟨_,rfl⟩;rw[<-ha8] at CA8 HQ;obtain⟨n4,hn4⟩:∃x,x=le (X2:Int) 4:=⟨_,rfl⟩;rw[<-hn4] at CN4 HQ;clear HOK HQ0 hb0 hf8 ha8 hn4;go_enter Tryz.func84,Tryz.ntmps84;go_wp2_with(first
   | ((with_reducible refine sN 3 ?_);refine f0a rfl _ (.tmp 1) rfl cs rfl ?_;intro g w1 hg1 hg2 K1 L1)
   | ((with_reducible refine sN 11 ?_);refine e0a rfl _ (.tmp 3) rfl g rfl _ cs K1 69 _ Tryz.underlying34 rfl n0a HL ?_)
   | fail)
  refine(CN.out w1 L1.out).mono ?_;rintro e w2 ⟨rfl,L2⟩;have K2:=hI (K1.out.over L2);have M2':=hI (step L1.out L2);obtain⟨c61,c62⟩:=FL.out w2 g K2.out;clear L2 K1 L1 CN;obtain⟨c51,c52,c53,c54,c55,c56,c57,c58,c59,c60⟩:=FC.out w2 g K2.out;go_wp2_with(first
   | ((with_reducible refine sN 26 ?_);refine s1a rfl _ _ 1 _ rfl Tryz.underlying192 ([.int .u64 a.file]:List Value) (by kernel_rfl) ?_;intro g3 w3 hg5 hg6 Y3 L3)
   | fail)
  refine(CF8.out w3 g3 Y3.out).mono ?_;rintro e w4 ⟨Af,cf,rfl,⟨hOf,hHf⟩,L4⟩;have HF:=hI hHf;have K4:=hI ((K2.out.over L3.out).over L4);have M4:=hI (step (step M2'.out L3.out) L4);have OF:=hI (X0a.mono hOf (Nat.le_trans M2'.out.size L3.out.size));have HXD:=hI (HX.out.over M4.out);have hs4:=M4.out.size;clear hHf hOf L4 L3 Y3 K2 M2' c51 c52 c53 c54 c55 c56 c57 c58 c59 c60 c61 c62 CF8;go_upto_region 16 with fail
  have hst:Hid (∀w1 w2:World,(Blk w1 g 34 cs/\Below w.heap.size w w1/\Holds w1 w1.heap.size Af 8 cf f8/\Holds w1 w1.heap.size X1 X2 X3 a.data)->Below w1.heap.size w1 w2->(Blk w2 g 34 cs/\Below w.heap.size w w2/\Holds w2 w2.heap.size Af 8 cf f8/\Holds w2 w2.heap.size X1 X2 X3 a.data)):=λw1 w2 s hb=>⟨s.1.over hb,step s.2.1 hb,s.2.2.1.over hb,s.2.2.2.over hb⟩
  refine wp_region_held (S:=λw'=>Blk w' g 34 cs/\Below w.heap.size w w'/\Holds w' w'.heap.size Af 8 cf f8/\Holds w' w'.heap.size X1 X2 X3 a.data) (by kernel_rfl) ?_;change wpAnyH _ _ _ _ _ _ _ _ w4.drew
  have S0:Hid (Blk w4.drew g 34 cs/\Below w.heap.size w w4.drew/\Holds w4.drew w4.drew.heap.size Af 8 cf f8/\Holds w4.drew w4.drew.heap.size X1 X2 X3 a.data):=⟨K4.out.drew,M4.out.drew,HF.out.drew,HXD.out.drew⟩;refine tK 0 _ rfl (u0a (by kernel_rfl) (.tmp 6) rfl (.slice Af 8 cf) (by kernel_rfl)) S0.out ?_;refine tK 1 _ rfl (w0a (by kernel_rfl) _ (.tmp 3) 13 rfl (.pointer (some ⟨g,0,none⟩)) (.pointer (some ⟨g,59,none⟩)) (by kernel_rfl) (K4a g)) S0.out ?_;refine tK 2 _ rfl (l0a (by kernel_rfl) _ (.tmp 82) rfl g 59 (by kernel_rfl) (.int .u64 a.at_) (λw h=>(FC.out w g h.1).2.2.2.2.2.2.2.2.1) _ Tryz.underlying25 rfl) S0.out ?_;refine tK 5 _ rfl (w0a (by kernel_rfl) _ (.tmp 3) 15 rfl (.pointer (some ⟨g,0,none⟩)) (.pointer (some ⟨g,61,none⟩)) (by kernel_rfl) (M4a g)) S0.out ?_;refine tK 6 _ rfl (l0a (by kernel_rfl) _ (.tmp 86) rfl g 61 (by kernel_rfl) (.slice X1 X2 X3) (λw h=>(FL.out w g h.1).1) _ Tryz.underlying31 rfl) S0.out ?_;refine tK 7 ((.int .i64 (X2:Int))) rfl (.inl ⟨by kernel_rfl,λw _=>by go_simp⟩) S0.out ?_;refine tK 8 ((.int .u64 (X2:Int))) rfl (.inl ⟨by kernel_rfl,λw _=>by go_simp⟩) S0.out ?_;refine tK 11 _ rfl (w0a (by kernel_rfl) _ (.tmp 3) 15 rfl (.pointer (some ⟨g,0,none⟩)) (.pointer (some ⟨g,61,none⟩)) (by kernel_rfl) (M4a g)) S0.out ?_;refine tK 12 _ rfl (l0a (by kernel_rfl) _ (.tmp 92) rfl g 61 (by kernel_rfl) (.slice X1 X2 X3) (λw h=>(FL.out w g h.1).1) _ Tryz.underlying31 rfl) S0.out ?_;refine t2a λfr1 hfr1=>?_
  have f81:fr1.eval (.tmp 81)=.slice Af 8 cf:=by rw[hfr1];kernel_rfl
  have f83:fr1.eval (.tmp 83)=.int .u64 a.at_:=by rw[hfr1];kernel_rfl
  have f89:fr1.eval (.tmp 89)=.int .u64 (X2:Int):=by rw[hfr1];kernel_rfl
  have f93:fr1.eval (.tmp 93)=.slice X1 X2 X3:=by rw[hfr1];kernel_rfl
  refine T3a [(3,84),(4,85),(9,90),(10,91),(13,94),(14,95),(15,4),(16,5)] (λi=>match i with
   | 3=>u7b 1 25 [.int .u64 a.at_]
   | 4=>rowP 8 a8
   | 9=>u7b 1 25 [.int .u64 (X2:Int)]
   | 10=>rowP 4 n4
   | 13=>U9a 4 (f8++(a8++(n4++a.data)))
   | 14=>H2b 5 w.heap.size (f8++(a8++(n4++a.data)))
   | 15=>H2b 5 w.heap.size (f8++(a8++(n4++a.data)))
   | 16=>isP (.int .i64 0)
   | _=>λ_ _=>True) fr1 (by rw[hfr1];kernel_rfl) (Nat.le_of_ble_eq_true (by kernel_rfl)) S0.out ?_ ?_ ?_
  ·intro i v w1 w2 hb h;split at h;all_goals first | exact l5a hb h | exact m5a hb h | exact U3a hb h | exact n5a hb h | exact h
  ·refine List.forall_mem_cons.2 ⟨⟨_,rfl,λb w1 s hev hd K hK=>?_⟩,List.forall_mem_cons.2 ⟨⟨_,rfl,λb w1 s hev hd K hK=>?_⟩,List.forall_mem_cons.2 ⟨⟨_,rfl,λb w1 s hev hd K hK=>?_⟩,List.forall_mem_cons.2 ⟨⟨_,rfl,λb w1 s hev hd K hK=>?_⟩,List.forall_mem_cons.2 ⟨⟨_,rfl,λb w1 s hev hd K hK=>?_⟩,List.forall_mem_cons.2 ⟨⟨_,rfl,λb w1 s hev hd K hK=>?_⟩,List.forall_mem_cons.2 ⟨⟨_,rfl,λb w1 s hev hd K hK=>?_⟩,List.forall_mem_cons.2 ⟨⟨_,rfl,λb w1 s hev hd K hK=>?_⟩,λ_ h=>absurd h List.not_mem_nil⟩⟩⟩⟩⟩⟩⟩⟩
   ·have e83:=(hev 83 (by decide)).trans f83;refine O0a rfl _ _ 1 _ rfl Tryz.underlying192 ([.int .u64 a.at_]:List Value) (by simp only[List.map_toArray,List.map_cons,List.map_nil,e83];kernel_rfl) ?_;intro g2 w2 _ _ hY hL;exact hK _ _ (hst.out _ _ s hL.out) hL.out ⟨_,rfl,hY.out⟩
   ·obtain⟨g4,e4,hB⟩:=hd (3,84) (by simp) (by kernel_rfl);simp only[Act.eval,Array.getD_eq_getD_getElem?] at e4;go_simp;refine(CA8.out _ _ hB).mono ?_;rintro e w2 ⟨A,c,rfl,⟨_,hY⟩,hL⟩;exact hK _ _ (hst.out _ _ s hL) hL ⟨_,_,rfl,hY⟩
   ·have e89:=(hev 89 (by decide)).trans f89;refine O0a rfl _ _ 1 _ rfl Tryz.underlying192 ([.int .u64 (X2:Int)]:List Value) (by simp only[List.map_toArray,List.map_cons,List.map_nil,e89];kernel_rfl) ?_;intro g2 w2 _ _ hY hL;exact hK _ _ (hst.out _ _ s hL.out) hL.out ⟨_,rfl,hY.out⟩
   ·obtain⟨g4,e4,hB⟩:=hd (9,90) (by simp) (by kernel_rfl);simp only[Act.eval,Array.getD_eq_getD_getElem?] at e4;go_simp;refine(CN4.out _ _ hB).mono ?_;rintro e w2 ⟨A,c,rfl,⟨_,hY⟩,hL⟩;exact hK _ _ (hst.out _ _ s hL) hL ⟨_,_,rfl,hY⟩
   ·have e81:=(hev 81 (by decide)).trans f81;obtain⟨A1,c1,e85,h1⟩:=hd (4,85) (by simp) (by kernel_rfl);obtain⟨A2,c2,e91,h2⟩:=hd (10,91) (by simp) (by kernel_rfl);have e93:=(hev 93 (by decide)).trans f93;refine O0a rfl _ _ 4 _ rfl Tryz.underlying93 ([.slice Af 8 cf,.slice A1 8 c1,.slice A2 4 c2,.slice X1 X2 X3]:List Value) (by simp only[List.map_toArray,List.map_cons,List.map_nil,e81,e85,e91,e93];kernel_rfl) ?_;intro g2 w2 _ _ hY hL;exact hK _ _ (hst.out _ _ s hL.out) hL.out ⟨_,[(Af,8,cf,f8),(A1,8,c1,a8),(A2,4,c2,n4),(X1,X2,X3,a.data)],rfl,o4a.of_blk _ hY.out (List.forall_mem_cons.2 ⟨s.2.2.1.over hL.out,List.forall_mem_cons.2 ⟨h1.over hL.out,List.forall_mem_cons.2 ⟨h2.over hL.out,List.forall_mem_cons.2 ⟨s.2.2.2.over hL.out,λ_ h=>absurd h List.not_mem_nil⟩⟩⟩⟩),by show 0+8+8+4+X2<=_;omega,by simp[E7a,d4a,List.append_assoc]⟩
   ·obtain⟨g5,l5,e5,hp5,hn5,hc5⟩:=hd (13,94) (by simp) (by kernel_rfl);simp only[Act.eval,Array.getD_eq_getD_getElem?] at e5;go_simp;refine(CC.out _ g5 4 _ _ _ _ hp5 (by omega) (by omega)).mono ?_;rintro e w2 ⟨v,rfl,hY,hL⟩;exact hK _ _ (hst.out _ _ s hL) hL (by rw[<-hc5];exact hY.mono s.2.1.size)
   ·have h15:(H2b 5 w.heap.size (f8++(a8++(n4++a.data)))) (b.eval (.tmp 95)) w1:=hd (14,95) (by simp) (by kernel_rfl);simp only[Act.eval,Array.getD_eq_getD_getElem?] at h15;go_simp;exact hK _ _ s (Below.refl _ _) h15
   ·go_simp;exact hK _ _ s (Below.refl _ _) rfl
  ·intro vs w9 s hv;have OUT0:X0a .u8 5 w9 w.heap.size (vs 4) (f8++(a8++(n4++a.data))):=hv (15,4) (by simp);obtain⟨v,hv15⟩:∃x,x=vs 4:=⟨_,rfl⟩;rw[<-hv15] at OUT0;have OUT:=hI OUT0;have hv16:vs 5=.int .i64 0:=hv (16,5) (by simp);have S9:=hI s.1;have b9:=hI s.2.1;have HF_9:=hI s.2.2.1;have HD_9:=hI s.2.2.2;subst hfr1;simp only[List.foldl_cons,List.foldl_nil,<-hv15,hv16];obtain⟨y84,hy0⟩:∃x,x=vs 84:=⟨_,rfl⟩;rw[<-hy0];clear hy0;obtain⟨y85,hy0⟩:∃x,x=vs 85:=⟨_,rfl⟩;rw[<-hy0];clear hy0;obtain⟨y90,hy0⟩:∃x,x=vs 90:=⟨_,rfl⟩;rw[<-hy0];clear hy0;obtain⟨y91,hy0⟩:∃x,x=vs 91:=⟨_,rfl⟩;rw[<-hy0];clear hy0;obtain⟨y94,hy0⟩:∃x,x=vs 94:=⟨_,rfl⟩;rw[<-hy0];clear hy0;obtain⟨y95,hy0⟩:∃x,x=vs 95:=⟨_,rfl⟩;rw[<-hy0];clear hy0;clear hv s vs hst S0 hv15 OUT0 hv16 f81 f83 f89 f93;go_simp;have HO6:=hI (OUT.out);go_wp2;go_ret2;refine HQ.out _ _ _ rfl ?_ b9.out;have h9:=HO6.out;simpa[E7a,d4a,List.append_assoc] using h9
 ·subst h10;rw[if_neg (by decide)] at HOK;have HQ:=hI (HQ0.out HOK.out);have hb0:p4a 10 a=le a.file 8++(le a.locks.length 2++(List.replicate 2 0++P1a a.locks)):=rfl;rw[hb0] at HQ;have CK:Hid (∀w',Below w.heap.size w w'->Calls Tryz.prog 122 #[.slice M1 M2 M3] w' λe w2=>(∃v,e=.returned v/\X0a .u8 5 w2 w'.heap.size v (le a.locks.length 2++(List.replicate 2 0++P1a a.locks)))/\Below w'.heap.size w' w2):=λw' hb=>(x4b w' M1 M2 M3 a.locks (HM.out.over hb) hm3 ka.locks).mono λe w2 ⟨v,h1,h2,h3⟩=>⟨⟨v,h1,h2⟩,h3⟩
  have HLT:Hid ((le a.locks.length 2++(List.replicate 2 0++P1a a.locks)).length<=1000/\Bytes (le a.locks.length 2++(List.replicate 2 0++P1a a.locks))):=by refine⟨?_,(F0a _ _).append ((Bytes.zeros 2).append (l7a _))⟩;rw[List.length_append,List.length_append,R5a,g0a,List.length_replicate,HM.out.len];omega
  obtain⟨f8,hf8⟩:∃x,x=le a.file 8:=⟨_,rfl⟩;rw[<-hf8] at CF8 HQ;obtain⟨tx,htx⟩:∃x,x=le (a.locks.length:Int) 2++(List.replicate 2 0++P1a a.locks):=⟨_,rfl⟩;rw[<-htx] at CK HQ HLT;obtain⟨hlt,hlb⟩:=HLT.out;obtain⟨lt,hltx⟩:∃x,x=tx.length:=⟨_,rfl⟩;have HLTX:=hI hltx;rw[<-hltx] at hlt;clear hf8 htx HOK HQ0 hb0 hltx;go_enter Tryz.func84,Tryz.ntmps84;go_wp2_with(first
   | ((with_reducible refine sN 3 ?_);refine f0a rfl _ (.tmp 1) rfl cs rfl ?_;intro g w1 hg1 hg2 K1 L1)
   | ((with_reducible refine sN 11 ?_);refine e0a rfl _ (.tmp 3) rfl g rfl _ cs K1 69 _ Tryz.underlying34 rfl n0a HL ?_)
   | fail)
  refine(CN.out w1 L1.out).mono ?_;rintro e w2 ⟨rfl,L2⟩;have K2:=hI (K1.out.over L2);have M2':=hI (step L1.out L2);obtain⟨c61,c62⟩:=FL.out w2 g K2.out;clear L2 K1 L1 CN;obtain⟨c51,c52,c53,c54,c55,c56,c57,c58,c59,c60⟩:=FC.out w2 g K2.out;go_wp2_with(first
   | ((with_reducible refine sN 26 ?_);refine s1a rfl _ _ 1 _ rfl Tryz.underlying192 ([.int .u64 a.file]:List Value) (by kernel_rfl) ?_;intro g3 w3 hg5 hg6 Y3 L3)
   | fail)
  refine(CF8.out w3 g3 Y3.out).mono ?_;rintro e w4 ⟨Af,cf,rfl,⟨hOf,hHf⟩,L4⟩;have HF:=hI hHf;have K4:=hI ((K2.out.over L3.out).over L4);have M4:=hI (step (step M2'.out L3.out) L4);have OF:=hI (X0a.mono hOf (Nat.le_trans M2'.out.size L3.out.size));have HXD:=hI (HX.out.over M4.out);have hs4:=M4.out.size;clear hHf hOf L4 L3 Y3 K2 M2' c51 c52 c53 c54 c55 c56 c57 c58 c59 c60 c61 c62 CF8;obtain⟨c61,c62⟩:=FL.out w4 g K4.out;go_wp2_with fail;refine(CK.out w4 M4.out).mono ?_;rintro e w5 ⟨⟨v,rfl,hv⟩,L5⟩;obtain⟨At,ct,rfl,hHt⟩:=X0a.holds8 hv hlb (by rw[<-HLTX.out];omega);rw[<-HLTX.out] at hHt⊢;have HTX:=hI hHt;have M5:=hI (step M4.out L5);have HF5:=hI (HF.out.over L5);have hs5:=M5.out.size;clear hv hHt L5 K4 M4 HF OF HXD;go_wp2_with(first
   | ((with_reducible refine sN 102 ?_);refine Q2a rfl 2 _ rfl [(Af,8,cf,f8),(At,lt,ct,tx)] rfl (by kernel_rfl) (List.forall_mem_cons.2 ⟨HF5.out,List.forall_mem_cons.2 ⟨HTX.out,λ_ h=>by cases h⟩⟩) ?_;intro g6 w6 hP6 L6)
   | fail)
  refine(CC.out w6 g6 2 _ _ _ _ hP6.out (by omega) (by show 0+8+lt<=_;omega)).mono ?_;rintro e w7 ⟨v,rfl,ho,L7⟩;have HO6:=hI (X0a.mono ho (Nat.le_trans hs5 L6.out.size));have M7:=hI (step (step M5.out L6.out) L7);clear ho L7 L6 hP6;go_wp2;go_ret2;refine HQ.out _ _ _ rfl ?_ M7.out;have h9:=HO6.out;simpa[E7a,d4a,List.append_assoc] using h9
theorem g2b(w:World)(c:Int)(cs:List Value)(a:M1a)(hc:0<=c/\c<=65535)(ka:a.ok)(ha:n1a w w.heap.size cs a) :
  Calls Tryz.prog 131 #[.int .u16 c,.agg cs.toArray] w λe w'=>e=.returned (.bool (u3a c a))/\Below w.heap.size w w':=by
 have HL:=hI (ha.len ka);have hcl:=ka.clen;have CP:Hid (∀(w':World) (ds:List Value) (b:M1a),b.ok->n1a w' w'.heap.size ds b->Calls Tryz.prog 82 #[.int .u16 13,.agg ds.toArray] w' λe w2=>(∃v er,e=.returned (.tuple #[v,.int .i64 er])/\(er==0)=decide (b=q0a))/\Below w'.heap.size w' w2):=λw' ds b kb hb=>by have h:=x1b w' 13 ds b (by decide) kb hb;exact h.mono λe w2 ⟨v,h1,_,h3⟩=>⟨⟨v,_,h1,w4b b⟩,h3⟩
 have kb:=t5b (c:=c) ka;by_cases hk:R2a c=true;rotate_left
 ·have hn0:u3a c a=false:=by unfold u3a;rw[show R2a c=false from by simpa using hk];rfl
  have hk':c≠5/\c≠6/\c≠7/\c≠8/\c≠9/\c≠10:=by refine⟨?_,?_,?_,?_,?_,?_⟩<;>(rintro rfl;exact hk (by decide))
  obtain⟨h5,h6,h7,h8,h9,h10⟩:=hk';have b5:(c==5)=false:=by simpa using h5
  have b6:(c==6)=false:=by simpa using h6
  have b7:(c==7)=false:=by simpa using h7
  have b8:(c==8)=false:=by simpa using h8
  have b9:(c==9)=false:=by simpa using h9
  have b10:(c==10)=false:=by simpa using h10
  rw[hn0];clear hk hn0 h5 h6 h7 h8 h9 h10 ha ka kb CP;go_enter Tryz.func131,Tryz.ntmps131;go_wp2_with(first
   | ((with_reducible refine sN 3 ?_);refine f0a rfl _ (.tmp 1) rfl cs rfl ?_;intro g w1 hg1 hg2 K1 L1)
   | fail)
  go_ret;exact⟨rfl,L1.out⟩
 have hcs:c=5∨c=6∨c=7∨c=8∨c=9∨c=10:=by unfold R2a at hk;simp at hk;omega
 obtain⟨X1,X2,X3,M1,M2,M3,rfl,hX,hM⟩:=ha;obtain⟨C0,hC0⟩:∃x,x=r0a (.slice X1 X2 X3) (.slice M1 M2 M3) a:=⟨_,rfl⟩;have HC0:=hI hC0;rw[<-hC0] at HL ⊢;clear hC0;rcases hcs with h5 | h6 | h7 | h8 | h9 | h10
 ·subst h5;have HI:Hid (∀w':World,Below w.heap.size w w'->n1a w' w'.heap.size (r0a (.slice X1 X2 X3) (.slice M1 M2 M3) (l1a 5 a)) (l1a 5 a)):=λw' hb=>⟨X1,X2,X3,M1,M2,M3,rfl,hX.over hb,hM.over hb⟩
  have HEQ:Hid (((((((C0).set 10 (.int .u8 0)).set 11 (.int .u8 0)).set 12 (.int .u16 0)).set 13 (.int .u64 0)).set 1 (.int .u64 0)).set 14 (.int .u8 0)=r0a (.slice X1 X2 X3) (.slice M1 M2 M3) (l1a 5 a)):=by
   show _=_
   rw[HC0.out];simp only[Y2c,k3c,l3c,Z2c,sc1,a3c,hcl];try rfl
  have hnf:u3a 5 a=decide (l1a 5 a=q0a):=by unfold u3a;rw[hk,Bool.true_and]
  rw[hnf];obtain⟨b,hb⟩:∃x,x=l1a 5 a:=⟨_,rfl⟩;rw[<-hb] at HI HEQ kb ⊢;obtain⟨D,hD⟩:∃x,x=r0a (.slice X1 X2 X3) (.slice M1 M2 M3) b:=⟨_,rfl⟩;rw[<-hD] at HI HEQ;clear hb hD hk ka;go_enter Tryz.func131,Tryz.ntmps131;go_wp2_with(first
   | ((with_reducible refine sN 3 ?_);refine f0a rfl _ (.tmp 1) rfl C0 rfl ?_;intro g w1 hg1 hg2 K1 L1)
   | ((with_reducible refine sT 10 ?_);refine d0a rfl _ (.tmp 10) (.const (.int .u8 0)) rfl g 10 rfl _ C0 (.int .u8 0) rfl K1 (hI (by have:=HL.out;omega)) (by kernel_rfl) rfl ?_;intro w2 K2 O2 hq2;obtain⟨C1,hC1⟩:∃x,x=C0.set 10 (.int .u8 0):=⟨_,rfl⟩;have HC1:=hI hC1;have HL1:Hid (C1.length=20):=(by rw[hC1,List.length_set];exact HL.out);rw[<-hC1] at K2;have L2:=hI (c0a L1.out O2.out hg1);clear hC1)
   | ((with_reducible refine sT 11 ?_);refine d0a rfl _ (.tmp 11) (.const (.int .u8 0)) rfl g 11 rfl _ C1 (.int .u8 0) rfl K2 (hI (by have:=HL1.out;omega)) (by kernel_rfl) rfl ?_;intro w3 K3 O3 hq3;obtain⟨C2,hC2⟩:∃x,x=C1.set 11 (.int .u8 0):=⟨_,rfl⟩;have HC2:=hI hC2;have HL2:Hid (C2.length=20):=(by rw[hC2,List.length_set];exact HL1.out);rw[<-hC2] at K3;have L3:=hI (c0a L2.out O3.out hg1);clear hC2)
   | ((with_reducible refine sT 12 ?_);refine d0a rfl _ (.tmp 12) (.const (.int .u16 0)) rfl g 12 rfl _ C2 (.int .u16 0) rfl K3 (hI (by have:=HL2.out;omega)) (by kernel_rfl) rfl ?_;intro w4 K4 O4 hq4;obtain⟨C3,hC3⟩:∃x,x=C2.set 12 (.int .u16 0):=⟨_,rfl⟩;have HC3:=hI hC3;have HL3:Hid (C3.length=20):=(by rw[hC3,List.length_set];exact HL2.out);rw[<-hC3] at K4;have L4:=hI (c0a L3.out O4.out hg1);clear hC3)
   | ((with_reducible refine sT 13 ?_);refine d0a rfl _ (.tmp 13) (.const (.int .u64 0)) rfl g 13 rfl _ C3 (.int .u64 0) rfl K4 (hI (by have:=HL3.out;omega)) (by kernel_rfl) rfl ?_;intro w5 K5 O5 hq5;obtain⟨C4,hC4⟩:∃x,x=C3.set 13 (.int .u64 0):=⟨_,rfl⟩;have HC4:=hI hC4;have HL4:Hid (C4.length=20):=(by rw[hC4,List.length_set];exact HL3.out);rw[<-hC4] at K5;have L5:=hI (c0a L4.out O5.out hg1);clear hC4)
   | ((with_reducible refine sT 14 ?_);refine d0a rfl _ (.tmp 14) (.const (.int .u64 0)) rfl g 1 rfl _ C4 (.int .u64 0) rfl K5 (hI (by have:=HL4.out;omega)) (by kernel_rfl) rfl ?_;intro w6 K6 O6 hq6;obtain⟨C5,hC5⟩:∃x,x=C4.set 1 (.int .u64 0):=⟨_,rfl⟩;have HC5:=hI hC5;have HL5:Hid (C5.length=20):=(by rw[hC5,List.length_set];exact HL4.out);rw[<-hC5] at K6;have L6:=hI (c0a L5.out O6.out hg1);clear hC5)
   | ((with_reducible refine sT 15 ?_);refine d0a rfl _ (.tmp 15) (.const (.int .u8 0)) rfl g 14 rfl _ C5 (.int .u8 0) rfl K6 (hI (by have:=HL5.out;omega)) (by kernel_rfl) rfl ?_;intro w7 K7 O7 hq7;obtain⟨C6,hC6⟩:∃x,x=C5.set 14 (.int .u8 0):=⟨_,rfl⟩;have HC6:=hI hC6;have HL6:Hid (C6.length=20):=(by rw[hC6,List.length_set];exact HL5.out);rw[<-hC6] at K7;have L7:=hI (c0a L6.out O7.out hg1);clear hC6)
   | ((with_reducible refine sN 27 ?_);refine e0a rfl _ (.tmp 3) rfl g rfl _ C6 K7 20 _ Tryz.underlying39 rfl s0a HL6 ?_)
   | fail)
  have HF:Hid (C6=D):=by
   show _=_
   rw[HC6.out,HC5.out,HC4.out,HC3.out,HC2.out,HC1.out];exact HEQ.out
  rw[HF.out];refine(CP.out _ D b kb (HI.out _ L7.out)).mono ?_;rintro e v1 ⟨⟨v,er,rfl,her⟩,LQ⟩;have HER:=hI her;have L99:=hI (step L7.out LQ);clear her LQ;go_wp2;go_ret;exact⟨K0a HER.out,L99.out⟩
 ·subst h6;have HI:Hid (∀w':World,Below w.heap.size w w'->n1a w' w'.heap.size (r0a (.slice X1 X2 X3) (.slice M1 M2 M3) (l1a 6 a)) (l1a 6 a)):=λw' hb=>⟨X1,X2,X3,M1,M2,M3,rfl,hX.over hb,hM.over hb⟩
  have HEQ:Hid (C0=r0a (.slice X1 X2 X3) (.slice M1 M2 M3) (l1a 6 a)):=by
   show _=_
   exact HC0.out
  have hnf:u3a 6 a=decide (l1a 6 a=q0a):=by unfold u3a;rw[hk,Bool.true_and]
  rw[hnf];obtain⟨b,hb⟩:∃x,x=l1a 6 a:=⟨_,rfl⟩;rw[<-hb] at HI HEQ kb ⊢;obtain⟨D,hD⟩:∃x,x=r0a (.slice X1 X2 X3) (.slice M1 M2 M3) b:=⟨_,rfl⟩;rw[<-hD] at HI HEQ;clear hb hD hk ka;go_enter Tryz.func131,Tryz.ntmps131;go_wp2_with(first
   | ((with_reducible refine sN 3 ?_);refine f0a rfl _ (.tmp 1) rfl C0 rfl ?_;intro g w1 hg1 hg2 K1 L1)
   | ((with_reducible refine sN 27 ?_);refine e0a rfl _ (.tmp 3) rfl g rfl _ C0 K1 20 _ Tryz.underlying39 rfl s0a HL ?_)
   | fail)
  have HF:Hid (C0=D):=by
   show _=_
   exact HEQ.out
  rw[HF.out];refine(CP.out _ D b kb (HI.out _ L1.out)).mono ?_;rintro e v1 ⟨⟨v,er,rfl,her⟩,LQ⟩;have HER:=hI her;have L99:=hI (step L1.out LQ);clear her LQ;go_wp2;go_ret;exact⟨K0a HER.out,L99.out⟩
 ·subst h7;have HI:Hid (∀w':World,Below w.heap.size w w'->n1a w' w'.heap.size (r0a (.slice X1 X2 X3) (.slice M1 M2 M3) (l1a 7 a)) (l1a 7 a)):=λw' hb=>⟨X1,X2,X3,M1,M2,M3,rfl,hX.over hb,hM.over hb⟩
  have HEQ:Hid (C0=r0a (.slice X1 X2 X3) (.slice M1 M2 M3) (l1a 7 a)):=by
   show _=_
   exact HC0.out
  have hnf:u3a 7 a=decide (l1a 7 a=q0a):=by unfold u3a;rw[hk,Bool.true_and]
  rw[hnf];obtain⟨b,hb⟩:∃x,x=l1a 7 a:=⟨_,rfl⟩;rw[<-hb] at HI HEQ kb ⊢;obtain⟨D,hD⟩:∃x,x=r0a (.slice X1 X2 X3) (.slice M1 M2 M3) b:=⟨_,rfl⟩;rw[<-hD] at HI HEQ;clear hb hD hk ka;go_enter Tryz.func131,Tryz.ntmps131;go_wp2_with(first
   | ((with_reducible refine sN 3 ?_);refine f0a rfl _ (.tmp 1) rfl C0 rfl ?_;intro g w1 hg1 hg2 K1 L1)
   | ((with_reducible refine sN 27 ?_);refine e0a rfl _ (.tmp 3) rfl g rfl _ C0 K1 20 _ Tryz.underlying39 rfl s0a HL ?_)
   | fail)
  have HF:Hid (C0=D):=by
   show _=_
   exact HEQ.out
  rw[HF.out];refine(CP.out _ D b kb (HI.out _ L1.out)).mono ?_;rintro e v1 ⟨⟨v,er,rfl,her⟩,LQ⟩;have HER:=hI her;have L99:=hI (step L1.out LQ);clear her LQ;go_wp2;go_ret;exact⟨K0a HER.out,L99.out⟩
 ·subst h8;have HI:Hid (∀w':World,Below w.heap.size w w'->n1a w' w'.heap.size (r0a (.slice none 0 0) (.slice M1 M2 M3) (l1a 8 a)) (l1a 8 a)):=λw' hb=>⟨none,0,0,M1,M2,M3,rfl,Holds.nil _ _,hM.over hb⟩
  have HEQ:Hid ((C0).set 15 (.slice none 0 0)=r0a (.slice none 0 0) (.slice M1 M2 M3) (l1a 8 a)):=by
   show _=_
   rw[HC0.out];simp only[Q2c,hcl];try rfl
  have hnf:u3a 8 a=decide (l1a 8 a=q0a):=by unfold u3a;rw[hk,Bool.true_and]
  rw[hnf];obtain⟨b,hb⟩:∃x,x=l1a 8 a:=⟨_,rfl⟩;rw[<-hb] at HI HEQ kb ⊢;obtain⟨D,hD⟩:∃x,x=r0a (.slice none 0 0) (.slice M1 M2 M3) b:=⟨_,rfl⟩;rw[<-hD] at HI HEQ;clear hb hD hk ka;go_enter Tryz.func131,Tryz.ntmps131;go_wp2_with(first
   | ((with_reducible refine sN 3 ?_);refine f0a rfl _ (.tmp 1) rfl C0 rfl ?_;intro g w1 hg1 hg2 K1 L1)
   | ((with_reducible refine sT 18 ?_);refine d0a rfl _ (.tmp 18) (.const (.slice none 0 0)) rfl g 15 rfl _ C0 (.slice none 0 0) rfl K1 (hI (by have:=HL.out;omega)) (by kernel_rfl) rfl ?_;intro w2 K2 O2 hq2;obtain⟨C1,hC1⟩:∃x,x=C0.set 15 (.slice none 0 0):=⟨_,rfl⟩;have HC1:=hI hC1;have HL1:Hid (C1.length=20):=(by rw[hC1,List.length_set];exact HL.out);rw[<-hC1] at K2;have L2:=hI (c0a L1.out O2.out hg1);clear hC1)
   | ((with_reducible refine sN 27 ?_);refine e0a rfl _ (.tmp 3) rfl g rfl _ C1 K2 20 _ Tryz.underlying39 rfl s0a HL1 ?_)
   | fail)
  have HF:Hid (C1=D):=by
   show _=_
   rw[HC1.out];exact HEQ.out
  rw[HF.out];refine(CP.out _ D b kb (HI.out _ L2.out)).mono ?_;rintro e v1 ⟨⟨v,er,rfl,her⟩,LQ⟩;have HER:=hI her;have L99:=hI (step L2.out LQ);clear her LQ;go_wp2;go_ret;exact⟨K0a HER.out,L99.out⟩
 ·subst h9;have HI:Hid (∀w':World,Below w.heap.size w w'->n1a w' w'.heap.size (r0a (.slice X1 X2 X3) (.slice M1 M2 M3) (l1a 9 a)) (l1a 9 a)):=λw' hb=>⟨X1,X2,X3,M1,M2,M3,rfl,hX.over hb,hM.over hb⟩
  have HEQ:Hid ((C0).set 16 (.int .u32 0)=r0a (.slice X1 X2 X3) (.slice M1 M2 M3) (l1a 9 a)):=by
   show _=_
   rw[HC0.out];simp only[m3c,hcl];try rfl
  have hnf:u3a 9 a=decide (l1a 9 a=q0a):=by unfold u3a;rw[hk,Bool.true_and]
  rw[hnf];obtain⟨b,hb⟩:∃x,x=l1a 9 a:=⟨_,rfl⟩;rw[<-hb] at HI HEQ kb ⊢;obtain⟨D,hD⟩:∃x,x=r0a (.slice X1 X2 X3) (.slice M1 M2 M3) b:=⟨_,rfl⟩;rw[<-hD] at HI HEQ;clear hb hD hk ka;go_enter Tryz.func131,Tryz.ntmps131;go_wp2_with(first
   | ((with_reducible refine sN 3 ?_);refine f0a rfl _ (.tmp 1) rfl C0 rfl ?_;intro g w1 hg1 hg2 K1 L1)
   | ((with_reducible refine sT 21 ?_);refine d0a rfl _ (.tmp 21) (.const (.int .u32 0)) rfl g 16 rfl _ C0 (.int .u32 0) rfl K1 (hI (by have:=HL.out;omega)) (by kernel_rfl) rfl ?_;intro w2 K2 O2 hq2;obtain⟨C1,hC1⟩:∃x,x=C0.set 16 (.int .u32 0):=⟨_,rfl⟩;have HC1:=hI hC1;have HL1:Hid (C1.length=20):=(by rw[hC1,List.length_set];exact HL.out);rw[<-hC1] at K2;have L2:=hI (c0a L1.out O2.out hg1);clear hC1)
   | ((with_reducible refine sN 27 ?_);refine e0a rfl _ (.tmp 3) rfl g rfl _ C1 K2 20 _ Tryz.underlying39 rfl s0a HL1 ?_)
   | fail)
  have HF:Hid (C1=D):=by
   show _=_
   rw[HC1.out];exact HEQ.out
  rw[HF.out];refine(CP.out _ D b kb (HI.out _ L2.out)).mono ?_;rintro e v1 ⟨⟨v,er,rfl,her⟩,LQ⟩;have HER:=hI her;have L99:=hI (step L2.out LQ);clear her LQ;go_wp2;go_ret;exact⟨K0a HER.out,L99.out⟩
 ·subst h10;have HI:Hid (∀w':World,Below w.heap.size w w'->n1a w' w'.heap.size (r0a (.slice X1 X2 X3) (.slice M1 M2 M3) (l1a 10 a)) (l1a 10 a)):=λw' hb=>⟨X1,X2,X3,M1,M2,M3,rfl,hX.over hb,hM.over hb⟩
  have HEQ:Hid (C0=r0a (.slice X1 X2 X3) (.slice M1 M2 M3) (l1a 10 a)):=by
   show _=_
   exact HC0.out
  have hnf:u3a 10 a=decide (l1a 10 a=q0a):=by unfold u3a;rw[hk,Bool.true_and]
  rw[hnf];obtain⟨b,hb⟩:∃x,x=l1a 10 a:=⟨_,rfl⟩;rw[<-hb] at HI HEQ kb ⊢;obtain⟨D,hD⟩:∃x,x=r0a (.slice X1 X2 X3) (.slice M1 M2 M3) b:=⟨_,rfl⟩;rw[<-hD] at HI HEQ;clear hb hD hk ka;go_enter Tryz.func131,Tryz.ntmps131;go_wp2_with(first
   | ((with_reducible refine sN 3 ?_);refine f0a rfl _ (.tmp 1) rfl C0 rfl ?_;intro g w1 hg1 hg2 K1 L1)
   | ((with_reducible refine sN 27 ?_);refine e0a rfl _ (.tmp 3) rfl g rfl _ C0 K1 20 _ Tryz.underlying39 rfl s0a HL ?_)
   | fail)
  have HF:Hid (C0=D):=by
   show _=_
   exact HEQ.out
  rw[HF.out];refine(CP.out _ D b kb (HI.out _ L1.out)).mono ?_;rintro e v1 ⟨⟨v,er,rfl,her⟩,LQ⟩;have HER:=hI her;have L99:=hI (step L1.out LQ);clear her LQ;go_wp2;go_ret;exact⟨K0a HER.out,L99.out⟩
def b9a(w:World)(c:Int)(a:M1a)(e:Ending)(w':World):Prop:=∃v,e=.returned (.tuple #[v,.int .i64 (q6a c a)])/\X0a .u8 5 w' w.heap.size v (u2b c a)/\Below w.heap.size w w'
theorem v5b(w:World)(c:Int)(cs:List Value)(a:M1a)(hc:0<=c/\c<=65535)(ka:a.ok)(ha:n1a w w.heap.size cs a) :
  Calls Tryz.prog 86 #[.int .u16 c,.agg cs.toArray] w (b9a w c a):=by
 have HL:=hI (ha.len ka);have HA:=hI ha;have CN:Hid (∀w',Below w.heap.size w w'->Calls Tryz.prog 131 #[.int .u16 c,.agg cs.toArray] w' λe w2=>e=.returned (.bool (u3a c a))/\Below w'.heap.size w' w2):=λw' hb=>g2b w' c cs a hc ka (HA.out.over hb)
 obtain⟨X1,X2,X3,M1,M2,M3,hcs,hX,hM⟩:=ha;have FL:Hid (∀(w:World) (g:Nat),Blk w g 39 cs->w.cell? ⟨g,15,none⟩=some (.slice X1 X2 X3)/\w.cell? ⟨g,12,none⟩=some (.int .u16 a.made)/\w.cell? ⟨g,14,none⟩=some (.int .u8 a.kind)):=λw g h=>by rw[hcs] at h;exact⟨h.at (B0a ka 5),h.at (B0a ka 2),h.at (B0a ka 4)⟩
 have hxl:a.data.length=X2:=hX.len;have hxr:=hX.room;have HE:Hid (∀er,q6a c a=er->er≠0->∀v e w',e=.returned (.tuple #[v,.int .i64 er])->v=.slice none 0 0->Below w.heap.size w w'->b9a w c a e w'):=by intro er h1 h2 v e w' he hv hb;unfold b9a u2b;rw[h1,if_neg h2];exact⟨_,he,by rw[hv];exact X0a.nil _ _ _ _,hb⟩
 by_cases hnf:u3a c a=true;rotate_left
 ·have hnb:u3a c a=false:=by simpa using hnf
  have HQ:=hI (HE.out 2 (by unfold q6a;rw[if_neg (λh=>hnf h.1)]) (by decide));rw[hnb] at CN;clear hnf hnb HE hX hM ka HA hcs hxl;go_enter Tryz.func86,Tryz.ntmps86;go_wp2_with(first
   | ((with_reducible refine sN 3 ?_);refine f0a rfl _ (.tmp 1) rfl cs rfl ?_;intro g w1 hg1 hg2 K1 L1)
   | ((with_reducible refine sN 9 ?_);refine e0a rfl _ (.tmp 3) rfl g rfl _ cs K1 20 _ Tryz.underlying39 rfl s0a HL ?_)
   | fail)
  refine(CN.out w1 L1.out).mono ?_;rintro e w2 ⟨rfl,L2⟩;have K2:=hI (K1.out.over L2);have M2':=hI (step L1.out L2);obtain⟨c15,c12,c14⟩:=FL.out w2 g K2.out;clear L2 K1 L1 CN;go_wp2;go_ret2;exact HQ.out _ _ _ rfl rfl M2'.out
 rw[hnf] at CN;by_cases hmd:a.made<=2;rotate_left
 ·have HQ:=hI (HE.out 2 (by unfold q6a;rw[if_neg (λh=>hmd h.2.1)]) (by decide));have hb1:decide (2<a.made)=true:=by rw[decide_eq_true_iff];omega
  clear hnf HE hX hM ka HA hcs hxl;go_enter Tryz.func86,Tryz.ntmps86;go_wp2_with(first
   | ((with_reducible refine sN 3 ?_);refine f0a rfl _ (.tmp 1) rfl cs rfl ?_;intro g w1 hg1 hg2 K1 L1)
   | ((with_reducible refine sN 9 ?_);refine e0a rfl _ (.tmp 3) rfl g rfl _ cs K1 20 _ Tryz.underlying39 rfl s0a HL ?_)
   | fail)
  refine(CN.out w1 L1.out).mono ?_;rintro e w2 ⟨rfl,L2⟩;have K2:=hI (K1.out.over L2);have M2':=hI (step L1.out L2);obtain⟨c15,c12,c14⟩:=FL.out w2 g K2.out;clear L2 K1 L1 CN;go_wp2;go_ret2;exact HQ.out _ _ _ rfl rfl M2'.out
 by_cases hkd:a.kind<=2;rotate_left
 ·have HQ:=hI (HE.out 2 (by unfold q6a;rw[if_neg (λh=>hkd h.2.2)]) (by decide));have hb1:decide (2<a.made)=false:=by rw[decide_eq_false_iff_not];omega
  have hb2:decide (2<a.kind)=true:=by rw[decide_eq_true_iff];omega
  clear hnf HE hX hM ka HA hcs hxl;go_enter Tryz.func86,Tryz.ntmps86;go_wp2_with(first
   | ((with_reducible refine sN 3 ?_);refine f0a rfl _ (.tmp 1) rfl cs rfl ?_;intro g w1 hg1 hg2 K1 L1)
   | ((with_reducible refine sN 9 ?_);refine e0a rfl _ (.tmp 3) rfl g rfl _ cs K1 20 _ Tryz.underlying39 rfl s0a HL ?_)
   | fail)
  refine(CN.out w1 L1.out).mono ?_;rintro e w2 ⟨rfl,L2⟩;have K2:=hI (K1.out.over L2);have M2':=hI (step L1.out L2);obtain⟨c15,c12,c14⟩:=FL.out w2 g K2.out;clear L2 K1 L1 CN;go_wp2;go_ret2;exact HQ.out _ _ _ rfl rfl M2'.out
 have hb1:decide (2<a.made)=false:=by rw[decide_eq_false_iff_not];omega
 have hb2:decide (2<a.kind)=false:=by rw[decide_eq_false_iff_not];omega
 by_cases hx3:X2<=32768;rotate_left
 ·have HQ:=hI (HE.out 3 (by unfold q6a;rw[if_pos ⟨hnf,hmd,hkd⟩,hxl,if_neg hx3]) (by decide));clear hnf HE hX hM ka HA hcs hxl;go_enter Tryz.func86,Tryz.ntmps86;go_wp2_with(first
   | ((with_reducible refine sN 3 ?_);refine f0a rfl _ (.tmp 1) rfl cs rfl ?_;intro g w1 hg1 hg2 K1 L1)
   | ((with_reducible refine sN 9 ?_);refine e0a rfl _ (.tmp 3) rfl g rfl _ cs K1 20 _ Tryz.underlying39 rfl s0a HL ?_)
   | fail)
  refine(CN.out w1 L1.out).mono ?_;rintro e w2 ⟨rfl,L2⟩;have K2:=hI (K1.out.over L2);have M2':=hI (step L1.out L2);obtain⟨c15,c12,c14⟩:=FL.out w2 g K2.out;clear L2 K1 L1 CN;go_wp2;go_ret2;exact HQ.out _ _ _ rfl rfl M2'.out
 have hk:R2a c=true:=by
  unfold u3a at hnf;cases h:R2a c
  ·rw[h,Bool.false_and] at hnf;exact absurd hnf (by decide)
  ·rfl
 have hcc:c=5∨c=6∨c=7∨c=8∨c=9∨c=10:=by unfold R2a at hk;simp at hk;omega
 have HQ0:Hid (∀v e w',e=.returned (.tuple #[v,.int .i64 0])->X0a .u8 5 w' w.heap.size v (M2a c a)->Below w.heap.size w w'->b9a w c a e w'):=by
  have h:q6a c a=0:=by unfold q6a;rw[if_pos ⟨hnf,hmd,hkd⟩,hxl,if_pos hx3]
  intro v e w' he hv hb;unfold b9a u2b;rw[h,if_pos rfl];exact⟨_,he,hv,hb⟩
 obtain⟨l_lev,u_lev⟩:=ka.lev;obtain⟨l_dur,u_dur⟩:=ka.dur;obtain⟨l_made,u_made⟩:=ka.made;obtain⟨l_file,u_file⟩:=ka.file;obtain⟨l_siz,u_siz⟩:=ka.siz;obtain⟨l_kind,u_kind⟩:=ka.kind;obtain⟨l_n,u_n⟩:=ka.n;have z_made:IntKind.u64.wrap a.made=a.made:=by rw[IntKind.wrap_u64];omega
 have z_kind:IntKind.u64.wrap a.kind=a.kind:=by rw[IntKind.wrap_u64];omega
 have z_n:IntKind.u64.wrap a.n=a.n:=by rw[IntKind.wrap_u64];omega
 have z_x:IntKind.u64.wrap (X2:Int)=(X2:Int):=by rw[IntKind.wrap_u64];omega
 have FC:Hid (∀(w:World) (g:Nat),Blk w g 39 cs->w.cell? ⟨g,1,none⟩=some (.int .u64 a.siz)/\w.cell? ⟨g,10,none⟩=some (.int .u8 a.lev)/\w.cell? ⟨g,11,none⟩=some (.int .u8 a.dur)/\w.cell? ⟨g,12,none⟩=some (.int .u16 a.made)/\w.cell? ⟨g,13,none⟩=some (.int .u64 a.file)/\w.cell? ⟨g,14,none⟩=some (.int .u8 a.kind)/\w.cell? ⟨g,16,none⟩=some (.int .u32 a.n)):=λw g h=>by rw[hcs] at h;exact⟨h.at rfl,h.at (B0a ka 0),h.at (B0a ka 1),h.at (B0a ka 2),h.at (B0a ka 3),h.at (B0a ka 4),h.at (B0a ka 6)⟩
 have CC:Hid (∀(w:World) (gs m:Nat) (A:Nat->Option Addr) (n c:Nat->Nat) (X:Nat->List Int),o4a w gs m A n c X->m<=1000->X1b n m<=140737488355328->Calls Tryz.prog 22 #[.slice (some ⟨gs,0,none⟩) m m] w λe w'=>∃v,e=.returned v/\X0a .u8 5 w' w.heap.size v (E7a X m)/\Below w.heap.size w w'):=X2a;have HX:=hI hX;clear HE hX hM HA hcs hnf hxl hk hmd hkd;rcases hcc with h5 | h6 | h7 | h8 | h9 | h10
 ·subst h5;have HQ:=HQ0;have hb5:M2a 5 a=[a.lev,a.dur]++(le a.made 2++((le a.file 8++le a.siz 8)++(le a.kind 2++List.replicate 2 0))):=by unfold M2a;rw[if_pos rfl,le1 a.lev l_lev u_lev,le1 a.dur l_dur u_dur];simp only[List.append_assoc,List.cons_append,List.nil_append]
  rw[hb5] at HQ;have CM2:Hid (∀(w:World) (gl:Nat),Blk w gl 25 [.int .u64 a.made]->Calls Tryz.prog 121 #[.int .i64 2,.slice (some ⟨gl,0,none⟩) 1 1] w λe w'=>∃A' c',e=.returned (.slice A' 2 c')/\(X0a .u8 5 w' w.heap.size (.slice A' 2 c') (le a.made 2)/\Holds w' w'.heap.size A' 2 c' (le a.made 2))/\Below w.heap.size w w'):=λw gl hB=>by
   have h:=v4a w gl 1 2 ([a.made]:List Int) hB rfl (by decide) (by decide) (λz hz=>by rw[show(256:Int)^2=65536 from by decide];simp only[List.mem_cons,List.not_mem_nil,or_false] at hz;rw[hz];omega)
   have e1:q2a 2 ([a.made]:List Int)=le a.made 2:=by simp[q2a]
   rw[e1] at h;have e2:(le a.made 2).length=2:=by simp[g0a]
   rw[e2] at h;exact h
  have CK2:Hid (∀(w:World) (gl:Nat),Blk w gl 25 [.int .u64 a.kind]->Calls Tryz.prog 121 #[.int .i64 2,.slice (some ⟨gl,0,none⟩) 1 1] w λe w'=>∃A' c',e=.returned (.slice A' 2 c')/\(X0a .u8 5 w' w.heap.size (.slice A' 2 c') (le a.kind 2)/\Holds w' w'.heap.size A' 2 c' (le a.kind 2))/\Below w.heap.size w w'):=λw gl hB=>by
   have h:=v4a w gl 1 2 ([a.kind]:List Int) hB rfl (by decide) (by decide) (λz hz=>by rw[show(256:Int)^2=65536 from by decide];simp only[List.mem_cons,List.not_mem_nil,or_false] at hz;rw[hz];omega)
   have e1:q2a 2 ([a.kind]:List Int)=le a.kind 2:=by simp[q2a]
   rw[e1] at h;have e2:(le a.kind 2).length=2:=by simp[g0a]
   rw[e2] at h;exact h
  have CF16:Hid (∀(w:World) (gl:Nat),Blk w gl 25 [.int .u64 a.file,.int .u64 a.siz]->Calls Tryz.prog 121 #[.int .i64 8,.slice (some ⟨gl,0,none⟩) 2 2] w λe w'=>∃A' c',e=.returned (.slice A' 16 c')/\(X0a .u8 5 w' w.heap.size (.slice A' 16 c') (le a.file 8++le a.siz 8)/\Holds w' w'.heap.size A' 16 c' (le a.file 8++le a.siz 8))/\Below w.heap.size w w'):=λw gl hB=>by
   have h:=v4a w gl 2 8 ([a.file,a.siz]:List Int) hB rfl (by decide) (by decide) (λz hz=>by rw[show(256:Int)^8=18446744073709551616 from by decide];simp only[List.mem_cons,List.not_mem_nil,or_false] at hz;rcases hz with hz | hz<;>omega)
   have e1:q2a 8 ([a.file,a.siz]:List Int)=le a.file 8++le a.siz 8:=by simp[q2a]
   rw[e1] at h;have e2:(le a.file 8++le a.siz 8).length=16:=by simp[g0a]
   rw[e2] at h;exact h
  have hld:Bytes [a.lev,a.dur]:=by intro x hx;simp only[List.mem_cons,List.not_mem_nil,or_false] at hx;rcases hx with hx | hx<;>omega
  have HLD:=hI hld;obtain⟨m2,hm2⟩:∃x,x=le a.made 2:=⟨_,rfl⟩;rw[<-hm2] at CM2 HQ;obtain⟨k2,hk2⟩:∃x,x=le a.kind 2:=⟨_,rfl⟩;rw[<-hk2] at CK2 HQ;obtain⟨fs,hfs⟩:∃x,x=le a.file 8++le a.siz 8:=⟨_,rfl⟩;rw[<-hfs] at CF16 HQ;clear hm2 hk2 hfs HQ0 hb5 hld;go_enter Tryz.func86,Tryz.ntmps86;go_wp2_with(first
   | ((with_reducible refine sN 3 ?_);refine f0a rfl _ (.tmp 1) rfl cs rfl ?_;intro g w1 hg1 hg2 K1 L1)
   | ((with_reducible refine sN 9 ?_);refine e0a rfl _ (.tmp 3) rfl g rfl _ cs K1 20 _ Tryz.underlying39 rfl s0a HL ?_)
   | fail)
  refine(CN.out w1 L1.out).mono ?_;rintro e w2 ⟨rfl,L2⟩;have K2:=hI (K1.out.over L2);have M2':=hI (step L1.out L2);obtain⟨c15,c12,c14⟩:=FL.out w2 g K2.out;clear L2 K1 L1 CN;go_upto_region 7 with fail
  go_cut [6,7] (λs6 s7 wx=>∃Ap cp Aq cq,s6=.slice Ap 2 cp/\s7=.slice Aq 2 cq/\Hid (Holds wx wx.heap.size Ap 2 cp m2)/\Hid (Holds wx wx.heap.size Aq 2 cq k2)/\Hid (Blk wx g 39 cs)/\Hid (Below w.heap.size w wx))
  case first=>
   have hst:Hid (∀w1 w2:World,(Blk w1 g 39 cs/\Below w.heap.size w w1)->Below w1.heap.size w1 w2->(Blk w2 g 39 cs/\Below w.heap.size w w2)):=λw1 w2 s hb=>⟨s.1.over hb,step s.2 hb⟩
   refine wp_region_held (S:=λw'=>Blk w' g 39 cs/\Below w.heap.size w w') (by kernel_rfl) ?_;change wpAnyH _ _ _ _ _ _ _ _ w2.drew
   have S0:Hid (Blk w2.drew g 39 cs/\Below w.heap.size w w2.drew):=⟨K2.out.drew,M2'.out.drew⟩;refine tK 0 _ rfl (w0a (by kernel_rfl) _ (.tmp 3) 5 rfl (.pointer (some ⟨g,0,none⟩)) (.pointer (some ⟨g,12,none⟩)) (by kernel_rfl) (c7a g)) S0.out ?_;refine tK 1 _ rfl (l0a (by kernel_rfl) _ (.tmp 29) rfl g 12 (by kernel_rfl) (.int .u16 a.made) (λw h=>(FC.out w g h.1).2.2.2.1) _ Tryz.underlying22 rfl) S0.out ?_;refine tK 2 ((.int .u64 a.made)) rfl (.inl ⟨by kernel_rfl,λw _=>by go_simp⟩) S0.out ?_;refine tK 5 _ rfl (w0a (by kernel_rfl) _ (.tmp 3) 7 rfl (.pointer (some ⟨g,0,none⟩)) (.pointer (some ⟨g,14,none⟩)) (by kernel_rfl) (e7a g)) S0.out ?_;refine tK 6 _ rfl (l0a (by kernel_rfl) _ (.tmp 34) rfl g 14 (by kernel_rfl) (.int .u8 a.kind) (λw h=>(FC.out w g h.1).2.2.2.2.2.1) _ Tryz.underlying36 rfl) S0.out ?_;refine tK 7 ((.int .u64 a.kind)) rfl (.inl ⟨by kernel_rfl,λw _=>by go_simp⟩) S0.out ?_;refine t2a λfr1 hfr1=>?_
   have f31:fr1.eval (.tmp 31)=.int .u64 a.made:=by rw[hfr1];kernel_rfl
   have f36:fr1.eval (.tmp 36)=.int .u64 a.kind:=by rw[hfr1];kernel_rfl
   refine T3a [(3,32),(4,33),(8,37),(9,38),(10,6),(11,7)] (λi=>match i with
    | 3=>u7b 1 25 [.int .u64 a.made]
    | 4=>rowP 2 m2
    | 8=>u7b 1 25 [.int .u64 a.kind]
    | 9=>rowP 2 k2
    | 10=>rowP 2 m2
    | 11=>rowP 2 k2
    | _=>λ_ _=>True) fr1 (by rw[hfr1];kernel_rfl) (Nat.le_of_ble_eq_true (by kernel_rfl)) S0.out ?_ ?_ ?_
   ·intro i v w1 w2 hb h;split at h;all_goals first | exact l5a hb h | exact m5a hb h | exact U3a hb h | exact n5a hb h | exact h
   ·refine List.forall_mem_cons.2 ⟨⟨_,rfl,λb w1 s hev hd K hK=>?_⟩,List.forall_mem_cons.2 ⟨⟨_,rfl,λb w1 s hev hd K hK=>?_⟩,List.forall_mem_cons.2 ⟨⟨_,rfl,λb w1 s hev hd K hK=>?_⟩,List.forall_mem_cons.2 ⟨⟨_,rfl,λb w1 s hev hd K hK=>?_⟩,List.forall_mem_cons.2 ⟨⟨_,rfl,λb w1 s hev hd K hK=>?_⟩,List.forall_mem_cons.2 ⟨⟨_,rfl,λb w1 s hev hd K hK=>?_⟩,λ_ h=>absurd h List.not_mem_nil⟩⟩⟩⟩⟩⟩
    ·have e31:=(hev 31 (by decide)).trans f31;refine O0a rfl _ _ 1 _ rfl Tryz.underlying192 ([.int .u64 a.made]:List Value) (by simp only[List.map_toArray,List.map_cons,List.map_nil,e31];kernel_rfl) ?_;intro g2 w2 _ _ hY hL;exact hK _ _ (hst.out _ _ s hL.out) hL.out ⟨_,rfl,hY.out⟩
    ·obtain⟨g4,e4,hB⟩:=hd (3,32) (by simp) (by kernel_rfl);simp only[Act.eval,Array.getD_eq_getD_getElem?] at e4;go_simp;refine(CM2.out _ _ hB).mono ?_;rintro e w2 ⟨A,c,rfl,⟨_,hY⟩,hL⟩;exact hK _ _ (hst.out _ _ s hL) hL ⟨_,_,rfl,hY⟩
    ·have e36:=(hev 36 (by decide)).trans f36;refine O0a rfl _ _ 1 _ rfl Tryz.underlying192 ([.int .u64 a.kind]:List Value) (by simp only[List.map_toArray,List.map_cons,List.map_nil,e36];kernel_rfl) ?_;intro g2 w2 _ _ hY hL;exact hK _ _ (hst.out _ _ s hL.out) hL.out ⟨_,rfl,hY.out⟩
    ·obtain⟨g4,e4,hB⟩:=hd (8,37) (by simp) (by kernel_rfl);simp only[Act.eval,Array.getD_eq_getD_getElem?] at e4;go_simp;refine(CK2.out _ _ hB).mono ?_;rintro e w2 ⟨A,c,rfl,⟨_,hY⟩,hL⟩;exact hK _ _ (hst.out _ _ s hL) hL ⟨_,_,rfl,hY⟩
    ·have h15:(rowP 2 m2) (b.eval (.tmp 33)) w1:=hd (4,33) (by simp) (by kernel_rfl);simp only[Act.eval,Array.getD_eq_getD_getElem?] at h15;go_simp;exact hK _ _ s (Below.refl _ _) h15
    ·have h15:(rowP 2 k2) (b.eval (.tmp 38)) w1:=hd (9,38) (by simp) (by kernel_rfl);simp only[Act.eval,Array.getD_eq_getD_getElem?] at h15;go_simp;exact hK _ _ s (Below.refl _ _) h15
   ·intro vs w9 s hv;obtain⟨A10,c10,hv10,hy10⟩:=hv (10,6) (by simp);have mM_9:=hI hy10;obtain⟨A11,c11,hv11,hy11⟩:=hv (11,7) (by simp);have kK_9:=hI hy11;have S9:=hI s.1;have b9:=hI s.2;subst hfr1;simp only[List.foldl_cons,List.foldl_nil,hv10,hv11];obtain⟨y32,hy0⟩:∃x,x=vs 32:=⟨_,rfl⟩;rw[<-hy0];clear hy0;obtain⟨y33,hy0⟩:∃x,x=vs 33:=⟨_,rfl⟩;rw[<-hy0];clear hy0;obtain⟨y37,hy0⟩:∃x,x=vs 37:=⟨_,rfl⟩;rw[<-hy0];clear hy0;obtain⟨y38,hy0⟩:∃x,x=vs 38:=⟨_,rfl⟩;rw[<-hy0];clear hy0;clear hv s vs hst S0 hv10 hy10 hv11 hy11 f31 f36;go_simp;go_wp2_with fail;go_meet;exact⟨_,_,_,_,rfl,rfl,mM_9,kK_9,S9,b9⟩
  case rest=>
   obtain⟨Ap,cp,Aq,cq,rfl,rfl,HM6,HK7,KX,MX⟩:=hcut;go_upto_region 8 with fail
   have hst:Hid (∀w1 w2:World,(Blk w1 g 39 cs/\Below w.heap.size w w1/\Holds w1 w1.heap.size Ap 2 cp m2/\Holds w1 w1.heap.size Aq 2 cq k2)->Below w1.heap.size w1 w2->(Blk w2 g 39 cs/\Below w.heap.size w w2/\Holds w2 w2.heap.size Ap 2 cp m2/\Holds w2 w2.heap.size Aq 2 cq k2)):=λw1 w2 s hb=>⟨s.1.over hb,step s.2.1 hb,s.2.2.1.over hb,s.2.2.2.over hb⟩
   refine wp_region_held (S:=λw'=>Blk w' g 39 cs/\Below w.heap.size w w'/\Holds w' w'.heap.size Ap 2 cp m2/\Holds w' w'.heap.size Aq 2 cq k2) (by kernel_rfl) ?_;change wpAnyH _ _ _ _ _ _ _ _ wc.drew
   have S0:Hid (Blk wc.drew g 39 cs/\Below w.heap.size w wc.drew/\Holds wc.drew wc.drew.heap.size Ap 2 cp m2/\Holds wc.drew wc.drew.heap.size Aq 2 cq k2):=⟨KX.out.drew,MX.out.drew,HM6.out.drew,HK7.out.drew⟩;refine tK 0 _ rfl (w0a (by kernel_rfl) _ (.tmp 3) 3 rfl (.pointer (some ⟨g,0,none⟩)) (.pointer (some ⟨g,10,none⟩)) (by kernel_rfl) (a7a g)) S0.out ?_;refine tK 1 _ rfl (l0a (by kernel_rfl) _ (.tmp 39) rfl g 10 (by kernel_rfl) (.int .u8 a.lev) (λw h=>(FC.out w g h.1).2.1) _ Tryz.underlying5 rfl) S0.out ?_;refine tK 2 _ rfl (w0a (by kernel_rfl) _ (.tmp 3) 4 rfl (.pointer (some ⟨g,0,none⟩)) (.pointer (some ⟨g,11,none⟩)) (by kernel_rfl) (b7a g)) S0.out ?_;refine tK 3 _ rfl (l0a (by kernel_rfl) _ (.tmp 41) rfl g 11 (by kernel_rfl) (.int .u8 a.dur) (λw h=>(FC.out w g h.1).2.2.1) _ Tryz.underlying5 rfl) S0.out ?_;refine tK 5 _ rfl (u0a (by kernel_rfl) (.tmp 6) rfl (.slice Ap 2 cp) (by kernel_rfl)) S0.out ?_;refine tK 6 _ rfl (w0a (by kernel_rfl) _ (.tmp 3) 6 rfl (.pointer (some ⟨g,0,none⟩)) (.pointer (some ⟨g,13,none⟩)) (by kernel_rfl) (d7a g)) S0.out ?_;refine tK 7 _ rfl (l0a (by kernel_rfl) _ (.tmp 45) rfl g 13 (by kernel_rfl) (.int .u64 a.file) (λw h=>(FC.out w g h.1).2.2.2.2.1) _ Tryz.underlying25 rfl) S0.out ?_;refine tK 8 _ rfl (w0a (by kernel_rfl) _ (.tmp 3) 1 rfl (.pointer (some ⟨g,0,none⟩)) (.pointer (some ⟨g,1,none⟩)) (by kernel_rfl) (Y6a g)) S0.out ?_;refine tK 9 _ rfl (l0a (by kernel_rfl) _ (.tmp 47) rfl g 1 (by kernel_rfl) (.int .u64 a.siz) (λw h=>(FC.out w g h.1).1) _ Tryz.underlying25 rfl) S0.out ?_;refine tK 12 _ rfl (u0a (by kernel_rfl) (.tmp 7) rfl (.slice Aq 2 cq) (by kernel_rfl)) S0.out ?_;refine t2a λfr1 hfr1=>?_
   have f40:fr1.eval (.tmp 40)=.int .u8 a.lev:=by rw[hfr1];kernel_rfl
   have f42:fr1.eval (.tmp 42)=.int .u8 a.dur:=by rw[hfr1];kernel_rfl
   have f44:fr1.eval (.tmp 44)=.slice Ap 2 cp:=by rw[hfr1];kernel_rfl
   have f46:fr1.eval (.tmp 46)=.int .u64 a.file:=by rw[hfr1];kernel_rfl
   have f48:fr1.eval (.tmp 48)=.int .u64 a.siz:=by rw[hfr1];kernel_rfl
   have f51:fr1.eval (.tmp 51)=.slice Aq 2 cq:=by rw[hfr1];kernel_rfl
   refine T3a [(4,43),(10,49),(11,50),(13,52),(14,53),(15,54),(16,4),(17,5)] (λi=>match i with
    | 4=>rowP 2 [a.lev,a.dur]
    | 10=>u7b 2 25 [.int .u64 a.file,.int .u64 a.siz]
    | 11=>rowP 16 fs
    | 13=>rowP 2 (List.replicate 2 0)
    | 14=>U9a 5 ([a.lev,a.dur]++(m2++(fs++(k2++((List.replicate 2 0))))))
    | 15=>H2b 5 w.heap.size ([a.lev,a.dur]++(m2++(fs++(k2++((List.replicate 2 0))))))
    | 16=>H2b 5 w.heap.size ([a.lev,a.dur]++(m2++(fs++(k2++((List.replicate 2 0))))))
    | 17=>isP (.int .i64 0)
    | _=>λ_ _=>True) fr1 (by rw[hfr1];kernel_rfl) (Nat.le_of_ble_eq_true (by kernel_rfl)) S0.out ?_ ?_ ?_
   ·intro i v w1 w2 hb h;split at h;all_goals first | exact l5a hb h | exact m5a hb h | exact U3a hb h | exact n5a hb h | exact h
   ·refine List.forall_mem_cons.2 ⟨⟨_,rfl,λb w1 s hev hd K hK=>?_⟩,List.forall_mem_cons.2 ⟨⟨_,rfl,λb w1 s hev hd K hK=>?_⟩,List.forall_mem_cons.2 ⟨⟨_,rfl,λb w1 s hev hd K hK=>?_⟩,List.forall_mem_cons.2 ⟨⟨_,rfl,λb w1 s hev hd K hK=>?_⟩,List.forall_mem_cons.2 ⟨⟨_,rfl,λb w1 s hev hd K hK=>?_⟩,List.forall_mem_cons.2 ⟨⟨_,rfl,λb w1 s hev hd K hK=>?_⟩,List.forall_mem_cons.2 ⟨⟨_,rfl,λb w1 s hev hd K hK=>?_⟩,List.forall_mem_cons.2 ⟨⟨_,rfl,λb w1 s hev hd K hK=>?_⟩,λ_ h=>absurd h List.not_mem_nil⟩⟩⟩⟩⟩⟩⟩⟩
    ·have e40:=(hev 40 (by decide)).trans f40;have e42:=(hev 42 (by decide)).trans f42;refine O0a rfl _ _ 2 _ rfl Tryz.underlying31 ([.int .u8 a.lev,.int .u8 a.dur]:List Value) (by simp only[List.map_toArray,List.map_cons,List.map_nil,e40,e42];kernel_rfl) ?_;intro g2 w2 _ _ hY hL;exact hK _ _ (hst.out _ _ s hL.out) hL.out ⟨_,_,rfl,Holds.of_lit (xs:=[a.lev,a.dur]) hY.out HLD.out⟩
    ·have e46:=(hev 46 (by decide)).trans f46;have e48:=(hev 48 (by decide)).trans f48;refine O0a rfl _ _ 2 _ rfl Tryz.underlying192 ([.int .u64 a.file,.int .u64 a.siz]:List Value) (by simp only[List.map_toArray,List.map_cons,List.map_nil,e46,e48];kernel_rfl) ?_;intro g2 w2 _ _ hY hL;exact hK _ _ (hst.out _ _ s hL.out) hL.out ⟨_,rfl,hY.out⟩
    ·obtain⟨g4,e4,hB⟩:=hd (10,49) (by simp) (by kernel_rfl);simp only[Act.eval,Array.getD_eq_getD_getElem?] at e4;go_simp;refine(CF16.out _ _ hB).mono ?_;rintro e w2 ⟨A,c,rfl,⟨_,hY⟩,hL⟩;exact hK _ _ (hst.out _ _ s hL) hL ⟨_,_,rfl,hY⟩
    ·refine s3a rfl _ _ rfl 2 rfl rfl (by omega) ?_;intro w2 hR hL;exact hK _ _ (hst.out _ _ s hL.out) hL.out ⟨_,_,rfl,r2a.holds (base:=0) (.inr ⟨_,rfl,Nat.zero_le _,hR.out⟩) (by rfl:(List.replicate 2 (0:Int)).length=2) (Bytes.zeros 2) (by omega)⟩
    ·obtain⟨A0,c0,e43,h0⟩:=hd (4,43) (by simp) (by kernel_rfl);have e44:=(hev 44 (by decide)).trans f44;obtain⟨A2,c2,e50,h2⟩:=hd (11,50) (by simp) (by kernel_rfl);have e51:=(hev 51 (by decide)).trans f51;obtain⟨A4,c4,e52,h4⟩:=hd (13,52) (by simp) (by kernel_rfl);refine O0a rfl _ _ 5 _ rfl Tryz.underlying93 ([.slice A0 2 c0,.slice Ap 2 cp,.slice A2 16 c2,.slice Aq 2 cq,.slice A4 2 c4]:List Value) (by simp only[List.map_toArray,List.map_cons,List.map_nil,e43,e44,e50,e51,e52];kernel_rfl) ?_;intro g2 w2 _ _ hY hL;exact hK _ _ (hst.out _ _ s hL.out) hL.out ⟨_,[(A0,2,c0,[a.lev,a.dur]),(Ap,2,cp,m2),(A2,16,c2,fs),(Aq,2,cq,k2),(A4,2,c4,(List.replicate 2 0))],rfl,o4a.of_blk _ hY.out (List.forall_mem_cons.2 ⟨h0.over hL.out,List.forall_mem_cons.2 ⟨s.2.2.1.over hL.out,List.forall_mem_cons.2 ⟨h2.over hL.out,List.forall_mem_cons.2 ⟨s.2.2.2.over hL.out,List.forall_mem_cons.2 ⟨h4.over hL.out,λ_ h=>absurd h List.not_mem_nil⟩⟩⟩⟩⟩),by show 0+2+2+16+2+2<=_;omega,by simp[E7a,d4a,List.append_assoc]⟩
    ·obtain⟨g5,l5,e5,hp5,hn5,hc5⟩:=hd (14,53) (by simp) (by kernel_rfl);simp only[Act.eval,Array.getD_eq_getD_getElem?] at e5;go_simp;refine(CC.out _ g5 5 _ _ _ _ hp5 (by omega) (by omega)).mono ?_;rintro e w2 ⟨v,rfl,hY,hL⟩;exact hK _ _ (hst.out _ _ s hL) hL (by rw[<-hc5];exact hY.mono s.2.1.size)
    ·have h15:(H2b 5 w.heap.size ([a.lev,a.dur]++(m2++(fs++(k2++((List.replicate 2 0))))))) (b.eval (.tmp 54)) w1:=hd (15,54) (by simp) (by kernel_rfl);simp only[Act.eval,Array.getD_eq_getD_getElem?] at h15;go_simp;exact hK _ _ s (Below.refl _ _) h15
    ·go_simp;exact hK _ _ s (Below.refl _ _) rfl
   ·intro vs w9 s hv;have OUT0:X0a .u8 5 w9 w.heap.size (vs 4) ([a.lev,a.dur]++(m2++(fs++(k2++((List.replicate 2 0)))))):=hv (16,4) (by simp);obtain⟨v,hv16⟩:∃x,x=vs 4:=⟨_,rfl⟩;rw[<-hv16] at OUT0;have OUT:=hI OUT0;have hv17:vs 5=.int .i64 0:=hv (17,5) (by simp);have S9:=hI s.1;have b9:=hI s.2.1;have mM_9:=hI s.2.2.1;have kK_9:=hI s.2.2.2;subst hfr1;simp only[List.foldl_cons,List.foldl_nil,<-hv16,hv17];obtain⟨y43,hy0⟩:∃x,x=vs 43:=⟨_,rfl⟩;rw[<-hy0];clear hy0;obtain⟨y49,hy0⟩:∃x,x=vs 49:=⟨_,rfl⟩;rw[<-hy0];clear hy0;obtain⟨y50,hy0⟩:∃x,x=vs 50:=⟨_,rfl⟩;rw[<-hy0];clear hy0;obtain⟨y52,hy0⟩:∃x,x=vs 52:=⟨_,rfl⟩;rw[<-hy0];clear hy0;obtain⟨y53,hy0⟩:∃x,x=vs 53:=⟨_,rfl⟩;rw[<-hy0];clear hy0;obtain⟨y54,hy0⟩:∃x,x=vs 54:=⟨_,rfl⟩;rw[<-hy0];clear hy0;clear hv s vs hst S0 hv16 OUT0 hv17 f40 f42 f44 f46 f48 f51;go_simp;have HO6:=hI (OUT.out);go_wp2;go_ret2;refine HQ.out _ _ _ rfl ?_ b9.out;have h9:=HO6.out;simpa[E7a,d4a,List.append_assoc] using h9
 ·subst h6;have HQ:=HQ0;have hb0:M2a 6 a=List.replicate 4 0:=rfl;rw[hb0] at HQ;clear HQ0 hb0;go_enter Tryz.func86,Tryz.ntmps86;go_wp2_with(first
   | ((with_reducible refine sN 3 ?_);refine f0a rfl _ (.tmp 1) rfl cs rfl ?_;intro g w1 hg1 hg2 K1 L1)
   | ((with_reducible refine sN 9 ?_);refine e0a rfl _ (.tmp 3) rfl g rfl _ cs K1 20 _ Tryz.underlying39 rfl s0a HL ?_)
   | fail)
  refine(CN.out w1 L1.out).mono ?_;rintro e w2 ⟨rfl,L2⟩;have K2:=hI (K1.out.over L2);have M2':=hI (step L1.out L2);obtain⟨c15,c12,c14⟩:=FL.out w2 g K2.out;clear L2 K1 L1 CN;go_wp2_with(at_make;refine H1a _ rfl _ _ rfl _ _ 4 rfl rfl rfl rfl (by omega) ?_;intro w6 R6 L6);go_ret2;exact HQ.out _ _ _ rfl (U5a R6.out M2'.out.size (by omega)) (step M2'.out L6)
 ·subst h7;have HQ:=HQ0;have hb0:M2a 7 a=List.replicate 4 0:=rfl;rw[hb0] at HQ;clear HQ0 hb0;go_enter Tryz.func86,Tryz.ntmps86;go_wp2_with(first
   | ((with_reducible refine sN 3 ?_);refine f0a rfl _ (.tmp 1) rfl cs rfl ?_;intro g w1 hg1 hg2 K1 L1)
   | ((with_reducible refine sN 9 ?_);refine e0a rfl _ (.tmp 3) rfl g rfl _ cs K1 20 _ Tryz.underlying39 rfl s0a HL ?_)
   | fail)
  refine(CN.out w1 L1.out).mono ?_;rintro e w2 ⟨rfl,L2⟩;have K2:=hI (K1.out.over L2);have M2':=hI (step L1.out L2);obtain⟨c15,c12,c14⟩:=FL.out w2 g K2.out;clear L2 K1 L1 CN;go_wp2_with(at_make;refine H1a _ rfl _ _ rfl _ _ 4 rfl rfl rfl rfl (by omega) ?_;intro w6 R6 L6);go_ret2;exact HQ.out _ _ _ rfl (U5a R6.out M2'.out.size (by omega)) (step M2'.out L6)
 ·subst h8;have HQ:=HQ0;have hb0:M2a 8 a=le (X2:Int) 4++a.data:=by unfold M2a;rw[if_neg (by decide),if_pos rfl,HX.out.len]
  rw[hb0] at HQ;have CN4:Hid (∀(w:World) (gl:Nat),Blk w gl 25 [.int .u64 (X2:Int)]->Calls Tryz.prog 121 #[.int .i64 4,.slice (some ⟨gl,0,none⟩) 1 1] w λe w'=>∃A' c',e=.returned (.slice A' 4 c')/\(X0a .u8 5 w' w.heap.size (.slice A' 4 c') (le (X2:Int) 4)/\Holds w' w'.heap.size A' 4 c' (le (X2:Int) 4))/\Below w.heap.size w w'):=λw gl hB=>by
   have h:=v4a w gl 1 4 ([(X2:Int)]:List Int) hB rfl (by decide) (by decide) (λz hz=>by rw[show(256:Int)^4=4294967296 from by decide];simp only[List.mem_cons,List.not_mem_nil,or_false] at hz;rw[hz];omega)
   have e1:q2a 4 ([(X2:Int)]:List Int)=le (X2:Int) 4:=by simp[q2a]
   rw[e1] at h;have e2:(le (X2:Int) 4).length=4:=by simp[g0a]
   rw[e2] at h;exact h
  obtain⟨n4,hn4⟩:∃x,x=le (X2:Int) 4:=⟨_,rfl⟩;rw[<-hn4] at CN4 HQ;clear hn4 HQ0 hb0;go_enter Tryz.func86,Tryz.ntmps86;go_wp2_with(first
   | ((with_reducible refine sN 3 ?_);refine f0a rfl _ (.tmp 1) rfl cs rfl ?_;intro g w1 hg1 hg2 K1 L1)
   | ((with_reducible refine sN 9 ?_);refine e0a rfl _ (.tmp 3) rfl g rfl _ cs K1 20 _ Tryz.underlying39 rfl s0a HL ?_)
   | fail)
  refine(CN.out w1 L1.out).mono ?_;rintro e w2 ⟨rfl,L2⟩;have K2:=hI (K1.out.over L2);have M2':=hI (step L1.out L2);obtain⟨c15,c12,c14⟩:=FL.out w2 g K2.out;clear L2 K1 L1 CN;have HXD:=hI (HX.out.over M2'.out);go_upto_region 10 with fail
  have hst:Hid (∀w1 w2:World,(Blk w1 g 39 cs/\Below w.heap.size w w1/\Holds w1 w1.heap.size X1 X2 X3 a.data)->Below w1.heap.size w1 w2->(Blk w2 g 39 cs/\Below w.heap.size w w2/\Holds w2 w2.heap.size X1 X2 X3 a.data)):=λw1 w2 s hb=>⟨s.1.over hb,step s.2.1 hb,s.2.2.over hb⟩
  refine wp_region_held (S:=λw'=>Blk w' g 39 cs/\Below w.heap.size w w'/\Holds w' w'.heap.size X1 X2 X3 a.data) (by kernel_rfl) ?_;change wpAnyH _ _ _ _ _ _ _ _ w2.drew
  have S0:Hid (Blk w2.drew g 39 cs/\Below w.heap.size w w2.drew/\Holds w2.drew w2.drew.heap.size X1 X2 X3 a.data):=⟨K2.out.drew,M2'.out.drew,HXD.out.drew⟩;refine tK 0 _ rfl (w0a (by kernel_rfl) _ (.tmp 3) 8 rfl (.pointer (some ⟨g,0,none⟩)) (.pointer (some ⟨g,15,none⟩)) (by kernel_rfl) (f5a g)) S0.out ?_;refine tK 1 _ rfl (l0a (by kernel_rfl) _ (.tmp 57) rfl g 15 (by kernel_rfl) (.slice X1 X2 X3) (λw h=>(FL.out w g h.1).1) _ Tryz.underlying31 rfl) S0.out ?_;refine tK 2 ((.int .i64 (X2:Int))) rfl (.inl ⟨by kernel_rfl,λw _=>by go_simp⟩) S0.out ?_;refine tK 3 ((.int .u64 (X2:Int))) rfl (.inl ⟨by kernel_rfl,λw _=>by go_simp⟩) S0.out ?_;refine tK 6 _ rfl (w0a (by kernel_rfl) _ (.tmp 3) 8 rfl (.pointer (some ⟨g,0,none⟩)) (.pointer (some ⟨g,15,none⟩)) (by kernel_rfl) (f5a g)) S0.out ?_;refine tK 7 _ rfl (l0a (by kernel_rfl) _ (.tmp 63) rfl g 15 (by kernel_rfl) (.slice X1 X2 X3) (λw h=>(FL.out w g h.1).1) _ Tryz.underlying31 rfl) S0.out ?_;refine t2a λfr1 hfr1=>?_
  have f60:fr1.eval (.tmp 60)=.int .u64 (X2:Int):=by rw[hfr1];kernel_rfl
  have f64:fr1.eval (.tmp 64)=.slice X1 X2 X3:=by rw[hfr1];kernel_rfl
  refine T3a [(4,61),(5,62),(8,65),(9,66),(10,4),(11,5)] (λi=>match i with
   | 4=>u7b 1 25 [.int .u64 (X2:Int)]
   | 5=>rowP 4 n4
   | 8=>U9a 2 (n4++a.data)
   | 9=>H2b 5 w.heap.size (n4++a.data)
   | 10=>H2b 5 w.heap.size (n4++a.data)
   | 11=>isP (.int .i64 0)
   | _=>λ_ _=>True) fr1 (by rw[hfr1];kernel_rfl) (Nat.le_of_ble_eq_true (by kernel_rfl)) S0.out ?_ ?_ ?_
  ·intro i v w1 w2 hb h;split at h;all_goals first | exact l5a hb h | exact m5a hb h | exact U3a hb h | exact n5a hb h | exact h
  ·refine List.forall_mem_cons.2 ⟨⟨_,rfl,λb w1 s hev hd K hK=>?_⟩,List.forall_mem_cons.2 ⟨⟨_,rfl,λb w1 s hev hd K hK=>?_⟩,List.forall_mem_cons.2 ⟨⟨_,rfl,λb w1 s hev hd K hK=>?_⟩,List.forall_mem_cons.2 ⟨⟨_,rfl,λb w1 s hev hd K hK=>?_⟩,List.forall_mem_cons.2 ⟨⟨_,rfl,λb w1 s hev hd K hK=>?_⟩,List.forall_mem_cons.2 ⟨⟨_,rfl,λb w1 s hev hd K hK=>?_⟩,λ_ h=>absurd h List.not_mem_nil⟩⟩⟩⟩⟩⟩
   ·have e60:=(hev 60 (by decide)).trans f60;refine O0a rfl _ _ 1 _ rfl Tryz.underlying192 ([.int .u64 (X2:Int)]:List Value) (by simp only[List.map_toArray,List.map_cons,List.map_nil,e60];kernel_rfl) ?_;intro g2 w2 _ _ hY hL;exact hK _ _ (hst.out _ _ s hL.out) hL.out ⟨_,rfl,hY.out⟩
   ·obtain⟨g4,e4,hB⟩:=hd (4,61) (by simp) (by kernel_rfl);simp only[Act.eval,Array.getD_eq_getD_getElem?] at e4;go_simp;refine(CN4.out _ _ hB).mono ?_;rintro e w2 ⟨A,c,rfl,⟨_,hY⟩,hL⟩;exact hK _ _ (hst.out _ _ s hL) hL ⟨_,_,rfl,hY⟩
   ·obtain⟨A0,c0,e62,h0⟩:=hd (5,62) (by simp) (by kernel_rfl);have e64:=(hev 64 (by decide)).trans f64;refine O0a rfl _ _ 2 _ rfl Tryz.underlying93 ([.slice A0 4 c0,.slice X1 X2 X3]:List Value) (by simp only[List.map_toArray,List.map_cons,List.map_nil,e62,e64];kernel_rfl) ?_;intro g2 w2 _ _ hY hL;exact hK _ _ (hst.out _ _ s hL.out) hL.out ⟨_,[(A0,4,c0,n4),(X1,X2,X3,a.data)],rfl,o4a.of_blk _ hY.out (List.forall_mem_cons.2 ⟨h0.over hL.out,List.forall_mem_cons.2 ⟨s.2.2.over hL.out,λ_ h=>absurd h List.not_mem_nil⟩⟩),by show 0+4+X2<=_;omega,by simp[E7a,d4a,List.append_assoc]⟩
   ·obtain⟨g5,l5,e5,hp5,hn5,hc5⟩:=hd (8,65) (by simp) (by kernel_rfl);simp only[Act.eval,Array.getD_eq_getD_getElem?] at e5;go_simp;refine(CC.out _ g5 2 _ _ _ _ hp5 (by omega) (by omega)).mono ?_;rintro e w2 ⟨v,rfl,hY,hL⟩;exact hK _ _ (hst.out _ _ s hL) hL (by rw[<-hc5];exact hY.mono s.2.1.size)
   ·have h15:(H2b 5 w.heap.size (n4++a.data)) (b.eval (.tmp 66)) w1:=hd (9,66) (by simp) (by kernel_rfl);simp only[Act.eval,Array.getD_eq_getD_getElem?] at h15;go_simp;exact hK _ _ s (Below.refl _ _) h15
   ·go_simp;exact hK _ _ s (Below.refl _ _) rfl
  ·intro vs w9 s hv;have OUT0:X0a .u8 5 w9 w.heap.size (vs 4) (n4++a.data):=hv (10,4) (by simp);obtain⟨v,hv10⟩:∃x,x=vs 4:=⟨_,rfl⟩;rw[<-hv10] at OUT0;have OUT:=hI OUT0;have hv11:vs 5=.int .i64 0:=hv (11,5) (by simp);have S9:=hI s.1;have b9:=hI s.2.1;have HD_9:=hI s.2.2;subst hfr1;simp only[List.foldl_cons,List.foldl_nil,<-hv10,hv11];obtain⟨y61,hy0⟩:∃x,x=vs 61:=⟨_,rfl⟩;rw[<-hy0];clear hy0;obtain⟨y62,hy0⟩:∃x,x=vs 62:=⟨_,rfl⟩;rw[<-hy0];clear hy0;obtain⟨y65,hy0⟩:∃x,x=vs 65:=⟨_,rfl⟩;rw[<-hy0];clear hy0;obtain⟨y66,hy0⟩:∃x,x=vs 66:=⟨_,rfl⟩;rw[<-hy0];clear hy0;clear hv s vs hst S0 hv10 OUT0 hv11 f60 f64;go_simp;have HO6:=hI (OUT.out);go_wp2;go_ret2;refine HQ.out _ _ _ rfl ?_ b9.out;have h9:=HO6.out;simpa[E7a,d4a,List.append_assoc] using h9
 ·subst h9;have HQ:=HQ0;have hb0:M2a 9 a=le a.n 4:=rfl;rw[hb0] at HQ;have CN4:Hid (∀(w:World) (gl:Nat),Blk w gl 25 [.int .u64 a.n]->Calls Tryz.prog 121 #[.int .i64 4,.slice (some ⟨gl,0,none⟩) 1 1] w λe w'=>∃A' c',e=.returned (.slice A' 4 c')/\(X0a .u8 5 w' w.heap.size (.slice A' 4 c') (le a.n 4)/\Holds w' w'.heap.size A' 4 c' (le a.n 4))/\Below w.heap.size w w'):=λw gl hB=>by
   have h:=v4a w gl 1 4 ([a.n]:List Int) hB rfl (by decide) (by decide) (λz hz=>by rw[show(256:Int)^4=4294967296 from by decide];simp only[List.mem_cons,List.not_mem_nil,or_false] at hz;rw[hz];omega)
   have e1:q2a 4 ([a.n]:List Int)=le a.n 4:=by simp[q2a]
   rw[e1] at h;have e2:(le a.n 4).length=4:=by simp[g0a]
   rw[e2] at h;exact h
  obtain⟨n4,hn4⟩:∃x,x=le a.n 4:=⟨_,rfl⟩;rw[<-hn4] at CN4 HQ;clear hn4 HQ0 hb0;go_enter Tryz.func86,Tryz.ntmps86;go_wp2_with(first
   | ((with_reducible refine sN 3 ?_);refine f0a rfl _ (.tmp 1) rfl cs rfl ?_;intro g w1 hg1 hg2 K1 L1)
   | ((with_reducible refine sN 9 ?_);refine e0a rfl _ (.tmp 3) rfl g rfl _ cs K1 20 _ Tryz.underlying39 rfl s0a HL ?_)
   | fail)
  refine(CN.out w1 L1.out).mono ?_;rintro e w2 ⟨rfl,L2⟩;have K2:=hI (K1.out.over L2);have M2':=hI (step L1.out L2);obtain⟨c15,c12,c14⟩:=FL.out w2 g K2.out;clear L2 K1 L1 CN;obtain⟨e1,e10,e11,e12,e13,e14,e16⟩:=FC.out w2 g K2.out;go_wp2_with(first
   | ((with_reducible refine sN 72 ?_);refine s1a rfl _ _ 1 _ rfl Tryz.underlying192 ([.int .u64 a.n]:List Value) (by kernel_rfl) ?_;intro g3 w3 hg5 hg6 Y3 L3)
   | fail)
  refine(CN4.out w3 g3 Y3.out).mono ?_;rintro e w4 ⟨Af,cf,rfl,⟨hOf,hHf⟩,L4⟩;have OF:=hI (X0a.mono hOf (Nat.le_trans M2'.out.size L3.out.size));have M4:=hI (step (step M2'.out L3.out) L4);clear hOf hHf L4 L3 Y3;go_wp2;go_ret2;exact HQ.out _ _ _ rfl OF.out M4.out
 ·subst h10;have HQ:=HQ0;have hb0:M2a 10 a=List.replicate 4 0:=rfl;rw[hb0] at HQ;clear HQ0 hb0;go_enter Tryz.func86,Tryz.ntmps86;go_wp2_with(first
   | ((with_reducible refine sN 3 ?_);refine f0a rfl _ (.tmp 1) rfl cs rfl ?_;intro g w1 hg1 hg2 K1 L1)
   | ((with_reducible refine sN 9 ?_);refine e0a rfl _ (.tmp 3) rfl g rfl _ cs K1 20 _ Tryz.underlying39 rfl s0a HL ?_)
   | fail)
  refine(CN.out w1 L1.out).mono ?_;rintro e w2 ⟨rfl,L2⟩;have K2:=hI (K1.out.over L2);have M2':=hI (step L1.out L2);obtain⟨c15,c12,c14⟩:=FL.out w2 g K2.out;clear L2 K1 L1 CN;go_wp2_with(at_make;refine H1a _ rfl _ _ rfl _ _ 4 rfl rfl rfl rfl (by omega) ?_;intro w6 R6 L6);go_ret2;exact HQ.out _ _ _ rfl (U5a R6.out M2'.out.size (by omega)) (step M2'.out L6)
end Go.Proofs.YtgfflnjggnadpaaGreatDoor
