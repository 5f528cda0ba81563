import Derived.Test.YtgfflnjggnadpaaGreatDoorZAD
import Derived.Test.YtgfflnjggnadpaaGreatDoorS0
set_option linter.all false
set_option maxHeartbeats 8000000
set_option maxRecDepth 100000
namespace Go.Proofs.YtgfflnjggnadpaaGreatDoor
set_option maxRecDepth 100000
def Z7a(c:Int):Bool:=decide (c=12)||(decide (c=14)||(decide (16<=c)&&decide (c<=18)))
def G5a(c:Int):Bool:=decide (c=14)||(decide (16<=c)&&decide (c<=18))
def V0a(b:Bool):Int:=if b=true then 1 else 0
def E6a(e:y1a):List Int:=le e.kind 2++(List.replicate 2 0++(le e.size 8++A0a e.name.data.toList))
def W0a:List y1a->List Int
 | []=>[]
 | e::r=>E6a e++W0a r
def w1a:List y1a->Int
 | []=>0
 | e::r=>if y0a e.name.data.toList=0 then w1a r else y0a e.name.data.toList
def w3a(e:y1a):Bool:=decide (e.kind<=2)&&(decide (0<=e.size)&&decide (e.size<=1048576))
def S8a(a:m1a):Bool:=decide (1<=a.cls)&&decide (a.cls<=3)
def s2a(c:Int)(a:m1a):m1a:=
 if c=14 then { a with file:=0,most:=0,pat:=.empty,aft:=.empty }
 else if c=16 then { a with file:=0 }
 else if c=17 then (if a.cls=1 then { a with siz:=0,file:=0,cls:=0 } else if a.cls=2 then { a with on:=false,file:=0,cls:=0 } else { a with on:=false,name:=.empty,file:=0,cls:=0 })
 else if c=18 then { a with file:=0,lev:=0 }
 else a
def c2b(c:Int)(a:m1a):m1a:=
 if c=14 then { i0a with file:=a.file,most:=a.most,pat:=a.pat,aft:=a.aft }
 else if c=16 then { i0a with file:=a.file }
 else if c=17 then (if a.cls=1 then { i0a with file:=a.file,cls:=a.cls,siz:=a.siz } else if a.cls=2 then { i0a with file:=a.file,cls:=a.cls,on:=a.on } else { i0a with file:=a.file,cls:=a.cls,on:=a.on,name:=a.name })
 else if c=18 then { i0a with file:=a.file,lev:=a.lev }
 else i0a
def h4a(c:Int)(a:m1a):Bool:=Z7a c&&((!decide (c=17)||S8a a)&&decide (s2a c a=i0a))
def q4a(c:Int)(a:m1a):Int:=if h4a c a=true then (if c=14 then (if y0a a.pat.data.toList=0 then y0a a.aft.data.toList else y0a a.pat.data.toList) else if c=17/\a.cls=3 then y0a a.name.data.toList else 0) else 2
def x3a(c:Int)(a:m1a):List Int:=
 if c=14 then le a.file 8++(le a.most 2++(List.replicate 2 0++(A0a a.pat.data.toList++A0a a.aft.data.toList)))
 else if c=16 then le a.file 8
 else if c=17 then (if a.cls=1 then le a.file 8++(le a.cls 2++le a.siz 8) else if a.cls=2 then le a.file 8++(le a.cls 2++le (V0a a.on) 2) else le a.file 8++(le a.cls 2++(le (V0a a.on) 2++A0a a.name.data.toList)))
 else if c=18 then le a.file 8++(le a.lev 1++List.replicate 3 0)
 else List.replicate 4 0
def i9a(c:Int)(a:m1a):List Int:=if q4a c a=0 then x3a c a else []
def a3a(c:Int)(s:M1a):M1a:=
 if c=14 then { s with ents:=[],more:=false }
 else if c=16 then { s with siz:=0,kind:=0,gone:=false }
 else if c=18 then { s with file:=0,lev:=0 }
 else s
def T5b(c:Int)(s:M1a):M1a:=
 if c=14 then { q0a with ents:=s.ents,more:=s.more }
 else if c=16 then { q0a with siz:=s.siz,kind:=s.kind,gone:=s.gone }
 else if c=18 then { q0a with file:=s.file,lev:=s.lev }
 else q0a
def L3a(c:Int)(s:M1a):Bool:=G5a c&&decide (a3a c s=q0a)
def N4a(c:Int)(s:M1a):Int:=if L3a c s=true/\s.kind<=2/\s.ents.all w3a=true then (if s.ents.length<=64 then (if c=14 then w1a s.ents else 0) else 3) else 2
def e3a(c:Int)(s:M1a):List Int:=
 if c=14 then le s.ents.length 2++(le (V0a s.more) 2++W0a s.ents)
 else if c=16 then le s.siz 8++(le s.kind 2++le (V0a s.gone) 2)
 else if c=18 then le s.file 8++(le s.lev 1++List.replicate 3 0)
 else List.replicate 4 0
def A1b(c:Int)(s:M1a):List Int:=if N4a c s=0 then e3a c s else []
def rdT(xs:List Int)(r:Rd):Int×Rd:=b1a xs 2 1 5 r
def rdK(xs:List Int)(r:Rd):Int×Rd:=b1a xs 2 2 5 r
def V2a(e:Int)(r:Rd):Rd:=if r.e=0 then ⟨r.p,e⟩ else r
def e1(xs:List Int)(r:Rd):=rdK xs r
def e2(xs:List Int)(r:Rd):=rdZ xs 2 (e1 xs r).2
def e3(xs:List Int)(r:Rd):=b1a xs 8 1048576 5 (e2 xs r)
def e4(xs:List Int)(r:Rd):=L1a xs (e3 xs r).2
def i4a(xs:List Int)(r:Rd):y1a×Rd:=(⟨⟨(e4 xs r).1.toArray⟩,(e1 xs r).1,(e3 xs r).1⟩,(e4 xs r).2)
def V1a(xs:List Int)(r:Rd):Nat->List y1a×Rd
 | 0=>([],r)
 | k+1=>((V1a xs r k).1++[(i4a xs (V1a xs r k).2).1],(i4a xs (V1a xs r k).2).2)
def l1(xs:List Int):=rdN xs 8 rd0
def l2(xs:List Int):=rdN xs 2 (l1 xs).2
def l3(xs:List Int):=rdZ xs 2 (l2 xs).2
def l4(xs:List Int):=L1a xs (l3 xs)
def l5(xs:List Int):=L1a xs (l4 xs).2
def t3(xs:List Int):=rdN xs 8 (l2 xs).2
def t4(xs:List Int):=rdT xs (l2 xs).2
def t5(xs:List Int):=L1a xs (t4 xs).2
def k2(xs:List Int):=rdN xs 1 (l1 xs).2
def k3(xs:List Int):=rdZ xs 3 (k2 xs).2
def igP(c:Int)(xs:List Int):m1a×Rd:=
 if c=14 then ({ i0a with file:=(l1 xs).1,most:=(l2 xs).1,pat:=⟨(l4 xs).1.toArray⟩,aft:=⟨(l5 xs).1.toArray⟩ },(l5 xs).2)
 else if c=16 then ({ i0a with file:=(l1 xs).1 },(l1 xs).2)
 else if c=17 then (if (l2 xs).1=1 then ({ i0a with file:=(l1 xs).1,cls:=(l2 xs).1,siz:=(t3 xs).1 },(t3 xs).2)
  else if (l2 xs).1=2 then ({ i0a with file:=(l1 xs).1,cls:=(l2 xs).1,on:=(t4 xs).1 != 0 },(t4 xs).2)
  else if (l2 xs).1=3 then ({ i0a with file:=(l1 xs).1,cls:=(l2 xs).1,on:=(t4 xs).1 != 0,name:=⟨(t5 xs).1.toArray⟩ },(t5 xs).2)
  else ({ i0a with file:=(l1 xs).1,cls:=(l2 xs).1 },V2a 5 (l2 xs).2))
 else if c=18 then ({ i0a with file:=(l1 xs).1,lev:=(k2 xs).1 },k3 xs)
 else (i0a,rdZ xs 4 rd0)
def Y3a(c:Int)(xs:List Int):Int:=if Z7a c=true then H0a xs (igP c xs).2 else 2
def F6a(c:Int)(xs:List Int):m1a:=if Y3a c xs=0 then (igP c xs).1 else i0a
def m1(xs:List Int):=b1a xs 2 64 3 rd0
def m2(xs:List Int):=rdT xs (m1 xs).2
def m3(xs:List Int):=V1a xs (m2 xs).2 (m1 xs).1.toNat
def g2(xs:List Int):=rdK xs (l1 xs).2
def g3(xs:List Int):=rdT xs (g2 xs).2
def jgP(c:Int)(xs:List Int):M1a×Rd:=
 if c=14 then ({ q0a with ents:=(m3 xs).1,more:=(m2 xs).1 != 0 },(m3 xs).2)
 else if c=16 then ({ q0a with siz:=(l1 xs).1,kind:=(g2 xs).1,gone:=(g3 xs).1 != 0 },(g3 xs).2)
 else if c=18 then ({ q0a with file:=(l1 xs).1,lev:=(k2 xs).1 },k3 xs)
 else (q0a,rdZ xs 4 rd0)
def t5a(c:Int)(xs:List Int):Int:=if G5a c=true then H0a xs (jgP c xs).2 else 2
def L9a(c:Int)(xs:List Int):M1a:=if t5a c xs=0 then (jgP c xs).1 else q0a
theorem F4a{c:Int}(h:Z7a c=true):c=12∨c=14∨c=16∨c=17∨c=18:=by unfold Z7a at h;simp at h;omega
theorem j4a{c:Int}(h:G5a c=true):c=14∨c=16∨c=17∨c=18:=by unfold G5a at h;simp at h;omega
theorem T8a(b:Bool):0<=V0a b/\V0a b<=1:=by cases b<;>decide
theorem q8b{v:Int}(h0:0<=v)(h1:v<=1):V0a (v != 0)=v:=by rcases(show v=0∨v=1 from by omega) with rfl | rfl<;>rfl
theorem y2b{xs:List Int}{r:Rd}(k:Nat):(V1a xs r k).1.length=k:=by
 induction k with
 | zero=>rfl
 | succ k ih=>simp[V1a,ih]
theorem I0c{xs:List Int}(hx:Bytes xs)(r:Rd):0<=(rdT xs r).1/\(rdT xs r).1<=1:=d3a hx 2 1 5 r (by decide) (by decide)
theorem r8b{xs:List Int}(hx:Bytes xs)(r:Rd):0<=(rdK xs r).1/\(rdK xs r).1<=2:=d3a hx 2 2 5 r (by decide) (by decide)
theorem U5b{xs:List Int}(hx:Bytes xs)(r:Rd):(i4a xs r).1.ok/\w3a (i4a xs r).1=true:=by
 have h1:=r8b hx r;have h2:=d3a hx 8 1048576 5 (e2 xs r) (by decide) (by decide);refine⟨⟨?_,?_⟩,?_⟩
 ·show 0<=(rdK xs r).1/\(rdK xs r).1<=255;omega
 ·show -9223372036854775808<=(b1a xs 8 1048576 5 (e2 xs r)).1/\(b1a xs 8 1048576 5 (e2 xs r)).1<=9223372036854775807;omega
 ·unfold w3a;show(decide ((rdK xs r).1<=2)&&(decide (0<=(b1a xs 8 1048576 5 (e2 xs r)).1)&&decide ((b1a xs 8 1048576 5 (e2 xs r)).1<=1048576)))=true
  simp[h1.2,h2.1,h2.2]
theorem s8b{xs:List Int}(hx:Bytes xs)(r:Rd)(k:Nat):(∀l∈(V1a xs r k).1,l.ok)/\(V1a xs r k).1.all w3a=true:=by
 induction k with
 | zero=>exact⟨(λl h=>by cases h),rfl⟩
 | succ k ih=>
  refine⟨λl h=>?_,?_⟩
  ·rcases List.mem_append.1 h with h | h
   ·exact ih.1 l h
   ·rw[List.mem_singleton.1 h];exact(U5b hx _).1
  ·show((V1a xs r k).1++[(i4a xs (V1a xs r k).2).1]).all w3a=true
   rw[List.all_append,ih.2,List.all_cons,(U5b hx _).2];rfl
theorem C5a(a b:List y1a):W0a (a++b)=W0a a++W0a b:=by
 induction a with
 | nil=>rfl
 | cons x r ih=>simp only[List.cons_append,W0a,ih,List.append_assoc]
theorem B1b(a b:List y1a):w1a (a++b)=if w1a a=0 then w1a b else w1a a:=by
 induction a with
 | nil=>rfl
 | cons x r ih=>
  by_cases h:y0a x.name.data.toList=0
  ·have e1:w1a (x::r)=w1a r:=by show(if _ then _ else _)=_;rw[if_pos h]
   have e2:w1a (x::(r++b))=w1a (r++b):=by show(if _ then _ else _)=_;rw[if_pos h]
   rw[List.cons_append,e1,e2,ih]
  ·have e1:w1a (x::r)=y0a x.name.data.toList:=by show(if _ then _ else _)=_;rw[if_neg h]
   have e2:w1a (x::(r++b))=y0a x.name.data.toList:=by show(if _ then _ else _)=_;rw[if_neg h]
   rw[List.cons_append,e1,e2,if_neg h]
theorem m4b(e:y1a):Bytes (E6a e):=(F0a _ _).append ((Bytes.zeros 2).append ((F0a _ _).append (b2a _)))
theorem d2b(l:List y1a):Bytes (W0a l):=by
 induction l with
 | nil=>exact Bytes.nil
 | cons a r ih=>exact(m4b a).append ih
theorem t8b(e:y1a):(E6a e).length<=600:=by have:=k3a e.name.data.toList;unfold E6a;simp only[List.length_append,g0a,List.length_replicate];omega
theorem C1b(l:List y1a):(W0a l).length<=600*l.length:=by
 induction l with
 | nil=>exact Nat.le_refl _
 | cons a r ih=>have:=t8b a;simp only[W0a,List.length_append,List.length_cons];omega
open Go.RowKit
structure J5a where
 h:Hd
 a:m1a
 s:M1a
structure J5a.ok (m:J5a):Prop where
 h:m.h.ok
 a:m.a.ok
 s:m.s.ok
def m3a(f:Int):Bool:=decide (f%2=1)
def N7a(h:Hd):Int:=if m3a h.fl=true/\h.st≠0 then 13 else h.cm
def pae(c:Int)(a:m1a):Int:=if U0a c=true then k1a c a else if c<=10 then I6a c a else q4a c a
def pao(c:Int)(a:m1a):List Int:=if U0a c=true then H2a c a else if c<=10 then t1b c a else i9a c a
def pse(c:Int)(s:M1a):Int:=if U0a c=true then z1a c s else if c<=10 then q6a c s else N4a c s
def pso(c:Int)(s:M1a):List Int:=if U0a c=true then L2a c s else if c<=10 then u2b c s else A1b c s
def gae(c:Int)(xs:List Int):Int:=if U0a c=true then A2a c xs else if c<=10 then h5a c xs else Y3a c xs
def gao(c:Int)(xs:List Int):m1a:=if U0a c=true then B2a c xs else if c<=10 then n0b c xs else F6a c xs
def gse(c:Int)(xs:List Int):Int:=if U0a c=true then t3a c xs else if c<=10 then s5a c xs else t5a c xs
def gso(c:Int)(xs:List Int):M1a:=if U0a c=true then K3a c xs else if c<=10 then o0b c xs else L9a c xs
def T1b(n:Nat):Nat:=(8-n%8)%8
def K6a(m:J5a):Int:=if m3a m.h.fl=true then (if k1a 13 m.a=0 then pse (N7a m.h) m.s else 2) else (if z1a 13 m.s=0 then pae (N7a m.h) m.a else 2)
def u6a(m:J5a):List Int:=if K6a m=0 then (if m3a m.h.fl=true then pso (N7a m.h) m.s else pao (N7a m.h) m.a) else []
def W4a(m:J5a):Int:=if r0b m.h=true then K6a m else 2
def Q4a(h:Hd)(b:List Int):List Int:=if h.nx=0 then b else b++List.replicate (T1b b.length) 0
def f6a(m:J5a):List Int:=if W4a m=0 then e6a m.h++Q4a m.h (u6a m) else []
def G4a(h:Hd)(xs:List Int):Int:=if m3a h.fl=true then (if gse (N7a h) xs=2 then 5 else gse (N7a h) xs) else gae (N7a h) xs
def gbA(h:Hd)(xs:List Int):m1a:=if m3a h.fl=true then i0a else gao (N7a h) xs
def gbS(h:Hd)(xs:List Int):M1a:=if m3a h.fl=true then gso (N7a h) xs else q0a
def L6a(xs:List Int)(n:Nat):Bool:=decide (xs.drop (xs.length-n)=List.replicate n 0)
def K4b(h:Hd)(xs:List Int)(n:Nat):Bool:=L6a xs n&&(decide (T1b (xs.length-n)=n)&&decide (G4a h (xs.take (xs.length-n))=0))
def atN(h:Hd)(xs:List Int):Option Nat:=(List.range 8).find? (K4b h xs)
def p0b(h:Hd)(xs:List Int):Int:=if h.nx=0 then G4a h xs else if (atN h xs).isSome=true then 0 else if G4a h xs=0 then 5 else G4a h xs
def e2b(h:Hd)(xs:List Int):List Int:=if h.nx=0 then xs else xs.take (xs.length-(atN h xs).getD 0)
def q0b(xs:List Int):Int:=if m2a xs 0=0 then p0b (l2a xs 0) (xs.drop 64) else m2a xs 0
def f1c:J5a:=⟨N1a,i0a,q0a⟩
def n4b(xs:List Int):J5a:=if q0b xs=0 then ⟨l2a xs 0,gbA (l2a xs 0) (e2b (l2a xs 0) (xs.drop 64)),gbS (l2a xs 0) (e2b (l2a xs 0) (xs.drop 64))⟩ else f1c
theorem q3b(n:Nat):T1b n<8:=Nat.mod_lt _ (by decide)
theorem S6b(h:Hd)(b:List Int):(Q4a h b).length<=b.length+7:=by
 unfold Q4a;have:=q3b b.length;split
 ·omega
 ·simp only[List.length_append,List.length_replicate];omega
theorem u8b(x:Int)(h0:0<=x)(h1:x<=4294967295):(bits .and .u32 x 2 != 0)=d6a x:=by obtain⟨a,rfl⟩:=Int.eq_ofNat_of_zero_le h0;rw[show(2:Int)=((2:Nat):Int) from rfl,u32_and_nat a 2 (by omega) (by omega),show(2:Nat)=2^1 from rfl,nat_bit 1 a];unfold d6a;rw[Bool.eq_iff_iff,bne_iff_ne,decide_eq_true_iff];omega
theorem v8b(x:Int)(h0:0<=x)(h1:x<=4294967295):(bits .andNot .u32 x 15==0)=decide (x<16):=by
 obtain⟨a,rfl⟩:=Int.eq_ofNat_of_zero_le h0;rw[show(15:Int)=((15:Nat):Int) from rfl,u32_andNot_nat a 15 (by omega) (by omega)];have e1:(a &&& (4294967295-15))%2^4=0:=by rw[Nat.and_mod_two_pow];exact Nat.and_zero _
 have e2:(a &&& (4294967295-15))/2^4=a/16:=by rw[Nat.and_div_two_pow,show(4294967295-15)/2^4=2^28-1 from by decide,Nat.and_two_pow_sub_one_eq_mod];exact Nat.mod_eq_of_lt (by omega)
 rw[Bool.eq_iff_iff,beq_iff_eq,decide_eq_true_iff];omega
theorem n5b{c:Int}(h:known c=true):c=0∨c=1∨c=2∨c=3∨c=4∨c=5∨c=6∨c=7∨c=8∨c=9∨c=10∨c=12∨c=13∨c=14∨c=16∨c=17∨c=18:=by simpa[known,S2b] using h
theorem T6b{c:Int}(h:known c=false):∀x∈S2b,(c==x)=false:=by intro x hx;rw[beq_eq_false_iff_ne];rintro rfl;rw[show known c=true from List.contains_iff_mem.2 hx] at h;cases h
theorem w8b(w:World)(c:Int) :
  Calls Tryz.prog 65 #[.int .u16 c] w λe w'=>e=.returned (.bool (known c))/\w=w':=by
 by_cases h:known c=true
 ·rcases n5b h with rfl | rfl | rfl | rfl | rfl | rfl | rfl | rfl | rfl | rfl | rfl | rfl | rfl | rfl | rfl | rfl | rfl<;>
  ·rw[h];clear h;go_enter Tryz.func65,Tryz.ntmps65;go_wp2;go_ret;exact⟨rfl,rfl⟩
 ·have h':known c=false:=by simpa using h
  have k:=T6b h';rw[h'];have b0:=k 0 (by decide);have b1:=k 1 (by decide);have b2:=k 2 (by decide);have b3:=k 3 (by decide);have b4:=k 4 (by decide);have b5:=k 5 (by decide);have b6:=k 6 (by decide);have b7:=k 7 (by decide);have b8:=k 8 (by decide);have b9:=k 9 (by decide);have b10:=k 10 (by decide);have b12:=k 12 (by decide);have b13:=k 13 (by decide);have b14:=k 14 (by decide);have b16:=k 16 (by decide);have b17:=k 17 (by decide);have b18:=k 18 (by decide);clear k h h';go_enter Tryz.func65,Tryz.ntmps65;go_wp2;go_ret;exact⟨rfl,rfl⟩
theorem k8a(w:World)(h:Hd)(k:h.ok) :
  Calls Tryz.prog 106 #[hv h] w λe w'=>e=.returned (.bool (d6a h.fl))/\Below w.heap.size w w':=by
 have hb:=hI (u8b h.fl k.fl.1 k.fl.2);obtain⟨z,hz⟩:∃z,z=d6a h.fl:=⟨_,rfl⟩;rw[<-hz] at hb⊢;have HB0:=hb.out;obtain⟨v,hvv⟩:∃v,v=hv h:=⟨_,rfl⟩;have HV:=hI hvv;rw[<-hvv];clear hz k hb hvv;go_enter Tryz.func106,Tryz.ntmps106;go_wp2_with((with_reducible refine sN 1 ?_);refine f0a rfl _ (.tmp 0) rfl (o0a h) HV.out ?_;intro g w1 hg1 hg2 B1 L1;have gc:=HB.c4 B1.out);go_ret;exact⟨rfl,L1.out⟩
theorem U6b(w:World)(h:Hd)(k:h.ok) :
  Calls Tryz.prog 66 #[hv h] w λe w'=>e=.returned (hv (H6a h))/\Below w.heap.size w w':=by
 have C0:Hid (∀w:World,Calls Tryz.prog 106 #[hv h] w λe w'=>e=.returned (.bool (d6a h.fl))/\Below w.heap.size w w'):=λw=>k8a w h k
 have HL:=hI (L0a k);have HK:=hI (L0a (T2b k));have HKO:=hI (v2a (H6a h));have HZ:=hI (L0a o3a);have ZH:=hI p9a;have h8:d6a h.fl=true->(o0a h).set 8 (.int .u32 0)=o0a (H6a h):=λhi=>by unfold H6a;rw[if_pos hi];rfl
 have h7:d6a h.fl=false->(o0a h).set 7 (.int .u64 0)=o0a (H6a h):=λhi=>by unfold H6a;rw[if_neg (by rw[hi];decide)];rfl
 obtain⟨zs,hzs⟩:∃zs,zs=o0a N1a:=⟨_,rfl⟩;obtain⟨cs,hcs⟩:∃cs,cs=o0a h:=⟨_,rfl⟩;obtain⟨ds,hds⟩:∃ds,ds=o0a (H6a h):=⟨_,rfl⟩;unfold hv at C0⊢;rw[<-hcs] at C0 HL h7 h8⊢;rw[<-hds] at HK HKO h7 h8⊢;rw[<-hzs] at HZ ZH;clear hzs hcs hds k;by_cases hi:d6a h.fl=true
 ·rw[hi] at C0;have HE:=hI (h8 hi);clear hi h7 h8;go_enter Tryz.func66,Tryz.ntmps66;go_wp2_with(first
   | ((with_reducible refine sN 1 ?_);refine f0a rfl _ (.tmp 0) rfl cs rfl ?_;intro g w1 hg1 hg2 B1 L1)
   | ((with_reducible refine sN 2 ?_);refine a0a rfl _ rfl zs _ ZH ?_;intro g2 w2 hg3 hg4 B2 L2;have B12:=hI (B1.out.over L2.out);have L12:=hI (step L1.out L2.out))
   | ((with_reducible refine sN 3 ?_);refine e0a rfl _ (.tmp 1) rfl g rfl _ _ B12 26 _ Tryz.underlying28 rfl J0a HL ?_)
   | fail)
  refine(C0.out _).mono ?_;rintro e w3 ⟨rfl,L3⟩;have B13:=hI (B12.out.over L3);have B23:=hI (B2.out.over L3);have L13:=hI (step L12.out L3);have hsz:=L2.out.size;have hne:g≠g2:=by omega
  clear B12 B2 L12 L3 C0 B1 L1 L2;go_wp2_with(first
   | ((with_reducible refine sT 5 ?_);refine d0a rfl _ (.tmp 5) _ rfl g 8 rfl _ cs (.int .u32 0) rfl B13 (by have:=HL.out;show 8<_;omega) (by kernel_rfl) rfl ?_;intro w4 B14 O4 hg5;rw[HE.out] at B14;have B24:=hI (B23.out.only O4.out (by omega)))
   | ((with_reducible refine sN 7 ?_);refine e0a rfl _ (.tmp 1) rfl g rfl _ ds B14 26 _ Tryz.underlying28 rfl J0a HK ?_)
   | ((with_reducible refine sT 2 ?_);refine b0a rfl _ (.tmp 2) (.tmp 7) rfl g2 rfl _ zs ds rfl B24 26 J0a HZ HK HKO ?_;intro w5 B25 O5 hg6))
  refine bodyPost_ret (v:=.agg ds.toArray) ?_ rfl ⟨rfl,c0a (c0a L13.out O4.out (by omega)) O5.out (by omega)⟩;exact results_cell_row rfl _ _ g2 _ _ (0,0) _ rfl B25.out Tryz.underlying28 rfl (by rw[J0a];have:=HK.out;simp[this])
 ·have hi':d6a h.fl=false:=by simpa using hi
  rw[hi'] at C0;have HE:=hI (h7 hi');clear hi hi' h7 h8;go_enter Tryz.func66,Tryz.ntmps66;go_wp2_with(first
   | ((with_reducible refine sN 1 ?_);refine f0a rfl _ (.tmp 0) rfl cs rfl ?_;intro g w1 hg1 hg2 B1 L1)
   | ((with_reducible refine sN 2 ?_);refine a0a rfl _ rfl zs _ ZH ?_;intro g2 w2 hg3 hg4 B2 L2;have B12:=hI (B1.out.over L2.out);have L12:=hI (step L1.out L2.out))
   | ((with_reducible refine sN 3 ?_);refine e0a rfl _ (.tmp 1) rfl g rfl _ _ B12 26 _ Tryz.underlying28 rfl J0a HL ?_)
   | fail)
  refine(C0.out _).mono ?_;rintro e w3 ⟨rfl,L3⟩;have B13:=hI (B12.out.over L3);have B23:=hI (B2.out.over L3);have L13:=hI (step L12.out L3);have hsz:=L2.out.size;have hne:g≠g2:=by omega
  clear B12 B2 L12 L3 C0 B1 L1 L2;go_wp2_with(first
   | ((with_reducible refine sT 6 ?_);refine d0a rfl _ (.tmp 6) _ rfl g 7 rfl _ cs (.int .u64 0) rfl B13 (by have:=HL.out;show 7<_;omega) (by kernel_rfl) rfl ?_;intro w4 B14 O4 hg5;rw[HE.out] at B14;have B24:=hI (B23.out.only O4.out (by omega)))
   | ((with_reducible refine sN 7 ?_);refine e0a rfl _ (.tmp 1) rfl g rfl _ ds B14 26 _ Tryz.underlying28 rfl J0a HK ?_)
   | ((with_reducible refine sT 2 ?_);refine b0a rfl _ (.tmp 2) (.tmp 7) rfl g2 rfl _ zs ds rfl B24 26 J0a HZ HK HKO ?_;intro w5 B25 O5 hg6))
  refine bodyPost_ret (v:=.agg ds.toArray) ?_ rfl ⟨rfl,c0a (c0a L13.out O4.out (by omega)) O5.out (by omega)⟩;exact results_cell_row rfl _ _ g2 _ _ (0,0) _ rfl B25.out Tryz.underlying28 rfl (by rw[J0a];have:=HK.out;simp[this])
theorem D1b(w:World)(h:Hd)(k:h.ok) :
  Calls Tryz.prog 75 #[hv h] w λe w'=>e=.returned (.int .u64 (aot h))/\Below w.heap.size w w':=by
 have C0:Hid (∀w:World,Calls Tryz.prog 106 #[hv h] w λe w'=>e=.returned (.bool (d6a h.fl))/\Below w.heap.size w w'):=λw=>k8a w h k
 have HL:=hI (L0a k);obtain⟨t0,t1⟩:=k.tr;have e1:d6a h.fl=true->aot h=h.asy:=λhi=>by unfold aot;rw[if_pos hi]
 have e0:d6a h.fl=false->aot h=h.tr*4294967296:=λhi=>by unfold aot;rw[if_neg (by rw[hi];decide)]
 obtain⟨tr,htr⟩:∃tr,tr=h.tr:=⟨_,rfl⟩;obtain⟨asy,hasy⟩:∃asy,asy=h.asy:=⟨_,rfl⟩;obtain⟨cs,hcs⟩:∃cs,cs=o0a h:=⟨_,rfl⟩;unfold hv at C0⊢;rw[<-hcs] at C0 HL⊢;rw[<-htr] at t0 t1 e0;rw[<-hasy] at e1;have HT:=hI htr;have HA:=hI hasy;have HC:=hI hcs;clear htr hasy hcs k;by_cases hi:d6a h.fl=true
 ·rw[hi] at C0;rw[e1 hi];clear hi e0 e1;go_enter Tryz.func75,Tryz.ntmps75;go_wp2_with(first
   | ((with_reducible refine sN 1 ?_);refine f0a rfl _ (.tmp 0) rfl cs rfl ?_;intro g w1 hg1 hg2 B1 L1)
   | ((with_reducible refine sN 3 ?_);refine e0a rfl _ (.tmp 1) rfl g rfl _ _ B1 26 _ Tryz.underlying28 rfl J0a HL ?_)
   | fail)
  refine(C0.out _).mono ?_;rintro e w3 ⟨rfl,L3⟩;have gc:w3.cell? ⟨g,7,none⟩=some (.int .u64 asy):=by rw[HA.out];exact HB.c7 (HB.of HC.out (B1.out.over L3))
  go_wp2;go_ret;exact⟨rfl,step L1.out L3⟩
 ·have hi':d6a h.fl=false:=by simpa using hi
  rw[hi'] at C0;rw[e0 hi'];clear hi hi' e0 e1;go_enter Tryz.func75,Tryz.ntmps75;go_wp2_with(first
   | ((with_reducible refine sN 1 ?_);refine f0a rfl _ (.tmp 0) rfl cs rfl ?_;intro g w1 hg1 hg2 B1 L1)
   | ((with_reducible refine sN 3 ?_);refine e0a rfl _ (.tmp 1) rfl g rfl _ _ B1 26 _ Tryz.underlying28 rfl J0a HL ?_)
   | fail)
  refine(C0.out _).mono ?_;rintro e w3 ⟨rfl,L3⟩;have gc:w3.cell? ⟨g,8,none⟩=some (.int .u32 tr):=by rw[HT.out];exact HB.c8 (HB.of HC.out (B1.out.over L3))
  go_wp2;go_ret;exact⟨rfl,step L1.out L3⟩
theorem J0c:∀(xs:List Value) (k off:Nat) (cur:List Value),off+k+xs.length<=cur.length->
  List.foldl (fun (cs:Array Value) (p:Value×Nat)=>cs.setIfInBounds (off+p.2) p.1) cur.toArray (xs.zipIdx k)=(cur.take (off+k)++(xs++cur.drop (off+k+xs.length))).toArray
 | [],k,off,cur,_=>by simp
 | x::xs,k,off,cur,h=>by
  have h':off+k+(xs.length+1)<=cur.length:=h;rw[List.zipIdx_cons,List.foldl_cons];have e0:cur.toArray.setIfInBounds (off+k) x=(cur.take (off+k)++x::cur.drop (off+k+1)).toArray:=by rw[List.setIfInBounds_toArray,List.set_eq_take_append_cons_drop,if_pos (by omega)]
  show List.foldl _ (cur.toArray.setIfInBounds (off+k) x) _=_
  have hk:(cur.take (off+k)).length=off+k:=by rw[List.length_take];omega
  rw[e0,J0c xs (k+1) off _ (by simp only[List.length_append,List.length_cons,List.length_drop,hk];omega)]
  congr 1
  have e1:(cur.take (off+k)++x::cur.drop (off+k+1)).take (off+(k+1))=cur.take (off+k)++[x]:=by rw[show cur.take (off+k)++x::cur.drop (off+k+1)=(cur.take (off+k)++[x])++cur.drop (off+k+1) by simp];exact List.take_left' (by rw[List.length_append,hk];rfl)
  have e2:(cur.take (off+k)++x::cur.drop (off+k+1)).drop (off+(k+1)+xs.length)=cur.drop (off+k+(x::xs).length):=by rw[show cur.take (off+k)++x::cur.drop (off+k+1)=(cur.take (off+k)++[x])++cur.drop (off+k+1) by simp];rw[show off+(k+1)+xs.length=(cur.take (off+k)++[x]).length+xs.length by rw[List.length_append,hk];rfl,<-List.drop_drop,List.drop_left,List.drop_drop,List.length_cons,show off+k+1+xs.length=off+k+(xs.length+1) by omega]
  rw[e1,e2];simp
theorem z0b(place:Nat->Option (Nat×Nat))(off size i:Nat)(cur xs:List Value)(hp:place i=some (off,size))(hl:xs.length=size)(hb:off+size<=cur.length)(rest:List (Nat×Value)) :
  Instr.fill place cur.toArray ((i,.agg xs.toArray)::rest)=Instr.fill place (cur.take off++(xs++cur.drop (off+size))).toArray rest:=by
 have hc:(Value.agg xs.toArray).cells=xs.toArray:=rfl;rw[Instr.fill];simp only[hp,hc,List.size_toArray];rw[if_neg (by rw[hl];simpa using hb)];have h:=J0c xs 0 off cur (by omega);rw[hl] at h;rw[<-Array.foldl_toList,Array.toList_zipIdx];exact congrArg (λz=>Instr.fill place z rest) h
def z2b(P:Program)(T:TypeId):Option (Array Value×List (Nat×Nat)):=
 match P.info? T,P.underlying T with
 | some it,some (.struct fields)=>
  match it.zero,fields.toList.mapM (λf=>(P.info? f.type).map λi=>(f.offset,i.size)) with
  | some z,some places=>some (z.cells,places)
  | _,_=>none
 | _,_=>none
theorem o7a{P:Program}{T:TypeId}{z:Array Value}{pl:List (Nat×Nat)}(h:z2b P T=some (z,pl))(parts:List (Nat×Value)):P.built T parts=Instr.fill (pl.toArray[·]?) z parts:=by
 unfold z2b at h;unfold Program.built;cases hi:P.info? T with
 | none=>simp[hi] at h
 | some it=>
  cases hu:P.underlying T with
  | none=>simp[hi,hu] at h
  | some d=>
   cases d<;>try (simp[hi,hu] at h;done)
   rename_i fields;simp only[hi,hu] at h⊢;cases hz:it.zero with
   | none=>simp[hz] at h
   | some z'=>
    cases hp:fields.toList.mapM (λf=>(P.info? f.type).map λi=>(f.offset,i.size)) with
    | none=>simp[hz,hp] at h
    | some places=>
     simp only[hz,hp] at h⊢;injection h with h
     injection h with h1 h2
     subst h1 h2;rfl
def K1a:List Value:=o0a N1a++(j0a (.slice none 0 0) (.slice none 0 0) (.slice none 0 0) i0a++r0a (.slice none 0 0) (.slice none 0 0) q0a)
theorem a8a:z2b Tryz.prog 60=some (K1a.toArray,[(0,26),(26,69),(95,20)]):=by kernel_rfl
theorem Y5a:z2b Tryz.prog 41=some (K1a.toArray,[(0,26),(26,69),(95,20)]):=by kernel_rfl
theorem y3a:K1a.length=115:=by decide +kernel
theorem V6b:K1a.take 26=o0a N1a/\K1a.drop 26=j0a (.slice none 0 0) (.slice none 0 0) (.slice none 0 0) i0a++r0a (.slice none 0 0) (.slice none 0 0) q0a:=⟨rfl,rfl⟩
theorem x8b{T:TypeId}(hp:z2b Tryz.prog T=some (K1a.toArray,[(0,26),(26,69),(95,20)])){hc ac sc:List Value}(h1:hc.length=26)(h2:ac.length=69)(h3:sc.length=20) :
  Tryz.prog.built T [(0,.agg hc.toArray),(1,.agg ac.toArray),(2,.agg sc.toArray)]=some (hc++(ac++sc)).toArray:=by
 have hz:=y3a;rw[o7a hp,z0b _ 0 26 0 _ _ rfl h1 (by omega),z0b _ 26 69 1 _ _ rfl h2 (by simp;omega),z0b _ 95 20 2 _ _ rfl h3 (by simp;omega),Instr.fill];have e1:K1a.take 0++(hc++K1a.drop (0+26))=hc++K1a.drop 26:=by simp
 rw[e1];have e2:(hc++K1a.drop 26).take 26++(ac++(hc++K1a.drop 26).drop (26+69))=hc++(ac++K1a.drop 95):=by rw[List.take_left' h1,<-List.drop_drop,List.drop_left' h1,List.drop_drop]
 rw[e2];have e3:(hc++(ac++K1a.drop 95)).take 95++(sc++(hc++(ac++K1a.drop 95)).drop (95+20))=hc++(ac++sc):=by
  have hl:(hc++ac).length=95:=by rw[List.length_append];omega
  rw[<-List.append_assoc hc,List.take_left' hl,<-List.drop_drop,List.drop_left' hl,List.drop_drop,List.drop_of_length_le (by omega)];simp
 rw[e3]
theorem y8b{T:TypeId}(hp:z2b Tryz.prog T=some (K1a.toArray,[(0,26),(26,69),(95,20)])){hc:List Value}(h1:hc.length=26) :
  Tryz.prog.built T [(0,.agg hc.toArray)]=some (hc++(j0a (.slice none 0 0) (.slice none 0 0) (.slice none 0 0) i0a++r0a (.slice none 0 0) (.slice none 0 0) q0a)).toArray:=by
 have hz:=y3a;rw[o7a hp,z0b _ 0 26 0 _ _ rfl h1 (by omega),Instr.fill];have e1:K1a.take 0++(hc++K1a.drop (0+26))=hc++K1a.drop 26:=by simp
 rw[e1,V6b.2]
def Z3a(w:World)(B:Nat)(cs:List Value)(m:J5a):Prop:=∃ac sc,cs=o0a m.h++(ac++sc)/\f1a w B ac m.a/\n1a w B sc m.s
theorem Z3a.over{w w':World}{cs:List Value}{m:J5a}(h:Z3a w w.heap.size cs m)(hb:Below w.heap.size w w'):Z3a w' w'.heap.size cs m:=by obtain⟨ac,sc,h1,h2,h3⟩:=h;exact⟨ac,sc,h1,h2.over hb,h3.over hb⟩
theorem Z3a.len{w:World}{B:Nat}{cs:List Value}{m:J5a}(h:Z3a w B cs m)(k:m.ok):cs.length=115:=by obtain⟨ac,sc,rfl,h2,h3⟩:=h;simp only[List.length_append,L0a k.h,h2.len k.a,h3.len k.s]
theorem Z3a.one{w:World}{B:Nat}{cs:List Value}{m:J5a}(h:Z3a w B cs m):∀v∈cs,v.oneCell'=true:=by
 obtain⟨ac,sc,rfl,h2,h3⟩:=h;intro v hv;rcases List.mem_append.1 hv with hv | hv
 ·exact v2a _ v hv
 ·rcases List.mem_append.1 hv with hv | hv
  ·exact h2.one v hv
  ·exact h3.one v hv
theorem E1b{w:World}{g:Nat}{T:TypeId}{pre mid post cs:List Value}(B:Blk w g T cs)(h:cs=pre++(mid++post))(n:Nat)(hn:pre.length=n):w.rangeAt g n mid:=λj v hj=>by rw[B.cell,h,List.getElem?_append_right (by omega),hn,Nat.add_sub_cancel_left,List.getElem?_append_left (List.getElem?_eq_some_iff.1 hj).1,hj]
theorem t9a{w:World}{g:Nat}{T:TypeId}{hc ac sc:List Value}(B:Blk w g T (hc++(ac++sc))):w.rangeAt g 0 hc:=E1b (pre:=[]) B rfl 0 rfl
theorem p7a{w:World}{g:Nat}{T:TypeId}{hc ac sc:List Value}(B:Blk w g T (hc++(ac++sc)))(h:hc.length=26):w.rangeAt g 26 ac:=E1b B rfl 26 h
theorem q7a{w:World}{g:Nat}{T:TypeId}{hc ac sc:List Value}(B:Blk w g T (hc++(ac++sc)))(h:hc.length=26)(h2:ac.length=69):w.rangeAt g 95 sc:=E1b (pre:=hc++ac) (post:=[]) B (by simp) 95 (by simp only[List.length_append];omega)
theorem r1a:(Tryz.prog.info? 41).map (·.size)=some 115:=by kernel_rfl
theorem W2a:(Tryz.prog.info? 60).map (·.size)=some 115:=by kernel_rfl
theorem U8a:(Tryz.prog.info? 41).map (λi=>(i.zero,i.size))=some (some (.agg K1a.toArray),115):=by kernel_rfl
theorem M9a:(Tryz.prog.info? 60).map (λi=>(i.zero,i.size))=some (some (.agg K1a.toArray),115):=by kernel_rfl
theorem W6b:Tryz.prog.built 41 []=some K1a.toArray:=by rw[o7a Y5a];rfl
theorem Y9b(x:Int)(h0:0<=x)(h1:x<=4294967295):(bits .and .u32 x 1 != 0)=m3a x:=by obtain⟨a,rfl⟩:=Int.eq_ofNat_of_zero_le h0;rw[show(1:Int)=((1:Nat):Int) from rfl,u32_and_nat a 1 (by omega) (by omega),show(1:Nat)=2^0 from rfl,nat_bit 0 a];unfold m3a;rw[Bool.eq_iff_iff,bne_iff_ne,decide_eq_true_iff];omega
theorem l8a(w:World)(g:Nat)(h:Hd)(k:h.ok)(r:List Value)(B:Blk w g 60 (o0a h++r)) :
  Calls Tryz.prog 39 #[.pointer (some ⟨g,0,none⟩)] w λe w'=>e=.returned (.bool (m3a h.fl))/\w=w':=by
 have gc:w.cell? ⟨g,4,none⟩=some (.int .u32 h.fl):=Blk.cell B 4;have hb:=Y9b h.fl k.fl.1 k.fl.2;obtain⟨z,hz⟩:∃z,z=m3a h.fl:=⟨_,rfl⟩;rw[<-hz] at hb⊢;clear hz B k;go_enter Tryz.func39,Tryz.ntmps39;go_wp2;go_ret;exact⟨rfl,rfl⟩
theorem z8b(w:World)(g:Nat)(h:Hd)(k:h.ok)(r:List Value)(B:Blk w g 60 (o0a h++r)) :
  Calls Tryz.prog 38 #[.pointer (some ⟨g,0,none⟩)] w λe w'=>e=.returned (.int .u16 (N7a h))/\w=w':=by
 have CR:=hI (l8a w g h k r B);have gc:w.cell? ⟨g,1,none⟩=some (.int .u32 h.st):=Blk.cell B 1;have gm:w.cell? ⟨g,2,none⟩=some (.int .u16 h.cm):=Blk.cell B 2;by_cases hr:m3a h.fl=true
 ·by_cases hs:h.st=0
  ·have e:N7a h=h.cm:=by unfold N7a;rw[if_neg (λh2=>h2.2 hs)]
   rw[e];rw[hs] at gc;rw[hr] at CR;clear hs hr B k e;go_enter Tryz.func38,Tryz.ntmps38;go_wp2_with fail;refine CR.out.mono ?_;rintro e w1 ⟨rfl,rfl⟩;go_wp2;go_ret;exact⟨rfl,rfl⟩
  ·have e:N7a h=13:=by unfold N7a;rw[if_pos ⟨hr,hs⟩]
   have hne:(h.st != 0)=true:=by simpa using hs
   rw[e];rw[hr] at CR;clear hs hr B k e gm;go_enter Tryz.func38,Tryz.ntmps38;go_wp2_with fail;refine CR.out.mono ?_;rintro e w1 ⟨rfl,rfl⟩;go_wp2;go_ret;exact⟨rfl,rfl⟩
 ·have e:N7a h=h.cm:=by unfold N7a;rw[if_neg (λh2=>hr h2.1)]
  have hr':m3a h.fl=false:=by simpa using hr
  rw[e];rw[hr'] at CR;clear hr hr' B k e gc;go_enter Tryz.func38,Tryz.ntmps38;go_wp2_with fail;refine CR.out.mono ?_;rintro e w1 ⟨rfl,rfl⟩;go_wp2;go_ret;exact⟨rfl,rfl⟩
theorem and7(n:Nat)(h:n<=281474976710656):bits .and .i64 (-(n:Int)) 7=(T1b n:Nat):=by rw[G9b n h];unfold T1b w7b;omega
theorem F1b(w:World)(A:Option Addr)(n c:Nat)(h:n<=281474976710656) :
  Calls Tryz.prog 23 #[.slice A n c] w λe w'=>e=.returned (.int .i64 (T1b n:Nat))/\w=w':=by
 have hb:=and7 n h;have hp:=q3b n;obtain⟨p,hpp⟩:∃p,p=T1b n:=⟨_,rfl⟩;rw[<-hpp] at hb hp⊢;clear hpp;go_enter Tryz.func23,Tryz.ntmps23;go_wp2;go_ret;exact⟨rfl,rfl⟩
def fPA(c:Int):Nat:=if U0a c=true then 80 else if c<=10 then 84 else 88
def fGA(c:Int):Nat:=if U0a c=true then 81 else if c<=10 then 85 else 89
def fPS(c:Int):Nat:=if U0a c=true then 82 else if c<=10 then 86 else 90
def fGS(c:Int):Nat:=if U0a c=true then 83 else if c<=10 then 87 else 91
theorem e2c(c:Int):∀(args:Array Value) (w:World),(callFunc (fPA c) args).run Tryz.prog w=.ok (.enter (fPA c) args) w:=by
 unfold fPA;split
 ·exact enters_of Tryz.func80 (by kernel_rfl) rfl
 ·split
  ·exact enters_of Tryz.func84 (by kernel_rfl) rfl
  ·exact enters_of Tryz.func88 (by kernel_rfl) rfl
theorem f2c(c:Int):∀(args:Array Value) (w:World),(callFunc (fGA c) args).run Tryz.prog w=.ok (.enter (fGA c) args) w:=by
 unfold fGA;split
 ·exact enters_of Tryz.func81 (by kernel_rfl) rfl
 ·split
  ·exact enters_of Tryz.func85 (by kernel_rfl) rfl
  ·exact enters_of Tryz.func89 (by kernel_rfl) rfl
theorem g2c(c:Int):∀(args:Array Value) (w:World),(callFunc (fPS c) args).run Tryz.prog w=.ok (.enter (fPS c) args) w:=by
 unfold fPS;split
 ·exact enters_of Tryz.func82 (by kernel_rfl) rfl
 ·split
  ·exact enters_of Tryz.func86 (by kernel_rfl) rfl
  ·exact enters_of Tryz.func90 (by kernel_rfl) rfl
theorem h2c(c:Int):∀(args:Array Value) (w:World),(callFunc (fGS c) args).run Tryz.prog w=.ok (.enter (fGS c) args) w:=by
 unfold fGS;split
 ·exact enters_of Tryz.func83 (by kernel_rfl) rfl
 ·split
  ·exact enters_of Tryz.func87 (by kernel_rfl) rfl
  ·exact enters_of Tryz.func91 (by kernel_rfl) rfl
def S3a(c:Int):Value:=.agg #[.func (.func (fPA c)) #[] #[],.func (.func (fGA c)) #[] #[],.func (.func (fPS c)) #[] #[],.func (.func (fGS c)) #[] #[]]
theorem o5b:(Tryz.prog.info? 90).map (λi=>(i.zero,i.size))=some (some (.agg ([.nilFunc,.nilFunc,.nilFunc,.nilFunc]:List Value).toArray),4):=by kernel_rfl
theorem z3a:(Tryz.prog.info? 90).map (·.size)=some 4:=by kernel_rfl
def H5a:List Value:=[.func (.func 80) #[] #[],.func (.func 81) #[] #[],.func (.func 82) #[] #[],.func (.func 83) #[] #[]]
theorem G1b:∀v∈H5a,v.oneCell'=true:=by intro v hv;simp[H5a] at hv;rcases hv with rfl | rfl | rfl | rfl<;>rfl
def u9a:List Value:=[.func (.func 84) #[] #[],.func (.func 85) #[] #[],.func (.func 86) #[] #[],.func (.func 87) #[] #[]]
theorem p5b:∀v∈u9a,v.oneCell'=true:=by intro v hv;simp[u9a] at hv;rcases hv with rfl | rfl | rfl | rfl<;>rfl
def v9a:List Value:=[.func (.func 88) #[] #[],.func (.func 89) #[] #[],.func (.func 90) #[] #[],.func (.func 91) #[] #[]]
theorem q5b:∀v∈v9a,v.oneCell'=true:=by intro v hv;simp[v9a] at hv;rcases hv with rfl | rfl | rfl | rfl<;>rfl
theorem N9a(w:World)(c:Int)(hc:0<=c/\c<=65535) :
  Calls Tryz.prog 41 #[.int .u16 c] w λe w'=>e=.returned (S3a c)/\Below w.heap.size w w':=by
 have ZB:=hI o5b;have HZ:Hid (([.nilFunc,.nilFunc,.nilFunc,.nilFunc]:List Value).length=4):=rfl;by_cases h4:c<=4
 ·have q4:decide (c<=4)=true:=by simpa using h4
  have e:S3a c=.agg H5a.toArray:=by
   have hk:U0a c=true:=by unfold U0a;simp[h4]
   unfold S3a fPA fGA fPS fGS;simp only[if_pos hk];rfl
  rw[e];have H1:=hI G1b;have HN:Hid (H5a.length=4):=rfl;have BB:Tryz.prog.built 90 [(0,.func (.func 80) #[] #[]),(1,.func (.func 81) #[] #[]),(2,.func (.func 82) #[] #[]),(3,.func (.func 83) #[] #[])]=some H5a.toArray:=by kernel_rfl
  obtain⟨bs,hbs⟩:∃bs,bs=H5a:=⟨_,rfl⟩;rw[<-hbs] at H1 HN BB⊢;clear e hbs;go_enter Tryz.func41,Tryz.ntmps41;go_wp2_with(first
   | ((with_reducible refine sN 2 ?_);refine a0a rfl _ rfl _ _ ZB ?_;intro g w1 hg1 hg2 Z1 L1)
   | ((with_reducible refine sN 8 ?_);refine k0a rfl _ _ rfl bs (by refine Eq.trans ?_ BB;kernel_rfl) ?_)
   | ((with_reducible refine sT 2 ?_);refine b0a rfl _ (.tmp 2) (.tmp 8) rfl g rfl _ _ bs rfl Z1 4 z3a HZ HN H1 ?_;intro w2 X2 O2 hg3)
   | fail)
  refine bodyPost_ret ?_ rfl ⟨rfl,c0a L1.out O2.out hg1⟩;exact results_cell_row rfl _ _ g _ _ (0,0) _ rfl X2.out Tryz.underlying90 rfl (by rw[z3a];have:=HN.out;simp[this])
 have q4:decide (c<=4)=false:=by simpa using h4
 by_cases h13:c=13
 ·subst h13;have e:S3a 13=.agg H5a.toArray:=by unfold S3a fPA fGA fPS fGS;simp only[if_pos (show U0a 13=true by decide)];rfl
  rw[e];have H1:=hI G1b;have HN:Hid (H5a.length=4):=rfl;have BB:Tryz.prog.built 90 [(0,.func (.func 80) #[] #[]),(1,.func (.func 81) #[] #[]),(2,.func (.func 82) #[] #[]),(3,.func (.func 83) #[] #[])]=some H5a.toArray:=by kernel_rfl
  obtain⟨bs,hbs⟩:∃bs,bs=H5a:=⟨_,rfl⟩;rw[<-hbs] at H1 HN BB⊢;clear e hbs;go_enter Tryz.func41,Tryz.ntmps41;go_wp2_with(first
   | ((with_reducible refine sN 2 ?_);refine a0a rfl _ rfl _ _ ZB ?_;intro g w1 hg1 hg2 Z1 L1)
   | ((with_reducible refine sN 8 ?_);refine k0a rfl _ _ rfl bs (by refine Eq.trans ?_ BB;kernel_rfl) ?_)
   | ((with_reducible refine sT 2 ?_);refine b0a rfl _ (.tmp 2) (.tmp 8) rfl g rfl _ _ bs rfl Z1 4 z3a HZ HN H1 ?_;intro w2 X2 O2 hg3)
   | fail)
  refine bodyPost_ret ?_ rfl ⟨rfl,c0a L1.out O2.out hg1⟩;exact results_cell_row rfl _ _ g _ _ (0,0) _ rfl X2.out Tryz.underlying90 rfl (by rw[z3a];have:=HN.out;simp[this])
 have hk:¬U0a c=true:=by unfold U0a;simp[h4,h13]
 have q13:(c==13)=false:=by simpa using h13
 by_cases h10:c<=10
 ·have q10:decide (c<=10)=true:=by simpa using h10
  have e:S3a c=.agg u9a.toArray:=by unfold S3a fPA fGA fPS fGS;simp only[if_neg hk,if_pos h10];rfl
  rw[e];have H1:=hI p5b;have HN:Hid (u9a.length=4):=rfl;have BB:Tryz.prog.built 90 [(0,.func (.func 84) #[] #[]),(1,.func (.func 85) #[] #[]),(2,.func (.func 86) #[] #[]),(3,.func (.func 87) #[] #[])]=some u9a.toArray:=by kernel_rfl
  obtain⟨bs,hbs⟩:∃bs,bs=u9a:=⟨_,rfl⟩;rw[<-hbs] at H1 HN BB⊢;clear e hbs;go_enter Tryz.func41,Tryz.ntmps41;go_wp2_with(first
   | ((with_reducible refine sN 2 ?_);refine a0a rfl _ rfl _ _ ZB ?_;intro g w1 hg1 hg2 Z1 L1)
   | ((with_reducible refine sN 12 ?_);refine k0a rfl _ _ rfl bs (by refine Eq.trans ?_ BB;kernel_rfl) ?_)
   | ((with_reducible refine sT 2 ?_);refine b0a rfl _ (.tmp 2) (.tmp 12) rfl g rfl _ _ bs rfl Z1 4 z3a HZ HN H1 ?_;intro w2 X2 O2 hg3)
   | fail)
  refine bodyPost_ret ?_ rfl ⟨rfl,c0a L1.out O2.out hg1⟩;exact results_cell_row rfl _ _ g _ _ (0,0) _ rfl X2.out Tryz.underlying90 rfl (by rw[z3a];have:=HN.out;simp[this])
 ·have q10:decide (c<=10)=false:=by simpa using h10
  have e:S3a c=.agg v9a.toArray:=by unfold S3a fPA fGA fPS fGS;simp only[if_neg hk,if_neg h10];rfl
  rw[e];have H1:=hI q5b;have HN:Hid (v9a.length=4):=rfl;have BB:Tryz.prog.built 90 [(0,.func (.func 88) #[] #[]),(1,.func (.func 89) #[] #[]),(2,.func (.func 90) #[] #[]),(3,.func (.func 91) #[] #[])]=some v9a.toArray:=by kernel_rfl
  obtain⟨bs,hbs⟩:∃bs,bs=v9a:=⟨_,rfl⟩;rw[<-hbs] at H1 HN BB⊢;clear e hbs;go_enter Tryz.func41,Tryz.ntmps41;go_wp2_with(first
   | ((with_reducible refine sN 2 ?_);refine a0a rfl _ rfl _ _ ZB ?_;intro g w1 hg1 hg2 Z1 L1)
   | ((with_reducible refine sN 13 ?_);refine k0a rfl _ _ rfl bs (by refine Eq.trans ?_ BB;kernel_rfl) ?_)
   | ((with_reducible refine sT 2 ?_);refine b0a rfl _ (.tmp 2) (.tmp 13) rfl g rfl _ _ bs rfl Z1 4 z3a HZ HN H1 ?_;intro w2 X2 O2 hg3)
   | fail)
  refine bodyPost_ret ?_ rfl ⟨rfl,c0a L1.out O2.out hg1⟩;exact results_cell_row rfl _ _ g _ _ (0,0) _ rfl X2.out Tryz.underlying90 rfl (by rw[z3a];have:=HN.out;simp[this])
theorem H1b{P:Program}{f:FuncId}{args:Array Value}{w:World}{n:Nat}{v:Value}
(h:∀w,Calls P f args w λe w'=>e=.returned v/\w=w'):Calls P f args (w.drewN n) λe w''=>e=.returned v/\∃m,w''=w.drewN m:=(h _).mono λ_ _ ⟨he,hm⟩=>⟨he,n,hm.symm⟩
theorem V5b:Tryz.prog.eqGuardType Tryz.prog.depth 28=false:=by kernel_rfl
theorem g1c(w:World)(h:Hd)(k:h.ok) :
  Calls Tryz.prog 35 #[hv h] w λe w'=>e=.returned (.bool (r0b h))/\Below w.heap.size w w':=by
 have CK:Hid (∀w:World,Calls Tryz.prog 65 #[.int .u16 h.cm] w λe w'=>e=.returned (.bool (known h.cm))/\w=w'):=λw=>w8b w h.cm
 have CO:Hid (∀w:World,Calls Tryz.prog 66 #[hv h] w λe w'=>e=.returned (hv (H6a h))/\Below w.heap.size w w'):=λw=>U6b w h k
 have q0:∀w:World,(Op.equalIn 10000 28 (.agg (o0a h).toArray) (.agg (o0a (H6a h)).toArray)).run Tryz.prog w=.ok (decide (h=H6a h)) w:=λw=>X7a h (H6a h) k (T2b k) w
 have hf:=v8b h.fl k.fl.1 k.fl.2;have HL:=hI (L0a k);have HK:=hI (L0a (T2b k));have HM:Hid (r0b h=(known h.cm&&(decide (h.fl<16)&&decide (h=H6a h)))):=by show _=_;unfold r0b;rw[A9b]
 obtain⟨z,hz⟩:∃z,z=decide (h=H6a h):=⟨_,rfl⟩;obtain⟨fl,hfl⟩:∃fl,fl=h.fl:=⟨_,rfl⟩;obtain⟨cm,hcm⟩:∃cm,cm=h.cm:=⟨_,rfl⟩;obtain⟨cs,hcs⟩:∃cs,cs=o0a h:=⟨_,rfl⟩;obtain⟨ds,hds⟩:∃ds,ds=o0a (H6a h):=⟨_,rfl⟩;have qg:=V5b;unfold hv at CO⊢;rw[<-hcs] at CO HL q0⊢;rw[<-hds] at CO HK q0;rw[<-hz] at q0 HM;rw[<-hfl] at hf HM;rw[<-hcm] at CK HM;have HFL:=hI hfl;have HCM:=hI hcm;have HC:=hI hcs;have F2:Hid (∀(w:World) (g:Nat),Blk w g 28 cs->w.cell? ⟨g,2,none⟩=some (.int .u16 cm)/\w.cell? ⟨g,4,none⟩=some (.int .u32 fl)):=λw g B=>⟨by rw[HCM.out];exact HB.c2 (HB.of HC.out B),by rw[HFL.out];exact HB.c4 (HB.of HC.out B)⟩
 clear hz hfl hcm hcs hds k HFL HCM HC;by_cases hk:known cm=true
 ·rw[hk] at CK HM;by_cases h16:fl<16
  ·rw[decide_eq_true h16] at hf HM;rw[show r0b h=z from by rw[HM.out];simp];clear hk h16 HM;go_enter Tryz.func35,Tryz.ntmps35;go_upto_region 1 with(first
    | ((with_reducible refine sN 1 ?_);refine f0a rfl _ (.tmp 0) rfl cs rfl ?_;intro g w1 hg1 hg2 B1 L1)
    | fail)
   refine wp_region_held (S:=λw'=>Blk w' g 28 cs) (by kernel_rfl) ?_;change wpAnyH _ _ _ _ _ _ _ _ w1.drew
   have S0:Hid (Blk w1.drew g 28 cs):=B1.out.drew;have b0:Hid (Below w.heap.size w w1.drew):=L1.out.drew;have gc:=(F2.out _ _ S0.out).1;have gf:=(F2.out _ _ S0.out).2;clear B1 L1;refine oN 0 _ rfl λK hK=>?_
   go_simp;refine hK _ _ S0.out ?_;clear hK K;refine oN 1 _ rfl λK hK=>?_
   go_simp;refine hK _ _ S0.out ?_;clear hK K;refine oN 2 _ rfl λK hK=>?_
   go_simp;refine(CK.out _).mono ?_;rintro e v1 ⟨rfl,rfl⟩;refine hK _ _ S0.out ?_;clear hK K;refine oN 3 _ rfl λK hK=>?_
   go_simp;refine hK _ _ S0.out ?_;clear hK K;refine oN 4 _ rfl λK hK=>?_
   go_simp;refine hK _ _ S0.out ?_;clear hK K;refine oN 5 _ rfl λK hK=>?_
   go_simp;refine hK _ _ S0.out ?_;clear hK K;refine oN 6 _ rfl λK hK=>?_
   go_simp;refine hK _ _ S0.out ?_;clear hK K;refine oN 7 _ rfl λK hK=>?_
   go_simp;refine hK _ _ S0.out ?_;clear hK K;refine oN 8 _ rfl λK hK=>?_
   go_simp;refine hK _ _ S0.out ?_;clear hK K;refine oN 9 _ rfl λK hK=>?_
   go_simp;refine hK _ _ S0.out ?_;clear hK K;refine tK 10 _ rfl (s4a rfl _ (.tmp 1) rfl g rfl _ cs (λ_ h=>h) 26 _ Tryz.underlying28 rfl J0a HL) S0.out ?_;refine tK 11 _ rfl (s4a rfl _ (.tmp 1) rfl g rfl _ cs (λ_ h=>h) 26 _ Tryz.underlying28 rfl J0a HL) S0.out ?_;refine oN 12 _ rfl λK hK=>?_
   go_simp;refine(CO.out _).mono ?_;rintro e v2 ⟨rfl,b⟩;have S2:Hid (Blk v2 g 28 cs):=S0.out.over b;have b2:=hI (step b0.out b);refine hK _ _ S2.out ?_;clear hK K b;refine oN 13 _ rfl λK hK=>?_
   go_simp;refine hK _ _ S2.out ?_;clear hK K;refine oN 14 _ rfl λK hK=>?_
   go_simp;refine hK _ _ S2.out ?_;clear hK K;refine oN 15 _ rfl λK hK=>?_
   go_simp;refine hK _ _ S2.out ?_;clear hK K;refine dN ?_;go_wp2_with fail;go_ret;exact⟨rfl,b2.out⟩
  ·have h16':decide (fl<16)=false:=by simpa using h16
   rw[h16'] at hf HM;rw[show r0b h=false from by rw[HM.out];simp];clear hk h16 h16' HM CO q0;go_enter Tryz.func35,Tryz.ntmps35;go_upto_region 1 with(first
    | ((with_reducible refine sN 1 ?_);refine f0a rfl _ (.tmp 0) rfl cs rfl ?_;intro g w1 hg1 hg2 B1 L1)
    | fail)
   have gc:=(F2.out _ _ B1.out).1;have gf:=(F2.out _ _ B1.out).2;go_quiet ((go_at_call 65;exact H1b CK.out));go_wp2_with fail;go_ret;exact⟨rfl,below_drewN L1.out _⟩
 ·have hk':known cm=false:=by simpa using hk
  rw[hk'] at CK HM;rw[show r0b h=false from by rw[HM.out];simp];clear hk hk' HM CO q0;go_enter Tryz.func35,Tryz.ntmps35;go_upto_region 1 with(first
   | ((with_reducible refine sN 1 ?_);refine f0a rfl _ (.tmp 0) rfl cs rfl ?_;intro g w1 hg1 hg2 B1 L1)
   | fail)
  have gc:=(F2.out _ _ B1.out).1;have gf:=(F2.out _ _ B1.out).2;go_quiet ((go_at_call 65;exact H1b CK.out));go_wp2_with fail;go_ret;exact⟨rfl,below_drewN L1.out _⟩
def fnk:Nat->FuncId
 | 0=>67
 | 1=>67
 | 2=>68
 | 3=>69
 | 4=>70
 | 5=>71
 | 6=>72
 | 7=>73
 | 8=>74
 | 9=>76
 | 10=>78
 | _=>0
def fnv(p k:Nat):Value:=.func (.func (fnk k)) #[] (if k<2 then #[] else #[.pointer (some ⟨p,0,none⟩)])
def A8b(p:Nat)(c0 c1 c2 c3 c4 c5 c6 c9 c10:Int):List Value:=
 [.int .i64 0,.int .i64 4,.int .u64 1112364030,.func (.func 67) #[] #[],
  .int .i64 4,.int .i64 2,.int .u64 64,.func (.func 67) #[] #[],
  .int .i64 6,.int .i64 2,.int .u64 c0,.func (.func 68) #[] #[.pointer (some ⟨p,0,none⟩)],
  .int .i64 8,.int .i64 4,.int .u64 c1,.func (.func 69) #[] #[.pointer (some ⟨p,0,none⟩)],
  .int .i64 12,.int .i64 2,.int .u64 c2,.func (.func 70) #[] #[.pointer (some ⟨p,0,none⟩)],
  .int .i64 14,.int .i64 2,.int .u64 c3,.func (.func 71) #[] #[.pointer (some ⟨p,0,none⟩)],
  .int .i64 16,.int .i64 4,.int .u64 c4,.func (.func 72) #[] #[.pointer (some ⟨p,0,none⟩)],
  .int .i64 20,.int .i64 4,.int .u64 c5,.func (.func 73) #[] #[.pointer (some ⟨p,0,none⟩)],
  .int .i64 24,.int .i64 8,.int .u64 c6,.func (.func 74) #[] #[.pointer (some ⟨p,0,none⟩)],
  .int .i64 32,.int .i64 8,.int .u64 c9,.func (.func 76) #[] #[.pointer (some ⟨p,0,none⟩)],
  .int .i64 40,.int .i64 8,.int .u64 c10,.func (.func 78) #[] #[.pointer (some ⟨p,0,none⟩)]]
def D5a(p:Nat)(h:Hd):List Value:=A8b p h.ch h.st h.cm h.cr h.fl h.nx h.id (aot h) h.se
def fel(p:Nat)(h:Hd)(k:Nat):List Value:=[.int .i64 (N6a.getD k 0:Nat),.int .i64 (szs.getD k 0:Nat),.int .u64 ((h9a h).getD k 0),fnv p k]
theorem B8b(p:Nat)(h:Hd)(k:Nat)(hk:k<11)(j:Nat)(v:Value)(hj:(fel p h k)[j]? = some v):(D5a p h)[k*4+j]? = some v:=by
 have h4:j<4:=by have:=(List.getElem?_eq_some_iff.1 hj).1;simpa[fel] using this
 rw[<-hj];revert hk
 match j,h4 with
 | 0,_=>exact λhk=>S7a (p:=λk=>(D5a p h)[k*4+0]? = (fel p h k)[0]?) rfl rfl rfl rfl rfl rfl rfl rfl rfl rfl rfl k hk
 | 1,_=>exact λhk=>S7a (p:=λk=>(D5a p h)[k*4+1]? = (fel p h k)[1]?) rfl rfl rfl rfl rfl rfl rfl rfl rfl rfl rfl k hk
 | 2,_=>exact λhk=>S7a (p:=λk=>(D5a p h)[k*4+2]? = (fel p h k)[2]?) rfl rfl rfl rfl rfl rfl rfl rfl rfl rfl rfl k hk
 | 3,_=>exact λhk=>S7a (p:=λk=>(D5a p h)[k*4+3]? = (fel p h k)[3]?) rfl rfl rfl rfl rfl rfl rfl rfl rfl rfl rfl k hk
theorem O9a{w:World}{G p:Nat}{T:TypeId}{h:Hd}(B:Blk w G T (D5a p h))(k:Nat)(hk:k<11):w.rangeAt G (k*4) (fel p h k):=λj v hj=>by rw[B.cell];exact B8b p h k hk j v hj
def O7a(w:World)(g:Nat)(h:Hd)(e:Ending)(w':World):Prop:=∃p G,e=.returned (.slice (some ⟨G,0,none⟩) 11 11)/\w.heap.size<=p/\p<G/\Blk w' p 77 [.pointer (some ⟨g,0,none⟩)]/\Blk w' G 80 (D5a p h)/\Below w.heap.size w w'
theorem A2b(w:World)(g:Nat)(h:Hd)(k:h.ok)(hB:HB w g h) :
  Calls Tryz.prog 36 #[.pointer (some ⟨g,0,none⟩)] w (O7a w g h):=by
 have hmf:∀(fn:Fn) (first cap:Array Value) (w:World),(Instr.makeFunc fn first cap).run Tryz.prog w=.ok (.func fn first cap) w:=λ_ _ _ _=>rfl
 have HL:=hI (L0a k);have C0:Hid (∀w:World,Calls Tryz.prog 75 #[hv h] w λe w'=>e=.returned (.int .u64 (aot h))/\Below w.heap.size w w'):=λw=>D1b w h k
 have HQ:Hid (∀e w',(∃p G,e=.returned (.slice (some ⟨G,0,none⟩) 11 11)/\w.heap.size<=p/\p<G/\Blk w' p 77 [.pointer (some ⟨g,0,none⟩)]/\Blk w' G 80 (D5a p h)/\Below w.heap.size w w')->O7a w g h e w'):=λ_ _ hh=>hh
 obtain⟨k0,k1,k2,k3,k4,k5,k6,k7,k8,k9,_,_⟩:=k;have HB0:=hI hB;unfold hv at C0;unfold D5a at HQ;obtain⟨n9,hn9⟩:∃n,n=aot h:=⟨_,rfl⟩;obtain⟨cs,hcs⟩:∃cs,cs=o0a h:=⟨_,rfl⟩;have HC:=hI hcs;rw[<-hcs] at C0 HL;rw[<-hn9] at C0 HQ;have FW:Hid (∀w',Blk w' g 28 cs->w'.cell? ⟨g,0,none⟩=some (.int .u16 h.ch)/\w'.cell? ⟨g,1,none⟩=some (.int .u32 h.st)/\w'.cell? ⟨g,2,none⟩=some (.int .u16 h.cm)/\w'.cell? ⟨g,3,none⟩=some (.int .u16 h.cr)/\
   w'.cell? ⟨g,4,none⟩=some (.int .u32 h.fl)/\w'.cell? ⟨g,5,none⟩=some (.int .u32 h.nx)/\w'.cell? ⟨g,6,none⟩=some (.int .u64 h.id)/\w'.cell? ⟨g,9,none⟩=some (.int .u64 h.se)):=λw' b=>by
  have X:HB w' g h:=HB.of HC.out b;exact⟨X.c0,X.c1,X.c2,X.c3,X.c4,X.c5,X.c6,X.c9⟩
 have HB1:Hid (Blk w g 28 cs):=by show Blk _ _ _ _;rw[HC.out];exact HB0.out
 clear hB hcs hn9 HB0;obtain⟨n0,hn0⟩:∃n,n=h.ch:=⟨_,rfl⟩;obtain⟨n1,hn1⟩:∃n,n=h.st:=⟨_,rfl⟩;obtain⟨n2,hn2⟩:∃n,n=h.cm:=⟨_,rfl⟩;obtain⟨n3,hn3⟩:∃n,n=h.cr:=⟨_,rfl⟩;obtain⟨n4,hn4⟩:∃n,n=h.fl:=⟨_,rfl⟩;obtain⟨n5,hn5⟩:∃n,n=h.nx:=⟨_,rfl⟩;obtain⟨n6,hn6⟩:∃n,n=h.id:=⟨_,rfl⟩;obtain⟨n10,hn10⟩:∃n,n=h.se:=⟨_,rfl⟩;rw[<-hn0] at FW HQ k0;rw[<-hn1] at FW HQ k1;rw[<-hn2] at FW HQ k2;rw[<-hn3] at FW HQ k3;rw[<-hn4] at FW HQ k4;rw[<-hn5] at FW HQ k5;rw[<-hn6] at FW HQ k6;rw[<-hn10] at FW HQ k9;obtain⟨k00,k01⟩:=k0;obtain⟨k10,k11⟩:=k1;obtain⟨k20,k21⟩:=k2;obtain⟨k30,k31⟩:=k3;obtain⟨k40,k41⟩:=k4;obtain⟨k50,k51⟩:=k5;clear hn0 hn1 hn2 hn3 hn4 hn5 hn6 hn10 k6 k7 k8 k9;go_enter Tryz.func36,Tryz.ntmps36;go_upto_region 2 with(first
  | ((with_reducible refine sN 1 ?_);refine a2b rfl _ (.tmp 0) rfl _ rfl rfl ?_;intro p w1 hp1 hp2 P1 L1)
  | fail)
 refine wp_region_held (S:=λw'=>Blk w' p 77 [.pointer (some ⟨g,0,none⟩)]/\Blk w' g 28 cs) (by kernel_rfl) ?_;change wpAnyH _ _ _ _ _ _ _ _ w1.drew
 have S0:Hid (Blk w1.drew p 77 [.pointer (some ⟨g,0,none⟩)]/\Blk w1.drew g 28 cs):=⟨P1.out.drew,(HB1.out.over L1.out).drew⟩;have b0:Hid (Below w.heap.size w w1.drew):=L1.out.drew;have hp2':p<w1.drew.heap.size:=hp2;obtain⟨w0,hw0⟩:∃w0,w0=w1.drew:=⟨_,rfl⟩;rw[<-hw0] at S0 b0 hp2'⊢;clear hw0 HB1 P1 L1 hp2;refine tK 0 _ rfl (u0a (by kernel_rfl) (.tmp 3) rfl (.func (.func 67) #[] #[]) (by kernel_rfl)) S0.out ?_;refine tK 1 _ rfl (h1a (by kernel_rfl) _ _ rfl [.int .i64 0,.int .i64 4,.int .u64 1112364030,.func (.func 67) #[] #[]] (by kernel_rfl)) S0.out ?_;refine tK 2 _ rfl (u0a (by kernel_rfl) (.tmp 3) rfl (.func (.func 67) #[] #[]) (by kernel_rfl)) S0.out ?_;refine tK 3 _ rfl (h1a (by kernel_rfl) _ _ rfl [.int .i64 4,.int .i64 2,.int .u64 64,.func (.func 67) #[] #[]] (by kernel_rfl)) S0.out ?_;refine tK 4 _ rfl (l0a (by kernel_rfl) _ (.tmp 1) rfl p 0 (by kernel_rfl) (.pointer (some ⟨g,0,none⟩)) (λ_ h=>h.1.cell 0) _ Tryz.underlying77 rfl) S0.out ?_;refine tK 5 _ rfl (I0a (by kernel_rfl) (.tmp 8) rfl ⟨g,0,none⟩ (by kernel_rfl)) S0.out ?_;refine tK 6 _ rfl (w0a (by kernel_rfl) _ (.tmp 9) 0 rfl (.pointer (some ⟨g,0,none⟩)) (.pointer (some ⟨g,0,none⟩)) (by kernel_rfl) (C9a g 0 (by decide))) S0.out ?_;refine tK 7 _ rfl (l0a (by kernel_rfl) _ (.tmp 10) rfl g 0 (by kernel_rfl) (.int .u16 n0) (λw h=>(FW.out w h.2).1) _ Tryz.underlying22 rfl) S0.out ?_;refine tK 8 _ rfl (C3a (by kernel_rfl) _ _ (.tmp 11) rfl (.int .u16 n0) (.int .u64 n0) (by kernel_rfl) (N5b n0 k00 k01)) S0.out ?_;refine tK 9 _ rfl (Z2a (by kernel_rfl) _ _ _ rfl #[] #[.pointer (some ⟨p,0,none⟩)] (by kernel_rfl) (by kernel_rfl) (hmf _ _ _)) S0.out ?_;refine tK 10 _ rfl (h1a (by kernel_rfl) _ _ rfl [.int .i64 6,.int .i64 2,.int .u64 n0,.func (.func 68) #[] #[.pointer (some ⟨p,0,none⟩)]] (by kernel_rfl)) S0.out ?_;refine tK 11 _ rfl (l0a (by kernel_rfl) _ (.tmp 1) rfl p 0 (by kernel_rfl) (.pointer (some ⟨g,0,none⟩)) (λ_ h=>h.1.cell 0) _ Tryz.underlying77 rfl) S0.out ?_;refine tK 12 _ rfl (I0a (by kernel_rfl) (.tmp 15) rfl ⟨g,0,none⟩ (by kernel_rfl)) S0.out ?_;refine tK 13 _ rfl (w0a (by kernel_rfl) _ (.tmp 16) 1 rfl (.pointer (some ⟨g,0,none⟩)) (.pointer (some ⟨g,1,none⟩)) (by kernel_rfl) (C9a g 1 (by decide))) S0.out ?_;refine tK 14 _ rfl (l0a (by kernel_rfl) _ (.tmp 17) rfl g 1 (by kernel_rfl) (.int .u32 n1) (λw h=>(FW.out w h.2).2.1) _ Tryz.underlying23 rfl) S0.out ?_;refine tK 15 _ rfl (C3a (by kernel_rfl) _ _ (.tmp 18) rfl (.int .u32 n1) (.int .u64 n1) (by kernel_rfl) (f3b n1 k10 k11)) S0.out ?_;refine tK 16 _ rfl (Z2a (by kernel_rfl) _ _ _ rfl #[] #[.pointer (some ⟨p,0,none⟩)] (by kernel_rfl) (by kernel_rfl) (hmf _ _ _)) S0.out ?_;refine tK 17 _ rfl (h1a (by kernel_rfl) _ _ rfl [.int .i64 8,.int .i64 4,.int .u64 n1,.func (.func 69) #[] #[.pointer (some ⟨p,0,none⟩)]] (by kernel_rfl)) S0.out ?_;refine tK 18 _ rfl (l0a (by kernel_rfl) _ (.tmp 1) rfl p 0 (by kernel_rfl) (.pointer (some ⟨g,0,none⟩)) (λ_ h=>h.1.cell 0) _ Tryz.underlying77 rfl) S0.out ?_;refine tK 19 _ rfl (I0a (by kernel_rfl) (.tmp 22) rfl ⟨g,0,none⟩ (by kernel_rfl)) S0.out ?_;refine tK 20 _ rfl (w0a (by kernel_rfl) _ (.tmp 23) 2 rfl (.pointer (some ⟨g,0,none⟩)) (.pointer (some ⟨g,2,none⟩)) (by kernel_rfl) (C9a g 2 (by decide))) S0.out ?_;refine tK 21 _ rfl (l0a (by kernel_rfl) _ (.tmp 24) rfl g 2 (by kernel_rfl) (.int .u16 n2) (λw h=>(FW.out w h.2).2.2.1) _ Tryz.underlying24 rfl) S0.out ?_;refine tK 22 _ rfl (C3a (by kernel_rfl) _ _ (.tmp 25) rfl (.int .u16 n2) (.int .u64 n2) (by kernel_rfl) (L9b n2 k20 k21)) S0.out ?_;refine tK 23 _ rfl (Z2a (by kernel_rfl) _ _ _ rfl #[] #[.pointer (some ⟨p,0,none⟩)] (by kernel_rfl) (by kernel_rfl) (hmf _ _ _)) S0.out ?_;refine tK 24 _ rfl (h1a (by kernel_rfl) _ _ rfl [.int .i64 12,.int .i64 2,.int .u64 n2,.func (.func 70) #[] #[.pointer (some ⟨p,0,none⟩)]] (by kernel_rfl)) S0.out ?_;refine tK 25 _ rfl (l0a (by kernel_rfl) _ (.tmp 1) rfl p 0 (by kernel_rfl) (.pointer (some ⟨g,0,none⟩)) (λ_ h=>h.1.cell 0) _ Tryz.underlying77 rfl) S0.out ?_;refine tK 26 _ rfl (I0a (by kernel_rfl) (.tmp 29) rfl ⟨g,0,none⟩ (by kernel_rfl)) S0.out ?_;refine tK 27 _ rfl (w0a (by kernel_rfl) _ (.tmp 30) 3 rfl (.pointer (some ⟨g,0,none⟩)) (.pointer (some ⟨g,3,none⟩)) (by kernel_rfl) (C9a g 3 (by decide))) S0.out ?_;refine tK 28 _ rfl (l0a (by kernel_rfl) _ (.tmp 31) rfl g 3 (by kernel_rfl) (.int .u16 n3) (λw h=>(FW.out w h.2).2.2.2.1) _ Tryz.underlying22 rfl) S0.out ?_;refine tK 29 _ rfl (C3a (by kernel_rfl) _ _ (.tmp 32) rfl (.int .u16 n3) (.int .u64 n3) (by kernel_rfl) (N5b n3 k30 k31)) S0.out ?_;refine tK 30 _ rfl (Z2a (by kernel_rfl) _ _ _ rfl #[] #[.pointer (some ⟨p,0,none⟩)] (by kernel_rfl) (by kernel_rfl) (hmf _ _ _)) S0.out ?_;refine tK 31 _ rfl (h1a (by kernel_rfl) _ _ rfl [.int .i64 14,.int .i64 2,.int .u64 n3,.func (.func 71) #[] #[.pointer (some ⟨p,0,none⟩)]] (by kernel_rfl)) S0.out ?_;refine tK 32 _ rfl (l0a (by kernel_rfl) _ (.tmp 1) rfl p 0 (by kernel_rfl) (.pointer (some ⟨g,0,none⟩)) (λ_ h=>h.1.cell 0) _ Tryz.underlying77 rfl) S0.out ?_;refine tK 33 _ rfl (I0a (by kernel_rfl) (.tmp 36) rfl ⟨g,0,none⟩ (by kernel_rfl)) S0.out ?_;refine tK 34 _ rfl (w0a (by kernel_rfl) _ (.tmp 37) 4 rfl (.pointer (some ⟨g,0,none⟩)) (.pointer (some ⟨g,4,none⟩)) (by kernel_rfl) (C9a g 4 (by decide))) S0.out ?_;refine tK 35 _ rfl (l0a (by kernel_rfl) _ (.tmp 38) rfl g 4 (by kernel_rfl) (.int .u32 n4) (λw h=>(FW.out w h.2).2.2.2.2.1) _ Tryz.underlying23 rfl) S0.out ?_;refine tK 36 _ rfl (C3a (by kernel_rfl) _ _ (.tmp 39) rfl (.int .u32 n4) (.int .u64 n4) (by kernel_rfl) (f3b n4 k40 k41)) S0.out ?_;refine tK 37 _ rfl (Z2a (by kernel_rfl) _ _ _ rfl #[] #[.pointer (some ⟨p,0,none⟩)] (by kernel_rfl) (by kernel_rfl) (hmf _ _ _)) S0.out ?_;refine tK 38 _ rfl (h1a (by kernel_rfl) _ _ rfl [.int .i64 16,.int .i64 4,.int .u64 n4,.func (.func 72) #[] #[.pointer (some ⟨p,0,none⟩)]] (by kernel_rfl)) S0.out ?_;refine tK 39 _ rfl (l0a (by kernel_rfl) _ (.tmp 1) rfl p 0 (by kernel_rfl) (.pointer (some ⟨g,0,none⟩)) (λ_ h=>h.1.cell 0) _ Tryz.underlying77 rfl) S0.out ?_;refine tK 40 _ rfl (I0a (by kernel_rfl) (.tmp 43) rfl ⟨g,0,none⟩ (by kernel_rfl)) S0.out ?_;refine tK 41 _ rfl (w0a (by kernel_rfl) _ (.tmp 44) 5 rfl (.pointer (some ⟨g,0,none⟩)) (.pointer (some ⟨g,5,none⟩)) (by kernel_rfl) (C9a g 5 (by decide))) S0.out ?_;refine tK 42 _ rfl (l0a (by kernel_rfl) _ (.tmp 45) rfl g 5 (by kernel_rfl) (.int .u32 n5) (λw h=>(FW.out w h.2).2.2.2.2.2.1) _ Tryz.underlying23 rfl) S0.out ?_;refine tK 43 _ rfl (C3a (by kernel_rfl) _ _ (.tmp 46) rfl (.int .u32 n5) (.int .u64 n5) (by kernel_rfl) (f3b n5 k50 k51)) S0.out ?_;refine tK 44 _ rfl (Z2a (by kernel_rfl) _ _ _ rfl #[] #[.pointer (some ⟨p,0,none⟩)] (by kernel_rfl) (by kernel_rfl) (hmf _ _ _)) S0.out ?_;refine tK 45 _ rfl (h1a (by kernel_rfl) _ _ rfl [.int .i64 20,.int .i64 4,.int .u64 n5,.func (.func 73) #[] #[.pointer (some ⟨p,0,none⟩)]] (by kernel_rfl)) S0.out ?_;refine tK 46 _ rfl (l0a (by kernel_rfl) _ (.tmp 1) rfl p 0 (by kernel_rfl) (.pointer (some ⟨g,0,none⟩)) (λ_ h=>h.1.cell 0) _ Tryz.underlying77 rfl) S0.out ?_;refine tK 47 _ rfl (I0a (by kernel_rfl) (.tmp 50) rfl ⟨g,0,none⟩ (by kernel_rfl)) S0.out ?_;refine tK 48 _ rfl (w0a (by kernel_rfl) _ (.tmp 51) 6 rfl (.pointer (some ⟨g,0,none⟩)) (.pointer (some ⟨g,6,none⟩)) (by kernel_rfl) (C9a g 6 (by decide))) S0.out ?_;refine tK 49 _ rfl (l0a (by kernel_rfl) _ (.tmp 52) rfl g 6 (by kernel_rfl) (.int .u64 n6) (λw h=>(FW.out w h.2).2.2.2.2.2.2.1) _ Tryz.underlying25 rfl) S0.out ?_;refine tK 50 _ rfl (Z2a (by kernel_rfl) _ _ _ rfl #[] #[.pointer (some ⟨p,0,none⟩)] (by kernel_rfl) (by kernel_rfl) (hmf _ _ _)) S0.out ?_;refine tK 51 _ rfl (h1a (by kernel_rfl) _ _ rfl [.int .i64 24,.int .i64 8,.int .u64 n6,.func (.func 74) #[] #[.pointer (some ⟨p,0,none⟩)]] (by kernel_rfl)) S0.out ?_;refine tK 52 _ rfl (l0a (by kernel_rfl) _ (.tmp 1) rfl p 0 (by kernel_rfl) (.pointer (some ⟨g,0,none⟩)) (λ_ h=>h.1.cell 0) _ Tryz.underlying77 rfl) S0.out ?_;refine tK 53 _ rfl (I0a (by kernel_rfl) (.tmp 56) rfl ⟨g,0,none⟩ (by kernel_rfl)) S0.out ?_;refine tK 54 _ rfl (s4a (by kernel_rfl) _ (.tmp 57) rfl g (by kernel_rfl) _ cs (λ_ h=>h.2) 26 _ Tryz.underlying28 rfl J0a HL) S0.out ?_;refine tK 56 _ rfl (Z2a (by kernel_rfl) _ _ _ rfl #[] #[.pointer (some ⟨p,0,none⟩)] (by kernel_rfl) (by kernel_rfl) (hmf _ _ _)) S0.out ?_;refine tK 58 _ rfl (l0a (by kernel_rfl) _ (.tmp 1) rfl p 0 (by kernel_rfl) (.pointer (some ⟨g,0,none⟩)) (λ_ h=>h.1.cell 0) _ Tryz.underlying77 rfl) S0.out ?_;refine tK 59 _ rfl (I0a (by kernel_rfl) (.tmp 62) rfl ⟨g,0,none⟩ (by kernel_rfl)) S0.out ?_;refine tK 60 _ rfl (w0a (by kernel_rfl) _ (.tmp 63) 9 rfl (.pointer (some ⟨g,0,none⟩)) (.pointer (some ⟨g,9,none⟩)) (by kernel_rfl) (C9a g 9 (by decide))) S0.out ?_;refine tK 61 _ rfl (l0a (by kernel_rfl) _ (.tmp 64) rfl g 9 (by kernel_rfl) (.int .u64 n10) (λw h=>(FW.out w h.2).2.2.2.2.2.2.2) _ Tryz.underlying25 rfl) S0.out ?_;refine tK 62 _ rfl (Z2a (by kernel_rfl) _ _ _ rfl #[] #[.pointer (some ⟨p,0,none⟩)] (by kernel_rfl) (by kernel_rfl) (hmf _ _ _)) S0.out ?_;refine tK 63 _ rfl (h1a (by kernel_rfl) _ _ rfl [.int .i64 40,.int .i64 8,.int .u64 n10,.func (.func 78) #[] #[.pointer (some ⟨p,0,none⟩)]] (by kernel_rfl)) S0.out ?_;refine t2a λa1 ha1=>?_
 have e58:a1.eval (.tmp 58)=.agg cs.toArray:=by rw[ha1];kernel_rfl
 refine oN 55 _ rfl λK hK=>?_
 go_simp;refine(C0.out _).mono ?_;rintro e w2 ⟨rfl,b⟩;have S2:Hid (Blk w2 p 77 [.pointer (some ⟨g,0,none⟩)]/\Blk w2 g 28 cs):=⟨S0.out.1.over b,S0.out.2.over b⟩;have b2:=hI (step b0.out b);have hsz:=b.size;refine hK _ _ S2.out ?_;clear hK K b e58;subst ha1;refine tK 57 _ rfl (h1a (by kernel_rfl) _ _ rfl [.int .i64 32,.int .i64 8,.int .u64 n9,.func (.func 76) #[] #[.pointer (some ⟨p,0,none⟩)]] (by kernel_rfl)) S2.out ?_;refine oN 64 _ rfl λK hK=>?_
 refine O0a rfl _ _ 11 _ rfl Tryz.underlying75 (A8b p n0 n1 n2 n3 n4 n5 n6 n9 n10) (by kernel_rfl) ?_;intro G w3 hG1 hG2 G3 L3;have S3:Hid (Blk w3 p 77 [.pointer (some ⟨g,0,none⟩)]/\Blk w3 g 28 cs):=⟨S2.out.1.over L3.out,S2.out.2.over L3.out⟩;refine hK _ _ S3.out ?_;clear hK K;refine tK 65 _ rfl (V6a (by kernel_rfl) (.tmp 68) rfl (.slice (some ⟨G,0,none⟩) 11 11) (by kernel_rfl)) S3.out ?_;refine dN ?_;go_wp2_with fail;go_ret;exact HQ.out _ _ ⟨p,G,rfl,hp1,by omega,S3.out.1,G3.out,step b2.out L3.out⟩
def X4a(w:World)(h:Hd)(e:Ending)(w':World):Prop:=∃A',e=.returned (.tuple #[.slice A' (s8a h).length (s8a h).length,.int .i64 (b8a h)])/\r2a w' w.heap.size A' (s8a h)/\Below w.heap.size w w'
theorem h1c{h:Hd}(k:h.ok)(j:Nat)(hj:j<11):0<=(h9a h).getD j 0/\(h9a h).getD j 0<=18446744073709551615/\(h9a h).getD j 0<256^szs.getD j 0:=by
 have ab:=B7a k;have e2:(256:Int)^2=65536:=by decide
 have e4:(256:Int)^4=4294967296:=by decide
 have e8:(256:Int)^8=18446744073709551616:=by decide
 have k0:=k.ch;have k1:=k.st;have k2:=k.cm;have k3:=k.cr;have k4:=k.fl;have k5:=k.nx;have k6:=k.id;have k9:=k.se;refine S7a (p:=λj=>0<=(h9a h).getD j 0/\(h9a h).getD j 0<=18446744073709551615/\(h9a h).getD j 0<256^szs.getD j 0) ?_ ?_ ?_ ?_ ?_ ?_ ?_ ?_ ?_ ?_ ?_ j hj
 ·show(0:Int)<=1112364030/\(1112364030:Int)<=_/\(1112364030:Int)<256^4;omega
 ·show(0:Int)<=64/\(64:Int)<=_/\(64:Int)<256^2;omega
 ·show 0<=h.ch/\h.ch<=_/\h.ch<256^2;omega
 ·show 0<=h.st/\h.st<=_/\h.st<256^4;omega
 ·show 0<=h.cm/\h.cm<=_/\h.cm<256^2;omega
 ·show 0<=h.cr/\h.cr<=_/\h.cr<256^2;omega
 ·show 0<=h.fl/\h.fl<=_/\h.fl<256^4;omega
 ·show 0<=h.nx/\h.nx<=_/\h.nx<256^4;omega
 ·show 0<=h.id/\h.id<=_/\h.id<256^8;omega
 ·show 0<=aot h/\aot h<=_/\aot h<256^8;omega
 ·show 0<=h.se/\h.se<=_/\h.se<256^8;omega
theorem C8b(p:Nat)(h:Hd)(j:Nat):∀v∈fel p h j,v.oneCell'=true:=by intro v hv;simp only[fel,List.mem_cons,List.not_mem_nil,or_false] at hv;rcases hv with rfl | rfl | rfl | rfl<;>rfl
def i1c:List Value:=[.int .i64 0,.int .i64 0,.int .u64 0,.nilFunc]
theorem D8b:(Tryz.prog.info? 80).map (λi=>(i.zero,i.size))=some (some (.agg i1c.toArray),4):=by kernel_rfl
theorem r3b:(Tryz.prog.info? 80).map (·.size)=some 4:=by kernel_rfl
theorem Z9b(w:World)(h:Hd)(k:h.ok)(j:Nat)(hj:j<11) :
  Calls Tryz.prog 37 #[.int .u64 ((h9a h).getD j 0),.int .i64 (szs.getD j 0:Nat)] w λe w'=>∃A' er,e=.returned (.tuple #[.slice A' (szs.getD j 0) (szs.getD j 0),.int .i64 er])/\Holds w' w'.heap.size A' (szs.getD j 0) (szs.getD j 0) (le ((h9a h).getD j 0) (szs.getD j 0))/\Below w.heap.size w w':=by
 obtain⟨v0,v1,v2⟩:=h1c k j hj;have h1:=a4a j hj;have hok:A4a ((h9a h).getD j 0) (szs.getD j 0:Nat)=true:=by unfold A4a;rw[x7b j hj,Int.toNat_natCast,decide_eq_true v2];rfl
 have eo:p5a ((h9a h).getD j 0) (szs.getD j 0:Nat)=le ((h9a h).getD j 0) (szs.getD j 0):=by unfold p5a;rw[if_pos hok,Int.toNat_natCast]
 refine(d8a w ((h9a h).getD j 0) (szs.getD j 0:Nat) ⟨v0,v1⟩ (by omega)).mono ?_;rintro e w' ⟨A',rfl,hf,hb⟩;rw[eo] at hf⊢;rw[g0a];exact⟨A',_,rfl,hf.holds (g0a _ _) (F0a _ _) (by omega),hb⟩
theorem A0b(w:World)(h:Hd)(k:h.ok) :
  Calls Tryz.prog 20 #[hv h] w (X4a w h):=by
 have CM:Hid (∀w:World,Calls Tryz.prog 35 #[hv h] w λe w'=>e=.returned (.bool (r0b h))/\Below w.heap.size w w'):=λw=>g1c w h k
 have HL:=hI (L0a k);by_cases hm:r0b h=true
 ·have HQ:Hid (∀e w',(∃A',e=.returned (.tuple #[.slice A' 64 64,.int .i64 0])/\r2a w' w.heap.size A' (e6a h)/\Below w.heap.size w w')->X4a w h e w'):=by intro e w' hh;unfold X4a s8a b8a;rw[if_pos hm,if_pos hm,b4a k.len];exact hh
  have CF:Hid (∀(w:World) (g:Nat),HB w g h->Calls Tryz.prog 36 #[.pointer (some ⟨g,0,none⟩)] w (O7a w g h)):=λw g B=>A2b w g h k B
  have CP:Hid (∀(w:World) (j:Nat),j<11->Calls Tryz.prog 37 #[.int .u64 ((h9a h).getD j 0),.int .i64 (szs.getD j 0:Nat)] w λe w'=>∃A' er,e=.returned (.tuple #[.slice A' (szs.getD j 0) (szs.getD j 0),.int .i64 er])/\Holds w' w'.heap.size A' (szs.getD j 0) (szs.getD j 0) (le ((h9a h).getD j 0) (szs.getD j 0))/\Below w.heap.size w w'):=λw j hj=>Z9b w h k j hj
  have HK:=hI k;rw[hm] at CM;obtain⟨cs,hcs⟩:∃cs,cs=o0a h:=⟨_,rfl⟩;have HC:=hI hcs;unfold hv at CM⊢;rw[<-hcs] at CM HL⊢;have ZF:=hI D8b;obtain⟨zf,hzf⟩:∃zf,zf=i1c:=⟨_,rfl⟩;have HZF:Hid (zf.length=4):=by rw[hzf];rfl
  rw[<-hzf] at ZF;clear hm k hcs hzf;go_enter Tryz.func20,Tryz.ntmps20;go_wp2_with(first
   | ((with_reducible refine sN 1 ?_);refine f0a rfl _ (.tmp 0) rfl cs rfl ?_;intro g w1 hg1 hg2 B1 L1)
   | ((with_reducible refine sN 9 ?_);refine e0a rfl _ (.tmp 1) rfl g rfl _ cs B1 26 _ Tryz.underlying28 rfl J0a HL ?_)
   | fail)
  refine(CM.out _).mono ?_;rintro e w2 ⟨rfl,L2⟩;have B2:=hI (B1.out.over L2);have L12:=hI (step L1.out L2);have hs2:=L2.size;clear B1 L1 L2 CM;go_wp2_with(first
   | (at_make;refine H1a _ rfl _ _ rfl _ _ 64 rfl rfl rfl rfl (by omega) ?_;intro w3 R3 L3)
   | fail)
  have B3:=hI (B2.out.over L3);have L13:=hI (step L12.out L3);have hs3:=L3.size;refine(CF.out _ g (HB.of HC.out B3.out)).mono ?_;rintro e w4 ⟨p,G,rfl,hp,hpG,P4,F4,L4⟩;obtain⟨gb,hgb⟩:∃gb,gb=w2.heap.size:=⟨_,rfl⟩;rw[<-hgb] at R3⊢;have R4:Hid (Row w4 gb (i2b h 0)):=by rw[z7b];exact R3.out.over L4
  have B4:Hid (Blk w4 g 28 cs):=B3.out.over L4;have F4':=hI F4;have L14:=hI (step L13.out L4);have hgb3:=R3.out.lt;have hgw:w.heap.size<=gb:=by omega
  have hgg:g<gb:=by omega
  have hbG:gb<G:=by omega
  clear P4 F4 L4 B3 B2 L13 L3 R3 L12 hp hpG hgb hgb3 hs3 hs2 CF;go_wp2_with fail;go_loopw [6,7,8,15] (λ_ _ _ i wr=>∃j:Nat,j<=11/\i=.int .i64 j/\Hid (Row wr gb (i2b h j))/\Hid (Blk wr G 80 (D5a p h))/\Hid (Blk wr g 28 cs)/\Hid (Below w.heap.size w wr)) (λ_ _ _ i _=>11-(intOf i).toNat)
  case atStart=>exact⟨0,Nat.zero_le _,rfl,R4,F4',B4,L14⟩
  case round=>
   clear R4 F4' B4 L14;obtain⟨j,hj,rfl,RR,FF,BB,LL⟩:=hrel;by_cases hlt:j<11
   ·have h1:=a4a j hlt;have hrange:=O9a FF.out j hlt;have hstep:=A7b h j hlt;have hlen:=U2b h j hj;have CPj:Hid (∀w:World,Calls Tryz.prog 37 #[.int .u64 ((h9a h).getD j 0),.int .i64 (szs.getD j 0:Nat)] w λe w'=>∃A' er,e=.returned (.tuple #[.slice A' (szs.getD j 0) (szs.getD j 0),.int .i64 er])/\Holds w' w'.heap.size A' (szs.getD j 0) (szs.getD j 0) (le ((h9a h).getD j 0) (szs.getD j 0))/\Below w.heap.size w w'):=λw=>CP.out w j hlt
    have EL:Hid ((fel p h j).length=4):=rfl;have EO:=hI (C8b p h j);have E0:Hid ((fel p h j)[0]? = some (.int .i64 (N6a.getD j 0:Nat))):=rfl;have E1:Hid ((fel p h j)[1]? = some (.int .i64 (szs.getD j 0:Nat))):=rfl;have E2:Hid ((fel p h j)[2]? = some (.int .u64 ((h9a h).getD j 0))):=rfl;obtain⟨el,hel⟩:∃el,el=fel p h j:=⟨_,rfl⟩;rw[<-hel] at EL EO E0 E1 E2 hrange;obtain⟨off,hoff⟩:∃off,off=N6a.getD j 0:=⟨_,rfl⟩;obtain⟨sz,hsz⟩:∃sz,sz=szs.getD j 0:=⟨_,rfl⟩;obtain⟨n,hn⟩:∃n,n=(h9a h).getD j 0:=⟨_,rfl⟩;rw[<-hoff] at E0 h1 hstep;rw[<-hsz] at E1 h1 hstep CPj;rw[<-hn] at E2 hstep CPj;obtain⟨_,h48,hs2,hs8⟩:=h1;obtain⟨row,hrow⟩:∃row,row=i2b h j:=⟨_,rfl⟩;rw[<-hrow] at RR hstep hlen;have RNG:=hI hrange;have HST:=hI hstep;have HLN:=hI hlen;have hgbl:=RR.out.lt;have hgl:=BB.out.lt;have hGl:=FF.out.lt;have hwl:=LL.out.size;clear hel hoff hsz hn hrow hrange hstep hlen CP;go_wp2_with(first
     | ((with_reducible refine sN 18 ?_);refine wpList_load_mid rfl _ (.tmp 17) rfl G (j*4) rfl el _ RNG.out Tryz.underlying80 rfl (by rw[r3b,EL.out]) ?_)
     | ((with_reducible refine sN 6 ?_);refine a0a rfl _ rfl zf _ ZF ?_;intro f w5 hf1 hf2 X5 L5)
     | ((with_reducible refine sT 6 ?_);refine b0a rfl _ (.tmp 6) (.tmp 18) rfl f rfl _ zf el rfl X5 4 r3b HZF EL EO ?_;intro w6 X6 O6 hf3;have gc2:=(X6.out.cell 2).trans E2.out;have gc1:=(X6.out.cell 1).trans E1.out)
     | fail)
    refine(CPj.out _).mono ?_;rintro e w7 ⟨A',er,rfl,hh,L7⟩;have gc0:=((X6.out.over L7).cell 0).trans E0.out;have L6:Hid (Below wr.heap.size wr w6):=c0a L5.out O6.out hf1;have L67:Hid (Below wr.heap.size wr w7):=step L6.out L7;have R7:Hid (Blk w7 gb 5 (row.map (Value.int .u8))):=RR.out.over L67.out;have F7:Hid (Blk w7 G 80 (D5a p h)):=FF.out.over L67.out;have B7:Hid (Blk w7 g 28 cs):=BB.out.over L67.out;have L77:=hI (step LL.out L67.out);have HFIT:Hid (off+sz<=(row.map (Value.int .u8)).length):=by show _<=_;rw[List.length_map,HLN.out];omega
    have HLE:Hid ((le n sz).length=sz):=g0a _ _;obtain⟨xs,hxs⟩:∃xs,xs=le n sz:=⟨_,rfl⟩;rw[<-hxs] at hh HST HLE;clear RR FF BB LL L5 O6 L6 L67 L7 X5 X6 gc2 gc1 RNG hxs CPj;go_wp2_with(first
     | ((with_reducible refine sN 32 ?_);refine S6a rfl (.tmp 30) (.tmp 31) rfl gb off 5 (64-off) (64-off) sz sz A' (by first | rfl | (show Value.slice _ _ _=_;simp[Addr.add_mid])) rfl _ xs _ R7 hh (by omega) (by omega) HFIT ?_;intro w8 R8 O8)
     | fail)
    have R8':Hid (Row w8 gb (i2b h (j+1))):=by have:=R8.out;rw[S0b,HLE.out,HST.out] at this;exact this
    have F8:Hid (Blk w8 G 80 (D5a p h)):=F7.out.only O8.out (by omega);have B8:Hid (Blk w8 g 28 cs):=B7.out.only O8.out (by omega);have L8:Hid (Below w.heap.size w w8):=c0a L77.out O8.out (by omega);clear R8 R7 F7 B7 L77 O8;go_roundw
    case rel=>exact⟨j+1,by omega,by go_num,R8',F8,B8,L8⟩
    case measure=>simp[intOf];omega
   ·obtain rfl:j=11:=by omega
    have RRd:Hid (Blk wr.drew gb 5 ((i2b h 11).map (Value.int .u8))):=RR.out;have BBd:HB wr.drew g h:=HB.of HC.out BB.out;have SG:=hI (BBd.sig HK.out);have LLd:Hid (Below w.heap.size w wr.drew):=LL.out.drew;have HFIT:Hid (48+16<=((i2b h 11).map (Value.int .u8)).length):=by show _<=_;rw[List.length_map,U2b h 11 (by omega)];omega
    have HE:Hid ((i2b h 11).take 48++h.sg++(i2b h 11).drop (48+h.sg.length)=e6a h):=by show _=_;rw[HK.out.len];exact B7b h
    obtain⟨row,hrow⟩:∃row,row=i2b h 11:=⟨_,rfl⟩;rw[<-hrow] at RRd HFIT HE;clear hrow RR FF BB LL BBd hj;go_upto_region 10 with fail
    go_region_law ((refine z8a rfl (.tmp 35) (.tmp 37) rfl gb 48 5 16 16 16 16 (some ⟨g,10,none⟩) rfl rfl _ h.sg _ RRd SG.out (by decide) (by decide) HFIT ?_;intro w5 R5 O5));go_wp2;go_ret2;refine HQ.out _ _ ⟨_,rfl,.inr ⟨gb,rfl,hgw,?_⟩,c0a LLd.out O5.out hgw⟩;have:=R5.out;rw[S0b,HE.out] at this;exact this
 ·have hm':r0b h=false:=by simpa using hm
  have HQ:Hid (∀e w',(e=.returned (.tuple #[.slice none 0 0,.int .i64 2])/\Below w.heap.size w w')->X4a w h e w'):=by rintro e w' ⟨rfl,hb⟩;unfold X4a s8a b8a;rw[if_neg hm,if_neg hm];exact⟨none,rfl,.inl ⟨rfl,rfl⟩,hb⟩
  rw[hm'] at CM;obtain⟨cs,hcs⟩:∃cs,cs=o0a h:=⟨_,rfl⟩;unfold hv at CM⊢;rw[<-hcs] at CM HL⊢;clear hm hm' k hcs;go_enter Tryz.func20,Tryz.ntmps20;go_wp2_with(first
   | ((with_reducible refine sN 1 ?_);refine f0a rfl _ (.tmp 0) rfl cs rfl ?_;intro g w1 hg1 hg2 B1 L1)
   | ((with_reducible refine sN 9 ?_);refine e0a rfl _ (.tmp 1) rfl g rfl _ cs B1 26 _ Tryz.underlying28 rfl J0a HL ?_)
   | fail)
  refine(CM.out _).mono ?_;rintro e w2 ⟨rfl,L2⟩;go_wp2;go_ret2;exact HQ.out _ _ ⟨rfl,step L1.out L2⟩
theorem Q0a.over{w w' w2:World}{g:Nat}(a:Q0a g w w')(hb:Below w'.heap.size w' w2):Q0a g w w2:=a.trans (Q0a.of_below hb g)
theorem E8b(w:World)(p g:Nat)(h:Hd)(n:Int)(k:h.ok)(hn0:0<=n)(hn1:n<=65535)(B:HB w g h)(Pp:Blk w p 77 [.pointer (some ⟨g,0,none⟩)]) :
  Calls Tryz.prog 68 #[.int .u64 n,.pointer (some ⟨p,0,none⟩)] w λe w'=>e=.returned (.tuple #[])/\HB w' g { h with ch:=n }/\Q0a g w w':=by
 have hw:IntKind.u16.wrap n=n:=by rw[IntKind.wrap_u16];omega
 have gp:=Pp.cell 0;have HL:=hI (L0a k);have HE:Hid ((o0a h).set 0 (.int .u16 n)=o0a { h with ch:=n }):=rfl;obtain⟨cs,hcs⟩:∃cs,cs=o0a h:=⟨_,rfl⟩;obtain⟨ds,hds⟩:∃ds,ds=o0a { h with ch:=n }:=⟨_,rfl⟩;have HD:=hI hds;have BB:Hid (Blk w g 28 cs):=by rw[hcs];exact B
 rw[<-hcs,<-hds] at HE;rw[<-hcs] at HL;clear hcs hds B Pp k;go_enter Tryz.func68,Tryz.ntmps68;go_wp2_with(((with_reducible refine sT 7 ?_);refine d0a rfl _ (.tmp 7) (.tmp 5) rfl g 0 rfl _ cs (.int .u16 n) rfl BB (by have:=HL.out;show 0<_;omega) (by kernel_rfl) rfl ?_;intro w1 B1 O1 hg1;rw[HE.out] at B1));go_end0;exact⟨rfl,HB.of HD.out B1.out,Q0a.of_only O1.out⟩
theorem F8b(w:World)(p g:Nat)(h:Hd)(n:Int)(k:h.ok)(hn0:0<=n)(hn1:n<=4294967295)(B:HB w g h)(Pp:Blk w p 77 [.pointer (some ⟨g,0,none⟩)]) :
  Calls Tryz.prog 69 #[.int .u64 n,.pointer (some ⟨p,0,none⟩)] w λe w'=>e=.returned (.tuple #[])/\HB w' g { h with st:=n }/\Q0a g w w':=by
 have hw:IntKind.u32.wrap n=n:=by rw[IntKind.wrap_u32'];omega
 have gp:=Pp.cell 0;have HL:=hI (L0a k);have HE:Hid ((o0a h).set 1 (.int .u32 n)=o0a { h with st:=n }):=rfl;obtain⟨cs,hcs⟩:∃cs,cs=o0a h:=⟨_,rfl⟩;obtain⟨ds,hds⟩:∃ds,ds=o0a { h with st:=n }:=⟨_,rfl⟩;have HD:=hI hds;have BB:Hid (Blk w g 28 cs):=by rw[hcs];exact B
 rw[<-hcs,<-hds] at HE;rw[<-hcs] at HL;clear hcs hds B Pp k;go_enter Tryz.func69,Tryz.ntmps69;go_wp2_with(((with_reducible refine sT 7 ?_);refine d0a rfl _ (.tmp 7) (.tmp 5) rfl g 1 rfl _ cs (.int .u32 n) rfl BB (by have:=HL.out;show 1<_;omega) (by kernel_rfl) rfl ?_;intro w1 B1 O1 hg1;rw[HE.out] at B1));go_end0;exact⟨rfl,HB.of HD.out B1.out,Q0a.of_only O1.out⟩
theorem G8b(w:World)(p g:Nat)(h:Hd)(n:Int)(k:h.ok)(hn0:0<=n)(hn1:n<=65535)(B:HB w g h)(Pp:Blk w p 77 [.pointer (some ⟨g,0,none⟩)]) :
  Calls Tryz.prog 70 #[.int .u64 n,.pointer (some ⟨p,0,none⟩)] w λe w'=>e=.returned (.tuple #[])/\HB w' g { h with cm:=n }/\Q0a g w w':=by
 have hw:IntKind.u16.wrap n=n:=by rw[IntKind.wrap_u16];omega
 have gp:=Pp.cell 0;have HL:=hI (L0a k);have HE:Hid ((o0a h).set 2 (.int .u16 n)=o0a { h with cm:=n }):=rfl;obtain⟨cs,hcs⟩:∃cs,cs=o0a h:=⟨_,rfl⟩;obtain⟨ds,hds⟩:∃ds,ds=o0a { h with cm:=n }:=⟨_,rfl⟩;have HD:=hI hds;have BB:Hid (Blk w g 28 cs):=by rw[hcs];exact B
 rw[<-hcs,<-hds] at HE;rw[<-hcs] at HL;clear hcs hds B Pp k;go_enter Tryz.func70,Tryz.ntmps70;go_wp2_with(((with_reducible refine sT 7 ?_);refine d0a rfl _ (.tmp 7) (.tmp 5) rfl g 2 rfl _ cs (.int .u16 n) rfl BB (by have:=HL.out;show 2<_;omega) (by kernel_rfl) rfl ?_;intro w1 B1 O1 hg1;rw[HE.out] at B1));go_end0;exact⟨rfl,HB.of HD.out B1.out,Q0a.of_only O1.out⟩
theorem H8b(w:World)(p g:Nat)(h:Hd)(n:Int)(k:h.ok)(hn0:0<=n)(hn1:n<=65535)(B:HB w g h)(Pp:Blk w p 77 [.pointer (some ⟨g,0,none⟩)]) :
  Calls Tryz.prog 71 #[.int .u64 n,.pointer (some ⟨p,0,none⟩)] w λe w'=>e=.returned (.tuple #[])/\HB w' g { h with cr:=n }/\Q0a g w w':=by
 have hw:IntKind.u16.wrap n=n:=by rw[IntKind.wrap_u16];omega
 have gp:=Pp.cell 0;have HL:=hI (L0a k);have HE:Hid ((o0a h).set 3 (.int .u16 n)=o0a { h with cr:=n }):=rfl;obtain⟨cs,hcs⟩:∃cs,cs=o0a h:=⟨_,rfl⟩;obtain⟨ds,hds⟩:∃ds,ds=o0a { h with cr:=n }:=⟨_,rfl⟩;have HD:=hI hds;have BB:Hid (Blk w g 28 cs):=by rw[hcs];exact B
 rw[<-hcs,<-hds] at HE;rw[<-hcs] at HL;clear hcs hds B Pp k;go_enter Tryz.func71,Tryz.ntmps71;go_wp2_with(((with_reducible refine sT 7 ?_);refine d0a rfl _ (.tmp 7) (.tmp 5) rfl g 3 rfl _ cs (.int .u16 n) rfl BB (by have:=HL.out;show 3<_;omega) (by kernel_rfl) rfl ?_;intro w1 B1 O1 hg1;rw[HE.out] at B1));go_end0;exact⟨rfl,HB.of HD.out B1.out,Q0a.of_only O1.out⟩
theorem I8b(w:World)(p g:Nat)(h:Hd)(n:Int)(k:h.ok)(hn0:0<=n)(hn1:n<=4294967295)(B:HB w g h)(Pp:Blk w p 77 [.pointer (some ⟨g,0,none⟩)]) :
  Calls Tryz.prog 72 #[.int .u64 n,.pointer (some ⟨p,0,none⟩)] w λe w'=>e=.returned (.tuple #[])/\HB w' g { h with fl:=n }/\Q0a g w w':=by
 have hw:IntKind.u32.wrap n=n:=by rw[IntKind.wrap_u32'];omega
 have gp:=Pp.cell 0;have HL:=hI (L0a k);have HE:Hid ((o0a h).set 4 (.int .u32 n)=o0a { h with fl:=n }):=rfl;obtain⟨cs,hcs⟩:∃cs,cs=o0a h:=⟨_,rfl⟩;obtain⟨ds,hds⟩:∃ds,ds=o0a { h with fl:=n }:=⟨_,rfl⟩;have HD:=hI hds;have BB:Hid (Blk w g 28 cs):=by rw[hcs];exact B
 rw[<-hcs,<-hds] at HE;rw[<-hcs] at HL;clear hcs hds B Pp k;go_enter Tryz.func72,Tryz.ntmps72;go_wp2_with(((with_reducible refine sT 7 ?_);refine d0a rfl _ (.tmp 7) (.tmp 5) rfl g 4 rfl _ cs (.int .u32 n) rfl BB (by have:=HL.out;show 4<_;omega) (by kernel_rfl) rfl ?_;intro w1 B1 O1 hg1;rw[HE.out] at B1));go_end0;exact⟨rfl,HB.of HD.out B1.out,Q0a.of_only O1.out⟩
theorem J8b(w:World)(p g:Nat)(h:Hd)(n:Int)(k:h.ok)(hn0:0<=n)(hn1:n<=4294967295)(B:HB w g h)(Pp:Blk w p 77 [.pointer (some ⟨g,0,none⟩)]) :
  Calls Tryz.prog 73 #[.int .u64 n,.pointer (some ⟨p,0,none⟩)] w λe w'=>e=.returned (.tuple #[])/\HB w' g { h with nx:=n }/\Q0a g w w':=by
 have hw:IntKind.u32.wrap n=n:=by rw[IntKind.wrap_u32'];omega
 have gp:=Pp.cell 0;have HL:=hI (L0a k);have HE:Hid ((o0a h).set 5 (.int .u32 n)=o0a { h with nx:=n }):=rfl;obtain⟨cs,hcs⟩:∃cs,cs=o0a h:=⟨_,rfl⟩;obtain⟨ds,hds⟩:∃ds,ds=o0a { h with nx:=n }:=⟨_,rfl⟩;have HD:=hI hds;have BB:Hid (Blk w g 28 cs):=by rw[hcs];exact B
 rw[<-hcs,<-hds] at HE;rw[<-hcs] at HL;clear hcs hds B Pp k;go_enter Tryz.func73,Tryz.ntmps73;go_wp2_with(((with_reducible refine sT 7 ?_);refine d0a rfl _ (.tmp 7) (.tmp 5) rfl g 5 rfl _ cs (.int .u32 n) rfl BB (by have:=HL.out;show 5<_;omega) (by kernel_rfl) rfl ?_;intro w1 B1 O1 hg1;rw[HE.out] at B1));go_end0;exact⟨rfl,HB.of HD.out B1.out,Q0a.of_only O1.out⟩
theorem K8b(w:World)(p g:Nat)(h:Hd)(n:Int)(k:h.ok)(_:0<=n)(_:n<=18446744073709551615)(B:HB w g h)(Pp:Blk w p 77 [.pointer (some ⟨g,0,none⟩)]) :
  Calls Tryz.prog 74 #[.int .u64 n,.pointer (some ⟨p,0,none⟩)] w λe w'=>e=.returned (.tuple #[])/\HB w' g { h with id:=n }/\Q0a g w w':=by
 have gp:=Pp.cell 0;have HL:=hI (L0a k);have HE:Hid ((o0a h).set 6 (.int .u64 n)=o0a { h with id:=n }):=rfl;obtain⟨cs,hcs⟩:∃cs,cs=o0a h:=⟨_,rfl⟩;obtain⟨ds,hds⟩:∃ds,ds=o0a { h with id:=n }:=⟨_,rfl⟩;have HD:=hI hds;have BB:Hid (Blk w g 28 cs):=by rw[hcs];exact B
 rw[<-hcs,<-hds] at HE;rw[<-hcs] at HL;clear hcs hds B Pp k;go_enter Tryz.func74,Tryz.ntmps74;go_wp2_with(((with_reducible refine sT 6 ?_);refine d0a rfl _ (.tmp 6) (.tmp 4) rfl g 6 rfl _ cs (.int .u64 n) rfl BB (by have:=HL.out;show 6<_;omega) (by kernel_rfl) rfl ?_;intro w1 B1 O1 hg1;rw[HE.out] at B1));go_end0;exact⟨rfl,HB.of HD.out B1.out,Q0a.of_only O1.out⟩
theorem X6b(w:World)(p g:Nat)(h:Hd)(n:Int)(k:h.ok)(_:0<=n)(_:n<=18446744073709551615)(B:HB w g h)(Pp:Blk w p 77 [.pointer (some ⟨g,0,none⟩)]) :
  Calls Tryz.prog 78 #[.int .u64 n,.pointer (some ⟨p,0,none⟩)] w λe w'=>e=.returned (.tuple #[])/\HB w' g { h with se:=n }/\Q0a g w w':=by
 have gp:=Pp.cell 0;have HL:=hI (L0a k);have HE:Hid ((o0a h).set 9 (.int .u64 n)=o0a { h with se:=n }):=rfl;obtain⟨cs,hcs⟩:∃cs,cs=o0a h:=⟨_,rfl⟩;obtain⟨ds,hds⟩:∃ds,ds=o0a { h with se:=n }:=⟨_,rfl⟩;have HD:=hI hds;have BB:Hid (Blk w g 28 cs):=by rw[hcs];exact B
 rw[<-hcs,<-hds] at HE;rw[<-hcs] at HL;clear hcs hds B Pp k;go_enter Tryz.func78,Tryz.ntmps78;go_wp2_with(((with_reducible refine sT 6 ?_);refine d0a rfl _ (.tmp 6) (.tmp 4) rfl g 9 rfl _ cs (.int .u64 n) rfl BB (by have:=HL.out;show 9<_;omega) (by kernel_rfl) rfl ?_;intro w1 B1 O1 hg1;rw[HE.out] at B1));go_end0;exact⟨rfl,HB.of HD.out B1.out,Q0a.of_only O1.out⟩
theorem o4b(w:World)(n:Int):Calls Tryz.prog 67 #[.int .u64 n] w λe w'=>e=.returned (.tuple #[])/\w=w':=by go_enter Tryz.func67,Tryz.ntmps67;go_wp2;go_end0;exact⟨rfl,rfl⟩
def p4b(n:Int)(h:Hd):Hd:=if d6a h.fl=true then { h with asy:=n } else { h with tr:=n/4294967296 }
theorem Y6b(w:World)(g:Nat)(h:Hd)(n:Int)(k:h.ok)(hn0:0<=n)(hn1:n<=18446744073709551615)(B:HB w g h) :
  Calls Tryz.prog 77 #[.pointer (some ⟨g,0,none⟩),.int .u64 n] w λe w'=>e=.returned (.tuple #[])/\HB w' g (p4b n h)/\Q0a g w w':=by
 have C0:Hid (∀w:World,Calls Tryz.prog 106 #[hv h] w λe w'=>e=.returned (.bool (d6a h.fl))/\Below w.heap.size w w'):=λw=>k8a w h k
 have hw:IntKind.u32.wrap (n/4294967296)=n/4294967296:=by rw[IntKind.wrap_u32'];omega
 have HL:=hI (L0a k);have h7:d6a h.fl=true->(o0a h).set 7 (.int .u64 n)=o0a (p4b n h):=λhi=>by unfold p4b;rw[if_pos hi];rfl
 have h8:d6a h.fl=false->(o0a h).set 8 (.int .u32 (n/4294967296))=o0a (p4b n h):=λhi=>by unfold p4b;rw[if_neg (by rw[hi];decide)];rfl
 obtain⟨cs,hcs⟩:∃cs,cs=o0a h:=⟨_,rfl⟩;obtain⟨ds,hds⟩:∃ds,ds=o0a (p4b n h):=⟨_,rfl⟩;have HD:=hI hds;have BB:Hid (Blk w g 28 cs):=by rw[hcs];exact B
 unfold hv at C0;rw[<-hcs] at HL C0 h7 h8;rw[<-hds] at h7 h8;clear hcs hds B k;by_cases hi:d6a h.fl=true
 ·rw[hi] at C0;have HE:=hI (h7 hi);clear hi h7 h8;go_enter Tryz.func77,Tryz.ntmps77;go_wp2_with(first
   | ((with_reducible refine sN 6 ?_);refine e0a rfl _ (.tmp 5) rfl g rfl _ cs BB 26 _ Tryz.underlying28 rfl J0a HL ?_)
   | fail)
  refine(C0.out _).mono ?_;rintro e w2 ⟨rfl,L2⟩;have B2:=hI (BB.out.over L2);go_wp2_with(((with_reducible refine sT 11 ?_);refine d0a rfl _ (.tmp 11) (.tmp 9) rfl g 7 rfl _ cs (.int .u64 n) rfl B2 (by have:=HL.out;show 7<_;omega) (by kernel_rfl) rfl ?_;intro w3 B3 O3 hg3;rw[HE.out] at B3));go_end0;exact⟨rfl,HB.of HD.out B3.out,(Q0a.of_below L2 g).trans (Q0a.of_only O3.out)⟩
 ·have hi':d6a h.fl=false:=by simpa using hi
  rw[hi'] at C0;have HE:=hI (h8 hi');clear hi hi' h7 h8;go_enter Tryz.func77,Tryz.ntmps77;go_wp2_with(first
   | ((with_reducible refine sN 6 ?_);refine e0a rfl _ (.tmp 5) rfl g rfl _ cs BB 26 _ Tryz.underlying28 rfl J0a HL ?_)
   | fail)
  refine(C0.out _).mono ?_;rintro e w2 ⟨rfl,L2⟩;have B2:=hI (BB.out.over L2);go_wp2_with(((with_reducible refine sT 17 ?_);refine d0a rfl _ (.tmp 17) (.tmp 15) rfl g 8 rfl _ cs (.int .u32 (n/4294967296)) rfl B2 (by have:=HL.out;show 8<_;omega) (by kernel_rfl) rfl ?_;intro w3 B3 O3 hg3;rw[HE.out] at B3));go_end0;exact⟨rfl,HB.of HD.out B3.out,(Q0a.of_below L2 g).trans (Q0a.of_only O3.out)⟩
theorem L8b(w:World)(p g:Nat)(h:Hd)(n:Int)(k:h.ok)(hn0:0<=n)(hn1:n<=18446744073709551615)(B:HB w g h)(Pp:Blk w p 77 [.pointer (some ⟨g,0,none⟩)]) :
  Calls Tryz.prog 76 #[.int .u64 n,.pointer (some ⟨p,0,none⟩)] w λe w'=>e=.returned (.tuple #[])/\HB w' g (p4b n h)/\Q0a g w w':=by
 have C0:=hI (Y6b w g h n k hn0 hn1 B);have gp:=Pp.cell 0;clear B Pp k;go_enter Tryz.func76,Tryz.ntmps76;go_wp2_with fail;refine C0.out.mono ?_;rintro e w2 ⟨rfl,B2,S2⟩;go_wp2;go_end0;exact⟨rfl,B2,S2⟩
theorem M8b{j:Nat}(a b:Value)(h:j<2):(#[a]++(if j<2 then #[] else #[b]))=#[a]:=by rw[if_pos h];rfl
theorem v6a{j:Nat}(a b:Value)(h:¬j<2):(#[a]++(if j<2 then #[] else #[b]))=#[a,b]:=by rw[if_neg h];rfl
def k5a(w:World)(p g:Nat)(h:Hd)(n:Int)(j:Nat):Prop:=Calls Tryz.prog (fnk j) (#[.int .u64 n]++(if j<2 then #[] else #[.pointer (some ⟨p,0,none⟩)])) w λe w'=>e=.returned (.tuple #[])/\HB w' g (F3b j n h)/\Q0a g w w'
theorem i2c(w:World)(p g:Nat)(h:Hd)(n:Int)(B:HB w g h):k5a w p g h n 0:=by unfold k5a;rw[M8b _ _ (by decide),show fnk 0=67 from rfl,show F3b 0 n h=h from rfl];exact(o4b w n).mono λe w' ⟨he,hw⟩=>⟨he,hw▸B,hw▸Q0a.refl _ _⟩
theorem j2c(w:World)(p g:Nat)(h:Hd)(n:Int)(B:HB w g h):k5a w p g h n 1:=by unfold k5a;rw[M8b _ _ (by decide),show fnk 1=67 from rfl,show F3b 1 n h=h from rfl];exact(o4b w n).mono λe w' ⟨he,hw⟩=>⟨he,hw▸B,hw▸Q0a.refl _ _⟩
theorem k2c(w:World)(p g:Nat)(h:Hd)(n:Int)(k:h.ok)(hn0:0<=n)(hn1:n<256^2)(B:HB w g h)(Pp:Blk w p 77 [.pointer (some ⟨g,0,none⟩)]):k5a w p g h n 2:=by
 unfold k5a;rw[v6a _ _ (by decide),show fnk 2=68 from rfl,show F3b 2 n h={ h with ch:=n } from rfl];have e:(256:Int)^2=65536:=by decide
 exact E8b w p g h n k hn0 (by omega) B Pp
theorem l2c(w:World)(p g:Nat)(h:Hd)(n:Int)(k:h.ok)(hn0:0<=n)(hn1:n<256^4)(B:HB w g h)(Pp:Blk w p 77 [.pointer (some ⟨g,0,none⟩)]):k5a w p g h n 3:=by
 unfold k5a;rw[v6a _ _ (by decide),show fnk 3=69 from rfl,show F3b 3 n h={ h with st:=n } from rfl];have e:(256:Int)^4=4294967296:=by decide
 exact F8b w p g h n k hn0 (by omega) B Pp
theorem m2c(w:World)(p g:Nat)(h:Hd)(n:Int)(k:h.ok)(hn0:0<=n)(hn1:n<256^2)(B:HB w g h)(Pp:Blk w p 77 [.pointer (some ⟨g,0,none⟩)]):k5a w p g h n 4:=by
 unfold k5a;rw[v6a _ _ (by decide),show fnk 4=70 from rfl,show F3b 4 n h={ h with cm:=n } from rfl];have e:(256:Int)^2=65536:=by decide
 exact G8b w p g h n k hn0 (by omega) B Pp
theorem n2c(w:World)(p g:Nat)(h:Hd)(n:Int)(k:h.ok)(hn0:0<=n)(hn1:n<256^2)(B:HB w g h)(Pp:Blk w p 77 [.pointer (some ⟨g,0,none⟩)]):k5a w p g h n 5:=by
 unfold k5a;rw[v6a _ _ (by decide),show fnk 5=71 from rfl,show F3b 5 n h={ h with cr:=n } from rfl];have e:(256:Int)^2=65536:=by decide
 exact H8b w p g h n k hn0 (by omega) B Pp
theorem o2c(w:World)(p g:Nat)(h:Hd)(n:Int)(k:h.ok)(hn0:0<=n)(hn1:n<256^4)(B:HB w g h)(Pp:Blk w p 77 [.pointer (some ⟨g,0,none⟩)]):k5a w p g h n 6:=by
 unfold k5a;rw[v6a _ _ (by decide),show fnk 6=72 from rfl,show F3b 6 n h={ h with fl:=n } from rfl];have e:(256:Int)^4=4294967296:=by decide
 exact I8b w p g h n k hn0 (by omega) B Pp
theorem p2c(w:World)(p g:Nat)(h:Hd)(n:Int)(k:h.ok)(hn0:0<=n)(hn1:n<256^4)(B:HB w g h)(Pp:Blk w p 77 [.pointer (some ⟨g,0,none⟩)]):k5a w p g h n 7:=by
 unfold k5a;rw[v6a _ _ (by decide),show fnk 7=73 from rfl,show F3b 7 n h={ h with nx:=n } from rfl];have e:(256:Int)^4=4294967296:=by decide
 exact J8b w p g h n k hn0 (by omega) B Pp
theorem q2c(w:World)(p g:Nat)(h:Hd)(n:Int)(k:h.ok)(hn0:0<=n)(hn1:n<256^8)(B:HB w g h)(Pp:Blk w p 77 [.pointer (some ⟨g,0,none⟩)]):k5a w p g h n 8:=by
 unfold k5a;rw[v6a _ _ (by decide),show fnk 8=74 from rfl,show F3b 8 n h={ h with id:=n } from rfl];have e:(256:Int)^8=18446744073709551616:=by decide
 exact K8b w p g h n k hn0 (by omega) B Pp
theorem r2c(w:World)(p g:Nat)(h:Hd)(n:Int)(k:h.ok)(hn0:0<=n)(hn1:n<256^8)(B:HB w g h)(Pp:Blk w p 77 [.pointer (some ⟨g,0,none⟩)]):k5a w p g h n 9:=by
 unfold k5a;rw[v6a _ _ (by decide),show fnk 9=76 from rfl,show F3b 9 n h=p4b n h from rfl];have e:(256:Int)^8=18446744073709551616:=by decide
 exact L8b w p g h n k hn0 (by omega) B Pp
theorem j1c(w:World)(p g:Nat)(h:Hd)(n:Int)(k:h.ok)(hn0:0<=n)(hn1:n<256^8)(B:HB w g h)(Pp:Blk w p 77 [.pointer (some ⟨g,0,none⟩)]):k5a w p g h n 10:=by
 unfold k5a;rw[v6a _ _ (by decide),show fnk 10=78 from rfl,show F3b 10 n h={ h with se:=n } from rfl];have e:(256:Int)^8=18446744073709551616:=by decide
 exact X6b w p g h n k hn0 (by omega) B Pp
theorem N8b(w:World)(p g:Nat)(h:Hd)(n:Int)(k:h.ok)(j:Nat)(hj:j<11)(hn0:0<=n)(hn1:n<256^szs.getD j 0)(B:HB w g h)(Pp:Blk w p 77 [.pointer (some ⟨g,0,none⟩)]):k5a w p g h n j:=by
 match j,hj,hn1 with
 | 0,_,_=>exact i2c w p g h n B
 | 1,_,_=>exact j2c w p g h n B
 | 2,_,hn1=>exact k2c w p g h n k hn0 hn1 B Pp
 | 3,_,hn1=>exact l2c w p g h n k hn0 hn1 B Pp
 | 4,_,hn1=>exact m2c w p g h n k hn0 hn1 B Pp
 | 5,_,hn1=>exact n2c w p g h n k hn0 hn1 B Pp
 | 6,_,hn1=>exact o2c w p g h n k hn0 hn1 B Pp
 | 7,_,hn1=>exact p2c w p g h n k hn0 hn1 B Pp
 | 8,_,hn1=>exact q2c w p g h n k hn0 hn1 B Pp
 | 9,_,hn1=>exact r2c w p g h n k hn0 hn1 B Pp
 | 10,_,hn1=>exact j1c w p g h n k hn0 hn1 B Pp
theorem k1c{h:Hd}(k:h.ok)(j:Nat)(hj:j<11)(n:Int)(hn0:0<=n)(hn1:n<256^szs.getD j 0):(F3b j n h).ok:=by
 have e2:(256:Int)^2=65536:=by decide
 have e4:(256:Int)^4=4294967296:=by decide
 have e8:(256:Int)^8=18446744073709551616:=by decide
 revert hn1;refine S7a (p:=λj=>n<256^szs.getD j 0->(F3b j n h).ok) ?_ ?_ ?_ ?_ ?_ ?_ ?_ ?_ ?_ ?_ ?_ j hj<;>intro hn1
 ·exact k
 ·exact k
 ·change n<256^2 at hn1;exact⟨by show 0<=n/\n<=_;omega,k.st,k.cm,k.cr,k.fl,k.nx,k.id,k.asy,k.tr,k.se,k.len,k.byte⟩
 ·change n<256^4 at hn1;exact⟨k.ch,by show 0<=n/\n<=_;omega,k.cm,k.cr,k.fl,k.nx,k.id,k.asy,k.tr,k.se,k.len,k.byte⟩
 ·change n<256^2 at hn1;exact⟨k.ch,k.st,by show 0<=n/\n<=_;omega,k.cr,k.fl,k.nx,k.id,k.asy,k.tr,k.se,k.len,k.byte⟩
 ·change n<256^2 at hn1;exact⟨k.ch,k.st,k.cm,by show 0<=n/\n<=_;omega,k.fl,k.nx,k.id,k.asy,k.tr,k.se,k.len,k.byte⟩
 ·change n<256^4 at hn1;exact⟨k.ch,k.st,k.cm,k.cr,by show 0<=n/\n<=_;omega,k.nx,k.id,k.asy,k.tr,k.se,k.len,k.byte⟩
 ·change n<256^4 at hn1;exact⟨k.ch,k.st,k.cm,k.cr,k.fl,by show 0<=n/\n<=_;omega,k.id,k.asy,k.tr,k.se,k.len,k.byte⟩
 ·change n<256^8 at hn1;exact⟨k.ch,k.st,k.cm,k.cr,k.fl,k.nx,by show 0<=n/\n<=_;omega,k.asy,k.tr,k.se,k.len,k.byte⟩
 ·change n<256^8 at hn1
  show(if d6a h.fl=true then { h with asy:=n } else { h with tr:=n/4294967296 }).ok
  split
  ·exact⟨k.ch,k.st,k.cm,k.cr,k.fl,k.nx,k.id,by show 0<=n/\n<=_;omega,k.tr,k.se,k.len,k.byte⟩
  ·exact⟨k.ch,k.st,k.cm,k.cr,k.fl,k.nx,k.id,k.asy,by show 0<=n/4294967296/\n/4294967296<=_;omega,k.se,k.len,k.byte⟩
 ·change n<256^8 at hn1;exact⟨k.ch,k.st,k.cm,k.cr,k.fl,k.nx,k.id,k.asy,k.tr,by show 0<=n/\n<=_;omega,k.len,k.byte⟩
theorem s2c(xs:List Int)(hx:Bytes xs)(j:Nat)(hj:j<=11):(tk xs j).ok:=by
 induction j with
 | zero=>exact o3a
 | succ j ih=>have:=C7b xs hx j;exact k1c (ih (by omega)) j (by omega) _ this.1 this.2
theorem a0c(xs:List Int)(hl:xs.length=64)(j:Nat)(hj:j<11):r4a xs (N6a.getD j 0:Nat) (szs.getD j 0:Nat)=Z0a xs (N6a.getD j 0) (szs.getD j 0):=by
 have h1:=a4a j hj;have hp:R0a xs.length (N6a.getD j 0:Nat) (szs.getD j 0:Nat)=0:=by unfold R0a;rw[if_neg (by omega),if_neg (by omega)]
 unfold r4a j2a Z0a;rw[if_pos (x7b j hj),if_pos hp,Int.toNat_natCast,Int.toNat_natCast]
theorem b0c(j:Nat)(hj:j<11)(args:Array Value)(w:World):(callFunc (fnk j) args).run Tryz.prog w=.ok (.enter (fnk j) args) w:=by refine S7a (p:=λj=>(callFunc (fnk j) args).run Tryz.prog w=.ok (.enter (fnk j) args) w) ?_ ?_ ?_ ?_ ?_ ?_ ?_ ?_ ?_ ?_ ?_ j hj<;>(unfold fnk;go_simp)
theorem O8b(w:World)(A:Option Addr)(c:Nat)(xs:List Int)(hx:Holds w w.heap.size A 64 c xs) :
  Calls Tryz.prog 59 #[.slice A 64 c] w λe w'=>e=.returned (hv (F1a xs))/\Below w.heap.size w w':=by
 have hl:=hx.len;have CF:Hid (∀(w:World) (g:Nat),HB w g N1a->Calls Tryz.prog 36 #[.pointer (some ⟨g,0,none⟩)] w (O7a w g N1a)):=λw g B=>A2b w g N1a o3a B
 have CG:Hid (∀(w:World) (B:Nat),Holds w B A 64 c xs->∀j,j<11->Calls Tryz.prog 102 #[.slice A 64 c,.int .i64 (N6a.getD j 0:Nat),.int .i64 (szs.getD j 0:Nat)] w λe w'=>∃er,e=.returned (.tuple #[.int .u64 (Z0a xs (N6a.getD j 0) (szs.getD j 0)),.int .i64 er])/\w=w'):=λw B hh j hj=>by have h1:=a4a j hj;rw[<-a0c xs hl j hj];exact(c8a w B A 64 c xs _ _ hh (by omega) (by omega)).mono λe w' ⟨he,hw⟩=>⟨_,he,hw⟩
 have TK:Hid (∀(w:World) (p g:Nat) (j:Nat),j<11->HB w g (tk xs j)->Blk w p 77 [.pointer (some ⟨g,0,none⟩)]->
   Calls Tryz.prog (fnk j) (#[.int .u64 (Z0a xs (N6a.getD j 0) (szs.getD j 0))]++(if j<2 then #[] else #[.pointer (some ⟨p,0,none⟩)])) w λe w'=>e=.returned (.tuple #[])/\HB w' g (tk xs (j+1))/\Q0a g w w'):=λw p g j hj B Pp=>by
  have h1:=C7b xs hx.byte j;exact N8b w p g (tk xs j) _ (s2c xs hx.byte j (by omega)) j hj h1.1 h1.2 B Pp
 have HX:=hI hx;have ZH:=hI p9a;have HZ:=hI (L0a o3a);have HZO:=hI (v2a N1a);have BH:=M5b;have T0:Hid (tk xs 0=N1a):=rfl;have K11:=hI (s2c xs hx.byte 11 (Nat.le_refl _));have KF:Hid ((F1a xs).ok):=O6a xs hx.byte hl;have HS:Hid (((xs.drop 48).take 16).length=16):=by show _=_;simp[hl]
 have HT:Hid ({ tk xs 11 with sg:=(xs.drop 48).take 16 }=F1a xs):=rfl;have SP:=hI (hx.part (k:=48) (m:=16) (c':=c-48) (by omega) (by omega) (by have:=hx.fit;omega));have hc64:=hx.fit;obtain⟨zs,hzs⟩:∃zs,zs=o0a N1a:=⟨_,rfl⟩;have HZS:=hI hzs;rw[<-hzs] at ZH HZ HZO BH;have ZF:=hI D8b;obtain⟨zf,hzf⟩:∃zf,zf=i1c:=⟨_,rfl⟩;have HZF:Hid (zf.length=4):=by rw[hzf];rfl
 rw[<-hzf] at ZF;obtain⟨b,off,rfl,_,_⟩:=hx.cells (by omega);clear hx hl hzs hzf;go_enter Tryz.func59,Tryz.ntmps59;go_wp2_with(first
  | ((with_reducible refine sN 2 ?_);refine a0a rfl _ rfl zs _ ZH ?_;intro g0 w1 hg1 hg2 B1 L1)
  | ((with_reducible refine sN 8 ?_);refine x0a rfl _ rfl zs BH ?_)
  | ((with_reducible refine sN 3 ?_);refine a0a rfl _ rfl zs _ ZH ?_;intro g w2 hg3 hg4 X2 L2)
  | ((with_reducible refine sT 3 ?_);refine b0a rfl _ (.tmp 3) (.tmp 8) rfl g rfl _ zs zs rfl X2 26 J0a HZ HZ HZO ?_;intro w3 X3 O3 hg5)
  | fail)
 have hs2:=L2.out.size;have L13:Hid (Below w.heap.size w w3):=c0a (step L1.out L2.out) O3.out (by omega);have B3:Hid (Blk w3 g0 28 zs):=(B1.out.over L2.out).only O3.out (by omega);have hgg:g0<g:=by omega
 have hgw:w.heap.size<=g0:=hg1;refine(CF.out _ g (HB.of HZS.out X3.out)).mono ?_;rintro e w4 ⟨p,G,rfl,hp,hpG,P4,F4,L4⟩;have X4:Hid (HB w4 g (tk xs 0)):=by rw[T0.out];exact HB.of HZS.out (X3.out.over L4)
 have B4:Hid (Blk w4 g0 28 zs):=B3.out.over L4;have L14:=hI (step L13.out L4);have hgp:g<p:=by omega
 have P4':=hI P4;have F4':=hI F4;clear B1 L1 X2 L2 X3 O3 L13 B3 P4 F4 L4 hs2 hg1 hg2 hg3 hg4 hg5 hp CF T0;go_wp2_with fail;go_loopw [5,6,7,11] (λ_ _ _ i wr=>∃j:Nat,j<=11/\i=.int .i64 j/\Hid (HB wr g (tk xs j))/\Hid (Blk wr G 80 (D5a p N1a))/\Hid (Blk wr p 77 [.pointer (some ⟨g,0,none⟩)])/\Hid (Blk wr g0 28 zs)/\Hid (Below w.heap.size w wr)) (λ_ _ _ i _=>11-(intOf i).toNat)
 case atStart=>exact⟨0,Nat.zero_le _,rfl,X4,F4',P4',B4,L14⟩
 case round=>
  clear X4 F4' P4' B4 L14;obtain⟨j,hj,rfl,XX,FF,PP,BB,LL⟩:=hrel;by_cases hlt:j<11
  ·have h1:=a4a j hlt;have hrange:=O9a FF.out j hlt;have CGj:Hid (∀(w:World) (B:Nat),Holds w B (some ⟨b,off,none⟩) 64 c xs->Calls Tryz.prog 102 #[.slice (some ⟨b,off,none⟩) 64 c,.int .i64 (N6a.getD j 0:Nat),.int .i64 (szs.getD j 0:Nat)] w λe w'=>∃er,e=.returned (.tuple #[.int .u64 (Z0a xs (N6a.getD j 0) (szs.getD j 0)),.int .i64 er])/\w=w'):=λw B hh=>CG.out w B hh j hlt
   have TKj:Hid (∀(w:World),HB w g (tk xs j)->Blk w p 77 [.pointer (some ⟨g,0,none⟩)]->
    Calls Tryz.prog (fnk j) (#[.int .u64 (Z0a xs (N6a.getD j 0) (szs.getD j 0))]++(if j<2 then #[] else #[.pointer (some ⟨p,0,none⟩)])) w λe w'=>e=.returned (.tuple #[])/\HB w' g (tk xs (j+1))/\Q0a g w w'):=λw B Pp=>TK.out w p g j hlt B Pp
   have EL:Hid ((fel p N1a j).length=4):=rfl;have EO:=hI (C8b p N1a j);have E0:Hid ((fel p N1a j)[0]? = some (.int .i64 (N6a.getD j 0:Nat))):=rfl;have E1:Hid ((fel p N1a j)[1]? = some (.int .i64 (szs.getD j 0:Nat))):=rfl;have E3:Hid ((fel p N1a j)[3]? = some (.func (.func (fnk j)) #[] (if j<2 then #[] else #[.pointer (some ⟨p,0,none⟩)]))):=rfl;obtain⟨el,hel⟩:∃el,el=fel p N1a j:=⟨_,rfl⟩;rw[<-hel] at EL EO E0 E1 E3 hrange;obtain⟨n,hn⟩:∃n,n=Z0a xs (N6a.getD j 0) (szs.getD j 0):=⟨_,rfl⟩;rw[<-hn] at CGj TKj;obtain⟨at_,hat⟩:∃at_,at_=N6a.getD j 0:=⟨_,rfl⟩;obtain⟨sz,hsz⟩:∃sz,sz=szs.getD j 0:=⟨_,rfl⟩;have hcf:=b0c j hlt;obtain⟨F,hF⟩:∃F,F=fnk j:=⟨_,rfl⟩;obtain⟨cap,hcap⟩:∃cap:Array Value,cap=if j<2 then #[] else #[.pointer (some ⟨p,0,none⟩)]:=⟨_,rfl⟩
   rw[<-hat] at E0 CGj h1;rw[<-hsz] at E1 CGj h1;rw[<-hF,<-hcap] at E3 TKj;rw[<-hF] at hcf;obtain⟨_,h48,hs2,hs8⟩:=h1;have RNG:=hI hrange;have hgl:=XX.out.lt;have hGl:=FF.out.lt;have hpl:=PP.out.lt;have hwl:=LL.out.size;clear hel hn hat hsz hF hcap hrange CG TK;go_wp2_with(first
    | ((with_reducible refine sN 14 ?_);refine wpList_load_mid rfl _ (.tmp 13) rfl G (j*4) rfl el _ RNG.out Tryz.underlying80 rfl (by rw[r3b,EL.out]) ?_)
    | ((with_reducible refine sN 5 ?_);refine a0a rfl _ rfl zf _ ZF ?_;intro f w5 hf1 hf2 X5 L5)
    | ((with_reducible refine sT 5 ?_);refine b0a rfl _ (.tmp 5) (.tmp 14) rfl f rfl _ zf el rfl X5 4 r3b HZF EL EO ?_;intro w6 X6 O6 hf3;have gc0:=(X6.out.cell 0).trans E0.out;have gc1:=(X6.out.cell 1).trans E1.out;have gc3:=(X6.out.cell 3).trans E3.out)
    | fail)
   have L6:Hid (Below wr.heap.size wr w6):=c0a L5.out O6.out hf1;have L66:=hI (step LL.out L6.out);refine(CGj.out w6 _ (HX.out.below L66.out)).mono ?_;rintro e w7 ⟨er,rfl,rfl⟩;have X7:Hid (HB w6 g (tk xs j)):=Blk.over XX.out L6.out;have P7:=hI (PP.out.over L6.out);go_wp2_with fail;refine(TKj.out w6 X7.out P7.out).mono ?_;rintro e w8 ⟨rfl,X8,S8⟩;have hg6:=X7.out.lt;have LS:Hid (Below w.heap.size w w8):=L66.out.trans (S8.below (by omega) (by have:=L66.out.size;omega));have F8:Hid (Blk w8 G 80 (D5a p N1a)):=(FF.out.over L6.out).save S8 (by omega);have P8:Hid (Blk w8 p 77 [.pointer (some ⟨g,0,none⟩)]):=P7.out.save S8 (by omega);have B8:Hid (Blk w8 g0 28 zs):=(BB.out.over L6.out).save S8 (by omega);have X8':=hI X8;clear XX FF PP BB LL L5 O6 L6 L66 X5 X6 gc0 gc1 gc3 RNG CGj TKj X7 P7 hcf S8 X8;go_wp2_with fail;go_roundw
   case rel=>exact⟨j+1,by omega,by go_num,X8',F8,P8,B8,LS⟩
   case measure=>simp[intOf];omega
  ·obtain rfl:j=11:=by omega
   have hgl:=XX.out.lt;have XD:Hid (Blk wr.drew g 28 (o0a (tk xs 11))):=XX.out;have SD:Hid (Holds wr.drew w.heap.size (some ⟨b,off+48,none⟩) 16 (c-48) ((xs.drop 48).take 16)):=by have h1:=(SP.out.below LL.out).drew;rw[show Option.map (λx:Addr=>x.add 48) (some ⟨b,off,none⟩)=some ⟨b,off+48,none⟩ from by simp[Addr.add_mid]] at h1;exact h1
   have BD:Hid (Blk wr.drew g0 28 zs):=BB.out;have LD:Hid (Below w.heap.size w wr.drew):=LL.out.drew;have HF:Hid (10+16<=(o0a (tk xs 11)).length):=by show _<=_;rw[L0a K11.out];omega
   have HSP:Hid (spliced (o0a (tk xs 11)) 10 ((xs.drop 48).take 16)=o0a (F1a xs)):=by
    show _=_
    rw[T4b _ _ K11.out.len HS.out,HT.out]
   have HLT:=hI (L0a KF.out);have HOT:=hI (v2a (F1a xs));have HQ:Hid (hv (F1a xs)=.agg (o0a (F1a xs)).toArray):=rfl;obtain⟨ts,hts⟩:∃ts,ts=o0a (tk xs 11):=⟨_,rfl⟩;obtain⟨us,hus⟩:∃us,us=o0a (F1a xs):=⟨_,rfl⟩;obtain⟨ss,hss⟩:∃ss,ss=(xs.drop 48).take 16:=⟨_,rfl⟩;rw[<-hts] at XD HF HSP;rw[<-hus] at HSP HLT HOT HQ;rw[<-hss] at SD HSP;clear hts hus hss XX FF PP BB LL CG TK SP HS HT K11 KF HX hj;have hc48:¬c=48:=by omega
   go_upto_region 8 with fail
   go_region_law ((refine z8a rfl (.tmp 30) (.tmp 32) rfl g 10 28 16 16 16 (c-48) (some ⟨b,off+48,none⟩) rfl rfl ts ss _ XD SD.out (by decide) (by decide) HF ?_;intro w5 X5 O5;rw[HSP.out] at X5;have B5:=hI (BD.out.only O5.out (by omega))));go_wp2_with(first
    | ((with_reducible refine sN 34 ?_);refine e0a rfl _ (.tmp 3) rfl g rfl _ us X5 26 _ Tryz.underlying28 rfl J0a HLT ?_)
    | ((with_reducible refine sT 2 ?_);refine b0a rfl _ (.tmp 2) (.tmp 34) rfl g0 rfl _ zs us rfl B5 26 J0a HZ HLT HOT ?_;intro w6 B6 O6 hg6))
   refine bodyPost_ret (v:=.agg us.toArray) ?_ rfl ⟨by rw[HQ.out],c0a (c0a LD.out O5.out (by omega)) O6.out hgw⟩;exact results_cell_row rfl _ _ g0 _ _ (0,0) _ rfl B6.out Tryz.underlying28 rfl (by rw[J0a];have:=HLT.out;simp[this])
theorem P8b{xs ys:List Int}(hx:Bytes xs)(hy:Bytes ys)(h1:xs.map (λn=>UInt8.ofNat n.toNat)=ys.map (λn=>UInt8.ofNat n.toNat)):xs=ys:=by
 induction xs generalizing ys with
 | nil=>cases ys with
  | nil=>rfl
  | cons y ys=>cases h1
 | cons x xs ih=>
  cases ys with
  | nil=>cases h1
  | cons y ys=>
   simp only[List.map_cons,List.cons.injEq] at h1;have a:=hx x List.mem_cons_self;have b:=hy y List.mem_cons_self;have e:x=y:=by have h2:=congrArg UInt8.toNat h1.1;simp at h2;omega
   rw[e,ih (λz hz=>hx z (List.mem_cons_of_mem _ hz)) (λz hz=>hy z (List.mem_cons_of_mem _ hz)) h1.2]
theorem q4b(w:World)(B B':Nat)(A A':Option Addr)(n c n' c':Nat)(xs ys:List Int)(h:Holds w B A n c xs)(h':Holds w B' A' n' c' ys)(hn:0<n)(hn':0<n') :
  Calls Tryz.prog 60 #[.slice A n c,.slice A' n' c'] w λe w'=>e=.returned (.bool (decide (xs=ys)))/\w=w':=by
 obtain⟨b,off,rfl,_,hc⟩:=h.cells hn;obtain⟨b',off',rfl,_,hc'⟩:=h'.cells hn';have q1:=run_convert_bytes_arg (P:=Tryz.prog) w 31 5 Tryz.underlying31 Tryz.underlying5 b off n c xs h.len hc 9 Tryz.underlying9;have q2:=run_convert_bytes_arg (P:=Tryz.prog) w 31 5 Tryz.underlying31 Tryz.underlying5 b' off' n' c' ys h'.len hc' 9 Tryz.underlying9;have HE:Hid (((strOfNums xs).toList==(strOfNums ys).toList)=decide (xs=ys)):=by
  show _=_
  rw[ByteArray.toList_eq,ByteArray.toList_eq,strOfNums_data,strOfNums_data,Bool.eq_iff_iff,beq_iff_eq,decide_eq_true_iff];exact⟨P8b h.byte h'.byte,λe=>by rw[e]⟩
 obtain⟨s1,hs1⟩:∃s,s=strOfNums xs:=⟨_,rfl⟩;obtain⟨s2,hs2⟩:∃s,s=strOfNums ys:=⟨_,rfl⟩;rw[<-hs1] at q1 HE;rw[<-hs2] at q2 HE;clear hs1 hs2 hc hc' h h';go_enter Tryz.func60,Tryz.ntmps60;go_wp2;go_ret;exact⟨K0a HE.out,rfl⟩
theorem F3a{P:Program}{fn:Func}{p q:Tmp}{ty:TypeId}(h:fn.results=#[.cell p ty,.tmp q])(tmps:Array Value)(w:World)(g:Nat)(t:TypeId)(cs:Array Value)(fr:Nat×Nat)(d:TypeDesc)
(hp:tmps.getD p undef=.pointer (some ⟨g,0,none⟩))(hg:w.heap[g]? = some (.cells cs t fr))
(hu:P.underlying ty=some d)(hd:(match d with | .struct _ | .array _ _=>true | _=>false)=true)(hi:(P.info? ty).map (·.size)=some cs.size){v:Value}(hv:tmps.getD q undef=v) :
  (results fn tmps).run P w=.ok (.tuple #[.agg cs,v]) w:=by
 have hp':tmps[p]?.getD undef=.pointer (some ⟨g,0,none⟩):=by simpa using hp
 have hv':tmps[q]?.getD undef=v:=by simpa using hv
 simp[results,h,hp',hv',asAddr,run_loadVar_row w g t ty cs fr d hg hu hd hi]
def V8a(w:World)(xs:List Int)(a:Int)(e:Ending)(w':World):Prop:=e=.returned (.tuple #[hv (l2a xs a),.int .i64 (m2a xs a)])/\Below w.heap.size w w'
theorem c0c(w:World)(A:Option Addr)(n c:Nat)(xs:List Int)(a:Int)(hx:Holds w w.heap.size A n c xs)(ha:-9223372036854775808<=a/\a<=9223372036854775807) :
  Calls Tryz.prog 30 #[.slice A n c,.int .i64 a] w (V8a w xs a):=by
 have hl:=hx.len;have CP:Hid (∀w:World,Holds w w.heap.size A n c xs->Calls Tryz.prog 58 #[.slice A n c,.int .i64 a,.int .i64 64] w (c4a w xs a 64)):=λw hh=>D7a w A n c xs a 64 hh ha (by omega)
 have HX:=hI hx;have ZH:=hI p9a;have HZ:=hI (L0a o3a);have HZO:=hI (v2a N1a);have BH:=M5b;have HZV:Hid (hv N1a=.agg (o0a N1a).toArray):=rfl;obtain⟨zs,hzs⟩:∃zs,zs=o0a N1a:=⟨_,rfl⟩;rw[<-hzs] at ZH HZ HZO BH HZV;by_cases hp:R0a xs.length a 64=0
 ·have hroom:=I0b hp;obtain⟨ys,hys⟩:∃ys,ys=partOf xs a 64:=⟨_,rfl⟩;have hys':ys=(xs.drop a.toNat).take 64:=by rw[hys];unfold partOf;rw[if_pos hp];rfl
  have hyl:ys.length=64:=by rw[hys'];simp;omega
  have hyb:Bytes ys:=by rw[hys'];exact(hx.byte.drop _).take _
  unfold c4a at CP;rw[<-hys,hyl,hp] at CP;have CT:Hid (∀(w:World) (A:Option Addr),Holds w w.heap.size A 64 64 ys->Calls Tryz.prog 59 #[.slice A 64 64] w λe w'=>e=.returned (hv (F1a ys))/\Below w.heap.size w w'):=λw A hh=>O8b w A 64 ys hh
  have KT:=O6a ys hyb hyl;have HLT:=hI (L0a KT);have HOT:=hI (v2a (F1a ys));have HYL:=hI hyl;have HYB:=hI hyb;by_cases hm:r0b (F1a ys)=true
  ·have CH:Hid (∀w:World,Calls Tryz.prog 20 #[hv (F1a ys)] w λe w'=>∃A',e=.returned (.tuple #[.slice A' 64 64,.int .i64 0])/\r2a w' w.heap.size A' (e6a (F1a ys))/\Below w.heap.size w w'):=λw=>by
    have h1:=A0b w (F1a ys) KT;unfold X4a s8a b8a at h1
    rwa [if_pos hm,if_pos hm,b4a KT.len] at h1
   have HPL:=hI (b4a KT.len);have HPB:=hI (K5a KT.byte);have hpt:=G3b ys hyb hyl;by_cases hq:e6a (F1a ys)=ys
   ·have HQ:Hid (∀e w',(e=.returned (.tuple #[hv (F1a ys),.int .i64 0])/\Below w.heap.size w w')->V8a w xs a e w'):=by
     rintro e w' ⟨rfl,hb⟩;have he:m2a xs a=0:=by unfold m2a p6b;rw[if_pos hp,<-hys',<-hpt,hm,decide_eq_true hq];rfl
     refine⟨?_,hb⟩;unfold l2a;rw[he,if_pos rfl,<-hys']
    have HD:=hI (decide_eq_true hq);obtain⟨ps,hps⟩:∃ps,ps=e6a (F1a ys):=⟨_,rfl⟩;rw[<-hps] at CH HPL HPB HD;obtain⟨ts,hts⟩:∃ts,ts=o0a (F1a ys):=⟨_,rfl⟩;unfold hv at CT CH HQ;rw[<-hts] at CT CH HQ HLT HOT;clear hys hys' hyl hyb hp hroom hm hpt hq hps hts KT hl hx hzs;go_enter Tryz.func30,Tryz.ntmps30;go_wp2_with(first
     | ((with_reducible refine sN 4 ?_);refine a0a rfl _ rfl zs _ ZH ?_;intro g0 w1 hg1 hg2 B1 L1)
     | fail)
    refine(CP.out _ (HX.out.over L1.out)).mono ?_;rintro e w2 ⟨A',rfl,hf,L2⟩;have hh:=hf.holds HYL.out HYB.out (by decide);have B2:=hI (B1.out.over L2);have L12:=hI (step L1.out L2);clear B1 L1 L2 CP HX hf;go_wp2_with fail;refine(CT.out _ _ hh).mono ?_;rintro e w3 ⟨rfl,L3⟩;have B3:=hI (B2.out.over L3);have L13:=hI (step L12.out L3);have hh3:=hI (hh.over L3);have hgs:=B3.out.lt;clear B2 L12 hh L3 CT;go_wp2_with(first
     | ((with_reducible refine sN 8 ?_);refine a0a rfl _ rfl zs _ ZH ?_;intro g w4 hg3 hg4 X4 L4)
     | ((with_reducible refine sT 8 ?_);refine b0a rfl _ (.tmp 8) (.tmp 21) rfl g rfl _ zs ts rfl X4 26 J0a HZ HLT HOT ?_;intro w5 X5 O5 hg5)
     | ((with_reducible refine sN 23 ?_);refine e0a rfl _ (.tmp 8) rfl g rfl _ ts X5 26 _ Tryz.underlying28 rfl J0a HLT ?_)
     | fail)
    have L5:Below w3.heap.size w3 w5:=c0a L4.out O5.out hg3;have B5:=hI (B3.out.over L5);have L15:=hI (step L13.out L5);have hh5:=hI (hh3.out.over L5);clear B3 L13 hh3 X4 L4 O5 L5;refine(CH.out _).mono ?_;rintro e w6 ⟨A2,rfl,hf2,L6⟩;have B6:=hI (B5.out.over L6);have X6:=hI (X5.out.over L6);have L16:=hI (step L15.out L6);have hh6:=hh5.out.over L6;have hk6:=hf2.holds HPL.out HPB.out (by decide);have CE:=q4b w6 _ _ _ _ _ _ _ _ _ _ hk6 hh6 (by decide) (by decide);rw[HD.out] at CE;have CE':=hI CE;clear CE B5 X5 L15 hh5 L6 hf2 hh6 hk6 CH HD;go_wp2_with fail;refine CE'.out.mono ?_;rintro e w7 ⟨rfl,rfl⟩;clear CE';go_wp2_with(first
     | ((with_reducible refine sN 36 ?_);refine e0a rfl _ (.tmp 8) rfl g rfl _ ts X6 26 _ Tryz.underlying28 rfl J0a HLT ?_)
     | ((with_reducible refine sT 4 ?_);refine b0a rfl _ (.tmp 4) (.tmp 36) rfl g0 rfl _ zs ts rfl B6 26 J0a HZ HLT HOT ?_;intro w9 B9 O9 hg9))
    refine bodyPost_ret (v:=.tuple #[.agg ts.toArray,.int .i64 0]) ?_ rfl (HQ.out _ _ ⟨rfl,c0a L16.out O9.out hg1⟩);exact F3a rfl _ _ g0 _ _ (0,0) _ rfl B9.out Tryz.underlying28 rfl (by rw[J0a];have:=HLT.out;simp[this]) rfl
   ·have HQ:Hid (∀e w',(e=.returned (.tuple #[hv N1a,.int .i64 5])/\Below w.heap.size w w')->V8a w xs a e w'):=by
     rintro e w' ⟨rfl,hb⟩;have he:m2a xs a=5:=by unfold m2a p6b;rw[if_pos hp,<-hys',<-hpt,hm,decide_eq_false hq];rfl
     refine⟨?_,hb⟩;unfold l2a;rw[he];rfl
    have HD:=hI (decide_eq_false hq);obtain⟨ps,hps⟩:∃ps,ps=e6a (F1a ys):=⟨_,rfl⟩;rw[<-hps] at CH HPL HPB HD;obtain⟨ts,hts⟩:∃ts,ts=o0a (F1a ys):=⟨_,rfl⟩;rw[HZV.out] at HQ;unfold hv at CT CH;rw[<-hts] at CT CH HLT HOT;clear hys hys' hyl hyb hp hroom hm hpt hq hps hts KT hl hx hzs;go_enter Tryz.func30,Tryz.ntmps30;go_wp2_with(first
     | ((with_reducible refine sN 4 ?_);refine a0a rfl _ rfl zs _ ZH ?_;intro g0 w1 hg1 hg2 B1 L1)
     | fail)
    refine(CP.out _ (HX.out.over L1.out)).mono ?_;rintro e w2 ⟨A',rfl,hf,L2⟩;have hh:=hf.holds HYL.out HYB.out (by decide);have B2:=hI (B1.out.over L2);have L12:=hI (step L1.out L2);clear B1 L1 L2 CP HX hf;go_wp2_with fail;refine(CT.out _ _ hh).mono ?_;rintro e w3 ⟨rfl,L3⟩;have B3:=hI (B2.out.over L3);have L13:=hI (step L12.out L3);have hh3:=hI (hh.over L3);have hgs:=B3.out.lt;clear B2 L12 hh L3 CT;go_wp2_with(first
     | ((with_reducible refine sN 8 ?_);refine a0a rfl _ rfl zs _ ZH ?_;intro g w4 hg3 hg4 X4 L4)
     | ((with_reducible refine sT 8 ?_);refine b0a rfl _ (.tmp 8) (.tmp 21) rfl g rfl _ zs ts rfl X4 26 J0a HZ HLT HOT ?_;intro w5 X5 O5 hg5)
     | ((with_reducible refine sN 23 ?_);refine e0a rfl _ (.tmp 8) rfl g rfl _ ts X5 26 _ Tryz.underlying28 rfl J0a HLT ?_)
     | fail)
    have L5:Below w3.heap.size w3 w5:=c0a L4.out O5.out hg3;have B5:=hI (B3.out.over L5);have L15:=hI (step L13.out L5);have hh5:=hI (hh3.out.over L5);clear B3 L13 hh3 X4 L4 O5 L5;refine(CH.out _).mono ?_;rintro e w6 ⟨A2,rfl,hf2,L6⟩;have B6:=hI (B5.out.over L6);have X6:=hI (X5.out.over L6);have L16:=hI (step L15.out L6);have hh6:=hh5.out.over L6;have hk6:=hf2.holds HPL.out HPB.out (by decide);have CE:=q4b w6 _ _ _ _ _ _ _ _ _ _ hk6 hh6 (by decide) (by decide);rw[HD.out] at CE;have CE':=hI CE;clear CE B5 X5 L15 hh5 L6 hf2 hh6 hk6 CH HD;go_wp2_with fail;refine CE'.out.mono ?_;rintro e w7 ⟨rfl,rfl⟩;clear CE';go_wp2_with(first
     | ((with_reducible refine sN 35 ?_);refine x0a rfl _ rfl zs BH ?_)
     | ((with_reducible refine sT 4 ?_);refine b0a rfl _ (.tmp 4) (.tmp 35) rfl g0 rfl _ zs zs rfl B6 26 J0a HZ HZ HZO ?_;intro w9 B9 O9 hg9))
    refine bodyPost_ret (v:=.tuple #[.agg zs.toArray,.int .i64 5]) ?_ rfl (HQ.out _ _ ⟨rfl,c0a L16.out O9.out hg1⟩);exact F3a rfl _ _ g0 _ _ (0,0) _ rfl B9.out Tryz.underlying28 rfl (by rw[J0a];have:=HZ.out;simp[this]) rfl
  ·have HQ:Hid (∀e w',(e=.returned (.tuple #[hv N1a,.int .i64 5])/\Below w.heap.size w w')->V8a w xs a e w'):=by
    rintro e w' ⟨rfl,hb⟩;have hm':r0b (F1a ys)=false:=by simpa using hm
    have he:m2a xs a=5:=by unfold m2a p6b;rw[if_pos hp,<-hys',hm',Bool.and_false];rfl
    refine⟨?_,hb⟩;unfold l2a;rw[he];rfl
   have CH:Hid (∀w:World,Calls Tryz.prog 20 #[hv (F1a ys)] w λe w'=>∃A',e=.returned (.tuple #[.slice A' 0 0,.int .i64 2])/\Below w.heap.size w w'):=λw=>by have h1:=A0b w (F1a ys) KT;unfold X4a s8a b8a at h1;rw[if_neg hm,if_neg hm] at h1;refine h1.mono ?_;rintro e w' ⟨A',rfl,hf,hb⟩;exact⟨A',rfl,hb⟩
   obtain⟨ts,hts⟩:∃ts,ts=o0a (F1a ys):=⟨_,rfl⟩;rw[HZV.out] at HQ;unfold hv at CT CH;rw[<-hts] at CT CH HLT HOT;clear hys hys' hyl hyb hp hroom hm hts KT hl hx hzs;go_enter Tryz.func30,Tryz.ntmps30;go_wp2_with(first
    | ((with_reducible refine sN 4 ?_);refine a0a rfl _ rfl zs _ ZH ?_;intro g0 w1 hg1 hg2 B1 L1)
    | fail)
   refine(CP.out _ (HX.out.over L1.out)).mono ?_;rintro e w2 ⟨A',rfl,hf,L2⟩;have hh:=hf.holds HYL.out HYB.out (by decide);have B2:=hI (B1.out.over L2);have L12:=hI (step L1.out L2);clear B1 L1 L2 CP HX hf;go_wp2_with fail;refine(CT.out _ _ hh).mono ?_;rintro e w3 ⟨rfl,L3⟩;have B3:=hI (B2.out.over L3);have L13:=hI (step L12.out L3);have hh3:=hI (hh.over L3);have hgs:=B3.out.lt;clear B2 L12 hh L3 CT;go_wp2_with(first
    | ((with_reducible refine sN 8 ?_);refine a0a rfl _ rfl zs _ ZH ?_;intro g w4 hg3 hg4 X4 L4)
    | ((with_reducible refine sT 8 ?_);refine b0a rfl _ (.tmp 8) (.tmp 21) rfl g rfl _ zs ts rfl X4 26 J0a HZ HLT HOT ?_;intro w5 X5 O5 hg5)
    | ((with_reducible refine sN 23 ?_);refine e0a rfl _ (.tmp 8) rfl g rfl _ ts X5 26 _ Tryz.underlying28 rfl J0a HLT ?_)
    | fail)
   have L5:Below w3.heap.size w3 w5:=c0a L4.out O5.out hg3;have B5:=hI (B3.out.over L5);have L15:=hI (step L13.out L5);have hh5:=hI (hh3.out.over L5);clear B3 L13 hh3 X4 L4 O5 L5;refine(CH.out _).mono ?_;rintro e w6 ⟨A2,rfl,L6⟩;have B6:=hI (B5.out.over L6);have L16:=hI (step L15.out L6);clear B5 X5 L15 hh5 L6 CH;go_wp2_with(first
    | ((with_reducible refine sN 35 ?_);refine x0a rfl _ rfl zs BH ?_)
    | ((with_reducible refine sT 4 ?_);refine b0a rfl _ (.tmp 4) (.tmp 35) rfl g0 rfl _ zs zs rfl B6 26 J0a HZ HZ HZO ?_;intro w9 B9 O9 hg9))
   refine bodyPost_ret (v:=.tuple #[.agg zs.toArray,.int .i64 5]) ?_ rfl (HQ.out _ _ ⟨rfl,c0a L16.out O9.out hg1⟩);exact F3a rfl _ _ g0 _ _ (0,0) _ rfl B9.out Tryz.underlying28 rfl (by rw[J0a];have:=HZ.out;simp[this]) rfl
 ·have HQ:Hid (∀e w',(e=.returned (.tuple #[hv N1a,.int .i64 (R0a xs.length a 64)])/\Below w.heap.size w w')->V8a w xs a e w'):=by
   rintro e w' ⟨rfl,hb⟩;have he:m2a xs a=R0a xs.length a 64:=by unfold m2a;rw[if_neg hp]
   refine⟨?_,hb⟩;unfold l2a;rw[he,if_neg hp]
  have e2:partOf xs a 64=[]:=by unfold partOf;rw[if_neg hp]
  unfold c4a at CP;rw[e2] at CP;rw[HZV.out] at HQ;obtain⟨er,her⟩:∃er,er=R0a xs.length a 64:=⟨_,rfl⟩;rw[<-her] at CP HQ hp;have hne:(er != 0)=true:=by simpa using hp
  clear e2 her hp hl hx hzs;go_enter Tryz.func30,Tryz.ntmps30;go_wp2_with(first
   | ((with_reducible refine sN 4 ?_);refine a0a rfl _ rfl zs _ ZH ?_;intro g0 w1 hg1 hg2 B1 L1)
   | fail)
  refine(CP.out _ (HX.out.over L1.out)).mono ?_;rintro e w2 ⟨A',rfl,hf,L2⟩;have B2:=hI (B1.out.over L2);have L12:=hI (step L1.out L2);go_wp2_with(first
   | ((with_reducible refine sN 18 ?_);refine x0a rfl _ rfl zs BH ?_)
   | ((with_reducible refine sT 4 ?_);refine b0a rfl _ (.tmp 4) (.tmp 18) rfl g0 rfl _ zs zs rfl B2 26 J0a HZ HZ HZO ?_;intro w9 B9 O9 hg9))
  refine bodyPost_ret (v:=.tuple #[.agg zs.toArray,.int .i64 er]) ?_ rfl (HQ.out _ _ ⟨rfl,c0a L12.out O9.out hg1⟩);exact F3a rfl _ _ g0 _ _ (0,0) _ rfl B9.out Tryz.underlying28 rfl (by rw[J0a];have:=HZ.out;simp[this]) rfl
theorem l1c(w:World)(h:Hd)(k:h.ok)(hm:r0b h=true):Calls Tryz.prog 20 #[hv h] w λe w'=>∃A',e=.returned (.tuple #[.slice A' 64 64,.int .i64 0])/\r2a w' w.heap.size A' (e6a h)/\Below w.heap.size w w':=by
 have h1:=A0b w h k;unfold X4a s8a b8a at h1
 rwa [if_pos hm,if_pos hm,b4a k.len] at h1
theorem r5b(w:World)(h:Hd)(k:h.ok)(hm:r0b h=false):Calls Tryz.prog 20 #[hv h] w λe w'=>∃A',e=.returned (.tuple #[.slice A' 0 0,.int .i64 2])/\Below w.heap.size w w':=by have h1:=A0b w h k;unfold X4a s8a b8a at h1;rw[if_neg (by rw[hm];decide),if_neg (by rw[hm];decide)] at h1;refine h1.mono ?_;rintro e w' ⟨A',rfl,_,hb⟩;exact⟨A',rfl,hb⟩
theorem I2a{P:Program}{ops:Array Oper}{S:World->Prop}{op:Oper}{a:Act}(hw:Region.wanted op (yielded ops a.tmps)=true)(T:TypeId)(x:Operand)(ho:op.op=.load T x)(g i:Nat)(hx:a.eval x=.pointer (some ⟨g,i,none⟩))(cs:List Value)
(hS:∀w,S w->w.rangeAt g i cs)(n:Nat)(d:TypeDesc)(hu:P.underlying T=some d)(hd:d.isRow=true)(hi:(P.info? T).map (·.size)=some n)(hn:Hid (cs.length=n)):YieldsIf P ops S op (.agg cs.toArray) a:=
 .inl ⟨hw,λw hw'=>by unfold execOp;simp only[ho,hx,Instr.loadAt,Instr.sureAddr,Sem.run_bind,Sem.run_pure,Result.andThen_ok,run_loadVar_mid w g i T cs d (hS w hw') hu hd (by rw[hi,hn.out])]⟩
theorem t2c{c:Int}{s:M1a}(h:¬pse c s=0):pso c s=[]:=by
 unfold pso;unfold pse at h;split
 ·rename_i h1;rw[if_pos h1] at h;unfold L2a;rw[if_neg h]
 ·rename_i h1;rw[if_neg h1] at h;split
  ·rename_i h2;rw[if_pos h2] at h;unfold u2b;rw[if_neg h]
  ·rename_i h2;rw[if_neg h2] at h;unfold A1b;rw[if_neg h]
theorem u2c{c:Int}{a:m1a}(h:¬pae c a=0):pao c a=[]:=by
 unfold pao;unfold pae at h;split
 ·rename_i h1;rw[if_pos h1] at h;unfold H2a;rw[if_neg h]
 ·rename_i h1;rw[if_neg h1] at h;split
  ·rename_i h2;rw[if_pos h2] at h;unfold t1b;rw[if_neg h]
  ·rename_i h2;rw[if_neg h2] at h;unfold i9a;rw[if_neg h]
theorem I1b(w:World)(ac:List Value)(a:m1a)(k:a.ok)(ha:f1a w w.heap.size ac a)(hu:a.user.size<=17592186044416/\a.share.size<=17592186044416)(hT:V7a w) :
  Calls Tryz.prog 40 #[.agg ac.toArray] w λe w'=>e=.returned (.bool (k1a 13 a==0))/\Below w.heap.size w w':=by
 have HL:=hI (ha.len k);have CP:Hid (∀w',Below w.heap.size w w'->Calls Tryz.prog 80 #[.int .u16 13,.agg ac.toArray] w' λe w2=>∃v,e=.returned (.tuple #[v,.int .i64 (k1a 13 a)])/\Below w'.heap.size w' w2):=λw' hb=>(s6a w' 13 ac a (by decide) k (ha.over hb) hu (hT.below hb)).mono λe w2 ⟨v,h1,_,h2⟩=>⟨v,h1,h2⟩
 obtain⟨er,her⟩:∃x,x=k1a 13 a:=⟨_,rfl⟩;rw[<-her] at CP⊢;clear her ha;go_enter Tryz.func40,Tryz.ntmps40;go_wp2_with(first
  | ((with_reducible refine sN 1 ?_);refine f0a rfl _ (.tmp 0) rfl ac rfl ?_;intro g w1 hg1 hg2 B1 L1)
  | ((with_reducible refine sN 6 ?_);refine e0a rfl _ (.tmp 1) rfl g rfl _ ac B1 69 _ Tryz.underlying34 rfl n0a HL ?_)
  | fail)
 refine(CP.out w1 L1.out).mono ?_;rintro e w2 ⟨v,rfl,L2⟩;go_wp2;go_ret;exact⟨rfl,step L1.out L2⟩
theorem J1b(w:World)(ac:List Value)(a:M1a)(k:a.ok)(ha:n1a w w.heap.size ac a) :
  Calls Tryz.prog 42 #[.agg ac.toArray] w λe w'=>e=.returned (.bool (z1a 13 a==0))/\Below w.heap.size w w':=by
 have HL:=hI (ha.len k);have CP:Hid (∀w',Below w.heap.size w w'->Calls Tryz.prog 82 #[.int .u16 13,.agg ac.toArray] w' λe w2=>∃v,e=.returned (.tuple #[v,.int .i64 (z1a 13 a)])/\Below w'.heap.size w' w2):=λw' hb=>(t6a w' 13 ac a (by decide) k (ha.over hb)).mono λe w2 ⟨v,h1,_,h2⟩=>⟨v,h1,h2⟩
 obtain⟨er,her⟩:∃x,x=z1a 13 a:=⟨_,rfl⟩;rw[<-her] at CP⊢;clear her ha;go_enter Tryz.func42,Tryz.ntmps42;go_wp2_with(first
  | ((with_reducible refine sN 1 ?_);refine f0a rfl _ (.tmp 0) rfl ac rfl ?_;intro g w1 hg1 hg2 B1 L1)
  | ((with_reducible refine sN 6 ?_);refine e0a rfl _ (.tmp 1) rfl g rfl _ ac B1 20 _ Tryz.underlying39 rfl s0a HL ?_)
  | fail)
 refine(CP.out w1 L1.out).mono ?_;rintro e w2 ⟨v,rfl,L2⟩;go_wp2;go_ret;exact⟨rfl,step L1.out L2⟩
def W8a(w:World)(m:J5a)(e:Ending)(w':World):Prop:=∃v,e=.returned (.tuple #[v,.int .i64 (K6a m)])/\T5a w' w.heap.size v (u6a m)/\Below w.heap.size w w'
def d0c(w:World)(c:Int)(ac:List Value)(a:m1a):Prop:=∀w',Below w.heap.size w w'->Calls Tryz.prog (fPA c) #[.int .u16 c,.agg ac.toArray] w' λe w2=>∃v,e=.returned (.tuple #[v,.int .i64 (pae c a)])/\T5a w2 w'.heap.size v (pao c a)/\Below w'.heap.size w' w2
def e0c(w:World)(c:Int)(sc:List Value)(s:M1a):Prop:=∀w',Below w.heap.size w w'->Calls Tryz.prog (fPS c) #[.int .u16 c,.agg sc.toArray] w' λe w2=>∃v,e=.returned (.tuple #[v,.int .i64 (pse c s)])/\T5a w2 w'.heap.size v (pso c s)/\Below w'.heap.size w' w2
theorem P9a(g:Nat)(w:World):(Instr.fieldAt 60 (.pointer (some ⟨g,0,none⟩)) 1).run Tryz.prog w=.ok (.pointer (some ⟨g,26,none⟩)) w:=by go_simp
theorem Q9a(g:Nat)(w:World):(Instr.fieldAt 60 (.pointer (some ⟨g,0,none⟩)) 2).run Tryz.prog w=.ok (.pointer (some ⟨g,95,none⟩)) w:=by go_simp
theorem r7a{h:Hd}(k:h.ok):0<=N7a h/\N7a h<=65535:=by unfold N7a;have:=k.cm;split<;>omega
theorem B2b(w:World)(g:Nat)(m:J5a)(ac sc:List Value)(k:m.ok)(B:Blk w g 60 (o0a m.h++(ac++sc)))(ha:f1a w w.heap.size ac m.a)(hs:n1a w w.heap.size sc m.s)(hu:m.a.user.size<=17592186044416/\m.a.share.size<=17592186044416)(hT:V7a w)
(CA:m3a m.h.fl=false->d0c w (N7a m.h) ac m.a)(CS:m3a m.h.fl=true->e0c w (N7a m.h) sc m.s) :
  Calls Tryz.prog 21 #[.pointer (some ⟨g,0,none⟩)] w (W8a w m):=by
 have CR:=hI (z8b w g m.h k.h _ B);have CI:=hI (l8a w g m.h k.h _ B);have H26:=hI (L0a k.h);have H69:=hI (ha.len k.a);have H20:=hI (hs.len k.s);have CN:=hI (I1b w ac m.a k.a ha hu hT);have CM:=hI (J1b w sc m.s k.s hs);have CB:Hid (∀w',Calls Tryz.prog 41 #[.int .u16 (N7a m.h)] w' λe w2=>e=.returned (S3a (N7a m.h))/\Below w'.heap.size w' w2):=λw'=>N9a w' _ (r7a k.h)
 have HE:Hid (K6a m=2->∀v e w',e=.returned (.tuple #[v,.int .i64 2])->v=.slice none 0 0->Below w.heap.size w w'->W8a w m e w'):=by intro h v e w' h1 h2 h3;unfold W8a u6a;rw[h,if_neg (by decide)];exact⟨v,h1,by rw[h2];exact X0a.nil _ _ _ _,h3⟩
 obtain⟨c,hc⟩:∃c,c=N7a m.h:=⟨_,rfl⟩;rw[<-hc] at CR CA CS CB;obtain⟨hcs,hhc⟩:∃x,x=o0a m.h:=⟨_,rfl⟩;rw[<-hhc] at B H26;have BH:=hI B;have gl:=B.lt;clear B hhc ha hs;by_cases hr:m3a m.h.fl=true
 ·skip
  have hr':m3a m.h.fl=true:=by simpa using hr
  rw[hr'] at CI;have CC:=hI (CS hr');clear CA CS;by_cases hz:k1a 13 m.a=0;rotate_left
  ·have hE:=HE.out (by unfold K6a;rw[if_pos hr,if_neg hz]);have hz':(k1a 13 m.a==0)=false:=by simpa using hz
   rw[hz'] at CN;have HE2:=hI hE;have B1:=BH.out;clear hE HE CC CB hz hz' hr hr' hc;go_enter Tryz.func21,Tryz.ntmps21;go_wp2_with fail;refine CR.out.mono ?_;rintro e w1 ⟨rfl,rfl⟩;go_wp2_with fail;refine CI.out.mono ?_;rintro e w1 ⟨rfl,rfl⟩;go_wp2_with(first
    | ((with_reducible refine sN 12 ?_);refine t0a rfl _ (.tmp 11) rfl g 26 rfl ac _ (hI (p7a B1 H26.out)) Tryz.underlying34 rfl 69 n0a H69 ?_)
    | fail)
   refine CN.out.mono ?_;rintro e w1 ⟨rfl,L1⟩;go_wp2;go_ret2;exact HE2.out _ _ _ rfl rfl L1
  have hz':(k1a 13 m.a==0)=true:=by simpa using hz
  rw[hz'] at CN;have HQ:Hid (∀v e (w1 w':World),e=.returned (.tuple #[v,.int .i64 (pse c m.s)])->T5a w' w1.heap.size v (pso c m.s)->w.heap.size<=w1.heap.size->Below w.heap.size w w'->W8a w m e w'):=by
   intro v e w1 w' h1 h2 h3 h4;have hme:K6a m=pse c m.s:=by unfold K6a;rw[if_pos hr,if_pos hz,hc]
   have hmo:u6a m=pso c m.s:=by
    unfold u6a;by_cases h0:pse c m.s=0
    ·rw[hme,if_pos h0,if_pos hr,hc]
    ·rw[hme,if_neg h0,t2c h0]
   unfold W8a;rw[hme,hmo];exact⟨v,h1,h2.mono h3,h4⟩
  unfold e0c at CC;obtain⟨er,her⟩:∃x,x=pse c m.s:=⟨_,rfl⟩;rw[<-her] at CC HQ;obtain⟨ys,hys⟩:∃x,x=pso c m.s:=⟨_,rfl⟩;rw[<-hys] at CC HQ;have HB2:Hid (∃F1 F2 F3,S3a c=.agg #[F1,F2,.func (.func (fPS c)) #[] #[],F3]):=⟨_,_,_,rfl⟩;obtain⟨F1,F2,F3,hF⟩:=HB2.out;rw[hF] at CB;have hent:=g2c c;obtain⟨fn,hfn⟩:∃x,x=fPS c:=⟨_,rfl⟩;rw[<-hfn] at CC CB hent;have B1:=BH.out;clear HE hz hz' hr hr' hc her hys hF HB2 hfn;go_enter Tryz.func21,Tryz.ntmps21;go_wp2_with fail;refine CR.out.mono ?_;rintro e w1 ⟨rfl,rfl⟩;go_wp2_with fail;refine CI.out.mono ?_;rintro e w1 ⟨rfl,rfl⟩;go_wp2_with(first
   | ((with_reducible refine sN 12 ?_);refine t0a rfl _ (.tmp 11) rfl g 26 rfl ac _ (hI (p7a B1 H26.out)) Tryz.underlying34 rfl 69 n0a H69 ?_)
   | fail)
  refine CN.out.mono ?_;rintro e w1 ⟨rfl,L1⟩;have B2:=hI (B1.over L1);have M1:=hI L1;clear L1 B1 BH CR CI CN CM;go_upto_region 13 with fail
  refine wp_region_held (S:=λw'=>Blk w' g 60 (hcs++(ac++sc))/\Below w.heap.size w w') (by kernel_rfl) ?_;change wpAnyH _ _ _ _ _ _ _ _ w1.drew
  have S0:Hid (Blk w1.drew g 60 (hcs++(ac++sc))/\Below w.heap.size w w1.drew):=⟨B2.out.drew,M1.out.drew⟩;have b0:Hid (w.heap.size<=w1.drew.heap.size):=M1.out.drew.size;refine tK 0 _ rfl (u0a (by kernel_rfl) (.tmp 4) rfl (.int .u16 c) (by kernel_rfl)) S0.out ?_;refine tK 3 _ rfl (u0a (by kernel_rfl) (.tmp 4) rfl (.int .u16 c) (by kernel_rfl)) S0.out ?_;refine tK 4 _ rfl (u0a (by kernel_rfl) (.tmp 0) rfl (.pointer (some ⟨g,0,none⟩)) (by kernel_rfl)) S0.out ?_;refine tK 5 _ rfl (I0a (by kernel_rfl) (.tmp 19) rfl ⟨g,0,none⟩ (by kernel_rfl)) S0.out ?_;refine tK 6 _ rfl (w0a (by kernel_rfl) _ (.tmp 20) 2 rfl (.pointer (some ⟨g,0,none⟩)) (.pointer (some ⟨g,95,none⟩)) (by kernel_rfl) (Q9a g)) S0.out ?_;refine tK 7 _ rfl (I2a (by kernel_rfl) _ (.tmp 21) rfl g 95 (by kernel_rfl) sc (λ_ h=>q7a h.1 H26.out H69.out) 20 _ Tryz.underlying39 rfl s0a H20) S0.out ?_;refine oN 1 _ rfl λK hK=>?_
  go_simp;refine(CB.out _).mono ?_;rintro e v1 ⟨rfl,b⟩;have S1:Hid (Blk v1 g 60 (hcs++(ac++sc))/\Below w.heap.size w v1):=⟨S0.out.1.over b,step S0.out.2 b⟩;have b1:Hid (w.heap.size<=v1.heap.size):=Nat.le_trans b0.out b.size;refine hK _ _ S1.out ?_;clear hK K b;refine oN 2 _ rfl λK hK=>?_
  go_simp;refine hK _ _ S1.out ?_;clear hK K;refine oN 8 _ rfl λK hK=>?_
  go_simp;refine(CC.out _ S1.out.2).mono ?_;rintro e v2 ⟨v,rfl,ho,b⟩;have S2:Hid (Blk v2 g 60 (hcs++(ac++sc))/\Below w.heap.size w v2):=⟨S1.out.1.over b,step S1.out.2 b⟩;have b2:Hid (w.heap.size<=v2.heap.size):=Nat.le_trans b1.out b.size;have HO:=hI (HQ.out v _ _ _ rfl ho b1.out (step S1.out.2 b));refine hK _ _ S2.out ?_;clear hK K b ho;refine tK 9 v rfl (.inl ⟨by kernel_rfl,λw _=>by go_simp⟩) S2.out ?_;refine tK 10 (.int .i64 er) rfl (.inl ⟨by kernel_rfl,λw _=>by go_simp⟩) S2.out ?_;refine oN 11 _ rfl λK hK=>?_
  go_simp;refine hK _ _ S2.out ?_;clear hK K;refine oN 12 _ rfl λK hK=>?_
  go_simp;refine hK _ _ S2.out ?_;clear hK K;refine dN ?_;go_wp2;go_ret2;exact HO.out
 ·skip
  have hr':m3a m.h.fl=false:=by simpa using hr
  rw[hr'] at CI;have CC:=hI (CA hr');clear CA CS;by_cases hz:z1a 13 m.s=0;rotate_left
  ·have hE:=HE.out (by unfold K6a;rw[if_neg hr,if_neg hz]);have hz':(z1a 13 m.s==0)=false:=by simpa using hz
   rw[hz'] at CM;have HE2:=hI hE;have B1:=BH.out;clear hE HE CC CB hz hz' hr hr' hc;go_enter Tryz.func21,Tryz.ntmps21;go_wp2_with fail;refine CR.out.mono ?_;rintro e w1 ⟨rfl,rfl⟩;go_wp2_with fail;refine CI.out.mono ?_;rintro e w1 ⟨rfl,rfl⟩;go_wp2_with(first
    | ((with_reducible refine sN 29 ?_);refine t0a rfl _ (.tmp 28) rfl g 95 rfl sc _ (hI (q7a B1 H26.out H69.out)) Tryz.underlying39 rfl 20 s0a H20 ?_)
    | fail)
   refine CM.out.mono ?_;rintro e w1 ⟨rfl,L1⟩;go_wp2;go_ret2;exact HE2.out _ _ _ rfl rfl L1
  have hz':(z1a 13 m.s==0)=true:=by simpa using hz
  rw[hz'] at CM;have HQ:Hid (∀v e (w1 w':World),e=.returned (.tuple #[v,.int .i64 (pae c m.a)])->T5a w' w1.heap.size v (pao c m.a)->w.heap.size<=w1.heap.size->Below w.heap.size w w'->W8a w m e w'):=by
   intro v e w1 w' h1 h2 h3 h4;have hme:K6a m=pae c m.a:=by unfold K6a;rw[if_neg hr,if_pos hz,hc]
   have hmo:u6a m=pao c m.a:=by
    unfold u6a;by_cases h0:pae c m.a=0
    ·rw[hme,if_pos h0,if_neg hr,hc]
    ·rw[hme,if_neg h0,u2c h0]
   unfold W8a;rw[hme,hmo];exact⟨v,h1,h2.mono h3,h4⟩
  unfold d0c at CC;obtain⟨er,her⟩:∃x,x=pae c m.a:=⟨_,rfl⟩;rw[<-her] at CC HQ;obtain⟨ys,hys⟩:∃x,x=pao c m.a:=⟨_,rfl⟩;rw[<-hys] at CC HQ;have HB2:Hid (∃F1 F2 F3,S3a c=.agg #[.func (.func (fPA c)) #[] #[],F1,F2,F3]):=⟨_,_,_,rfl⟩;obtain⟨F1,F2,F3,hF⟩:=HB2.out;rw[hF] at CB;have hent:=e2c c;obtain⟨fn,hfn⟩:∃x,x=fPA c:=⟨_,rfl⟩;rw[<-hfn] at CC CB hent;have B1:=BH.out;clear HE hz hz' hr hr' hc her hys hF HB2 hfn;go_enter Tryz.func21,Tryz.ntmps21;go_wp2_with fail;refine CR.out.mono ?_;rintro e w1 ⟨rfl,rfl⟩;go_wp2_with fail;refine CI.out.mono ?_;rintro e w1 ⟨rfl,rfl⟩;go_wp2_with(first
   | ((with_reducible refine sN 29 ?_);refine t0a rfl _ (.tmp 28) rfl g 95 rfl sc _ (hI (q7a B1 H26.out H69.out)) Tryz.underlying39 rfl 20 s0a H20 ?_)
   | fail)
  refine CM.out.mono ?_;rintro e w1 ⟨rfl,L1⟩;have B2:=hI (B1.over L1);have M1:=hI L1;clear L1 B1 BH CR CI CN CM;go_upto_region 13 with fail
  refine wp_region_held (S:=λw'=>Blk w' g 60 (hcs++(ac++sc))/\Below w.heap.size w w') (by kernel_rfl) ?_;change wpAnyH _ _ _ _ _ _ _ _ w1.drew
  have S0:Hid (Blk w1.drew g 60 (hcs++(ac++sc))/\Below w.heap.size w w1.drew):=⟨B2.out.drew,M1.out.drew⟩;have b0:Hid (w.heap.size<=w1.drew.heap.size):=M1.out.drew.size;refine tK 0 _ rfl (u0a (by kernel_rfl) (.tmp 4) rfl (.int .u16 c) (by kernel_rfl)) S0.out ?_;refine tK 3 _ rfl (u0a (by kernel_rfl) (.tmp 4) rfl (.int .u16 c) (by kernel_rfl)) S0.out ?_;refine tK 4 _ rfl (u0a (by kernel_rfl) (.tmp 0) rfl (.pointer (some ⟨g,0,none⟩)) (by kernel_rfl)) S0.out ?_;refine tK 5 _ rfl (I0a (by kernel_rfl) (.tmp 36) rfl ⟨g,0,none⟩ (by kernel_rfl)) S0.out ?_;refine tK 6 _ rfl (w0a (by kernel_rfl) _ (.tmp 37) 1 rfl (.pointer (some ⟨g,0,none⟩)) (.pointer (some ⟨g,26,none⟩)) (by kernel_rfl) (P9a g)) S0.out ?_;refine tK 7 _ rfl (I2a (by kernel_rfl) _ (.tmp 38) rfl g 26 (by kernel_rfl) ac (λ_ h=>p7a h.1 H26.out) 69 _ Tryz.underlying34 rfl n0a H69) S0.out ?_;refine oN 1 _ rfl λK hK=>?_
  go_simp;refine(CB.out _).mono ?_;rintro e v1 ⟨rfl,b⟩;have S1:Hid (Blk v1 g 60 (hcs++(ac++sc))/\Below w.heap.size w v1):=⟨S0.out.1.over b,step S0.out.2 b⟩;have b1:Hid (w.heap.size<=v1.heap.size):=Nat.le_trans b0.out b.size;refine hK _ _ S1.out ?_;clear hK K b;refine oN 2 _ rfl λK hK=>?_
  go_simp;refine hK _ _ S1.out ?_;clear hK K;refine oN 8 _ rfl λK hK=>?_
  go_simp;refine(CC.out _ S1.out.2).mono ?_;rintro e v2 ⟨v,rfl,ho,b⟩;have S2:Hid (Blk v2 g 60 (hcs++(ac++sc))/\Below w.heap.size w v2):=⟨S1.out.1.over b,step S1.out.2 b⟩;have b2:Hid (w.heap.size<=v2.heap.size):=Nat.le_trans b1.out b.size;have HO:=hI (HQ.out v _ _ _ rfl ho b1.out (step S1.out.2 b));refine hK _ _ S2.out ?_;clear hK K b ho;refine tK 9 v rfl (.inl ⟨by kernel_rfl,λw _=>by go_simp⟩) S2.out ?_;refine tK 10 (.int .i64 er) rfl (.inl ⟨by kernel_rfl,λw _=>by go_simp⟩) S2.out ?_;refine oN 11 _ rfl λK hK=>?_
  go_simp;refine hK _ _ S2.out ?_;clear hK K;refine oN 12 _ rfl λK hK=>?_
  go_simp;refine hK _ _ S2.out ?_;clear hK K;refine dN ?_;go_wp2;go_ret2;exact HO.out
def s7a(w:World)(m:J5a)(e:Ending)(w':World):Prop:=∃v,e=.returned (.tuple #[v,.int .i64 (W4a m)])/\T5a w' w.heap.size v (f6a m)/\Below w.heap.size w w'
def v2c(w:World)(m:J5a)(ac sc:List Value):Prop:=∀w' g,Below w.heap.size w w'->Blk w' g 60 (o0a m.h++(ac++sc))->Calls Tryz.prog 21 #[.pointer (some ⟨g,0,none⟩)] w' (W8a w' m)
theorem K0c(w:World)(m:J5a)(ac sc:List Value)(k:m.ok)(l1:ac.length=69)(l2:sc.length=20)(o1:∀v∈ac,v.oneCell'=true)(o2:∀v∈sc,v.oneCell'=true)(hy:Bytes (u6a m))(hl:(u6a m).length<=70000)(CB:v2c w m ac sc) :
  Calls Tryz.prog 8 #[.agg (o0a m.h++(ac++sc)).toArray] w (s7a w m):=by
 have H26:=hI (L0a k.h);have H69:=hI l1;have H20:=hI l2;have BM:=x8b a8a H26.out l1 l2;have ZM:=hI M9a;have HZ:=hI y3a;have HLL:Hid ((o0a m.h++(ac++sc)).length=115):=by
  show _=_
  simp only[List.length_append,H26.out,l1,l2]
 have HOO:Hid (∀v∈o0a m.h++(ac++sc),v.oneCell'=true):=by
  intro v hv;rcases List.mem_append.1 hv with hv | hv
  ·exact v2a _ v hv
  ·rcases List.mem_append.1 hv with hv | hv
   ·exact o1 v hv
   ·exact o2 v hv
 have RH:Hid (∀(w:World) g T,Blk w g T (o0a m.h++(ac++sc))->w.rangeAt g 0 (o0a m.h)):=λw g T b=>t9a b
 have RA:Hid (∀(w:World) g T,Blk w g T (o0a m.h++(ac++sc))->w.rangeAt g 26 ac):=λw g T b=>p7a b H26.out
 have RS:Hid (∀(w:World) g T,Blk w g T (o0a m.h++(ac++sc))->w.rangeAt g 95 sc):=λw g T b=>q7a b H26.out l1
 have RN:Hid (∀(w:World) g T,Blk w g T (o0a m.h++(ac++sc))->w.cell? ⟨g,5,none⟩=some (.int .u32 m.h.nx)):=λw g T b=>Blk.cell b 5
 have HY:=hI hy;have CB':=hI CB;unfold v2c W8a at CB';have HP:=hI (b4a k.h.len);have HPB:=hI (K5a k.h.byte);have hE:Hid (∀er,W4a m=er->er≠0->∀e w',e=.returned (.tuple #[.slice none 0 0,.int .i64 er])->Below w.heap.size w w'->s7a w m e w'):=by intro er h1 h2 e w' h3 h4;unfold s7a f6a;rw[h1,if_neg h2];exact⟨_,h3,X0a.nil _ _ _ _,h4⟩
 have hQ:Hid (W4a m=0->∀v e w',e=.returned (.tuple #[v,.int .i64 0])->T5a w' w.heap.size v (e6a m.h++Q4a m.h (u6a m))->Below w.heap.size w w'->s7a w m e w'):=by intro h1 v e w' h3 h4 h5;unfold s7a f6a;rw[h1,if_pos rfl];exact⟨v,h3,h4,h5⟩
 have hpd:=q3b (u6a m).length;have CM:Hid (∀(w:World) A n c,n<=281474976710656->Calls Tryz.prog 23 #[.slice A n c] w λe w'=>e=.returned (.int .i64 (T1b n:Nat))/\w=w'):=λw A n c h=>F1b w A n c h
 by_cases hm:r0b m.h=true;rotate_left
 ·have HE:=hI (hE.out 2 (by unfold W4a;rw[if_neg hm]) (by decide));have CH:Hid (∀w',Calls Tryz.prog 20 #[hv m.h] w' λe w2=>∃A',e=.returned (.tuple #[.slice A' 0 0,.int .i64 2])/\Below w'.heap.size w' w2):=λw'=>r5b w' m.h k.h (by simpa using hm)
  obtain⟨MC,hMC⟩:∃x,x=o0a m.h++(ac++sc):=⟨_,rfl⟩;rw[<-hMC] at BM HLL HOO RH RA RS RN CB'⊢;obtain⟨hcs,hhc⟩:∃x,x=o0a m.h:=⟨_,rfl⟩;unfold hv at CH;rw[<-hhc] at CH H26 BM RH;obtain⟨zm,hzm⟩:∃x,x=K1a:=⟨_,rfl⟩;rw[<-hzm] at ZM HZ;clear hE hQ hMC hhc hzm hm k CB CB' hy hl RN CM l1 l2 o1 o2 HP HPB HY hpd;go_enter Tryz.func8,Tryz.ntmps8;go_wp2_with(first
   | ((with_reducible refine sN 1 ?_);refine f0a rfl _ (.tmp 0) rfl MC rfl ?_;intro g1 w1 hg1 hg2 K1 L1)
   | ((with_reducible refine sN 9 ?_);refine t0a rfl _ (.tmp 8) rfl g1 0 rfl hcs _ (hI (RH.out _ _ _ K1.out)) Tryz.underlying28 rfl 26 J0a H26 ?_)
   | ((with_reducible refine sN 11 ?_);refine t0a rfl _ (.tmp 10) rfl g1 26 rfl ac _ (hI (RA.out _ _ _ K1.out)) Tryz.underlying34 rfl 69 n0a H69 ?_)
   | ((with_reducible refine sN 13 ?_);refine t0a rfl _ (.tmp 12) rfl g1 95 rfl sc _ (hI (RS.out _ _ _ K1.out)) Tryz.underlying39 rfl 20 s0a H20 ?_)
   | ((with_reducible refine sN 14 ?_);refine k0a rfl _ _ rfl MC (by refine Eq.trans ?_ BM;kernel_rfl) ?_)
   | ((with_reducible refine sN 4 ?_);refine a0a rfl _ rfl zm _ ZM ?_;intro g w2 hg3 hg4 Z2 L02;have L2:=hI (step L1.out L02.out);have hle:w.heap.size<=g:=(by have:=L1.out.size;omega))
   | ((with_reducible refine sT 4 ?_);refine b0a rfl _ (.tmp 4) (.tmp 14) rfl g rfl _ zm MC rfl Z2 115 W2a HZ HLL HOO ?_;intro w3 B3 O3 hg5;have L3:=hI (c0a L2.out O3.out hle))
   | ((with_reducible refine sN 17 ?_);refine t0a rfl _ (.tmp 16) rfl g 0 rfl hcs _ (hI (RH.out _ _ _ B3.out)) Tryz.underlying28 rfl 26 J0a H26 ?_)
   | fail)
  refine(CH.out w3).mono ?_;rintro e w4 ⟨A',rfl,L4⟩;go_wp2;go_ret2;exact HE.out _ _ rfl (step L3.out L4)
 have CH:Hid (∀w',Calls Tryz.prog 20 #[hv m.h] w' λe w2=>∃A',e=.returned (.tuple #[.slice A' 64 64,.int .i64 0])/\r2a w2 w'.heap.size A' (e6a m.h)/\Below w'.heap.size w' w2):=λw'=>l1c w' m.h k.h hm
 have hme:W4a m=K6a m:=by unfold W4a;rw[if_pos hm]
 rw[hme] at hE hQ;obtain⟨MC,hMC⟩:∃x,x=o0a m.h++(ac++sc):=⟨_,rfl⟩;rw[<-hMC] at BM HLL HOO RH RA RS RN CB'⊢;obtain⟨hcs,hhc⟩:∃x,x=o0a m.h:=⟨_,rfl⟩;unfold hv at CH;rw[<-hhc] at CH H26 BM RH;obtain⟨zm,hzm⟩:∃x,x=K1a:=⟨_,rfl⟩;rw[<-hzm] at ZM HZ;obtain⟨er,her⟩:∃x,x=K6a m:=⟨_,rfl⟩;rw[<-her] at hE hQ CB';by_cases h0:er=0;rotate_left
 ·have HE:=hI (hE.out er rfl h0);have hne:(er != 0)=true:=by simpa using h0
  clear hE hQ hMC hhc hzm hm k CB hy hl RN CM l1 l2 o1 o2 HY hpd her h0 hme;go_enter Tryz.func8,Tryz.ntmps8;go_wp2_with(first
   | ((with_reducible refine sN 1 ?_);refine f0a rfl _ (.tmp 0) rfl MC rfl ?_;intro g1 w1 hg1 hg2 K1 L1)
   | ((with_reducible refine sN 9 ?_);refine t0a rfl _ (.tmp 8) rfl g1 0 rfl hcs _ (hI (RH.out _ _ _ K1.out)) Tryz.underlying28 rfl 26 J0a H26 ?_)
   | ((with_reducible refine sN 11 ?_);refine t0a rfl _ (.tmp 10) rfl g1 26 rfl ac _ (hI (RA.out _ _ _ K1.out)) Tryz.underlying34 rfl 69 n0a H69 ?_)
   | ((with_reducible refine sN 13 ?_);refine t0a rfl _ (.tmp 12) rfl g1 95 rfl sc _ (hI (RS.out _ _ _ K1.out)) Tryz.underlying39 rfl 20 s0a H20 ?_)
   | ((with_reducible refine sN 14 ?_);refine k0a rfl _ _ rfl MC (by refine Eq.trans ?_ BM;kernel_rfl) ?_)
   | ((with_reducible refine sN 4 ?_);refine a0a rfl _ rfl zm _ ZM ?_;intro g w2 hg3 hg4 Z2 L02;have L2:=hI (step L1.out L02.out);have hle:w.heap.size<=g:=(by have:=L1.out.size;omega))
   | ((with_reducible refine sT 4 ?_);refine b0a rfl _ (.tmp 4) (.tmp 14) rfl g rfl _ zm MC rfl Z2 115 W2a HZ HLL HOO ?_;intro w3 B3 O3 hg5;have L3:=hI (c0a L2.out O3.out hle))
   | ((with_reducible refine sN 17 ?_);refine t0a rfl _ (.tmp 16) rfl g 0 rfl hcs _ (hI (RH.out _ _ _ B3.out)) Tryz.underlying28 rfl 26 J0a H26 ?_)
   | fail)
  refine(CH.out w3).mono ?_;rintro e w4 ⟨A',rfl,hf,L4⟩;have B4:=hI (B3.out.over L4);have L4a:=hI (step L3.out L4);have HA:=hI (hf.holds HP.out HPB.out (by omega));clear K1 L1 Z2 L02 L2 B3 O3 L3 L4 hf CH;go_wp2_with fail;refine(CB'.out w4 g L4a.out B4.out).mono ?_;rintro e w5 ⟨v,rfl,ho,L5⟩;have L5a:=hI (step L4a.out L5);go_wp2;go_ret2;exact HE.out _ _ rfl L5a.out
 subst h0;have HQ:=hI (hQ.out rfl);obtain⟨ys,hys⟩:∃x,x=u6a m:=⟨_,rfl⟩;rw[<-hys] at HQ HY CB' hl hpd;obtain⟨ps,hps⟩:∃x,x=e6a m.h:=⟨_,rfl⟩;rw[<-hps] at HQ HP HPB CH;by_cases hn:m.h.nx=0
 ·have HQ2:Hid (∀v e w',e=.returned (.tuple #[v,.int .i64 0])->T5a w' w.heap.size v (ps++ys)->Below w.heap.size w w'->s7a w m e w'):=by have:=HQ.out;unfold Q4a at this;rw[if_pos hn] at this;exact this
  rw[hn] at RN;clear hE hQ hMC hhc hzm hm k CB hy l1 l2 o1 o2 hpd her hme hn HQ CM hps hys;go_enter Tryz.func8,Tryz.ntmps8;go_wp2_with(first
   | ((with_reducible refine sN 1 ?_);refine f0a rfl _ (.tmp 0) rfl MC rfl ?_;intro g1 w1 hg1 hg2 K1 L1)
   | ((with_reducible refine sN 9 ?_);refine t0a rfl _ (.tmp 8) rfl g1 0 rfl hcs _ (hI (RH.out _ _ _ K1.out)) Tryz.underlying28 rfl 26 J0a H26 ?_)
   | ((with_reducible refine sN 11 ?_);refine t0a rfl _ (.tmp 10) rfl g1 26 rfl ac _ (hI (RA.out _ _ _ K1.out)) Tryz.underlying34 rfl 69 n0a H69 ?_)
   | ((with_reducible refine sN 13 ?_);refine t0a rfl _ (.tmp 12) rfl g1 95 rfl sc _ (hI (RS.out _ _ _ K1.out)) Tryz.underlying39 rfl 20 s0a H20 ?_)
   | ((with_reducible refine sN 14 ?_);refine k0a rfl _ _ rfl MC (by refine Eq.trans ?_ BM;kernel_rfl) ?_)
   | ((with_reducible refine sN 4 ?_);refine a0a rfl _ rfl zm _ ZM ?_;intro g w2 hg3 hg4 Z2 L02;have L2:=hI (step L1.out L02.out);have hle:w.heap.size<=g:=(by have:=L1.out.size;omega))
   | ((with_reducible refine sT 4 ?_);refine b0a rfl _ (.tmp 4) (.tmp 14) rfl g rfl _ zm MC rfl Z2 115 W2a HZ HLL HOO ?_;intro w3 B3 O3 hg5;have L3:=hI (c0a L2.out O3.out hle))
   | ((with_reducible refine sN 17 ?_);refine t0a rfl _ (.tmp 16) rfl g 0 rfl hcs _ (hI (RH.out _ _ _ B3.out)) Tryz.underlying28 rfl 26 J0a H26 ?_)
   | fail)
  refine(CH.out w3).mono ?_;rintro e w4 ⟨A',rfl,hf,L4⟩;have B4:=hI (B3.out.over L4);have L4a:=hI (step L3.out L4);have HA:=hI (hf.holds HP.out HPB.out (by omega));clear K1 L1 Z2 L02 L2 B3 O3 L3 L4 hf CH;go_wp2_with fail;refine(CB'.out w4 g L4a.out B4.out).mono ?_;rintro e w5 ⟨v,rfl,ho,L5⟩;have L5a:=hI (step L4a.out L5);have B5:=hI (B4.out.over L5);have gn:=RN.out _ _ _ B5.out;have HA5:=hI (HA.out.over L5);obtain⟨A5,c5,rfl,hh5⟩:=X0a.holds8 ho HY.out (by omega);have H5:=hI hh5;obtain⟨n,hnn⟩:∃x,x=ys.length:=⟨_,rfl⟩;rw[<-hnn] at H5 hl⊢;clear B4 L4a HA ho hh5 hnn L5;go_wp2_with(first
   | ((with_reducible refine sN 37 ?_);refine Q2a rfl 2 _ rfl [(A',64,64,ps),(A5,n,c5,ys)] rfl (by kernel_rfl) (List.forall_mem_cons.2 ⟨HA5.out,List.forall_mem_cons.2 ⟨H5.out,λ_ h=>by cases h⟩⟩) ?_;intro g6 w6 P6 b6)
   | fail)
  refine(X2a _ g6 2 _ _ _ _ P6.out (by omega) (by show 0+64+n<=_;omega)).mono ?_;rintro e w7 ⟨u,rfl,hu,L7⟩;have M6:=hI (step L5a.out b6.out);have HO:Hid (T5a w7 w.heap.size u (ps++ys)):=by
   show X0a .u8 5 w7 w.heap.size u (ps++ys)
   have:=hu.mono (base':=w.heap.size) M6.out.size;simpa[E7a,d4a] using this
  have M7:=hI (step M6.out L7);clear hu L7 P6 b6 M6;go_wp2;go_ret2;exact HQ2.out _ _ _ rfl HO.out M7.out
 ·have HQ2:Hid (∀v e w',e=.returned (.tuple #[v,.int .i64 0])->T5a w' w.heap.size v (ps++(ys++List.replicate (T1b ys.length) 0))->Below w.heap.size w w'->s7a w m e w'):=by have:=HQ.out;unfold Q4a at this;rw[if_neg hn] at this;exact this
  have hnx:(m.h.nx==0)=false:=by simpa using hn
  obtain⟨nx,hnxe⟩:∃x,x=m.h.nx:=⟨_,rfl⟩;rw[<-hnxe] at RN hnx;clear hE hQ hMC hhc hzm hm k CB hy l1 l2 o1 o2 her hme hn HQ hnxe hps hys;go_enter Tryz.func8,Tryz.ntmps8;go_wp2_with(first
   | ((with_reducible refine sN 1 ?_);refine f0a rfl _ (.tmp 0) rfl MC rfl ?_;intro g1 w1 hg1 hg2 K1 L1)
   | ((with_reducible refine sN 9 ?_);refine t0a rfl _ (.tmp 8) rfl g1 0 rfl hcs _ (hI (RH.out _ _ _ K1.out)) Tryz.underlying28 rfl 26 J0a H26 ?_)
   | ((with_reducible refine sN 11 ?_);refine t0a rfl _ (.tmp 10) rfl g1 26 rfl ac _ (hI (RA.out _ _ _ K1.out)) Tryz.underlying34 rfl 69 n0a H69 ?_)
   | ((with_reducible refine sN 13 ?_);refine t0a rfl _ (.tmp 12) rfl g1 95 rfl sc _ (hI (RS.out _ _ _ K1.out)) Tryz.underlying39 rfl 20 s0a H20 ?_)
   | ((with_reducible refine sN 14 ?_);refine k0a rfl _ _ rfl MC (by refine Eq.trans ?_ BM;kernel_rfl) ?_)
   | ((with_reducible refine sN 4 ?_);refine a0a rfl _ rfl zm _ ZM ?_;intro g w2 hg3 hg4 Z2 L02;have L2:=hI (step L1.out L02.out);have hle:w.heap.size<=g:=(by have:=L1.out.size;omega))
   | ((with_reducible refine sT 4 ?_);refine b0a rfl _ (.tmp 4) (.tmp 14) rfl g rfl _ zm MC rfl Z2 115 W2a HZ HLL HOO ?_;intro w3 B3 O3 hg5;have L3:=hI (c0a L2.out O3.out hle))
   | ((with_reducible refine sN 17 ?_);refine t0a rfl _ (.tmp 16) rfl g 0 rfl hcs _ (hI (RH.out _ _ _ B3.out)) Tryz.underlying28 rfl 26 J0a H26 ?_)
   | fail)
  refine(CH.out w3).mono ?_;rintro e w4 ⟨A',rfl,hf,L4⟩;have B4:=hI (B3.out.over L4);have L4a:=hI (step L3.out L4);have HA:=hI (hf.holds HP.out HPB.out (by omega));clear K1 L1 Z2 L02 L2 B3 O3 L3 L4 hf CH;go_wp2_with fail;refine(CB'.out w4 g L4a.out B4.out).mono ?_;rintro e w5 ⟨v,rfl,ho,L5⟩;have L5a:=hI (step L4a.out L5);have B5:=hI (B4.out.over L5);have gn:=RN.out _ _ _ B5.out;have HA5:=hI (HA.out.over L5);obtain⟨A5,c5,rfl,hh5⟩:=X0a.holds8 ho HY.out (by omega);have H5:=hI hh5;obtain⟨n,hnn⟩:∃x,x=ys.length:=⟨_,rfl⟩;rw[<-hnn] at H5 hl HQ2 hpd⊢;clear B4 L4a HA ho hh5 hnn L5;obtain⟨p,hp⟩:∃x,x=T1b n:=⟨_,rfl⟩;have CMn:Hid (∀w':World,Calls Tryz.prog 23 #[.slice A5 n c5] w' λe w2=>e=.returned (.int .i64 (p:Nat))/\w'=w2):=by rw[hp];exact λw'=>CM.out w' A5 n c5 (by omega)
  rw[<-hp] at HQ2 hpd;clear hp CM;have hpl:p<=281474976710656:=by omega
  go_wp2_with fail;refine(CMn.out _).mono ?_;rintro e w6 ⟨rfl,rfl⟩;go_wp2_with(first
   | (at_make;refine H1a _ rfl _ _ rfl _ _ p rfl rfl rfl rfl hpl ?_;intro w6 R6 L6;have HR6:Hid (Holds w6 w6.heap.size (some ⟨w5.heap.size,0,none⟩) p p (List.replicate p 0)):=r2a.holds (base:=w5.heap.size) (.inr ⟨_,rfl,Nat.le_refl _,R6.out⟩) (by simp) (Bytes.zeros _) (by omega))
   | ((with_reducible refine sN 44 ?_);refine Q2a rfl 3 _ rfl [(A',64,64,ps),(A5,n,c5,ys),(some ⟨w5.heap.size,0,none⟩,p,p,List.replicate p 0)] rfl (by kernel_rfl) (List.forall_mem_cons.2 ⟨HA5.out.over L6,List.forall_mem_cons.2 ⟨H5.out.over L6,List.forall_mem_cons.2 ⟨HR6.out,λ_ h=>by cases h⟩⟩⟩) ?_;intro g7 w7 P7 b7)
   | fail)
  refine(X2a _ g7 3 _ _ _ _ P7.out (by omega) (by show 0+64+n+p<=_;omega)).mono ?_;rintro e w8 ⟨u,rfl,hu,L8⟩;have M7:=hI (step (step L5a.out L6) b7.out);have HO:Hid (T5a w8 w.heap.size u (ps++(ys++List.replicate p 0))):=by
   show X0a .u8 5 w8 w.heap.size u (ps++(ys++List.replicate p 0))
   have:=hu.mono (base':=w.heap.size) M7.out.size;simpa[E7a,d4a] using this
  have M8:=hI (step M7.out L8);clear hu L8 P7 b7 M7 L6 R6;go_wp2;go_ret2;exact HQ2.out _ _ _ rfl HO.out M8.out
def UpV(lo:Nat)(o:Option Value):Prop:=∀b off s n c,o=some (.slice (some ⟨b,off,s⟩) n c)->lo<=b
def UpA(lo:Nat)(cs:List Value)(a:m1a):Prop:=(a.dial=[]∨UpV lo cs[0]?)/\(a.data=[]∨UpV lo cs[61]?)/\(a.locks=[]∨UpV lo cs[62]?)
def UpS(lo:Nat)(cs:List Value)(s:M1a):Prop:=(s.data=[]∨UpV lo cs[15]?)/\(s.ents=[]∨UpV lo cs[17]?)
theorem UpV.mono{lo lo':Nat}{o:Option Value}(h:UpV lo o)(hl:lo'<=lo):UpV lo' o:=λb off s n c e=>Nat.le_trans hl (h b off s n c e)
theorem UpA.mono{lo lo':Nat}{cs:List Value}{a:m1a}(h:UpA lo cs a)(hl:lo'<=lo):UpA lo' cs a:=⟨h.1.imp id (·.mono hl),h.2.1.imp id (·.mono hl),h.2.2.imp id (·.mono hl)⟩
theorem UpS.mono{lo lo':Nat}{cs:List Value}{s:M1a}(h:UpS lo cs s)(hl:lo'<=lo):UpS lo' cs s:=⟨h.1.imp id (·.mono hl),h.2.imp id (·.mono hl)⟩
theorem T1a.cellNe{w w':World}{g b o:Nat}(hO:T1a g w w')(hb:b≠g):w'.cell? ⟨b,o,none⟩=w.cell? ⟨b,o,none⟩:=by unfold World.cell?;rw[hO.rest b hb]
theorem G1a.onlyUp{α:Type}{f:α->Value}{w w':World}{B g lo n c:Nat}{A:Option Addr}{xs:List α}(h:G1a f w B A n c xs)(hO:T1a g w w')(hu:xs=[]∨UpV lo (some (.slice A n c)))(hg:g<lo):G1a f w' B A n c xs:=
 ⟨h.len,h.fit,h.bare,λh0=>by
  obtain⟨b,off,hA,hb,hc⟩:=h.cells h0;refine⟨b,off,hA,hb,λi x hi=>?_⟩;have hne:b≠g:=by
   rcases hu with hu | hu
   ·have:=h.len;rw[hu] at this;simp at this;omega
   ·have:=hu b off none n c (by rw[hA]);omega
  rw[hO.cellNe hne];exact hc i x hi⟩
theorem Holds.onlyUp{w w':World}{B g lo n c:Nat}{A:Option Addr}{xs:List Int}(h:Holds w B A n c xs)(hO:T1a g w w')(hu:xs=[]∨UpV lo (some (.slice A n c)))(hg:g<lo):Holds w' B A n c xs:=
 ⟨h.len,h.fit,h.room,h.byte,h.bare,λh0=>by
  obtain⟨b,off,hA,hb,hc⟩:=h.cells h0;refine⟨b,off,hA,hb,λi hi=>?_⟩;have hne:b≠g:=by
   rcases hu with hu | hu
   ·have:=h.len;rw[hu] at this;simp at this;omega
   ·have:=hu b off none n c (by rw[hA]);omega
  rw[hO.cellNe hne];exact hc i hi⟩
theorem d1a.onlyUp{α:Type}{f:α->List Value}{s:Nat}{w w':World}{B g lo n c:Nat}{A:Option Addr}{xs:List α}(h:d1a f s w B A n c xs)(hO:T1a g w w')(hu:xs=[]∨UpV lo (some (.slice A n c)))(hg:g<lo):d1a f s w' B A n c xs:=
 ⟨h.len,h.fit,h.bare,λh0=>by
  obtain⟨b,off,hA,hb,hc⟩:=h.cells h0;refine⟨b,off,hA,hb,λi x hi j u hj=>?_⟩;have hne:b≠g:=by
   rcases hu with hu | hu
   ·have:=h.len;rw[hu] at this;simp at this;omega
   ·have:=hu b off none n c (by rw[hA]);omega
  rw[hO.cellNe hne];exact hc i x hi j u hj⟩
def GA(w:World)(lo:Nat)(ac:List Value)(a:m1a):Prop:=a.ok/\f1a w w.heap.size ac a/\UpA lo ac a/\∃vx,ac[61]? = some vx/\T5a w lo vx a.data
def GS(w:World)(lo:Nat)(sc:List Value)(s:M1a):Prop:=s.ok/\n1a w w.heap.size sc s/\UpS lo sc s/\∃vx,sc[15]? = some vx/\T5a w lo vx s.data
theorem X0a.onlyLow{k:IntKind}{e:TypeId}{w w':World}{base b:Nat}{v:Value}{xs:List Int}(h:X0a k e w base v xs)(hO:T1a b w w')(hb:b<base):X0a k e w' base v xs:=
 h.keep λi cs hi hc=>hO.rest i (by obtain⟨h1,_⟩:=h.own.block hi;omega)
theorem GA.only{w w':World}{lo g:Nat}{ac:List Value}{a:m1a}(h:GA w lo ac a)(hO:T1a g w w')(hg:g<lo):GA w' lo ac a:=by
 obtain⟨k,⟨Ad,nd,cd,Ax,nx,cx,Al,nl,cl,rfl,h1,h2,h3⟩,⟨u1,u2,u3⟩,vx,hx,ho⟩:=h;rw[show(j0a (.slice Ad nd cd) (.slice Ax nx cx) (.slice Al nl cl) a)[61]? = some (.slice Ax nx cx) from p0a k 12] at u2;rw[show(j0a (.slice Ad nd cd) (.slice Ax nx cx) (.slice Al nl cl) a)[62]? = some (.slice Al nl cl) from p0a k 13] at u3;have u1':a.dial=[]∨UpV lo (some (.slice Ad nd cd)):=u1;refine⟨k,⟨Ad,nd,cd,Ax,nx,cx,Al,nl,cl,rfl,?_,?_,?_⟩,⟨u1,?_,?_⟩,vx,hx,ho.onlyLow hO hg⟩
 ·rw[hO.size];exact h1.onlyUp hO u1' hg
 ·rw[hO.size];exact h2.onlyUp hO u2 hg
 ·rw[hO.size];exact h3.onlyUp hO u3 hg
 ·rw[show(j0a (.slice Ad nd cd) (.slice Ax nx cx) (.slice Al nl cl) a)[61]? = some (.slice Ax nx cx) from p0a k 12];exact u2
 ·rw[show(j0a (.slice Ad nd cd) (.slice Ax nx cx) (.slice Al nl cl) a)[62]? = some (.slice Al nl cl) from p0a k 13];exact u3
theorem GS.only{w w':World}{lo g:Nat}{sc:List Value}{s:M1a}(h:GS w lo sc s)(hO:T1a g w w')(hg:g<lo):GS w' lo sc s:=by
 obtain⟨k,⟨Ax,nx,cx,Al,nl,cl,rfl,h2,h3⟩,⟨u2,u3⟩,vx,hx,ho⟩:=h;rw[show(r0a (.slice Ax nx cx) (.slice Al nl cl) s)[15]? = some (.slice Ax nx cx) from B0a k 5] at u2;rw[show(r0a (.slice Ax nx cx) (.slice Al nl cl) s)[17]? = some (.slice Al nl cl) from B0a k 7] at u3;refine⟨k,⟨Ax,nx,cx,Al,nl,cl,rfl,?_,?_⟩,⟨?_,?_⟩,vx,hx,ho.onlyLow hO hg⟩
 ·rw[hO.size];exact h2.onlyUp hO u2 hg
 ·rw[hO.size];exact h3.onlyUp hO u3 hg
 ·rw[show(r0a (.slice Ax nx cx) (.slice Al nl cl) s)[15]? = some (.slice Ax nx cx) from B0a k 5];exact u2
 ·rw[show(r0a (.slice Ax nx cx) (.slice Al nl cl) s)[17]? = some (.slice Al nl cl) from B0a k 7];exact u3
theorem GA.over{w w':World}{lo:Nat}{ac:List Value}{a:m1a}(h:GA w lo ac a)(hb:Below w.heap.size w w'):GA w' lo ac a:=by obtain⟨k,h1,h2,vx,hx,ho⟩:=h;exact⟨k,h1.over hb,h2,vx,hx,ho.below hb⟩
theorem GS.over{w w':World}{lo:Nat}{sc:List Value}{s:M1a}(h:GS w lo sc s)(hb:Below w.heap.size w w'):GS w' lo sc s:=by obtain⟨k,h1,h2,vx,hx,ho⟩:=h;exact⟨k,h1.over hb,h2,vx,hx,ho.below hb⟩
theorem GA.mono{w:World}{lo lo':Nat}{ac:List Value}{a:m1a}(h:GA w lo ac a)(hl:lo'<=lo):GA w lo' ac a:=by obtain⟨k,h1,h2,vx,hx,ho⟩:=h;exact⟨k,h1,h2.mono hl,vx,hx,ho.mono hl⟩
theorem GS.mono{w:World}{lo lo':Nat}{sc:List Value}{s:M1a}(h:GS w lo sc s)(hl:lo'<=lo):GS w lo' sc s:=by obtain⟨k,h1,h2,vx,hx,ho⟩:=h;exact⟨k,h1,h2.mono hl,vx,hx,ho.mono hl⟩
def zac:List Value:=j0a (.slice none 0 0) (.slice none 0 0) (.slice none 0 0) i0a
def zsc:List Value:=r0a (.slice none 0 0) (.slice none 0 0) q0a
theorem GA.zero(w:World)(lo:Nat):GA w lo zac i0a:=⟨h0a,w2a w _,⟨.inl rfl,.inl rfl,.inl rfl⟩,.slice none 0 0,rfl,X0a.nil _ _ _ _⟩
theorem GS.zero(w:World)(lo:Nat):GS w lo zsc q0a:=⟨G0a,E2a w _,⟨.inl rfl,.inl rfl⟩,.slice none 0 0,rfl,X0a.nil _ _ _ _⟩
theorem GA.len{w:World}{lo:Nat}{ac:List Value}{a:m1a}(h:GA w lo ac a):ac.length=69:=h.2.1.len h.1
theorem GS.len{w:World}{lo:Nat}{sc:List Value}{s:M1a}(h:GS w lo sc s):sc.length=20:=h.2.1.len h.1
theorem GA.one{w:World}{lo:Nat}{ac:List Value}{a:m1a}(h:GA w lo ac a):∀v∈ac,v.oneCell'=true:=h.2.1.one
theorem GS.one{w:World}{lo:Nat}{sc:List Value}{s:M1a}(h:GS w lo sc s):∀v∈sc,v.oneCell'=true:=h.2.1.one
def Q8b(w:World)(c:Int)(A:Option Addr)(n k:Nat)(xs:List Int):Prop:=∀w',Below w.heap.size w w'->Calls Tryz.prog (fGA c) #[.int .u16 c,.slice A n k] w' λe w2=>∃cs,e=.returned (.tuple #[.agg cs.toArray,.int .i64 (gae c xs)])/\GA w2 w'.heap.size cs (gao c xs)/\Below w'.heap.size w' w2
def f0c(w:World)(c:Int)(A:Option Addr)(n k:Nat)(xs:List Int):Prop:=∀w',Below w.heap.size w w'->Calls Tryz.prog (fGS c) #[.int .u16 c,.slice A n k] w' λe w2=>∃cs,e=.returned (.tuple #[.agg cs.toArray,.int .i64 (gse c xs)])/\GS w2 w'.heap.size cs (gso c xs)/\Below w'.heap.size w' w2
def w2c(w w':World)(h:Hd)(ac sc ac' sc':List Value)(xs:List Int):Prop:=(m3a h.fl=true->ac'=ac/\GS w' w.heap.size sc' (gso (N7a h) xs))/\(m3a h.fl=false->sc'=sc/\GA w' w.heap.size ac' (gao (N7a h) xs))
def C2b(w:World)(g:Nat)(h:Hd)(ac sc:List Value)(xs:List Int)(e:Ending)(w':World):Prop:=∃ac' sc',e=.returned (.int .i64 (G4a h xs))/\Blk w' g 60 (o0a h++(ac'++sc'))/\ac'.length=69/\sc'.length=20/\Q0a g w w'/\w2c w w' h ac sc ac' sc' xs
theorem D2b(w:World)(g:Nat)(h:Hd)(ac sc:List Value)(k:h.ok)(B:Blk w g 60 (o0a h++(ac++sc)))(l1:ac.length=69)(l2:sc.length=20)(A:Option Addr)(n c:Nat)(xs:List Int)
(CA:m3a h.fl=false->Q8b w (N7a h) A n c xs)(CS:m3a h.fl=true->f0c w (N7a h) A n c xs) :
  Calls Tryz.prog 61 #[.pointer (some ⟨g,0,none⟩),.slice A n c] w (C2b w g h ac sc xs):=by
 have CR:=hI (z8b w g h k _ B);have CI:=hI (l8a w g h k _ B);have H26:=hI (L0a k);have HLL:Hid ((o0a h++(ac++sc)).length=115):=by
  show _=_
  simp only[List.length_append,H26.out,l1,l2]
 have CB:Hid (∀w',Calls Tryz.prog 41 #[.int .u16 (N7a h)] w' λe w2=>e=.returned (S3a (N7a h))/\Below w'.heap.size w' w2):=λw'=>N9a w' _ (r7a k)
 have TA:Hid (∀ac',(o0a h++(ac++sc)).take 26++(ac'++(o0a h++(ac++sc)).drop (26+69))=o0a h++(ac'++sc)):=λac'=>by rw[List.take_left' H26.out,<-List.drop_drop,List.drop_left' H26.out,List.drop_left' l1]
 have TS:Hid (∀sc',(o0a h++(ac++sc)).take 95++(sc'++(o0a h++(ac++sc)).drop (95+20))=o0a h++(ac++sc')):=λsc'=>by
  have hl:(o0a h++ac).length=95:=by rw[List.length_append,H26.out,l1]
  rw[<-List.append_assoc (o0a h),List.take_left' hl,<-List.drop_drop,List.drop_left' hl,List.drop_of_length_le (by omega)];simp
 have gl:=B.lt;have BH:=hI B;have F1:=P9a g;have F2:=Q9a g;obtain⟨MC,hMC⟩:∃x,x=o0a h++(ac++sc):=⟨_,rfl⟩;rw[<-hMC] at TA TS BH HLL;obtain⟨q,hq⟩:∃x,x=N7a h:=⟨_,rfl⟩;rw[<-hq] at CR CB CA CS;clear hMC B H26;by_cases hr:m3a h.fl=true
 ·skip
  have CC:=hI (CS hr);rw[hr] at CI;have hent:=h2c q;obtain⟨fA,fB,fC,hF⟩:∃F1 F2 F3,S3a q=.agg #[F1,F2,F3,.func (.func (fGS q)) #[] #[]]:=⟨_,_,_,rfl⟩;rw[hF] at CB;unfold f0c at CC;obtain⟨fn,hfn⟩:∃x,x=fGS q:=⟨_,rfl⟩;rw[<-hfn] at CC CB hent;have HP:Hid (∀sc' e w',e=.returned (.int .i64 (G4a h xs))->Blk w' g 60 (o0a h++(ac++sc'))->Q0a g w w'->GS w' w.heap.size sc' (gso q xs)->C2b w g h ac sc xs e w'):=by intro sc' e w' h1 h2 h3 h4;exact⟨ac,sc',h1,h2,l1,h4.len,h3,λ_=>⟨rfl,by rw[<-hq];exact h4⟩,λh5=>absurd h5 (by rw[hr];decide)⟩
  have hge:G4a h xs=if gse q xs=2 then 5 else gse q xs:=by unfold G4a;rw[if_pos hr,hq]
  rw[hge] at HP;obtain⟨er,her⟩:∃x,x=gse q xs:=⟨_,rfl⟩;rw[<-her] at CC HP;by_cases h2:er=2
  ·subst h2;rw[if_pos rfl] at HP;clear her hge hfn hF hr CA CS hq l1 l2 k;go_enter Tryz.func61,Tryz.ntmps61;go_wp2_with fail;refine CR.out.mono ?_;rintro e w1 ⟨rfl,rfl⟩;go_wp2_with fail;refine CI.out.mono ?_;rintro e w1 ⟨rfl,rfl⟩;go_wp2_with fail;refine(CB.out w).mono ?_;rintro e w2 ⟨rfl,L2⟩;have B2:=hI (BH.out.over L2);have M2:=hI L2;have e2:=L2.size;clear L2 BH CB CR CI;go_wp2_with(first
    | ((with_reducible refine sN 28 ?_);refine wpList_plain rfl λK hK=>?_;go_simp;refine hK _ _ ?_;clear hK K)
    | fail)
   refine(CC.out w2 M2.out).mono ?_;rintro e w3 ⟨cs,rfl,hg,L3⟩;have B3:=hI (B2.out.over L3);have M3:=hI (step M2.out L3);have GG:=hI hg;have e3:=L3.size;have HL1:=hI hg.len;have HO1:=hI hg.one;clear hg L3 B2 M2 CC;go_wp2_with(first
    | ((with_reducible refine sT 35 ?_);refine x2a rfl _ (.tmp 35) (.tmp 32) rfl g 95 rfl _ MC cs rfl B3 20 s0a HL1 (hI (by rw[HLL.out];omega)) HO1 ?_;intro w4 B4 O4 hg4;rw[TS.out] at B4;have SV:Hid (Q0a g w w4):=(Q0a.of_below M3.out g).trans (Q0a.of_only O4.out);have G4:Hid (GS w4 w.heap.size cs (gso q xs)):=(GG.out.mono e2).only O4.out gl)
    | fail)
   go_ret;exact HP.out cs _ _ rfl B4.out SV.out G4.out
  ·rw[if_neg h2] at HP;have hne:(er==2)=false:=by simpa using h2
   clear her hge hfn hF hr CA CS hq h2 l1 l2 k;go_enter Tryz.func61,Tryz.ntmps61;go_wp2_with fail;refine CR.out.mono ?_;rintro e w1 ⟨rfl,rfl⟩;go_wp2_with fail;refine CI.out.mono ?_;rintro e w1 ⟨rfl,rfl⟩;go_wp2_with fail;refine(CB.out w).mono ?_;rintro e w2 ⟨rfl,L2⟩;have B2:=hI (BH.out.over L2);have M2:=hI L2;have e2:=L2.size;clear L2 BH CB CR CI;go_wp2_with(first
    | ((with_reducible refine sN 28 ?_);refine wpList_plain rfl λK hK=>?_;go_simp;refine hK _ _ ?_;clear hK K)
    | fail)
   refine(CC.out w2 M2.out).mono ?_;rintro e w3 ⟨cs,rfl,hg,L3⟩;have B3:=hI (B2.out.over L3);have M3:=hI (step M2.out L3);have GG:=hI hg;have e3:=L3.size;have HL1:=hI hg.len;have HO1:=hI hg.one;clear hg L3 B2 M2 CC;go_wp2_with(first
    | ((with_reducible refine sT 35 ?_);refine x2a rfl _ (.tmp 35) (.tmp 32) rfl g 95 rfl _ MC cs rfl B3 20 s0a HL1 (hI (by rw[HLL.out];omega)) HO1 ?_;intro w4 B4 O4 hg4;rw[TS.out] at B4;have SV:Hid (Q0a g w w4):=(Q0a.of_below M3.out g).trans (Q0a.of_only O4.out);have G4:Hid (GS w4 w.heap.size cs (gso q xs)):=(GG.out.mono e2).only O4.out gl)
    | fail)
   go_ret;exact HP.out cs _ _ rfl B4.out SV.out G4.out
 ·have hr':m3a h.fl=false:=by simpa using hr
  have CC:=hI (CA hr');rw[hr'] at CI;have hent:=f2c q;obtain⟨fA,fB,fC,hF⟩:∃F1 F2 F3,S3a q=.agg #[F1,.func (.func (fGA q)) #[] #[],F2,F3]:=⟨_,_,_,rfl⟩;rw[hF] at CB;unfold Q8b at CC;obtain⟨fn,hfn⟩:∃x,x=fGA q:=⟨_,rfl⟩;rw[<-hfn] at CC CB hent;have HP:Hid (∀ac' e w',e=.returned (.int .i64 (G4a h xs))->Blk w' g 60 (o0a h++(ac'++sc))->Q0a g w w'->GA w' w.heap.size ac' (gao q xs)->C2b w g h ac sc xs e w'):=by intro ac' e w' h1 h2 h3 h4;exact⟨ac',sc,h1,h2,h4.len,l2,h3,λh5=>absurd h5 (by rw[hr'];decide),λ_=>⟨rfl,by rw[<-hq];exact h4⟩⟩
  have hge:G4a h xs=gae q xs:=by unfold G4a;rw[if_neg hr,hq]
  rw[hge] at HP;obtain⟨er,her⟩:∃x,x=gae q xs:=⟨_,rfl⟩;rw[<-her] at CC HP;clear her hge hfn hF hr hr' CA CS hq l1 l2 k;go_enter Tryz.func61,Tryz.ntmps61;go_wp2_with fail;refine CR.out.mono ?_;rintro e w1 ⟨rfl,rfl⟩;go_wp2_with fail;refine CI.out.mono ?_;rintro e w1 ⟨rfl,rfl⟩;go_wp2_with fail;refine(CB.out w).mono ?_;rintro e w2 ⟨rfl,L2⟩;have B2:=hI (BH.out.over L2);have M2:=hI L2;have e2:=L2.size;clear L2 BH CB CR CI;go_wp2_with(first
   | ((with_reducible refine sN 15 ?_);refine wpList_plain rfl λK hK=>?_;go_simp;refine hK _ _ ?_;clear hK K)
   | fail)
  refine(CC.out w2 M2.out).mono ?_;rintro e w3 ⟨cs,rfl,hg,L3⟩;have B3:=hI (B2.out.over L3);have M3:=hI (step M2.out L3);have GG:=hI hg;have e3:=L3.size;have HL1:=hI hg.len;have HO1:=hI hg.one;clear hg L3 B2 M2 CC;go_wp2_with(first
   | ((with_reducible refine sT 22 ?_);refine x2a rfl _ (.tmp 22) (.tmp 19) rfl g 26 rfl _ MC cs rfl B3 69 n0a HL1 (hI (by rw[HLL.out];omega)) HO1 ?_;intro w4 B4 O4 hg4;rw[TA.out] at B4;have SV:Hid (Q0a g w w4):=(Q0a.of_below M3.out g).trans (Q0a.of_only O4.out);have G4:Hid (GA w4 w.heap.size cs (gao q xs)):=(GG.out.mono e2).only O4.out gl)
   | fail)
  go_ret;exact HP.out cs _ _ rfl B4.out SV.out G4.out
def R9a(w:World)(g:Nat)(h:Hd)(ac sc:List Value)(xs:List Int)(e:Ending)(w':World):Prop:=∃ac' sc',e=.returned (.int .i64 (p0b h xs))/\Blk w' g 60 (o0a h++(ac'++sc'))/\Q0a g w w'/\(p0b h xs=0->w2c w w' h ac sc ac' sc' (e2b h xs))
theorem E2b(w:World)(g:Nat)(h:Hd)(ac sc:List Value)(k:h.ok)(B:Blk w g 60 (o0a h++(ac++sc)))(l1:ac.length=69)(l2:sc.length=20)(A:Option Addr)(n c:Nat)(xs:List Int)(hn:h.nx=0)
(CA:m3a h.fl=false->Q8b w (N7a h) A n c xs)(CS:m3a h.fl=true->f0c w (N7a h) A n c xs) :
  Calls Tryz.prog 31 #[.pointer (some ⟨g,0,none⟩),.slice A n c] w (R9a w g h ac sc xs):=by
 have CG:=hI (D2b w g h ac sc k B l1 l2 A n c xs CA CS);unfold C2b at CG;have HP:Hid (∀ac' sc' e w',e=.returned (.int .i64 (G4a h xs))->Blk w' g 60 (o0a h++(ac'++sc'))->Q0a g w w'->w2c w w' h ac sc ac' sc' xs->R9a w g h ac sc xs e w'):=by intro ac' sc' e w' h1 h2 h3 h4;unfold R9a p0b e2b;rw[if_pos hn,if_pos hn];exact⟨ac',sc',h1,h2,h3,λ_=>h4⟩
 have RN:Hid (∀(w:World) ac' sc',Blk w g 60 (o0a h++(ac'++sc'))->w.cell? ⟨g,5,none⟩=some (.int .u32 0)):=λw ac' sc' b=>by rw[<-hn];exact Blk.cell b 5
 obtain⟨er,her⟩:∃x,x=G4a h xs:=⟨_,rfl⟩;rw[<-her] at CG HP;clear her hn CA CS k B;go_enter Tryz.func31,Tryz.ntmps31;go_wp2_with fail;refine CG.out.mono ?_;rintro e w1 ⟨ac',sc',rfl,hb,_,_,hs,hgm⟩;have gn:=RN.out _ _ _ hb;have HX:=hI (HP.out ac' sc' _ w1 rfl hb hs hgm);clear hb hs hgm HP CG;go_wp2;go_ret;exact HX.out
def t7a(w:World)(xs:List Int)(e:Ending)(w':World):Prop:=∃ac sc,e=.returned (.tuple #[.agg (o0a (n4b xs).h++(ac++sc)).toArray,.int .i64 (q0b xs)])/\GA w' w.heap.size ac (n4b xs).a/\GS w' w.heap.size sc (n4b xs).s/\Below w.heap.size w w'
def U2c(w:World)(h:Hd)(xs:List Int):Prop:=∀w' g A n c,Below w.heap.size w w'->Blk w' g 60 (o0a h++(zac++zsc))->Holds w' g A n c xs->Calls Tryz.prog 31 #[.pointer (some ⟨g,0,none⟩),.slice A n c] w' (R9a w' g h zac zsc xs)
theorem w9a:zac.length=69:=I1a h0a
theorem x9a:zsc.length=20:=U1a G0a
theorem L0c(w:World)(A:Option Addr)(n c:Nat)(xs:List Int)(hx:Holds w w.heap.size A n c xs)(CB:m2a xs 0=0->U2c w (l2a xs 0) (xs.drop 64)) :
  Calls Tryz.prog 13 #[.slice A n c] w (t7a w xs):=by
 have hk:=J0b xs 0 hx.byte;have CH:Hid (∀w',Below w.heap.size w w'->Calls Tryz.prog 30 #[.slice A n c,.int .i64 0] w' λe w2=>e=.returned (.tuple #[.agg (o0a (l2a xs 0)).toArray,.int .i64 (m2a xs 0)])/\Below w'.heap.size w' w2):=λw' hb=>c0c w' A n c xs 0 (hx.over hb) (by omega)
 have ZM:=hI U8a;have ZG:=hI M9a;have HZ:=hI y3a;have HZO:Hid (∀v∈K1a,v.oneCell'=true):=by
  intro v hv;unfold K1a at hv;rcases List.mem_append.1 hv with hv | hv
  ·exact v2a _ v hv
  ·rcases List.mem_append.1 hv with hv | hv
   ·exact x1a rfl rfl rfl v hv
   ·exact J1a rfl rfl v hv
 have BZ:=W6b;have ZH:=hI p9a;have HZH:=hI (L0a o3a);have H26:=hI (L0a hk);have HO26:=hI (v2a (l2a xs 0));have B1:=y8b a8a (L0a hk);have hE:Hid (∀er,q0b xs=er->er≠0->∀e w',e=.returned (.tuple #[.agg K1a.toArray,.int .i64 er])->Below w.heap.size w w'->t7a w xs e w'):=by intro er h1 h2 e w' h3 h4;unfold t7a n4b;rw[h1,if_neg h2];exact⟨zac,zsc,h3,GA.zero _ _,GS.zero _ _,h4⟩
 have HX:=hI hx;have hl:=hx.len;have hf:=hx.fit;have hrm:=hx.room;by_cases h0:m2a xs 0=0;rotate_left
 ·have HE:=hI (hE.out (m2a xs 0) (by unfold q0b;rw[if_neg h0]) h0);obtain⟨er,her⟩:∃x,x=m2a xs 0:=⟨_,rfl⟩;rw[<-her] at CH HE;have hne:(er != 0)=true:=by rw[her];simpa using h0
  obtain⟨hcs,hhc⟩:∃x,x=o0a (l2a xs 0):=⟨_,rfl⟩;rw[<-hhc] at CH H26 HO26;obtain⟨zm,hzm⟩:∃x,x=K1a:=⟨_,rfl⟩;rw[<-hzm] at ZM HZ HZO BZ HE;obtain⟨zh,hzh⟩:∃x,x=o0a N1a:=⟨_,rfl⟩;rw[<-hzh] at ZH HZH;clear hE her h0 hhc hzm hzh CB hk B1 hx ZG;go_enter Tryz.func13,Tryz.ntmps13;go_wp2_with(first
   | ((with_reducible refine sN 2 ?_);refine a0a rfl _ rfl zm _ ZM ?_;intro g0 w1 hg1 hg2 Z1 L1)
   | fail)
  refine(CH.out w1 L1.out).mono ?_;rintro e w2 ⟨rfl,L2⟩;have Z2:=hI (Z1.out.over L2);have M2:=hI (step L1.out L2);have e2:=L2.size;clear L2 L1 Z1 CH;go_wp2_with(first
   | ((with_reducible refine sN 4 ?_);refine a0a rfl _ rfl zh _ ZH ?_;intro g3 w3 hg3 hg4 X3 L3;have M3:=hI (step M2.out L3.out);have Z3:=hI (Z2.out.over L3.out))
   | ((with_reducible refine sT 4 ?_);refine b0a rfl _ (.tmp 4) (.tmp 11) rfl g3 rfl _ zh hcs rfl X3 26 J0a HZH H26 HO26 ?_;intro w4 X4 O4 hg5;have M4:=hI (c0a M3.out O4.out (by omega));have Z4:=hI (Z3.out.only O4.out (by omega)))
   | ((with_reducible refine sN 15 ?_);refine x0a rfl _ rfl zm BZ ?_)
   | ((with_reducible refine sT 2 ?_);refine b0a rfl _ (.tmp 2) (.tmp 15) rfl g0 rfl _ zm zm rfl Z4 115 r1a HZ HZ HZO ?_;intro w5 X5 O5 hg6)
   | fail)
  refine bodyPost_ret (v:=.tuple #[.agg zm.toArray,.int .i64 er]) ?_ rfl (HE.out _ _ rfl (c0a M4.out O5.out (by omega)));exact m0a rfl _ _ g0 _ _ (0,0) _ rfl X5.out Tryz.underlying41 rfl (by rw[r1a];have:=HZ.out;simp[this]) rfl
 have hrn:64<=n:=by
  have h1:=h0;unfold m2a at h1;by_cases hp:R0a xs.length 0 64=0
  ·have:=I0b hp;omega
  ·rw[if_neg hp] at h1;exact absurd h1 hp
 have hbe:q0b xs=p0b (l2a xs 0) (xs.drop 64):=by unfold q0b;rw[if_pos h0]
 have CB':=hI (CB h0);unfold U2c R9a at CB';rw[h0] at CH;have HQ:Hid (q0b xs=0->∀ac sc e w',e=.returned (.tuple #[.agg (o0a (l2a xs 0)++(ac++sc)).toArray,.int .i64 0])->GA w' w.heap.size ac (gbA (l2a xs 0) (e2b (l2a xs 0) (xs.drop 64)))->GS w' w.heap.size sc (gbS (l2a xs 0) (e2b (l2a xs 0) (xs.drop 64)))->Below w.heap.size w w'->t7a w xs e w'):=by intro h1 ac sc e w' h2 h3 h4 h5;unfold t7a n4b;rw[h1,if_pos rfl];exact⟨ac,sc,h2,h3,h4,h5⟩
 have TG:Hid (∀w1 w' lo ac sc ys,lo<=w1.heap.size->w2c w1 w' (l2a xs 0) zac zsc ac sc ys->GA w' lo ac (gbA (l2a xs 0) ys)/\GS w' lo sc (gbS (l2a xs 0) ys)):=by
  intro w1 w' lo ac sc ys hlo hgm;unfold gbA gbS;by_cases hr:m3a (l2a xs 0).fl=true
  ·obtain⟨rfl,h2⟩:=hgm.1 hr;rw[if_pos hr,if_pos hr];exact⟨GA.zero _ _,h2.mono hlo⟩
  ·obtain⟨rfl,h2⟩:=hgm.2 (by simpa using hr);rw[if_neg hr,if_neg hr];exact⟨h2.mono hlo,GS.zero _ _⟩
 rw[hbe] at hE HQ;obtain⟨hh,hhe⟩:∃x,x=l2a xs 0:=⟨_,rfl⟩;rw[<-hhe] at CH H26 HO26 B1 CB' hE HQ TG;obtain⟨er,her⟩:∃x,x=p0b hh (xs.drop 64):=⟨_,rfl⟩;rw[<-her] at CB' hE HQ;have RH:Hid (∀(w:World) g T ac sc,Blk w g T (o0a hh++(ac++sc))->w.rangeAt g 0 (o0a hh)):=λw g T ac sc b=>t9a b
 have RA:Hid (∀(w:World) g T ac sc,Blk w g T (o0a hh++(ac++sc))->w.rangeAt g 26 ac):=λw g T ac sc b=>p7a b H26.out
 have RS:Hid (∀(w:World) g T ac sc,ac.length=69->Blk w g T (o0a hh++(ac++sc))->w.rangeAt g 95 sc):=λw g T ac sc h1 b=>q7a b H26.out h1
 have HLL:Hid ((o0a hh++(zac++zsc)).length=115):=by
  show _=_
  simp only[List.length_append,H26.out,w9a,x9a]
 have HOO:Hid (∀ac sc,(∀v∈ac,v.oneCell'=true)->(∀v∈sc,v.oneCell'=true)->∀v∈o0a hh++(ac++sc),v.oneCell'=true):=by
  intro ac sc o1 o2 v hv;rcases List.mem_append.1 hv with hv | hv
  ·exact HO26.out v hv
  ·rcases List.mem_append.1 hv with hv | hv
   ·exact o1 v hv
   ·exact o2 v hv
 have HO0:Hid (∀v∈o0a hh++(zac++zsc),v.oneCell'=true):=HOO.out _ _ (x1a rfl rfl rfl) (J1a rfl rfl);have BM:Hid (∀ac sc,ac.length=69->sc.length=20->Tryz.prog.built 41 [(0,.agg (o0a hh).toArray),(1,.agg ac.toArray),(2,.agg sc.toArray)]=some (o0a hh++(ac++sc)).toArray):=λac sc h1 h2=>x8b Y5a H26.out h1 h2
 change Tryz.prog.built _ _=some (o0a hh++(zac++zsc)).toArray at B1
 obtain⟨MZ,hMZ⟩:∃x,x=o0a hh++(zac++zsc):=⟨_,rfl⟩;rw[<-hMZ] at B1 HLL HO0 CB';obtain⟨hcs,hhc⟩:∃x,x=o0a hh:=⟨_,rfl⟩;rw[<-hhc] at CH H26 HO26 B1 CB' HQ RH RA RS BM HOO;obtain⟨zm,hzm⟩:∃x,x=K1a:=⟨_,rfl⟩;rw[<-hzm] at ZM ZG HZ HZO BZ hE;obtain⟨zh,hzh⟩:∃x,x=o0a N1a:=⟨_,rfl⟩;rw[<-hzh] at ZH HZH;obtain⟨ys,hys⟩:∃x,x=xs.drop 64:=⟨_,rfl⟩;rw[<-hys] at CB' HQ;obtain⟨b,off,rfl,hbl,hcell⟩:=hx.cells (by omega);have HY:Hid (∀w' g,Below w.heap.size w w'->w.heap.size<=g->c≠64->Holds w' g (some ⟨b,off+64,none⟩) (n-64) (c-64) ys):=by intro w' g hb hg hc;have h1:=((hx.below hb).mono hg).rest (k:=64) hrn;rw[if_neg hc,<-hys] at h1;exact h1
 have HY0:Hid (∀w' g,Below w.heap.size w w'->w.heap.size<=g->c=64->Holds w' g (some ⟨b,off,none⟩) 0 0 ys):=by intro w' g hb hg hc;have h1:=((hx.below hb).mono hg).rest (k:=64) hrn;rw[if_pos hc,<-hys,show n-64=0 by omega,show c-64=0 by omega] at h1;exact h1
 clear h0 CB hk hx hMZ hhc hzm hzh hys hbe her hhe hcell HX hl;by_cases her0:er=0;rotate_left
 ·have HE:=hI (hE.out er rfl her0);have hne:(er != 0)=true:=by simpa using her0
  clear hE HQ her0 TG BM HOO RA RS RH;by_cases hc:c=64
  ·subst hc;obtain rfl:n=64:=by omega
   go_enter Tryz.func13,Tryz.ntmps13;go_wp2_with(first
    | ((with_reducible refine sN 2 ?_);refine a0a rfl _ rfl zm _ ZM ?_;intro g0 w1 hg1 hg2 Z1 L1)
    | fail)
   refine(CH.out w1 L1.out).mono ?_;rintro e w2 ⟨rfl,L2⟩;have Z2:=hI (Z1.out.over L2);have M2:=hI (step L1.out L2);have e2:=L2.size;clear L2 L1 Z1 CH;go_wp2_with(first
    | ((with_reducible refine sN 4 ?_);refine a0a rfl _ rfl zh _ ZH ?_;intro g3 w3 hg3 hg4 X3 L3;have M3:=hI (step M2.out L3.out);have Z3:=hI (Z2.out.over L3.out))
    | ((with_reducible refine sT 4 ?_);refine b0a rfl _ (.tmp 4) (.tmp 11) rfl g3 rfl _ zh hcs rfl X3 26 J0a HZH H26 HO26 ?_;intro w4 X4 O4 hg5;have M4:=hI (c0a M3.out O4.out (by omega));have Z4:=hI (Z3.out.only O4.out (by omega)))
    | ((with_reducible refine sN 17 ?_);refine e0a rfl _ (.tmp 4) rfl g3 rfl _ hcs X4 26 _ Tryz.underlying28 rfl J0a H26 ?_)
    | ((with_reducible refine sN 18 ?_);refine k0a rfl _ _ rfl MZ (by refine Eq.trans ?_ B1;kernel_rfl) ?_)
    | ((with_reducible refine sN 6 ?_);refine a0a rfl _ rfl zm _ ZG ?_;intro g w5 hg6 hg7 X5 L5;have M5:=hI (step M4.out L5.out);have Z5:=hI (Z4.out.over L5.out))
    | ((with_reducible refine sT 6 ?_);refine b0a rfl _ (.tmp 6) (.tmp 18) rfl g rfl _ zm MZ rfl X5 115 W2a HZ HLL HO0 ?_;intro w6 B6 O6 hg8;have e6:=O4.out.size;have M6:=hI (c0a M5.out O6.out (by omega));have Z6:=hI (Z5.out.only O6.out (by omega)))
    | fail)
   refine(CB'.out w6 g _ _ _ M6.out B6.out (HY0.out w6 g M6.out (by omega) (by trivial))).mono ?_;rintro e w7 ⟨ac,sc,rfl,hb7,hs7,hg7m⟩;have M7:=hI (M6.out.trans (hs7.below (by omega) M6.out.size));have Z7:=hI (Z6.out.save hs7 (by omega));clear hb7 hs7 hg7m X3 L3 X4 O4 X5 L5 B6 O6 M3 M4 M5 M6 Z2 Z3 Z4 Z5 Z6;go_wp2_with(first
    | ((with_reducible refine sN 24 ?_);refine x0a rfl _ rfl zm BZ ?_)
    | ((with_reducible refine sT 2 ?_);refine b0a rfl _ (.tmp 2) (.tmp 24) rfl g0 rfl _ zm zm rfl Z7 115 r1a HZ HZ HZO ?_;intro w8 X8 O8 hg9)
    | fail)
   refine bodyPost_ret (v:=.tuple #[.agg zm.toArray,.int .i64 er]) ?_ rfl (HE.out _ _ rfl (c0a M7.out O8.out (by omega)));exact m0a rfl _ _ g0 _ _ (0,0) _ rfl X8.out Tryz.underlying41 rfl (by rw[r1a];have:=HZ.out;simp[this]) rfl
  ·have hc1:¬((c:Int)=64):=by omega
   have hc2:(64:Int)<=(n:Int):=by omega
   have hc3:¬(c-64=0):=by omega
   go_enter Tryz.func13,Tryz.ntmps13;go_wp2_with(first
    | ((with_reducible refine sN 2 ?_);refine a0a rfl _ rfl zm _ ZM ?_;intro g0 w1 hg1 hg2 Z1 L1)
    | fail)
   refine(CH.out w1 L1.out).mono ?_;rintro e w2 ⟨rfl,L2⟩;have Z2:=hI (Z1.out.over L2);have M2:=hI (step L1.out L2);have e2:=L2.size;clear L2 L1 Z1 CH;go_wp2_with(first
    | ((with_reducible refine sN 4 ?_);refine a0a rfl _ rfl zh _ ZH ?_;intro g3 w3 hg3 hg4 X3 L3;have M3:=hI (step M2.out L3.out);have Z3:=hI (Z2.out.over L3.out))
    | ((with_reducible refine sT 4 ?_);refine b0a rfl _ (.tmp 4) (.tmp 11) rfl g3 rfl _ zh hcs rfl X3 26 J0a HZH H26 HO26 ?_;intro w4 X4 O4 hg5;have M4:=hI (c0a M3.out O4.out (by omega));have Z4:=hI (Z3.out.only O4.out (by omega)))
    | ((with_reducible refine sN 17 ?_);refine e0a rfl _ (.tmp 4) rfl g3 rfl _ hcs X4 26 _ Tryz.underlying28 rfl J0a H26 ?_)
    | ((with_reducible refine sN 18 ?_);refine k0a rfl _ _ rfl MZ (by refine Eq.trans ?_ B1;kernel_rfl) ?_)
    | ((with_reducible refine sN 6 ?_);refine a0a rfl _ rfl zm _ ZG ?_;intro g w5 hg6 hg7 X5 L5;have M5:=hI (step M4.out L5.out);have Z5:=hI (Z4.out.over L5.out))
    | ((with_reducible refine sT 6 ?_);refine b0a rfl _ (.tmp 6) (.tmp 18) rfl g rfl _ zm MZ rfl X5 115 W2a HZ HLL HO0 ?_;intro w6 B6 O6 hg8;have e6:=O4.out.size;have M6:=hI (c0a M5.out O6.out (by omega));have Z6:=hI (Z5.out.only O6.out (by omega)))
    | fail)
   refine(CB'.out w6 g _ _ _ M6.out B6.out (HY.out w6 g M6.out (by omega) hc)).mono ?_;rintro e w7 ⟨ac,sc,rfl,hb7,hs7,hg7m⟩;have M7:=hI (M6.out.trans (hs7.below (by omega) M6.out.size));have Z7:=hI (Z6.out.save hs7 (by omega));clear hb7 hs7 hg7m X3 L3 X4 O4 X5 L5 B6 O6 M3 M4 M5 M6 Z2 Z3 Z4 Z5 Z6;go_wp2_with(first
    | ((with_reducible refine sN 24 ?_);refine x0a rfl _ rfl zm BZ ?_)
    | ((with_reducible refine sT 2 ?_);refine b0a rfl _ (.tmp 2) (.tmp 24) rfl g0 rfl _ zm zm rfl Z7 115 r1a HZ HZ HZO ?_;intro w8 X8 O8 hg9)
    | fail)
   refine bodyPost_ret (v:=.tuple #[.agg zm.toArray,.int .i64 er]) ?_ rfl (HE.out _ _ rfl (c0a M7.out O8.out (by omega)));exact m0a rfl _ _ g0 _ _ (0,0) _ rfl X8.out Tryz.underlying41 rfl (by rw[r1a];have:=HZ.out;simp[this]) rfl
 subst her0;have HQ2:=hI (HQ.out rfl);clear hE HQ;by_cases hc:c=64
 ·subst hc;obtain rfl:n=64:=by omega
  go_enter Tryz.func13,Tryz.ntmps13;go_wp2_with(first
   | ((with_reducible refine sN 2 ?_);refine a0a rfl _ rfl zm _ ZM ?_;intro g0 w1 hg1 hg2 Z1 L1)
   | fail)
  refine(CH.out w1 L1.out).mono ?_;rintro e w2 ⟨rfl,L2⟩;have Z2:=hI (Z1.out.over L2);have M2:=hI (step L1.out L2);have e2:=L2.size;clear L2 L1 Z1 CH;go_wp2_with(first
   | ((with_reducible refine sN 4 ?_);refine a0a rfl _ rfl zh _ ZH ?_;intro g3 w3 hg3 hg4 X3 L3;have M3:=hI (step M2.out L3.out);have Z3:=hI (Z2.out.over L3.out))
   | ((with_reducible refine sT 4 ?_);refine b0a rfl _ (.tmp 4) (.tmp 11) rfl g3 rfl _ zh hcs rfl X3 26 J0a HZH H26 HO26 ?_;intro w4 X4 O4 hg5;have M4:=hI (c0a M3.out O4.out (by omega));have Z4:=hI (Z3.out.only O4.out (by omega)))
   | ((with_reducible refine sN 17 ?_);refine e0a rfl _ (.tmp 4) rfl g3 rfl _ hcs X4 26 _ Tryz.underlying28 rfl J0a H26 ?_)
   | ((with_reducible refine sN 18 ?_);refine k0a rfl _ _ rfl MZ (by refine Eq.trans ?_ B1;kernel_rfl) ?_)
   | ((with_reducible refine sN 6 ?_);refine a0a rfl _ rfl zm _ ZG ?_;intro g w5 hg6 hg7 X5 L5;have M5:=hI (step M4.out L5.out);have Z5:=hI (Z4.out.over L5.out))
   | ((with_reducible refine sT 6 ?_);refine b0a rfl _ (.tmp 6) (.tmp 18) rfl g rfl _ zm MZ rfl X5 115 W2a HZ HLL HO0 ?_;intro w6 B6 O6 hg8;have e6:=O4.out.size;have M6:=hI (c0a M5.out O6.out (by omega));have Z6:=hI (Z5.out.only O6.out (by omega)))
   | fail)
  refine(CB'.out w6 g _ _ _ M6.out B6.out (HY0.out w6 g M6.out (by omega) (by trivial))).mono ?_;rintro e w7 ⟨ac,sc,rfl,hb7,hs7,hg7m⟩;have M7:=hI (M6.out.trans (hs7.below (by omega) M6.out.size));have Z7:=hI (Z6.out.save hs7 (by omega));obtain⟨ga,gs⟩:=TG.out w6 w7 _ ac sc _ (Nat.le_refl _) (hg7m (by trivial));have e60:g0<w6.heap.size:=Z6.out.lt;have B7:=hI hb7;have HA7:=hI ga.len;have HS7:=hI gs.len;have BB:=BM.out ac sc HA7.out HS7.out;have HL7:Hid ((hcs++(ac++sc)).length=115):=by
   show _=_
   simp only[List.length_append,H26.out,HA7.out,HS7.out]
  have HO7:=hI (HOO.out ac sc ga.one gs.one);have ga7:=hI ga;have gs7:=hI gs;have RA7:=hI (RA.out _ _ _ _ _ hb7);have RH7:=hI (RH.out _ _ _ _ _ hb7);have RS7:=hI (RS.out _ _ _ _ _ HA7.out hb7);obtain⟨MF,hMF⟩:∃x,x=hcs++(ac++sc):=⟨_,rfl⟩;rw[<-hMF] at BB HL7 HO7;have HMF:=hI hMF;clear hMF hb7 hs7 hg7m ga gs X3 L3 X4 O4 X5 L5 B6 O6 M3 M4 M5 Z2 Z3 Z4 Z5 Z6 B7;go_wp2_with(first
   | ((with_reducible refine sN 27 ?_);refine t0a rfl _ (.tmp 26) rfl g 0 rfl hcs _ RH7 Tryz.underlying28 rfl 26 J0a H26 ?_)
   | ((with_reducible refine sN 29 ?_);refine t0a rfl _ (.tmp 28) rfl g 26 rfl ac _ RA7 Tryz.underlying34 rfl 69 n0a HA7 ?_)
   | ((with_reducible refine sN 31 ?_);refine t0a rfl _ (.tmp 30) rfl g 95 rfl sc _ RS7 Tryz.underlying39 rfl 20 s0a HS7 ?_)
   | ((with_reducible refine sN 32 ?_);refine k0a rfl _ _ rfl MF (by refine Eq.trans ?_ BB;kernel_rfl) ?_)
   | ((with_reducible refine sT 2 ?_);refine b0a rfl _ (.tmp 2) (.tmp 32) rfl g0 rfl _ zm MF rfl Z7 115 r1a HZ HL7 HO7 ?_;intro w8 X8 O8 hg9)
   | fail)
  refine bodyPost_ret (v:=.tuple #[.agg MF.toArray,.int .i64 0]) ?_ rfl (HQ2.out _ _ _ _ (by rw[HMF.out]) ((ga7.out.only O8.out e60).mono M6.out.size) ((gs7.out.only O8.out e60).mono M6.out.size) (c0a M7.out O8.out (by omega)));exact m0a rfl _ _ g0 _ _ (0,0) _ rfl X8.out Tryz.underlying41 rfl (by rw[r1a];have:=HL7.out;simp[this]) rfl
 ·have hc1:¬((c:Int)=64):=by omega
  have hc2:(64:Int)<=(n:Int):=by omega
  have hc3:¬(c-64=0):=by omega
  go_enter Tryz.func13,Tryz.ntmps13;go_wp2_with(first
   | ((with_reducible refine sN 2 ?_);refine a0a rfl _ rfl zm _ ZM ?_;intro g0 w1 hg1 hg2 Z1 L1)
   | fail)
  refine(CH.out w1 L1.out).mono ?_;rintro e w2 ⟨rfl,L2⟩;have Z2:=hI (Z1.out.over L2);have M2:=hI (step L1.out L2);have e2:=L2.size;clear L2 L1 Z1 CH;go_wp2_with(first
   | ((with_reducible refine sN 4 ?_);refine a0a rfl _ rfl zh _ ZH ?_;intro g3 w3 hg3 hg4 X3 L3;have M3:=hI (step M2.out L3.out);have Z3:=hI (Z2.out.over L3.out))
   | ((with_reducible refine sT 4 ?_);refine b0a rfl _ (.tmp 4) (.tmp 11) rfl g3 rfl _ zh hcs rfl X3 26 J0a HZH H26 HO26 ?_;intro w4 X4 O4 hg5;have M4:=hI (c0a M3.out O4.out (by omega));have Z4:=hI (Z3.out.only O4.out (by omega)))
   | ((with_reducible refine sN 17 ?_);refine e0a rfl _ (.tmp 4) rfl g3 rfl _ hcs X4 26 _ Tryz.underlying28 rfl J0a H26 ?_)
   | ((with_reducible refine sN 18 ?_);refine k0a rfl _ _ rfl MZ (by refine Eq.trans ?_ B1;kernel_rfl) ?_)
   | ((with_reducible refine sN 6 ?_);refine a0a rfl _ rfl zm _ ZG ?_;intro g w5 hg6 hg7 X5 L5;have M5:=hI (step M4.out L5.out);have Z5:=hI (Z4.out.over L5.out))
   | ((with_reducible refine sT 6 ?_);refine b0a rfl _ (.tmp 6) (.tmp 18) rfl g rfl _ zm MZ rfl X5 115 W2a HZ HLL HO0 ?_;intro w6 B6 O6 hg8;have e6:=O4.out.size;have M6:=hI (c0a M5.out O6.out (by omega));have Z6:=hI (Z5.out.only O6.out (by omega)))
   | fail)
  refine(CB'.out w6 g _ _ _ M6.out B6.out (HY.out w6 g M6.out (by omega) hc)).mono ?_;rintro e w7 ⟨ac,sc,rfl,hb7,hs7,hg7m⟩;have M7:=hI (M6.out.trans (hs7.below (by omega) M6.out.size));have Z7:=hI (Z6.out.save hs7 (by omega));obtain⟨ga,gs⟩:=TG.out w6 w7 _ ac sc _ (Nat.le_refl _) (hg7m (by trivial));have e60:g0<w6.heap.size:=Z6.out.lt;have B7:=hI hb7;have HA7:=hI ga.len;have HS7:=hI gs.len;have BB:=BM.out ac sc HA7.out HS7.out;have HL7:Hid ((hcs++(ac++sc)).length=115):=by
   show _=_
   simp only[List.length_append,H26.out,HA7.out,HS7.out]
  have HO7:=hI (HOO.out ac sc ga.one gs.one);have ga7:=hI ga;have gs7:=hI gs;have RA7:=hI (RA.out _ _ _ _ _ hb7);have RH7:=hI (RH.out _ _ _ _ _ hb7);have RS7:=hI (RS.out _ _ _ _ _ HA7.out hb7);obtain⟨MF,hMF⟩:∃x,x=hcs++(ac++sc):=⟨_,rfl⟩;rw[<-hMF] at BB HL7 HO7;have HMF:=hI hMF;clear hMF hb7 hs7 hg7m ga gs X3 L3 X4 O4 X5 L5 B6 O6 M3 M4 M5 Z2 Z3 Z4 Z5 Z6 B7;go_wp2_with(first
   | ((with_reducible refine sN 27 ?_);refine t0a rfl _ (.tmp 26) rfl g 0 rfl hcs _ RH7 Tryz.underlying28 rfl 26 J0a H26 ?_)
   | ((with_reducible refine sN 29 ?_);refine t0a rfl _ (.tmp 28) rfl g 26 rfl ac _ RA7 Tryz.underlying34 rfl 69 n0a HA7 ?_)
   | ((with_reducible refine sN 31 ?_);refine t0a rfl _ (.tmp 30) rfl g 95 rfl sc _ RS7 Tryz.underlying39 rfl 20 s0a HS7 ?_)
   | ((with_reducible refine sN 32 ?_);refine k0a rfl _ _ rfl MF (by refine Eq.trans ?_ BB;kernel_rfl) ?_)
   | ((with_reducible refine sT 2 ?_);refine b0a rfl _ (.tmp 2) (.tmp 32) rfl g0 rfl _ zm MF rfl Z7 115 r1a HZ HL7 HO7 ?_;intro w8 X8 O8 hg9)
   | fail)
  refine bodyPost_ret (v:=.tuple #[.agg MF.toArray,.int .i64 0]) ?_ rfl (HQ2.out _ _ _ _ (by rw[HMF.out]) ((ga7.out.only O8.out e60).mono M6.out.size) ((gs7.out.only O8.out e60).mono M6.out.size) (c0a M7.out O8.out (by omega)));exact m0a rfl _ _ g0 _ _ (0,0) _ rfl X8.out Tryz.underlying41 rfl (by rw[r1a];have:=HL7.out;simp[this]) rfl
end Go.Proofs.YtgfflnjggnadpaaGreatDoor
