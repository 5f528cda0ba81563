import Derived.OpenShut
import Derived.Test.YtjpcifmeimcikaaGreatDoorRows
import Derived.Laws.CopyOwn
import Derived.Laws.AppendOwnNone
import Derived.Lib.Hide
import Derived.Deep.WholeRow
import Derived.WalkSpells
import Derived.WalkLawsBesides
import Derived.BigQuiet
import Derived.OrdersHeld
import Derived.Test.YtjpcifmeimcikaaGreatDoorS0
set_option linter.all false
set_option maxHeartbeats 8000000
set_option maxRecDepth 100000
namespace Go.Proofs.YtjpcifmeimcikaaGreatDoor
open Go.Proofs.Tryz
open Go.RowKit
def Bytes(xs:List Int):Prop:=∀x∈xs,0<=x/\x<=255
theorem Bytes.nil:Bytes []:=λ_ h=>by cases h
theorem Bytes.take{xs:List Int}(h:Bytes xs)(k:Nat):Bytes (xs.take k):=λx hx=>h x (List.mem_of_mem_take hx)
theorem Bytes.drop{xs:List Int}(h:Bytes xs)(k:Nat):Bytes (xs.drop k):=λx hx=>h x (List.mem_of_mem_drop hx)
theorem Bytes.append{xs ys:List Int}(h:Bytes xs)(k:Bytes ys):Bytes (xs++ys):=λx hx=>by
 rcases List.mem_append.1 hx with h1 | h1
 ·exact h x h1
 ·exact k x h1
theorem Bytes.getD{xs:List Int}(h:Bytes xs)(i:Nat):0<=xs.getD i 0/\xs.getD i 0<=255:=by
 by_cases hi:i<xs.length
 ·rw[List.getD_eq_getElem?_getD,List.getElem?_eq_getElem hi];exact h _ (List.getElem_mem hi)
 ·rw[List.getD_eq_getElem?_getD,List.getElem?_eq_none (by omega)];simp
theorem Bytes.of_all{xs:List Int}(h:xs.all (λx=>decide (0<=x)&&decide (x<=255))=true):Bytes xs:=λx hx=>by have:=List.all_eq_true.1 h x hx;simpa using this
theorem Bytes.zeros(n:Nat):Bytes (List.replicate n 0):=λx hx=>by rw[List.eq_of_mem_replicate hx];omega
structure Holds (w:World) (B:Nat) (A:Option Addr) (n c:Nat) (xs:List Int):Prop where
 len:xs.length=n
 fit:n<=c
 room:n<=281474976710656
 byte:Bytes xs
 bare:A=none->c=0
 cells:0<n->∃b off,A=some ⟨b,off,none⟩/\b<B/\∀i,i<n->w.cell? ⟨b,off+i,none⟩=some (.int .u8 (xs.getD i 0))
section
variable {w w':World} {B B':Nat} {A:Option Addr} {n c:Nat} {xs:List Int}
theorem Holds.nil(w:World)(B:Nat):Holds w B none 0 0 []:=⟨rfl,Nat.le_refl _,by omega,Bytes.nil,λ_=>rfl,λh=>absurd h (by omega)⟩
theorem Holds.keep(h:Holds w B A n c xs)(hk:∀p:Addr,p.block<B->w'.cell? p=w.cell? p):Holds w' B A n c xs:=
 ⟨h.len,h.fit,h.room,h.byte,h.bare,λhn=>by obtain⟨b,off,e,hb,hc⟩:=h.cells hn;exact⟨b,off,e,hb,λi hi=>(hk _ hb).trans (hc i hi)⟩⟩
theorem Holds.mono(h:Holds w B A n c xs)(hB:B<=B'):Holds w B' A n c xs:=
 ⟨h.len,h.fit,h.room,h.byte,h.bare,λhn=>by obtain⟨b,off,e,hb,hc⟩:=h.cells hn;exact⟨b,off,e,by omega,hc⟩⟩
theorem Holds.below(h:Holds w B A n c xs)(hb:Below B w w'):Holds w' B A n c xs:=h.keep λ_ hp=>hb.cell hp
theorem Holds.over(h:Holds w w.heap.size A n c xs)(hb:BW w w'):Holds w' w'.heap.size A n c xs:=(h.below hb).mono hb.size
theorem Holds.drewN(h:Holds w B A n c xs)(k:Nat):Holds (w.drewN k) B A n c xs:=h.keep λ_ _=>rfl
theorem Holds.drew(h:Holds w B A n c xs):Holds w.drew B A n c xs:=h.keep λ_ _=>rfl
theorem Holds.empty(w:World)(B:Nat)(A:Option Addr)(c:Nat)(hc:A=none->c=0):Holds w B A 0 c []:=⟨rfl,Nat.zero_le _,by omega,Bytes.nil,hc,λh=>absurd h (by omega)⟩
theorem Holds.cut(h:Holds w B A n c xs){k m:Nat}(hk:k+m<=n)(hm:0<m):Holds w B (A.map (·.add k)) m m ((xs.drop k).take m):=by
 have hl:=h.len;refine⟨by simp;omega,Nat.le_refl _,by have:=h.room;omega,(h.byte.drop k).take m,λhA=>?_,λhm=>?_⟩
 ·obtain⟨b,off,rfl,_⟩:=h.cells (by omega);cases hA
 obtain⟨b,off,rfl,hb,hc⟩:=h.cells (by omega);refine⟨b,off+k,?_,hb,λi hi=>?_⟩
 ·by_cases hk0:k=0
  ·subst hk0;simp[Addr.add]
  ·simp[Addr.add,hk0]
 ·rw[Nat.add_assoc,hc (k+i) (by omega)];simp[List.getD_eq_getElem?_getD,List.getElem?_drop,hi]
theorem Holds.part(h:Holds w B A n c xs){k m c':Nat}(hk:k+m<=n)(hm:0<m)(hc':m<=c'):Holds w B (A.map (·.add k)) m c' ((xs.drop k).take m):=by have h1:=h.cut hk hm;exact⟨h1.len,hc',h1.room,h1.byte,λhA=>by have:=h1.bare hA;omega,h1.cells⟩
end
theorem step{a b c:World}(h1:BW a b)(h2:BW b c):BW a c:=h1.trans (h2.mono h1.size)
theorem x3a(w:World)(k:Nat):BW w (w.drewN k):=⟨rfl,rfl,rfl,Nat.le_refl _,λ_ _=>rfl⟩
theorem N0a{a b:Bool}(h:a=b):Ending.returned (.bool a)=.returned (.bool b):=by rw[h]
def le(n:Int):Nat->List Int
 | 0=>[]
 | s+1=>n%256::le (n/256) s
def num:List Int->Int
 | []=>0
 | x::r=>x+256*num r
theorem g0a(n:Int)(s:Nat):(le n s).length=s:=by
 induction s generalizing n with
 | zero=>rfl
 | succ s ih=>simp[le,ih]
theorem F0a(n:Int)(s:Nat):Bytes (le n s):=by
 induction s generalizing n with
 | zero=>exact Bytes.nil
 | succ s ih=>
  intro x hx;rcases List.mem_cons.1 hx with rfl | hx
  ·omega
  ·exact ih _ x hx
theorem d0c(n:Int)(s:Nat)(h0:0<=n)(h:n<256^s):num (le n s)=n:=by
 induction s generalizing n with
 | zero=>simp at h;simp[le,num];omega
 | succ s ih=>have:=ih (n/256) (by omega) (by rw[Int.pow_succ] at h;omega);simp only[le,num,this];omega
theorem t3b(xs:List Int)(h:Bytes xs):0<=num xs/\num xs<256^xs.length:=by
 induction xs with
 | nil=>simp[num]
 | cons x r ih=>
  have h1:=h x List.mem_cons_self;have h2:=ih λy hy=>h y (List.mem_cons_of_mem _ hy)
  simp only[num,List.length_cons,Int.pow_succ];omega
theorem z5c(xs:List Int)(h:Bytes xs):le (num xs) xs.length=xs:=by
 induction xs with
 | nil=>rfl
 | cons x r ih=>
  have h1:=h x List.mem_cons_self;have h2:=ih λy hy=>h y (List.mem_cons_of_mem _ hy)
  simp only[num,List.length_cons,le];rw[show(x+256*num r)%256=x from by omega,show(x+256*num r)/256=num r from by omega,h2]
theorem N2c(xs:List Int)(x:Int):num (xs++[x])=num xs+256^xs.length*x:=by
 induction xs with
 | nil=>simp[num]
 | cons y r ih=>simp only[List.cons_append,num,ih,List.length_cons,Int.pow_succ,Int.mul_add];rw[Int.mul_comm (256^r.length) 256,Int.mul_assoc,Int.add_assoc]
def u3a(s:Int):Bool:=s==1||s==2||s==4||s==8
def R0a(n:Nat)(at_ m:Int):Int:=if at_<0∨(n:Int)<at_∨m<0 then 2 else if (n:Int)-at_<m then 4 else 0
def partOf(xs:List Int)(at_ m:Int):List Int:=if R0a xs.length at_ m=0 then (xs.drop at_.toNat).take m.toNat else []
def t2a(n:Nat)(at_ s:Int):Int:=if u3a s=true then R0a n at_ s else 2
def A4a(xs:List Int)(at_ s:Int):Int:=if t2a xs.length at_ s=0 then num ((xs.drop at_.toNat).take s.toNat) else 0
def N4a(n s:Int):Bool:=u3a s&&decide (n<256^s.toNat)
def e7a(n s:Int):Int:=if N4a n s=true then 0 else 2
def N5a(n s:Int):List Int:=if N4a n s=true then le n s.toNat else []
def e0c(n:Nat):Nat:=(n+7)/8*8
def zeroOf(xs:List Int)(at_ m:Int):Bool:=decide (R0a xs.length at_ m=0)&&(partOf xs at_ m).all (· == 0)
theorem S1a{s:Int}(h:u3a s=true):s=1∨s=2∨s=4∨s=8:=by simp only[u3a,Bool.or_eq_true,beq_iff_eq] at h;omega
set_option maxRecDepth 100000
structure Hd where
 ch:Int
 st:Int
 cm:Int
 cr:Int
 fl:Int
 nx:Int
 id:Int
 asy:Int
 tr:Int
 se:Int
 sg:List Int
def Hd.tup(h:Hd):List Int:=h.ch::h.st::h.cm::h.cr::h.fl::h.nx::h.id::h.asy::h.tr::h.se::h.sg
theorem Hd.tup_inj{a b:Hd}:a.tup=b.tup↔a=b:=by cases a;cases b;simp[Hd.tup]
instance:DecidableEq Hd:=λ_ _=>decidable_of_iff _ Hd.tup_inj
structure Hd.ok (h:Hd):Prop where
 ch:0<=h.ch/\h.ch<=65535
 st:0<=h.st/\h.st<=4294967295
 cm:0<=h.cm/\h.cm<=65535
 cr:0<=h.cr/\h.cr<=65535
 fl:0<=h.fl/\h.fl<=4294967295
 nx:0<=h.nx/\h.nx<=4294967295
 id:0<=h.id/\h.id<=18446744073709551615
 asy:0<=h.asy/\h.asy<=18446744073709551615
 tr:0<=h.tr/\h.tr<=4294967295
 se:0<=h.se/\h.se<=18446744073709551615
 len:h.sg.length=16
 byte:Bytes h.sg
def Q1a:Hd:=⟨0,0,0,0,0,0,0,0,0,0,List.replicate 16 0⟩
theorem Y2a:Q1a.ok:=⟨by decide,by decide,by decide,by decide,by decide,by decide,by decide,by decide,by decide,by decide,by decide,Bytes.zeros 16⟩
def l4b:List Int:=[0,1,2,3,4,5,6,7,8,9,10,12,13,14,16,17,18]
def known(c:Int):Bool:=l4b.contains c
def r5a(f:Int):Bool:=decide (f/2%2=1)
def L8a(h:Hd):Bool:=known h.cm&&(decide (h.fl<16)&&(if r5a h.fl=true then decide (h.tr=0) else decide (h.asy=0)))
def q7a(h:Hd):Hd:=if r5a h.fl=true then { h with tr:=0 } else { h with asy:=0 }
def aot(h:Hd):Int:=if r5a h.fl=true then h.asy else h.tr*4294967296
theorem O2c(h:Hd):decide (h=q7a h)=(if r5a h.fl=true then decide (h.tr=0) else decide (h.asy=0)):=by
 obtain⟨ch,st,cm,cr,fl,nx,id,asy,tr,se,sg⟩:=h;unfold q7a;by_cases hi:r5a fl=true
 ·rw[if_pos hi,if_pos hi];simp
 ·rw[if_neg hi,if_neg hi];simp
theorem m4b{h:Hd}(k:h.ok):(q7a h).ok:=by
 unfold q7a;split
 ·exact⟨k.ch,k.st,k.cm,k.cr,k.fl,k.nx,k.id,k.asy,⟨Int.le_refl 0,(by omega:(0:Int)<=4294967295)⟩,k.se,k.len,k.byte⟩
 ·exact⟨k.ch,k.st,k.cm,k.cr,k.fl,k.nx,k.id,⟨Int.le_refl 0,(by omega:(0:Int)<=18446744073709551615)⟩,k.tr,k.se,k.len,k.byte⟩
theorem i8a{h:Hd}(k:h.ok):0<=aot h/\aot h<=18446744073709551615:=by have h1:=k.asy;have h2:=k.tr;unfold aot;split<;>omega
def szs:List Nat:=[4,2,2,4,2,2,4,4,8,8,8]
def w7a:List Nat:=[0,4,6,8,12,14,16,20,24,32,40,48]
def b0b(h:Hd):List Int:=[1112364030,64,h.ch,h.st,h.cm,h.cr,h.fl,h.nx,h.id,aot h,h.se]
def pre(h:Hd):Nat->List Int
 | 0=>[]
 | k+1=>pre h k++le ((b0b h).getD k 0) (szs.getD k 0)
def X4a(h:Hd):List Int:=pre h 11++h.sg
def M8a(h:Hd):Int:=if L8a h=true then 0 else 2
def e9a(h:Hd):List Int:=if L8a h=true then X4a h else []
def u3b(h:Hd)(k:Nat):List Int:=pre h k++List.replicate (64-w7a.getD k 0) 0
theorem A8a{p:Nat->Prop}(h0:p 0)(h1:p 1)(h2:p 2)(h3:p 3)(h4:p 4)(h5:p 5)(h6:p 6)(h7:p 7)(h8:p 8)(h9:p 9)(h10:p 10)(k:Nat)(hk:k<11):p k:=by
 match k,hk with
 | 0,_=>exact h0
 | 1,_=>exact h1
 | 2,_=>exact h2
 | 3,_=>exact h3
 | 4,_=>exact h4
 | 5,_=>exact h5
 | 6,_=>exact h6
 | 7,_=>exact h7
 | 8,_=>exact h8
 | 9,_=>exact h9
 | 10,_=>exact h10
theorem m4a:∀k,k<11->w7a.getD (k+1) 0=w7a.getD k 0+szs.getD k 0/\w7a.getD k 0+szs.getD k 0<=48/\2<=szs.getD k 0/\szs.getD k 0<=8:=by decide
theorem f0c(k:Nat)(hk:k<11):u3a (szs.getD k 0:Nat)=true:=by revert hk;exact A8a (p:=λk=>u3a (szs.getD k 0:Nat)=true) (by decide) (by decide) (by decide) (by decide) (by decide) (by decide) (by decide) (by decide) (by decide) (by decide) (by decide) k
theorem f6a(h:Hd)(k:Nat)(hk:k<=11):(pre h k).length=w7a.getD k 0:=by
 induction k with
 | zero=>rfl
 | succ k ih=>have h1:=m4a k (by omega);rw[pre,List.length_append,ih (by omega),g0a];omega
theorem g0c(h:Hd)(k:Nat):Bytes (pre h k):=by
 induction k with
 | zero=>exact Bytes.nil
 | succ k ih=>exact ih.append (F0a _ _)
theorem n4a{h:Hd}(hs:h.sg.length=16):(X4a h).length=64:=by unfold X4a;rw[List.length_append,f6a h 11 (by omega),hs];rfl
theorem k6a{h:Hd}(hb:Bytes h.sg):Bytes (X4a h):=(g0c h 11).append hb
theorem h0c(h:Hd):u3b h 0=List.replicate 64 0:=rfl
theorem n4b(h:Hd)(k:Nat)(hk:k<=11):(u3b h k).length=64:=by
 unfold u3b;rw[List.length_append,f6a h k hk,List.length_replicate];have:∀k,k<=11->w7a.getD k 0<=64:=by decide
 have:=this k hk;omega
theorem i0c(h:Hd)(k:Nat)(hk:k<11):(u3b h k).take (w7a.getD k 0)++le ((b0b h).getD k 0) (szs.getD k 0)++(u3b h k).drop (w7a.getD k 0+szs.getD k 0)=u3b h (k+1):=by
 have h1:=m4a k hk;unfold u3b;rw[List.take_left' (f6a h k (by omega)),List.drop_append,List.drop_of_length_le (by rw[f6a h k (by omega)];omega),f6a h k (by omega),List.nil_append,List.drop_replicate,pre,h1.1]
 congr 2
 omega
theorem j0c(h:Hd):(u3b h 11).take 48++h.sg++(u3b h 11).drop 64=X4a h:=by have e:(u3b h 11).length=64:=n4b h 11 (by omega);rw[List.drop_of_length_le (by omega)];unfold u3b X4a;rw[List.take_left' (by rw[f6a h 11 (by omega)];rfl),List.append_nil]
def Y0a(xs:List Int)(a s:Nat):Int:=num ((xs.drop a).take s)
def j5b(k:Nat)(n:Int)(h:Hd):Hd:=
 if k=2 then { h with ch:=n } else if k=3 then { h with st:=n } else if k=4 then { h with cm:=n } else if k=5 then { h with cr:=n } else if k=6 then { h with fl:=n } else if k=7 then { h with nx:=n }
 else if k=8 then { h with id:=n } else if k=9 then (if r5a h.fl=true then { h with asy:=n } else { h with tr:=n/4294967296 }) else if k=10 then { h with se:=n } else h
def tk(xs:List Int):Nat->Hd
 | 0=>Q1a
 | k+1=>j5b k (Y0a xs (w7a.getD k 0) (szs.getD k 0)) (tk xs k)
def F1a(xs:List Int):Hd:={ tk xs 11 with sg:=(xs.drop 48).take 16 }
theorem l6a(xs:List Int):F1a xs=⟨Y0a xs 6 2,Y0a xs 8 4,Y0a xs 12 2,Y0a xs 14 2,Y0a xs 16 4,Y0a xs 20 4,Y0a xs 24 8,if r5a (Y0a xs 16 4)=true then Y0a xs 32 8 else 0,
  if r5a (Y0a xs 16 4)=true then 0 else Y0a xs 32 8/4294967296,Y0a xs 40 8,(xs.drop 48).take 16⟩:=by
 have e9:tk xs 9=⟨Y0a xs 6 2,Y0a xs 8 4,Y0a xs 12 2,Y0a xs 14 2,Y0a xs 16 4,Y0a xs 20 4,Y0a xs 24 8,0,0,0,List.replicate 16 0⟩:=rfl;unfold F1a;rw[show tk xs 11=j5b 10 (Y0a xs 40 8) (j5b 9 (Y0a xs 32 8) (tk xs 9)) from rfl,e9];unfold j5b;by_cases hi:r5a (Y0a xs 16 4)=true
 ·simp[hi]
 ·simp[hi]
theorem T1a(xs:List Int)(hx:Bytes xs)(a s:Nat)(M:Int)(hM:(256:Int)^s=M):0<=Y0a xs a s/\Y0a xs a s<=M-1:=by
 have h1:=t3b ((xs.drop a).take s) ((hx.drop a).take s);have hl:((xs.drop a).take s).length<=s:=by simp;omega
 have h2:(256:Int)^((xs.drop a).take s).length<=256^s:=by have h3:(256:Nat)^((xs.drop a).take s).length<=256^s:=Nat.pow_le_pow_right (by omega) hl;have h4:(((256:Nat)^((xs.drop a).take s).length:Nat):Int)<=((256^s:Nat):Int):=Int.ofNat_le.2 h3;simpa[Int.natCast_pow] using h4
 unfold Y0a;omega
theorem k0c(xs:List Int)(hx:Bytes xs)(k:Nat):0<=Y0a xs (w7a.getD k 0) (szs.getD k 0)/\Y0a xs (w7a.getD k 0) (szs.getD k 0)<256^szs.getD k 0:=by have:=T1a xs hx (w7a.getD k 0) (szs.getD k 0) _ rfl;omega
theorem x7a(xs:List Int)(hx:Bytes xs)(hl:xs.length=64):(F1a xs).ok:=by
 have n2:=λa=>T1a xs hx a 2 65536 (by decide)
 have n4:=λa=>T1a xs hx a 4 4294967296 (by decide)
 have n8:=λa=>T1a xs hx a 8 18446744073709551616 (by decide)
 rw[l6a];refine⟨?_,?_,?_,?_,?_,?_,?_,?_,?_,?_,by simp;omega,(hx.drop 48).take 16⟩
 ·have:=n2 6;dsimp only;omega
 ·have:=n4 8;dsimp only;omega
 ·have:=n2 12;dsimp only;omega
 ·have:=n2 14;dsimp only;omega
 ·have:=n4 16;dsimp only;omega
 ·have:=n4 20;dsimp only;omega
 ·have:=n8 24;dsimp only;omega
 ·have:=n8 32;dsimp only;split<;>omega
 ·have:=n8 32;dsimp only;split<;>omega
 ·have:=n8 40;dsimp only;omega
theorem o4b(xs:List Int)(hx:Bytes xs)(a s:Nat)(h:a+s<=xs.length):le (Y0a xs a s) s=(xs.drop a).take s:=by
 have h1:=z5c ((xs.drop a).take s) ((hx.drop a).take s)
 rwa [show((xs.drop a).take s).length=s from by simp;omega] at h1
theorem f9a(xs:List Int)(a s:Nat):xs.take a++(xs.drop a).take s=xs.take (a+s):=by rw[List.take_add]
theorem G8b(xs ys:List Int):num (xs++ys)=num xs+256^xs.length*num ys:=by
 induction xs with
 | nil=>simp[num]
 | cons x r ih=>simp only[List.cons_append,num,ih,List.length_cons,Int.pow_succ,Int.mul_add];rw[Int.mul_comm (256^r.length) 256,Int.mul_assoc,Int.add_assoc]
theorem J6b(xs:List Int)(a:Nat)(h:a+8<=xs.length):Y0a xs a 8=Y0a xs a 4+4294967296*Y0a xs (a+4) 4:=by
 unfold Y0a;have e:(xs.drop a).take 8=(xs.drop a).take 4++(xs.drop (a+4)).take 4:=by rw[show(8:Nat)=4+4 from rfl,List.take_add,List.drop_drop]
 rw[e,G8b,show((xs.drop a).take 4).length=4 from by simp;omega];rfl
def X7b(xs:List Int):Bool:=decide (Y0a xs 0 4=1112364030)&&decide (Y0a xs 4 2=64)&&(r5a (Y0a xs 16 4)||decide (Y0a xs 32 4=0))
def H8b(xs:List Int):Bool:=X7b xs&&L8a (F1a xs)
theorem l0c(xs:List Int)(hx:Bytes xs)(hl:xs.length=64)(k:Nat)(hk:k<=11)(hs:∀j,j<k->(b0b (F1a xs)).getD j 0=Y0a xs (w7a.getD j 0) (szs.getD j 0)):pre (F1a xs) k=xs.take (w7a.getD k 0):=by
 induction k with
 | zero=>rfl
 | succ k ih=>have h1:=m4a k (by omega);rw[pre,ih (by omega) (λj hj=>hs j (by omega)),hs k (by omega),o4b xs hx _ _ (by omega),f9a,<-h1.1]
theorem m5b(xs:List Int)(hx:Bytes xs)(hl:xs.length=64):decide (X4a (F1a xs)=xs)=X7b xs:=by
 have n4:=λa=>T1a xs hx a 4 4294967296 (by decide)
 have n8:=λa=>T1a xs hx a 8 18446744073709551616 (by decide)
 have e8:Y0a xs 32 8=Y0a xs 32 4+4294967296*Y0a xs 36 4:=J6b xs 32 (by omega);have hfl:(F1a xs).fl=Y0a xs 16 4:=by rw[l6a]
 have ha:aot (F1a xs)=if r5a (Y0a xs 16 4)=true then Y0a xs 32 8 else 4294967296*Y0a xs 36 4:=by
  have:=n4 32;unfold aot;rw[hfl,l6a];by_cases hi:r5a (Y0a xs 16 4)=true
  ·simp only[hi,if_true]
  ·simp only[hi,Bool.false_eq_true,if_false];omega
 have hsg:(F1a xs).sg=xs.drop 48:=by rw[l6a];exact List.take_of_length_le (by simp;omega)
 have hvals:b0b (F1a xs)=[1112364030,64,Y0a xs 6 2,Y0a xs 8 4,Y0a xs 12 2,Y0a xs 14 2,Y0a xs 16 4,Y0a xs 20 4,Y0a xs 24 8,aot (F1a xs),Y0a xs 40 8]:=by unfold b0b;rw[l6a]
 rw[Bool.eq_iff_iff,decide_eq_true_iff];constructor
 ·intro h;have hv:∀j,j<11->le ((b0b (F1a xs)).getD j 0) (szs.getD j 0)=(xs.drop (w7a.getD j 0)).take (szs.getD j 0):=by
   intro j hj;have h1:=m4a j hj;have hlen:∀k,k<=11->pre (F1a xs) k=xs.take (w7a.getD k 0):=by
    intro k hk;have h2:(pre (F1a xs) k).length=w7a.getD k 0:=f6a _ k hk;have h3:∀m k,k+m=11->∃r,pre (F1a xs) 11=pre (F1a xs) k++r:=by
     intro m
     induction m with
     | zero=>intro k hk;exact⟨[],by rw[List.append_nil,show k=11 from by omega]⟩
     | succ m ih=>intro k hk;obtain⟨r,hr⟩:=ih (k+1) (by omega);exact⟨_,by rw[hr,pre,List.append_assoc]⟩
    obtain⟨r,hr⟩:=h3 (11-k) k (by omega);have h4:pre (F1a xs) k++(r++(F1a xs).sg)=xs:=by rw[<-List.append_assoc,<-hr];exact h
    have h5:=congrArg (List.take (w7a.getD k 0)) h4
    rwa [List.take_left' h2] at h5
   have e1:=hlen (j+1) (by omega);rw[pre,hlen j (by omega),h1.1,<-f9a] at e1;exact List.append_cancel_left e1
  have v0:=hv 0 (by omega);have v1:=hv 1 (by omega);have v9:=hv 9 (by omega);rw[hvals] at v0 v1 v9;change le 1112364030 4=(xs.drop 0).take 4 at v0
  change le 64 2=(xs.drop 4).take 2 at v1
  change le (aot (F1a xs)) 8=(xs.drop 32).take 8 at v9
  have w0:Y0a xs 0 4=1112364030:=by unfold Y0a;rw[<-v0];decide
  have w1:Y0a xs 4 2=64:=by unfold Y0a;rw[<-v1];decide
  have w9:Y0a xs 32 8=aot (F1a xs):=by
   unfold Y0a;rw[<-v9,d0c _ _ (i8a (x7a xs hx hl)).1 (by
    have:=(i8a (x7a xs hx hl)).2;have e:(256:Int)^8=18446744073709551616:=by decide
    omega)]
  unfold X7b;rw[w0,w1];by_cases hi:r5a (Y0a xs 16 4)=true
  ·simp[hi]
  ·rw[ha,if_neg hi] at w9;have:=n4 32;have:Y0a xs 32 4=0:=by rw[e8] at w9;omega
   simp[this]
 ·intro h;unfold X7b at h;simp only[Bool.and_eq_true,Bool.or_eq_true,decide_eq_true_eq] at h;obtain⟨⟨h0,h1⟩,h9⟩:=h;have h9':aot (F1a xs)=Y0a xs 32 8:=by
   rw[ha];by_cases hi:r5a (Y0a xs 16 4)=true
   ·rw[if_pos hi]
   ·rw[if_neg hi,e8];rcases h9 with h9 | h9
    ·exact absurd h9 hi
    ·omega
  have hp:=l0c xs hx hl 11 (by omega) (by
   rw[hvals,h9'];exact λj hj=>A8a (p:=λj=>List.getD [1112364030,64,Y0a xs 6 2,Y0a xs 8 4,Y0a xs 12 2,Y0a xs 14 2,Y0a xs 16 4,Y0a xs 20 4,Y0a xs 24 8,Y0a xs 32 8,Y0a xs 40 8] j 0=Y0a xs (w7a.getD j 0) (szs.getD j 0))
    h0.symm h1.symm rfl rfl rfl rfl rfl rfl rfl rfl rfl j hj)
  unfold X4a;rw[hp,hsg];exact List.take_append_drop 48 xs
theorem o4a(h:Hd)(r:List Int)(j:Nat)(hj:j<11)(h0:0<=(b0b h).getD j 0)(h1:(b0b h).getD j 0<256^szs.getD j 0):Y0a (pre h 11++r) (w7a.getD j 0) (szs.getD j 0)=(b0b h).getD j 0:=by
 have h3:∀m k,k+m=11->∃r,pre h 11=pre h k++r:=by
  intro m
  induction m with
  | zero=>intro k hk;exact⟨[],by rw[List.append_nil,show k=11 from by omega]⟩
  | succ m ih=>intro k hk;obtain⟨r,hr⟩:=ih (k+1) (by omega);exact⟨_,by rw[hr,pre,List.append_assoc]⟩
 obtain⟨q,hq⟩:=h3 (11-(j+1)) (j+1) (by omega);unfold Y0a;rw[hq,pre,List.append_assoc,List.append_assoc,List.drop_left' (f6a h j (by omega)),List.take_left' (g0a _ _),d0c _ _ h0 h1]
theorem K1b{h:Hd}(k:h.ok)(hm:L8a h=true):F1a (X4a h)=h:=by
 have ab:=i8a k;have e2:(256:Int)^2=65536:=by decide
 have e4:(256:Int)^4=4294967296:=by decide
 have e8:(256:Int)^8=18446744073709551616:=by decide
 have a6:Y0a (X4a h) 6 2=h.ch:=o4a h h.sg 2 (by omega) k.ch.1 (by show h.ch<256^2;have:=k.ch;omega);have a8:Y0a (X4a h) 8 4=h.st:=o4a h h.sg 3 (by omega) k.st.1 (by show h.st<256^4;have:=k.st;omega);have a12:Y0a (X4a h) 12 2=h.cm:=o4a h h.sg 4 (by omega) k.cm.1 (by show h.cm<256^2;have:=k.cm;omega);have a14:Y0a (X4a h) 14 2=h.cr:=o4a h h.sg 5 (by omega) k.cr.1 (by show h.cr<256^2;have:=k.cr;omega);have a16:Y0a (X4a h) 16 4=h.fl:=o4a h h.sg 6 (by omega) k.fl.1 (by show h.fl<256^4;have:=k.fl;omega);have a20:Y0a (X4a h) 20 4=h.nx:=o4a h h.sg 7 (by omega) k.nx.1 (by show h.nx<256^4;have:=k.nx;omega);have a24:Y0a (X4a h) 24 8=h.id:=o4a h h.sg 8 (by omega) k.id.1 (by show h.id<256^8;have:=k.id;omega);have a32:Y0a (X4a h) 32 8=aot h:=o4a h h.sg 9 (by omega) ab.1 (by show aot h<256^8;omega);have a40:Y0a (X4a h) 40 8=h.se:=o4a h h.sg 10 (by omega) k.se.1 (by show h.se<256^8;have:=k.se;omega);have asg:((X4a h).drop 48).take 16=h.sg:=by unfold X4a;rw[List.drop_left' (by rw[f6a h 11 (by omega)];rfl),List.take_of_length_le (by rw[k.len];omega)]
 rw[l6a,a6,a8,a12,a14,a16,a20,a24,a32,a40,asg];unfold L8a at hm;simp only[Bool.and_eq_true,decide_eq_true_eq] at hm;obtain⟨_,_,hm⟩:=hm;obtain⟨ch,st,cm,cr,fl,nx,id,asy,tr,se,sg⟩:=h;unfold aot;have ht:=k.tr;dsimp only at hm ht⊢;by_cases hi:r5a fl=true
 ·simp only[hi,if_true,decide_eq_true_eq] at hm⊢;rw[hm]
 ·simp only[hi,Bool.false_eq_true,if_false,decide_eq_true_eq] at hm⊢;rw[hm,show tr*4294967296/4294967296=tr from by omega]
def b2a(xs:List Int)(a:Int):Int:=if R0a xs.length a 64=0 then (if H8b ((xs.drop a.toNat).take 64)=true then 0 else 5) else R0a xs.length a 64
def t1a(xs:List Int)(a:Int):Hd:=if b2a xs a=0 then F1a ((xs.drop a.toNat).take 64) else Q1a
theorem m0c{h:Hd}(k:h.ok)(hm:L8a h=true):H8b (X4a h)=true:=by unfold H8b;rw[K1b k hm,hm,<-m5b _ (k6a k.byte) (n4a k.len),K1b k hm];simp
theorem L1b{n:Nat}{a:Int}(h:R0a n a 64=0):0<=a/\a.toNat+64<=n:=by
 unfold R0a at h;by_cases g1:a<0∨(n:Int)<a∨(64:Int)<0
 ·rw[if_pos g1] at h;omega
 ·by_cases g2:(n:Int)-a<64
  ·rw[if_neg g1,if_pos g2] at h;omega
  ·omega
theorem g9a(xs:List Int)(a:Int)(hx:Bytes xs):(t1a xs a).ok:=by
 unfold t1a;split
 ·rename_i h;have hp:R0a xs.length a 64=0:=by
   unfold b2a at h;by_cases hp:R0a xs.length a 64=0
   ·exact hp
   ·rw[if_neg hp] at h;exact h
  have:=L1b hp;exact x7a _ ((hx.drop _).take _) (by simp;omega)
 ·exact Y2a
theorem get_put{h:Hd}(k:h.ok)(hm:L8a h=true)(x z:List Int):b2a (x++X4a h++z) x.length=0/\t1a (x++X4a h++z) x.length=h:=by
 have hl:=n4a k.len;have hp:R0a (x++X4a h++z).length x.length 64=0:=by unfold R0a;rw[if_neg (by simp;omega),if_neg (by simp;omega)]
 have hd:((x++X4a h++z).drop (Int.toNat x.length)).take 64=X4a h:=by rw[Int.toNat_natCast,List.append_assoc,List.drop_left,List.take_left' hl]
 have he:b2a (x++X4a h++z) x.length=0:=by unfold b2a;rw[if_pos hp,hd,m0c k hm,if_pos rfl]
 refine⟨he,?_⟩;unfold t1a;rw[if_pos he,hd,K1b k hm]
def W32(xs:List Int):Prop:=∀x∈xs,0<=x/\x<=4294967295
theorem W32.nil:W32 []:=λ_ h=>by cases h
theorem W32.append{xs ys:List Int}(h:W32 xs)(k:W32 ys):W32 (xs++ys):=λx hx=>by
 rcases List.mem_append.1 hx with h1 | h1
 ·exact h x h1
 ·exact k x h1
theorem W32.zeros(n:Nat):W32 (List.replicate n 0):=λx hx=>by rw[List.eq_of_mem_replicate hx];omega
theorem W32.getD{xs:List Int}(h:W32 xs)(i:Nat):0<=xs.getD i 0/\xs.getD i 0<=4294967295:=by
 by_cases hi:i<xs.length
 ·rw[List.getD_eq_getElem?_getD,List.getElem?_eq_getElem hi];exact h _ (List.getElem_mem hi)
 ·rw[List.getD_eq_getElem?_getD,List.getElem?_eq_none (by omega)];simp
theorem W32.take{xs:List Int}(h:W32 xs)(k:Nat):W32 (xs.take k):=λx hx=>h x (List.mem_of_mem_take hx)
theorem Z6c{x:Int}(h:(Lit.int .u32 x).wf=true):0<=x/\x<=4294967295:=by simpa[Lit.wf,IntKind.min,IntKind.max,IntKind.signed,IntKind.bits] using h
theorem A5c(op:BinOp)(x y:Int):0<=bits op .u32 x y/\bits op .u32 x y<=4294967295:=Z6c (wf_bits op .u32 x y)
def rot(x:Int)(n:Nat):Int:=bits .or .u32 (x/2^n) (IntKind.u32.wrap (x*2^(32-n)))
def B5c(x:Int)(i j k:Nat):Int:=bits .xor .u32 (bits .xor .u32 (rot x i) (rot x j)) (rot x k)
def M6c(x:Int):Int:=bits .xor .u32 (bits .xor .u32 (rot x 7) (rot x 18)) (x/8)
def N6c(x:Int):Int:=bits .xor .u32 (bits .xor .u32 (rot x 17) (rot x 19)) (x/1024)
def M2c(xs:List Int):Int:=xs.foldl (λz x=>z*256+x) 0
theorem n5b(xs:List Int)(x:Int):M2c (xs++[x])=M2c xs*256+x:=by simp[M2c]
theorem M1b(xs:List Int)(h:Bytes xs):0<=M2c xs/\M2c xs<256^xs.length:=by
 have key:∀n,∀xs:List Int,xs.length=n->Bytes xs->0<=M2c xs/\M2c xs<256^xs.length:=by
  intro n
  induction n with
  | zero=>
   intro xs hl _;obtain rfl:=List.eq_nil_of_length_eq_zero hl;simp[M2c]
  | succ n ih=>
   intro xs hl hb;have hne:xs≠[]:=by rintro rfl;cases hl
   rw[<-List.dropLast_concat_getLast hne] at hb⊢;have h1:=ih xs.dropLast (by simp[hl]) (λy hy=>hb y (List.mem_append_left _ hy));have h2:=hb (xs.getLast hne) (List.mem_append_right _ List.mem_cons_self);rw[n5b,List.length_append,List.length_singleton,Int.pow_succ];omega
 exact key _ xs rfl h
def word(xs:List Int)(j:Nat):Int:=M2c ((xs.drop (4*j)).take 4)
def s5a(xs:List Int):List Int:=(List.range 16).map (word xs)
theorem K6b(xs:List Int)(h:Bytes xs)(j:Nat):0<=word xs j/\word xs j<=4294967295:=by
 have h1:=M1b _ ((h.drop (4*j)).take 4);unfold word;have h3:((xs.drop (4*j)).take 4).length<=4:=by simp;omega
 have h4:(256:Int)^((xs.drop (4*j)).take 4).length<=4294967296:=by
  generalize ((xs.drop (4*j)).take 4).length=n at h3⊢;have:n=0∨n=1∨n=2∨n=3∨n=4:=by omega
  rcases this with rfl | rfl | rfl | rfl | rfl<;>decide
 omega
theorem B4a(xs:List Int):(s5a xs).length=16:=by simp[s5a]
theorem o5b(xs:List Int)(h:Bytes xs):W32 (s5a xs):=λx hx=>by obtain⟨j,_,rfl⟩:=List.mem_map.1 hx;exact K6b xs h j
def y3a(xs:List Int)(k:Nat):List Int:=(List.range 64).map λj=>word (xs.take k) j
theorem N8a(xs:List Int)(k:Nat):(y3a xs k).length=64:=by simp[y3a]
theorem p5b(xs:List Int)(k j:Nat)(hj:j<64):(y3a xs k).getD j 0=word (xs.take k) j:=by simp[y3a,hj]
theorem q5b(xs:List Int):y3a xs 0=List.replicate 64 0:=by
 apply List.ext_getElem
 ·simp[y3a]
 ·intro i h1 h2;rw[List.getElem_replicate];simp[y3a,word,M2c]
theorem n0c(xs:List Int)(k:Nat)(hk:k<xs.length):word (xs.take (k+1)) (k/4)=word (xs.take k) (k/4)*256+xs.getD k 0:=by
 unfold word;have e1:xs.take (k+1)=xs.take k++[xs[k]]:=List.take_succ_eq_append_getElem hk;have hl:(xs.take k).length=k:=by simp;omega
 have e2:((xs.take k++[xs[k]]).drop (4*(k/4))).take 4=((xs.take k).drop (4*(k/4))).take 4++[xs[k]]:=by rw[List.drop_append_of_le_length (by rw[hl];omega)];rw[List.take_of_length_le (l:=(xs.take k).drop (4*(k/4))++[xs[k]]) (by rw[List.length_append,List.length_drop,hl,List.length_singleton];omega),List.take_of_length_le (l:=(xs.take k).drop (4*(k/4))) (by rw[List.length_drop,hl];omega)]
 have e3:xs.getD k 0=xs[k]:=by simp[hk]
 rw[e1,e2,n5b,e3]
theorem I8b(xs:List Int)(k j:Nat)(hk:k<xs.length)(hj:j≠k/4):word (xs.take (k+1)) j=word (xs.take k) j:=by
 unfold word;have e1:xs.take (k+1)=xs.take k++[xs[k]]:=List.take_succ_eq_append_getElem hk;have hl:(xs.take k).length=k:=by simp;omega
 rw[e1];by_cases h:j<k/4
 ·rw[List.drop_append_of_le_length (by rw[hl];omega),List.take_append_of_le_length (by simp;omega)]
 ·rw[List.drop_of_length_le (l:=xs.take k) (by rw[hl];omega),List.drop_of_length_le (by simp;omega)]
theorem L6b(xs:List Int)(k:Nat)(hk:k<xs.length):(y3a xs k).set (k/4) (word (xs.take k) (k/4)*256+xs.getD k 0)=y3a xs (k+1):=by
 apply List.ext_getElem
 ·simp[y3a]
 ·intro i h1 h2;rw[List.getElem_set];have hi:i<64:=by rw[N8a] at h2;exact h2
  by_cases h:k/4=i
  ·rw[if_pos h,<-n0c xs k hk];subst h;simp[y3a]
  ·rw[if_neg h];simp[y3a];exact(I8b xs k i hk (λe=>h e.symm)).symm
theorem r5b(xs:List Int)(h64:xs.length=64):y3a xs 64=s5a xs++List.replicate 48 0:=by
 apply List.ext_getElem
 ·simp[y3a,s5a]
 ·intro i h1 h2;have hi:i<64:=by rw[N8a] at h1;exact h1
  have e:xs.take 64=xs:=List.take_of_length_le (by omega);by_cases h:i<16
  ·rw[List.getElem_append_left (by rw[B4a];exact h)];simp[y3a,s5a,e]
  ·rw[List.getElem_append_right (by rw[B4a];omega),List.getElem_replicate];simp[y3a,e];unfold word;rw[List.drop_of_length_le (by omega)];rfl
def p4b(l:List Int)(t:Nat):Int:=IntKind.u32.wrap (IntKind.u32.wrap (IntKind.u32.wrap (N6c (l.getD (t-2) 0)+l.getD (t-7) 0)+M6c (l.getD (t-15) 0))+l.getD (t-16) 0)
def o0c(l:List Int):Nat->List Int
 | 0=>l
 | n+1=>o0c l n++[p4b (o0c l n) (16+n)]
def g3b(xs:List Int):List Int:=o0c (s5a xs) 48
theorem r1b(l:List Int)(n:Nat):(o0c l n).length=l.length+n:=by
 induction n with
 | zero=>rfl
 | succ n ih=>simp[o0c,ih];omega
theorem q4b(x:Int):0<=IntKind.u32.wrap x/\IntKind.u32.wrap x<=4294967295:=by rw[IntKind.wrap_u32'];omega
theorem W3c(l:List Int)(h:W32 l)(n:Nat):W32 (o0c l n):=by
 induction n with
 | zero=>exact h
 | succ n ih=>
  refine ih.append λx hx=>?_
  rcases List.mem_singleton.1 hx with rfl
  exact q4b _
theorem s5b(xs:List Int):(g3b xs).length=64:=by rw[g3b,r1b,B4a]
theorem m4c(xs:List Int)(h:Bytes xs):W32 (g3b xs):=W3c _ (o5b xs h) 48
def c2a(xs:List Int)(n:Nat):List Int:=o0c (s5a xs) n++List.replicate (48-n) 0
theorem t5b(xs:List Int)(n:Nat)(hn:n<=48):(c2a xs n).length=64:=by simp[c2a,r1b,B4a];omega
theorem f5a(xs:List Int)(n i:Nat)(hi:i<16+n):(c2a xs n).getD i 0=(o0c (s5a xs) n).getD i 0:=by
 have hl:i<(o0c (s5a xs) n).length:=by rw[r1b,B4a];omega
 unfold c2a;rw[List.getD_eq_getElem?_getD,List.getD_eq_getElem?_getD,List.getElem?_append_left hl]
theorem J8b(xs:List Int)(h:Bytes xs)(n:Nat):W32 (c2a xs n):=(W3c _ (o5b xs h) n).append (W32.zeros _)
theorem r4b(l:List Int)(m t:Nat)(x:Int)(ht:l.length=t)(hm:0<m):(l++List.replicate m 0).set t x=(l++[x])++List.replicate (m-1) 0:=by rw[List.set_append_right _ _ (by omega),ht,Nat.sub_self,show m=(m-1)+1 from by omega,List.replicate_succ,List.set_cons_zero,List.append_assoc,Nat.add_sub_cancel];rfl
theorem u5b(xs:List Int)(n:Nat)(hn:n<48)(x:Int)(hx:x=p4b (c2a xs n) (16+n)):(c2a xs n).set (16+n) x=c2a xs (n+1):=by
 have e:p4b (c2a xs n) (16+n)=p4b (o0c (s5a xs) n) (16+n):=by unfold p4b;rw[f5a xs n _ (by omega),f5a xs n _ (by omega),f5a xs n _ (by omega),f5a xs n _ (by omega)]
 rw[hx,e];unfold c2a;rw[r4b _ _ _ _ (by rw[r1b,B4a]) (by omega)];simp only[o0c];rw[show 48-n-1=48-(n+1) from by omega]
theorem P2c(i:Nat)(x y:Int)(hx0:0<=x)(hx:x<=4294967295)(hd:x%2^i=0)(hy0:0<=y)(hy:y<2^i)(hi:y<=4294967295):bits .or .u32 x y=x+y:=by
 obtain⟨a,rfl⟩:=Int.eq_ofNat_of_zero_le hx0;obtain⟨b,rfl⟩:=Int.eq_ofNat_of_zero_le hy0;have e:((2:Int)^i)=((2^i:Nat):Int):=by rw[Int.natCast_pow];rfl
 rw[e] at hd hy;rw[u32_or_nat a b (by omega) (by omega),nat_join i a b (by omega) (by omega)];omega
theorem p0c(z y:Int)(hz0:0<=z)(hz:z<16777216)(hy0:0<=y)(hy:y<=255):bits .or .u32 (z*256) y=z*256+y:=P2c 8 (z*256) y (by omega) (by omega) (by omega) hy0 (by omega) (by omega)
theorem K8b(xs:List Int)(h:Bytes xs)(k:Nat)(hk:k<xs.length):0<=word (xs.take k) (k/4)/\word (xs.take k) (k/4)<16777216:=by
 have h1:=M1b _ (((h.take k).drop (4*(k/4))).take 4);unfold word;have h3:(((xs.take k).drop (4*(k/4))).take 4).length<=3:=by simp;omega
 have h4:(256:Int)^(((xs.take k).drop (4*(k/4))).take 4).length<=16777216:=by
  generalize (((xs.take k).drop (4*(k/4))).take 4).length=n at h3⊢;have:n=0∨n=1∨n=2∨n=3:=by omega
  rcases this with rfl | rfl | rfl | rfl<;>decide
 omega
def Row(w:World)(g:Nat)(xs:List Int):Prop:=w.heap[g]? = some (.cells (xs.map (Value.int .u8)).toArray 5 (0,0))
def p2a(w:World)(base:Nat)(A:Option Addr)(xs:List Int):Prop:=(A=none/\xs=[])∨∃g,A=some ⟨g,0,none⟩/\base<=g/\Row w g xs
section
variable {w w':World} {g B base:Nat} {xs:List Int}
theorem Row.lt(h:Row w g xs):g<w.heap.size:=(Array.getElem?_eq_some_iff.1 h).1
theorem Row.cell(h:Row w g xs){i:Nat}(hi:i<xs.length):w.cell? ⟨g,i,none⟩=some (.int .u8 (xs.getD i 0)):=by rw[cell_of_row w g i _ 5 (0,0) h];simp[hi]
theorem Row.frozen(h:Row w g xs)(i:Nat):w.frozen? ⟨g,i,none⟩=false:=frozen_of_row w g i _ 5 h
theorem Row.below(h:Row w g xs)(hb:Below B w w')(hg:g<B):Row w' g xs:=(hb.block g hg).trans h
theorem Row.set(h:Row w g xs)(i:Nat)(u:Int):Row (w.setCell ⟨g,i,none⟩ (.int .u8 u)) g (xs.set i u):=by have h1:=heap_setCell_same w g i _ 5 (.int .u8 u) h;unfold Row;rw[h1];simp[List.map_set]
theorem Row.drewN(h:Row w g xs)(k:Nat):Row (w.drewN k) g xs:=h
theorem p2a.holds{A:Option Addr}{n:Nat}(h:p2a w base A xs)(hn:xs.length=n)(hx:Bytes xs)(hc:n<=281474976710656):Holds w w.heap.size A n n xs:=by
 refine⟨hn,Nat.le_refl _,hc,hx,λhA=>?_,λh0=>?_⟩
 ·rcases h with⟨_,rfl⟩ | ⟨g,rfl,_,hr⟩
  ·exact hn.symm
  ·cases hA
 rcases h with⟨_,rfl⟩ | ⟨g,rfl,_,hr⟩
 ·simp at hn;omega
 ·exact⟨g,0,rfl,hr.lt,λi hi=>by rw[Nat.zero_add];exact hr.cell (by omega)⟩
theorem p2a.keep{A:Option Addr}{row:Option Nat}(h:p2a w base A xs)(hg:w.grownBy w' row)(hr:∀k,row=some k->k<base):p2a w' base A xs:=by
 rcases h with h | ⟨g,rfl,hb,hrow⟩
 ·exact .inl h
 ·exact .inr ⟨g,rfl,hb,(hg.block g hrow.lt (λe=>by have:=hr g e.symm;omega)).trans hrow⟩
theorem p2a.len0{A:Option Addr}(h:p2a w base A xs)(hA:A=none):xs=[]:=by
 rcases h with⟨_,h⟩ | ⟨g,rfl,_⟩
 ·exact h
 ·cases hA
theorem p2a.below{A:Option Addr}(h:p2a w base A xs)(hb:BW w w'):p2a w' base A xs:=by
 rcases h with h | ⟨g,rfl,hg,hr⟩
 ·exact .inl h
 ·exact .inr ⟨g,rfl,hg,hr.below hb hr.lt⟩
end
theorem i3a:(prog.info? 5).map (λi=>(i.zero,i.size,i.bytes))=some (some (.int .u8 0),1,1):=by kernel_rfl
theorem K1a(w:World){ops:Array Oper}{rest:List Oper}{o:Oper}{a:Act}{Q:Exit->Act->World->Prop}
(hg:o.guard=none)(l c:Operand)(hop:o.op=Op.makeSlice 31 l c)(L C:Int)(n:Nat)(hl:a.eval l=.int .i64 L)(hc:a.eval c=.int .i64 C)(hL:L=(n:Int))(hC:C=(n:Int))(hn:n<=281474976710656)
(hK:∀w',Hid (Row w' w.heap.size (List.replicate n 0))->BW w w'->wpList prog ops Q rest (a.put o.dst (.slice (some ⟨w.heap.size,0,none⟩) n n)) w') :
  wpList prog ops Q (o::rest) a w:=by
 obtain⟨i0,hi,hz0,hz1,hz2⟩:=info_parts i3a;refine wpList_make_full w hg l c 31 hop w.heap.size 5 i0 (.int .u8 0) 1 underlying31 hi hz0 hz1 .i64 .i64 L C n hl hc hL hC (by rw[hz2];omega) (by unfold maxLen;omega) (Nat.le_refl _) ?_;intro w' hown hgr;refine hK w' ?_ ((Below.refl _ _).grown hgr (Nat.le_refl _) (λk hk=>by cases hk));rcases hown.2 with⟨h0,_⟩ | ⟨g,cap,cur,hv,_,hh,_,_,hcs,htk⟩
 ·cases h0
 ·simp only[Value.slice.injEq,Option.some.injEq,Addr.mk.injEq,and_true,true_and] at hv;obtain⟨rfl,rfl⟩:=hv;show w'.heap[_]? = _
  rw[hh];have e:cur.toList=List.replicate n (.int .u8 0):=by have h1:cur.toList.take (n*1)=cur.toList:=List.take_of_length_le (by simp[hcs]);rw[<-h1,htk];rw[Nat.mul_one];exact toList_madeCells_one (.int .u8 0) n
  rw[List.map_replicate,<-e]
theorem d0b{w:World}{ops:Array Oper}{rest:List Oper}{o:Oper}{a:Act}{Q:Exit->Act->World->Prop}(hgd:o.guard=none)(d s:Operand)
(ho:o.op=.call { callee:=.builtin .copy,args:=#[d,s],argTypes:=#[31,31] })
(g dLen dCap n c:Nat)(A:Option Addr)(hd:a.eval d=.slice (some ⟨g,0,none⟩) dLen dCap)(hs:a.eval s=.slice A n c)
(cur xs:List Int)(B:Nat)(hrow:Hid (Row w g cur))(hx:Holds w B A n c xs)(hn:n<=dLen)(hfit:n<=cur.length)
(h:∀w',Hid (Row w' g (xs++cur.drop n))->Below g w w'->wpList prog ops Q rest (a.put o.dst (goInt n)) w') :
  wpList prog ops Q (o::rest) a w:=by
 have hl:=hx.len;obtain⟨i0,hi,hz0,hz1,hz2⟩:=info_parts i3a;refine wpList_copy_splice hgd d s 31 31 ho 5 underlying31 (by rw[hi];simp[hz1]) (some ⟨g,0,none⟩) A dLen dCap n c hd hs g 0 (cur.map (Value.int .u8)) 5 hrow.o (xs.map (Value.int .u8)) (by rw[List.length_map,hl];exact(Nat.min_eq_left hn).symm) ?_ (by simp;omega)
  (by intro v hv;obtain⟨x,_,rfl⟩:=List.mem_map.1 hv;rfl) g w (Below.refl _ _) (Nat.le_refl _) ?_
 ·intro h0;refine⟨rfl,?_⟩;obtain⟨b,off,rfl,_,hc⟩:=hx.cells (by simp at h0;omega);refine⟨⟨b,off,none⟩,rfl,λj v hj=>?_⟩;have hjl:j<xs.length:=by
   by_cases hj':j<xs.length
   ·exact hj'
   ·rw[List.getElem?_eq_none (by simp;omega)] at hj;cases hj
  have e:(⟨b,off,none⟩:Addr).add j=⟨b,off+j,none⟩:=by
   by_cases hj0:j=0
   ·subst hj0;simp[Addr.add]
   ·simp[Addr.add,hj0]
  rw[e,hc j (by omega),<-hj];simp[hjl]
 ·intro w' hr hb;have e:(splice (cur.map (Value.int .u8)) 0 (xs.map (Value.int .u8)))=(xs++cur.drop n).map (Value.int .u8):=by simp[splice,hl]
  have hr':=hr.o;rw[e] at hr';rw[List.length_map,hl] at *;exact h w' hr' hb
def Own(w:World)(base:Nat)(v:Value)(xs:List Int):Prop:=w.ownsRow base 5 1 v xs.length (xs.map (Value.int .u8))
theorem Own.nil(w:World)(base:Nat):Own w base (.slice none 0 0) []:=World.ownsRow_nil w base 5 1
theorem Own.holds{w:World}{base:Nat}{v:Value}{xs:List Int}(h:Own w base v xs)(hx:Bytes xs)(hn:xs.length<=281474976710656) :
  ∃A c,v=.slice A xs.length c/\Holds w w.heap.size A xs.length c xs:=by
 rcases h.2 with⟨rfl,h0⟩ | ⟨g,cap,cur,rfl,hb,hg,hnc,hcm,hcs,htk⟩
 ·have:xs=[]:=List.eq_nil_of_length_eq_zero h0;subst this;exact⟨none,0,rfl,Holds.nil _ _⟩
 ·refine⟨_,_,rfl,rfl,hnc,hn,hx,λhA=>(by cases hA),λh0=>⟨g,0,rfl,(Array.getElem?_eq_some_iff.1 hg).1,λi hi=>?_⟩⟩;rw[Nat.zero_add,cell_of_row w g i cur 5 (0,0) hg];have e:cur[i]? = (cur.toList.take (xs.length*1))[i]?:=by rw[List.getElem?_take,if_pos (by omega),Array.getElem?_toList]
  rw[e,htk];simp[hi]
theorem Own.below{w w':World}{base:Nat}{v:Value}{xs:List Int}(h:Own w base v xs)(hb:BW w w'):Own w' base v xs:=by
 refine⟨h.1,?_⟩;rcases h.2 with h0 | ⟨g,cap,cur,rfl,h1,hg,rest⟩
 ·exact .inl h0
 ·exact .inr ⟨g,cap,cur,rfl,h1,(hb.block g (Array.getElem?_eq_some_iff.1 hg).1).trans hg,rest⟩
theorem Own.mono{w:World}{base base':Nat}{v:Value}{xs:List Int}(h:Own w base v xs)(hb:base'<=base):Own w base' v xs:=by
 refine⟨h.1,?_⟩;rcases h.2 with h0 | ⟨g,cap,cur,rfl,h1,rest⟩
 ·exact .inl h0
 ·exact .inr ⟨g,cap,cur,rfl,by omega,rest⟩
theorem Own.alloc{w:World}{base:Nat}{v:Value}{xs:List Int}(h:Own w base v xs)(o:Obj):Own (w.alloc o) base v xs:=World.ownsRow.alloc h o
theorem Holds.lit(w:World)(xs:List Int)(cs:Array Value)(S n:Nat)(hcs:cs=(xs.map (Value.int .u8)).toArray)(hS:w.heap.size=S)(hl:xs.length=n)(hx:Bytes xs)(hn:n<=281474976710656)(T:TypeId:=5) :
  Holds (w.alloc (.cells cs T)) (S+1) (some ⟨S,0,none⟩) n n xs:=by
 subst hcs;subst hS;subst hl;exact⟨rfl,Nat.le_refl _,hn,hx,λhA=>(by cases hA),λ_=>⟨w.heap.size,0,rfl,by omega,λi hi=>by have hr:(w.alloc (.cells (xs.map (Value.int .u8)).toArray T)).heap[w.heap.size]? = some (.cells (xs.map (Value.int .u8)).toArray T (0,0)):=heap_alloc_new w _;rw[Nat.zero_add,cell_of_row _ w.heap.size i _ T (0,0) hr];simp[hi]⟩⟩
theorem Own.len{w:World}{base:Nat}{v:Value}{xs:List Int}(h:Own w base v xs):∃A c,v=.slice A xs.length c:=by
 rcases h.2 with⟨rfl,h0⟩ | ⟨g,cap,cur,rfl,_⟩
 ·exact⟨none,0,by rw[h0]⟩
 ·exact⟨_,_,rfl⟩
theorem p2a.own{w:World}{base n:Nat}{A:Option Addr}{xs:List Int}(h:p2a w base A xs)(hn:xs.length=n)(hc:n<=281474976710656):Own w base (.slice A n n) xs:=by
 refine⟨by simp,?_⟩;rcases h with⟨rfl,rfl⟩ | ⟨g,rfl,hg,hr⟩
 ·obtain rfl:n=0:=by simpa using hn.symm
  exact .inl ⟨rfl,rfl⟩
 ·subst hn;exact .inr ⟨g,xs.length,_,rfl,hg,hr,Nat.le_refl _,by unfold maxLen;omega,by simp,by rw[List.take_of_length_le (by simp)]⟩
theorem t5a{w:World}{ops:Array Oper}{rest:List Oper}{o:Oper}{a:Act}{Q:Exit->Act->World->Prop}(hgd:o.guard=none)(s x:Operand)
(ho:o.op=.call { callee:=.builtin .append,args:=#[s,x],argTypes:=#[31,31] })
(base:Nat)(v:Value)(xs:List Int)(hs:a.eval s=v)(hown:Own w base v xs)(B:Nat)(A:Option Addr)(m c:Nat)(ys:List Int)(hx:a.eval x=.slice A m c)
(hr:Holds w B A m c ys)(hlen:xs.length+ys.length<=140737488355328)(hbase:base<=w.heap.size)
(h:∀v' w',Hid (Own w' base v' (xs++ys))->Below base w w'->w.grownBy w' v.ownBlock->wpList prog ops Q rest (a.put o.dst v') w') :
  wpList prog ops Q (o::rest) a w:=by
 obtain⟨i0,hi,hz0,hz1,hz2⟩:=info_parts i3a;have hl:=hr.len;rcases A with _ | ad
 ·have hc:=hr.bare rfl;have hf:=hr.fit;have hm:m=0:=by omega
  subst hm;subst hc;have:ys=[]:=List.eq_nil_of_length_eq_zero hl;subst this;refine wpList_append_own_none hgd s x 31 ho base 5 i0 1 underlying31 hi v xs.length _ hs hown hx ?_;exact h v w (by rw[List.append_nil];exact hown) (Below.refl _ _) (World.grownBy.refl w _)
 ·refine wpList_append_own w hgd s x 31 ho base 5 i0 (.int .u8 0) 1 1 underlying31 hi hz0 hz1 hz2 rfl (by omega) v xs.length _ hs hown ad m c (ys.map (Value.int .u8)) hx (by simp[hl]) ?_
   (by intro v hv;obtain⟨x,_,rfl⟩:=List.mem_map.1 hv;rfl) (by unfold maxLen;omega) (by omega) hbase ?_
  ·intro j u hj;have hjl:j<ys.length:=by
    by_cases hj':j<ys.length
    ·exact hj'
    ·rw[List.getElem?_eq_none (by simp;omega)] at hj;cases hj
   obtain⟨b,off,he,_,hcl⟩:=hr.cells (by omega);obtain rfl:=Option.some.inj he;have e:(⟨b,off,none⟩:Addr).add j=⟨b,off+j,none⟩:=by
    by_cases hj0:j=0
    ·subst hj0;simp[Addr.add]
    ·simp[Addr.add,hj0]
   rw[e,hcl j (by omega),<-hj];simp[hjl]
  ·intro v' w' hown' hgr _;refine h v' w' ?_ ((Below.refl _ _).grown hgr hbase (λk hk=>(hown.lt k hk).1)) hgr;show World.ownsRow _ _ _ _ _ _ _
   rw[List.length_append,List.map_append,hl];exact hown'
def Arr(w:World)(g:Nat)(k:IntKind)(T:TypeId)(xs:List Int):Prop:=w.heap[g]? = some (.cells (xs.map (Value.int k)).toArray T (0,0))
structure s2a (g:Nat) (w w':World):Prop where
 os:w'.os=w.os
 tape:w'.tape=w.tape
 output:w'.output=w.output
 size:w'.heap.size=w.heap.size
 rest:∀j,j≠g->w'.heap[j]? = w.heap[j]?
section
variable {w w' w2:World} {g h B:Nat} {k k':IntKind} {T T':TypeId} {xs ys:List Int}
theorem s2a.refl(g:Nat)(w:World):s2a g w w:=⟨rfl,rfl,rfl,rfl,λ_ _=>rfl⟩
theorem s2a.trans(a:s2a g w w')(b:s2a g w' w2):s2a g w w2:=⟨b.os.trans a.os,b.tape.trans a.tape,b.output.trans a.output,b.size.trans a.size,λj hj=>(b.rest j hj).trans (a.rest j hj)⟩
theorem s2a.setCell(a:s2a g w w')(i:Nat)(v:Value):s2a g w (w'.setCell ⟨g,i,none⟩ v):=a.trans ⟨rfl,rfl,rfl,by simp,λj hj=>Below.heap_setCell _ _ _ _ hj⟩
theorem s2a.setRow(a:s2a g w w')(cs:Array Value):s2a g w (w'.setRow g cs):=a.trans ⟨rfl,rfl,rfl,by simp,λj hj=>setRow_other _ _ _ _ hj⟩
theorem s2a.drewN(a:s2a g w w')(n:Nat):s2a g w (w'.drewN n):=a.trans ⟨rfl,rfl,rfl,rfl,λ_ _=>rfl⟩
theorem s2a.below(a:s2a g w w')(hB:B<=g):Below B w w':=⟨a.os,a.tape,a.output,by rw[a.size];exact Nat.le_refl _,λj hj=>a.rest j (by omega)⟩
theorem Arr.lt(h:Arr w g k T xs):g<w.heap.size:=(Array.getElem?_eq_some_iff.1 h).1
theorem Arr.cell(h:Arr w g k T xs){i:Nat}(hi:i<xs.length):w.cell? ⟨g,i,none⟩=some (.int k (xs.getD i 0)):=by rw[cell_of_row w g i _ T (0,0) h];simp[hi]
theorem Arr.frozen(h:Arr w g k T xs)(i:Nat):w.frozen? ⟨g,i,none⟩=false:=frozen_of_row w g i _ T h
theorem Arr.below(h:Arr w g k T xs)(hb:Below B w w')(hg:g<B):Arr w' g k T xs:=(hb.block g hg).trans h
theorem Arr.over(h:Arr w g k T xs)(hb:BW w w'):Arr w' g k T xs:=h.below hb h.lt
theorem Arr.only(a:Arr w g k T xs)(hb:s2a h w w')(hg:g≠h):Arr w' g k T xs:=(hb.rest g hg).trans a
theorem Arr.set(h:Arr w g k T xs)(i:Nat)(u:Int):Arr (w.setCell ⟨g,i,none⟩ (.int k u)) g k T (xs.set i u):=by have h1:=heap_setCell_same w g i _ T (.int k u) h;unfold Arr;rw[h1];simp[List.map_set]
theorem Arr.setOther(a:Arr w g k T xs)(hg:g≠h)(i:Nat)(v:Value):Arr (w.setCell ⟨h,i,none⟩ v) g k T xs:=(Below.heap_setCell _ _ _ _ hg).trans a
theorem Arr.drewN(h:Arr w g k T xs)(n:Nat):Arr (w.drewN n) g k T xs:=h
theorem Arr.drew(h:Arr w g k T xs):Arr w.drew g k T xs:=h
theorem Arr.ne(a:Arr w g k T xs)(b:Arr w h k' T' ys)(hT:T≠T'):g≠h:=by rintro rfl;unfold Arr at a b;rw[a] at b;simp only[Option.some.injEq,Obj.cells.injEq] at b;exact hT b.2.1
theorem Arr.new(w:World)(k:IntKind)(T:TypeId)(xs:List Int):Arr (w.alloc (.cells (xs.map (Value.int k)).toArray T)) w.heap.size k T xs:=heap_alloc_new w _
end
section
variable {P:Program} {ops:Array Oper} {rest:List Oper} {o:Oper} {a:Act} {w:World} {Q:Exit->Act->World->Prop}
theorem V3a(hg:o.guard=none)(T:TypeId)(x:Operand)(ho:o.op=.box T x)(k:IntKind)(xs:List Int)(hx:a.eval x=.agg (xs.map (Value.int k)).toArray)
(h:∀g w',w.heap.size<=g->g<w'.heap.size->Hid (Arr w' g k T xs)->Hid (BW w w')->wpList P ops Q rest (a.put o.dst (.pointer (some ⟨g,0,none⟩))) w'):wpList P ops Q (o::rest) a w:=by
 refine wpList_plain hg λK hK=>?_
 unfold Oper.wp execOp;simp only[ho,hx,Sem.run_bind,Instr.box,newVar,newRow,run_newObj_alloc,Sem.run_pure,Result.andThen_ok];refine hK _ _ (h _ _ (Nat.le_refl _) (by simp) ?_ ((Below.refl _ _).alloc (Nat.le_refl _) _));exact Arr.new w k T xs
theorem L0a(hg:o.guard=none)(T:TypeId)(ho:o.op=.alloc T)(k:IntKind)(zs:List Int)(n:Nat)(hi:Hid ((P.info? T).map (λi=>(i.zero,i.size))=some (some (.agg (zs.map (Value.int k)).toArray),n)))
(h:∀g w',w.heap.size<=g->g<w'.heap.size->Hid (Arr w' g k T zs)->Hid (BW w w')->wpList P ops Q rest (a.put o.dst (.pointer (some ⟨g,0,none⟩))) w'):wpList P ops Q (o::rest) a w:=by
 refine wpList_plain hg λK hK=>?_
 unfold Oper.wp execOp;have hz:=(zero_of_info hi.o).1;simp only[ho,Sem.run_bind,Instr.alloc,hz,newVar,newRow,run_newObj_alloc,Sem.run_pure,Result.andThen_ok];refine hK _ _ (h _ _ (Nat.le_refl _) (by simp) ?_ ((Below.refl _ _).alloc (Nat.le_refl _) _));exact Arr.new w k T _
theorem J2a(hg:o.guard=none)(T:TypeId)(ho:o.op=.build T #[])(k:IntKind)(zs:List Int)(hf:Hid (P.built T []=some (zs.map (Value.int k)).toArray))
(h:wpList P ops Q rest (a.put o.dst (.agg (zs.map (Value.int k)).toArray)) w):wpList P ops Q (o::rest) a w:=by
 have hf':P.built T ((#[]:Array (Nat×Operand)).map fun (i,x)=>(i,a.eval x)).toList=some (zs.map (Value.int k)).toArray:=by rw[<-hf.o];simp
 refine wpList_build hg T #[] ho (by rw[hf'];rfl) ?_;rw[hf'];exact h
theorem u1a(hg:o.guard=none)(T:TypeId)(x:Operand)(ho:o.op=.load T x)(g:Nat)(hx:a.eval x=.pointer (some ⟨g,0,none⟩))(k:IntKind)(T':TypeId)(xs:List Int)(hA:Hid (Arr w g k T' xs))(n:Nat)(e:TypeId)
(hu:P.underlying T=some (.array n e))(hi:(P.info? T).map (·.size)=some n)(hn:Hid (xs.length=n))
(h:wpList P ops Q rest (a.put o.dst (.agg (xs.map (Value.int k)).toArray)) w):wpList P ops Q (o::rest) a w:=wpList_load_row hg T x ho g hx T' _ (0,0) _ hA.o hu rfl (by rw[hi];have:=hn.o;simp[this]) h
theorem M0a(hg:o.guard=none)(T:TypeId)(x y:Operand)(ho:o.op=.store T x y)(g:Nat)(hx:a.eval x=.pointer (some ⟨g,0,none⟩))(k:IntKind)(T':TypeId)(xs ys:List Int)(hy:a.eval y=.agg (ys.map (Value.int k)).toArray)
(hA:Hid (Arr w g k T' xs))(n:Nat)(hi:(P.info? T).map (·.size)=some n)(hn:Hid (xs.length=n))(hm:Hid (ys.length=n))
(h:∀w',Hid (Arr w' g k T' ys)->Hid (s2a g w w')->g<w'.heap.size->wpList P ops Q rest (a.put o.dst undef) w'):wpList P ops Q (o::rest) a w:=by
 refine wpList_store_row hg T x y ho g _ hx hy T' _ hA.o (by rw[hi];have:=hm.o;simp[this]) (by have:=hm.o;have:=hn.o;simp_all) ?_ (h _ ?_ ((s2a.refl g w).setRow _) (by rw[size_setRow];exact hA.o.lt))
 ·apply Array.all_eq_true_iff_forall_mem.2;intro v hv;have hv':v∈ys.map (Value.int k):=by simpa using hv
  obtain⟨z,_,rfl⟩:=List.mem_map.1 hv';rfl
 ·exact setRow_heap w g _ _ T' (0,0) hA.o
theorem Y4a(hg:o.guard=none)(T:TypeId)(x y:Operand)(ho:o.op=.index T x y)(k:IntKind)(xs:List Int)(hx:a.eval x=.agg (xs.map (Value.int k)).toArray)(n:Nat)(e:TypeId)(hu:P.underlying T=some (.array n e))
(he:P.underlying e=some (.int k))(hs:(P.info? e).map (·.size)=some 1)(i:Nat)(hy:a.eval y=.int .i64 i)(hi:i<n)(hn:Hid (xs.length=n))
(h:wpList P ops Q rest (a.put o.dst (.int k (xs.getD i 0))) w):wpList P ops Q (o::rest) a w:=by
 refine wpList_plain hg λK hK=>?_
 unfold Oper.wp execOp;have hl:=hn.o;have hb:(0:Int)<=(i:Int)/\(i:Int)<(n:Int):=⟨by omega,by omega⟩;obtain⟨j,hj,hj1⟩:∃j,P.info? e=some j/\j.size=1:=by
  cases hq:P.info? e with
  | none=>simp[hq] at hs
  | some j=>exact⟨j,rfl,by simpa[hq] using hs⟩
 have hrun:(Instr.index T (.agg (xs.map (Value.int k)).toArray) (.int .i64 i)).run P w=.ok (.int k (xs.getD i 0)) w:=by
  simp only[Instr.index,asIntOf,Sem.run_bind,Sem.run_pure,Result.andThen_ok,run_underlying hu,hb,and_self,if_true];have hx:xs[i]? = some (xs.getD i 0):=by
   have:i<xs.length:=by omega
   simp[this]
  simp[sizeOf,typeInfo,part,isAgg,run_underlying he,hj,hj1];rw[hx];simp
 simp only[ho,hx,hy,hrun,Sem.run_bind,Sem.run_pure,Result.andThen_ok];exact hK _ _ h
end
theorem below_drewN{B:Nat}{a w:World}(h:Below B a w)(n:Nat):Below B a (w.drewN n):=h.trans ⟨rfl,rfl,rfl,Nat.le_refl _,λ_ _=>rfl⟩
theorem v5b{xs ys:List Int}{k:Nat}(hx:k<xs.length)(hy:k<ys.length)(h:xs.take k=ys.take k)(he:xs.getD k 0=ys.getD k 0):xs.take (k+1)=ys.take (k+1):=by
 rw[List.take_succ_eq_append_getElem hx,List.take_succ_eq_append_getElem hy,h];have e:xs[k]=ys[k]:=by simpa[List.getD_eq_getElem?_getD,hx,hy] using he
 rw[e]
theorem L8b{xs ys:List Int}{k:Nat}(he:¬xs.getD k 0=ys.getD k 0):decide (xs=ys)=false:=by rw[decide_eq_false_iff_not];rintro rfl;exact he rfl
theorem M8b{xs ys:List Int}{n:Nat}(hx:xs.length=n)(hy:ys.length=n)(h:xs.take n=ys.take n):decide (xs=ys)=true:=by
 rw[decide_eq_true_iff]
 rwa [List.take_of_length_le (by omega),List.take_of_length_le (by omega)] at h
theorem Y7b(w:World)(B B':Nat)(A A':Option Addr)(n c n' c':Nat)(xs ys:List Int)(h:Holds w B A n c xs)(h':Holds w B' A' n' c' ys) :
  Calls prog 27 #[.slice A n c,.slice A' n' c'] w λe w'=>e=.returned (.bool (decide (xs=ys)))/\∃k,w.drewN k=w':=by
 have hl:=h.len;have hl':=h'.len;have hf:=h.fit;have hr:=h.room;have hf':=h'.fit;have hr':=h'.room;by_cases hn:n=n'
 ·subst hn;have HL:=hI hl;have HL':=hI hl';clear hl hl';go_enter func27,ntmps27;go_wp2;go_loopw [5] (λi wr=>∃k:Nat,k<=n/\i=.int .i64 k/\Hid (xs.take k=ys.take k)/\∃j,wr=w.drewN j) (λi _=>n-(intOf i).toNat)
  case atStart=>exact⟨0,Nat.zero_le _,rfl,by simp[Hid],0,rfl⟩
  case round=>
   obtain⟨k,hk,rfl,HT,j,rfl⟩:=hrel;by_cases hlt:k<n
   ·obtain⟨b,off,rfl,hb,hc⟩:=h.cells (by omega);obtain⟨b',off',rfl,hb',hc'⟩:=h'.cells (by omega);have gc:=hc k hlt;have gc':=hc' k hlt;clear hc hc';obtain⟨x,hx⟩:=xX (xs.getD k 0);obtain⟨y,hy⟩:=xX (ys.getD k 0);rw[<-hx] at gc;rw[<-hy] at gc';have HX:=hI hx;have HY:=hI hy;clear hx hy;by_cases he:x=y
    ·have hS:Hid (xs.take (k+1)=ys.take (k+1)):=v5b (by have:=HL.o;omega) (by have:=HL'.o;omega) HT.o (by rw[<-HX.o,<-HY.o,he]);clear HX HY HT;subst he;have hb0:(x != x)=false:=by simp
     go_wp2;go_quiet (fail);go_wp2;go_roundw
     case rel=>exact⟨k+1,by omega,by go_num,hS,_,rfl⟩
     case measure=>simp[intOf];omega
    ·have hS:=hI (L8b (xs:=xs) (ys:=ys) (k:=k) (by rw[<-HX.o,<-HY.o];exact he));clear HX HY HT;have hb0:(x != y)=true:=by simpa using he
     clear he;go_wp2;go_quiet (fail);go_wp2;go_ret;exact⟨N0a hS.o.symm,_,(World.drewN_drewN ..).symm⟩
   ·have hS:=hI (M8b (n:=n) HL.o HL'.o (by have:=HT.o;rwa [show k=n from by omega] at this));clear HT;go_wp2;go_ret;exact⟨N0a hS.o.symm,_,rfl⟩
 ·have e1:decide (xs=ys)=false:=by rw[decide_eq_false_iff_not];rintro rfl;omega
  have hne:((n:Int)==(n':Int))=false:=by simp;omega
  have hne':((n:Int) != (n':Int))=true:=by simp;omega
  rw[e1];clear e1 hl hl';go_enter func27,ntmps27;go_wp2;go_ret;exact⟨rfl,0,rfl⟩
section
variable {P:Program} {ops:Array Oper} {md:Region.Mode} {S:World->Prop} {Q:Exit->Act->World->Prop}
theorem A0a(i:Nat)(oi:Oper){fuel:Nat}{listed:Array Bool}{a:Act}{w:World}(hr:Region.ready md ops listed=[i])(hi:ops[i]? = some oi)
(h:∀K:Act->World->Prop,(∀a' w',S w'->wpAnyH P md ops Q S fuel (listed.setIfInBounds i true) a' w'->K a' w')->if Region.wanted oi (yielded ops a.tmps)=true then oi.wp P a w K Q else K (a.put oi.dst undef) w):wpAnyH P md ops Q S (fuel+1) listed a w:=by
 refine wpAnyH_all hr (by simp) λj hj=>?_
 obtain rfl:j=i:=by simpa using hj
 have h1:=h (λa' w'=>S w'/\wpAnyH P md ops Q S fuel (listed.setIfInBounds j true) a' w') λ_ _ h2 h3=>⟨h2,h3⟩
 unfold wpOp;simp only[hi];by_cases hw:Region.wanted oi (yielded ops a.tmps)=true
 ·rw[if_pos hw] at h1⊢;exact .inl h1
 ·rw[if_neg hw] at h1⊢;exact h1
end
def d4a(k:IntKind)(e:TypeId)(w:World)(base:Nat)(v:Value)(xs:List Int):Prop:=w.ownsRow base e 1 v xs.length (xs.map (Value.int k))
def b1a(k:IntKind)(e:TypeId)(w:World)(base:Nat)(v:Value)(xs:List Int):Prop:=(v=.slice none 0 0/\xs=[])∨∃g m,v=.slice (some ⟨g,0,none⟩) xs.length (xs.length+m)/\base<=g/\xs.length+m<=maxLen/\w.heap[g]? = some (.cells ((xs++List.replicate m 0).map (Value.int k)).toArray e (0,0))
def a0c(w w':World)(v:Value):Prop:=∃o,(w.alloc o).grownBy w' v.ownBlock
section
variable {k k':IntKind} {e e':TypeId} {w w':World} {base base':Nat} {v u:Value} {xs ys:List Int}
theorem d4a.nil(k:IntKind)(e:TypeId)(w:World)(base:Nat):d4a k e w base (.slice none 0 0) []:=World.ownsRow_nil w base e 1
theorem b1a.nil(k:IntKind)(e:TypeId)(w:World)(base:Nat):b1a k e w base (.slice none 0 0) []:=.inl ⟨rfl,rfl⟩
theorem b1a.own(h:b1a k e w base v xs):d4a k e w base v xs:=by
 rcases h with⟨rfl,rfl⟩ | ⟨g,m,rfl,hb,hm,hg⟩
 ·exact d4a.nil k e w base
 ·exact⟨by simp,.inr ⟨g,_,_,rfl,hb,hg,by omega,hm,by simp,by simp⟩⟩
theorem d4a.mono(h:d4a k e w base v xs)(hb:base'<=base):d4a k e w base' v xs:=by
 refine⟨h.1,?_⟩;rcases h.2 with h0 | ⟨g,cap,cur,rfl,h1,rest⟩
 ·exact .inl h0
 ·exact .inr ⟨g,cap,cur,rfl,by omega,rest⟩
theorem b1a.mono(h:b1a k e w base v xs)(hb:base'<=base):b1a k e w base' v xs:=by
 rcases h with h0 | ⟨g,m,rfl,h1,rest⟩
 ·exact .inl h0
 ·exact .inr ⟨g,m,rfl,by omega,rest⟩
theorem d4a.keep(h:d4a k e w base v xs)(hk:∀i cs,v.ownBlock=some i->w.heap[i]? = some (.cells cs e (0,0))->w'.heap[i]? = w.heap[i]?):d4a k e w' base v xs:=by
 refine⟨h.1,?_⟩;rcases h.2 with h0 | ⟨g,cap,cur,rfl,h1,hg,rest⟩
 ·exact .inl h0
 ·exact .inr ⟨g,cap,cur,rfl,h1,(hk g cur rfl hg).trans hg,rest⟩
theorem b1a.keep(h:b1a k e w base v xs)(hk:∀i cs,v.ownBlock=some i->w.heap[i]? = some (.cells cs e (0,0))->w'.heap[i]? = w.heap[i]?):b1a k e w' base v xs:=by
 rcases h with h0 | ⟨g,m,rfl,h1,hm,hg⟩
 ·exact .inl h0
 ·exact .inr ⟨g,m,rfl,h1,hm,(hk g _ rfl hg).trans hg⟩
theorem d4a.below(h:d4a k e w base v xs)(hb:BW w w'):d4a k e w' base v xs:=h.keep λi _ _ hi=>hb.block i (Array.getElem?_eq_some_iff.1 hi).1
theorem b1a.below(h:b1a k e w base v xs)(hb:BW w w'):b1a k e w' base v xs:=h.keep λi _ _ hi=>hb.block i (Array.getElem?_eq_some_iff.1 hi).1
theorem d4a.alloc(h:d4a k e w base v xs)(o:Obj):d4a k e (w.alloc o) base v xs:=h.keep λ_ _ _ hi=>Below.heap_alloc _ _ _ (Array.getElem?_eq_some_iff.1 hi).1
theorem b1a.alloc(h:b1a k e w base v xs)(o:Obj):b1a k e (w.alloc o) base v xs:=h.keep λ_ _ _ hi=>Below.heap_alloc _ _ _ (Array.getElem?_eq_some_iff.1 hi).1
theorem d4a.iterAt(h:d4a k e w base v xs){K:Nat}{s:ByteArray}{p:Nat}(hK:w.heap[K]? = some (.stringIter s p))(p':Nat):d4a k e (w.iterAt K s p') base v xs:=h.keep λ_ _ _ hi=>Lib.iterAt_other w K _ s p' (λe=>by subst e;rw[hi] at hK;cases hK)
theorem b1a.iterAt(h:b1a k e w base v xs){K:Nat}{s:ByteArray}{p:Nat}(hK:w.heap[K]? = some (.stringIter s p))(p':Nat):b1a k e (w.iterAt K s p') base v xs:=h.keep λ_ _ _ hi=>Lib.iterAt_other w K _ s p' (λe=>by subst e;rw[hi] at hK;cases hK)
theorem d4a.block(h:d4a k e w base v xs){i:Nat}(hi:v.ownBlock=some i):base<=i/\∃cs,w.heap[i]? = some (.cells cs e (0,0)):=by
 rcases h.2 with⟨rfl,_⟩ | ⟨g,cap,cur,rfl,h1,hg,rest⟩
 ·cases hi
 ·simp only[Value.ownBlock,Option.some.injEq] at hi;subst hi;exact⟨h1,cur,hg⟩
theorem d4a.open(h:d4a k e w base v xs):∃A n c,v=.slice A n c/\xs.length=n/\n<=c/\n<=9223372036854775807/\(A=none->c=0)/\
  (0<n->∃g,A=some ⟨g,0,none⟩/\base<=g/\g<w.heap.size/\∀i,i<n->w.cell? ⟨g,i,none⟩=some (.int k (xs.getD i 0))):=by
 rcases h.2 with⟨rfl,h0⟩ | ⟨g,cap,cur,rfl,hb,hg,hnc,hcm,hcs,htk⟩
 ·exact⟨none,0,0,rfl,h0,Nat.le_refl _,by omega,λ_=>rfl,λh=>absurd h (by omega)⟩
 ·refine⟨_,_,_,rfl,rfl,hnc,by unfold maxLen at hcm;omega,λhA=>(by cases hA),λh0=>⟨g,rfl,hb,(Array.getElem?_eq_some_iff.1 hg).1,λi hi=>?_⟩⟩;rw[cell_of_row w g i cur e (0,0) hg];have e1:cur[i]? = (cur.toList.take (xs.length*1))[i]?:=by rw[List.getElem?_take,if_pos (by omega),Array.getElem?_toList]
  rw[e1,htk];simp[hi]
theorem a0c.below(hg:a0c w w' v)(h:d4a k e w base v xs)(hb:base<=w.heap.size):Below base w w':=by obtain⟨o,hg⟩:=hg;exact((Below.refl base w).alloc hb o).grown hg (by simp;omega) λi hi=>(h.block hi).1
theorem a0c.block(hg:a0c w w' v){i:Nat}{x:Obj}(hi:w.heap[i]? = some x)(hn:v.ownBlock≠some i):w'.heap[i]? = some x:=by obtain⟨o,hg⟩:=hg;have hlt:=(Array.getElem?_eq_some_iff.1 hi).1;rw[hg.block i (by simp;omega) (λe=>hn e.symm),Below.heap_alloc _ _ _ hlt,hi]
theorem a0c.iter(hg:a0c w w' v)(h:d4a k e w base v xs){K:Nat}{s:ByteArray}{p:Nat}(hK:w.heap[K]? = some (.stringIter s p)):w'.heap[K]? = some (.stringIter s p):=
 hg.block hK λhi=>by obtain⟨_,cs,hcs⟩:=h.block hi;rw[hcs] at hK;cases hK
theorem K3a(k:IntKind)(n:Nat):(Builtin.zeroCells (Value.int k 0).cells n)=(List.replicate n (Value.int k 0)).toArray:=by
 apply Array.ext
 ·simp[Builtin.zeroCells,Value.cells]
 ·intro i h1 h2;simp[Builtin.zeroCells,Value.cells,Nat.mod_one]
theorem f7a{P:Program}{ops:Array Oper}{rest:List Oper}{o:Oper}{a:Act}{Q:Exit->Act->World->Prop}(hg:o.guard=none)(k:IntKind)(T e:TypeId)(bytes:Nat)
(ht:P.underlying T=some (.slice e))(hi:(P.info? e).map (λi=>(i.zero,i.size,i.bytes))=some (some (.int k 0),1,bytes))
(l c:Operand)(hop:o.op=Op.makeSlice T l c)(C:Int)(n:Nat)(hl:a.eval l=.int .i64 0)(hc:a.eval c=.int .i64 C)(hC:C=(n:Int))(hb:n*bytes<=281474976710656)(hn:n<=maxLen)
(hK:∀w',Hid (b1a k e w' w.heap.size (.slice (some ⟨w.heap.size,0,none⟩) 0 n) [])->BW w w'->wpList P ops Q rest (a.put o.dst (.slice (some ⟨w.heap.size,0,none⟩) 0 n)) w') :
  wpList P ops Q (o::rest) a w:=by
 obtain⟨i0,hi0,hz0,hz1,hz2⟩:=info_parts hi;refine wpList_plain hg λK hK'=>?_
 have h63:(n:Int)<=9223372036854775807:=by have:=hn;rw[show maxLen=9223372036854775807 from rfl] at this;omega
 have hbb:(i0.bytes:Int)*(n:Int)<=281474976710656:=by
  have h:((i0.bytes*n:Nat):Int)<=281474976710656:=by rw[hz2,Nat.mul_comm];omega
  rwa [Int.natCast_mul] at h
 have hrun:=run_make (P:=P) w T e i0 (.int k 0) ht hi0 hz0 .i64 .i64 0 n (Int.le_refl _) (by omega) hbb h63;have m0a:madeCells (Value.int k 0).cells (n*i0.size)=(List.replicate n (Value.int k 0)).toArray:=by rw[hz1,Nat.mul_one];apply Array.toList_inj.1;rw[show(Value.int k 0).cells=#[Value.int k 0] from rfl,toList_madeCells_one]
 simp only[Int.toNat_zero,Int.toNat_natCast,m0a] at hrun;subst hC;unfold Oper.wp;simp[execOp,hop,hl,hc,hrun,Result.andThen];refine hK' _ _ (hK _ ?_ ((Below.refl _ _).alloc (Nat.le_refl _) _));exact .inr ⟨w.heap.size,n,by simp,Nat.le_refl _,by simpa using hn,by rw[List.nil_append,List.map_replicate];exact heap_alloc_new w _⟩
theorem h9a:maxLen=9223372036854775807:=rfl
end
section
variable {k:IntKind} {e:TypeId} {w:World} {base:Nat} {v:Value} {xs ys:List Int}
theorem S5a(k:IntKind)(e:TypeId)(w:World)(base:Nat)(zs:List Int)(old m:Nat)(hz:zs.length=m)(hb:base<=w.heap.size)(hm:m<=maxLen) :
  b1a k e (w.drew.alloc (.cells ((zs.map (Value.int k)).toArray++Builtin.zeroCells (Value.int k 0).cells (grownCap w m old e-m)) e)) base (.slice (some ⟨w.heap.size,0,none⟩) m (grownCap w m old e)) zs:=by
 have hge:=grownCap_ge w m old e;have hle:=grownCap_le_maxLen w m old e hm;refine .inr ⟨w.heap.size,grownCap w m old e-m,by rw[hz,show m+(grownCap w m old e-m)=grownCap w m old e by omega],hb,by omega,?_⟩;rw[K3a,List.map_append,List.map_replicate,<-List.append_toArray];exact heap_alloc_new w.drew _
theorem i9a{P:Program}{ops:Array Oper}{rest:List Oper}{o:Oper}{a:Act}{Q:Exit->Act->World->Prop}(hgd:o.guard=none)(s x:Operand)(k:IntKind)(T e:TypeId)(bytes:Nat)
(ht:P.underlying T=some (.slice e))(hi:(P.info? e).map (λi=>(i.zero,i.size,i.bytes))=some (some (.int k 0),1,bytes))
(ho:o.op=.call { callee:=.builtin .append,args:=#[s,x],argTypes:=#[T,T] })
(base:Nat)(v:Value)(xs ys:List Int)(cs:Array Value)(hcs:cs=(ys.map (Value.int k)).toArray)(m c:Nat)(hm:ys.length=m)(hm0:0<m)(hs:a.eval s=v)(hx:a.eval x=.slice (some ⟨w.heap.size,0,none⟩) m c)
(hown:b1a k e w base v xs)(hlen:(xs.length+m)*bytes<=140737488355328)(h63:xs.length+m<=9223372036854775807)(hbase:base<=w.heap.size)
(h:∀v' w',Hid (b1a k e w' base v' (xs++ys))->Hid (a0c w w' v)->wpList P ops Q rest (a.put o.dst v') w') :
  wpList P ops Q (o::rest) a (w.alloc (.cells cs e)):=by
 obtain⟨i0,hi0,hz0,hz1,hz2⟩:=info_parts hi;subst hcs;obtain⟨w1,hw1⟩:=xX (w.alloc (.cells (ys.map (Value.int k)).toArray e));have hr:w1.heap[w.heap.size]? = some (.cells (ys.map (Value.int k)).toArray e (0,0)):=by rw[hw1];exact heap_alloc_new w _
 have hnews:∀j y,(ys.map (Value.int k))[j]? = some y->w1.cell? ((⟨w.heap.size,0,none⟩:Addr).add j)=some y:=by
  intro j y hj;have e1:(⟨w.heap.size,0,none⟩:Addr).add j=⟨w.heap.size,j,none⟩:=by
   by_cases hj0:j=0
   ·subst hj0;simp[Addr.add]
   ·simp[Addr.add,hj0]
  rw[e1,cell_of_row _ w.heap.size j _ e (0,0) hr,<-hj];simp
 have h1:∀y∈ys.map (Value.int k),y.oneCell'=true:=by intro v hv;obtain⟨x,_,rfl⟩:=List.mem_map.1 hv;rfl
 have hsz:w.heap.size<w1.heap.size:=(Array.getElem?_eq_some_iff.1 hr).1;have key:∀ty,∃v' w',(Builtin.append_ #[T,T] ty #[v,.slice (some ⟨w.heap.size,0,none⟩) m c]).run P w1=.ok v' w'/\b1a k e w' base v' (xs++ys)/\w1.grownBy w' v.ownBlock:=by
  intro ty;rcases hown with⟨rfl,rfl⟩ | ⟨g,z,rfl,hb,hz,hg⟩
  ·have hrun:=run_append_nil (P:=P) w1 T ty e i0 (.int k 0) ht hi0 hz0 ⟨w.heap.size,0,none⟩ m c (ys.map (Value.int k)) (by simp[hm,hz1]) hnews hm0 (by omega) (by rw[hz2];simp at hlen;omega);exact⟨_,_,hrun,by simpa using S5a k e w1 base ys 0 m hm (by omega) (by rw[h9a];simp at h63;omega),⟨rfl,rfl,rfl,by simp,λj hj _=>Below.heap_alloc w1.drew _ j hj⟩⟩
  ·have hg1:w1.heap[g]? = some (.cells ((xs++List.replicate z 0).map (Value.int k)).toArray e (0,0)):=by rw[hw1,Below.heap_alloc _ _ _ (Array.getElem?_eq_some_iff.1 hg).1,hg]
   by_cases hroom:xs.length+m<=xs.length+z
   ·have hrun:=run_append_room (P:=P) w1 T ty e i0 ht hi0 g xs.length (xs.length+z) _ hg1 ⟨w.heap.size,0,none⟩ m c (ys.map (Value.int k)) (by simp[hm,hz1]) hnews h1 hroom (by simp[hz1];omega);refine⟨_,_,hrun,.inr ⟨g,z-m,by simp[hm];omega,hb,by simp;omega,?_⟩,⟨rfl,rfl,rfl,by simp,λj _ hj=>setRow_other w1 g j _ (λe=>hj (by simp[Value.ownBlock,e]))⟩⟩;rw[setRow_heap w1 g _ _ e _ hg1]
    congr 2
    have e1:((xs++List.replicate z 0).map (Value.int k)).take (xs.length*i0.size)=xs.map (Value.int k):=by rw[hz1,Nat.mul_one,List.map_append,List.take_left' (by simp)]
    have e2:((xs++List.replicate z 0).map (Value.int k)).drop (xs.length*i0.size+(ys.map (Value.int k)).length)=(List.replicate (z-m) 0).map (Value.int k):=by rw[hz1,Nat.mul_one,List.length_map,hm,<-List.drop_drop,List.map_append,List.drop_left' (by simp),<-List.map_drop,List.drop_replicate]
    rw[e1,e2];simp
   ·have m0a:∀j y,(xs.map (Value.int k))[j]? = some y->w1.cell? ((⟨g,0,none⟩:Addr).add j)=some y:=by
     intro j y hj;have hjl:j<xs.length:=by
      rcases Nat.lt_or_ge j xs.length with h | h
      ·exact h
      ·rw[List.getElem?_eq_none (by simpa using h)] at hj;cases hj
     have e1:(⟨g,0,none⟩:Addr).add j=⟨g,j,none⟩:=by
      by_cases hj0:j=0
      ·subst hj0;simp[Addr.add]
      ·simp[Addr.add,hj0]
     rw[e1,cell_of_row _ g j _ e (0,0) hg1,<-hj];simp[hjl,List.getElem?_append]
    have hrun:=run_append_grow (P:=P) w1 T ty e i0 (.int k 0) ht hi0 hz0 ⟨g,0,none⟩ xs.length (xs.length+z) (xs.map (Value.int k)) (by simp[hz1]) m0a ⟨w.heap.size,0,none⟩ m c (ys.map (Value.int k)) (by simp[hm,hz1]) hnews (by omega) (by omega) (growslice_fits (by omega) (by rw[hz2];exact hlen));refine⟨_,_,hrun,?_,⟨rfl,rfl,rfl,by simp,λj hj _=>Below.heap_alloc w1.drew _ j hj⟩⟩;have:=S5a k e w1 base (xs++ys) (xs.length+z) (xs.length+m) (by simp[hm]) (by omega) (by rw[h9a];omega);simpa using this
 refine wpList_plain hgd λK hK'=>?_
 obtain⟨v',w',hrun,h2,h3⟩:=key o.type;rw[<-hw1];unfold Oper.wp execOp;simp only[ho,resolve,invoke,builtin,Sem.run_bind,Sem.run_pure,Result.andThen_ok,List.map_toArray,List.map_cons,List.map_nil,hs,hx,hrun];exact hK' _ _ (h v' w' h2 ⟨_,by rw[<-hw1];exact h3⟩)
theorem d4a.lit(k:IntKind)(e:TypeId)(w:World)(xs:List Int)(cs:Array Value)(n:Nat)(hcs:cs=(xs.map (Value.int k)).toArray)(hn:xs.length=n)(hm:n<=maxLen) :
  d4a k e (w.alloc (.cells cs e)) w.heap.size (.slice (some ⟨w.heap.size,0,none⟩) n n) xs:=by
 subst hcs;subst hn;exact⟨by simp,.inr ⟨w.heap.size,_,_,rfl,Nat.le_refl _,heap_alloc_new w _,Nat.le_refl _,hm,by simp,List.take_of_length_le (by simp)⟩⟩
theorem h3b{P:Program}{src e:TypeId}(hs:P.underlying src=some (.slice e))(he:P.underlying e=some (.int .u8))(h:d4a .u8 e w base v xs) :
  ∀dst,P.underlying dst=some .string->(convert src dst v).run P w=.ok (.string (strOfNums xs)) w:=by
 intro dst hd;obtain⟨A,n,c,rfl,hl,_,_,hA,hc⟩:=h.open;by_cases h0:0<n
 ·obtain⟨g,rfl,_,_,hc⟩:=hc h0;exact run_convert_bytes_arg w src e hs he g 0 n c xs hl (λi hi=>by rw[Nat.zero_add];exact hc i hi) dst hd
 ·obtain rfl:n=0:=by omega
  obtain rfl:xs=[]:=List.eq_nil_of_length_eq_zero hl;rcases h.2 with⟨h1,_⟩ | ⟨g,cap,cur,h1,_⟩
  ·cases h1;exact run_convert_bytes_nil w src e hs he 0 0 dst hd
  ·cases h1;exact run_convert_bytes_arg w src e hs he g 0 0 c [] rfl (λi hi=>absurd hi (by omega)) dst hd
end
section
variable {P:Program} {ops:Array Oper} {Q:Exit->Act->World->Prop}
theorem j8a{md:Region.Mode}{S:World->Prop}(i j:Nat)(oi oj:Oper){fuel:Nat}{listed:Array Bool}{a:Act}{w:World}(hr:Region.ready md ops listed=[i,j])(hi:ops[i]? = some oi)(hj:ops[j]? = some oj)
(h1:∀K:Act->World->Prop,(∀a' w',S w'->wpAnyH P md ops Q S fuel (listed.setIfInBounds i true) a' w'->K a' w')->if Region.wanted oi (yielded ops a.tmps)=true then oi.wp P a w K Q else K (a.put oi.dst undef) w)
(h2:∀K:Act->World->Prop,(∀a' w',S w'->wpAnyH P md ops Q S fuel (listed.setIfInBounds j true) a' w'->K a' w')->if Region.wanted oj (yielded ops a.tmps)=true then oj.wp P a w K Q else K (a.put oj.dst undef) w) :
  wpAnyH P md ops Q S (fuel+1) listed a w:=by
 refine wpAnyH_all hr (by simp) λq hq=>?_
 rcases List.mem_cons.1 hq with rfl | hq
 ·have h3:=h1 (λa' w'=>S w'/\wpAnyH P md ops Q S fuel (listed.setIfInBounds q true) a' w') λ_ _ h2 h3=>⟨h2,h3⟩
  unfold wpOp;simp only[hi];by_cases hw:Region.wanted oi (yielded ops a.tmps)=true
  ·rw[if_pos hw] at h3⊢;exact .inl h3
  ·rw[if_neg hw] at h3⊢;exact h3
 ·obtain rfl:=List.mem_singleton.1 hq;have h3:=h2 (λa' w'=>S w'/\wpAnyH P md ops Q S fuel (listed.setIfInBounds q true) a' w') λ_ _ h2 h3=>⟨h2,h3⟩
  unfold wpOp;simp only[hj];by_cases hw:Region.wanted oj (yielded ops a.tmps)=true
  ·rw[if_pos hw] at h3⊢;exact .inl h3
  ·rw[if_neg hw] at h3⊢;exact h3
end
end Go.Proofs.YtjpcifmeimcikaaGreatDoor
