import Derived.Test.YtgfflnjggnadpaaGreatDoorRows
import Derived.Laws.CopyOwn
import Derived.Laws.AppendOwnNone
import Derived.Lib.Hide
import Derived.Shelf.Utf8.AppendRunePlain
import Derived.Shelf.Bytes.SlSearch0
import Derived.Shelf.Bytes.SlEqualAll
import Derived.Shelf.Unicode.ValidAny
import Derived.WalkSpells
import Derived.WalkLawsBesides
import Derived.ProofKit
import Derived.OpenShut
import Derived.ShutString
import Derived.Lib.AppendZeros
import Derived.Great.Walk
import Derived.Deep.WholeRow
import Derived.Deep.MidRow
import Derived.Deep.Strs
import Derived.Test.YtgfflnjggnadpaaGreatDoorS0
set_option linter.all false
set_option maxHeartbeats 8000000
set_option maxRecDepth 100000
namespace Go.Proofs.YtgfflnjggnadpaaGreatDoor
open Go.RowKit
def Bytes(xs:List Int):Prop:=∀x∈xs,0<=x/\x<=255
theorem Bytes.nil:Bytes []:=λ_ h=>by cases h
theorem Bytes.take{xs:List Int}(h:Bytes xs)(k:Nat):Bytes (xs.take k):=λx hx=>h x (List.mem_of_mem_take hx)
theorem Bytes.drop{xs:List Int}(h:Bytes xs)(k:Nat):Bytes (xs.drop k):=λx hx=>h x (List.mem_of_mem_drop hx)
theorem Bytes.append{xs ys:List Int}(h:Bytes xs)(k:Bytes ys):Bytes (xs++ys):=λx hx=>by
 rcases List.mem_append.1 hx with h1 | h1
 ·exact h x h1
 ·exact k x h1
theorem Bytes.getD{xs:List Int}(h:Bytes xs)(i:Nat):0<=xs.getD i 0/\xs.getD i 0<=255:=by
 by_cases hi:i<xs.length
 ·rw[List.getD_eq_getElem?_getD,List.getElem?_eq_getElem hi];exact h _ (List.getElem_mem hi)
 ·rw[List.getD_eq_getElem?_getD,List.getElem?_eq_none (by omega)];simp
theorem Bytes.of_all{xs:List Int}(h:xs.all (λx=>decide (0<=x)&&decide (x<=255))=true):Bytes xs:=λx hx=>by have:=List.all_eq_true.1 h x hx;simpa using this
theorem Bytes.zeros(n:Nat):Bytes (List.replicate n 0):=λx hx=>by rw[List.eq_of_mem_replicate hx];omega
structure Holds (w:World) (B:Nat) (A:Option Addr) (n c:Nat) (xs:List Int):Prop where
 len:xs.length=n
 fit:n<=c
 room:n<=281474976710656
 byte:Bytes xs
 bare:A=none->c=0
 cells:0<n->∃b off,A=some ⟨b,off,none⟩/\b<B/\∀i,i<n->w.cell? ⟨b,off+i,none⟩=some (.int .u8 (xs.getD i 0))
section
variable {w w':World} {B B':Nat} {A:Option Addr} {n c:Nat} {xs:List Int}
theorem Holds.nil(w:World)(B:Nat):Holds w B none 0 0 []:=⟨rfl,Nat.le_refl _,by omega,Bytes.nil,λ_=>rfl,λh=>absurd h (by omega)⟩
theorem Holds.keep(h:Holds w B A n c xs)(hk:∀p:Addr,p.block<B->w'.cell? p=w.cell? p):Holds w' B A n c xs:=
 ⟨h.len,h.fit,h.room,h.byte,h.bare,λhn=>by obtain⟨b,off,e,hb,hc⟩:=h.cells hn;exact⟨b,off,e,hb,λi hi=>(hk _ hb).trans (hc i hi)⟩⟩
theorem Holds.mono(h:Holds w B A n c xs)(hB:B<=B'):Holds w B' A n c xs:=
 ⟨h.len,h.fit,h.room,h.byte,h.bare,λhn=>by obtain⟨b,off,e,hb,hc⟩:=h.cells hn;exact⟨b,off,e,by omega,hc⟩⟩
theorem Holds.below(h:Holds w B A n c xs)(hb:Below B w w'):Holds w' B A n c xs:=h.keep λ_ hp=>hb.cell hp
theorem Holds.over(h:Holds w w.heap.size A n c xs)(hb:Below w.heap.size w w'):Holds w' w'.heap.size A n c xs:=(h.below hb).mono hb.size
theorem Holds.drewN(h:Holds w B A n c xs)(k:Nat):Holds (w.drewN k) B A n c xs:=h.keep λ_ _=>rfl
theorem Holds.drew(h:Holds w B A n c xs):Holds w.drew B A n c xs:=h.keep λ_ _=>rfl
theorem Holds.empty(w:World)(B:Nat)(A:Option Addr)(c:Nat)(hc:A=none->c=0):Holds w B A 0 c []:=⟨rfl,Nat.zero_le _,by omega,Bytes.nil,hc,λh=>absurd h (by omega)⟩
theorem Holds.cut(h:Holds w B A n c xs){k m:Nat}(hk:k+m<=n)(hm:0<m):Holds w B (A.map (·.add k)) m m ((xs.drop k).take m):=by
 have hl:=h.len;refine⟨by simp;omega,Nat.le_refl _,by have:=h.room;omega,(h.byte.drop k).take m,λhA=>?_,λhm=>?_⟩
 ·obtain⟨b,off,rfl,_⟩:=h.cells (by omega);cases hA
 obtain⟨b,off,rfl,hb,hc⟩:=h.cells (by omega);refine⟨b,off+k,?_,hb,λi hi=>?_⟩
 ·by_cases hk0:k=0
  ·subst hk0;simp[Addr.add]
  ·simp[Addr.add,hk0]
 ·rw[Nat.add_assoc,hc (k+i) (by omega)];simp[List.getD_eq_getElem?_getD,List.getElem?_drop,hi]
theorem Holds.part(h:Holds w B A n c xs){k m c':Nat}(hk:k+m<=n)(hm:0<m)(hc':m<=c'):Holds w B (A.map (·.add k)) m c' ((xs.drop k).take m):=by have h1:=h.cut hk hm;exact⟨h1.len,hc',h1.room,h1.byte,λhA=>by have:=h1.bare hA;omega,h1.cells⟩
end
theorem step{a b c:World}(h1:Below a.heap.size a b)(h2:Below b.heap.size b c):Below a.heap.size a c:=h1.trans (h2.mono h1.size)
theorem G2a(w:World)(k:Nat):Below w.heap.size w (w.drewN k):=⟨rfl,rfl,rfl,Nat.le_refl _,λ_ _=>rfl⟩
theorem K0a{a b:Bool}(h:a=b):Ending.returned (.bool a)=.returned (.bool b):=by rw[h]
def le(n:Int):Nat->List Int
 | 0=>[]
 | s+1=>n%256::le (n/256) s
def num:List Int->Int
 | []=>0
 | x::r=>x+256*num r
theorem g0a(n:Int)(s:Nat):(le n s).length=s:=by
 induction s generalizing n with
 | zero=>rfl
 | succ s ih=>simp[le,ih]
theorem F0a(n:Int)(s:Nat):Bytes (le n s):=by
 induction s generalizing n with
 | zero=>exact Bytes.nil
 | succ s ih=>
  intro x hx;rcases List.mem_cons.1 hx with rfl | hx
  ·omega
  ·exact ih _ x hx
theorem v7b(n:Int)(s:Nat)(h0:0<=n)(h:n<256^s):num (le n s)=n:=by
 induction s generalizing n with
 | zero=>simp at h;simp[le,num];omega
 | succ s ih=>have:=ih (n/256) (by omega) (by rw[Int.pow_succ] at h;omega);simp only[le,num,this];omega
theorem h2b(xs:List Int)(h:Bytes xs):0<=num xs/\num xs<256^xs.length:=by
 induction xs with
 | nil=>simp[num]
 | cons x r ih=>
  have h1:=h x List.mem_cons_self;have h2:=ih λy hy=>h y (List.mem_cons_of_mem _ hy)
  simp only[num,List.length_cons,Int.pow_succ];omega
theorem V1c(xs:List Int)(h:Bytes xs):le (num xs) xs.length=xs:=by
 induction xs with
 | nil=>rfl
 | cons x r ih=>
  have h1:=h x List.mem_cons_self;have h2:=ih λy hy=>h y (List.mem_cons_of_mem _ hy)
  simp only[num,List.length_cons,le];rw[show(x+256*num r)%256=x from by omega,show(x+256*num r)/256=num r from by omega,h2]
theorem z9b(xs:List Int)(x:Int):num (xs++[x])=num xs+256^xs.length*x:=by
 induction xs with
 | nil=>simp[num]
 | cons y r ih=>simp only[List.cons_append,num,ih,List.length_cons,Int.pow_succ,Int.mul_add];rw[Int.mul_comm (256^r.length) 256,Int.mul_assoc,Int.add_assoc]
def j3a(s:Int):Bool:=s==1||s==2||s==4||s==8
def R0a(n:Nat)(at_ m:Int):Int:=if at_<0∨(n:Int)<at_∨m<0 then 2 else if (n:Int)-at_<m then 4 else 0
def partOf(xs:List Int)(at_ m:Int):List Int:=if R0a xs.length at_ m=0 then (xs.drop at_.toNat).take m.toNat else []
def j2a(n:Nat)(at_ s:Int):Int:=if j3a s=true then R0a n at_ s else 2
def r4a(xs:List Int)(at_ s:Int):Int:=if j2a xs.length at_ s=0 then num ((xs.drop at_.toNat).take s.toNat) else 0
def A4a(n s:Int):Bool:=j3a s&&decide (n<256^s.toNat)
def z6a(n s:Int):Int:=if A4a n s=true then 0 else 2
def p5a(n s:Int):List Int:=if A4a n s=true then le n s.toNat else []
def w7b(n:Nat):Nat:=(n+7)/8*8
def zeroOf(xs:List Int)(at_ m:Int):Bool:=decide (R0a xs.length at_ m=0)&&(partOf xs at_ m).all (· == 0)
theorem Q1a{s:Int}(h:j3a s=true):s=1∨s=2∨s=4∨s=8:=by simp only[j3a,Bool.or_eq_true,beq_iff_eq] at h;omega
set_option maxRecDepth 100000
structure Hd where
 ch:Int
 st:Int
 cm:Int
 cr:Int
 fl:Int
 nx:Int
 id:Int
 asy:Int
 tr:Int
 se:Int
 sg:List Int
def Hd.tup(h:Hd):List Int:=h.ch::h.st::h.cm::h.cr::h.fl::h.nx::h.id::h.asy::h.tr::h.se::h.sg
theorem Hd.tup_inj{a b:Hd}:a.tup=b.tup↔a=b:=by cases a;cases b;simp[Hd.tup]
instance:DecidableEq Hd:=λ_ _=>decidable_of_iff _ Hd.tup_inj
structure Hd.ok (h:Hd):Prop where
 ch:0<=h.ch/\h.ch<=65535
 st:0<=h.st/\h.st<=4294967295
 cm:0<=h.cm/\h.cm<=65535
 cr:0<=h.cr/\h.cr<=65535
 fl:0<=h.fl/\h.fl<=4294967295
 nx:0<=h.nx/\h.nx<=4294967295
 id:0<=h.id/\h.id<=18446744073709551615
 asy:0<=h.asy/\h.asy<=18446744073709551615
 tr:0<=h.tr/\h.tr<=4294967295
 se:0<=h.se/\h.se<=18446744073709551615
 len:h.sg.length=16
 byte:Bytes h.sg
def N1a:Hd:=⟨0,0,0,0,0,0,0,0,0,0,List.replicate 16 0⟩
theorem o3a:N1a.ok:=⟨by decide,by decide,by decide,by decide,by decide,by decide,by decide,by decide,by decide,by decide,by decide,Bytes.zeros 16⟩
def S2b:List Int:=[0,1,2,3,4,5,6,7,8,9,10,12,13,14,16,17,18]
def known(c:Int):Bool:=S2b.contains c
def d6a(f:Int):Bool:=decide (f/2%2=1)
def r0b(h:Hd):Bool:=known h.cm&&(decide (h.fl<16)&&(if d6a h.fl=true then decide (h.tr=0) else decide (h.asy=0)))
def H6a(h:Hd):Hd:=if d6a h.fl=true then { h with tr:=0 } else { h with asy:=0 }
def aot(h:Hd):Int:=if d6a h.fl=true then h.asy else h.tr*4294967296
theorem A9b(h:Hd):decide (h=H6a h)=(if d6a h.fl=true then decide (h.tr=0) else decide (h.asy=0)):=by
 obtain⟨ch,st,cm,cr,fl,nx,id,asy,tr,se,sg⟩:=h;unfold H6a;by_cases hi:d6a fl=true
 ·rw[if_pos hi,if_pos hi];simp
 ·rw[if_neg hi,if_neg hi];simp
theorem T2b{h:Hd}(k:h.ok):(H6a h).ok:=by
 unfold H6a;split
 ·exact⟨k.ch,k.st,k.cm,k.cr,k.fl,k.nx,k.id,k.asy,⟨Int.le_refl 0,(by omega:(0:Int)<=4294967295)⟩,k.se,k.len,k.byte⟩
 ·exact⟨k.ch,k.st,k.cm,k.cr,k.fl,k.nx,k.id,⟨Int.le_refl 0,(by omega:(0:Int)<=18446744073709551615)⟩,k.tr,k.se,k.len,k.byte⟩
theorem B7a{h:Hd}(k:h.ok):0<=aot h/\aot h<=18446744073709551615:=by have h1:=k.asy;have h2:=k.tr;unfold aot;split<;>omega
def szs:List Nat:=[4,2,2,4,2,2,4,4,8,8,8]
def N6a:List Nat:=[0,4,6,8,12,14,16,20,24,32,40,48]
def h9a(h:Hd):List Int:=[1112364030,64,h.ch,h.st,h.cm,h.cr,h.fl,h.nx,h.id,aot h,h.se]
def pre(h:Hd):Nat->List Int
 | 0=>[]
 | k+1=>pre h k++le ((h9a h).getD k 0) (szs.getD k 0)
def e6a(h:Hd):List Int:=pre h 11++h.sg
def b8a(h:Hd):Int:=if r0b h=true then 0 else 2
def s8a(h:Hd):List Int:=if r0b h=true then e6a h else []
def i2b(h:Hd)(k:Nat):List Int:=pre h k++List.replicate (64-N6a.getD k 0) 0
theorem S7a{p:Nat->Prop}(h0:p 0)(h1:p 1)(h2:p 2)(h3:p 3)(h4:p 4)(h5:p 5)(h6:p 6)(h7:p 7)(h8:p 8)(h9:p 9)(h10:p 10)(k:Nat)(hk:k<11):p k:=by
 match k,hk with
 | 0,_=>exact h0
 | 1,_=>exact h1
 | 2,_=>exact h2
 | 3,_=>exact h3
 | 4,_=>exact h4
 | 5,_=>exact h5
 | 6,_=>exact h6
 | 7,_=>exact h7
 | 8,_=>exact h8
 | 9,_=>exact h9
 | 10,_=>exact h10
theorem a4a:∀k,k<11->N6a.getD (k+1) 0=N6a.getD k 0+szs.getD k 0/\N6a.getD k 0+szs.getD k 0<=48/\2<=szs.getD k 0/\szs.getD k 0<=8:=by decide
theorem x7b(k:Nat)(hk:k<11):j3a (szs.getD k 0:Nat)=true:=by revert hk;exact S7a (p:=λk=>j3a (szs.getD k 0:Nat)=true) (by decide) (by decide) (by decide) (by decide) (by decide) (by decide) (by decide) (by decide) (by decide) (by decide) (by decide) k
theorem g6a(h:Hd)(k:Nat)(hk:k<=11):(pre h k).length=N6a.getD k 0:=by
 induction k with
 | zero=>rfl
 | succ k ih=>have h1:=a4a k (by omega);rw[pre,List.length_append,ih (by omega),g0a];omega
theorem y7b(h:Hd)(k:Nat):Bytes (pre h k):=by
 induction k with
 | zero=>exact Bytes.nil
 | succ k ih=>exact ih.append (F0a _ _)
theorem b4a{h:Hd}(hs:h.sg.length=16):(e6a h).length=64:=by unfold e6a;rw[List.length_append,g6a h 11 (by omega),hs];rfl
theorem K5a{h:Hd}(hb:Bytes h.sg):Bytes (e6a h):=(y7b h 11).append hb
theorem z7b(h:Hd):i2b h 0=List.replicate 64 0:=rfl
theorem U2b(h:Hd)(k:Nat)(hk:k<=11):(i2b h k).length=64:=by
 unfold i2b;rw[List.length_append,g6a h k hk,List.length_replicate];have:∀k,k<=11->N6a.getD k 0<=64:=by decide
 have:=this k hk;omega
theorem A7b(h:Hd)(k:Nat)(hk:k<11):(i2b h k).take (N6a.getD k 0)++le ((h9a h).getD k 0) (szs.getD k 0)++(i2b h k).drop (N6a.getD k 0+szs.getD k 0)=i2b h (k+1):=by
 have h1:=a4a k hk;unfold i2b;rw[List.take_left' (g6a h k (by omega)),List.drop_append,List.drop_of_length_le (by rw[g6a h k (by omega)];omega),g6a h k (by omega),List.nil_append,List.drop_replicate,pre,h1.1]
 congr 2
 omega
theorem B7b(h:Hd):(i2b h 11).take 48++h.sg++(i2b h 11).drop 64=e6a h:=by have e:(i2b h 11).length=64:=U2b h 11 (by omega);rw[List.drop_of_length_le (by omega)];unfold i2b e6a;rw[List.take_left' (by rw[g6a h 11 (by omega)];rfl),List.append_nil]
def Z0a(xs:List Int)(a s:Nat):Int:=num ((xs.drop a).take s)
def F3b(k:Nat)(n:Int)(h:Hd):Hd:=
 if k=2 then { h with ch:=n } else if k=3 then { h with st:=n } else if k=4 then { h with cm:=n } else if k=5 then { h with cr:=n } else if k=6 then { h with fl:=n } else if k=7 then { h with nx:=n }
 else if k=8 then { h with id:=n } else if k=9 then (if d6a h.fl=true then { h with asy:=n } else { h with tr:=n/4294967296 }) else if k=10 then { h with se:=n } else h
def tk(xs:List Int):Nat->Hd
 | 0=>N1a
 | k+1=>F3b k (Z0a xs (N6a.getD k 0) (szs.getD k 0)) (tk xs k)
def F1a(xs:List Int):Hd:={ tk xs 11 with sg:=(xs.drop 48).take 16 }
theorem M5a(xs:List Int):F1a xs=⟨Z0a xs 6 2,Z0a xs 8 4,Z0a xs 12 2,Z0a xs 14 2,Z0a xs 16 4,Z0a xs 20 4,Z0a xs 24 8,if d6a (Z0a xs 16 4)=true then Z0a xs 32 8 else 0,
  if d6a (Z0a xs 16 4)=true then 0 else Z0a xs 32 8/4294967296,Z0a xs 40 8,(xs.drop 48).take 16⟩:=by
 have e9:tk xs 9=⟨Z0a xs 6 2,Z0a xs 8 4,Z0a xs 12 2,Z0a xs 14 2,Z0a xs 16 4,Z0a xs 20 4,Z0a xs 24 8,0,0,0,List.replicate 16 0⟩:=rfl;unfold F1a;rw[show tk xs 11=F3b 10 (Z0a xs 40 8) (F3b 9 (Z0a xs 32 8) (tk xs 9)) from rfl,e9];unfold F3b;by_cases hi:d6a (Z0a xs 16 4)=true
 ·simp[hi]
 ·simp[hi]
theorem R1a(xs:List Int)(hx:Bytes xs)(a s:Nat)(M:Int)(hM:(256:Int)^s=M):0<=Z0a xs a s/\Z0a xs a s<=M-1:=by
 have h1:=h2b ((xs.drop a).take s) ((hx.drop a).take s);have hl:((xs.drop a).take s).length<=s:=by simp;omega
 have h2:(256:Int)^((xs.drop a).take s).length<=256^s:=by have h3:(256:Nat)^((xs.drop a).take s).length<=256^s:=Nat.pow_le_pow_right (by omega) hl;have h4:(((256:Nat)^((xs.drop a).take s).length:Nat):Int)<=((256^s:Nat):Int):=Int.ofNat_le.2 h3;simpa[Int.natCast_pow] using h4
 unfold Z0a;omega
theorem C7b(xs:List Int)(hx:Bytes xs)(k:Nat):0<=Z0a xs (N6a.getD k 0) (szs.getD k 0)/\Z0a xs (N6a.getD k 0) (szs.getD k 0)<256^szs.getD k 0:=by have:=R1a xs hx (N6a.getD k 0) (szs.getD k 0) _ rfl;omega
theorem O6a(xs:List Int)(hx:Bytes xs)(hl:xs.length=64):(F1a xs).ok:=by
 have n2:=λa=>R1a xs hx a 2 65536 (by decide)
 have n4:=λa=>R1a xs hx a 4 4294967296 (by decide)
 have n8:=λa=>R1a xs hx a 8 18446744073709551616 (by decide)
 rw[M5a];refine⟨?_,?_,?_,?_,?_,?_,?_,?_,?_,?_,by simp;omega,(hx.drop 48).take 16⟩
 ·have:=n2 6;dsimp only;omega
 ·have:=n4 8;dsimp only;omega
 ·have:=n2 12;dsimp only;omega
 ·have:=n2 14;dsimp only;omega
 ·have:=n4 16;dsimp only;omega
 ·have:=n4 20;dsimp only;omega
 ·have:=n8 24;dsimp only;omega
 ·have:=n8 32;dsimp only;split<;>omega
 ·have:=n8 32;dsimp only;split<;>omega
 ·have:=n8 40;dsimp only;omega
theorem V2b(xs:List Int)(hx:Bytes xs)(a s:Nat)(h:a+s<=xs.length):le (Z0a xs a s) s=(xs.drop a).take s:=by
 have h1:=V1c ((xs.drop a).take s) ((hx.drop a).take s)
 rwa [show((xs.drop a).take s).length=s from by simp;omega] at h1
theorem t8a(xs:List Int)(a s:Nat):xs.take a++(xs.drop a).take s=xs.take (a+s):=by rw[List.take_add]
theorem o6b(xs ys:List Int):num (xs++ys)=num xs+256^xs.length*num ys:=by
 induction xs with
 | nil=>simp[num]
 | cons x r ih=>simp only[List.cons_append,num,ih,List.length_cons,Int.pow_succ,Int.mul_add];rw[Int.mul_comm (256^r.length) 256,Int.mul_assoc,Int.add_assoc]
theorem L4b(xs:List Int)(a:Nat)(h:a+8<=xs.length):Z0a xs a 8=Z0a xs a 4+4294967296*Z0a xs (a+4) 4:=by
 unfold Z0a;have e:(xs.drop a).take 8=(xs.drop a).take 4++(xs.drop (a+4)).take 4:=by rw[show(8:Nat)=4+4 from rfl,List.take_add,List.drop_drop]
 rw[e,o6b,show((xs.drop a).take 4).length=4 from by simp;omega];rfl
def J5b(xs:List Int):Bool:=decide (Z0a xs 0 4=1112364030)&&decide (Z0a xs 4 2=64)&&(d6a (Z0a xs 16 4)||decide (Z0a xs 32 4=0))
def p6b(xs:List Int):Bool:=J5b xs&&r0b (F1a xs)
theorem D7b(xs:List Int)(hx:Bytes xs)(hl:xs.length=64)(k:Nat)(hk:k<=11)(hs:∀j,j<k->(h9a (F1a xs)).getD j 0=Z0a xs (N6a.getD j 0) (szs.getD j 0)):pre (F1a xs) k=xs.take (N6a.getD k 0):=by
 induction k with
 | zero=>rfl
 | succ k ih=>have h1:=a4a k (by omega);rw[pre,ih (by omega) (λj hj=>hs j (by omega)),hs k (by omega),V2b xs hx _ _ (by omega),t8a,<-h1.1]
theorem G3b(xs:List Int)(hx:Bytes xs)(hl:xs.length=64):decide (e6a (F1a xs)=xs)=J5b xs:=by
 have n4:=λa=>R1a xs hx a 4 4294967296 (by decide)
 have n8:=λa=>R1a xs hx a 8 18446744073709551616 (by decide)
 have e8:Z0a xs 32 8=Z0a xs 32 4+4294967296*Z0a xs 36 4:=L4b xs 32 (by omega);have hfl:(F1a xs).fl=Z0a xs 16 4:=by rw[M5a]
 have ha:aot (F1a xs)=if d6a (Z0a xs 16 4)=true then Z0a xs 32 8 else 4294967296*Z0a xs 36 4:=by
  have:=n4 32;unfold aot;rw[hfl,M5a];by_cases hi:d6a (Z0a xs 16 4)=true
  ·simp only[hi,if_true]
  ·simp only[hi,Bool.false_eq_true,if_false];omega
 have hsg:(F1a xs).sg=xs.drop 48:=by rw[M5a];exact List.take_of_length_le (by simp;omega)
 have hvals:h9a (F1a xs)=[1112364030,64,Z0a xs 6 2,Z0a xs 8 4,Z0a xs 12 2,Z0a xs 14 2,Z0a xs 16 4,Z0a xs 20 4,Z0a xs 24 8,aot (F1a xs),Z0a xs 40 8]:=by unfold h9a;rw[M5a]
 rw[Bool.eq_iff_iff,decide_eq_true_iff];constructor
 ·intro h;have hv:∀j,j<11->le ((h9a (F1a xs)).getD j 0) (szs.getD j 0)=(xs.drop (N6a.getD j 0)).take (szs.getD j 0):=by
   intro j hj;have h1:=a4a j hj;have hlen:∀k,k<=11->pre (F1a xs) k=xs.take (N6a.getD k 0):=by
    intro k hk;have h2:(pre (F1a xs) k).length=N6a.getD k 0:=g6a _ k hk;have h3:∀m k,k+m=11->∃r,pre (F1a xs) 11=pre (F1a xs) k++r:=by
     intro m
     induction m with
     | zero=>intro k hk;exact⟨[],by rw[List.append_nil,show k=11 from by omega]⟩
     | succ m ih=>intro k hk;obtain⟨r,hr⟩:=ih (k+1) (by omega);exact⟨_,by rw[hr,pre,List.append_assoc]⟩
    obtain⟨r,hr⟩:=h3 (11-k) k (by omega);have h4:pre (F1a xs) k++(r++(F1a xs).sg)=xs:=by rw[<-List.append_assoc,<-hr];exact h
    have h5:=congrArg (List.take (N6a.getD k 0)) h4
    rwa [List.take_left' h2] at h5
   have e1:=hlen (j+1) (by omega);rw[pre,hlen j (by omega),h1.1,<-t8a] at e1;exact List.append_cancel_left e1
  have v0:=hv 0 (by omega);have v1:=hv 1 (by omega);have v9:=hv 9 (by omega);rw[hvals] at v0 v1 v9;change le 1112364030 4=(xs.drop 0).take 4 at v0
  change le 64 2=(xs.drop 4).take 2 at v1
  change le (aot (F1a xs)) 8=(xs.drop 32).take 8 at v9
  have w0:Z0a xs 0 4=1112364030:=by unfold Z0a;rw[<-v0];decide
  have w1:Z0a xs 4 2=64:=by unfold Z0a;rw[<-v1];decide
  have w9:Z0a xs 32 8=aot (F1a xs):=by
   unfold Z0a;rw[<-v9,v7b _ _ (B7a (O6a xs hx hl)).1 (by
    have:=(B7a (O6a xs hx hl)).2;have e:(256:Int)^8=18446744073709551616:=by decide
    omega)]
  unfold J5b;rw[w0,w1];by_cases hi:d6a (Z0a xs 16 4)=true
  ·simp[hi]
  ·rw[ha,if_neg hi] at w9;have:=n4 32;have:Z0a xs 32 4=0:=by rw[e8] at w9;omega
   simp[this]
 ·intro h;unfold J5b at h;simp only[Bool.and_eq_true,Bool.or_eq_true,decide_eq_true_eq] at h;obtain⟨⟨h0,h1⟩,h9⟩:=h;have h9':aot (F1a xs)=Z0a xs 32 8:=by
   rw[ha];by_cases hi:d6a (Z0a xs 16 4)=true
   ·rw[if_pos hi]
   ·rw[if_neg hi,e8];rcases h9 with h9 | h9
    ·exact absurd h9 hi
    ·omega
  have hp:=D7b xs hx hl 11 (by omega) (by
   rw[hvals,h9'];exact λj hj=>S7a (p:=λj=>List.getD [1112364030,64,Z0a xs 6 2,Z0a xs 8 4,Z0a xs 12 2,Z0a xs 14 2,Z0a xs 16 4,Z0a xs 20 4,Z0a xs 24 8,Z0a xs 32 8,Z0a xs 40 8] j 0=Z0a xs (N6a.getD j 0) (szs.getD j 0))
    h0.symm h1.symm rfl rfl rfl rfl rfl rfl rfl rfl rfl j hj)
  unfold e6a;rw[hp,hsg];exact List.take_append_drop 48 xs
def m2a(xs:List Int)(a:Int):Int:=if R0a xs.length a 64=0 then (if p6b ((xs.drop a.toNat).take 64)=true then 0 else 5) else R0a xs.length a 64
def l2a(xs:List Int)(a:Int):Hd:=if m2a xs a=0 then F1a ((xs.drop a.toNat).take 64) else N1a
theorem I0b{n:Nat}{a:Int}(h:R0a n a 64=0):0<=a/\a.toNat+64<=n:=by
 unfold R0a at h;by_cases g1:a<0∨(n:Int)<a∨(64:Int)<0
 ·rw[if_pos g1] at h;omega
 ·by_cases g2:(n:Int)-a<64
  ·rw[if_neg g1,if_pos g2] at h;omega
  ·omega
theorem J0b(xs:List Int)(a:Int)(hx:Bytes xs):(l2a xs a).ok:=by
 unfold l2a;split
 ·rename_i h;have hp:R0a xs.length a 64=0:=by
   unfold m2a at h;by_cases hp:R0a xs.length a 64=0
   ·exact hp
   ·rw[if_neg hp] at h;exact h
  have:=I0b hp;exact O6a _ ((hx.drop _).take _) (by simp;omega)
 ·exact o3a
open Go.Lib
def C1a(r:Int):Prop:=0<=r/\r<=1114111/\(r<55296∨57343<r)
def enc(r:Int):List UInt8:=if 1114112<=r then [(r-1114112).toNat.toUInt8] else encodeRune r
def P6a(l:List UInt8):Int:=if (decodeL l).1=65533/\(decodeL l).2=1 then 1114112+((l.getD 0 0).toNat:Int) else ((decodeL l).1:Int)
def h6a:Nat->List UInt8->List Int
 | 0,_=>[]
 | n+1,l=>if l=[] then [] else P6a l::h6a n (l.drop (decodeL l).2)
def E1a(l:List UInt8):List Int:=h6a l.length l
theorem u5a(n:Nat):h6a n []=[]:=by cases n<;>simp[h6a]
theorem u8a:∀(n m:Nat) (l:List UInt8),l.length<=n->l.length<=m->h6a n l=h6a m l
 | 0,m,l,hn,_=>by obtain rfl:l=[]:=List.eq_nil_of_length_eq_zero (by omega);rw[u5a,u5a]
 | n+1,0,l,_,hm=>by obtain rfl:l=[]:=List.eq_nil_of_length_eq_zero (by omega);rw[u5a,u5a]
 | n+1,m+1,l,hn,hm=>by
  unfold h6a;by_cases hne:l=[]
  ·simp[hne]
  ·have hw:=decodeL_width l;have hl:0<l.length:=List.length_pos_iff.2 hne;rw[if_neg hne,if_neg hne,u8a n m (l.drop (decodeL l).2) (by rw[List.length_drop];omega) (by rw[List.length_drop];omega)]
theorem K0b:E1a []=[]:=rfl
theorem p3a(l:List UInt8)(hne:l≠[]):E1a l=P6a l::E1a (l.drop (decodeL l).2):=by
 have hl:0<l.length:=List.length_pos_iff.2 hne;have hw:=decodeL_width l;obtain⟨n,hn⟩:∃n,l.length=n+1:=⟨l.length-1,by omega⟩;unfold E1a;rw[hn];show(if l=[] then [] else _)=_
 rw[if_neg hne,u8a n (l.drop (decodeL l).2).length _ (by rw[List.length_drop];omega) (Nat.le_refl _)]
theorem C7a(l:List UInt8)(_hne:l≠[]) :
  (¬((decodeL l).1=65533/\(decodeL l).2=1)/\P6a l=((decodeL l).1:Int)/\C1a ((decodeL l).1:Int))∨
  ((decodeL l).1=65533/\(decodeL l).2=1/\P6a l=1114112+((l.getD 0 0).toNat:Int)/\128<=(l.getD 0 0).toNat):=by
 have k0:=(l.getD 0 0).toNat_lt;have k1:=(l.getD 1 0).toNat_lt;have k2:=(l.getD 2 0).toNat_lt;have k3:=(l.getD 3 0).toNat_lt;unfold P6a C1a;by_cases h:(decodeL l).1=65533/\(decodeL l).2=1
 ·right;refine⟨h.1,h.2,if_pos h,?_⟩;rw[decodeL_N] at h;by_cases hb:(l.getD 0 0).toNat<128
  ·rw[decodeN_ascii _ _ _ _ _ hb] at h;dsimp only at h;omega
  ·omega
 ·left;refine⟨h,if_neg h,?_⟩;rw[decodeL_N] at h⊢;rcases decodeN_shape l.length (l.getD 0 0).toNat (l.getD 1 0).toNat (l.getD 2 0).toNat (l.getD 3 0).toNat with⟨c,e⟩ | ⟨c1,c2,c3,cv,e⟩ | ⟨c1,c2,c3,c4,cv,cs,e⟩ | ⟨c1,c2,c3,c4,c5,cv,cw,e⟩ | e
  all_goals (rw[e] at h⊢;dsimp only at h⊢)
  all_goals (try (exact absurd ⟨rfl,rfl⟩ h))
  all_goals (refine⟨by omega,by omega,by omega⟩)
def B9b(r:Int):Prop:=C1a r∨(1114240<=r/\r<=1114367)
theorem C9b(l:List UInt8)(hne:l≠[]):B9b (P6a l):=by
 have k0:=(l.getD 0 0).toNat_lt;rcases C7a l hne with⟨_,h1,h2⟩ | ⟨_,_,h1,h2⟩
 ·rw[h1];exact .inl h2
 ·rw[h1];exact .inr (by omega)
theorem B9b.letter{r:Int}(h:B9b r)(hr:r<1114112):C1a r:=by
 rcases h with h | h
 ·exact h
 ·omega
theorem C1a.lt{r:Int}(h:C1a r):¬1114112<=r:=by have:=h.2.1;omega
theorem i6a{P:List UInt8->Prop}(h0:P [])(h1:∀l:List UInt8,l≠[]->P (l.drop (decodeL l).2)->P l):∀l,P l:=by
 have key:∀n (l:List UInt8),l.length<=n->P l:=by
  intro n
  induction n with
  | zero=>intro l hl;obtain rfl:l=[]:=List.eq_nil_of_length_eq_zero (by omega);exact h0
  | succ n ih=>
   intro l hl;by_cases hne:l=[]
   ·rw[hne];exact h0
   ·have hw:=decodeL_width l;exact h1 l hne (ih _ (by rw[List.length_drop];omega))
 exact λl=>key l.length l (Nat.le_refl _)
theorem M4b(l:List UInt8):∀r∈E1a l,B9b r:=by
 induction l using i6a with
 | h0=>intro r hr;cases hr
 | h1 l hne ih=>
  rw[p3a l hne];intro r hr;rcases List.mem_cons.1 hr with rfl | hr
  ·exact C9b l hne
  ·exact ih r hr
theorem q6b(l:List UInt8):(E1a l).length<=l.length:=by
 induction l using i6a with
 | h0=>simp[K0b]
 | h1 l hne ih=>have hw:=decodeL_width l;have hl:0<l.length:=List.length_pos_iff.2 hne;rw[p3a l hne,List.length_cons];rw[List.length_drop] at ih;omega
theorem s0b(x:Int):(x.toNat.toUInt8).toNat=x.toNat%256:=by simp
theorem j2b(r:Int)(h:C1a r)(t:List UInt8):decodeL (encodeRune r++t)=(r.toNat,(encodeRune r).length):=by
 obtain⟨h0,h1,h2⟩:=h;rw[decodeL_N];unfold encodeRune;by_cases c1:r<=127
 ·rw[encodeRuneZ_one h0 c1];simp only[List.map_cons,List.map_nil,List.cons_append,List.nil_append,List.length_cons,List.getD_cons_zero,List.length_nil,s0b];rw[decodeN_ascii _ _ _ _ _ (by omega)];rw[show r.toNat%256=r.toNat by omega]
 by_cases c2:r<=2047
 ·rw[encodeRuneZ_two (by omega) c2];simp only[List.map_cons,List.map_nil,List.cons_append,List.nil_append,List.length_cons,List.getD_cons_zero,List.getD_cons_succ,List.length_nil,s0b];unfold decodeN;rw[if_neg (by omega),if_pos (by omega),if_pos (by omega)];exact Prod.ext (by dsimp only;omega) rfl
 by_cases c3:r<=65535
 ·rw[encodeRuneZ_three (by omega)];simp only[List.map_cons,List.map_nil,List.cons_append,List.nil_append,List.length_cons,List.getD_cons_zero,List.getD_cons_succ,List.length_nil,s0b];unfold decodeN;rw[if_neg (by omega),if_neg (by omega),if_pos (by omega),if_pos (by omega)];exact Prod.ext (by dsimp only;omega) rfl
 ·rw[encodeRuneZ_four (by omega) h1];simp only[List.map_cons,List.map_nil,List.cons_append,List.nil_append,List.length_cons,List.getD_cons_zero,List.getD_cons_succ,List.length_nil,s0b];unfold decodeN;rw[if_neg (by omega),if_neg (by omega),if_neg (by omega),if_pos (by omega),if_pos (by omega)];exact Prod.ext (by dsimp only;omega) rfl
theorem j9a{r:Int}(h:C1a r):enc r=encodeRune r:=if_neg h.lt
theorem Q0c{r:Int}:1<=(enc r).length:=by
 unfold enc;split
 ·simp
 ·have:=encodeRuneZ_length r;simpa[encodeRune] using this.1
theorem W1c{r:Int}:(enc r).length<=4:=by
 unfold enc;split
 ·simp
 ·have:=encodeRuneZ_length r;simpa[encodeRune] using this.2
theorem D9b(r:Int)(h:C1a r)(t:List UInt8):P6a (enc r++t)=r:=by
 unfold P6a;rw[j9a h,j2b r h t];dsimp only;rw[if_neg ?_]
 ·have:=h.1;omega
 ·rintro⟨h1,h2⟩;obtain rfl:r=65533:=by have:=h.1;omega
  revert h2;decide
theorem H3b(r:Int)(h:C1a r)(t:List UInt8):E1a (enc r++t)=r::E1a t:=by
 have hp:=Q0c (r:=r);have hne:enc r++t≠[]:=by intro e;have:=congrArg List.length e;rw[List.length_append,List.length_nil] at this;omega
 rw[p3a _ hne,D9b r h t];have e:(decodeL (enc r++t)).2=(enc r).length:=by rw[j9a h,j2b r h t]
 rw[e,List.drop_left]
theorem U1b(rs:List Int)(h:∀r∈rs,C1a r)(t:List UInt8):E1a (rs.flatMap enc++t)=rs++E1a t:=by
 induction rs with
 | nil=>rfl
 | cons r rs ih=>rw[List.flatMap_cons,List.append_assoc,H3b r (h r List.mem_cons_self),ih λx hx=>h x (List.mem_cons_of_mem _ hx),List.cons_append]
theorem k2b(rs:List Int)(h:∀r∈rs,C1a r):E1a (rs.flatMap enc)=rs:=by have:=U1b rs h [];simpa[K0b] using this
def H3a(l:List UInt8):Bool:=(E1a l).all λr=>decide (r<1114112)
theorem L0b(l:List UInt8)(hne:l≠[]):H3a l=(decide (P6a l<1114112)&&H3a (l.drop (decodeL l).2)):=by unfold H3a;rw[p3a l hne,List.all_cons]
theorem W2b(l:List UInt8):validD l=H3a l:=by
 induction l using i6a with
 | h0=>rfl
 | h1 l hne ih=>
  rw[validD_step l hne,L0b l hne,ih];rcases C7a l hne with⟨h0,h1,h2⟩ | ⟨h0,h0',h1,h2⟩
  ·have:=h2.lt;rw[if_neg h0,h1,decide_eq_true (by omega),Bool.true_and]
  ·rw[if_pos ⟨h0,h0'⟩,h1,decide_eq_false (by omega),Bool.false_and]
theorem T7a{l:List UInt8}(h:H3a l=true):∀r∈E1a l,C1a r:=λr hr=>(M4b l r hr).letter (by simpa using List.all_eq_true.1 h r hr)
theorem E7b(rs:List Int)(h:∀r∈rs,C1a r):H3a (rs.flatMap enc)=true:=by unfold H3a;rw[k2b rs h,List.all_eq_true];intro r hr;have:=(h r hr).2.1;simp only[decide_eq_true_eq];omega
theorem K5b(s:ByteArray)(pos:Nat)(h:pos<s.size) :
  E1a (s.data.toList.drop pos)=P6a (s.data.toList.drop pos)::E1a (s.data.toList.drop (pos+(Utf8.decode s pos).2))/\1<=(Utf8.decode s pos).2/\pos+(Utf8.decode s pos).2<=s.size:=by
 have hl:s.data.toList.drop pos≠[]:=by intro e;have:=congrArg List.length e;rw[List.length_drop,<-size_eq] at this;simp at this;omega
 have h1:=p3a _ hl;have h2:=decodeL_width (s.data.toList.drop pos);have h3:=decodeL_le _ hl;rw[decodeL_drop] at h1 h2 h3;rw[List.drop_drop] at h1;rw[List.length_drop,<-size_eq] at h3;exact⟨h1,h2,by omega⟩
theorem I3b(s:ByteArray)(pos:Nat)(h:pos<s.size)(ht:H3a (s.data.toList.drop pos)=true) :
  E1a (s.data.toList.drop pos)=((Utf8.decode s pos).1:Int)::E1a (s.data.toList.drop (pos+(Utf8.decode s pos).2))/\H3a (s.data.toList.drop (pos+(Utf8.decode s pos).2))=true/\C1a ((Utf8.decode s pos).1:Int):=by
 have hl:s.data.toList.drop pos≠[]:=by intro e;have:=congrArg List.length e;rw[List.length_drop,<-size_eq] at this;simp at this;omega
 have h1:=p3a _ hl;rw[L0b _ hl,Bool.and_eq_true] at ht;obtain⟨ht,ht'⟩:=ht;rw[decodeL_drop] at h1 ht';rw[List.drop_drop] at h1 ht';have ht:=of_decide_eq_true ht;rcases C7a _ hl with⟨_,e,hL⟩ | ⟨_,_,e,_⟩
 ·rw[decodeL_drop] at e hL;rw[e] at h1;exact⟨h1,ht',hL⟩
 ·omega
theorem L5b(s:ByteArray)(pos:Nat)(h:¬pos<s.size):E1a (s.data.toList.drop pos)=[]:=by rw[List.drop_of_length_le (by rw[<-size_eq];omega)];rfl
def p2a(r:Int):List Int:=if r<65536 then [r%256,r/256] else [(55296+(r-65536)/1024)%256,(55296+(r-65536)/1024)/256,(56320+(r-65536)%1024)%256,(56320+(r-65536)%1024)/256]
def f2a(rs:List Int):List Int:=rs.flatMap p2a
def z2a:List Int->Nat
 | []=>0
 | r::rs=>(if r<65536 then 1 else 2)+z2a rs
theorem b5a(rs:List Int):(f2a rs).length=2*z2a rs:=by
 induction rs with
 | nil=>rfl
 | cons r rs ih=>
  have:(p2a r).length=2*(if r<65536 then 1 else 2):=by unfold p2a;split<;>rfl
  unfold f2a at ih⊢;rw[List.flatMap_cons,List.length_append,ih,this,z2a];omega
theorem J3b(rs:List Int):z2a rs<=2*rs.length:=by
 induction rs with
 | nil=>exact Nat.le_refl _
 | cons r rs ih=>rw[z2a,List.length_cons];split<;>omega
theorem U7a{r:Int}(h:C1a r):Bytes (p2a r):=by
 obtain⟨h0,h1,h2⟩:=h;unfold p2a;intro x hx;split at hx
 ·simp at hx;omega
 ·simp at hx;omega
theorem v8a{rs:List Int}(h:∀r∈rs,C1a r):Bytes (f2a rs):=by intro x hx;obtain⟨r,hr,hx⟩:=List.mem_flatMap.1 hx;exact U7a (h r hr) x hx
def S1a(l:List UInt8):List Int:=if H3a l=true then f2a (E1a l) else []
def q3a(l:List UInt8):Int:=if H3a l=true then 0 else 5
def R4a(l:List UInt8):Nat:=if H3a l=true then z2a (E1a l) else 0
theorem M0b(l:List UInt8):Bytes (S1a l):=by
 unfold S1a;split
 ·exact v8a (T7a (by assumption))
 ·exact Bytes.nil
theorem X2b(l:List UInt8):(S1a l).length=2*R4a l:=by
 unfold S1a R4a;split
 ·exact b5a _
 ·rfl
theorem N0b(l:List UInt8):R4a l<=2*l.length:=by unfold R4a;have:=J3b (E1a l);have:=q6b l;split<;>omega
def Row(w:World)(g:Nat)(xs:List Int):Prop:=w.heap[g]? = some (.cells (xs.map (Value.int .u8)).toArray 5 (0,0))
def r2a(w:World)(base:Nat)(A:Option Addr)(xs:List Int):Prop:=(A=none/\xs=[])∨∃g,A=some ⟨g,0,none⟩/\base<=g/\Row w g xs
section
variable {w w':World} {g B base:Nat} {xs:List Int}
theorem Row.lt(h:Row w g xs):g<w.heap.size:=(Array.getElem?_eq_some_iff.1 h).1
theorem Row.cell(h:Row w g xs){i:Nat}(hi:i<xs.length):w.cell? ⟨g,i,none⟩=some (.int .u8 (xs.getD i 0)):=by rw[cell_of_row w g i _ 5 (0,0) h];simp[hi]
theorem Row.frozen(h:Row w g xs)(i:Nat):w.frozen? ⟨g,i,none⟩=false:=frozen_of_row w g i _ 5 h
theorem Row.below(h:Row w g xs)(hb:Below B w w')(hg:g<B):Row w' g xs:=(hb.block g hg).trans h
theorem Row.set(h:Row w g xs)(i:Nat)(u:Int):Row (w.setCell ⟨g,i,none⟩ (.int .u8 u)) g (xs.set i u):=by have h1:=heap_setCell_same w g i _ 5 (.int .u8 u) h;unfold Row;rw[h1];simp[List.map_set]
theorem Row.drewN(h:Row w g xs)(k:Nat):Row (w.drewN k) g xs:=h
theorem r2a.holds{A:Option Addr}{n:Nat}(h:r2a w base A xs)(hn:xs.length=n)(hx:Bytes xs)(hc:n<=281474976710656):Holds w w.heap.size A n n xs:=by
 refine⟨hn,Nat.le_refl _,hc,hx,λhA=>?_,λh0=>?_⟩
 ·rcases h with⟨_,rfl⟩ | ⟨g,rfl,_,hr⟩
  ·exact hn.symm
  ·cases hA
 rcases h with⟨_,rfl⟩ | ⟨g,rfl,_,hr⟩
 ·simp at hn;omega
 ·exact⟨g,0,rfl,hr.lt,λi hi=>by rw[Nat.zero_add];exact hr.cell (by omega)⟩
theorem r2a.keep{A:Option Addr}{row:Option Nat}(h:r2a w base A xs)(hg:w.grownBy w' row)(hr:∀k,row=some k->k<base):r2a w' base A xs:=by
 rcases h with h | ⟨g,rfl,hb,hrow⟩
 ·exact .inl h
 ·exact .inr ⟨g,rfl,hb,(hg.block g hrow.lt (λe=>by have:=hr g e.symm;omega)).trans hrow⟩
theorem r2a.below{A:Option Addr}(h:r2a w base A xs)(hb:Below w.heap.size w w'):r2a w' base A xs:=by
 rcases h with h | ⟨g,rfl,hg,hr⟩
 ·exact .inl h
 ·exact .inr ⟨g,rfl,hg,hr.below hb hr.lt⟩
end
theorem N3a:(Tryz.prog.info? 5).map (λi=>(i.zero,i.size,i.bytes))=some (some (.int .u8 0),1,1):=by kernel_rfl
theorem H1a(w:World){ops:Array Oper}{rest:List Oper}{o:Oper}{a:Act}{Q:Exit->Act->World->Prop}
(hg:o.guard=none)(l c:Operand)(hop:o.op=Op.makeSlice 31 l c)(L C:Int)(n:Nat)(hl:a.eval l=.int .i64 L)(hc:a.eval c=.int .i64 C)(hL:L=(n:Int))(hC:C=(n:Int))(hn:n<=281474976710656)
(hK:∀w',Hid (Row w' w.heap.size (List.replicate n 0))->Below w.heap.size w w'->wpList Tryz.prog ops Q rest (a.put o.dst (.slice (some ⟨w.heap.size,0,none⟩) n n)) w') :
  wpList Tryz.prog ops Q (o::rest) a w:=by
 obtain⟨i0,hi,hz0,hz1,hz2⟩:=info_parts N3a;refine wpList_make_full w hg l c 31 hop w.heap.size 5 i0 (.int .u8 0) 1 Tryz.underlying31 hi hz0 hz1 .i64 .i64 L C n hl hc hL hC (by rw[hz2];omega) (by unfold maxLen;omega) (Nat.le_refl _) ?_;intro w' hown hgr;refine hK w' ?_ ((Below.refl _ _).grown hgr (Nat.le_refl _) (λk hk=>by cases hk));rcases hown.2 with⟨h0,_⟩ | ⟨g,cap,cur,hv,_,hh,_,_,hcs,htk⟩
 ·cases h0
 ·simp only[Value.slice.injEq,Option.some.injEq,Addr.mk.injEq,and_true,true_and] at hv;obtain⟨rfl,rfl⟩:=hv;show w'.heap[_]? = _
  rw[hh];have e:cur.toList=List.replicate n (.int .u8 0):=by have h1:cur.toList.take (n*1)=cur.toList:=List.take_of_length_le (by simp[hcs]);rw[<-h1,htk];rw[Nat.mul_one];exact toList_madeCells_one (.int .u8 0) n
  rw[List.map_replicate,<-e]
theorem k9a{w:World}{ops:Array Oper}{rest:List Oper}{o:Oper}{a:Act}{Q:Exit->Act->World->Prop}(hgd:o.guard=none)(d s:Operand)
(ho:o.op=.call { callee:=.builtin .copy,args:=#[d,s],argTypes:=#[31,31] })
(g dLen dCap n c:Nat)(A:Option Addr)(hd:a.eval d=.slice (some ⟨g,0,none⟩) dLen dCap)(hs:a.eval s=.slice A n c)
(cur xs:List Int)(B:Nat)(hrow:Hid (Row w g cur))(hx:Holds w B A n c xs)(hn:n<=dLen)(hfit:n<=cur.length)
(h:∀w',Hid (Row w' g (xs++cur.drop n))->Below g w w'->wpList Tryz.prog ops Q rest (a.put o.dst (goInt n)) w') :
  wpList Tryz.prog ops Q (o::rest) a w:=by
 have hl:=hx.len;obtain⟨i0,hi,hz0,hz1,hz2⟩:=info_parts N3a;refine wpList_copy_splice hgd d s 31 31 ho 5 Tryz.underlying31 (by rw[hi];simp[hz1]) (some ⟨g,0,none⟩) A dLen dCap n c hd hs g 0 (cur.map (Value.int .u8)) 5 hrow.out (xs.map (Value.int .u8)) (by rw[List.length_map,hl];exact(Nat.min_eq_left hn).symm) ?_ (by simp;omega)
  (by intro v hv;obtain⟨x,_,rfl⟩:=List.mem_map.1 hv;rfl) g w (Below.refl _ _) (Nat.le_refl _) ?_
 ·intro h0;refine⟨rfl,?_⟩;obtain⟨b,off,rfl,_,hc⟩:=hx.cells (by simp at h0;omega);refine⟨⟨b,off,none⟩,rfl,λj v hj=>?_⟩;have hjl:j<xs.length:=by
   by_cases hj':j<xs.length
   ·exact hj'
   ·rw[List.getElem?_eq_none (by simp;omega)] at hj;cases hj
  have e:(⟨b,off,none⟩:Addr).add j=⟨b,off+j,none⟩:=by
   by_cases hj0:j=0
   ·subst hj0;simp[Addr.add]
   ·simp[Addr.add,hj0]
  rw[e,hc j (by omega),<-hj];simp[hjl]
 ·intro w' hr hb;have e:(splice (cur.map (Value.int .u8)) 0 (xs.map (Value.int .u8)))=(xs++cur.drop n).map (Value.int .u8):=by simp[splice,hl]
  have hr':=hr.out;rw[e] at hr';rw[List.length_map,hl] at *;exact h w' hr' hb
def Own(w:World)(base:Nat)(v:Value)(xs:List Int):Prop:=w.ownsRow base 5 1 v xs.length (xs.map (Value.int .u8))
theorem Own.nil(w:World)(base:Nat):Own w base (.slice none 0 0) []:=World.ownsRow_nil w base 5 1
theorem Own.holds{w:World}{base:Nat}{v:Value}{xs:List Int}(h:Own w base v xs)(hx:Bytes xs)(hn:xs.length<=281474976710656) :
  ∃A c,v=.slice A xs.length c/\Holds w w.heap.size A xs.length c xs:=by
 rcases h.2 with⟨rfl,h0⟩ | ⟨g,cap,cur,rfl,hb,hg,hnc,hcm,hcs,htk⟩
 ·have:xs=[]:=List.eq_nil_of_length_eq_zero h0;subst this;exact⟨none,0,rfl,Holds.nil _ _⟩
 ·refine⟨_,_,rfl,rfl,hnc,hn,hx,λhA=>(by cases hA),λh0=>⟨g,0,rfl,(Array.getElem?_eq_some_iff.1 hg).1,λi hi=>?_⟩⟩;rw[Nat.zero_add,cell_of_row w g i cur 5 (0,0) hg];have e:cur[i]? = (cur.toList.take (xs.length*1))[i]?:=by rw[List.getElem?_take,if_pos (by omega),Array.getElem?_toList]
  rw[e,htk];simp[hi]
theorem Own.below{w w':World}{base:Nat}{v:Value}{xs:List Int}(h:Own w base v xs)(hb:Below w.heap.size w w'):Own w' base v xs:=by
 refine⟨h.1,?_⟩;rcases h.2 with h0 | ⟨g,cap,cur,rfl,h1,hg,rest⟩
 ·exact .inl h0
 ·exact .inr ⟨g,cap,cur,rfl,h1,(hb.block g (Array.getElem?_eq_some_iff.1 hg).1).trans hg,rest⟩
theorem Own.mono{w:World}{base base':Nat}{v:Value}{xs:List Int}(h:Own w base v xs)(hb:base'<=base):Own w base' v xs:=by
 refine⟨h.1,?_⟩;rcases h.2 with h0 | ⟨g,cap,cur,rfl,h1,rest⟩
 ·exact .inl h0
 ·exact .inr ⟨g,cap,cur,rfl,by omega,rest⟩
theorem Own.alloc{w:World}{base:Nat}{v:Value}{xs:List Int}(h:Own w base v xs)(o:Obj):Own (w.alloc o) base v xs:=World.ownsRow.alloc h o
theorem Holds.lit(w:World)(xs:List Int)(cs:Array Value)(S n:Nat)(hcs:cs=(xs.map (Value.int .u8)).toArray)(hS:w.heap.size=S)(hl:xs.length=n)(hx:Bytes xs)(hn:n<=281474976710656)(T:TypeId:=5) :
  Holds (w.alloc (.cells cs T)) (S+1) (some ⟨S,0,none⟩) n n xs:=by
 subst hcs;subst hS;subst hl;exact⟨rfl,Nat.le_refl _,hn,hx,λhA=>(by cases hA),λ_=>⟨w.heap.size,0,rfl,by omega,λi hi=>by have hr:(w.alloc (.cells (xs.map (Value.int .u8)).toArray T)).heap[w.heap.size]? = some (.cells (xs.map (Value.int .u8)).toArray T (0,0)):=heap_alloc_new w _;rw[Nat.zero_add,cell_of_row _ w.heap.size i _ T (0,0) hr];simp[hi]⟩⟩
theorem Own.len{w:World}{base:Nat}{v:Value}{xs:List Int}(h:Own w base v xs):∃A c,v=.slice A xs.length c:=by
 rcases h.2 with⟨rfl,h0⟩ | ⟨g,cap,cur,rfl,_⟩
 ·exact⟨none,0,by rw[h0]⟩
 ·exact⟨_,_,rfl⟩
theorem r2a.own{w:World}{base n:Nat}{A:Option Addr}{xs:List Int}(h:r2a w base A xs)(hn:xs.length=n)(hc:n<=281474976710656):Own w base (.slice A n n) xs:=by
 refine⟨by simp,?_⟩;rcases h with⟨rfl,rfl⟩ | ⟨g,rfl,hg,hr⟩
 ·obtain rfl:n=0:=by simpa using hn.symm
  exact .inl ⟨rfl,rfl⟩
 ·subst hn;exact .inr ⟨g,xs.length,_,rfl,hg,hr,Nat.le_refl _,by unfold maxLen;omega,by simp,by rw[List.take_of_length_le (by simp)]⟩
def O3a(k:IntKind)(e:TypeId)(w:World)(base:Nat)(v:Value)(xs:List Int):Prop:=w.ownsRow base e 1 v xs.length (xs.map (Value.int k))
def X0a(k:IntKind)(e:TypeId)(w:World)(base:Nat)(v:Value)(xs:List Int):Prop:=(v=.slice none 0 0/\xs=[])∨∃g m,v=.slice (some ⟨g,0,none⟩) xs.length (xs.length+m)/\base<=g/\xs.length+m<=maxLen/\w.heap[g]? = some (.cells ((xs++List.replicate m 0).map (Value.int k)).toArray e (0,0))
def r7b(w w':World)(v:Value):Prop:=∃o,(w.alloc o).grownBy w' v.ownBlock
section
variable {k k':IntKind} {e e':TypeId} {w w':World} {base base':Nat} {v u:Value} {xs ys:List Int}
theorem O3a.nil(k:IntKind)(e:TypeId)(w:World)(base:Nat):O3a k e w base (.slice none 0 0) []:=World.ownsRow_nil w base e 1
theorem X0a.nil(k:IntKind)(e:TypeId)(w:World)(base:Nat):X0a k e w base (.slice none 0 0) []:=.inl ⟨rfl,rfl⟩
theorem X0a.own(h:X0a k e w base v xs):O3a k e w base v xs:=by
 rcases h with⟨rfl,rfl⟩ | ⟨g,m,rfl,hb,hm,hg⟩
 ·exact O3a.nil k e w base
 ·exact⟨by simp,.inr ⟨g,_,_,rfl,hb,hg,by omega,hm,by simp,by simp⟩⟩
theorem O3a.mono(h:O3a k e w base v xs)(hb:base'<=base):O3a k e w base' v xs:=by
 refine⟨h.1,?_⟩;rcases h.2 with h0 | ⟨g,cap,cur,rfl,h1,rest⟩
 ·exact .inl h0
 ·exact .inr ⟨g,cap,cur,rfl,by omega,rest⟩
theorem X0a.mono(h:X0a k e w base v xs)(hb:base'<=base):X0a k e w base' v xs:=by
 rcases h with h0 | ⟨g,m,rfl,h1,rest⟩
 ·exact .inl h0
 ·exact .inr ⟨g,m,rfl,by omega,rest⟩
theorem O3a.keep(h:O3a k e w base v xs)(hk:∀i cs,v.ownBlock=some i->w.heap[i]? = some (.cells cs e (0,0))->w'.heap[i]? = w.heap[i]?):O3a k e w' base v xs:=by
 refine⟨h.1,?_⟩;rcases h.2 with h0 | ⟨g,cap,cur,rfl,h1,hg,rest⟩
 ·exact .inl h0
 ·exact .inr ⟨g,cap,cur,rfl,h1,(hk g cur rfl hg).trans hg,rest⟩
theorem X0a.keep(h:X0a k e w base v xs)(hk:∀i cs,v.ownBlock=some i->w.heap[i]? = some (.cells cs e (0,0))->w'.heap[i]? = w.heap[i]?):X0a k e w' base v xs:=by
 rcases h with h0 | ⟨g,m,rfl,h1,hm,hg⟩
 ·exact .inl h0
 ·exact .inr ⟨g,m,rfl,h1,hm,(hk g _ rfl hg).trans hg⟩
theorem O3a.below(h:O3a k e w base v xs)(hb:Below w.heap.size w w'):O3a k e w' base v xs:=h.keep λi _ _ hi=>hb.block i (Array.getElem?_eq_some_iff.1 hi).1
theorem X0a.below(h:X0a k e w base v xs)(hb:Below w.heap.size w w'):X0a k e w' base v xs:=h.keep λi _ _ hi=>hb.block i (Array.getElem?_eq_some_iff.1 hi).1
theorem O3a.alloc(h:O3a k e w base v xs)(o:Obj):O3a k e (w.alloc o) base v xs:=h.keep λ_ _ _ hi=>Below.heap_alloc _ _ _ (Array.getElem?_eq_some_iff.1 hi).1
theorem X0a.alloc(h:X0a k e w base v xs)(o:Obj):X0a k e (w.alloc o) base v xs:=h.keep λ_ _ _ hi=>Below.heap_alloc _ _ _ (Array.getElem?_eq_some_iff.1 hi).1
theorem O3a.iterAt(h:O3a k e w base v xs){K:Nat}{s:ByteArray}{p:Nat}(hK:w.heap[K]? = some (.stringIter s p))(p':Nat):O3a k e (w.iterAt K s p') base v xs:=h.keep λ_ _ _ hi=>Lib.iterAt_other w K _ s p' (λe=>by subst e;rw[hi] at hK;cases hK)
theorem X0a.iterAt(h:X0a k e w base v xs){K:Nat}{s:ByteArray}{p:Nat}(hK:w.heap[K]? = some (.stringIter s p))(p':Nat):X0a k e (w.iterAt K s p') base v xs:=h.keep λ_ _ _ hi=>Lib.iterAt_other w K _ s p' (λe=>by subst e;rw[hi] at hK;cases hK)
theorem O3a.block(h:O3a k e w base v xs){i:Nat}(hi:v.ownBlock=some i):base<=i/\∃cs,w.heap[i]? = some (.cells cs e (0,0)):=by
 rcases h.2 with⟨rfl,_⟩ | ⟨g,cap,cur,rfl,h1,hg,rest⟩
 ·cases hi
 ·simp only[Value.ownBlock,Option.some.injEq] at hi;subst hi;exact⟨h1,cur,hg⟩
theorem O3a.open(h:O3a k e w base v xs):∃A n c,v=.slice A n c/\xs.length=n/\n<=c/\n<=9223372036854775807/\(A=none->c=0)/\
  (0<n->∃g,A=some ⟨g,0,none⟩/\base<=g/\g<w.heap.size/\∀i,i<n->w.cell? ⟨g,i,none⟩=some (.int k (xs.getD i 0))):=by
 rcases h.2 with⟨rfl,h0⟩ | ⟨g,cap,cur,rfl,hb,hg,hnc,hcm,hcs,htk⟩
 ·exact⟨none,0,0,rfl,h0,Nat.le_refl _,by omega,λ_=>rfl,λh=>absurd h (by omega)⟩
 ·refine⟨_,_,_,rfl,rfl,hnc,by unfold maxLen at hcm;omega,λhA=>(by cases hA),λh0=>⟨g,rfl,hb,(Array.getElem?_eq_some_iff.1 hg).1,λi hi=>?_⟩⟩;rw[cell_of_row w g i cur e (0,0) hg];have e1:cur[i]? = (cur.toList.take (xs.length*1))[i]?:=by rw[List.getElem?_take,if_pos (by omega),Array.getElem?_toList]
  rw[e1,htk];simp[hi]
theorem r7b.below(hg:r7b w w' v)(h:O3a k e w base v xs)(hb:base<=w.heap.size):Below base w w':=by obtain⟨o,hg⟩:=hg;exact((Below.refl base w).alloc hb o).grown hg (by simp;omega) λi hi=>(h.block hi).1
theorem r7b.block(hg:r7b w w' v){i:Nat}{x:Obj}(hi:w.heap[i]? = some x)(hn:v.ownBlock≠some i):w'.heap[i]? = some x:=by obtain⟨o,hg⟩:=hg;have hlt:=(Array.getElem?_eq_some_iff.1 hi).1;rw[hg.block i (by simp;omega) (λe=>hn e.symm),Below.heap_alloc _ _ _ hlt,hi]
theorem r7b.iter(hg:r7b w w' v)(h:O3a k e w base v xs){K:Nat}{s:ByteArray}{p:Nat}(hK:w.heap[K]? = some (.stringIter s p)):w'.heap[K]? = some (.stringIter s p):=
 hg.block hK λhi=>by obtain⟨_,cs,hcs⟩:=h.block hi;rw[hcs] at hK;cases hK
theorem A3a(k:IntKind)(n:Nat):(Builtin.zeroCells (Value.int k 0).cells n)=(List.replicate n (Value.int k 0)).toArray:=by
 apply Array.ext
 ·simp[Builtin.zeroCells,Value.cells]
 ·intro i h1 h2;simp[Builtin.zeroCells,Value.cells,Nat.mod_one]
theorem A6a{P:Program}{ops:Array Oper}{rest:List Oper}{o:Oper}{a:Act}{Q:Exit->Act->World->Prop}(hg:o.guard=none)(k:IntKind)(T e:TypeId)(bytes:Nat)
(ht:P.underlying T=some (.slice e))(hi:(P.info? e).map (λi=>(i.zero,i.size,i.bytes))=some (some (.int k 0),1,bytes))
(l c:Operand)(hop:o.op=Op.makeSlice T l c)(C:Int)(n:Nat)(hl:a.eval l=.int .i64 0)(hc:a.eval c=.int .i64 C)(hC:C=(n:Int))(hb:n*bytes<=281474976710656)(hn:n<=maxLen)
(hK:∀w',Hid (X0a k e w' w.heap.size (.slice (some ⟨w.heap.size,0,none⟩) 0 n) [])->Below w.heap.size w w'->wpList P ops Q rest (a.put o.dst (.slice (some ⟨w.heap.size,0,none⟩) 0 n)) w') :
  wpList P ops Q (o::rest) a w:=by
 obtain⟨i0,hi0,hz0,hz1,hz2⟩:=info_parts hi;refine wpList_plain hg λK hK'=>?_
 have h63:(n:Int)<=9223372036854775807:=by have:=hn;rw[show maxLen=9223372036854775807 from rfl] at this;omega
 have hbb:(i0.bytes:Int)*(n:Int)<=281474976710656:=by
  have h:((i0.bytes*n:Nat):Int)<=281474976710656:=by rw[hz2,Nat.mul_comm];omega
  rwa [Int.natCast_mul] at h
 have hrun:=run_make (P:=P) w T e i0 (.int k 0) ht hi0 hz0 .i64 .i64 0 n (Int.le_refl _) (by omega) hbb h63;have o0a:madeCells (Value.int k 0).cells (n*i0.size)=(List.replicate n (Value.int k 0)).toArray:=by rw[hz1,Nat.mul_one];apply Array.toList_inj.1;rw[show(Value.int k 0).cells=#[Value.int k 0] from rfl,toList_madeCells_one]
 simp only[Int.toNat_zero,Int.toNat_natCast,o0a] at hrun;subst hC;unfold Oper.wp;simp[execOp,hop,hl,hc,hrun,Result.andThen];refine hK' _ _ (hK _ ?_ ((Below.refl _ _).alloc (Nat.le_refl _) _));exact .inr ⟨w.heap.size,n,by simp,Nat.le_refl _,by simpa using hn,by rw[List.nil_append,List.map_replicate];exact heap_alloc_new w _⟩
theorem N5a:maxLen=9223372036854775807:=rfl
end
section
variable {k:IntKind} {e:TypeId} {w:World} {base:Nat} {v:Value} {xs ys:List Int}
theorem v5a(k:IntKind)(e:TypeId)(w:World)(base:Nat)(zs:List Int)(old m:Nat)(hz:zs.length=m)(hb:base<=w.heap.size)(hm:m<=maxLen) :
  X0a k e (w.drew.alloc (.cells ((zs.map (Value.int k)).toArray++Builtin.zeroCells (Value.int k 0).cells (grownCap w m old e-m)) e)) base (.slice (some ⟨w.heap.size,0,none⟩) m (grownCap w m old e)) zs:=by
 have hge:=grownCap_ge w m old e;have hle:=grownCap_le_maxLen w m old e hm;refine .inr ⟨w.heap.size,grownCap w m old e-m,by rw[hz,show m+(grownCap w m old e-m)=grownCap w m old e by omega],hb,by omega,?_⟩;rw[A3a,List.map_append,List.map_replicate,<-List.append_toArray];exact heap_alloc_new w.drew _
theorem w8a{P:Program}{ops:Array Oper}{rest:List Oper}{o:Oper}{a:Act}{Q:Exit->Act->World->Prop}(hgd:o.guard=none)(s x:Operand)(k:IntKind)(T e:TypeId)(bytes:Nat)
(ht:P.underlying T=some (.slice e))(hi:(P.info? e).map (λi=>(i.zero,i.size,i.bytes))=some (some (.int k 0),1,bytes))
(ho:o.op=.call { callee:=.builtin .append,args:=#[s,x],argTypes:=#[T,T] })
(base:Nat)(v:Value)(xs ys:List Int)(cs:Array Value)(hcs:cs=(ys.map (Value.int k)).toArray)(m c:Nat)(hm:ys.length=m)(hm0:0<m)(hs:a.eval s=v)(hx:a.eval x=.slice (some ⟨w.heap.size,0,none⟩) m c)
(hown:X0a k e w base v xs)(hlen:(xs.length+m)*bytes<=140737488355328)(h63:xs.length+m<=9223372036854775807)(hbase:base<=w.heap.size)
(h:∀v' w',Hid (X0a k e w' base v' (xs++ys))->Hid (r7b w w' v)->wpList P ops Q rest (a.put o.dst v') w') :
  wpList P ops Q (o::rest) a (w.alloc (.cells cs e)):=by
 obtain⟨i0,hi0,hz0,hz1,hz2⟩:=info_parts hi;subst hcs;obtain⟨w1,hw1⟩:∃w1,w1=w.alloc (.cells (ys.map (Value.int k)).toArray e):=⟨_,rfl⟩;have hr:w1.heap[w.heap.size]? = some (.cells (ys.map (Value.int k)).toArray e (0,0)):=by rw[hw1];exact heap_alloc_new w _
 have hnews:∀j y,(ys.map (Value.int k))[j]? = some y->w1.cell? ((⟨w.heap.size,0,none⟩:Addr).add j)=some y:=by
  intro j y hj;have e1:(⟨w.heap.size,0,none⟩:Addr).add j=⟨w.heap.size,j,none⟩:=by
   by_cases hj0:j=0
   ·subst hj0;simp[Addr.add]
   ·simp[Addr.add,hj0]
  rw[e1,cell_of_row _ w.heap.size j _ e (0,0) hr,<-hj];simp
 have h1:∀y∈ys.map (Value.int k),y.oneCell'=true:=by intro v hv;obtain⟨x,_,rfl⟩:=List.mem_map.1 hv;rfl
 have hsz:w.heap.size<w1.heap.size:=(Array.getElem?_eq_some_iff.1 hr).1;have key:∀ty,∃v' w',(Builtin.append_ #[T,T] ty #[v,.slice (some ⟨w.heap.size,0,none⟩) m c]).run P w1=.ok v' w'/\X0a k e w' base v' (xs++ys)/\w1.grownBy w' v.ownBlock:=by
  intro ty;rcases hown with⟨rfl,rfl⟩ | ⟨g,z,rfl,hb,hz,hg⟩
  ·have hrun:=run_append_nil (P:=P) w1 T ty e i0 (.int k 0) ht hi0 hz0 ⟨w.heap.size,0,none⟩ m c (ys.map (Value.int k)) (by simp[hm,hz1]) hnews hm0 (by omega) (by rw[hz2];simp at hlen;omega);exact⟨_,_,hrun,by simpa using v5a k e w1 base ys 0 m hm (by omega) (by rw[N5a];simp at h63;omega),⟨rfl,rfl,rfl,by simp,λj hj _=>Below.heap_alloc w1.drew _ j hj⟩⟩
  ·have hg1:w1.heap[g]? = some (.cells ((xs++List.replicate z 0).map (Value.int k)).toArray e (0,0)):=by rw[hw1,Below.heap_alloc _ _ _ (Array.getElem?_eq_some_iff.1 hg).1,hg]
   by_cases hroom:xs.length+m<=xs.length+z
   ·have hrun:=run_append_room (P:=P) w1 T ty e i0 ht hi0 g xs.length (xs.length+z) _ hg1 ⟨w.heap.size,0,none⟩ m c (ys.map (Value.int k)) (by simp[hm,hz1]) hnews h1 hroom (by simp[hz1];omega);refine⟨_,_,hrun,.inr ⟨g,z-m,by simp[hm];omega,hb,by simp;omega,?_⟩,⟨rfl,rfl,rfl,by simp,λj _ hj=>setRow_other w1 g j _ (λe=>hj (by simp[Value.ownBlock,e]))⟩⟩;rw[setRow_heap w1 g _ _ e _ hg1]
    congr 2
    have e1:((xs++List.replicate z 0).map (Value.int k)).take (xs.length*i0.size)=xs.map (Value.int k):=by rw[hz1,Nat.mul_one,List.map_append,List.take_left' (by simp)]
    have e2:((xs++List.replicate z 0).map (Value.int k)).drop (xs.length*i0.size+(ys.map (Value.int k)).length)=(List.replicate (z-m) 0).map (Value.int k):=by rw[hz1,Nat.mul_one,List.length_map,hm,<-List.drop_drop,List.map_append,List.drop_left' (by simp),<-List.map_drop,List.drop_replicate]
    rw[e1,e2];simp
   ·have o0a:∀j y,(xs.map (Value.int k))[j]? = some y->w1.cell? ((⟨g,0,none⟩:Addr).add j)=some y:=by
     intro j y hj;have hjl:j<xs.length:=by
      rcases Nat.lt_or_ge j xs.length with h | h
      ·exact h
      ·rw[List.getElem?_eq_none (by simpa using h)] at hj;cases hj
     have e1:(⟨g,0,none⟩:Addr).add j=⟨g,j,none⟩:=by
      by_cases hj0:j=0
      ·subst hj0;simp[Addr.add]
      ·simp[Addr.add,hj0]
     rw[e1,cell_of_row _ g j _ e (0,0) hg1,<-hj];simp[hjl,List.getElem?_append]
    have hrun:=run_append_grow (P:=P) w1 T ty e i0 (.int k 0) ht hi0 hz0 ⟨g,0,none⟩ xs.length (xs.length+z) (xs.map (Value.int k)) (by simp[hz1]) o0a ⟨w.heap.size,0,none⟩ m c (ys.map (Value.int k)) (by simp[hm,hz1]) hnews (by omega) (by omega) (growslice_fits (by omega) (by rw[hz2];exact hlen));refine⟨_,_,hrun,?_,⟨rfl,rfl,rfl,by simp,λj hj _=>Below.heap_alloc w1.drew _ j hj⟩⟩;have:=v5a k e w1 base (xs++ys) (xs.length+z) (xs.length+m) (by simp[hm]) (by omega) (by rw[N5a];omega);simpa using this
 refine wpList_plain hgd λK hK'=>?_
 obtain⟨v',w',hrun,h2,h3⟩:=key o.type;rw[<-hw1];unfold Oper.wp execOp;simp only[ho,resolve,invoke,builtin,Sem.run_bind,Sem.run_pure,Result.andThen_ok,List.map_toArray,List.map_cons,List.map_nil,hs,hx,hrun];exact hK' _ _ (h v' w' h2 ⟨_,by rw[<-hw1];exact h3⟩)
theorem O3a.lit(k:IntKind)(e:TypeId)(w:World)(xs:List Int)(cs:Array Value)(n:Nat)(hcs:cs=(xs.map (Value.int k)).toArray)(hn:xs.length=n)(hm:n<=maxLen) :
  O3a k e (w.alloc (.cells cs e)) w.heap.size (.slice (some ⟨w.heap.size,0,none⟩) n n) xs:=by
 subst hcs;subst hn;exact⟨by simp,.inr ⟨w.heap.size,_,_,rfl,Nat.le_refl _,heap_alloc_new w _,Nat.le_refl _,hm,by simp,List.take_of_length_le (by simp)⟩⟩
theorem V1b{P:Program}{src e:TypeId}(hs:P.underlying src=some (.slice e))(he:P.underlying e=some (.int .u8))(h:O3a .u8 e w base v xs) :
  ∀dst,P.underlying dst=some .string->(convert src dst v).run P w=.ok (.string (strOfNums xs)) w:=by
 intro dst hd;obtain⟨A,n,c,rfl,hl,_,_,hA,hc⟩:=h.open;by_cases h0:0<n
 ·obtain⟨g,rfl,_,_,hc⟩:=hc h0;exact run_convert_bytes_arg w src e hs he g 0 n c xs hl (λi hi=>by rw[Nat.zero_add];exact hc i hi) dst hd
 ·obtain rfl:n=0:=by omega
  obtain rfl:xs=[]:=List.eq_nil_of_length_eq_zero hl;rcases h.2 with⟨h1,_⟩ | ⟨g,cap,cur,h1,_⟩
  ·cases h1;exact run_convert_bytes_nil w src e hs he 0 0 dst hd
  ·cases h1;exact run_convert_bytes_arg w src e hs he g 0 0 c [] rfl (λi hi=>absurd hi (by omega)) dst hd
end
end Go.Proofs.YtgfflnjggnadpaaGreatDoor
namespace Go.Proofs
open Go.Shelf
open Go.RowKit in
def Tryz.lays242_ren:Go.Shelf.Ren:=⟨fun | 242=>189 | 278=>195 | n=>n,fun | 37=>31 | 21=>21 | 51=>23 | 4=>4 | 5=>5 | 46=>130 | n=>n,fun | n=>n⟩
theorem Tryz.lays242:Go.Proofs.Lays.n242 Tryz.prog Tryz.lays242_ren:={
 mixed:=by kernel_rfl
 f242:=Tryz.func189.trans (congrArg some (by kernel_rfl))
 f278:=Tryz.func195.trans (congrArg some (by kernel_rfl))
 t4:=Tryz.underlying4
 a4:=Tryz.isAgg4
 z4:=Tryz.sizeOf4
 v4:=Tryz.zeroValue4
 t5:=Tryz.underlying5
 a5:=Tryz.isAgg5
 z5:=Tryz.sizeOf5
 v5:=Tryz.zeroValue5
 t21:=Tryz.underlying21
 a21:=Tryz.isAgg21
 z21:=Tryz.sizeOf21
 v21:=Tryz.zeroValue21
 t37:=Tryz.underlying31
 a37:=Tryz.isAgg31
 z37:=Tryz.sizeOf31
 v37:=Tryz.zeroValue31
 t46:=Tryz.underlying130
 a46:=Tryz.isAgg130
 z46:=Tryz.sizeOf130
 v46:=Tryz.zeroValue130
 t51:=Tryz.underlying23
 a51:=Tryz.isAgg23
 z51:=Tryz.sizeOf23
 v51:=Tryz.zeroValue23 }
open Go.RowKit in
theorem Tryz.utf8_AppendRune_plain(B:Nat)(v:Value)(n:Nat)(xs:List Value)(r:Int)(hr0:-2147483648<=r)(hr1:r<=2147483647)(w:World)(hown:w.ownsRow B 5 1 v n xs)(hlen:n+4<=140737488355328)(hBw:B<=w.heap.size) :
  Calls Tryz.prog 189 #[v,.int .i32 r] w λe w'=>∃v',e=.returned v'/\w'.ownsRow B 5 1 v' (n+(Lib.runeCells r).length) (xs++Lib.runeCells r)/\∃o,(w.alloc o).grownBy w' v.ownBlock:=Any.utf8_AppendRune_plain Tryz.lays242 (by kernel_rfl) B v n xs r hr0 hr1 w hown hlen hBw
open Go.Proofs Go.RowKit Go.Lib in
def Tryz.laysnb142_ren:Go.Shelf.Ren:=⟨fun | 142=>62 | 117=>103 | 115=>60 | n=>n,fun | 37=>31 | 4=>4 | 3=>3 | 9=>9 | 5=>5 | n=>n,fun | n=>n⟩
theorem Tryz.laysnb142:Go.Proofs.Lays.nb142 Tryz.prog Tryz.laysnb142_ren:={
 mixed:=by kernel_rfl
 f115:=Tryz.func60.trans (congrArg some (by kernel_rfl))
 f117:=Tryz.func103.trans (congrArg some (by kernel_rfl))
 f142:=Tryz.func62.trans (congrArg some (by kernel_rfl))
 t3:=Tryz.underlying3
 a3:=Tryz.isAgg3
 z3:=Tryz.sizeOf3
 v3:=Tryz.zeroValue3
 t4:=Tryz.underlying4
 a4:=Tryz.isAgg4
 z4:=Tryz.sizeOf4
 v4:=Tryz.zeroValue4
 t9:=Tryz.underlying9
 a9:=Tryz.isAgg9
 z9:=Tryz.sizeOf9
 v9:=Tryz.zeroValue9
 t37:=Tryz.underlying31
 a37:=Tryz.isAgg31
 z37:=Tryz.sizeOf31
 v37:=Tryz.zeroValue31
 t5:=Tryz.underlying5
 a5:=Tryz.isAgg5
 z5:=Tryz.sizeOf5
 v5:=Tryz.zeroValue5 }
theorem Tryz.bytes_CutSuffix_all(p1 p2:Option Addr)(n c m d:Nat)(xs ys:List Int)(w:World)(hx:xs.length=n)(hy:ys.length=m)(hnc:n<=c)(hbig:n<=9223372036854775807)(h1:Lib.BytesIn w p1 n xs)(h2:Lib.BytesIn w p2 m ys) :
  Calls Tryz.prog 62 #[.slice p1 n c,.slice p2 m d] w λe w'=>e=.returned (.tuple #[Lib.trimSuffixV p1 n c xs ys,.bool (Lib.hasSuffix (Lib.bytesOf xs) (Lib.bytesOf ys))])/\w'=w:=Any.bytes_CutSuffix_all Tryz.laysnb142 p1 p2 n c m d xs ys w hx hy hnc hbig h1 h2
def Tryz.lays196_ren:Go.Shelf.Ren:=⟨fun | 196=>187 | 259=>193 | n=>n,fun | 9=>9 | 4=>4 | 3=>3 | 5=>5 | 12=>12 | 119=>225 | 0=>0 | 46=>130 | 139=>228 | 138=>227 | 53=>25 | n=>n,fun | 3=>0 | 4=>1 | n=>n⟩
theorem Tryz.lays196:Go.Proofs.Lays.n196 Tryz.prog Tryz.lays196_ren:={
 mixed:=by kernel_rfl
 f196:=Tryz.func187.trans (congrArg some (by kernel_rfl))
 f259:=Tryz.func193.trans (congrArg some (by kernel_rfl))
 t0:=Tryz.underlying0
 a0:=Tryz.isAgg0
 z0:=Tryz.sizeOf0
 v0:=Tryz.zeroValue0
 t3:=Tryz.underlying3
 a3:=Tryz.isAgg3
 z3:=Tryz.sizeOf3
 v3:=Tryz.zeroValue3
 t4:=Tryz.underlying4
 a4:=Tryz.isAgg4
 z4:=Tryz.sizeOf4
 v4:=Tryz.zeroValue4
 t5:=Tryz.underlying5
 a5:=Tryz.isAgg5
 z5:=Tryz.sizeOf5
 v5:=Tryz.zeroValue5
 t9:=Tryz.underlying9
 a9:=Tryz.isAgg9
 z9:=Tryz.sizeOf9
 v9:=Tryz.zeroValue9
 t12:=Tryz.underlying12
 a12:=Tryz.isAgg12
 z12:=Tryz.sizeOf12
 v12:=Tryz.zeroValue12
 t46:=Tryz.underlying130
 a46:=Tryz.isAgg130
 z46:=Tryz.sizeOf130
 v46:=Tryz.zeroValue130
 t53:=Tryz.underlying25
 a53:=Tryz.isAgg25
 z53:=Tryz.sizeOf25
 v53:=Tryz.zeroValue25
 t119:=Tryz.underlying225
 a119:=Tryz.isAgg225
 z119:=Tryz.sizeOf225
 t138:=Tryz.underlying227
 a138:=Tryz.isAgg227
 z138:=Tryz.sizeOf227
 v138:=Tryz.zeroValue227
 t139:=Tryz.underlying228
 a139:=Tryz.isAgg228
 z139:=Tryz.sizeOf228
 v139:=Tryz.zeroValue228
 g3:=by kernel_rfl
 g4:=by kernel_rfl }
open Go.RowKit Go.Lib in
theorem Tryz.utf8_ValidString(s:ByteArray)(w:World)(hs:s.size<=9223372036854775807)(hT:Lib.Utf8Tabs (Tryz.lays196_ren.g 3) (Tryz.lays196_ren.g 4) w) :
  Calls Tryz.prog 187 #[.string s] w λe w'=>e=.returned (.bool (Lib.validD s.data.toList))/\Below w.heap.size w w':=Any.utf8_ValidString Tryz.lays196 s w hs hT
end Go.Proofs
namespace Go.Proofs.YtgfflnjggnadpaaGreatDoor
open Go.RowKit
theorem N4b(x:Int)(h0:0<=x)(h1:x<=2147483647):bits .and .i32 x 1023=x%1024:=by
 obtain⟨n,rfl⟩:=Int.eq_ofNat_of_zero_le h0;have e1:(BitVec.ofInt 32 (1023:Int)).toNat=2^10-1:=by decide
 have e2:(BitVec.ofInt 32 (n:Int)).toNat=n:=by rw[BitVec.toNat_ofInt];omega
 show IntKind.i32.wrap ((BitVec.ofInt 32 (n:Int) &&& BitVec.ofInt 32 1023).toNat:Int)=_
 rw[BitVec.toNat_and,e1,e2,Nat.and_two_pow_sub_one_eq_mod];simp[IntKind.wrap,IntKind.bits,IntKind.signed];omega
theorem O0b(x:Int)(h0:0<=x)(h1:x<=18446744073709551615):bits .and .u64 x 1023=x%1024:=by obtain⟨n,rfl⟩:=Int.eq_ofNat_of_zero_le h0;have h:=u64_and_nat n 1023 (by omega) (by omega);have h2:n &&& 1023=n%1024:=Nat.and_two_pow_sub_one_eq_mod n 10;rw[h2] at h;exact h
theorem Y2b(x y:Int)(h0:0<=x)(h1:x<1024)(h2:0<=y)(h3:y<1024):bits .or .u64 (x*1024) y=x*1024+y:=by obtain⟨a,rfl⟩:=Int.eq_ofNat_of_zero_le h0;obtain⟨b,rfl⟩:=Int.eq_ofNat_of_zero_le h2;have:=u64_or_nat (a*1024) b (by omega) (by omega);rw[nat_join 10 (a*1024) b (by omega) (by omega)] at this;rw[show((a:Int)*1024)=((a*1024:Nat):Int) by omega,this];omega
theorem l9a(w:World)(u f:Int)(hu:0<=u/\u<=18446744073709551615)(hf:0<=f/\f<=18446744073709551615) :
  Calls Tryz.prog 194 #[.int .u64 u,.int .u64 f] w λe w'=>e=.returned (.bool (u/1024==f/1024))/\w=w':=by
 obtain⟨hu0,hu1⟩:=hu;obtain⟨hf0,hf1⟩:=hf;go_enter Tryz.func194,Tryz.ntmps194;go_wp2;go_ret;exact⟨rfl,rfl⟩
theorem F5a(w:World)(base:Nat)(v:Value)(xs:List Int)(u:Int)(hu:0<=u/\u<=65535)(h:X0a .u8 5 w base v xs)(hl:xs.length<=70368744177664)(hb:base<=w.heap.size) :
  Calls Tryz.prog 179 #[v,.int .i32 u] w λe w'=>∃v',e=.returned v'/\X0a .u8 5 w' base v' (xs++[u%256,u/256])/\r7b w w' v:=by
 obtain⟨hu0,hu1⟩:=hu;have H:=hI h;clear h;go_enter Tryz.func179,Tryz.ntmps179;go_wp2_with(at_builtin;go_loud (refine w8a rfl (.tmp 5) (.tmp 11) .u8 31 5 1 Tryz.underlying31 N3a rfl base v xs [u%256,u/256] _ rfl 2 2 rfl (by omega) rfl rfl H.out (by omega) (by omega) hb ?_;intro v1 w1 ho1 hg1));go_ret;exact⟨_,rfl,ho1.out,hg1.out⟩
def V7a(w:World):Prop:=Lib.Utf8Tabs 0 1 w
theorem V7a.below{w w':World}(h:V7a w)(hb:Below w.heap.size w w'):V7a w':=Utf8Tabs_below h hb
theorem F7b(s:ByteArray)(w:World)(hs:s.size<=9223372036854775807)(hT:V7a w) :
  Calls Tryz.prog 187 #[.string s] w λe w'=>e=.returned (.bool (H3a s.data.toList))/\Below w.heap.size w w':=by
 have:=Tryz.utf8_ValidString s w hs hT
 rwa [W2b] at this
theorem G7b(s:ByteArray)(w:World)(hs:s.size<=140737488355328)(hT:V7a w) :
  Calls Tryz.prog 178 #[.string s] w λe w'=>e=.returned (.tuple #[.int .i64 (R4a s.data.toList),.int .i64 (q3a s.data.toList)])/\Below w.heap.size w w':=by
 have cV:=F7b s w (by omega) hT;by_cases ht:H3a s.data.toList=true
 ·have e1:R4a s.data.toList=z2a (E1a s.data.toList):=if_pos ht;have e2:q3a s.data.toList=0:=if_pos ht;obtain⟨U,hU⟩:∃U,U=z2a (E1a s.data.toList):=⟨_,rfl⟩;rw[ht] at cV;rw[e1,e2,<-hU];have HU:=hI hU;have CV:=hI cV;have HT:=hI ht;clear e1 e2 hU cV ht;go_enter Tryz.func178,Tryz.ntmps178;go_wp2_with fail;refine CV.out.mono ?_;rintro e w1 ⟨rfl,hb1⟩;clear CV;go_wp2;go_loopw [4,6] (λn _ wr=>∃(pos k:Nat),n=.int .i64 k/\wr.heap[w1.heap.size]? = some (.stringIter s pos)/\Below w.heap.size w wr/\Hid (k+z2a (E1a (s.data.toList.drop pos))=U)/\Hid (H3a (s.data.toList.drop pos)=true)/\k<=2*pos/\pos<=s.size) (λ_ _ wr=>s.size-wr.iterPos w1.heap.size)
  case atStart=>
   refine⟨0,0,rfl,World.iter_heap w1 s 0,hb1.alloc hb1.size _,?_,HT,by omega,by omega⟩;show _=_
   rw[HU.out,List.drop_zero,Nat.zero_add]
  case round=>
   obtain⟨pos,k,rfl,hit,hb,HE,HX,hk,hps⟩:=hrel;have hK:w1.heap.size<wr.heap.size:=(Array.getElem?_eq_some_iff.1 hit).1;have hb1s:=hb1.size;by_cases hp:pos<s.size
   ·have hnx:∀ty,(Instr.next (.pointer (some ⟨w1.heap.size,0,none⟩)) true ty).run Tryz.prog wr=_:=λty=>Lib.run_next_any_at wr w1.heap.size s pos ty hit hp
    obtain⟨n1,n2,n3⟩:=K5b s pos hp;obtain⟨m1,m2,m3⟩:=I3b s pos hp HX.out;obtain⟨R,hR⟩:∃R:Int,R=((Utf8.decode s pos).1:Int):=⟨_,rfl⟩;obtain⟨p',hp'⟩:∃p',p'=pos+(Utf8.decode s pos).2:=⟨_,rfl⟩;rw[<-hp'] at hnx n1 n3 m1 m2;rw[<-hR] at hnx m1 m3;have hit2:=Lib.iterAt_heap wr w1.heap.size s pos p' hit;have hb2:=Lib.below_iterAt hb (k:=w1.heap.size) hb1s s p';have hpp:pos<p':=by omega
    have HN:=hI m1;have HX':=hI m2;have HI:=hI hit2;obtain⟨r0,r1,r2⟩:=m3;have hit0:=hit;clear n1 n2 m1 m2 hR hp' hit hit2;by_cases hlt:R<65536
    ·go_wp2;go_roundw
     case rel=>
      refine⟨p',k+1,by go_num,HI.out,hb2,?_,HX',by omega,n3⟩;show _=_
      have:=HE.out;rw[HN.out,z2a,if_pos hlt] at this;omega
     case measure=>have:=HI.out;simp only[World.iterPos,hit0,this];omega
    ·go_wp2;go_roundw
     case rel=>
      refine⟨p',k+2,by go_num,HI.out,hb2,?_,HX',by omega,n3⟩;show _=_
      have:=HE.out;rw[HN.out,z2a,if_neg hlt] at this;omega
     case measure=>have:=HI.out;simp only[World.iterPos,hit0,this];omega
   ·have hnx:∀ty,(Instr.next (.pointer (some ⟨w1.heap.size,0,none⟩)) true ty).run Tryz.prog wr=_:=λty=>Lib.run_next_end_at wr w1.heap.size s pos ty hit hp
    have e:k=U:=by have:=HE.out;rw[L5b s pos hp] at this;exact this
    subst e;go_wp2;go_ret2;exact⟨rfl,hb⟩
 ·have ht':H3a s.data.toList=false:=by simpa using ht
  have e1:R4a s.data.toList=0:=if_neg ht;have e2:q3a s.data.toList=5:=if_neg ht;rw[ht'] at cV;rw[e1,e2];have CV:=hI cV;clear e1 e2 cV ht ht';go_enter Tryz.func178,Tryz.ntmps178;go_wp2_with fail;refine CV.out.mono ?_;rintro e w1 ⟨rfl,hb1⟩;go_wp2;go_ret2;exact⟨rfl,hb1⟩
def Z2b(w:World)(l:List UInt8)(e:Ending)(w':World):Prop:=∃v,e=.returned (.tuple #[v,.int .i64 (q3a l)])/\X0a .u8 5 w' w.heap.size v (S1a l)/\Below w.heap.size w w'
theorem E9b(s:ByteArray)(w:World)(hs:s.size<=17592186044416)(hT:V7a w) :
  Calls Tryz.prog 161 #[.string s] w (Z2b w s.data.toList):=by
 have cU:=G7b s w (by omega) hT;have hq:∀e w',(∃v,e=.returned (.tuple #[v,.int .i64 (q3a s.data.toList)])/\X0a .u8 5 w' w.heap.size v (S1a s.data.toList)/\Below w.heap.size w w')->Z2b w s.data.toList e w':=λ_ _ h=>h
 by_cases ht:H3a s.data.toList=true
 ·have e1:R4a s.data.toList=z2a (E1a s.data.toList):=if_pos ht;have e2:q3a s.data.toList=0:=if_pos ht;have e3:S1a s.data.toList=f2a (E1a s.data.toList):=if_pos ht;have hle:=N0b s.data.toList;rw[<-Lib.size_eq] at hle;obtain⟨U,hU⟩:∃U,U=z2a (E1a s.data.toList):=⟨_,rfl⟩;have hl2:=b5a (E1a s.data.toList);obtain⟨Z,hZ⟩:∃Z,Z=f2a (E1a s.data.toList):=⟨_,rfl⟩;rw[e1,e2,<-hU] at cU;rw[e1,<-hU] at hle;rw[e2,e3,<-hZ] at hq;rw[<-hZ,<-hU] at hl2;have HQ:=hI hq;have HZ:=hI hZ;have CU:=hI cU;have HT:=hI ht;have HL2:=hI hl2;clear e1 e2 e3 hU cU ht hq hZ hl2;go_enter Tryz.func161,Tryz.ntmps161;go_wp2_with fail;refine CU.out.mono ?_;rintro e w1 ⟨rfl,hb1⟩;clear CU;go_wp2_with(at_make;refine A6a rfl .u8 31 5 1 Tryz.underlying31 N3a _ _ rfl _ (2*U) rfl rfl (by omega) (by omega) (by rw[N5a];omega) ?_;intro w2 ho2 hb2);have hs1:=hb1.size;have hs2:=hb2.size;go_loopw [6,8] (λv _ wr=>∃(pos:Nat) (zs:List Int),Hid (X0a .u8 5 wr w1.heap.size v zs)/\wr.heap[w2.heap.size]? = some (.stringIter s pos)/\Below w.heap.size w wr/\Hid (zs++f2a (E1a (s.data.toList.drop pos))=Z)/\Hid (H3a (s.data.toList.drop pos)=true)/\zs.length<=4*pos/\pos<=s.size) (λ_ _ wr=>s.size-wr.iterPos w2.heap.size)
  case atStart=>
   refine⟨0,[],ho2.out.alloc _,World.iter_heap w2 s 0,(hb1.trans (hb2.mono hs1)).alloc (by omega) _,?_,HT,by simp,by omega⟩;show _=_
   rw[HZ.out,List.drop_zero,List.nil_append]
  case round=>
   obtain⟨pos,zs,HO,hit,hb,HE,HX,hzl,hps⟩:=hrel;have hK:w2.heap.size<wr.heap.size:=(Array.getElem?_eq_some_iff.1 hit).1;by_cases hp:pos<s.size
   ·have hnx:∀ty,(Instr.next (.pointer (some ⟨w2.heap.size,0,none⟩)) true ty).run Tryz.prog wr=_:=λty=>Lib.run_next_any_at wr w2.heap.size s pos ty hit hp
    obtain⟨n1,n2,n3⟩:=K5b s pos hp;obtain⟨m1,m2,m3⟩:=I3b s pos hp HX.out;obtain⟨R,hR⟩:∃R:Int,R=((Utf8.decode s pos).1:Int):=⟨_,rfl⟩;obtain⟨p',hp'⟩:∃p',p'=pos+(Utf8.decode s pos).2:=⟨_,rfl⟩;rw[<-hp'] at hnx n1 n3 m1 m2;rw[<-hR] at hnx m1 m3;have hit2:=Lib.iterAt_heap wr w2.heap.size s pos p' hit;have hb3:=Lib.below_iterAt hb (k:=w2.heap.size) (by omega) s p';have HO3:Hid (X0a .u8 5 (wr.iterAt w2.heap.size s p') w1.heap.size _ zs):=HO.out.iterAt hit p';have hs3:=Lib.iterAt_size wr w2.heap.size s p';obtain⟨w3,hw3⟩:∃w3,w3=wr.iterAt w2.heap.size s p':=⟨_,rfl⟩;rw[<-hw3] at hnx hit2 hb3 HO3 hs3;have hpp:pos<p':=by omega
    have HN:=hI m1;have HX':=hI m2;obtain⟨r0,r1,r2⟩:=m3;have HI0:=hI hit;have HI:=hI hit2;have HS3:=hI hs3;clear n1 n2 m1 m2 hR hp' hit hit2 hw3 hs3;by_cases hlt:R<65536
    ·have c1:=hI (F5a w3 w1.heap.size _ zs R (by omega) HO3.out (by omega) (by have:=HS3.out;omega));go_wp2_with fail;refine c1.out.mono ?_;rintro e w4 ⟨v4,rfl,ho4,hg4⟩;have hb4:=hg4.below HO3.out.own (by have:=HS3.out;omega);have HI4:=hI (hg4.iter HO3.out.own HI.out);have HO4:=hI ho4;clear ho4 hg4 c1;go_wp2;go_roundw
     case rel=>
      refine⟨p',_,HO4,HI4.out,hb3.trans (hb4.mono hs1),?_,HX',by simp;omega,n3⟩;show _=_
      have:=HE.out;rw[HN.out,f2a,List.flatMap_cons,p2a,if_pos hlt,<-List.append_assoc] at this;exact this
     case measure=>have h1:=HI4.out;have h0:=HI0.out;simp only[World.iterPos,h0,h1];omega
    ·have hbit:=N4b (R-65536) (by omega) (by omega);have c1:=hI (F5a w3 w1.heap.size _ zs (55296+(R-65536)/1024) (by omega) HO3.out (by omega) (by have:=HS3.out;omega));go_wp2_with fail;refine c1.out.mono ?_;rintro e w4 ⟨v4,rfl,ho4,hg4⟩;have hb4:=hg4.below HO3.out.own (by have:=HS3.out;omega);have hs4:w3.heap.size<=w4.heap.size:=hb4.size;have HI4:=hI (hg4.iter HO3.out.own HI.out);have HO4:=hI ho4;clear ho4 hg4 c1;have c2:=hI (F5a w4 w1.heap.size _ _ (56320+(R-65536)%1024) (by omega) HO4.out (by simp;omega) (by have:=HS3.out;omega));go_wp2_with fail;refine c2.out.mono ?_;rintro e w5 ⟨v5,rfl,ho5,hg5⟩;have hb5:=hg5.below HO4.out.own (by have:=HS3.out;omega);have HI5:=hI (hg5.iter HO4.out.own HI4.out);have HO5:=hI ho5;clear ho5 hg5 c2;go_wp2;go_roundw
     case rel=>
      refine⟨p',_,HO5,HI5.out,hb3.trans ((hb4.trans hb5).mono hs1),?_,HX',by simp;omega,n3⟩;show _=_
      have:=HE.out;rw[HN.out,f2a,List.flatMap_cons,p2a,if_neg (by omega)] at this;rw[<-this];simp[f2a]
     case measure=>have h1:=HI5.out;have h0:=HI0.out;simp only[World.iterPos,h0,h1];omega
   ·have hnx:∀ty,(Instr.next (.pointer (some ⟨w2.heap.size,0,none⟩)) true ty).run Tryz.prog wr=_:=λty=>Lib.run_next_end_at wr w2.heap.size s pos ty hit hp
    have HEE:Hid (zs=Z):=by have:=HE.out;rw[L5b s pos hp,f2a,List.flatMap_nil,List.append_nil] at this;exact this
    clear HE;go_wp2;go_ret2;refine HQ.out _ _ ⟨_,rfl,?_,hb⟩;rw[<-HEE.out];exact HO.out.mono hs1
 ·have ht':H3a s.data.toList=false:=by simpa using ht
  have e1:R4a s.data.toList=0:=if_neg ht;have e2:q3a s.data.toList=5:=if_neg ht;have e3:S1a s.data.toList=[]:=if_neg ht;rw[e1,e2] at cU;rw[e2,e3] at hq;have HQ:=hI hq;have CU:=hI cU;clear e1 e2 e3 cU ht ht' hq;go_enter Tryz.func161,Tryz.ntmps161;go_wp2_with fail;refine CU.out.mono ?_;rintro e w1 ⟨rfl,hb1⟩;go_wp2;go_ret2;exact HQ.out _ _ ⟨_,rfl,X0a.nil _ _ _ _,hb1⟩
set_option maxRecDepth 100000
theorem t0b(w:World)(B:Nat)(A:Option Addr)(n c:Nat)(xs:List Int)(a m:Int)(h:Holds w B A n c xs)
(ha:-9223372036854775808<=a/\a<=9223372036854775807)(hm:-9223372036854775808<=m/\m<=9223372036854775807) :
  Calls Tryz.prog 101 #[.slice A n c,.int .i64 a,.int .i64 m] w λe w'=>∃A',e=.returned (.tuple #[.slice A' (partOf xs a m).length (partOf xs a m).length,.int .i64 (R0a n a m)])/\
   Holds w B A' (partOf xs a m).length (partOf xs a m).length (partOf xs a m)/\w=w':=by
 have hl:=h.len;have hf:=h.fit;have hr:=h.room;by_cases h1:a<0
 ·have e1:R0a n a m=2:=by simp[R0a,h1]
  have e2:partOf xs a m=[]:=by unfold partOf;rw[hl,e1];rfl
  rw[e1,e2];clear e1 e2 hl;go_enter Tryz.func101,Tryz.ntmps101;go_wp2;go_ret2;exact⟨_,rfl,Holds.nil _ _,rfl⟩
 ·by_cases h2:(n:Int)<a
  ·have e1:R0a n a m=2:=by simp[R0a,h2]
   have e2:partOf xs a m=[]:=by unfold partOf;rw[hl,e1];rfl
   rw[e1,e2];clear e1 e2 hl;go_enter Tryz.func101,Tryz.ntmps101;go_wp2;go_ret2;exact⟨_,rfl,Holds.nil _ _,rfl⟩
  ·by_cases h3:m<0
   ·have e1:R0a n a m=2:=by simp[R0a,h3]
    have e2:partOf xs a m=[]:=by unfold partOf;rw[hl,e1];rfl
    rw[e1,e2];clear e1 e2 hl;go_enter Tryz.func101,Tryz.ntmps101;go_wp2;go_ret2;exact⟨_,rfl,Holds.nil _ _,rfl⟩
   ·by_cases h4:(n:Int)-a<m
    ·have e1:R0a n a m=4:=by unfold R0a;rw[if_neg (by omega),if_pos h4]
     have e2:partOf xs a m=[]:=by unfold partOf;rw[hl,e1];rfl
     rw[e1,e2];clear e1 e2 hl;go_enter Tryz.func101,Tryz.ntmps101;go_wp2;go_ret2;exact⟨_,rfl,Holds.nil _ _,rfl⟩
    ·have e1:R0a n a m=0:=by unfold R0a;rw[if_neg (by omega),if_neg h4]
     have e2:partOf xs a m=(xs.drop a.toNat).take m.toNat:=by unfold partOf;rw[hl,e1];rfl
     obtain⟨k,rfl⟩:=Int.eq_ofNat_of_zero_le (show 0<=a by omega);obtain⟨j,rfl⟩:=Int.eq_ofNat_of_zero_le (show 0<=m by omega);simp only[Int.toNat_natCast] at e2;have e3:((xs.drop k).take j).length=j:=by simp;omega
     by_cases hj:j=0
     ·subst hj;rw[e1,e2,e3];clear e1 e2 e3 hl;go_enter Tryz.func101,Tryz.ntmps101;go_wp2;go_ret2;exact⟨_,rfl,Holds.empty _ _ _ _ (λ_=>rfl),rfl⟩
     ·have hc:=h.cut (k:=k) (m:=j) (by omega) (by omega);rw[e1,e2,e3];clear e1 e2 e3 hl;go_enter Tryz.func101,Tryz.ntmps101;go_wp2;go_ret2;exact⟨_,rfl,hc,rfl⟩
theorem u0b(n:Int)(s:Nat)(M:Int)(hs:j3a s=true)(hM:(256:Int)^s=M)(h0:0<=n)(hp:0<M):(n/M==0)=A4a n s:=by
 unfold A4a;rw[hs,Int.toNat_natCast,hM,Bool.true_and,Bool.eq_iff_iff];simp only[beq_iff_eq,decide_eq_true_eq];constructor
 ·intro h;have:=Int.lt_mul_ediv_self_add (x:=n) hp;rw[h] at this;omega
 ·intro h;exact Int.ediv_eq_zero_of_lt h0 h
theorem r6b{n s:Int}(h1:¬s=1)(h2:¬s=2)(h4:¬s=4)(h8:¬s=8):A4a n s=false:=by simp[A4a,j3a,h1,h2,h4,h8]
theorem x8a(w:World)(n s:Int)(hn:0<=n/\n<=18446744073709551615)(hs:-9223372036854775808<=s/\s<=9223372036854775807) :
  Calls Tryz.prog 79 #[.int .u64 n,.int .i64 s] w λe w'=>e=.returned (.bool (A4a n s))/\w=w':=by
 obtain⟨hn0,hn1⟩:=hn;by_cases h1:s=1
 ·subst h1;go_enter Tryz.func79,Tryz.ntmps79;go_wp2;go_ret;exact⟨K0a (u0b n 1 256 rfl rfl hn0 (by omega)),rfl⟩
 by_cases h2:s=2
 ·subst h2;go_enter Tryz.func79,Tryz.ntmps79;go_wp2;go_ret;exact⟨K0a (u0b n 2 65536 rfl rfl hn0 (by omega)),rfl⟩
 by_cases h4:s=4
 ·subst h4;go_enter Tryz.func79,Tryz.ntmps79;go_wp2;go_ret;exact⟨K0a (u0b n 4 4294967296 rfl rfl hn0 (by omega)),rfl⟩
 by_cases h8:s=8
 ·subst h8;go_enter Tryz.func79,Tryz.ntmps79;go_wp2;go_ret;exact⟨K0a (u0b n 8 18446744073709551616 rfl rfl hn0 (by omega)),rfl⟩
 ·have e:=r6b (n:=n) h1 h2 h4 h8;rw[e];clear e;go_enter Tryz.func79,Tryz.ntmps79;go_wp2;go_ret;exact⟨rfl,rfl⟩
theorem O4b(k:Nat):(2:Nat)^(8*k)=256^k:=by rw[Nat.pow_mul]
theorem P0b(k:Nat):(2:Int)^(8*k)=((256^k:Nat):Int):=by rw[<-O4b,Int.natCast_pow];rfl
theorem P4b(k z y:Nat)(hk:k<8)(hz:z<256^k)(hy:y<=255):bits .or .u64 (z:Int) (IntKind.u64.wrap ((y:Int)*2^(8*k)))=((z+256^k*y:Nat):Int):=by
 have hp:256^k*y+256^k<=256^(k+1):=by rw[Nat.pow_succ,<-Nat.mul_succ];exact Nat.mul_le_mul_left _ (by omega)
 have h8:(256:Nat)^(k+1)<=256^8:=Nat.pow_le_pow_right (by omega) (by omega);have e8:(256:Nat)^8=18446744073709551616:=by decide
 have hw:IntKind.u64.wrap ((y:Int)*2^(8*k))=((256^k*y:Nat):Int):=by rw[P0b,IntKind.wrap_u64,<-Int.natCast_mul,Nat.mul_comm];omega
 rw[hw,u64_or_nat z (256^k*y) (by omega) (by omega),Nat.or_comm,nat_join (8*k) (256^k*y) z (by rw[O4b];exact Nat.mul_mod_right _ _) (by rw[O4b];exact hz),Nat.add_comm]
theorem R0c(k:Nat)(z y:Int)(hk:k<8)(hz0:0<=z)(hz:z<256^k)(hy0:0<=y)(hy:y<=255):bits .or .u64 z (IntKind.u64.wrap (y*2^(8*k)))=z+256^k*y:=by
 obtain⟨a,rfl⟩:=Int.eq_ofNat_of_zero_le hz0;obtain⟨b,rfl⟩:=Int.eq_ofNat_of_zero_le hy0;rw[P4b k a b hk (by
  have:((a:Int))<((256^k:Nat):Int):=by rw[Int.natCast_pow];exact hz
  omega) (by omega)]
 simp
theorem F9b{ys:List Int}{k:Nat}{z y:Int}(hb:Bytes ys)(hk:k<ys.length)(h8:k<8)(hz:z=num (ys.take k))(hy:y=ys.getD k 0) :
  bits .or .u64 z (IntKind.u64.wrap (y*2^(8*k)))=num (ys.take (k+1)):=by
 have h1:=h2b (ys.take k) (hb.take k);have h2:=hb.getD k;have hl:(ys.take k).length=k:=by simp;omega
 rw[hl,<-hz] at h1;rw[<-hy] at h2;rw[R0c k z y h8 h1.1 h1.2 h2.1 h2.2,List.take_succ_eq_append_getElem hk,z9b,hl,<-hz];have e:y=ys[k]:=by rw[hy];simp[List.getD_eq_getElem?_getD,hk]
 rw[e]
theorem G9b(n:Nat)(hn:n<=281474976710656):bits .and .i64 (-(n:Int)) 7=((w7b n-n:Nat):Int):=by
 have e1:(BitVec.ofInt 64 (7:Int)).toNat=7:=by decide
 have e2:(BitVec.ofInt 64 (-(n:Int))).toNat=(18446744073709551616-n)%18446744073709551616:=by rw[BitVec.toNat_ofInt];omega
 show IntKind.i64.wrap ((BitVec.ofInt 64 (-(n:Int)) &&& BitVec.ofInt 64 7).toNat:Int)=_
 rw[BitVec.toNat_and,e1,e2,nat_mask3,IntKind.wrap_i64];unfold w7b;omega
theorem m9a(s:Int):A4a 0 s=j3a s:=by
 unfold A4a;cases h:j3a s with
 | false=>rfl
 | true=>rcases Q1a h with rfl | rfl | rfl | rfl<;>rfl
theorem c8a(w:World)(B:Nat)(A:Option Addr)(n c:Nat)(xs:List Int)(a s:Int)(h:Holds w B A n c xs)
(ha:-9223372036854775808<=a/\a<=9223372036854775807)(hs:-9223372036854775808<=s/\s<=9223372036854775807) :
  Calls Tryz.prog 102 #[.slice A n c,.int .i64 a,.int .i64 s] w λe w'=>e=.returned (.tuple #[.int .u64 (r4a xs a s),.int .i64 (j2a n a s)])/\w=w':=by
 have hl:=hI h.len;by_cases hz:j3a s=true
 ·by_cases hp:R0a n a s=0
  ·have e1:j2a n a s=0:=by unfold j2a;rw[if_pos hz,hp]
   have e2:partOf xs a s=(xs.drop a.toNat).take s.toNat:=by unfold partOf;rw[hl.out,if_pos hp]
   have e3:r4a xs a s=num (partOf xs a s):=by unfold r4a;rw[hl.out,if_pos e1,e2]
   obtain⟨z,hzz⟩:∃z,z=num (partOf xs a s):=⟨_,rfl⟩;rw[e1,e3,<-hzz];have HZ:=hI hzz;have H2:=hI e2;clear e1 e2 e3 hzz;have c1:=x8a w 0 s (by omega) hs;rw[m9a,hz] at c1;have C1:=hI c1;have c2:=t0b w B A n c xs a s h ha hs;rw[hp] at c2;have C2:=hI c2;have HS8:s.toNat<=8:=by rcases Q1a hz with e | e | e | e<;>rw[e]<;>decide
   clear c1 c2 hz hp;go_enter Tryz.func102,Tryz.ntmps102;go_wp2_with fail;refine C1.out.mono ?_;rintro e w' ⟨rfl,rfl⟩;go_wp2_with fail;refine C2.out.mono ?_;rintro e w' ⟨A',rfl,hv,rfl⟩;obtain⟨ys,hys⟩:∃ys,ys=partOf xs a s:=⟨_,rfl⟩;rw[<-hys] at hv HZ H2⊢;obtain⟨m,hm⟩:∃m,m=ys.length:=⟨_,rfl⟩;rw[<-hm] at hv⊢;have HM:=hI hm;have hm8:m<=8:=by rw[hm,H2.out,List.length_take];omega
   clear hys hm;have hvr:=hv.room;go_wp2_with fail;go_loop [10,11,12,28] (λv i x k=>∃k':Nat,k'<=m/\k=.int .i64 k'/\∃z',v=.int .u64 z'/\Hid (z'=num (ys.take k'))) (λ_ _ _ k=>m-(intOf k).toNat)
   case atStart=>exact⟨0,Nat.zero_le _,rfl,0,rfl,rfl⟩
   case round=>
    obtain⟨k,hk,rfl,z',rfl,HZ'⟩:=hrel;by_cases hlt:k<m
    ·obtain⟨b,off,rfl,hb,hc⟩:=hv.cells (by omega);have gc:=hc k hlt;clear hc;obtain⟨y,hy⟩:∃y,y=ys.getD k 0:=⟨_,rfl⟩;rw[<-hy] at gc;have hy1:0<=y/\y<=255:=by rw[hy];exact hv.byte.getD k
     obtain⟨hy1,hy2⟩:=hy1;have HY:=hI hy;clear hy;have hS:=F9b hv.byte (by have:=HM.out;omega) (by omega) HZ'.out HY.out;have HS:=hI hS;clear hS HZ';go_wp2;go_roundw
     case rel=>exact⟨k+1,by omega,by go_num,_,rfl,HS⟩
     case measure=>simp[intOf];omega
    ·have hS:=hI (show z'=z by rw[HZ'.out,HZ.out,List.take_of_length_le (by have:=HM.out;omega)]);clear HZ';go_wp2;go_ret2;exact⟨by rw[hS.out];rfl,rfl⟩
  ·have e1:j2a n a s=R0a n a s:=by unfold j2a;rw[if_pos hz]
   have e3:r4a xs a s=0:=by unfold r4a;rw[hl.out,e1,if_neg hp]
   have e2:partOf xs a s=[]:=by unfold partOf;rw[hl.out,if_neg hp]
   have c1:=x8a w 0 s (by omega) hs;rw[m9a,hz] at c1;have C1:=hI c1;have c2:=t0b w B A n c xs a s h ha hs;rw[e1,e3];rw[e2] at c2;obtain⟨er,her⟩:∃er,er=R0a n a s:=⟨_,rfl⟩;rw[<-her] at c2 hp⊢;have C2:=hI c2;have hne:(er != 0)=true:=by simpa using hp
   clear c1 c2 hz hp e1 e2 e3 her;go_enter Tryz.func102,Tryz.ntmps102;go_wp2_with fail;refine C1.out.mono ?_;rintro e w' ⟨rfl,rfl⟩;go_wp2_with fail;refine C2.out.mono ?_;rintro e w' ⟨A',rfl,hv,rfl⟩;go_wp2;go_ret2;exact⟨rfl,rfl⟩
 ·have hz':j3a s=false:=by simpa using hz
  have e1:j2a n a s=2:=by unfold j2a;rw[if_neg hz]
  have e3:r4a xs a s=0:=by unfold r4a;rw[hl.out,e1];rfl
  have c1:=x8a w 0 s (by omega) hs;rw[m9a,hz'] at c1;have C1:=hI c1;rw[e1,e3];clear c1 hz hz' e1 e3;go_enter Tryz.func102,Tryz.ntmps102;go_wp2_with fail;refine C1.out.mono ?_;rintro e w' ⟨rfl,rfl⟩;go_wp2;go_ret2;exact⟨rfl,rfl⟩
def O2a(xs:List Int)(k:Nat):Int:=xs.getD k 0+256*xs.getD (k+1) 0
def P2a(xs:List Int)(k:Nat):Int×Nat:=
 if xs.length<k+2 then (0,0)
 else if 56320<=O2a xs k/\O2a xs k<57344 then (0,0)
 else if O2a xs k<55296∨56320<=O2a xs k then (O2a xs k,2)
 else if xs.length<k+4 then (0,0)
 else if 56320<=O2a xs (k+2)/\O2a xs (k+2)<57344 then (65536+(O2a xs k-55296)*1024+(O2a xs (k+2)-56320),4)
 else (0,0)
def H9b(xs:List Int):Nat->Nat->Option (List Int)
 | 0,_=>some []
 | f+1,k=>if k<xs.length then (if (P2a xs k).2=0 then none else (H9b xs f (k+(P2a xs k).2)).map ((P2a xs k).1 :: ·)) else some []
def s7b(xs:List Int):Option (List Int):=H9b xs xs.length 0
def P3a(xs:List Int):List UInt8:=match s7b xs with | some rs=>rs.flatMap enc | none=>[]
def J4a(xs:List Int):Int:=match s7b xs with | some _=>0 | none=>5
theorem S4a{xs:List Int}(h:Bytes xs)(k:Nat):0<=O2a xs k/\O2a xs k<=65535:=by have h1:=h.getD k;have h2:=h.getD (k+1);unfold O2a;omega
theorem c5a{xs:List Int}(h:Bytes xs)(k:Nat) :
  P2a xs k=(0,0)∨((P2a xs k).2=2/\k+2<=xs.length/\C1a (P2a xs k).1/\(P2a xs k).1=O2a xs k/\O2a xs k<65536)∨
  ((P2a xs k).2=4/\k+4<=xs.length/\C1a (P2a xs k).1/\(P2a xs k).1=65536+(O2a xs k-55296)*1024+(O2a xs (k+2)-56320)/\55296<=O2a xs k/\O2a xs k<56320/\56320<=O2a xs (k+2)/\O2a xs (k+2)<57344):=by
 have h1:=S4a h k;have h2:=S4a h (k+2);unfold P2a;split
 ·exact .inl rfl
 split
 ·exact .inl rfl
 split
 ·refine .inr (.inl ⟨rfl,by omega,⟨by dsimp only;omega,by dsimp only;omega,by dsimp only;omega⟩,rfl,by omega⟩)
 split
 ·exact .inl rfl
 split
 ·refine .inr (.inr ⟨rfl,by omega,⟨by dsimp only;omega,by dsimp only;omega,by dsimp only;omega⟩,rfl,by omega,by omega,by omega,by omega⟩)
 ·exact .inl rfl
theorem y8a{xs:List Int}(h:Bytes xs):∀(f g k:Nat),xs.length<=k+f->xs.length<=k+g->H9b xs f k=H9b xs g k
 | 0,0,_,_,_=>rfl
 | 0,g+1,k,hf,_=>by simp[H9b,show ¬k<xs.length by omega]
 | f+1,0,k,_,hg=>by simp[H9b,show ¬k<xs.length by omega]
 | f+1,g+1,k,hf,hg=>by
  unfold H9b;by_cases hk:k<xs.length
  ·rw[if_pos hk,if_pos hk];rcases c5a h k with e | ⟨e,_⟩ | ⟨e,_⟩
   ·rw[e];rfl
   ·rw[y8a h f g (k+(P2a xs k).2) (by omega) (by omega)]
   ·rw[y8a h f g (k+(P2a xs k).2) (by omega) (by omega)]
  ·rw[if_neg hk,if_neg hk]
def H7b(xs:List Int)(k:Nat):Option (List Int):=H9b xs (xs.length-k) k
theorem I7b(xs:List Int):s7b xs=H7b xs 0:=rfl
theorem Q0b{xs:List Int}(h:Bytes xs){k:Nat}(hk:k<xs.length):H7b xs k=if (P2a xs k).2=0 then none else (H7b xs (k+(P2a xs k).2)).map ((P2a xs k).1 :: ·):=by
 unfold H7b;obtain⟨n,hn⟩:∃n,xs.length-k=n+1:=⟨xs.length-k-1,by omega⟩;rw[hn,H9b,if_pos hk];rcases c5a h k with e | ⟨e,_⟩ | ⟨e,_⟩
 ·rw[e];rfl
 ·rw[y8a h n (xs.length-(k+(P2a xs k).2)) (k+(P2a xs k).2) (by omega) (by omega)]
 ·rw[y8a h n (xs.length-(k+(P2a xs k).2)) (k+(P2a xs k).2) (by omega) (by omega)]
theorem a3b{xs:List Int}{k:Nat}(hk:¬k<xs.length):H7b xs k=some []:=by unfold H7b;rw[show xs.length-k=0 by omega];rfl
theorem I9b{xs:List Int}(h:Bytes xs){P:Nat->Prop}(h0:∀k,¬k<xs.length->P k)(h1:∀k,k<xs.length->((P2a xs k).2≠0->P (k+(P2a xs k).2))->P k):∀k,P k:=by
 have key:∀n k,xs.length<=k+n->P k:=by
  intro n
  induction n with
  | zero=>exact λk hk=>h0 k (by omega)
  | succ n ih=>
   intro k hk;by_cases hlt:k<xs.length
   ·refine h1 k hlt λhne=>ih _ ?_
    rcases c5a h k with e | ⟨e,_⟩ | ⟨e,_⟩
    ·rw[e] at hne;exact absurd rfl hne
    ·omega
    ·omega
   ·exact h0 k hlt
 exact λk=>key xs.length k (by omega)
theorem v0b{xs:List Int}{k:Nat}(hk:k+2<=xs.length):xs.drop k=[xs.getD k 0,xs.getD (k+1) 0]++xs.drop (k+2):=by rw[List.drop_eq_getElem_cons (by omega),List.drop_eq_getElem_cons (by omega)];simp[List.getD_eq_getElem?_getD,show k<xs.length by omega,show k+1<xs.length by omega]
theorem J7b{xs:List Int}(h:Bytes xs)(k:Nat):∀rs,H7b xs k=some rs->(∀r∈rs,C1a r)/\f2a rs=xs.drop k:=by
 induction k using I9b h with
 | h0 k hk=>
  intro rs hr;rw[a3b hk] at hr;cases hr;refine⟨λ_ h=>(by cases h),?_⟩;rw[List.drop_of_length_le (by omega)];rfl
 | h1 k hk ih=>
  intro rs hr;rw[Q0b h hk] at hr;by_cases h0:(P2a xs k).2=0
  ·rw[if_pos h0] at hr;cases hr
  ·rw[if_neg h0] at hr;obtain⟨qs,hq,rfl⟩:=Option.map_eq_some_iff.1 hr;obtain⟨i1,i2⟩:=ih h0 qs hq;rcases c5a h k with e | ⟨e,e1,e2,e3,e4⟩ | ⟨e,e1,e2,e3,e4,e5,e6,e7⟩
   ·rw[e] at h0;exact absurd rfl h0
   ·refine⟨λr hr=>?_,?_⟩
    ·rcases List.mem_cons.1 hr with rfl | hr
     ·exact e2
     ·exact i1 r hr
    ·unfold f2a at i2⊢;rw[List.flatMap_cons,i2,e,e3,p2a,if_pos e4,v0b e1];have b0:=h.getD k;have b1:=h.getD (k+1);unfold O2a;rw[show(xs.getD k 0+256*xs.getD (k+1) 0)%256=xs.getD k 0 by omega,show(xs.getD k 0+256*xs.getD (k+1) 0)/256=xs.getD (k+1) 0 by omega]
   ·refine⟨λr hr=>?_,?_⟩
    ·rcases List.mem_cons.1 hr with rfl | hr
     ·exact e2
     ·exact i1 r hr
    ·unfold f2a at i2⊢;rw[List.flatMap_cons,i2,e,e3,p2a,if_neg (by omega),v0b (show k+2<=xs.length by omega),v0b (show k+2+2<=xs.length by omega)];have b0:=h.getD k;have b1:=h.getD (k+1);have b2:=h.getD (k+2);have b3:=h.getD (k+2+1);unfold O2a at *;generalize xs.getD k 0=x0 at *;generalize xs.getD (k+1) 0=x1 at *;generalize xs.getD (k+2) 0=x2 at *;generalize xs.getD (k+2+1) 0=x3 at *;have q0:(55296+(65536+(x0+256*x1-55296)*1024+(x2+256*x3-56320)-65536)/1024)%256=x0:=by omega
     have q1:(55296+(65536+(x0+256*x1-55296)*1024+(x2+256*x3-56320)-65536)/1024)/256=x1:=by omega
     have q2:(56320+(65536+(x0+256*x1-55296)*1024+(x2+256*x3-56320)-65536)%1024)%256=x2:=by omega
     have q3:(56320+(65536+(x0+256*x1-55296)*1024+(x2+256*x3-56320)-65536)%1024)/256=x3:=by omega
     rw[q0,q1,q2,q3];rfl
theorem K3b{xs:List Int}(h:Bytes xs){rs:List Int}(hr:s7b xs=some rs):(∀r∈rs,C1a r)/\f2a rs=xs:=by have:=J7b h 0 rs hr;simpa using this
theorem n9a{n k:Nat}(hk:k<=n):j2a n k 2=if n<k+2 then 4 else 0:=by unfold j2a R0a;rw[if_pos (by decide),if_neg (by omega)];split<;>split<;>omega
theorem L3b{xs:List Int}{k:Nat}(hk:k+2<=xs.length):r4a xs k 2=O2a xs k:=by
 unfold r4a;have he:j2a xs.length k 2=0:=by rw[n9a (by omega),if_neg (by omega)]
 rw[if_pos he];have:=v0b hk;rw[Int.toNat_natCast,this];simp[num,O2a]
theorem M3b(w:World)(B:Nat)(A:Option Addr)(n c:Nat)(xs:List Int)(k:Nat)(h:Holds w B A n c xs)(hk:k<n) :
  Calls Tryz.prog 188 #[.slice A n c,.int .i64 k] w λe w'=>e=.returned (.tuple #[.int .i32 (P2a xs k).1,.int .i64 (P2a xs k).2])/\w=w':=by
 have hl:=h.len;have hrm:=h.room;have b1:=S4a h.byte k;have b2:=S4a h.byte (k+2);have c1:=c8a w B A n c xs k 2 h (by omega) (by omega);have c2:=c8a w B A n c xs ((k:Int)+2) 2 h (by omega) (by omega);rw[show((k:Int)+2)=((k+2:Nat):Int) by omega] at c2;rw[n9a (by omega)] at c1;by_cases h1:n<k+2
 ·have e:P2a xs k=(0,0):=by unfold P2a;rw[if_pos (by omega)]
  rw[if_pos h1] at c1;rw[e];obtain⟨G,hG⟩:∃G,G=r4a xs k 2:=⟨_,rfl⟩;rw[<-hG] at c1;have C1:=hI c1;clear c1 c2 e hG hl b1 b2;go_enter Tryz.func188,Tryz.ntmps188;go_wp2_with fail;refine C1.out.mono ?_;rintro e w' ⟨rfl,rfl⟩;go_wp2;go_ret2;exact⟨rfl,rfl⟩
 rw[if_neg h1,L3b (by omega)] at c1;obtain⟨u,hu⟩:∃u,u=O2a xs k:=⟨_,rfl⟩;rw[<-hu] at b1 c1;have cl:=λw=>l9a w u 56320 (by omega) (by omega)
 have ch:=λw=>l9a w u 55296 (by omega) (by omega)
 by_cases h2:56320<=u/\u<57344
 ·have e:P2a xs k=(0,0):=by unfold P2a;rw[<-hu,if_neg (by omega),if_pos h2]
  rw[e];have et:(u/1024==(56320:Int)/1024)=true:=by rw[beq_iff_eq];omega
  rw[et] at cl;have C1:=hI c1;have CL:=λw=>hI (cl w)
  clear c1 c2 e hl b2 cl ch et hu;go_enter Tryz.func188,Tryz.ntmps188;go_wp2_with fail;refine C1.out.mono ?_;rintro e w' ⟨rfl,rfl⟩;go_wp2_with fail;refine(CL _).out.mono ?_;rintro e w' ⟨rfl,rfl⟩;go_wp2;go_ret2;exact⟨rfl,rfl⟩
 have et:(u/1024==(56320:Int)/1024)=false:=by rw[beq_eq_false_iff_ne];omega
 rw[et] at cl;by_cases h3:u<55296∨56320<=u
 ·have e:P2a xs k=(u,2):=by unfold P2a;rw[<-hu,if_neg (by omega),if_neg h2,if_pos h3]
  rw[e];have eh:(u/1024==(55296:Int)/1024)=false:=by rw[beq_eq_false_iff_ne];omega
  rw[eh] at ch;have C1:=hI c1;have CL:=λw=>hI (cl w)
  have CH:=λw=>hI (ch w)
  clear c1 c2 e hl b2 cl ch et eh hu h2 h3;go_enter Tryz.func188,Tryz.ntmps188;go_wp2_with fail;refine C1.out.mono ?_;rintro e w' ⟨rfl,rfl⟩;go_wp2_with fail;refine(CL _).out.mono ?_;rintro e w' ⟨rfl,rfl⟩;go_wp2_with fail;refine(CH _).out.mono ?_;rintro e w' ⟨rfl,rfl⟩;go_wp2;go_ret2;exact⟨rfl,rfl⟩
 have eh:(u/1024==(55296:Int)/1024)=true:=by rw[beq_iff_eq];omega
 rw[eh] at ch;rw[n9a (by omega)] at c2;by_cases h4:n<k+4
 ·have e:P2a xs k=(0,0):=by unfold P2a;rw[<-hu,if_neg (by omega),if_neg h2,if_neg h3,if_pos (by omega)]
  rw[e];rw[if_pos (by omega)] at c2;obtain⟨G,hG⟩:∃G,G=r4a xs ((k+2:Nat):Int) 2:=⟨_,rfl⟩;rw[<-hG,show(((k+2:Nat):Int))=(k:Int)+2 by omega] at c2;have C1:=hI c1;have C2:=hI c2;have CL:=λw=>hI (cl w)
  have CH:=λw=>hI (ch w)
  clear c1 c2 e hl b2 cl ch et eh hu h2 h3 hG;go_enter Tryz.func188,Tryz.ntmps188;go_wp2_with fail;refine C1.out.mono ?_;rintro e w' ⟨rfl,rfl⟩;go_wp2_with fail;refine(CL _).out.mono ?_;rintro e w' ⟨rfl,rfl⟩;go_wp2_with fail;refine(CH _).out.mono ?_;rintro e w' ⟨rfl,rfl⟩;go_wp2_with fail;refine C2.out.mono ?_;rintro e w' ⟨rfl,rfl⟩;go_wp2;go_ret2;exact⟨rfl,rfl⟩
 rw[if_neg (by omega),L3b (by omega)] at c2;obtain⟨x,hx⟩:∃x,x=O2a xs (k+2):=⟨_,rfl⟩;rw[<-hx] at b2;rw[<-hx,show(((k+2:Nat):Int))=(k:Int)+2 by omega] at c2;have cx:=λw=>l9a w x 56320 (by omega) (by omega)
 by_cases h5:56320<=x/\x<57344
 ·have e:P2a xs k=(65536+(u-55296)*1024+(x-56320),4):=by unfold P2a;rw[<-hu,<-hx,if_neg (by omega),if_neg h2,if_neg h3,if_neg (by omega),if_pos h5]
  rw[e,show 65536+(u-55296)*1024+(x-56320)=65536+(u%1024*1024+x%1024) by omega];have ex:(x/1024==(56320:Int)/1024)=true:=by rw[beq_iff_eq];omega
  rw[ex] at cx;have C1:=hI c1;have C2:=hI c2;have CL:=λw=>hI (cl w)
  have CH:=λw=>hI (ch w)
  have CX:=λw=>hI (cx w)
  have a1:=O0b u (by omega) (by omega);have a2:=O0b x (by omega) (by omega);have a3:=Y2b (u%1024) (x%1024) (by omega) (by omega) (by omega) (by omega);clear c1 c2 e hl cl ch cx et eh ex hu hx h2 h3;go_enter Tryz.func188,Tryz.ntmps188;go_wp2_with fail;refine C1.out.mono ?_;rintro e w' ⟨rfl,rfl⟩;go_wp2_with fail;refine(CL _).out.mono ?_;rintro e w' ⟨rfl,rfl⟩;go_wp2_with fail;refine(CH _).out.mono ?_;rintro e w' ⟨rfl,rfl⟩;go_wp2_with fail;refine C2.out.mono ?_;rintro e w' ⟨rfl,rfl⟩;go_wp2_with fail;refine(CX _).out.mono ?_;rintro e w' ⟨rfl,rfl⟩;go_wp2;go_ret2;exact⟨rfl,rfl⟩
 ·have e:P2a xs k=(0,0):=by unfold P2a;rw[<-hu,<-hx,if_neg (by omega),if_neg h2,if_neg h3,if_neg (by omega),if_neg h5]
  rw[e];have ex:(x/1024==(56320:Int)/1024)=false:=by rw[beq_eq_false_iff_ne];omega
  rw[ex] at cx;have C1:=hI c1;have C2:=hI c2;have CL:=λw=>hI (cl w)
  have CH:=λw=>hI (ch w)
  have CX:=λw=>hI (cx w)
  clear c1 c2 e hl cl ch cx et eh ex hu hx h2 h3 h5;go_enter Tryz.func188,Tryz.ntmps188;go_wp2_with fail;refine C1.out.mono ?_;rintro e w' ⟨rfl,rfl⟩;go_wp2_with fail;refine(CL _).out.mono ?_;rintro e w' ⟨rfl,rfl⟩;go_wp2_with fail;refine(CH _).out.mono ?_;rintro e w' ⟨rfl,rfl⟩;go_wp2_with fail;refine C2.out.mono ?_;rintro e w' ⟨rfl,rfl⟩;go_wp2_with fail;refine(CX _).out.mono ?_;rintro e w' ⟨rfl,rfl⟩;go_wp2;go_ret2;exact⟨rfl,rfl⟩
theorem K7b(rs:List Int)(h:∀r∈rs,C1a r):strOfNums (rs.flatMap Lib.encodeRuneZ)=⟨(rs.flatMap enc).toArray⟩:=by
 unfold strOfNums;have e:(rs.flatMap Lib.encodeRuneZ).map (λn=>UInt8.ofNat n.toNat)=rs.flatMap enc:=by
  induction rs with
  | nil=>rfl
  | cons r rs ih=>rw[List.flatMap_cons,List.map_append,ih λx hx=>h x (List.mem_cons_of_mem _ hx),List.flatMap_cons,j9a (h r List.mem_cons_self)];rfl
 rw[e]
theorem W1b(w:World)(base:Nat)(v:Value)(xs:List Int)(r:Int)(hr:C1a r)(h:O3a .u8 5 w base v xs)(hl:xs.length+4<=140737488355328)(hb:base<=w.heap.size) :
  Calls Tryz.prog 189 #[v,.int .i32 r] w λe w'=>∃v',e=.returned v'/\O3a .u8 5 w' base v' (xs++Lib.encodeRuneZ r)/\r7b w w' v:=by
 obtain⟨r0,r1,_⟩:=hr;refine(Tryz.utf8_AppendRune_plain base v xs.length (xs.map (Value.int .u8)) r (by omega) (by omega) w h hl hb).mono ?_;rintro e w' ⟨v',rfl,ho,hg⟩;refine⟨v',rfl,?_,hg⟩;unfold O3a;rw[List.length_append,List.map_append];unfold Lib.runeCells at ho
 rwa [List.length_map] at ho
def L7b(w:World)(xs:List Int)(e:Ending)(w':World):Prop:=e=.returned (.tuple #[.string ⟨(P3a xs).toArray⟩,.int .i64 (J4a xs)])/\Below w.heap.size w w'
theorem J9b(w:World)(A:Option Addr)(n c:Nat)(xs:List Int)(h:Holds w w.heap.size A n c xs)(hn:n<=17592186044416) :
  Calls Tryz.prog 181 #[.slice A n c] w (L7b w xs):=by
 have hl:=hI h.len;have hby:=h.byte;have hq:∀o,s7b xs=o->∀e w',(e=.returned (.tuple #[.string ⟨(match o with | some rs=>rs.flatMap enc | none=>[]).toArray⟩,.int .i64 (match o with | some _=>0 | none=>5)])/\Below w.heap.size w w')->L7b w xs e w':=by intro o ho e w' hh;subst ho;exact hh
 have HQ:=hI hq;obtain⟨O,hO⟩:∃O,s7b xs=O:=⟨_,rfl⟩;have HO:=hI hO;clear hq hO;go_enter Tryz.func181,Tryz.ntmps181;go_wp2_with(at_make;refine A6a rfl .u8 31 5 1 Tryz.underlying31 N3a _ _ rfl _ n rfl rfl rfl (by omega) (by rw[N5a];omega) ?_;intro w1 ho1 hb1);have hs1:=hb1.size;go_loopw [4,5,6,7] (λv i _ _ wr=>∃(k:Nat) (rs:List Int),i=.int .i64 k/\Hid (O3a .u8 5 wr w.heap.size v (rs.flatMap Lib.encodeRuneZ))/\Below w.heap.size w wr/\Hid (∀r∈rs,C1a r)/\Hid ((H7b xs k).map (rs ++ ·)=O)/\Hid ((rs.flatMap Lib.encodeRuneZ).length<=4*k)/\k<=n) (λ_ i _ _ _=>n-(intOf i).toNat)
 case atStart=>
  refine⟨0,[],rfl,ho1.out.own,hb1,(λ_ h=>by cases h),?_,(by show _<=_;simp),by omega⟩;show _=_
  rw[<-HO.out,I7b];cases H7b xs 0<;>rfl
 case round=>
  obtain⟨k,rs,rfl,HV,hb,HR,HE,HL,hk⟩:=hrel;by_cases hlt:k<n
  ·have hstep:=Q0b hby (k:=k) (by have:=hl.out;omega);have hc:=c5a hby k;have c1:=M3b wr w.heap.size A n c xs k (h.below hb) hlt;obtain⟨r,hr⟩:∃r,r=(P2a xs k).1:=⟨_,rfl⟩;obtain⟨z,hz⟩:∃z,z=(P2a xs k).2:=⟨_,rfl⟩;rw[<-hr,<-hz] at c1 hstep;have C1:=hI c1;have hbs:=hb.size;by_cases h0:z=0
   ·subst h0;have HN:Hid (O=none):=by have:=HE.out;rw[hstep,if_pos rfl] at this;exact this.symm
    clear hc hstep c1 hr hz HE;go_wp2_with fail;refine C1.out.mono ?_;rintro e w' ⟨rfl,rfl⟩;go_wp2;go_ret2;refine HQ.out O HO.out _ _ ⟨?_,hb⟩;rw[HN.out];rfl
   ·have hrl:C1a r/\k+z<=n/\2<=z:=by
     have:=hl.out;rcases hc with e | ⟨e,e1,e2,_⟩ | ⟨e,e1,e2,_⟩
     ·rw[e] at hz;exact absurd hz h0
     ·rw[hr,hz];exact⟨e2,by omega,by omega⟩
     ·rw[hr,hz];exact⟨e2,by omega,by omega⟩
    obtain⟨hrl,hkz,hz2⟩:=hrl;have HE':Hid ((H7b xs (k+z)).map ((rs++[r]) ++ ·)=O):=by
     have:=HE.out;rw[hstep,if_neg h0,Option.map_map] at this;show _=_
     rw[<-this]
     congr 1
     funext y;simp
    have HRL:=hI hrl;have hz4:(Lib.encodeRuneZ r).length<=4:=(Lib.encodeRuneZ_length r).2;have c2:=hI (W1b wr _ _ (rs.flatMap Lib.encodeRuneZ) r hrl HV.out (by have:=HL.out;omega) hbs);have hz0:((z:Int)==0)=false:=by rw[beq_eq_false_iff_ne];omega
    obtain⟨r0,r1,_⟩:=hrl;clear hc hstep c1 hr hz HE;go_wp2_with fail;refine C1.out.mono ?_;rintro e w' ⟨rfl,rfl⟩;go_wp2_with fail;refine c2.out.mono ?_;rintro e w3 ⟨v3,rfl,ho3,hg3⟩;have hb3:=hg3.below HV.out hbs;have HO3:=hI ho3;clear ho3 hg3 c2;go_wp2;go_roundw
    case rel=>
     refine⟨k+z,rs++[r],by go_num,?_,hb.trans hb3,?_,HE',?_,hkz⟩
     ·show O3a _ _ _ _ _ _
      have:=HO3.out;simpa using this
     ·intro x hx;rcases List.mem_append.1 hx with hx | hx
      ·exact HR.out x hx
      ·rcases List.mem_singleton.1 hx with rfl
       exact HRL.out
     ·show _<=_
      have:=HL.out;rw[List.flatMap_append,List.length_append,List.flatMap_cons,List.flatMap_nil,List.append_nil];omega
    case measure=>simp[intOf];omega
  ·obtain rfl:k=n:=by omega
   have hend:=a3b (xs:=xs) (k:=k) (by have:=hl.out;omega);have HS:Hid (O=some rs):=by
    have:=HE.out;rw[hend] at this;show _=_
    simpa using this.symm
   have hcv:=V1b (P:=Tryz.prog) (src:=31) Tryz.underlying31 Tryz.underlying5 HV.out;rw[K7b rs HR.out] at hcv;obtain⟨T,hT⟩:∃T:ByteArray,T=⟨(rs.flatMap enc).toArray⟩:=⟨_,rfl⟩;rw[<-hT] at hcv;have HT:=hI hT;clear hend hT HE;go_wp2;go_ret2;refine HQ.out O HO.out _ _ ⟨?_,hb⟩;rw[HS.out,HT.out];rfl
def l2b(n:Nat):Int:=if n<=65535 then 0 else 3
def rowOf(xs:List Int):List Int:=if xs.length<=65535 then le xs.length 2++xs else []
theorem Q4b{xs:List Int}(h:Bytes xs):Bytes (rowOf xs):=by
 unfold rowOf;split
 ·exact(F0a _ _).append h
 ·exact Bytes.nil
theorem M7b(xs:List Int)(h:xs.length<=65535):(rowOf xs).length=xs.length+2:=by unfold rowOf;rw[if_pos h,List.length_append,g0a];omega
def W9a(xs:List Int)(a:Int):Int:=Z0a xs a.toNat 2
def W1a(xs:List Int)(a most:Int):Int:=if a<0∨(xs.length:Int)<a then 2 else if (xs.length:Int)-a<2 then 4 else if most<W9a xs a then 3 else if (xs.length:Int)-a-2<W9a xs a then 4 else 0
def a2a(xs:List Int)(a most:Int):List Int:=if W1a xs a most=0 then (xs.drop (a.toNat+2)).take (W9a xs a).toNat else []
def B3a(xs:List Int)(a most:Int):Int:=if W1a xs a most=0 then a+2+W9a xs a else 0
def y0a(l:List UInt8):Int:=if q3a l=0 then (if (S1a l).length<=512 then 0 else 3) else q3a l
def A0a(l:List UInt8):List Int:=if y0a l=0 then rowOf (S1a l) else []
def Y0a(xs:List Int)(a:Int):Int:=if W1a xs a 512=0 then J4a (a2a xs a 512) else W1a xs a 512
def X1a(xs:List Int)(a:Int):List UInt8:=if Y0a xs a=0 then P3a (a2a xs a 512) else []
def a1a(xs:List Int)(a:Int):Int:=if Y0a xs a=0 then B3a xs a 512 else 0
theorem d5a(xs:List Int)(h:Bytes xs)(a:Int):0<=W9a xs a/\W9a xs a<=65535:=by have:=R1a xs h a.toNat 2 65536 (by decide);unfold W9a;omega
theorem Q6a{xs:List Int}{a most:Int}(h:W1a xs a most=0):0<=a/\a+2+W9a xs a<=xs.length/\W9a xs a<=most:=by
 unfold W1a at h;by_cases h1:a<0∨(xs.length:Int)<a
 ·rw[if_pos h1] at h;omega
 ·rw[if_neg h1] at h;by_cases h2:(xs.length:Int)-a<2
  ·rw[if_pos h2] at h;omega
  ·rw[if_neg h2] at h;by_cases h3:most<W9a xs a
   ·rw[if_pos h3] at h;omega
   ·rw[if_neg h3] at h;by_cases h4:(xs.length:Int)-a-2<W9a xs a
    ·rw[if_pos h4] at h;omega
    ·omega
theorem R6a{xs:List Int}(h:Bytes xs)(a most:Int):Bytes (a2a xs a most):=by
 unfold a2a;split
 ·exact(h.drop _).take _
 ·exact Bytes.nil
theorem o9a{xs:List Int}{a most:Int}(hx:Bytes xs)(h:W1a xs a most=0):((a2a xs a most).length:Int)=W9a xs a:=by have h1:=Q6a h;have h2:=d5a xs hx a;unfold a2a;rw[if_pos h,List.length_take,List.length_drop];omega
theorem N3b{xs:List Int}(hx:Bytes xs)(a most:Int):(a2a xs a most).length<=65535:=by
 by_cases h:W1a xs a most=0
 ·have:=o9a hx h;have:=d5a xs hx a;omega
 ·unfold a2a;rw[if_neg h];simp
def c4a(w:World)(xs:List Int)(a m:Int)(e:Ending)(w':World):Prop:=∃A',e=.returned (.tuple #[.slice A' (partOf xs a m).length (partOf xs a m).length,.int .i64 (R0a xs.length a m)])/\r2a w' w.heap.size A' (partOf xs a m)/\Below w.heap.size w w'
theorem D7a(w:World)(A:Option Addr)(n c:Nat)(xs:List Int)(a m:Int)(h:Holds w w.heap.size A n c xs)
(ha:-9223372036854775808<=a/\a<=9223372036854775807)(hm:-9223372036854775808<=m/\m<=9223372036854775807) :
  Calls Tryz.prog 58 #[.slice A n c,.int .i64 a,.int .i64 m] w (c4a w xs a m):=by
 have hl:=hI h.len;have c2:=t0b w _ A n c xs a m h ha hm;have hq:∀e w',(∃A',e=.returned (.tuple #[.slice A' (partOf xs a m).length (partOf xs a m).length,.int .i64 (R0a n a m)])/\r2a w' w.heap.size A' (partOf xs a m)/\Below w.heap.size w w')->c4a w xs a m e w':=by intro e w' hh;unfold c4a;rw[hl.out];exact hh
 have HQ:=hI hq;clear hq;by_cases hp:R0a n a m=0
 ·rw[hp] at c2 HQ;have e2:(partOf xs a m).length=m.toNat/\0<=m:=by
   have h1:=hl.out;unfold partOf;rw[h1,if_pos hp];unfold R0a at hp;by_cases g1:a<0∨(n:Int)<a∨m<0
   ·rw[if_pos g1] at hp;omega
   ·by_cases g2:(n:Int)-a<m
    ·rw[if_neg g1,if_pos g2] at hp;omega
    ·rw[List.length_take,List.length_drop,h1];omega
  obtain⟨j,rfl⟩:=Int.eq_ofNat_of_zero_le e2.2;have e3:(partOf xs a j).length=j:=by rw[e2.1];rfl
  obtain⟨ys,hys⟩:∃ys,ys=partOf xs a j:=⟨_,rfl⟩;rw[<-hys] at c2 HQ e3;rw[e3] at c2 HQ;have C2:=hI c2;have HYS:=hI hys;clear c2 hp e2 e3 hys;go_enter Tryz.func58,Tryz.ntmps58;go_wp2_with fail;refine C2.out.mono ?_;rintro e w' ⟨A',rfl,hv,rfl⟩;have hjr:=hv.room;go_wp2_with(first
   | (at_make;refine H1a _ rfl (.tmp 21) (.tmp 21) rfl _ _ j rfl rfl rfl rfl (by omega) ?_;intro w1 hrow hb1)
   | ((with_reducible refine sN 25 ?_);refine k9a rfl (.tmp 23) (.tmp 24) rfl w.heap.size j j j j A' rfl rfl _ ys _ hrow (hv.below hb1) (Nat.le_refl _) (by simp) ?_;intro w2 hrow2 hb2))
  go_ret2;refine HQ.out _ _ ⟨_,rfl,.inr ⟨_,rfl,Nat.le_refl _,?_⟩,hb1.trans hb2⟩;have:=hrow2.out;simpa using this
 ·have e2:partOf xs a m=[]:=by unfold partOf;rw[hl.out,if_neg hp]
  rw[e2] at c2 HQ;obtain⟨er,her⟩:∃er,er=R0a n a m:=⟨_,rfl⟩;rw[<-her] at c2 hp HQ;have C2:=hI c2;have hne:(er != 0)=true:=by simpa using hp
  clear c2 hp e2 her;go_enter Tryz.func58,Tryz.ntmps58;go_wp2_with fail;refine C2.out.mono ?_;rintro e w' ⟨A',rfl,hv,rfl⟩;go_wp2;go_ret2;exact HQ.out _ _ ⟨_,rfl,.inl ⟨rfl,rfl⟩,Below.refl _ _⟩
theorem b3b(w:World)(B:Nat)(A:Option Addr)(n c:Nat)(xs:List Int)(a m:Int)(h:Holds w B A n c xs)
(ha:-9223372036854775808<=a/\a<=9223372036854775807)(hm:-9223372036854775808<=m/\m<=9223372036854775807) :
  Calls Tryz.prog 165 #[.slice A n c,.int .i64 a,.int .i64 m] w λe w'=>e=.returned (.bool (zeroOf xs a m))/\w=w':=by
 have hl:=hI h.len;have c2:=t0b w B A n c xs a m h ha hm;by_cases hp:R0a n a m=0
 ·have e0:zeroOf xs a m=(partOf xs a m).all (· == 0):=by unfold zeroOf;rw[hl.out,hp];simp
  rw[hp] at c2;obtain⟨ys,hys⟩:∃ys,ys=partOf xs a m:=⟨_,rfl⟩;rw[<-hys] at c2 e0;obtain⟨j,hj⟩:∃j,j=ys.length:=⟨_,rfl⟩;rw[<-hj] at c2;obtain⟨z,hz⟩:∃z,z=zeroOf xs a m:=⟨_,rfl⟩;rw[<-hz] at e0⊢;have C2:=hI c2;have E0:=hI e0;have HJ:=hI hj;clear c2 hp hys hj hz e0;go_enter Tryz.func165,Tryz.ntmps165;go_wp2_with fail;refine C2.out.mono ?_;rintro e w' ⟨A',rfl,hv,rfl⟩;have hjr:=hv.room;go_wp2_with fail;go_loop [10,22] (λ_ k=>∃k':Nat,k'<=j/\k=.int .i64 k'/\Hid ((ys.take k').all (· == 0)=true)) (λ_ k=>j-(intOf k).toNat)
  case atStart=>exact⟨0,Nat.zero_le _,rfl,rfl⟩
  case round=>
   obtain⟨k,hk,rfl,HT⟩:=hrel;by_cases hlt:k<j
   ·obtain⟨b,off,rfl,hb,hc⟩:=hv.cells (by omega);have gc:=hc k hlt;clear hc;have hky:k<ys.length:=by have:=HJ.out;omega
    obtain⟨y,hy⟩:∃y,y=ys.getD k 0:=⟨_,rfl⟩;rw[<-hy] at gc;have ey:ys[k]=y:=by rw[hy];simp[List.getD_eq_getElem?_getD,hky]
    by_cases hy0:y=0
    ·have hS:Hid ((ys.take (k+1)).all (· == 0)=true):=by
      show _=_
      rw[List.take_succ_eq_append_getElem hky,List.all_append,HT.out,ey,hy0];rfl
     clear HT hky ey hy;subst hy0;go_wp2;go_round
     case rel=>exact⟨k+1,by omega,by go_num,hS⟩
     case measure=>simp[intOf];omega
    ·have hS:Hid (z=false):=by
      show _=_
      rw[E0.out,List.all_eq_false];exact⟨ys[k],List.getElem_mem hky,by rw[ey];simpa using hy0⟩
     clear HT hky ey hy;have hne:(y != 0)=true:=by simpa using hy0
     clear hy0;go_wp2;go_ret;exact⟨K0a hS.out.symm,rfl⟩
   ·have hS:Hid (z=true):=by
     show _=_
     rw[E0.out,<-HT.out,List.take_of_length_le (by have:=HJ.out;omega)]
    clear HT;go_wp2;go_ret;exact⟨K0a hS.out.symm,rfl⟩
 ·have e0:zeroOf xs a m=false:=by unfold zeroOf;rw[hl.out];simp[hp]
  rw[e0];obtain⟨er,her⟩:∃er,er=R0a n a m:=⟨_,rfl⟩;rw[<-her] at c2 hp;have C2:=hI c2;have hne:(er != 0)=true:=by simpa using hp
  clear c2 hp e0 her;go_enter Tryz.func165,Tryz.ntmps165;go_wp2_with fail;refine C2.out.mono ?_;rintro e w' ⟨A',rfl,hv,rfl⟩;go_wp2;go_ret;exact⟨rfl,rfl⟩
theorem s6b(n:Int)(s k:Nat)(h:k<s)(hk:k<(le n s).length):(le n s)[k]=n/256^k%256:=by
 induction s generalizing n k with
 | zero=>omega
 | succ s ih=>
  cases k with
  | zero=>simp[le]
  | succ k=>simp only[le,List.getElem_cons_succ];rw[ih (n/256) k (by omega) (by rw[g0a];omega),Int.pow_succ,Int.mul_comm,Int.ediv_ediv_of_nonneg (by omega)]
def putRow(n:Int)(s k:Nat):List Int:=(le n s).take k++List.replicate (s-k) 0
theorem c3b(n:Int)(s k:Nat)(hk:k<=s):(putRow n s k).length=s:=by simp[putRow,g0a];omega
theorem putRow_set(n:Int)(s k:Nat)(hk:k<s)(x:Int)(hx:x=n/256^k%256):(putRow n s k).set k x=putRow n s (k+1):=by
 have hl:((le n s).take k).length=k:=by simp[g0a];omega
 have hkl:k<(le n s).length:=by rw[g0a];omega
 unfold putRow;rw[List.set_append_right _ _ (by omega),hl,Nat.sub_self,show s-k=(s-(k+1))+1 from by omega,List.replicate_succ,List.set_cons_zero,List.take_succ_eq_append_getElem hkl,s6b n s k hk hkl,hx,
  List.append_assoc]
 rfl
theorem R4b(n:Int)(s:Nat):putRow n s 0=List.replicate s 0:=by simp[putRow]
theorem S4b(n:Int)(s:Nat):putRow n s s=le n s:=by unfold putRow;rw[List.take_of_length_le (by rw[g0a];omega)];simp
def e5a(w:World)(n s:Int)(e:Ending)(w':World):Prop:=∃A',e=.returned (.tuple #[.slice A' (p5a n s).length (p5a n s).length,.int .i64 (z6a n s)])/\r2a w' w.heap.size A' (p5a n s)/\Below w.heap.size w w'
theorem d8a(w:World)(n s:Int)(hn:0<=n/\n<=18446744073709551615)(hs:-9223372036854775808<=s/\s<=9223372036854775807) :
  Calls Tryz.prog 37 #[.int .u64 n,.int .i64 s] w (e5a w n s):=by
 have c1:=x8a w n s hn hs;obtain⟨hn0,hn1⟩:=hn;by_cases hp:A4a n s=true
 ·have hz:j3a s=true:=by unfold A4a at hp;simp at hp;exact hp.1
  have hs8:1<=s/\s<=8:=by rcases Q1a hz with e | e | e | e<;>omega
  obtain⟨hs1,hs8⟩:=hs8;obtain⟨j,rfl⟩:=Int.eq_ofNat_of_zero_le (show 0<=s by omega);have hq:∀e w',(∃A',e=.returned (.tuple #[.slice A' j j,.int .i64 0])/\r2a w' w.heap.size A' (le n j)/\Below w.heap.size w w')->e5a w n j e w':=by intro e w' hh;unfold e5a p5a z6a;rw[if_pos hp,if_pos hp,Int.toNat_natCast,g0a];exact hh
  have HQ:=hI hq;rw[hp] at c1;have C1:=hI c1;clear c1 hp hz hq;go_enter Tryz.func37,Tryz.ntmps37;go_wp2_with fail;refine C1.out.mono ?_;rintro e w' ⟨rfl,rfl⟩;go_wp2_with(at_make;refine H1a _ rfl (.tmp 12) (.tmp 12) rfl _ _ j rfl rfl rfl rfl (by omega) ?_;intro w1 hrow hb1);go_loopw [7,16] (λ_ k wr=>∃k':Nat,k'<=j/\k=.int .i64 k'/\Hid (Row wr w.heap.size (putRow n j k'))/\Below w.heap.size w wr) (λ_ k _=>j-(intOf k).toNat)
  case atStart=>exact⟨0,Nat.zero_le _,rfl,by rw[R4b];exact hrow,hb1⟩
  case round=>
   obtain⟨k,hk,rfl,hR,hb⟩:=hrel;by_cases hlt:k<j
   ·have hl:=c3b n j k hk;have hc:=hR.out.cell (i:=k) (by omega);have hz:=hR.out.frozen k;obtain⟨old,hold⟩:∃old,old=(putRow n j k).getD k 0:=⟨_,rfl⟩;rw[<-hold] at hc;clear hl hold;have e:=putRow_set n j k hlt (n/2^(8*k)%256) (by rw[P0b,Int.natCast_pow];rfl);have hS:Hid (Row (wr.setCell ⟨w.heap.size,k,none⟩ (.int .u8 (n/2^(8*k)%256))) w.heap.size (putRow n j (k+1))):=by rw[<-e];exact hR.out.set k _
    clear e hR;go_wp2;go_roundw
    case rel=>exact⟨k+1,by omega,by go_num,hS,hb.setCell (Nat.le_refl _) _⟩
    case measure=>simp[intOf];omega
   ·have hS:Hid (Row wr w.heap.size (le n j)):=by
     have:=hR.out
     rwa [show k=j from by omega,S4b] at this
    clear hR;go_wp2;go_ret2;exact HQ.out _ _ ⟨_,rfl,.inr ⟨_,rfl,Nat.le_refl _,hS⟩,hb⟩
 ·have hp':A4a n s=false:=by simpa using hp
  have hq:∀e w',(∃A',e=.returned (.tuple #[.slice A' 0 0,.int .i64 2])/\r2a w' w.heap.size A' []/\Below w.heap.size w w')->e5a w n s e w':=by intro e w' hh;unfold e5a p5a z6a;rw[if_neg hp,if_neg hp];exact hh
  have HQ:=hI hq;rw[hp'] at c1;have C1:=hI c1;clear c1 hp hp' hq;go_enter Tryz.func37,Tryz.ntmps37;go_wp2_with fail;refine C1.out.mono ?_;rintro e w' ⟨rfl,rfl⟩;go_wp2;go_ret2;exact HQ.out _ _ ⟨_,rfl,.inl ⟨rfl,rfl⟩,Below.refl _ _⟩
open Go.RowKit Go.ChangeShapes Go.WideShapes
section
variable {H:Type} {enc:TypeId×Value->H} {P:Program} {W:World} {base:Nat} {t e:TypeId} {v:Value} {d:DataW H} {p:List MemPlace}
theorem j6a(d:DataW H):1<=Rows.uptoBulk d:=by
 cases d with
 | lit l=>cases l<;>simp[Rows.uptoBulk]
 | nil=>simp[Rows.uptoBulk]
 | ptr d=>simp[Rows.uptoBulk]
 | slice elems spare=>simp[Rows.uptoBulk]
 | agg parts=>simp[Rows.uptoBulk]
 | iface t d=>simp[Rows.uptoBulk]
 | map entries=>simp[Rows.uptoBulk]
 | held h=>simp[Rows.uptoBulk]
theorem g3a(l:List (DataW H)):l.length<=Rows.uptoBulkAll l:=by
 induction l with
 | nil=>simp[Rows.uptoBulkAll]
 | cons x r ih=>have:=j6a x;simp only[Rows.uptoBulkAll,List.length_cons];omega
theorem Holds.head{w:World}{B c n:Nat}{A:Option Addr}{xs:List Int}(h:Holds w B A c c xs)(hn:n<=c):Holds w B A n c (xs.take n):=
 ⟨by have:=h.len;simp;omega,hn,by have:=h.room;omega,h.byte.take n,h.bare,λh0=>by obtain⟨b,off,rfl,hb,hc⟩:=h.cells (by omega);refine⟨b,off,rfl,hb,λi hi=>?_⟩;rw[hc i (by omega)];simp[List.getD_eq_getElem?_getD,hi]⟩
theorem D1a{x:Int}(h:(Lit.int .u8 x).wf=true):0<=x/\x<=255:=by simpa[Lit.wf,IntKind.min,IntKind.max,IntKind.signed,IntKind.bits] using h
theorem i2a{x:Int}(h:(Lit.int .u16 x).wf=true):0<=x/\x<=65535:=by simpa[Lit.wf,IntKind.min,IntKind.max,IntKind.signed,IntKind.bits] using h
theorem Y1a{x:Int}(h:(Lit.int .u32 x).wf=true):0<=x/\x<=4294967295:=by simpa[Lit.wf,IntKind.min,IntKind.max,IntKind.signed,IntKind.bits] using h
theorem Z1a{x:Int}(h:(Lit.int .u64 x).wf=true):0<=x/\x<=18446744073709551615:=by simpa[Lit.wf,IntKind.min,IntKind.max,IntKind.signed,IntKind.bits] using h
theorem W7a{x:Int}(h:(Lit.int .i64 x).wf=true):-9223372036854775808<=x/\x<=9223372036854775807:=by simpa[Lit.wf,IntKind.min,IntKind.max,IntKind.signed,IntKind.bits] using h
end
def E7a(X:Nat->List Int):Nat->List Int
 | 0=>[]
 | k+1=>E7a X k++X k
def X1b(n:Nat->Nat):Nat->Nat
 | 0=>0
 | k+1=>X1b n k+n k
theorem S0c(n:Nat->Nat){k m:Nat}(h:k<=m):X1b n k<=X1b n m:=by
 induction m with
 | zero=>
  obtain rfl:k=0:=by omega
  exact Nat.le_refl _
 | succ m ih=>
  by_cases he:k=m+1
  ·subst he;exact Nat.le_refl _
  ·have:=ih (by omega);simp only[X1b];omega
theorem K9b{X:Nat->List Int}{n:Nat->Nat}{m:Nat}(h:∀i,i<m->(X i).length=n i){k:Nat}(hk:k<=m):(E7a X k).length=X1b n k:=by
 induction k with
 | zero=>rfl
 | succ k ih=>simp only[E7a,X1b,List.length_append,ih (by omega),h k (by omega)]
structure o4a (w:World) (gs m:Nat) (A:Nat->Option Addr) (n c:Nat->Nat) (X:Nat->List Int):Prop where
 lt:gs<w.heap.size
 cell:∀i,i<m->w.cell? ⟨gs,i,none⟩=some (.slice (A i) (n i) (c i))
 holds:∀i,i<m->Holds w w.heap.size (A i) (n i) (c i) (X i)
theorem o4a.over{w w':World}{gs m:Nat}{A:Nat->Option Addr}{n c:Nat->Nat}{X:Nat->List Int}(h:o4a w gs m A n c X)(hb:Below w.heap.size w w'):o4a w' gs m A n c X:=⟨Nat.lt_of_lt_of_le h.lt hb.size,λi hi=>by rw[<-h.cell i hi];exact hb.cell (p:=⟨gs,i,none⟩) h.lt,λi hi=>(h.holds i hi).over hb⟩
theorem o4a.drewN{w:World}{gs m:Nat}{A:Nat->Option Addr}{n c:Nat->Nat}{X:Nat->List Int}(h:o4a w gs m A n c X)(d:Nat):o4a (w.drewN d) gs m A n c X:=h.over (G2a w d)
theorem N7b(w:World):Calls Tryz.prog 43 #[.slice none 0 0,.int .i64 0] w λe w'=>e=.returned (.slice none 0 0)/\w=w':=by go_enter Tryz.func43,Tryz.ntmps43;go_wp2_with fail;go_ret;exact⟨rfl,rfl⟩
theorem N2a{w:World}{ops:Array Oper}{rest:List Oper}{o:Oper}{a:Act}{Q:Exit->Act->World->Prop}(hgd:o.guard=none)(s x:Operand)
(ho:o.op=.call { callee:=.builtin .append,args:=#[s,x],argTypes:=#[31,31] })
(base:Nat)(v:Value)(xs:List Int)(hs:a.eval s=v)(hown:X0a .u8 5 w base v xs)(B:Nat)(A:Option Addr)(m c:Nat)(ys:List Int)(hx:a.eval x=.slice A m c)
(hr:Holds w B A m c ys)(hlen:xs.length+ys.length<=140737488355328)(hbase:base<=w.heap.size)
(h:∀v' w',Hid (X0a .u8 5 w' base v' (xs++ys))->Below base w w'->wpList Tryz.prog ops Q rest (a.put o.dst v') w') :
  wpList Tryz.prog ops Q (o::rest) a w:=by
 obtain⟨i0,hi0,hz0,hz1,hz2⟩:=info_parts N3a;have hl:=hr.len;have hOK:=hown.own;rcases A with _ | ad
 ·have hc:=hr.bare rfl;have hf:=hr.fit;have hm:m=0:=by omega
  subst hm;subst hc;have:ys=[]:=List.eq_nil_of_length_eq_zero hl;subst this;refine wpList_append_own_none hgd s x 31 ho base 5 i0 1 Tryz.underlying31 hi0 v xs.length _ hs hOK hx ?_;exact h v w (by rw[List.append_nil];exact hown) (Below.refl _ _)
 ·have hnews:∀j y,(ys.map (Value.int .u8))[j]? = some y->w.cell? (ad.add j)=some y:=by
   intro j u hj;have hjl:j<ys.length:=by
    by_cases hj':j<ys.length
    ·exact hj'
    ·rw[List.getElem?_eq_none (by simp;omega)] at hj;cases hj
   obtain⟨b,off,he,_,hcl⟩:=hr.cells (by omega);obtain rfl:=Option.some.inj he;have e:(⟨b,off,none⟩:Addr).add j=⟨b,off+j,none⟩:=by
    by_cases hj0:j=0
    ·subst hj0;simp[Addr.add]
    ·simp[Addr.add,hj0]
   rw[e,hcl j (by omega),<-hj];simp[hjl]
  have h1:∀y∈ys.map (Value.int .u8),y.oneCell'=true:=by intro v hv;obtain⟨x,_,rfl⟩:=List.mem_map.1 hv;rfl
  have hmax:maxLen=9223372036854775807:=rfl;have key:∀ty,∃v' w',(Builtin.append_ #[31,31] ty #[v,.slice (some ad) m c]).run Tryz.prog w=.ok v' w'/\X0a .u8 5 w' base v' (xs++ys)/\w.grownBy w' v.ownBlock:=by
   intro ty;rcases hown with⟨rfl,rfl⟩ | ⟨g,z,rfl,hb,hz,hg⟩
   ·by_cases hm0:m=0
    ·subst hm0;have:ys=[]:=List.eq_nil_of_length_eq_zero hl;subst this;obtain⟨v',w',hrun,_,hgr,hnil⟩:=run_append_own (P:=Tryz.prog) w base 31 ty 5 i0 (.int .u8 0) 1 1 Tryz.underlying31 hi0 hz0 hz1 hz2 rfl (by omega) (.slice none 0 0) 0 [] (World.ownsRow_nil w base _ 1) ad 0 c [] rfl (λj u hj=>by cases hj) (λu hu=>by cases hu) (by omega) (by omega) hbase;obtain rfl:=hnil.2 ⟨rfl,rfl⟩;exact⟨_,_,hrun,X0a.nil _ _ _ _,hgr⟩
    ·have hrun:=run_append_nil (P:=Tryz.prog) w 31 ty 5 i0 (.int .u8 0) Tryz.underlying31 hi0 hz0 ad m c (ys.map (Value.int .u8)) (by simp[hl,hz1]) hnews (by omega) (by omega) (by rw[hz2];simp at hlen;omega);exact⟨_,_,hrun,by simpa using v5a .u8 5 w base ys 0 m hl hbase (by omega),⟨rfl,rfl,rfl,by simp,λj hj _=>Below.heap_alloc w.drew _ j hj⟩⟩
   ·by_cases hroom:xs.length+m<=xs.length+z
    ·have hrun:=run_append_room (P:=Tryz.prog) w 31 ty 5 i0 Tryz.underlying31 hi0 g xs.length (xs.length+z) _ hg ad m c (ys.map (Value.int .u8)) (by simp[hl,hz1]) hnews h1 hroom (by simp[hz1];omega);refine⟨_,_,hrun,.inr ⟨g,z-m,by simp[hl];omega,hb,by simp;omega,?_⟩,⟨rfl,rfl,rfl,by simp,λj _ hj=>setRow_other w g j _ (λe=>hj (by simp[Value.ownBlock,e]))⟩⟩;rw[setRow_heap w g _ _ 5 _ hg]
     congr 2
     have e1:((xs++List.replicate z 0).map (Value.int .u8)).take (xs.length*i0.size)=xs.map (Value.int .u8):=by rw[hz1,Nat.mul_one,List.map_append,List.take_left' (by simp)]
     have e2:((xs++List.replicate z 0).map (Value.int .u8)).drop (xs.length*i0.size+(ys.map (Value.int .u8)).length)=(List.replicate (z-m) 0).map (Value.int .u8):=by rw[hz1,Nat.mul_one,List.length_map,hl,<-List.drop_drop,List.map_append,List.drop_left' (by simp),<-List.map_drop,List.drop_replicate]
     rw[e1,e2];simp
    ·have o0a:∀j y,(xs.map (Value.int .u8))[j]? = some y->w.cell? ((⟨g,0,none⟩:Addr).add j)=some y:=hOK.cells (g:=g) rfl;have hrun:=run_append_grow (P:=Tryz.prog) w 31 ty 5 i0 (.int .u8 0) Tryz.underlying31 hi0 hz0 ⟨g,0,none⟩ xs.length (xs.length+z) (xs.map (Value.int .u8)) (by simp[hz1]) o0a ad m c (ys.map (Value.int .u8)) (by simp[hl,hz1]) hnews (by omega) (by omega) (growslice_fits (by omega) (by rw[hz2];omega));refine⟨_,_,hrun,?_,⟨rfl,rfl,rfl,by simp,λj hj _=>Below.heap_alloc w.drew _ j hj⟩⟩;have:=v5a .u8 5 w base (xs++ys) (xs.length+z) (xs.length+m) (by simp[hl]) hbase (by omega);simpa using this
  refine wpList_plain hgd λK hK'=>?_
  obtain⟨v',w',hrun,h2,h3⟩:=key o.type;unfold Oper.wp execOp;simp only[ho,resolve,invoke,builtin,Sem.run_bind,Sem.run_pure,Result.andThen_ok,List.map_toArray,List.map_cons,List.map_nil,hs,hx,hrun];exact hK' _ _ (h v' w' h2 ((Below.refl _ _).grown h3 hbase (λk hk=>(World.ownsRow.lt hOK k hk).1)))
theorem O7b(w:World)(n:Nat)(h0:0<n)(h1:n<=281474976710656) :
  Calls Tryz.prog 43 #[.slice none 0 0,.int .i64 n] w λe w'=>∃v,e=.returned v/\X0a .u8 5 w' w.heap.size v []/\Below w.heap.size w w':=by
 obtain⟨i0,hi,hz0,hz1,hz2⟩:=info_parts N3a;have hrun:=λty=>Lib.run_append_nil_zeros (P:=Tryz.prog) w 31 3 ty 5 i0 (.int .u8 0) .i64 .i64 Tryz.underlying31 Tryz.underlying3 hi hz0 n h0 (by omega) (by omega) (by rw[hz2];omega)
 have hge:=grownCap_ge w n 0 5;have hle:=grownCap_le_maxLen w n 0 5 (by rw[show maxLen=9223372036854775807 from rfl];omega);obtain⟨c,hc⟩:∃c,c=grownCap w n 0 5:=⟨_,rfl⟩;rw[<-hc] at hrun hge hle;have hown:X0a .u8 5 (w.drew.alloc (.cells (Builtin.zeroCells (Value.int .u8 0).cells n++Builtin.zeroCells (Value.int .u8 0).cells (c-n)) 5)) w.heap.size (.slice (some ⟨w.heap.size,0,none⟩) 0 c) []:=by refine .inr ⟨w.heap.size,c,by simp,Nat.le_refl _,by simpa using hle,?_⟩;rw[A3a,A3a,List.append_toArray,List.replicate_append_replicate,show n+(c-n)=c by omega,List.nil_append,List.map_replicate];exact heap_alloc_new w.drew _
 have hbel:Below w.heap.size w (w.drew.alloc (.cells (Builtin.zeroCells (Value.int .u8 0).cells n++Builtin.zeroCells (Value.int .u8 0).cells (c-n)) 5)):=((Below.refl _ w).drew).alloc (Nat.le_refl _) _;obtain⟨w1,hw1⟩:∃w1,w1=(w.drew.alloc (.cells (Builtin.zeroCells (Value.int .u8 0).cells n++Builtin.zeroCells (Value.int .u8 0).cells (c-n)) 5)):=⟨_,rfl⟩;rw[<-hw1] at hown hbel hrun;have HR:=hI hrun;have HO:=hI hown;have hcn:(n:Int)<=(c:Int):=by omega
 have hc63:c<=9223372036854775807:=hle;clear hrun hown hc hw1 hi hz0 hz1 hz2 hge hle;go_enter Tryz.func43,Tryz.ntmps43;go_wp2_with(first
  | (at_builtin;refine Lib.wpList_append_run _ rfl (.tmp 20) (.tmp 21) 31 3 rfl (.slice none 0 0) (.int .i64 n) rfl rfl _ w1 (HR.out _) ?_)
  | fail)
 go_ret;exact⟨_,rfl,HO.out,hbel⟩
theorem P7b(w:World)(n:Nat)(h1:n<=281474976710656) :
  Calls Tryz.prog 43 #[.slice none 0 0,.int .i64 n] w λe w'=>∃v,e=.returned v/\X0a .u8 5 w' w.heap.size v []/\Below w.heap.size w w':=by
 by_cases h0:n=0
 ·subst h0;refine(N7b w).mono ?_;rintro e w' ⟨rfl,rfl⟩;exact⟨_,rfl,X0a.nil _ _ _ _,Below.refl _ _⟩
 ·exact O7b w n (by omega) h1
theorem X2a(w:World)(gs m:Nat)(A:Nat->Option Addr)(n c:Nat->Nat)(X:Nat->List Int)(hP:o4a w gs m A n c X)(hm:m<=1000)(hb:X1b n m<=140737488355328) :
  Calls Tryz.prog 22 #[.slice (some ⟨gs,0,none⟩) m m] w λe w'=>∃v,e=.returned v/\X0a .u8 5 w' w.heap.size v (E7a X m)/\Below w.heap.size w w':=by
 have cg:=λw=>hI (P7b w (X1b n m) (by omega))
 have HBq:Hid (∀k,k<=m->X1b n k<=140737488355328):=λk hk=>by have:=S0c n hk;omega
 have HP:=hI hP;have HC:Hid (∀k,k<=m->(E7a X k).length=X1b n k):=λk hk=>K9b (λi hi=>(hP.holds i hi).len) hk
 have hgs:=hP.lt;have hcell:=hP.cell;clear hP hb;go_enter Tryz.func22,Tryz.ntmps22;go_wp2_with fail;go_loop [3,11] (λsz i=>∃k:Nat,k<=m/\i=.int .i64 k/\sz=.int .i64 (X1b n k:Nat)) (λ_ i=>m-(intOf i).toNat)
 case atStart=>exact⟨0,by omega,rfl,rfl⟩
 case round=>
  obtain⟨k,hk,rfl,rfl⟩:=hrel;by_cases hlt:k<m
  ·have q0:=hcell k hlt;have hs1:=HBq.out (k+1) (by omega);have hs0:X1b n k<=140737488355328:=HBq.out k hk;have hnk:n k<=140737488355328:=by simp only[X1b] at hs1;omega
   obtain⟨s0,es0⟩:∃s0,s0=X1b n k:=⟨_,rfl⟩;obtain⟨nk,enk⟩:∃nk,nk=n k:=⟨_,rfl⟩;have es1:X1b n (k+1)=s0+nk:=by rw[es0,enk];rfl
   rw[<-es0] at hs0⊢;rw[<-enk] at hnk q0;have ES:=hI es1;clear es0 enk es1 hs1 hcell;go_wp2_with fail;go_round
   case rel=>exact⟨k+1,by omega,by go_num,by rw[ES.out];go_num⟩
   case measure=>simp[intOf];omega
  ·obtain rfl:k=m:=by omega
   clear hcell;go_wp2_with fail;refine(cg _).out.mono ?_;rintro e w1 ⟨v1,rfl,ho1,hbel1⟩;have HO1:=hI ho1;clear ho1;go_wp2_with fail;have hbs1:=hbel1.size;go_loopw [6,27] (λv i wr=>∃j:Nat,j<=k/\i=.int .i64 j/\Hid (X0a .u8 5 wr w.heap.size v (E7a X j))/\Below w.heap.size w wr) (λ_ i _=>k-(intOf i).toNat)
   case atStart=>exact⟨0,by omega,rfl,HO1,hbel1⟩
   case round=>
    obtain⟨j,hj,rfl,hO,hbl⟩:=hrel;by_cases hlt2:j<k
    ·have q0:wr.cell? ⟨gs,j,none⟩=some (.slice (A j) (n j) (c j)):=by rw[<-HP.out.cell j hlt2];exact hbl.cell (p:=⟨gs,j,none⟩) hgs
     have hH:=(HP.out.holds j hlt2).below hbl;have hlen:(E7a X j).length+(X j).length<=140737488355328:=by have h1:=HBq.out (j+1) (by omega);rw[HC.out j hj,hH.len];simp only[X1b] at h1;exact h1
     have hsz:=hI hbl.size;have HE:Hid (E7a X (j+1)=E7a X j++X j):=rfl;obtain⟨Aj,eA⟩:∃Aj,Aj=A j:=⟨_,rfl⟩;obtain⟨nj,en⟩:∃nj,nj=n j:=⟨_,rfl⟩;obtain⟨cj,ec⟩:∃cj,cj=c j:=⟨_,rfl⟩;rw[<-eA,<-en,<-ec] at q0 hH;have HH:=hI hH;have HLn:=hI hlen;clear hH hlen eA en ec;go_wp2_with(first
      | (at_builtin;refine N2a rfl (.tmp 31) (.tmp 32) rfl w.heap.size _ _ rfl hO.out w.heap.size Aj nj cj (X j) rfl HH.out HLn.out hsz.out ?_;intro v2 w2 ho2 hb2)
      | fail)
     go_roundw
     case rel=>exact⟨j+1,by omega,by go_num,by rw[HE.out];exact ho2,hbl.trans hb2⟩
     case measure=>simp[intOf];omega
    ·obtain rfl:j=k:=by omega
     go_wp2_with fail;go_ret;exact⟨_,rfl,hO.out,hbl⟩
abbrev d3b:=Option Addr×Nat×Nat×List Int
def O3b(p:d3b):Value:=.slice p.1 p.2.1 p.2.2.1
def t6b:d3b:=(none,0,0,[])
def Y1b(l:List d3b)(i:Nat):Option Addr:=(l.getD i t6b).1
def R0b(l:List d3b)(i:Nat):Nat:=(l.getD i t6b).2.1
def Z1b(l:List d3b)(i:Nat):Nat:=(l.getD i t6b).2.2.1
def d4a(l:List d3b)(i:Nat):List Int:=(l.getD i t6b).2.2.2
theorem o4a.lit(w:World)(l:List d3b)(T:TypeId)(hh:∀p∈l,Holds w w.heap.size p.1 p.2.1 p.2.2.1 p.2.2.2) :
  o4a (w.alloc (.cells (l.map O3b).toArray T)) w.heap.size l.length (Y1b l) (R0b l) (Z1b l) (d4a l):=by
 have hb:Below w.heap.size w (w.alloc (.cells (l.map O3b).toArray T)):=(Below.refl _ _).alloc (Nat.le_refl _) _;refine⟨by simp,λi hi=>?_,λi hi=>?_⟩
 ·have hr:(w.alloc (.cells (l.map O3b).toArray T)).heap[w.heap.size]? = some (.cells (l.map O3b).toArray T (0,0)):=heap_alloc_new w _;rw[cell_of_row _ w.heap.size i _ T (0,0) hr];simp[Y1b,R0b,Z1b,List.getD_eq_getElem?_getD,hi,O3b]
 ·have he:l.getD i t6b=l[i]:=by simp[List.getD_eq_getElem?_getD,hi]
  have:=hh l[i] (List.getElem_mem hi);unfold Y1b R0b Z1b d4a;rw[he];exact this.over hb
section
variable {ops:Array Oper} {rest:List Oper} {o:Oper} {a:Act} {w:World} {Q:Exit->Act->World->Prop}
theorem Q2a(hg:o.guard=none)(n:Nat)(parts:Array (Nat×Operand))(ho:o.op=.buildSlice 93 n parts)(l:List d3b)(hl:l.length=n)
(hf:Tryz.prog.builtSlice 31 n (parts.map fun (i,x)=>(i,a.eval x)).toList=some (l.map O3b).toArray)(hh:∀p∈l,Holds w w.heap.size p.1 p.2.1 p.2.2.1 p.2.2.2)
(h:∀g w',Hid (o4a w' g n (Y1b l) (R0b l) (Z1b l) (d4a l))->Hid (Below w.heap.size w w')->wpList Tryz.prog ops Q rest (a.put o.dst (.slice (some ⟨g,0,none⟩) n n)) w') :
  wpList Tryz.prog ops Q (o::rest) a w:=by
 subst hl;exact Great.wpList_buildSliceTo hg _ _ _ parts ho w.heap.size rfl _ rfl Tryz.underlying93 _ hf (h _ _ (o4a.lit w l _ hh) ((Below.refl _ _).alloc (Nat.le_refl _) _))
end
theorem below_drewN{B:Nat}{a w:World}(h:Below B a w)(n:Nat):Below B a (w.drewN n):=h.trans ⟨rfl,rfl,rfl,Nat.le_refl _,λ_ _=>rfl⟩
theorem P3b{xs ys:List Int}{k:Nat}(hx:k<xs.length)(hy:k<ys.length)(h:xs.take k=ys.take k)(he:xs.getD k 0=ys.getD k 0):xs.take (k+1)=ys.take (k+1):=by
 rw[List.take_succ_eq_append_getElem hx,List.take_succ_eq_append_getElem hy,h];have e:xs[k]=ys[k]:=by simpa[List.getD_eq_getElem?_getD,hx,hy] using he
 rw[e]
theorem u6b{xs ys:List Int}{k:Nat}(he:¬xs.getD k 0=ys.getD k 0):decide (xs=ys)=false:=by rw[decide_eq_false_iff_not];rintro rfl;exact he rfl
theorem v6b{xs ys:List Int}{n:Nat}(hx:xs.length=n)(hy:ys.length=n)(h:xs.take n=ys.take n):decide (xs=ys)=true:=by
 rw[decide_eq_true_iff]
 rwa [List.take_of_length_le (by omega),List.take_of_length_le (by omega)] at h
theorem e3b(w:World)(B B':Nat)(A A':Option Addr)(n c n' c':Nat)(xs ys:List Int)(h:Holds w B A n c xs)(h':Holds w B' A' n' c' ys) :
  Calls Tryz.prog 10 #[.slice A n c,.slice A' n' c'] w λe w'=>e=.returned (.bool (decide (xs=ys)))/\∃k,w.drewN k=w':=by
 have hl:=h.len;have hl':=h'.len;have hf:=h.fit;have hr:=h.room;have hf':=h'.fit;have hr':=h'.room;by_cases hn:n=n'
 ·subst hn;have HL:=hI hl;have HL':=hI hl';clear hl hl';go_enter Tryz.func10,Tryz.ntmps10;go_wp2;go_loopw [5] (λi wr=>∃k:Nat,k<=n/\i=.int .i64 k/\Hid (xs.take k=ys.take k)/\∃j,wr=w.drewN j) (λi _=>n-(intOf i).toNat)
  case atStart=>exact⟨0,Nat.zero_le _,rfl,by simp[Hid],0,rfl⟩
  case round=>
   obtain⟨k,hk,rfl,HT,j,rfl⟩:=hrel;by_cases hlt:k<n
   ·obtain⟨b,off,rfl,hb,hc⟩:=h.cells (by omega);obtain⟨b',off',rfl,hb',hc'⟩:=h'.cells (by omega);have gc:=hc k hlt;have gc':=hc' k hlt;clear hc hc';obtain⟨x,hx⟩:∃x,x=xs.getD k 0:=⟨_,rfl⟩;obtain⟨y,hy⟩:∃y,y=ys.getD k 0:=⟨_,rfl⟩;rw[<-hx] at gc;rw[<-hy] at gc';have HX:=hI hx;have HY:=hI hy;clear hx hy;by_cases he:x=y
    ·have hS:Hid (xs.take (k+1)=ys.take (k+1)):=P3b (by have:=HL.out;omega) (by have:=HL'.out;omega) HT.out (by rw[<-HX.out,<-HY.out,he]);clear HX HY HT;subst he;have hb0:(x != x)=false:=by simp
     go_wp2;go_quiet (fail);go_wp2;go_roundw
     case rel=>exact⟨k+1,by omega,by go_num,hS,_,rfl⟩
     case measure=>simp[intOf];omega
    ·have hS:=hI (u6b (xs:=xs) (ys:=ys) (k:=k) (by rw[<-HX.out,<-HY.out];exact he));clear HX HY HT;have hb0:(x != y)=true:=by simpa using he
     clear he;go_wp2;go_quiet (fail);go_wp2;go_ret;exact⟨K0a hS.out.symm,_,(World.drewN_drewN ..).symm⟩
   ·have hS:=hI (v6b (n:=n) HL.out HL'.out (by have:=HT.out;rwa [show k=n from by omega] at this));clear HT;go_wp2;go_ret;exact⟨K0a hS.out.symm,_,rfl⟩
 ·have e1:decide (xs=ys)=false:=by rw[decide_eq_false_iff_not];rintro rfl;omega
  have hne:((n:Int)==(n':Int))=false:=by simp;omega
  have hne':((n:Int) != (n':Int))=true:=by simp;omega
  rw[e1];clear e1 hl hl';go_enter Tryz.func10,Tryz.ntmps10;go_wp2;go_ret;exact⟨rfl,0,rfl⟩
def Arr(w:World)(g:Nat)(k:IntKind)(T:TypeId)(xs:List Int):Prop:=w.heap[g]? = some (.cells (xs.map (Value.int k)).toArray T (0,0))
structure T1a (g:Nat) (w w':World):Prop where
 os:w'.os=w.os
 tape:w'.tape=w.tape
 output:w'.output=w.output
 size:w'.heap.size=w.heap.size
 rest:∀j,j≠g->w'.heap[j]? = w.heap[j]?
section
variable {w w' w2:World} {g h B:Nat} {k k':IntKind} {T T':TypeId} {xs ys:List Int}
theorem T1a.refl(g:Nat)(w:World):T1a g w w:=⟨rfl,rfl,rfl,rfl,λ_ _=>rfl⟩
theorem T1a.trans(a:T1a g w w')(b:T1a g w' w2):T1a g w w2:=⟨b.os.trans a.os,b.tape.trans a.tape,b.output.trans a.output,b.size.trans a.size,λj hj=>(b.rest j hj).trans (a.rest j hj)⟩
theorem T1a.setCell(a:T1a g w w')(i:Nat)(v:Value):T1a g w (w'.setCell ⟨g,i,none⟩ v):=a.trans ⟨rfl,rfl,rfl,by simp,λj hj=>Below.heap_setCell _ _ _ _ hj⟩
theorem T1a.setRow(a:T1a g w w')(cs:Array Value):T1a g w (w'.setRow g cs):=a.trans ⟨rfl,rfl,rfl,by simp,λj hj=>setRow_other _ _ _ _ hj⟩
theorem T1a.drewN(a:T1a g w w')(n:Nat):T1a g w (w'.drewN n):=a.trans ⟨rfl,rfl,rfl,rfl,λ_ _=>rfl⟩
theorem T1a.below(a:T1a g w w')(hB:B<=g):Below B w w':=⟨a.os,a.tape,a.output,by rw[a.size];exact Nat.le_refl _,λj hj=>a.rest j (by omega)⟩
theorem Arr.lt(h:Arr w g k T xs):g<w.heap.size:=(Array.getElem?_eq_some_iff.1 h).1
theorem Arr.cell(h:Arr w g k T xs){i:Nat}(hi:i<xs.length):w.cell? ⟨g,i,none⟩=some (.int k (xs.getD i 0)):=by rw[cell_of_row w g i _ T (0,0) h];simp[hi]
theorem Arr.frozen(h:Arr w g k T xs)(i:Nat):w.frozen? ⟨g,i,none⟩=false:=frozen_of_row w g i _ T h
theorem Arr.below(h:Arr w g k T xs)(hb:Below B w w')(hg:g<B):Arr w' g k T xs:=(hb.block g hg).trans h
theorem Arr.over(h:Arr w g k T xs)(hb:Below w.heap.size w w'):Arr w' g k T xs:=h.below hb h.lt
theorem Arr.only(a:Arr w g k T xs)(hb:T1a h w w')(hg:g≠h):Arr w' g k T xs:=(hb.rest g hg).trans a
theorem Arr.set(h:Arr w g k T xs)(i:Nat)(u:Int):Arr (w.setCell ⟨g,i,none⟩ (.int k u)) g k T (xs.set i u):=by have h1:=heap_setCell_same w g i _ T (.int k u) h;unfold Arr;rw[h1];simp[List.map_set]
theorem Arr.drewN(h:Arr w g k T xs)(n:Nat):Arr (w.drewN n) g k T xs:=h
theorem Arr.drew(h:Arr w g k T xs):Arr w.drew g k T xs:=h
theorem Arr.ne(a:Arr w g k T xs)(b:Arr w h k' T' ys)(hT:T≠T'):g≠h:=by rintro rfl;unfold Arr at a b;rw[a] at b;simp only[Option.some.injEq,Obj.cells.injEq] at b;exact hT b.2.1
theorem Arr.new(w:World)(k:IntKind)(T:TypeId)(xs:List Int):Arr (w.alloc (.cells (xs.map (Value.int k)).toArray T)) w.heap.size k T xs:=heap_alloc_new w _
end
section
variable {P:Program} {ops:Array Oper} {rest:List Oper} {o:Oper} {a:Act} {w:World} {Q:Exit->Act->World->Prop}
end
def Blk(w:World)(g:Nat)(T:TypeId)(cs:List Value):Prop:=w.heap[g]? = some (.cells cs.toArray T (0,0))
def o0a(h:Hd):List Value:=.int .u16 h.ch::.int .u32 h.st::.int .u16 h.cm::.int .u16 h.cr::.int .u32 h.fl::.int .u32 h.nx::.int .u64 h.id::.int .u64 h.asy::.int .u32 h.tr::.int .u64 h.se::h.sg.map (Value.int .u8)
def hv(h:Hd):Value:=.agg (o0a h).toArray
def HB(w:World)(g:Nat)(h:Hd):Prop:=Blk w g 28 (o0a h)
structure Q0a (g:Nat) (w w':World):Prop where
 os:w'.os=w.os
 tape:w'.tape=w.tape
 output:w'.output=w.output
 size:w.heap.size<=w'.heap.size
 rest:∀j,j<w.heap.size->j≠g->w'.heap[j]? = w.heap[j]?
section
variable {w w' w2:World} {g g' B:Nat} {T T':TypeId} {cs cs':List Value} {h h':Hd} {k:IntKind} {xs:List Int}
theorem Q0a.refl(g:Nat)(w:World):Q0a g w w:=⟨rfl,rfl,rfl,Nat.le_refl _,λ_ _ _=>rfl⟩
theorem Q0a.trans(a:Q0a g w w')(b:Q0a g w' w2):Q0a g w w2:=⟨b.os.trans a.os,b.tape.trans a.tape,b.output.trans a.output,Nat.le_trans a.size b.size,λj hj hg=>(b.rest j (Nat.lt_of_lt_of_le hj a.size) hg).trans (a.rest j hj hg)⟩
theorem Q0a.of_below(hb:Below w.heap.size w w')(g:Nat):Q0a g w w':=⟨hb.os,hb.tape,hb.output,hb.size,λj hj _=>hb.block j hj⟩
theorem Q0a.of_only(hO:T1a g w w'):Q0a g w w':=⟨hO.os,hO.tape,hO.output,Nat.le_of_eq hO.size.symm,λj _ hg=>hO.rest j hg⟩
theorem Q0a.below(a:Q0a g w w')(hg:B<=g)(hB:B<=w.heap.size):Below B w w':=⟨a.os,a.tape,a.output,a.size,λj hj=>a.rest j (by omega) (by omega)⟩
theorem g1a(w:World)(g i:Nat)(v:Value):T1a g w (w.setCell ⟨g,i,none⟩ v):=(T1a.refl g w).setCell i v
theorem c0a(hb:Below B w w')(hO:T1a g w' w2)(hg:B<=g):Below B w w2:=hb.trans (hO.below hg)
theorem Blk.lt(a:Blk w g T cs):g<w.heap.size:=(Array.getElem?_eq_some_iff.1 a).1
theorem Blk.cell(a:Blk w g T cs)(i:Nat):w.cell? ⟨g,i,none⟩=cs[i]?:=by rw[cell_of_row w g i _ T (0,0) a];simp
theorem Blk.frozen(a:Blk w g T cs)(i:Nat):w.frozen? ⟨g,i,none⟩=false:=frozen_of_row w g i _ T a
theorem Blk.below(a:Blk w g T cs)(hb:Below B w w')(hg:g<B):Blk w' g T cs:=(hb.block g hg).trans a
theorem Blk.over(a:Blk w g T cs)(hb:Below w.heap.size w w'):Blk w' g T cs:=a.below hb a.lt
theorem Blk.only(a:Blk w g T cs)(hO:T1a g' w w')(hg:g≠g'):Blk w' g T cs:=(hO.rest g hg).trans a
theorem Blk.save(a:Blk w g T cs)(hS:Q0a g' w w')(hg:g≠g'):Blk w' g T cs:=(hS.rest g a.lt hg).trans a
theorem Blk.drew(a:Blk w g T cs):Blk w.drew g T cs:=a
theorem Blk.drewN(a:Blk w g T cs)(n:Nat):Blk (w.drewN n) g T cs:=a
theorem Blk.alloc(a:Blk w g T cs)(o:Obj):Blk (w.alloc o) g T cs:=(Below.heap_alloc _ _ _ a.lt).trans a
theorem Blk.new(w:World)(T:TypeId)(cs:List Value):Blk (w.alloc (.cells cs.toArray T)) w.heap.size T cs:=heap_alloc_new w _
theorem Blk.set(a:Blk w g T cs)(i:Nat)(v:Value):Blk (w.setCell ⟨g,i,none⟩ v) g T (cs.set i v):=by have h1:=heap_setCell_same w g i _ T v a;unfold Blk;rw[h1];simp
theorem Blk.range(a:Blk w g T cs)(o:Nat):w.rangeAt g o (cs.drop o):=λj v hj=>by rw[a.cell,<-hj,List.getElem?_drop]
theorem Row.save(a:Row w g xs)(hS:Q0a g' w w')(hg:g≠g'):Row w' g xs:=(hS.rest g a.lt hg).trans a
theorem Row.only(a:Row w g xs)(hO:T1a g' w w')(hg:g≠g'):Row w' g xs:=(hO.rest g hg).trans a
theorem Row.over(a:Row w g xs)(hb:Below w.heap.size w w'):Row w' g xs:=a.below hb a.lt
theorem Holds.only{A:Option Addr}{n c:Nat}(a:Holds w B A n c xs)(hO:T1a g' w w')(hg:B<=g'):Holds w' B A n c xs:=a.below (hO.below hg)
theorem L0a(hk:h.ok):(o0a h).length=26:=by simp[o0a,hk.len]
theorem v2a(h:Hd):∀v∈o0a h,v.oneCell'=true:=by intro v hv;simp only[o0a,List.mem_cons,List.mem_map] at hv;rcases hv with rfl | rfl | rfl | rfl | rfl | rfl | rfl | rfl | rfl | rfl | ⟨x,_,rfl⟩<;>rfl
theorem HB.of(e:cs=o0a h)(a:Blk w g 28 cs):HB w g h:=by subst e;exact a
theorem HB.c0(a:HB w g h):w.cell? ⟨g,0,none⟩=some (.int .u16 h.ch):=Blk.cell a 0
theorem HB.c1(a:HB w g h):w.cell? ⟨g,1,none⟩=some (.int .u32 h.st):=Blk.cell a 1
theorem HB.c2(a:HB w g h):w.cell? ⟨g,2,none⟩=some (.int .u16 h.cm):=Blk.cell a 2
theorem HB.c3(a:HB w g h):w.cell? ⟨g,3,none⟩=some (.int .u16 h.cr):=Blk.cell a 3
theorem HB.c4(a:HB w g h):w.cell? ⟨g,4,none⟩=some (.int .u32 h.fl):=Blk.cell a 4
theorem HB.c5(a:HB w g h):w.cell? ⟨g,5,none⟩=some (.int .u32 h.nx):=Blk.cell a 5
theorem HB.c6(a:HB w g h):w.cell? ⟨g,6,none⟩=some (.int .u64 h.id):=Blk.cell a 6
theorem HB.c7(a:HB w g h):w.cell? ⟨g,7,none⟩=some (.int .u64 h.asy):=Blk.cell a 7
theorem HB.c8(a:HB w g h):w.cell? ⟨g,8,none⟩=some (.int .u32 h.tr):=Blk.cell a 8
theorem HB.c9(a:HB w g h):w.cell? ⟨g,9,none⟩=some (.int .u64 h.se):=Blk.cell a 9
theorem HB.sgc(a:HB w g h){i:Nat}(hi:i<h.sg.length):w.cell? ⟨g,10+i,none⟩=some (.int .u8 (h.sg.getD i 0)):=by
 rw[Blk.cell a (10+i),show(o0a h)[10+i]? = (h.sg.map (Value.int .u8))[i]? from by rw[Nat.add_comm];rfl]
 simp[hi]
theorem HB.sig(a:HB w g h)(hk:h.ok):Holds w w.heap.size (some ⟨g,10,none⟩) 16 16 h.sg:=⟨hk.len,Nat.le_refl _,by omega,hk.byte,λhA=>(by cases hA),λ_=>⟨g,10,rfl,Blk.lt a,λi hi=>a.sgc (by rw[hk.len];exact hi)⟩⟩
end
section
variable {P:Program} {ops:Array Oper} {rest:List Oper} {o:Oper} {a:Act} {w:World} {Q:Exit->Act->World->Prop}
theorem f0a(hg:o.guard=none)(T:TypeId)(x:Operand)(ho:o.op=.box T x)(cs:List Value)(hx:a.eval x=.agg cs.toArray)
(h:∀g w',w.heap.size<=g->g<w'.heap.size->Hid (Blk w' g T cs)->Hid (Below w.heap.size w w')->wpList P ops Q rest (a.put o.dst (.pointer (some ⟨g,0,none⟩))) w'):wpList P ops Q (o::rest) a w:=by
 refine wpList_plain hg λK hK=>?_
 unfold Oper.wp execOp;simp only[ho,hx,Sem.run_bind,Instr.box,newVar,newRow,run_newObj_alloc,Sem.run_pure,Result.andThen_ok];refine hK _ _ (h _ _ (Nat.le_refl _) (by simp) ?_ ((Below.refl _ _).alloc (Nat.le_refl _) _));exact Blk.new w T cs
theorem a2b(hg:o.guard=none)(T:TypeId)(x:Operand)(ho:o.op=.box T x)(v:Value)(hx:a.eval x=v)(hv:v.cells=#[v])
(h:∀g w',w.heap.size<=g->g<w'.heap.size->Hid (Blk w' g T [v])->Hid (Below w.heap.size w w')->wpList P ops Q rest (a.put o.dst (.pointer (some ⟨g,0,none⟩))) w'):wpList P ops Q (o::rest) a w:=by
 refine wpList_plain hg λK hK=>?_
 unfold Oper.wp execOp;simp only[ho,hx,hv,Sem.run_bind,Instr.box,newVar,newRow,run_newObj_alloc,Sem.run_pure,Result.andThen_ok];refine hK _ _ (h _ _ (Nat.le_refl _) (by simp) ?_ ((Below.refl _ _).alloc (Nat.le_refl _) _));exact Blk.new w T [v]
theorem a0a(hg:o.guard=none)(T:TypeId)(ho:o.op=.alloc T)(zs:List Value)(n:Nat)(hi:Hid ((P.info? T).map (λi=>(i.zero,i.size))=some (some (.agg zs.toArray),n)))
(h:∀g w',w.heap.size<=g->g<w'.heap.size->Hid (Blk w' g T zs)->Hid (Below w.heap.size w w')->wpList P ops Q rest (a.put o.dst (.pointer (some ⟨g,0,none⟩))) w'):wpList P ops Q (o::rest) a w:=by
 refine wpList_plain hg λK hK=>?_
 unfold Oper.wp execOp;have hz:=(zero_of_info hi.out).1;simp only[ho,Sem.run_bind,Instr.alloc,hz,newVar,newRow,run_newObj_alloc,Sem.run_pure,Result.andThen_ok];refine hK _ _ (h _ _ (Nat.le_refl _) (by simp) ?_ ((Below.refl _ _).alloc (Nat.le_refl _) _));exact Blk.new w T zs
theorem e0a(hg:o.guard=none)(T:TypeId)(x:Operand)(ho:o.op=.load T x)(g:Nat)(hx:a.eval x=.pointer (some ⟨g,0,none⟩))(T':TypeId)(cs:List Value)(hA:Hid (Blk w g T' cs))(n:Nat)(d:TypeDesc)
(hu:P.underlying T=some d)(hd:(match d with | .struct _ | .array _ _=>true | _=>false)=true)(hi:(P.info? T).map (·.size)=some n)(hn:Hid (cs.length=n))
(h:wpList P ops Q rest (a.put o.dst (.agg cs.toArray)) w):wpList P ops Q (o::rest) a w:=wpList_load_row hg T x ho g hx T' _ (0,0) d hA.out hu hd (by rw[hi];have:=hn.out;simp[this]) h
theorem b0a(hg:o.guard=none)(T:TypeId)(x y:Operand)(ho:o.op=.store T x y)(g:Nat)(hx:a.eval x=.pointer (some ⟨g,0,none⟩))(T':TypeId)(cs ds:List Value)(hy:a.eval y=.agg ds.toArray)
(hA:Hid (Blk w g T' cs))(n:Nat)(hi:(P.info? T).map (·.size)=some n)(hn:Hid (cs.length=n))(hm:Hid (ds.length=n))(h1:Hid (∀v∈ds,v.oneCell'=true))
(h:∀w',Hid (Blk w' g T' ds)->Hid (T1a g w w')->g<w'.heap.size->wpList P ops Q rest a w')(hd:o.dst=none:=by rfl):wpList P ops Q (o::rest) a w:=by
 refine wpList_store_row hg T x y ho g _ hx hy T' _ hA.out (by rw[hi];have:=hm.out;simp[this]) (by have:=hm.out;have:=hn.out;simp_all) (all_oneCell_toArray h1.out) ?_;have hp:a.put o.dst undef=a:=by rw[hd];rfl
 rw[hp];refine h _ ?_ ((T1a.refl g w).setRow _) (by rw[size_setRow];exact hA.out.lt);exact setRow_heap w g _ _ T' (0,0) hA.out
theorem B6a(w:World)(g i:Nat)(T' ty:TypeId)(cs:List Value)(u:Value)(hB:Blk w g T' cs)(hi:i<cs.length)(hs:(P.info? ty).map (·.size)=some 1)(h1:u.oneCell'=true) :
  (storeVar ty ⟨g,i,none⟩ u).run P w=.ok () (w.setCell ⟨g,i,none⟩ u):=by
 have hc:u.cells=#[u]:=by cases u<;>first | rfl | (simp[Value.oneCell'] at h1)
 have:=run_storeCells_cells (P:=P) g i [u] 0 w (λj hj=>by
   obtain rfl:j=0:=by simpa using hj
   show(w.cell? ⟨g,i,none⟩).isSome=true
   rw[hB.cell];simp[hi]) (λj _=>hB.frozen _) (λx hx=>by obtain rfl:=List.mem_singleton.1 hx;exact h1)
 cases hq:P.info? ty with
 | none=>simp[hq] at hs
 | some q=>
  have hz:q.size=1:=by simpa[hq] using hs
  simp[storeVar,sizeOf,typeInfo,hq,hc,hz];simpa[World.setCells] using this
theorem d0a(hg:o.guard=none)(T:TypeId)(x y:Operand)(ho:o.op=.store T x y)(g i:Nat)(hx:a.eval x=.pointer (some ⟨g,i,none⟩))(T':TypeId)(cs:List Value)(u:Value)(hy:a.eval y=u)
(hA:Hid (Blk w g T' cs))(hi:Hid (i<cs.length))(hs:(P.info? T).map (·.size)=some 1)(h1:u.oneCell'=true)
(h:∀w',Hid (Blk w' g T' (cs.set i u))->Hid (T1a g w w')->g<w'.heap.size->wpList P ops Q rest a w')(hd:o.dst=none:=by rfl):wpList P ops Q (o::rest) a w:=by
 have hp:a.put o.dst undef=a:=by rw[hd];rfl
 refine wpList_plain hg λK hK=>?_
 unfold Oper.wp execOp;simp only[ho,hx,hy,Instr.storeAt,Instr.sureAddr,Sem.run_bind,Sem.run_pure,Result.andThen_ok,B6a w g i T' T cs u hA.out hi.out hs h1];show K (a.put o.dst undef) _
 rw[hp];refine hK _ _ (h _ ?_ (g1a w g i u) ?_)
 ·exact hA.out.set i u
 ·have:=(g1a w g i u).size;rw[this];exact hA.out.lt
theorem s1a(hg:o.guard=none)(t e:TypeId)(len:Nat)(parts:Array (Nat×Operand))(ho:o.op=.buildSlice t len parts)(hu:P.underlying t=some (.slice e))(cs:List Value)
(hf:P.builtSlice e len (parts.map fun (i,x)=>(i,a.eval x)).toList=some cs.toArray)
(h:∀g w',w.heap.size<=g->g<w'.heap.size->Hid (Blk w' g e cs)->Hid (Below w.heap.size w w')->wpList P ops Q rest (a.put o.dst (.slice (some ⟨g,0,none⟩) len len)) w'):wpList P ops Q (o::rest) a w:=_root_.Go.Great.wpList_buildSliceTo hg t e len parts ho w.heap.size rfl _ rfl hu cs.toArray hf (h _ _ (Nat.le_refl _) (by simp) (Blk.new w e cs) ((Below.refl _ _).alloc (Nat.le_refl _) _))
theorem O0a{K:Act->World->Prop}{E:Prop}(hg:o.guard=none)(t e:TypeId)(len:Nat)(parts:Array (Nat×Operand))(ho:o.op=.buildSlice t len parts)(hu:P.underlying t=some (.slice e))(cs:List Value)
(hf:P.builtSlice e len (parts.map fun (i,x)=>(i,a.eval x)).toList=some cs.toArray)
(h:∀g w',w.heap.size<=g->g<w'.heap.size->Hid (Blk w' g e cs)->Hid (Below w.heap.size w w')->K (a.put o.dst (.slice (some ⟨g,0,none⟩) len len)) w') :
  if Region.wanted o (yielded ops a.tmps)=true then Oper.wp P o a w K Q else E:=by
 have hw:Region.wanted o (yielded ops a.tmps)=true:=by simp[Region.wanted,hg]
 rw[if_pos hw];unfold Program.builtSlice at hf;cases hie:P.info? e with
 | none=>simp[hie] at hf
 | some ie=>
  simp only[hie] at hf;cases hz:ie.zero with
  | none=>simp[hz] at hf
  | some z=>
   simp only[hz] at hf;by_cases hc:len*ie.size>2^24∨len*ie.size=0
   ·simp[hc] at hf
   ·rw[if_neg hc] at hf;exact wp_buildSlice t e len parts ho _ ie z hu hie hz (λh'=>hc (Or.inl h')) (λh'=>hc (Or.inr h')) hf (h _ _ (Nat.le_refl _) (by simp) (Blk.new w e cs) ((Below.refl _ _).alloc (Nat.le_refl _) _))
theorem k0a(hg:o.guard=none)(T:TypeId)(parts:Array (Nat×Operand))(ho:o.op=.build T parts)(cs:List Value)(hf:P.built T (parts.map fun (i,x)=>(i,a.eval x)).toList=some cs.toArray)
(h:wpList P ops Q rest (a.put o.dst (.agg cs.toArray)) w):wpList P ops Q (o::rest) a w:=wpList_buildTo hg T parts ho _ rfl _ hf h
theorem x0a(hg:o.guard=none)(T:TypeId)(ho:o.op=.build T #[])(cs:List Value)(hf:P.built T []=some cs.toArray)
(h:wpList P ops Q rest (a.put o.dst (.agg cs.toArray)) w):wpList P ops Q (o::rest) a w:=by refine wpList_buildTo hg T #[] ho _ rfl cs.toArray ?_ h;rw[<-hf];simp
end
def spliced(cur:List Value)(off:Nat)(xs:List Int):List Value:=cur.take off++(xs.map (Value.int .u8)++cur.drop (off+xs.length))
theorem S6a{w:World}{ops:Array Oper}{rest:List Oper}{o:Oper}{a:Act}{Q:Exit->Act->World->Prop}(hgd:o.guard=none)(d s:Operand)
(ho:o.op=.call { callee:=.builtin .copy,args:=#[d,s],argTypes:=#[31,31] })
(g off:Nat)(T:TypeId)(dLen dCap n c:Nat)(A:Option Addr)(hd:a.eval d=.slice (some ⟨g,off,none⟩) dLen dCap)(hs:a.eval s=.slice A n c)
(cur:List Value)(xs:List Int)(B:Nat)(hrow:Hid (Blk w g T cur))(hx:Holds w B A n c xs)(h0:0<n)(hn:n<=dLen)(hfit:Hid (off+n<=cur.length))
(h:∀w',Hid (Blk w' g T (spliced cur off xs))->Hid (T1a g w w')->wpList Tryz.prog ops Q rest (a.put o.dst (goInt n)) w') :
  wpList Tryz.prog ops Q (o::rest) a w:=by
 have hl:=hx.len;obtain⟨i0,hi,hz0,hz1,hz2⟩:=info_parts N3a;obtain⟨b,so,rfl,_,hc⟩:=hx.cells h0;refine wpList_copy_own hgd d s 31 31 ho 5 Tryz.underlying31 (by rw[hi];simp[hz1]) g off dLen dCap _ n c hd hs cur.toArray T hrow.out (xs.map (Value.int .u8)) (by rw[List.length_map,hl];exact(Nat.min_eq_left hn).symm) ?_ (by have:=hfit.out;simp;omega)
  (by intro v hv;obtain⟨x,_,rfl⟩:=List.mem_map.1 hv;rfl) ?_
 ·intro j v hj;have hjl:j<xs.length:=by
   by_cases hj':j<xs.length
   ·exact hj'
   ·rw[List.getElem?_eq_none (by simp;omega)] at hj;cases hj
  rw[Addr.add_mid,hc j (by omega),<-hj];simp[hjl]
 ·have e:=h (w.setRow g (spliced cur off xs).toArray) (setRow_heap w g _ _ T (0,0) hrow.out) ((T1a.refl g w).setRow _);have e2:goInt (xs.map (Value.int .u8)).length=goInt n:=by rw[List.length_map,hl]
  rw[e2];simpa[spliced] using e
theorem z8a{w:World}{ops:Array Oper}{o:Oper}{a:Act}{K:Act->World->Prop}{Q:Exit->Act->World->Prop}{E:Prop}(hgd:o.guard=none)(d s:Operand)
(ho:o.op=.call { callee:=.builtin .copy,args:=#[d,s],argTypes:=#[31,31] })
(g off:Nat)(T:TypeId)(dLen dCap n c:Nat)(A:Option Addr)(hd:a.eval d=.slice (some ⟨g,off,none⟩) dLen dCap)(hs:a.eval s=.slice A n c)
(cur:List Value)(xs:List Int)(B:Nat)(hrow:Hid (Blk w g T cur))(hx:Holds w B A n c xs)(h0:0<n)(hn:n<=dLen)(hfit:Hid (off+n<=cur.length))
(h:∀w',Hid (Blk w' g T (spliced cur off xs))->Hid (T1a g w w')->K (a.put o.dst (goInt n)) w') :
  if Region.wanted o (yielded ops a.tmps)=true then Oper.wp Tryz.prog o a w K Q else E:=by
 have hw:Region.wanted o (yielded ops a.tmps)=true:=by simp[Region.wanted,hgd]
 rw[if_pos hw];have hl:=hx.len;obtain⟨i0,hi,hz0,hz1,hz2⟩:=info_parts N3a;obtain⟨b,so,rfl,_,hc⟩:=hx.cells h0;have hrun:=run_copy_row (P:=Tryz.prog) w 31 31 o.type 5 g off dLen dCap ⟨b,so,none⟩ n c cur.toArray T (xs.map (Value.int .u8)) Tryz.underlying31 (by rw[hi];simp[hz1]) hrow.out (by rw[List.length_map,hl];exact(Nat.min_eq_left hn).symm)
  (by
   intro j v hj;have hjl:j<xs.length:=by
    by_cases hj':j<xs.length
    ·exact hj'
    ·rw[List.getElem?_eq_none (by simp;omega)] at hj;cases hj
   rw[Addr.add_mid,hc j (by omega),<-hj];simp[hjl]) (by have:=hfit.out;simp;omega) (by intro v hv;obtain⟨x,_,rfl⟩:=List.mem_map.1 hv;rfl)
 unfold Oper.wp;simp[execOp,ho,resolve,invoke,builtin,hd,hs,hrun,Result.andThen];have e:=h (w.setRow g (spliced cur off xs).toArray) (setRow_heap w g _ _ T (0,0) hrow.out) ((T1a.refl g w).setRow _);rw[Oper.upon_value];simpa[spliced,hl] using e
theorem S0b(cur xs:List Int)(off:Nat):spliced (cur.map (Value.int .u8)) off xs=(cur.take off++xs++cur.drop (off+xs.length)).map (Value.int .u8):=by simp[spliced]
theorem T4b(h:Hd)(xs:List Int)(hl:h.sg.length=16)(hx:xs.length=16):spliced (o0a h) 10 xs=o0a { h with sg:=xs }:=by have e:(o0a h).drop (10+xs.length)=[]:=List.drop_of_length_le (by simp[o0a,hl,hx]);unfold spliced;rw[e,List.append_nil];rfl
theorem J0a:(Tryz.prog.info? 28).map (·.size)=some 26:=by kernel_rfl
theorem p9a:(Tryz.prog.info? 28).map (λi=>(i.zero,i.size))=some (some (.agg (o0a N1a).toArray),26):=by kernel_rfl
theorem M5b:Tryz.prog.built 28 []=some (o0a N1a).toArray:=by kernel_rfl
theorem Own.only{w w':World}{base g:Nat}{v:Value}{xs:List Int}(h:Own w base v xs)(hO:T1a g w w')(hg:g<base):Own w' base v xs:=by
 refine⟨h.1,?_⟩;rcases h.2 with h0 | ⟨q,cap,cur,rfl,h1,hq,rest⟩
 ·exact .inl h0
 ·exact .inr ⟨q,cap,cur,rfl,h1,(hO.rest q (by omega)).trans hq,rest⟩
def O5a(w:World)(xs:List Int)(a most:Int)(e:Ending)(w':World):Prop:=∃A' m,e=.returned (.tuple #[.slice A' m m,.int .i64 (B3a xs a most),.int .i64 (W1a xs a most)])/\m=(a2a xs a most).length/\r2a w' w.heap.size A' (a2a xs a most)/\Below w.heap.size w w'
def h3a(w:World)(xs:List Int)(a:Int)(e:Ending)(w':World):Prop:=e=.returned (.tuple #[.string ⟨(X1a xs a).toArray⟩,.int .i64 (a1a xs a),.int .i64 (Y0a xs a)])/\Below w.heap.size w w'
theorem H0c(n:Nat)(h:n<=65535):p5a (n:Int) 2=le n 2/\z6a (n:Int) 2=0:=by
 have e:A4a (n:Int) 2=true:=by unfold A4a;rw[show j3a 2=true from rfl,show((2:Int).toNat)=2 from rfl,show(256:Int)^2=65536 from by decide,decide_eq_true (by omega:(n:Int)<65536)];rfl
 unfold p5a z6a;rw[if_pos e,if_pos e];exact⟨rfl,rfl⟩
theorem T0c(n:Nat)(h:¬n<=65535):z6a (n:Int) 2=2/\p5a (n:Int) 2=[]:=by
 have e:A4a (n:Int) 2=false:=by unfold A4a;rw[show((2:Int).toNat)=2 from rfl,show(256:Int)^2=65536 from by decide,decide_eq_false (by omega:¬(n:Int)<65536)];simp
 unfold z6a p5a;rw[if_neg (by simp[e]),if_neg (by simp[e])];exact⟨rfl,rfl⟩
theorem U4b(xs:List Int)(a most:Int)(h:j2a xs.length a 2≠0):W1a xs a most=j2a xs.length a 2:=by
 unfold j2a R0a at h⊢;rw[if_pos (by rfl)] at h⊢;unfold W1a;by_cases h1:a<0∨(xs.length:Int)<a
 ·rw[if_pos h1,if_pos (by omega)]
 ·rw[if_neg (show ¬(a<0∨(xs.length:Int)<a∨(2:Int)<0) by omega)] at h;rw[if_neg (show ¬(a<0∨(xs.length:Int)<a∨(2:Int)<0) by omega)];rw[if_neg h1];by_cases h2:(xs.length:Int)-a<2
  ·rw[if_pos h2,if_pos h2]
  ·rw[if_neg h2] at h;exact absurd rfl h
theorem Q7b(xs:List Int)(a:Int)(h:j2a xs.length a 2=0):0<=a/\a+2<=xs.length/\r4a xs a 2=W9a xs a:=by
 have h':=h;unfold j2a R0a at h;rw[if_pos (by rfl)] at h;by_cases h1:a<0∨(xs.length:Int)<a∨(2:Int)<0
 ·rw[if_pos h1] at h;omega
 ·rw[if_neg h1] at h;by_cases h2:(xs.length:Int)-a<2
  ·rw[if_pos h2] at h;omega
  ·refine⟨by omega,by omega,?_⟩;unfold r4a W9a Z0a;rw[if_pos h'];rfl
theorem T0b(w:World)(base:Nat):r2a w base none []:=.inl ⟨rfl,rfl⟩
theorem w6b(w:World)(A:Option Addr)(n c:Nat)(xs:List Int)(a most:Int)(h:Holds w w.heap.size A n c xs)(ha:-9223372036854775808<=a/\a<=9223372036854775807)(hm:-9223372036854775808<=most/\most<=9223372036854775807) :
  Calls Tryz.prog 180 #[.slice A n c,.int .i64 a,.int .i64 most] w (O5a w xs a most):=by
 have hl:=h.len;have hr:=h.room;have hf:=h.fit;have C1:=c8a w w.heap.size A n c xs a 2 h ha (by omega);have HE:Hid (∀er,W1a xs a most=er->er≠0->∀e w',e=.returned (.tuple #[.slice none 0 0,.int .i64 0,.int .i64 er])->Below w.heap.size w w'->O5a w xs a most e w'):=by intro er h1 h2 e w' he hb;unfold O5a B3a a2a;rw[h1,if_neg h2,if_neg h2];exact⟨none,0,he,rfl,T0b _ _,hb⟩
 obtain⟨ha0,ha1⟩:=ha;obtain⟨hm0,hm1⟩:=hm;by_cases h1:j2a n a 2=0;rotate_left
 ·have HQ:=hI (HE.out _ (U4b xs a most (by rw[hl];exact h1)) (by rw[hl];exact h1));rw[hl] at HQ;have hne:(j2a n a 2 != 0)=true:=by simpa using h1
  obtain⟨er,her⟩:∃er,er=j2a n a 2:=⟨_,rfl⟩;rw[<-her] at HQ C1 hne;have C1':=hI C1;clear HE h hl C1 her h1;go_enter Tryz.func180,Tryz.ntmps180;go_wp2_with fail;refine C1'.out.mono ?_;rintro e w1 ⟨rfl,rfl⟩;go_wp2;go_ret3;exact HQ.out _ _ rfl (Below.refl _ _)
 obtain⟨g0,g1,g2⟩:=Q7b xs a (by rw[hl];exact h1);rw[hl] at g1;rw[h1,g2] at C1;obtain⟨p,rfl⟩:=Int.eq_ofNat_of_zero_le g0;have hNb:=d5a xs h.byte (p:Int);obtain⟨m,hm'⟩:∃m:Nat,W9a xs (p:Int)=(m:Int):=⟨(W9a xs (p:Int)).toNat,by omega⟩;rw[hm'] at hNb C1;obtain⟨hb0,hb1⟩:=hNb;have hap:¬((p:Int)<0∨(n:Int)<(p:Int)):=by omega
 have hap2:¬((n:Int)-p<2):=by omega
 have hz:IntKind.i64.wrap (m:Int)=m:=by rw[IntKind.wrap_i64]<;>omega
 by_cases h4:most<(m:Int)
 ·have HQ:=hI (HE.out 3 (by unfold W1a;rw[hl,if_neg hap,if_neg hap2,hm',if_pos h4]) (by decide));have C1':=hI C1;clear HE h hl C1 hm' h1 g2;go_enter Tryz.func180,Tryz.ntmps180;go_wp2_with fail;refine C1'.out.mono ?_;rintro e w1 ⟨rfl,rfl⟩;go_wp2;go_ret3;exact HQ.out _ _ rfl (Below.refl _ _)
 have C2:=D7a w A n c xs ((p:Int)+2) (m:Int) h (by omega) (by omega);unfold c4a at C2;have ep:R0a xs.length ((p:Int)+2) (m:Int)=if (n:Int)-p-2<m then 4 else 0:=by
  unfold R0a;rw[hl,if_neg (by omega)];by_cases h5:(n:Int)-p-2<m
  ·rw[if_pos h5,if_pos (by omega)]
  ·rw[if_neg h5,if_neg (by omega)]
 rw[ep] at C2;by_cases h5:(n:Int)-p-2<(m:Int)
 ·have HQ:=hI (HE.out 4 (by unfold W1a;rw[hl,if_neg hap,if_neg hap2,hm',if_neg h4,if_pos h5]) (by decide));rw[if_pos h5] at C2 ep;have ep2:partOf xs ((p:Int)+2) (m:Int)=[]:=by unfold partOf;rw[ep,if_neg (by decide)]
  rw[ep2] at C2;have C1':=hI C1;have C2':=hI C2;clear HE h hl C1 C2 hm' h1 g2 ep ep2;go_enter Tryz.func180,Tryz.ntmps180;go_wp2_with fail;refine C1'.out.mono ?_;rintro e w1 ⟨rfl,rfl⟩;go_wp2_with fail;refine C2'.out.mono ?_;rintro e w1 ⟨A',rfl,hfr,L1⟩;have L1':=hI L1;clear hfr L1;go_wp2;go_ret3;exact HQ.out _ _ rfl L1'.out
 ·have e0:W1a xs (p:Int) most=0:=by unfold W1a;rw[hl,if_neg hap,if_neg hap2,hm',if_neg h4,if_neg h5]
  rw[if_neg h5] at C2 ep;have ep2:partOf xs ((p:Int)+2) (m:Int)=a2a xs (p:Int) most:=by unfold partOf a2a;rw[ep,e0,if_pos rfl,if_pos rfl,hm',show((p:Int)+2).toNat=(p:Int).toNat+2 from by omega]
  rw[ep2] at C2;have hlm:(a2a xs (p:Int) most).length=m:=by have:=o9a h.byte e0;omega
  have HQ:Hid (∀e w',(∃A',e=.returned (.tuple #[.slice A' m m,.int .i64 ((p:Int)+2+m),.int .i64 0])/\r2a w' w.heap.size A' (a2a xs (p:Int) most)/\Below w.heap.size w w')->O5a w xs (p:Int) most e w'):=by rintro e w' ⟨A',h1,h2,h3⟩;unfold O5a B3a;rw[e0,if_pos rfl,hm',hlm];exact⟨A',m,h1,rfl,h2,h3⟩
  rw[hlm] at C2;obtain⟨ys,hys⟩:∃ys,ys=a2a xs (p:Int) most:=⟨_,rfl⟩;rw[<-hys] at C2 HQ;have C1':=hI C1;have C2':=hI C2;clear HE h hl C1 C2 hm' h1 g2 ep ep2 hys hlm e0;go_enter Tryz.func180,Tryz.ntmps180;go_wp2_with fail;refine C1'.out.mono ?_;rintro e w1 ⟨rfl,rfl⟩;go_wp2_with fail;refine C2'.out.mono ?_;rintro e w1 ⟨A',rfl,hfr,L1⟩;have HF:=hI hfr;have L1':=hI L1;clear hfr L1;go_wp2;go_ret3;exact HQ.out _ _ ⟨_,rfl,HF.out,L1'.out⟩
theorem e8a(w:World)(A:Option Addr)(n c:Nat)(xs:List Int)(a:Int)(h:Holds w w.heap.size A n c xs)(ha:-9223372036854775808<=a/\a<=9223372036854775807) :
  Calls Tryz.prog 164 #[.slice A n c,.int .i64 a] w (h3a w xs a):=by
 have C1:=w6b w A n c xs a 512 h ha (by omega);unfold O5a at C1;have HGB:=hI (R6a h.byte a 512);have hle:=N3b h.byte a 512;have hQ:∀e w',h3a w xs a e w'->h3a w xs a e w':=λ_ _ h=>h
 by_cases h0:W1a xs a 512=0;rotate_left
 ·have HQ:Hid (∀e w',e=.returned (.tuple #[.string .empty,.int .i64 0,.int .i64 (W1a xs a 512)])->Below w.heap.size w w'->h3a w xs a e w'):=by
   intro e w' he hb;have e1:Y0a xs a=W1a xs a 512:=by unfold Y0a;rw[if_neg h0]
   unfold h3a X1a a1a;rw[e1,if_neg h0,if_neg h0];exact⟨he,hb⟩
  have hne:(W1a xs a 512 != 0)=true:=by simpa using h0
  obtain⟨er,her⟩:∃er,er=W1a xs a 512:=⟨_,rfl⟩;obtain⟨nx,hnx⟩:∃nx,nx=B3a xs a 512:=⟨_,rfl⟩;obtain⟨ys,hys⟩:∃ys,ys=a2a xs a 512:=⟨_,rfl⟩;rw[<-her] at HQ C1 hne;rw[<-hnx,<-hys] at C1;have C1':=hI C1;clear C1 her hnx hys h0 h HGB hle hQ;go_enter Tryz.func164,Tryz.ntmps164;go_wp2_with fail;refine C1'.out.mono ?_;rintro e w1 ⟨A',m,rfl,hm,hfr,L1⟩;clear hm hfr;go_wp2;go_ret3;exact HQ.out _ _ rfl L1
 have CG:Hid (∀(w:World) (A:Option Addr) (n c:Nat),Holds w w.heap.size A n c (a2a xs a 512)->n<=17592186044416->Calls Tryz.prog 181 #[.slice A n c] w λe w'=>e=.returned (.tuple #[.string ⟨(P3a (a2a xs a 512)).toArray⟩,.int .i64 (J4a (a2a xs a 512))])/\Below w.heap.size w w'):=λw A n c hh hn=>J9b w A n c _ hh hn
 rw[h0] at C1;by_cases h1:J4a (a2a xs a 512)=0
 ·have HQ:Hid (∀e w',e=.returned (.tuple #[.string ⟨(P3a (a2a xs a 512)).toArray⟩,.int .i64 (B3a xs a 512),.int .i64 0])->Below w.heap.size w w'->h3a w xs a e w'):=by
   intro e w' he hb;have e1:Y0a xs a=0:=by unfold Y0a;rw[if_pos h0,h1]
   unfold h3a X1a a1a;rw[e1,if_pos rfl,if_pos rfl];exact⟨he,hb⟩
  rw[h1] at CG;obtain⟨tx,htx⟩:∃tx,tx=P3a (a2a xs a 512):=⟨_,rfl⟩;obtain⟨nx,hnx⟩:∃nx,nx=B3a xs a 512:=⟨_,rfl⟩;obtain⟨ys,hys⟩:∃ys,ys=a2a xs a 512:=⟨_,rfl⟩;rw[<-htx] at HQ CG;rw[<-hnx] at C1 HQ;rw[<-hys] at C1 CG HGB hle;have C1':=hI C1;clear C1 htx hnx hys h0 h1 h hQ;go_enter Tryz.func164,Tryz.ntmps164;go_wp2_with fail;refine C1'.out.mono ?_;rintro e w1 ⟨A',m,rfl,hm,hfr,L1⟩;have HH:=hI (hfr.holds hm.symm HGB.out (by omega));have hml:m<=65535:=by omega
  have M1:=hI L1;clear hm hfr L1 hle;go_wp2_with fail;refine(CG.out _ _ _ _ HH.out (by omega)).mono ?_;rintro e w2 ⟨rfl,L2⟩;go_wp2;go_ret3;exact HQ.out _ _ rfl (step M1.out L2)
 ·have HQ:Hid (∀e w',e=.returned (.tuple #[.string .empty,.int .i64 0,.int .i64 (J4a (a2a xs a 512))])->Below w.heap.size w w'->h3a w xs a e w'):=by
   intro e w' he hb;have e1:Y0a xs a=J4a (a2a xs a 512):=by unfold Y0a;rw[if_pos h0]
   unfold h3a X1a a1a;rw[e1,if_neg h1,if_neg h1];exact⟨he,hb⟩
  have hne:(J4a (a2a xs a 512) != 0)=true:=by simpa using h1
  obtain⟨er,her⟩:∃er,er=J4a (a2a xs a 512):=⟨_,rfl⟩;obtain⟨tx,htx⟩:∃tx,tx=P3a (a2a xs a 512):=⟨_,rfl⟩;obtain⟨nx,hnx⟩:∃nx,nx=B3a xs a 512:=⟨_,rfl⟩;obtain⟨ys,hys⟩:∃ys,ys=a2a xs a 512:=⟨_,rfl⟩;rw[<-her] at HQ CG hne;rw[<-htx] at CG;rw[<-hnx] at C1;rw[<-hys] at C1 CG HGB hle;have C1':=hI C1;clear C1 htx hnx hys h0 h1 h hQ her;go_enter Tryz.func164,Tryz.ntmps164;go_wp2_with fail;refine C1'.out.mono ?_;rintro e w1 ⟨A',m,rfl,hm,hfr,L1⟩;have HH:=hI (hfr.holds hm.symm HGB.out (by omega));have hml:m<=65535:=by omega
  have M1:=hI L1;clear hm hfr L1 hle;go_wp2_with fail;refine(CG.out _ _ _ _ HH.out (by omega)).mono ?_;rintro e w2 ⟨rfl,L2⟩;go_wp2;go_ret3;exact HQ.out _ _ rfl (step M1.out L2)
def V4b(w:World)(n s:Int)(e:Ending)(w':World):Prop:=∃A',e=.returned (.slice A' (p5a n s).length (p5a n s).length)/\r2a w' w.heap.size A' (p5a n s)/\Below w.heap.size w w'
theorem x6b(w:World)(n s:Int)(hn:0<=n/\n<=18446744073709551615)(hs:-9223372036854775808<=s/\s<=9223372036854775807) :
  Calls Tryz.prog 118 #[.int .u64 n,.int .i64 s] w (V4b w n s):=by
 have C1:=d8a w n s hn hs;have HQ:Hid (∀e w',(∃A',e=.returned (.slice A' (p5a n s).length (p5a n s).length)/\r2a w' w.heap.size A' (p5a n s)/\Below w.heap.size w w')->V4b w n s e w'):=λ_ _ h=>h
 unfold e5a at C1;obtain⟨ys,hys⟩:∃ys,ys=p5a n s:=⟨_,rfl⟩;obtain⟨er,her⟩:∃er,er=z6a n s:=⟨_,rfl⟩;rw[<-hys] at C1 HQ;rw[<-her] at C1;obtain⟨m,hm⟩:∃m,m=ys.length:=⟨_,rfl⟩;rw[<-hm] at C1 HQ;have C1':=hI C1;clear C1 hys her hm hn hs;go_enter Tryz.func118,Tryz.ntmps118;go_wp2_with fail;refine C1'.out.mono ?_;rintro e w1 ⟨A',rfl,hfr,L1⟩;have HF:=hI hfr;clear hfr;go_wp2;go_ret;exact HQ.out _ _ ⟨_,rfl,HF.out,L1⟩
def Apart(v u:Value):Prop:=∀i,v.ownBlock=some i->u.ownBlock≠some i
theorem Apart.nil(u:Value):Apart (.slice none 0 0) u:=λi h=>by cases h
theorem Apart.symm{v u:Value}(h:Apart v u):Apart u v:=λi hu hv=>h i hv hu
section
variable {k k':IntKind} {e e':TypeId} {w w':World} {base base':Nat} {v v' u:Value} {xs ys:List Int}
theorem O3a.lt(h:O3a k e w base v xs){i:Nat}(hi:v.ownBlock=some i):i<w.heap.size:=(World.ownsRow.lt h i hi).2
theorem r7b.apart(hg:r7b w w' v)(h':O3a k' e' w base' u ys)(ha:Apart v u):O3a k' e' w' base' u ys:=h'.keep λi cs hi hcs=>by rw[hg.block hcs λhv=>ha i hv hi,hcs]
theorem O3a.grown(h':O3a k' e' w base' u ys)(hg:w.grownBy w' v.ownBlock)(ha:Apart v u):O3a k' e' w' base' u ys:=h'.keep λi _ hi hcs=>hg.block i (Array.getElem?_eq_some_iff.1 hcs).1 λhe=>ha i he.symm hi
def T6a(w:World)(v v':Value):Prop:=v'.ownBlock=v.ownBlock∨∃g,v'.ownBlock=some g/\w.heap.size<=g
end
def Box(w:World)(b:Nat)(T:TypeId)(v:Value):Prop:=w.heap[b]? = some (.cells #[v] T (0,0))
structure U6a (w w':World) (b:Nat) (v:Value):Prop where
 os:w'.os=w.os
 tape:w'.tape=w.tape
 output:w'.output=w.output
 size:w.heap.size<=w'.heap.size
 rest:∀i,i<w.heap.size->i≠b->v.ownBlock≠some i->w'.heap[i]? = w.heap[i]?
section
variable {w w' w2:World} {b b' base base':Nat} {T T' e:TypeId} {v v' u:Value} {k:IntKind} {xs:List Int}
theorem Box.lt(h:Box w b T v):b<w.heap.size:=lt_of_block h
theorem Box.cell(h:Box w b T v):w.cell? ⟨b,0,none⟩=some v:=cell_of_one h
theorem Box.frozen(h:Box w b T v):w.frozen? ⟨b,0,none⟩=false:=free_of_one h
theorem Box.below(h:Box w b T v)(hb:Below w.heap.size w w'):Box w' b T v:=(hb.block b h.lt).trans h
theorem Box.alloc(h:Box w b T v)(o:Obj):Box (w.alloc o) b T v:=(Below.heap_alloc _ _ _ h.lt).trans h
theorem Box.only(h:Box w b T v)(hO:T1a b' w w')(hb:b≠b'):Box w' b T v:=(hO.rest b hb).trans h
theorem Box.ne(h:Box w b T v)(h':Box w b' T' v')(hT:T≠T'):b≠b':=by rintro rfl;unfold Box at h h';rw[h] at h';simp only[Option.some.injEq,Obj.cells.injEq] at h';exact hT h'.2.1
theorem Box.own(h:Box w b T v)(hu:O3a k e w base u xs)(hT:T≠e):u.ownBlock≠some b:=λhv=>by obtain⟨_,cs,hcs⟩:=hu.block hv;unfold Box at h;rw[hcs] at h;simp only[Option.some.injEq,Obj.cells.injEq] at h;exact hT h.2.1.symm
theorem O3a.only(h:O3a k e w base v xs)(hO:T1a b w w')(hB:Box w b T u)(hT:T≠e):O3a k e w' base v xs:=h.keep λi _ hi _=>hO.rest i λhe=>hB.own h hT (he▸hi)
theorem U6a.refl(w:World)(b:Nat)(v:Value):U6a w w b v:=⟨rfl,rfl,rfl,Nat.le_refl _,λ_ _ _ _=>rfl⟩
theorem T6a.refl(w:World)(v:Value):T6a w v v:=.inl rfl
theorem T6a.trans(h:T6a w v v')(h2:T6a w' v' u)(hs:w.heap.size<=w'.heap.size):T6a w v u:=by
 rcases h2 with h2 | ⟨g,h2,h3⟩
 ·rcases h with h | ⟨g,h,h4⟩
  ·exact .inl (h2.trans h)
  ·exact .inr ⟨g,h2.trans h,h4⟩
 ·exact .inr ⟨g,h2,by omega⟩
theorem U6a.append(ht:U6a w w' b v)(hw:T6a w v v')(hg:r7b w' w2 v'){w3:World}(hO:T1a b w2 w3):U6a w w3 b v:=by
 obtain⟨o,hg⟩:=hg;have hs:=hg.size;have ha:(w'.alloc o).heap.size=w'.heap.size+1:=by simp
 refine⟨hO.os.trans (hg.os.trans ht.os),hO.tape.trans (hg.tape.trans ht.tape),hO.output.trans (hg.output.trans ht.output),by rw[hO.size];have:=ht.size;omega,λi hi hb hv=>?_⟩;have hsz:=ht.size;rw[hO.rest i hb,hg.block i (by omega) ?_,Below.heap_alloc _ _ _ (by omega),ht.rest i hi hb hv];rintro he;rcases hw with h | ⟨g,h,h4⟩
 ·exact hv (h▸he.symm)
 ·rw[h] at he;injection he with he
  omega
theorem U6a.trans(ht:U6a w w' b v)(hw:T6a w v v')(ht2:U6a w' w2 b v'):U6a w w2 b v:=by
 have hsz:=ht.size;refine⟨ht2.os.trans ht.os,ht2.tape.trans ht.tape,ht2.output.trans ht.output,by have:=ht2.size;omega,λi hi hb hv=>?_⟩;rw[ht2.rest i (by omega) hb ?_,ht.rest i hi hb hv];intro he;rcases hw with h | ⟨g,h,h4⟩
 ·exact hv (h▸he)
 ·rw[h] at he;injection he with he
  omega
theorem U6a.below(ht:U6a w w' b v)(hbb:base<=b)(ho:O3a k e w base v xs)(hs:base<=w.heap.size):Below base w w':=
 ⟨ht.os,ht.tape,ht.output,ht.size,λi hi=>ht.rest i (by omega) (by omega) λhv=>by have:=(ho.block hv).1;omega⟩
theorem T1a.iter(hO:T1a b w w')(hB:Box w b T v){K:Nat}{s:ByteArray}{p:Nat}(hK:w.heap[K]? = some (.stringIter s p)):w'.heap[K]? = some (.stringIter s p):=by rw[hO.rest K ?_,hK];rintro rfl;unfold Box at hB;rw[hB] at hK;cases hK
theorem Box.iterAt(h:Box w b T v){K:Nat}{s:ByteArray}{p:Nat}(hK:w.heap[K]? = some (.stringIter s p))(p':Nat):Box (w.iterAt K s p') b T v:=(Lib.iterAt_other w K b s p' (λe=>by subst e;unfold Box at h;rw[h] at hK;cases hK)).trans h
end
def q5a{α:Type}(f:α->Value)(e:TypeId)(w:World)(base:Nat)(v:Value)(xs:List α):Prop:=w.ownsRow base e 1 v xs.length (xs.map f)
structure G1a {α:Type} (f:α->Value) (w:World) (B:Nat) (A:Option Addr) (n c:Nat) (xs:List α):Prop where
 len:xs.length=n
 fit:n<=c
 bare:A=none->c=0
 cells:0<n->∃b off,A=some ⟨b,off,none⟩/\b<B/\∀i x,xs[i]? = some x->w.cell? ⟨b,off+i,none⟩=some (f x)
section
variable {α:Type} {f:α->Value} {w w' w2:World} {B B' base base' b:Nat} {A:Option Addr} {n c:Nat} {xs ys:List α} {e e' T:TypeId} {v v' u:Value}
theorem G1a.keep(h:G1a f w B A n c xs)(hk:∀p:Addr,p.block<B->w'.cell? p=w.cell? p):G1a f w' B A n c xs:=
 ⟨h.len,h.fit,h.bare,λhn=>by obtain⟨b,off,e,hb,hc⟩:=h.cells hn;exact⟨b,off,e,hb,λi x hi=>(hk _ hb).trans (hc i x hi)⟩⟩
theorem G1a.mono(h:G1a f w B A n c xs)(hB:B<=B'):G1a f w B' A n c xs:=
 ⟨h.len,h.fit,h.bare,λhn=>by obtain⟨b,off,e,hb,hc⟩:=h.cells hn;exact⟨b,off,e,by omega,hc⟩⟩
theorem G1a.below(h:G1a f w B A n c xs)(hb:Below B w w'):G1a f w' B A n c xs:=h.keep λ_ hp=>hb.cell hp
theorem G1a.over(h:G1a f w w.heap.size A n c xs)(hb:Below w.heap.size w w'):G1a f w' w'.heap.size A n c xs:=(h.below hb).mono hb.size
theorem G1a.head(h:G1a f w B A c c xs)(hn:n<=c):G1a f w B A n c (xs.take n):=
 ⟨by have:=h.len;simp;omega,hn,h.bare,λh0=>by
  obtain⟨b,off,rfl,hb,hc⟩:=h.cells (by omega);refine⟨b,off,rfl,hb,λi x hi=>hc i x ?_⟩;rw[List.getElem?_take] at hi;split at hi
  ·exact hi
  ·cases hi⟩
theorem G1a.nil(f:α->Value)(w:World)(B:Nat):G1a f w B none 0 0 []:=⟨rfl,Nat.le_refl _,λ_=>rfl,λh=>absurd h (by omega)⟩
theorem q5a.nil(f:α->Value)(e:TypeId)(w:World)(base:Nat):q5a f e w base (.slice none 0 0) []:=World.ownsRow_nil w base e 1
theorem q5a.mono(h:q5a f e w base v xs)(hb:base'<=base):q5a f e w base' v xs:=by
 refine⟨h.1,?_⟩;rcases h.2 with h0 | ⟨g,cap,cur,rfl,h1,rest⟩
 ·exact .inl h0
 ·exact .inr ⟨g,cap,cur,rfl,by omega,rest⟩
theorem q5a.keep(h:q5a f e w base v xs)(hk:∀i cs,v.ownBlock=some i->w.heap[i]? = some (.cells cs e (0,0))->w'.heap[i]? = w.heap[i]?):q5a f e w' base v xs:=by
 refine⟨h.1,?_⟩;rcases h.2 with h0 | ⟨g,cap,cur,rfl,h1,hg,rest⟩
 ·exact .inl h0
 ·exact .inr ⟨g,cap,cur,rfl,h1,(hk g cur rfl hg).trans hg,rest⟩
theorem q5a.below(h:q5a f e w base v xs)(hb:Below w.heap.size w w'):q5a f e w' base v xs:=h.keep λi _ _ hi=>hb.block i (Array.getElem?_eq_some_iff.1 hi).1
theorem q5a.alloc(h:q5a f e w base v xs)(o:Obj):q5a f e (w.alloc o) base v xs:=World.ownsRow.alloc h o
theorem q5a.iterAt(h:q5a f e w base v xs){K:Nat}{s:ByteArray}{p:Nat}(hK:w.heap[K]? = some (.stringIter s p))(p':Nat):q5a f e (w.iterAt K s p') base v xs:=h.keep λ_ _ _ hi=>Lib.iterAt_other w K _ s p' (λe=>by subst e;rw[hi] at hK;cases hK)
theorem q5a.block(h:q5a f e w base v xs){i:Nat}(hi:v.ownBlock=some i):base<=i/\∃cs,w.heap[i]? = some (.cells cs e (0,0)):=by
 rcases h.2 with⟨rfl,_⟩ | ⟨g,cap,cur,rfl,h1,hg,rest⟩
 ·cases hi
 ·simp only[Value.ownBlock,Option.some.injEq] at hi;subst hi;exact⟨h1,cur,hg⟩
theorem q5a.lt(h:q5a f e w base v xs){i:Nat}(hi:v.ownBlock=some i):i<w.heap.size:=(World.ownsRow.lt h i hi).2
theorem q5a.open(h:q5a f e w base v xs):∃A n c,v=.slice A n c/\xs.length=n/\n<=c/\n<=9223372036854775807/\(A=none->c=0)/\
  (0<n->∃g,A=some ⟨g,0,none⟩/\base<=g/\g<w.heap.size/\∀i x,xs[i]? = some x->w.cell? ⟨g,i,none⟩=some (f x)):=by
 rcases h.2 with⟨rfl,h0⟩ | ⟨g,cap,cur,rfl,hb,hg,hnc,hcm,hcs,htk⟩
 ·exact⟨none,0,0,rfl,h0,Nat.le_refl _,by omega,λ_=>rfl,λh=>absurd h (by omega)⟩
 ·refine⟨_,_,_,rfl,rfl,hnc,by unfold maxLen at hcm;omega,λhA=>(by cases hA),λh0=>⟨g,rfl,hb,(Array.getElem?_eq_some_iff.1 hg).1,λi x hi=>?_⟩⟩;have hil:i<xs.length:=(List.getElem?_eq_some_iff.1 hi).1;rw[cell_of_row w g i cur e (0,0) hg];have e1:cur[i]? = (cur.toList.take (xs.length*1))[i]?:=by rw[List.getElem?_take,if_pos (by omega),Array.getElem?_toList]
  rw[e1,htk,List.getElem?_map,hi];rfl
theorem q5a.holds(h:q5a f e w base v xs):∃A n c,v=.slice A n c/\G1a f w w.heap.size A n c xs:=by obtain⟨A,n,c,rfl,hl,hf,_,hA,hc⟩:=h.open;refine⟨A,n,c,rfl,hl,hf,hA,λh0=>?_⟩;obtain⟨g,rfl,_,hg,hcc⟩:=hc h0;exact⟨g,0,rfl,hg,λi x hi=>by rw[Nat.zero_add];exact hcc i x hi⟩
theorem q5a.only(h:q5a f e w base v xs)(hO:T1a b w w')(hB:Box w b T u)(hT:T≠e):q5a f e w' base v xs:=
 h.keep λi cs _ hcs=>hO.rest i λhe=>by subst he;unfold Box at hB;rw[hB] at hcs;simp only[Option.some.injEq,Obj.cells.injEq] at hcs;exact hT hcs.2.1
end
section
variable {α:Type} {f:α->Value} {P:Program} {w:World} {ops:Array Oper} {rest:List Oper} {o:Oper} {a:Act} {Q:Exit->Act->World->Prop}
end
section
variable {H:Type} {enc:TypeId×Value->H} {P:Program} {W:World} {base:Nat} {t e:TypeId} {v:Value} {d:DataW H} {p:List MemPlace}
end
section
variable {α:Type} {f:α->Value} {P:Program} {w:World} {ops:Array Oper} {rest:List Oper} {o:Oper} {a:Act} {Q:Exit->Act->World->Prop}
end
section
variable {α:Type} {f:α->Value} {e:TypeId} {w:World} {base g n c:Nat} {xs:List α}
theorem q5a.heap(h:q5a f e w base (.slice (some ⟨g,0,none⟩) n c) xs):base<=g/\xs.length=n/\∃cur:Array Value,w.heap[g]? = some (.cells cur e (0,0))/\n<=cur.size/\cur.toList.take n=xs.map f/\n<=c/\c<=maxLen/\cur.size=c:=by
 rcases h.2 with⟨h0,_⟩ | ⟨g',cap,cur,hv,hb,hg,hnc,hcm,hcs,htk⟩
 ·cases h0
 ·simp only[Value.slice.injEq,Option.some.injEq,Addr.mk.injEq,and_true] at hv;obtain⟨rfl,hn,rfl⟩:=hv;rw[Nat.mul_one] at htk hcs;exact⟨hb,hn.symm,cur,hg,by omega,by rw[hn];exact htk,by omega,hcm,hcs⟩
theorem q5a.set(h:q5a f e w base (.slice (some ⟨g,0,none⟩) n c) xs)(i:Nat)(u:α):q5a f e (w.setCell ⟨g,i,none⟩ (f u)) base (.slice (some ⟨g,0,none⟩) n c) (xs.set i u):=by
 obtain⟨hb,hn,cur,hg,hns,htk,hnc,hcm,hcs⟩:=h.heap;have h1:=heap_setCell_same w g i cur e (f u) hg;have hl:(xs.set i u).length=n:=by rw[List.length_set,hn]
 refine⟨by simp,.inr ⟨g,c,_,by rw[hl],hb,h1,by rw[hl];exact hnc,hcm,by simp[hcs],?_⟩⟩;rw[hl,Nat.mul_one,Array.toList_setIfInBounds,List.take_set,htk,List.map_set]
theorem q5a.frozen(h:q5a f e w base (.slice (some ⟨g,0,none⟩) n c) xs)(i:Nat):w.frozen? ⟨g,i,none⟩=false:=by obtain⟨_,_,cur,hg,_⟩:=h.heap;exact frozen_of_row w g i _ e hg
theorem q5a.cell(h:q5a f e w base (.slice (some ⟨g,0,none⟩) n c) xs){i:Nat}{x:α}(hi:xs[i]? = some x):w.cell? ⟨g,i,none⟩=some (f x):=by
 obtain⟨_,hn,cur,hg,hns,htk,_⟩:=h.heap;have hl:=(List.getElem?_eq_some_iff.1 hi).1;rw[cell_of_row w g i cur e (0,0) hg];have e1:cur[i]? = (cur.toList.take n)[i]?:=by rw[List.getElem?_take,if_pos (by omega),Array.getElem?_toList]
 rw[e1,htk,List.getElem?_map,hi];rfl
end
section
open Go.ChangeShapes Go.WideShapes
variable {H:Type} {enc:TypeId×Value->H} {P:Program} {W:World} {base:Nat} {t e:TypeId} {v:Value} {d:DataW H} {p:List MemPlace}
end
def r5a{α:Type}(f:α->List Value)(s:Nat)(e:TypeId)(w:World)(base:Nat)(v:Value)(xs:List α):Prop:=w.ownsRow base e s v xs.length (xs.flatMap f)
structure d1a {α:Type} (f:α->List Value) (s:Nat) (w:World) (B:Nat) (A:Option Addr) (n c:Nat) (xs:List α):Prop where
 len:xs.length=n
 fit:n<=c
 bare:A=none->c=0
 cells:0<n->∃b off,A=some ⟨b,off,none⟩/\b<B/\∀i x,xs[i]? = some x->∀j u,(f x)[j]? = some u->w.cell? ⟨b,off+(i*s+j),none⟩=some u
theorem f8a{α:Type}{f:α->List Value}{s:Nat}(hs:0<s)(hf:∀x,(f x).length=s):∀(xs:List α) (i:Nat),(xs.flatMap f)[i]? = (xs[i/s]?).bind λx=>(f x)[i%s]?
 | [],i=>by simp
 | x::r,i=>by
  rw[List.flatMap_cons,List.getElem?_append,hf x];by_cases h:i<s
  ·rw[if_pos h,Nat.div_eq_of_lt h,Nat.mod_eq_of_lt h];rfl
  ·rw[if_neg h,f8a hs hf r (i-s)];have e1:i/s=(i-s)/s+1:=by rw[Nat.div_eq_sub_div hs (by omega)]
   have e2:i%s=(i-s)%s:=by rw[Nat.mod_eq_sub_mod (by omega)]
   rw[e1,e2,List.getElem?_cons_succ]
theorem U0b{α:Type}{f:α->List Value}{s:Nat}(hf:∀x,(f x).length=s)(xs:List α):(xs.flatMap f).length=xs.length*s:=by
 induction xs with
 | nil=>simp
 | cons x r ih=>rw[List.flatMap_cons,List.length_append,ih,hf,List.length_cons,Nat.add_mul];omega
section
variable {α:Type} {f:α->List Value} {s:Nat} {w w' w2:World} {B B' base base' b:Nat} {A:Option Addr} {n c:Nat} {xs ys:List α} {e e' T:TypeId} {v v' u:Value}
theorem d1a.keep(h:d1a f s w B A n c xs)(hk:∀p:Addr,p.block<B->w'.cell? p=w.cell? p):d1a f s w' B A n c xs:=
 ⟨h.len,h.fit,h.bare,λhn=>by obtain⟨b,off,e,hb,hc⟩:=h.cells hn;exact⟨b,off,e,hb,λi x hi j u hj=>(hk _ hb).trans (hc i x hi j u hj)⟩⟩
theorem d1a.mono(h:d1a f s w B A n c xs)(hB:B<=B'):d1a f s w B' A n c xs:=
 ⟨h.len,h.fit,h.bare,λhn=>by obtain⟨b,off,e,hb,hc⟩:=h.cells hn;exact⟨b,off,e,by omega,hc⟩⟩
theorem d1a.below(h:d1a f s w B A n c xs)(hb:Below B w w'):d1a f s w' B A n c xs:=h.keep λ_ hp=>hb.cell hp
theorem d1a.over(h:d1a f s w w.heap.size A n c xs)(hb:Below w.heap.size w w'):d1a f s w' w'.heap.size A n c xs:=(h.below hb).mono hb.size
theorem d1a.drew(h:d1a f s w B A n c xs):d1a f s w.drew B A n c xs:=h.keep λ_ _=>rfl
theorem d1a.drewN(h:d1a f s w B A n c xs)(k:Nat):d1a f s (w.drewN k) B A n c xs:=h.keep λ_ _=>rfl
theorem G1a.drew{f:α->Value}(h:G1a f w B A n c xs):G1a f w.drew B A n c xs:=h.keep λ_ _=>rfl
theorem G1a.drewN{f:α->Value}(h:G1a f w B A n c xs)(k:Nat):G1a f (w.drewN k) B A n c xs:=h.keep λ_ _=>rfl
theorem d1a.head(h:d1a f s w B A c c xs)(hn:n<=c):d1a f s w B A n c (xs.take n):=
 ⟨by have:=h.len;simp;omega,hn,h.bare,λh0=>by
  obtain⟨b,off,rfl,hb,hc⟩:=h.cells (by omega);refine⟨b,off,rfl,hb,λi x hi=>hc i x ?_⟩;rw[List.getElem?_take] at hi;split at hi
  ·exact hi
  ·cases hi⟩
theorem d1a.nil(f:α->List Value)(s:Nat)(w:World)(B:Nat):d1a f s w B none 0 0 []:=⟨rfl,Nat.le_refl _,λ_=>rfl,λh=>absurd h (by omega)⟩
theorem d1a.range(h:d1a f s w B A n c xs){b off i:Nat}(hA:A=some ⟨b,off,none⟩)(hi:i<n){x:α}(hx:xs[i]? = some x):w.rangeAt b (off+i*s) (f x):=λj u hj=>by
 obtain⟨b',off',e,_,hc⟩:=h.cells (by omega);rw[hA] at e;injection e with e
 injection e with e1 e2 e3
 subst e1 e2;have:=hc i x hx j u hj
 rwa [<-Nat.add_assoc] at this
theorem r5a.nil(f:α->List Value)(s:Nat)(e:TypeId)(w:World)(base:Nat):r5a f s e w base (.slice none 0 0) []:=World.ownsRow_nil w base e s
theorem r5a.mono(h:r5a f s e w base v xs)(hb:base'<=base):r5a f s e w base' v xs:=by
 refine⟨h.1,?_⟩;rcases h.2 with h0 | ⟨g,cap,cur,rfl,h1,rest⟩
 ·exact .inl h0
 ·exact .inr ⟨g,cap,cur,rfl,by omega,rest⟩
theorem r5a.keep(h:r5a f s e w base v xs)(hk:∀i cs,v.ownBlock=some i->w.heap[i]? = some (.cells cs e (0,0))->w'.heap[i]? = w.heap[i]?):r5a f s e w' base v xs:=by
 refine⟨h.1,?_⟩;rcases h.2 with h0 | ⟨g,cap,cur,rfl,h1,hg,rest⟩
 ·exact .inl h0
 ·exact .inr ⟨g,cap,cur,rfl,h1,(hk g cur rfl hg).trans hg,rest⟩
theorem r5a.below(h:r5a f s e w base v xs)(hb:Below w.heap.size w w'):r5a f s e w' base v xs:=h.keep λi _ _ hi=>hb.block i (Array.getElem?_eq_some_iff.1 hi).1
theorem r5a.only(h:r5a f s e w base v xs)(hO:T1a b w w')(hb:b<base):r5a f s e w' base v xs:=by
 refine⟨h.1,?_⟩;rcases h.2 with h0 | ⟨g,cap,cur,rfl,h1,hg,rest⟩
 ·exact .inl h0
 ·exact .inr ⟨g,cap,cur,rfl,h1,(hO.rest g (by omega)).trans hg,rest⟩
theorem r5a.lt(h:r5a f s e w base v xs){i:Nat}(hi:v.ownBlock=some i):i<w.heap.size:=(World.ownsRow.lt h i hi).2
theorem r5a.holds(hs:0<s)(hf:∀x,(f x).length=s)(h:r5a f s e w base v xs):∃A n c,v=.slice A n c/\d1a f s w w.heap.size A n c xs:=by
 rcases h.2 with⟨rfl,h0⟩ | ⟨g,cap,cur,rfl,hb,hg,hnc,hcm,hcs,htk⟩
 ·have:xs=[]:=List.eq_nil_of_length_eq_zero h0;subst this;exact⟨none,0,0,rfl,d1a.nil f s w _⟩
 ·refine⟨_,_,_,rfl,rfl,hnc,λhA=>(by cases hA),λh0=>⟨g,0,rfl,(Array.getElem?_eq_some_iff.1 hg).1,λi x hi j u hj=>?_⟩⟩;have hil:i<xs.length:=(List.getElem?_eq_some_iff.1 hi).1;have hjs:j<s:=by rw[<-hf x];exact(List.getElem?_eq_some_iff.1 hj).1
  have hlt:i*s+j<xs.length*s:=by have:(i+1)*s<=xs.length*s:=Nat.mul_le_mul_right s hil;rw[Nat.add_mul] at this;omega
  rw[Nat.zero_add,cell_of_row w g _ cur e (0,0) hg];have e1:cur[i*s+j]? = (cur.toList.take (xs.length*s))[i*s+j]?:=by rw[List.getElem?_take,if_pos hlt,Array.getElem?_toList]
  rw[e1,htk,f8a hs hf,show(i*s+j)/s=i from by rw[Nat.mul_comm,Nat.mul_add_div hs,Nat.div_eq_of_lt hjs,Nat.add_zero],show(i*s+j)%s=j from by rw[Nat.mul_comm,Nat.mul_add_mod,Nat.mod_eq_of_lt hjs],hi];exact hj
end
section
variable {α:Type} {f:α->List Value} {s:Nat} {P:Program} {w:World} {ops:Array Oper} {rest:List Oper} {o:Oper} {a:Act} {Q:Exit->Act->World->Prop}
theorem Q3a(hgd:o.guard=none)(l x:Operand)(f:α->List Value)(s:Nat)(hs0:0<s)(hfl:∀y,(f y).length=s)(hf:∀y,∀u∈f y,u.oneCell'=true)(z:Value)(hzc:z.cells.size=s)(T e:TypeId)(bytes:Nat)
(ht:P.underlying T=some (.slice e))(hi:(P.info? e).map (λi=>(i.zero,i.size,i.bytes))=some (some z,s,bytes))
(ho:o.op=.call { callee:=.builtin .append,args:=#[l,x],argTypes:=#[T,T] })
(base:Nat)(v:Value)(xs:List α)(hs:a.eval l=v)(hown:r5a f s e w base v xs)(B:Nat)(A:Option Addr)(m c:Nat)(ys:List α)(hx:a.eval x=.slice A m c)
(hr:d1a f s w B A m c ys)(hlen:(xs.length+ys.length)*bytes<=140737488355328)(h63:xs.length+ys.length<=9223372036854775807)(hbase:base<=w.heap.size)
(h:∀v' w',Hid (r5a f s e w' base v' (xs++ys))->Hid (Below base w w')->wpList P ops Q rest (a.put o.dst v') w') :
  wpList P ops Q (o::rest) a w:=by
 obtain⟨i0,hi0,hz0,hz1,hz2⟩:=info_parts hi;have hl:=hr.len;rcases A with _ | ad
 ·have hc:=hr.bare rfl;have hft:=hr.fit;have hm:m=0:=by omega
  subst hm;subst hc;have:ys=[]:=List.eq_nil_of_length_eq_zero hl;subst this;refine wpList_append_own_none hgd l x T ho base e i0 s ht hi0 v xs.length _ hs hown hx ?_;exact h v w (by rw[List.append_nil];exact hown) (Below.refl _ _)
 ·refine wpList_append_own w hgd l x T ho base e i0 z s bytes ht hi0 hz0 hz1 hz2 hzc hs0 v xs.length _ hs hown ad m c (ys.flatMap f) hx (by rw[U0b hfl,hl]) ?_
   (by intro v hv;obtain⟨x,_,hx⟩:=List.mem_flatMap.1 hv;exact hf x v hx) (by unfold maxLen;omega) (by rw[<-hl];exact hlen) hbase ?_
  ·intro j u hj;have hjl:j<(ys.flatMap f).length:=(List.getElem?_eq_some_iff.1 hj).1;rw[U0b hfl] at hjl;have hm0:0<m:=by
    rcases Nat.eq_zero_or_pos m with h0 | h0
    ·rw[hl,h0,Nat.zero_mul] at hjl;omega
    ·exact h0
   obtain⟨b,off,he,_,hcl⟩:=hr.cells hm0;injection he with he
   subst he;have e:(⟨b,off,none⟩:Addr).add j=⟨b,off+j,none⟩:=by
    by_cases hj0:j=0
    ·subst hj0;simp[Addr.add]
    ·simp[Addr.add,hj0]
   rw[e];rw[f8a hs0 hfl,Option.bind_eq_some_iff] at hj;obtain⟨y,hy,hu⟩:=hj;have:=hcl _ y hy _ u hu
   rwa [Nat.mul_comm,Nat.div_add_mod] at this
  ·intro v' w' hown' hgr _;refine h v' w' ?_ ((Below.refl _ _).grown hgr hbase (λk hk=>(World.ownsRow.lt hown k hk).1));show World.ownsRow _ _ _ _ _ _ _
   rw[List.length_append,List.flatMap_append,hl];exact hown'
end
end Go.Proofs.YtgfflnjggnadpaaGreatDoor
