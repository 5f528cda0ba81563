import Derived.Test.YtgfflnjggnadpaaGreatDoorRows
import Derived.Laws.CopyOwn
import Derived.Laws.AppendOwnNone
import Derived.Lib.Hide
import Derived.Shelf.Utf8.AppendRunePlain
import Derived.Shelf.Bytes.SlSearch0
import Derived.Shelf.Bytes.SlEqualAll
import Derived.Shelf.Unicode.ValidAny
import Derived.WalkSpells
import Derived.WalkLawsBesides
import Derived.ProofKit
import Derived.OpenShut
import Derived.ShutString
import Derived.Lib.AppendZeros
import Derived.Great.Walk
import Derived.Deep.WholeRow
import Derived.Deep.MidRow
import Derived.Deep.Strs
import Derived.Test.YtgfflnjggnadpaaGreatDoorS0
set_option linter.all false
set_option maxHeartbeats 8000000
set_option maxRecDepth 100000
namespace Go.Proofs.YtgfflnjggnadpaaGreatDoor
open Go.RowKit
def Bytes(xs:List Int):Prop:=∀x∈xs,0<=x/\x<=255
theorem Bytes.nil:Bytes []:=λ_ h=>by cases h
theorem Bytes.take{xs:List Int}(h:Bytes xs)(k:Nat):Bytes (xs.take k):=λx hx=>h x (List.mem_of_mem_take hx)
theorem Bytes.drop{xs:List Int}(h:Bytes xs)(k:Nat):Bytes (xs.drop k):=λx hx=>h x (List.mem_of_mem_drop hx)
theorem Bytes.append{xs ys:List Int}(h:Bytes xs)(k:Bytes ys):Bytes (xs++ys):=λx hx=>by
 rcases List.mem_append.1 hx with h1 | h1
 ·exact h x h1
 ·exact k x h1
theorem Bytes.getD{xs:List Int}(h:Bytes xs)(i:Nat):0<=xs.getD i 0/\xs.getD i 0<=255:=by
 by_cases hi:i<xs.length
 ·rw[List.getD_eq_getElem?_getD,List.getElem?_eq_getElem hi];exact h _ (List.getElem_mem hi)
 ·rw[List.getD_eq_getElem?_getD,List.getElem?_eq_none (by omega)];simp
theorem Bytes.of_all{xs:List Int}(h:xs.all (λx=>decide (0<=x)&&decide (x<=255))=true):Bytes xs:=λx hx=>by have:=List.all_eq_true.1 h x hx;simpa using this
theorem Bytes.zeros(n:Nat):Bytes (List.replicate n 0):=λx hx=>by rw[List.eq_of_mem_replicate hx];omega
structure Holds (w:World) (B:Nat) (A:Option Addr) (n c:Nat) (xs:List Int):Prop where
 len:xs.length=n
 fit:n<=c
 room:n<=281474976710656
 byte:Bytes xs
 bare:A=none->c=0
 cells:0<n->∃b off,A=some ⟨b,off,none⟩/\b<B/\∀i,i<n->w.cell? ⟨b,off+i,none⟩=some (.int .u8 (xs.getD i 0))
section
variable {w w':World} {B B':Nat} {A:Option Addr} {n c:Nat} {xs:List Int}
theorem Holds.nil(w:World)(B:Nat):Holds w B none 0 0 []:=⟨rfl,Nat.le_refl _,by omega,Bytes.nil,λ_=>rfl,λh=>absurd h (by omega)⟩
theorem Holds.keep(h:Holds w B A n c xs)(hk:∀p:Addr,p.block<B->w'.cell? p=w.cell? p):Holds w' B A n c xs:=
 ⟨h.len,h.fit,h.room,h.byte,h.bare,λhn=>by obtain⟨b,off,e,hb,hc⟩:=h.cells hn;exact⟨b,off,e,hb,λi hi=>(hk _ hb).trans (hc i hi)⟩⟩
theorem Holds.mono(h:Holds w B A n c xs)(hB:B<=B'):Holds w B' A n c xs:=
 ⟨h.len,h.fit,h.room,h.byte,h.bare,λhn=>by obtain⟨b,off,e,hb,hc⟩:=h.cells hn;exact⟨b,off,e,by omega,hc⟩⟩
theorem Holds.below(h:Holds w B A n c xs)(hb:Below B w w'):Holds w' B A n c xs:=h.keep λ_ hp=>hb.cell hp
theorem Holds.over(h:Holds w w.heap.size A n c xs)(hb:Below w.heap.size w w'):Holds w' w'.heap.size A n c xs:=(h.below hb).mono hb.size
theorem Holds.drewN(h:Holds w B A n c xs)(k:Nat):Holds (w.drewN k) B A n c xs:=h.keep λ_ _=>rfl
theorem Holds.drew(h:Holds w B A n c xs):Holds w.drew B A n c xs:=h.keep λ_ _=>rfl
theorem Holds.empty(w:World)(B:Nat)(A:Option Addr)(c:Nat)(hc:A=none->c=0):Holds w B A 0 c []:=⟨rfl,Nat.zero_le _,by omega,Bytes.nil,hc,λh=>absurd h (by omega)⟩
theorem Holds.cut(h:Holds w B A n c xs){k m:Nat}(hk:k+m<=n)(hm:0<m):Holds w B (A.map (·.add k)) m m ((xs.drop k).take m):=by
 have hl:=h.len;refine⟨by simp;omega,Nat.le_refl _,by have:=h.room;omega,(h.byte.drop k).take m,λhA=>?_,λhm=>?_⟩
 ·obtain⟨b,off,rfl,_⟩:=h.cells (by omega);cases hA
 obtain⟨b,off,rfl,hb,hc⟩:=h.cells (by omega);refine⟨b,off+k,?_,hb,λi hi=>?_⟩
 ·by_cases hk0:k=0
  ·subst hk0;simp[Addr.add]
  ·simp[Addr.add,hk0]
 ·rw[Nat.add_assoc,hc (k+i) (by omega)];simp[List.getD_eq_getElem?_getD,List.getElem?_drop,hi]
theorem Holds.part(h:Holds w B A n c xs){k m c':Nat}(hk:k+m<=n)(hm:0<m)(hc':m<=c'):Holds w B (A.map (·.add k)) m c' ((xs.drop k).take m):=by have h1:=h.cut hk hm;exact⟨h1.len,hc',h1.room,h1.byte,λhA=>by have:=h1.bare hA;omega,h1.cells⟩
end
theorem step{a b c:World}(h1:Below a.heap.size a b)(h2:Below b.heap.size b c):Below a.heap.size a c:=h1.trans (h2.mono h1.size)
theorem b6a(w:World)(k:Nat):Below w.heap.size w (w.drewN k):=⟨rfl,rfl,rfl,Nat.le_refl _,λ_ _=>rfl⟩
theorem H0a{a b:Bool}(h:a=b):Ending.returned (.bool a)=.returned (.bool b):=by rw[h]
def le(n:Int):Nat->List Int
 | 0=>[]
 | s+1=>n%256::le (n/256) s
def num:List Int->Int
 | []=>0
 | x::r=>x+256*num r
theorem m0a(n:Int)(s:Nat):(le n s).length=s:=by
 induction s generalizing n with
 | zero=>rfl
 | succ s ih=>simp[le,ih]
theorem F0a(n:Int)(s:Nat):Bytes (le n s):=by
 induction s generalizing n with
 | zero=>exact Bytes.nil
 | succ s ih=>
  intro x hx;rcases List.mem_cons.1 hx with rfl | hx
  ·omega
  ·exact ih _ x hx
theorem l8b(n:Int)(s:Nat)(h0:0<=n)(h:n<256^s):num (le n s)=n:=by
 induction s generalizing n with
 | zero=>simp at h;simp[le,num];omega
 | succ s ih=>have:=ih (n/256) (by omega) (by rw[Int.pow_succ] at h;omega);simp only[le,num,this];omega
theorem l0b(xs:List Int)(h:Bytes xs):0<=num xs/\num xs<256^xs.length:=by
 induction xs with
 | nil=>simp[num]
 | cons x r ih=>
  have h1:=h x List.mem_cons_self;have h2:=ih λy hy=>h y (List.mem_cons_of_mem _ hy)
  simp only[num,List.length_cons,Int.pow_succ];omega
theorem m8b(xs:List Int)(h:Bytes xs):le (num xs) xs.length=xs:=by
 induction xs with
 | nil=>rfl
 | cons x r ih=>
  have h1:=h x List.mem_cons_self;have h2:=ih λy hy=>h y (List.mem_cons_of_mem _ hy)
  simp only[num,List.length_cons,le];rw[show(x+256*num r)%256=x from by omega,show(x+256*num r)/256=num r from by omega,h2]
theorem n6b(xs:List Int)(x:Int):num (xs++[x])=num xs+256^xs.length*x:=by
 induction xs with
 | nil=>simp[num]
 | cons y r ih=>simp only[List.cons_append,num,ih,List.length_cons,Int.pow_succ,Int.mul_add];rw[Int.mul_comm (256^r.length) 256,Int.mul_assoc,Int.add_assoc]
def B2a(s:Int):Bool:=s==1||s==2||s==4||s==8
def p1a(n:Nat)(at_ m:Int):Int:=if at_<0∨(n:Int)<at_∨m<0 then 2 else if (n:Int)-at_<m then 4 else 0
def partOf(xs:List Int)(at_ m:Int):List Int:=if p1a xs.length at_ m=0 then (xs.drop at_.toNat).take m.toNat else []
def w7a(n:Nat)(at_ s:Int):Int:=if B2a s=true then p1a n at_ s else 2
def H0b(xs:List Int)(at_ s:Int):Int:=if w7a xs.length at_ s=0 then num ((xs.drop at_.toNat).take s.toNat) else 0
def V2a(n s:Int):Bool:=B2a s&&decide (n<256^s.toNat)
def d4a(n s:Int):Int:=if V2a n s=true then 0 else 2
def v2a(n s:Int):List Int:=if V2a n s=true then le n s.toNat else []
def D4b(n:Nat):Nat:=(n+7)/8*8
def zeroOf(xs:List Int)(at_ m:Int):Bool:=decide (p1a xs.length at_ m=0)&&(partOf xs at_ m).all (· == 0)
theorem F1a{s:Int}(h:B2a s=true):s=1∨s=2∨s=4∨s=8:=by simp only[B2a,Bool.or_eq_true,beq_iff_eq] at h;omega
set_option maxRecDepth 100000
structure Hd where
 ch:Int
 st:Int
 cm:Int
 cr:Int
 fl:Int
 nx:Int
 id:Int
 asy:Int
 tr:Int
 se:Int
 sg:List Int
def Hd.tup(h:Hd):List Int:=h.ch::h.st::h.cm::h.cr::h.fl::h.nx::h.id::h.asy::h.tr::h.se::h.sg
theorem Hd.tup_inj{a b:Hd}:a.tup=b.tup↔a=b:=by cases a;cases b;simp[Hd.tup]
instance:DecidableEq Hd:=λ_ _=>decidable_of_iff _ Hd.tup_inj
structure Hd.ok (h:Hd):Prop where
 ch:0<=h.ch/\h.ch<=65535
 st:0<=h.st/\h.st<=4294967295
 cm:0<=h.cm/\h.cm<=65535
 cr:0<=h.cr/\h.cr<=65535
 fl:0<=h.fl/\h.fl<=4294967295
 nx:0<=h.nx/\h.nx<=4294967295
 id:0<=h.id/\h.id<=18446744073709551615
 asy:0<=h.asy/\h.asy<=18446744073709551615
 tr:0<=h.tr/\h.tr<=4294967295
 se:0<=h.se/\h.se<=18446744073709551615
 len:h.sg.length=16
 byte:Bytes h.sg
def N1a:Hd:=⟨0,0,0,0,0,0,0,0,0,0,List.replicate 16 0⟩
theorem o3a:N1a.ok:=⟨by decide,by decide,by decide,by decide,by decide,by decide,by decide,by decide,by decide,by decide,by decide,Bytes.zeros 16⟩
def X3a:List Int:=[0,1,2,3,4,5,6,7,8,9,10,12,13,14,16,17,18]
def known(c:Int):Bool:=X3a.contains c
def h4a(f:Int):Bool:=decide (f/2%2=1)
def c8a(h:Hd):Bool:=known h.cm&&(decide (h.fl<16)&&(if h4a h.fl=true then decide (h.tr=0) else decide (h.asy=0)))
def X5a(h:Hd):Hd:=if h4a h.fl=true then { h with tr:=0 } else { h with asy:=0 }
def aot(h:Hd):Int:=if h4a h.fl=true then h.asy else h.tr*4294967296
theorem o6b(h:Hd):decide (h=X5a h)=(if h4a h.fl=true then decide (h.tr=0) else decide (h.asy=0)):=by
 obtain⟨ch,st,cm,cr,fl,nx,id,asy,tr,se,sg⟩:=h;unfold X5a;by_cases hi:h4a fl=true
 ·rw[if_pos hi,if_pos hi];simp
 ·rw[if_neg hi,if_neg hi];simp
theorem I0b{h:Hd}(k:h.ok):(X5a h).ok:=by
 unfold X5a;split
 ·exact⟨k.ch,k.st,k.cm,k.cr,k.fl,k.nx,k.id,k.asy,⟨Int.le_refl 0,(by omega:(0:Int)<=4294967295)⟩,k.se,k.len,k.byte⟩
 ·exact⟨k.ch,k.st,k.cm,k.cr,k.fl,k.nx,k.id,⟨Int.le_refl 0,(by omega:(0:Int)<=18446744073709551615)⟩,k.tr,k.se,k.len,k.byte⟩
theorem d8a{h:Hd}(k:h.ok):0<=aot h/\aot h<=18446744073709551615:=by have h1:=k.asy;have h2:=k.tr;unfold aot;split<;>omega
def szs:List Nat:=[4,2,2,4,2,2,4,4,8,8,8]
def E6a:List Nat:=[0,4,6,8,12,14,16,20,24,32,40,48]
def L8a(h:Hd):List Int:=[1112364030,64,h.ch,h.st,h.cm,h.cr,h.fl,h.nx,h.id,aot h,h.se]
def pre(h:Hd):Nat->List Int
 | 0=>[]
 | k+1=>pre h k++le ((L8a h).getD k 0) (szs.getD k 0)
def M8a(h:Hd):List Int:=pre h 11++h.sg
def m3a(h:Hd):Int:=if c8a h=true then 0 else 2
def q4a(h:Hd):List Int:=if c8a h=true then M8a h else []
def m0b(h:Hd)(k:Nat):List Int:=pre h k++List.replicate (64-E6a.getD k 0) 0
theorem T6a{p:Nat->Prop}(h0:p 0)(h1:p 1)(h2:p 2)(h3:p 3)(h4:p 4)(h5:p 5)(h6:p 6)(h7:p 7)(h8:p 8)(h9:p 9)(h10:p 10)(k:Nat)(hk:k<11):p k:=by
 match k,hk with
 | 0,_=>exact h0
 | 1,_=>exact h1
 | 2,_=>exact h2
 | 3,_=>exact h3
 | 4,_=>exact h4
 | 5,_=>exact h5
 | 6,_=>exact h6
 | 7,_=>exact h7
 | 8,_=>exact h8
 | 9,_=>exact h9
 | 10,_=>exact h10
theorem F3a:∀k,k<11->E6a.getD (k+1) 0=E6a.getD k 0+szs.getD k 0/\E6a.getD k 0+szs.getD k 0<=48/\2<=szs.getD k 0/\szs.getD k 0<=8:=by decide
theorem E4b(k:Nat)(hk:k<11):B2a (szs.getD k 0:Nat)=true:=by revert hk;exact T6a (p:=λk=>B2a (szs.getD k 0:Nat)=true) (by decide) (by decide) (by decide) (by decide) (by decide) (by decide) (by decide) (by decide) (by decide) (by decide) (by decide) k
theorem c6a(h:Hd)(k:Nat)(hk:k<=11):(pre h k).length=E6a.getD k 0:=by
 induction k with
 | zero=>rfl
 | succ k ih=>have h1:=F3a k (by omega);rw[pre,List.length_append,ih (by omega),m0a];omega
theorem F4b(h:Hd)(k:Nat):Bytes (pre h k):=by
 induction k with
 | zero=>exact Bytes.nil
 | succ k ih=>exact ih.append (F0a _ _)
theorem D5a{h:Hd}(hs:h.sg.length=16):(M8a h).length=64:=by unfold M8a;rw[List.length_append,c6a h 11 (by omega),hs];rfl
theorem s5a{h:Hd}(hb:Bytes h.sg):Bytes (M8a h):=(F4b h 11).append hb
theorem G4b(h:Hd):m0b h 0=List.replicate 64 0:=rfl
theorem J0b(h:Hd)(k:Nat)(hk:k<=11):(m0b h k).length=64:=by
 unfold m0b;rw[List.length_append,c6a h k hk,List.length_replicate];have:∀k,k<=11->E6a.getD k 0<=64:=by decide
 have:=this k hk;omega
theorem H4b(h:Hd)(k:Nat)(hk:k<11):(m0b h k).take (E6a.getD k 0)++le ((L8a h).getD k 0) (szs.getD k 0)++(m0b h k).drop (E6a.getD k 0+szs.getD k 0)=m0b h (k+1):=by
 have h1:=F3a k hk;unfold m0b;rw[List.take_left' (c6a h k (by omega)),List.drop_append,List.drop_of_length_le (by rw[c6a h k (by omega)];omega),c6a h k (by omega),List.nil_append,List.drop_replicate,pre,h1.1]
 congr 2
 omega
theorem I4b(h:Hd):(m0b h 11).take 48++h.sg++(m0b h 11).drop 64=M8a h:=by have e:(m0b h 11).length=64:=J0b h 11 (by omega);rw[List.drop_of_length_le (by omega)];unfold m0b M8a;rw[List.take_left' (by rw[c6a h 11 (by omega)];rfl),List.append_nil]
def l1a(xs:List Int)(a s:Nat):Int:=num ((xs.drop a).take s)
def z1b(k:Nat)(n:Int)(h:Hd):Hd:=
 if k=2 then { h with ch:=n } else if k=3 then { h with st:=n } else if k=4 then { h with cm:=n } else if k=5 then { h with cr:=n } else if k=6 then { h with fl:=n } else if k=7 then { h with nx:=n }
 else if k=8 then { h with id:=n } else if k=9 then (if h4a h.fl=true then { h with asy:=n } else { h with tr:=n/4294967296 }) else if k=10 then { h with se:=n } else h
def tk(xs:List Int):Nat->Hd
 | 0=>N1a
 | k+1=>z1b k (l1a xs (E6a.getD k 0) (szs.getD k 0)) (tk xs k)
def w1a(xs:List Int):Hd:={ tk xs 11 with sg:=(xs.drop 48).take 16 }
theorem d6a(xs:List Int):w1a xs=⟨l1a xs 6 2,l1a xs 8 4,l1a xs 12 2,l1a xs 14 2,l1a xs 16 4,l1a xs 20 4,l1a xs 24 8,if h4a (l1a xs 16 4)=true then l1a xs 32 8 else 0,
  if h4a (l1a xs 16 4)=true then 0 else l1a xs 32 8/4294967296,l1a xs 40 8,(xs.drop 48).take 16⟩:=by
 have e9:tk xs 9=⟨l1a xs 6 2,l1a xs 8 4,l1a xs 12 2,l1a xs 14 2,l1a xs 16 4,l1a xs 20 4,l1a xs 24 8,0,0,0,List.replicate 16 0⟩:=rfl;unfold w1a;rw[show tk xs 11=z1b 10 (l1a xs 40 8) (z1b 9 (l1a xs 32 8) (tk xs 9)) from rfl,e9];unfold z1b;by_cases hi:h4a (l1a xs 16 4)=true
 ·simp[hi]
 ·simp[hi]
theorem W2a(xs:List Int)(hx:Bytes xs)(a s:Nat)(M:Int)(hM:(256:Int)^s=M):0<=l1a xs a s/\l1a xs a s<=M-1:=by
 have h1:=l0b ((xs.drop a).take s) ((hx.drop a).take s);have hl:((xs.drop a).take s).length<=s:=by simp;omega
 have h2:(256:Int)^((xs.drop a).take s).length<=256^s:=by have h3:(256:Nat)^((xs.drop a).take s).length<=256^s:=Nat.pow_le_pow_right (by omega) hl;have h4:(((256:Nat)^((xs.drop a).take s).length:Nat):Int)<=((256^s:Nat):Int):=Int.ofNat_le.2 h3;simpa[Int.natCast_pow] using h4
 unfold l1a;omega
theorem J4b(xs:List Int)(hx:Bytes xs)(k:Nat):0<=l1a xs (E6a.getD k 0) (szs.getD k 0)/\l1a xs (E6a.getD k 0) (szs.getD k 0)<256^szs.getD k 0:=by have:=W2a xs hx (E6a.getD k 0) (szs.getD k 0) _ rfl;omega
theorem e6a(xs:List Int)(hx:Bytes xs)(hl:xs.length=64):(w1a xs).ok:=by
 have n2:=λa=>W2a xs hx a 2 65536 (by decide)
 have n4:=λa=>W2a xs hx a 4 4294967296 (by decide)
 have n8:=λa=>W2a xs hx a 8 18446744073709551616 (by decide)
 rw[d6a];refine⟨?_,?_,?_,?_,?_,?_,?_,?_,?_,?_,by simp;omega,(hx.drop 48).take 16⟩
 ·have:=n2 6;dsimp only;omega
 ·have:=n4 8;dsimp only;omega
 ·have:=n2 12;dsimp only;omega
 ·have:=n2 14;dsimp only;omega
 ·have:=n4 16;dsimp only;omega
 ·have:=n4 20;dsimp only;omega
 ·have:=n8 24;dsimp only;omega
 ·have:=n8 32;dsimp only;split<;>omega
 ·have:=n8 32;dsimp only;split<;>omega
 ·have:=n8 40;dsimp only;omega
theorem p6b(xs:List Int)(hx:Bytes xs)(a s:Nat)(h:a+s<=xs.length):le (l1a xs a s) s=(xs.drop a).take s:=by
 have h1:=m8b ((xs.drop a).take s) ((hx.drop a).take s)
 rwa [show((xs.drop a).take s).length=s from by simp;omega] at h1
theorem x7a(xs:List Int)(a s:Nat):xs.take a++(xs.drop a).take s=xs.take (a+s):=by rw[List.take_add]
theorem K4b(n:Int)(s t:Nat):le n (s+t)=le n s++le (n/256^s) t:=by
 induction s generalizing n with
 | zero=>simp[le]
 | succ s ih=>rw[show s+1+t=(s+t)+1 from by omega];simp only[le,List.cons_append];rw[ih,Int.pow_succ,Int.mul_comm,Int.ediv_ediv_of_nonneg (by decide)]
theorem H3b(xs ys:List Int):num (xs++ys)=num xs+256^xs.length*num ys:=by
 induction xs with
 | nil=>simp[num]
 | cons x r ih=>simp only[List.cons_append,num,ih,List.length_cons,Int.pow_succ,Int.mul_add];rw[Int.mul_comm (256^r.length) 256,Int.mul_assoc,Int.add_assoc]
theorem u2b(xs:List Int)(a:Nat)(h:a+8<=xs.length):l1a xs a 8=l1a xs a 4+4294967296*l1a xs (a+4) 4:=by
 unfold l1a;have e:(xs.drop a).take 8=(xs.drop a).take 4++(xs.drop (a+4)).take 4:=by rw[show(8:Nat)=4+4 from rfl,List.take_add,List.drop_drop]
 rw[e,H3b,show((xs.drop a).take 4).length=4 from by simp;omega];rfl
def n3b(xs:List Int):Bool:=decide (l1a xs 0 4=1112364030)&&decide (l1a xs 4 2=64)&&(h4a (l1a xs 16 4)||decide (l1a xs 32 4=0))
def q6b(xs:List Int):Bool:=n3b xs&&c8a (w1a xs)
theorem L4b(xs:List Int)(hx:Bytes xs)(hl:xs.length=64)(k:Nat)(hk:k<=11)(hs:∀j,j<k->(L8a (w1a xs)).getD j 0=l1a xs (E6a.getD j 0) (szs.getD j 0)):pre (w1a xs) k=xs.take (E6a.getD k 0):=by
 induction k with
 | zero=>rfl
 | succ k ih=>have h1:=F3a k (by omega);rw[pre,ih (by omega) (λj hj=>hs j (by omega)),hs k (by omega),p6b xs hx _ _ (by omega),x7a,<-h1.1]
theorem M4b(xs:List Int)(hx:Bytes xs)(hl:xs.length=64):decide (M8a (w1a xs)=xs)=n3b xs:=by
 have n4:=λa=>W2a xs hx a 4 4294967296 (by decide)
 have n8:=λa=>W2a xs hx a 8 18446744073709551616 (by decide)
 have e8:l1a xs 32 8=l1a xs 32 4+4294967296*l1a xs 36 4:=u2b xs 32 (by omega);have hfl:(w1a xs).fl=l1a xs 16 4:=by rw[d6a]
 have ha:aot (w1a xs)=if h4a (l1a xs 16 4)=true then l1a xs 32 8 else 4294967296*l1a xs 36 4:=by
  have:=n4 32;unfold aot;rw[hfl,d6a];by_cases hi:h4a (l1a xs 16 4)=true
  ·simp only[hi,if_true]
  ·simp only[hi,Bool.false_eq_true,if_false];omega
 have hsg:(w1a xs).sg=xs.drop 48:=by rw[d6a];exact List.take_of_length_le (by simp;omega)
 have hvals:L8a (w1a xs)=[1112364030,64,l1a xs 6 2,l1a xs 8 4,l1a xs 12 2,l1a xs 14 2,l1a xs 16 4,l1a xs 20 4,l1a xs 24 8,aot (w1a xs),l1a xs 40 8]:=by unfold L8a;rw[d6a]
 rw[Bool.eq_iff_iff,decide_eq_true_iff];constructor
 ·intro h;have hv:∀j,j<11->le ((L8a (w1a xs)).getD j 0) (szs.getD j 0)=(xs.drop (E6a.getD j 0)).take (szs.getD j 0):=by
   intro j hj;have h1:=F3a j hj;have hlen:∀k,k<=11->pre (w1a xs) k=xs.take (E6a.getD k 0):=by
    intro k hk;have h2:(pre (w1a xs) k).length=E6a.getD k 0:=c6a _ k hk;have h3:∀m k,k+m=11->∃r,pre (w1a xs) 11=pre (w1a xs) k++r:=by
     intro m
     induction m with
     | zero=>intro k hk;exact⟨[],by rw[List.append_nil,show k=11 from by omega]⟩
     | succ m ih=>intro k hk;obtain⟨r,hr⟩:=ih (k+1) (by omega);exact⟨_,by rw[hr,pre,List.append_assoc]⟩
    obtain⟨r,hr⟩:=h3 (11-k) k (by omega);have h4:pre (w1a xs) k++(r++(w1a xs).sg)=xs:=by rw[<-List.append_assoc,<-hr];exact h
    have h5:=congrArg (List.take (E6a.getD k 0)) h4
    rwa [List.take_left' h2] at h5
   have e1:=hlen (j+1) (by omega);rw[pre,hlen j (by omega),h1.1,<-x7a] at e1;exact List.append_cancel_left e1
  have v0:=hv 0 (by omega);have v1:=hv 1 (by omega);have v9:=hv 9 (by omega);rw[hvals] at v0 v1 v9;change le 1112364030 4=(xs.drop 0).take 4 at v0
  change le 64 2=(xs.drop 4).take 2 at v1
  change le (aot (w1a xs)) 8=(xs.drop 32).take 8 at v9
  have w0:l1a xs 0 4=1112364030:=by unfold l1a;rw[<-v0];decide
  have w1:l1a xs 4 2=64:=by unfold l1a;rw[<-v1];decide
  have w9:l1a xs 32 8=aot (w1a xs):=by
   unfold l1a;rw[<-v9,l8b _ _ (d8a (e6a xs hx hl)).1 (by
    have:=(d8a (e6a xs hx hl)).2;have e:(256:Int)^8=18446744073709551616:=by decide
    omega)]
  unfold n3b;rw[w0,w1];by_cases hi:h4a (l1a xs 16 4)=true
  ·simp[hi]
  ·rw[ha,if_neg hi] at w9;have:=n4 32;have:l1a xs 32 4=0:=by rw[e8] at w9;omega
   simp[this]
 ·intro h;unfold n3b at h;simp only[Bool.and_eq_true,Bool.or_eq_true,decide_eq_true_eq] at h;obtain⟨⟨h0,h1⟩,h9⟩:=h;have h9':aot (w1a xs)=l1a xs 32 8:=by
   rw[ha];by_cases hi:h4a (l1a xs 16 4)=true
   ·rw[if_pos hi]
   ·rw[if_neg hi,e8];rcases h9 with h9 | h9
    ·exact absurd h9 hi
    ·omega
  have hp:=L4b xs hx hl 11 (by omega) (by
   rw[hvals,h9'];exact λj hj=>T6a (p:=λj=>List.getD [1112364030,64,l1a xs 6 2,l1a xs 8 4,l1a xs 12 2,l1a xs 14 2,l1a xs 16 4,l1a xs 20 4,l1a xs 24 8,l1a xs 32 8,l1a xs 40 8] j 0=l1a xs (E6a.getD j 0) (szs.getD j 0))
    h0.symm h1.symm rfl rfl rfl rfl rfl rfl rfl rfl rfl j hj)
  unfold M8a;rw[hp,hsg];exact List.take_append_drop 48 xs
def r2a(xs:List Int)(a:Int):Int:=if p1a xs.length a 64=0 then (if q6b ((xs.drop a.toNat).take 64)=true then 0 else 5) else p1a xs.length a 64
def l2a(xs:List Int)(a:Int):Hd:=if r2a xs a=0 then w1a ((xs.drop a.toNat).take 64) else N1a
theorem h9a{n:Nat}{a:Int}(h:p1a n a 64=0):0<=a/\a.toNat+64<=n:=by
 unfold p1a at h;by_cases g1:a<0∨(n:Int)<a∨(64:Int)<0
 ·rw[if_pos g1] at h;omega
 ·by_cases g2:(n:Int)-a<64
  ·rw[if_neg g1,if_pos g2] at h;omega
  ·omega
theorem N4b(xs:List Int)(a:Int)(hx:Bytes xs):(l2a xs a).ok:=by
 unfold l2a;split
 ·rename_i h;have hp:p1a xs.length a 64=0:=by
   unfold r2a at h;by_cases hp:p1a xs.length a 64=0
   ·exact hp
   ·rw[if_neg hp] at h;exact h
  have:=h9a hp;exact e6a _ ((hx.drop _).take _) (by simp;omega)
 ·exact o3a
open Go.Lib
def p2a(r:Int):Prop:=0<=r/\r<=1114111/\(r<55296∨57343<r)
def enc(r:Int):List UInt8:=if 1114112<=r then [(r-1114112).toNat.toUInt8] else encodeRune r
def d5a(l:List UInt8):Int:=if (decodeL l).1=65533/\(decodeL l).2=1 then 1114112+((l.getD 0 0).toNat:Int) else ((decodeL l).1:Int)
def E5a:Nat->List UInt8->List Int
 | 0,_=>[]
 | n+1,l=>if l=[] then [] else d5a l::E5a n (l.drop (decodeL l).2)
def q1a(l:List UInt8):List Int:=E5a l.length l
theorem e5a(n:Nat):E5a n []=[]:=by cases n<;>simp[E5a]
theorem y7a:∀(n m:Nat) (l:List UInt8),l.length<=n->l.length<=m->E5a n l=E5a m l
 | 0,m,l,hn,_=>by obtain rfl:l=[]:=List.eq_nil_of_length_eq_zero (by omega);rw[e5a,e5a]
 | n+1,0,l,_,hm=>by obtain rfl:l=[]:=List.eq_nil_of_length_eq_zero (by omega);rw[e5a,e5a]
 | n+1,m+1,l,hn,hm=>by
  unfold E5a;by_cases hne:l=[]
  ·simp[hne]
  ·have hw:=decodeL_width l;have hl:0<l.length:=List.length_pos_iff.2 hne;rw[if_neg hne,if_neg hne,y7a n m (l.drop (decodeL l).2) (by rw[List.length_drop];omega) (by rw[List.length_drop];omega)]
theorem v2b:q1a []=[]:=rfl
theorem e4a(l:List UInt8)(hne:l≠[]):q1a l=d5a l::q1a (l.drop (decodeL l).2):=by
 have hl:0<l.length:=List.length_pos_iff.2 hne;have hw:=decodeL_width l;obtain⟨n,hn⟩:∃n,l.length=n+1:=⟨l.length-1,by omega⟩;unfold q1a;rw[hn];show(if l=[] then [] else _)=_
 rw[if_neg hne,y7a n (l.drop (decodeL l).2).length _ (by rw[List.length_drop];omega) (Nat.le_refl _)]
theorem F6a(l:List UInt8)(_hne:l≠[]) :
  (¬((decodeL l).1=65533/\(decodeL l).2=1)/\d5a l=((decodeL l).1:Int)/\p2a ((decodeL l).1:Int))∨
  ((decodeL l).1=65533/\(decodeL l).2=1/\d5a l=1114112+((l.getD 0 0).toNat:Int)/\128<=(l.getD 0 0).toNat):=by
 have k0:=(l.getD 0 0).toNat_lt;have k1:=(l.getD 1 0).toNat_lt;have k2:=(l.getD 2 0).toNat_lt;have k3:=(l.getD 3 0).toNat_lt;unfold d5a p2a;by_cases h:(decodeL l).1=65533/\(decodeL l).2=1
 ·right;refine⟨h.1,h.2,if_pos h,?_⟩;rw[decodeL_N] at h;by_cases hb:(l.getD 0 0).toNat<128
  ·rw[decodeN_ascii _ _ _ _ _ hb] at h;dsimp only at h;omega
  ·omega
 ·left;refine⟨h,if_neg h,?_⟩;rw[decodeL_N] at h⊢;rcases decodeN_shape l.length (l.getD 0 0).toNat (l.getD 1 0).toNat (l.getD 2 0).toNat (l.getD 3 0).toNat with⟨c,e⟩ | ⟨c1,c2,c3,cv,e⟩ | ⟨c1,c2,c3,c4,cv,cs,e⟩ | ⟨c1,c2,c3,c4,c5,cv,cw,e⟩ | e
  all_goals (rw[e] at h⊢;dsimp only at h⊢)
  all_goals (try (exact absurd ⟨rfl,rfl⟩ h))
  all_goals (refine⟨by omega,by omega,by omega⟩)
def r6b(r:Int):Prop:=p2a r∨(1114240<=r/\r<=1114367)
theorem s6b(l:List UInt8)(hne:l≠[]):r6b (d5a l):=by
 have k0:=(l.getD 0 0).toNat_lt;rcases F6a l hne with⟨_,h1,h2⟩ | ⟨_,_,h1,h2⟩
 ·rw[h1];exact .inl h2
 ·rw[h1];exact .inr (by omega)
theorem r6b.letter{r:Int}(h:r6b r)(hr:r<1114112):p2a r:=by
 rcases h with h | h
 ·exact h
 ·omega
theorem p2a.lt{r:Int}(h:p2a r):¬1114112<=r:=by have:=h.2.1;omega
theorem b7a{P:List UInt8->Prop}(h0:P [])(h1:∀l:List UInt8,l≠[]->P (l.drop (decodeL l).2)->P l):∀l,P l:=by
 have key:∀n (l:List UInt8),l.length<=n->P l:=by
  intro n
  induction n with
  | zero=>intro l hl;obtain rfl:l=[]:=List.eq_nil_of_length_eq_zero (by omega);exact h0
  | succ n ih=>
   intro l hl;by_cases hne:l=[]
   ·rw[hne];exact h0
   ·have hw:=decodeL_width l;exact h1 l hne (ih _ (by rw[List.length_drop];omega))
 exact λl=>key l.length l (Nat.le_refl _)
theorem w2b(l:List UInt8):∀r∈q1a l,r6b r:=by
 induction l using b7a with
 | h0=>intro r hr;cases hr
 | h1 l hne ih=>
  rw[e4a l hne];intro r hr;rcases List.mem_cons.1 hr with rfl | hr
  ·exact s6b l hne
  ·exact ih r hr
theorem n0b(l:List UInt8):(q1a l).length<=l.length:=by
 induction l using b7a with
 | h0=>simp[v2b]
 | h1 l hne ih=>have hw:=decodeL_width l;have hl:0<l.length:=List.length_pos_iff.2 hne;rw[e4a l hne,List.length_cons];rw[List.length_drop] at ih;omega
def w2a(l:List UInt8):Bool:=(q1a l).all λr=>decide (r<1114112)
theorem I3b:w2a []=true:=rfl
theorem c7a(l:List UInt8)(hne:l≠[]):w2a l=(decide (d5a l<1114112)&&w2a (l.drop (decodeL l).2)):=by unfold w2a;rw[e4a l hne,List.all_cons]
theorem K0b(l:List UInt8):validD l=w2a l:=by
 induction l using b7a with
 | h0=>rfl
 | h1 l hne ih=>
  rw[validD_step l hne,c7a l hne,ih];rcases F6a l hne with⟨h0,h1,h2⟩ | ⟨h0,h0',h1,h2⟩
  ·have:=h2.lt;rw[if_neg h0,h1,decide_eq_true (by omega),Bool.true_and]
  ·rw[if_pos ⟨h0,h0'⟩,h1,decide_eq_false (by omega),Bool.false_and]
theorem U6a{l:List UInt8}(h:w2a l=true):∀r∈q1a l,p2a r:=λr hr=>(w2b l r hr).letter (by simpa using List.all_eq_true.1 h r hr)
theorem L0b(s:ByteArray)(pos:Nat)(h:pos<s.size) :
  q1a (s.data.toList.drop pos)=d5a (s.data.toList.drop pos)::q1a (s.data.toList.drop (pos+(Utf8.decode s pos).2))/\1<=(Utf8.decode s pos).2/\pos+(Utf8.decode s pos).2<=s.size:=by
 have hl:s.data.toList.drop pos≠[]:=by intro e;have:=congrArg List.length e;rw[List.length_drop,<-size_eq] at this;simp at this;omega
 have h1:=e4a _ hl;have h2:=decodeL_width (s.data.toList.drop pos);have h3:=decodeL_le _ hl;rw[decodeL_drop] at h1 h2 h3;rw[List.drop_drop] at h1;rw[List.length_drop,<-size_eq] at h3;exact⟨h1,h2,by omega⟩
theorem A1b(s:ByteArray)(pos:Nat)(h:pos<s.size)(ht:w2a (s.data.toList.drop pos)=true) :
  q1a (s.data.toList.drop pos)=((Utf8.decode s pos).1:Int)::q1a (s.data.toList.drop (pos+(Utf8.decode s pos).2))/\w2a (s.data.toList.drop (pos+(Utf8.decode s pos).2))=true/\p2a ((Utf8.decode s pos).1:Int):=by
 have hl:s.data.toList.drop pos≠[]:=by intro e;have:=congrArg List.length e;rw[List.length_drop,<-size_eq] at this;simp at this;omega
 have h1:=e4a _ hl;rw[c7a _ hl,Bool.and_eq_true] at ht;obtain⟨ht,ht'⟩:=ht;rw[decodeL_drop] at h1 ht';rw[List.drop_drop] at h1 ht';have ht:=of_decide_eq_true ht;rcases F6a _ hl with⟨_,e,hL⟩ | ⟨_,_,e,_⟩
 ·rw[decodeL_drop] at e hL;rw[e] at h1;exact⟨h1,ht',hL⟩
 ·omega
theorem M0b(s:ByteArray)(pos:Nat)(h:¬pos<s.size):q1a (s.data.toList.drop pos)=[]:=by rw[List.drop_of_length_le (by rw[<-size_eq];omega)];rfl
def G3a(r:Int):List Int:=if r<65536 then [r%256,r/256] else [(55296+(r-65536)/1024)%256,(55296+(r-65536)/1024)/256,(56320+(r-65536)%1024)%256,(56320+(r-65536)%1024)/256]
def H1a(rs:List Int):List Int:=rs.flatMap G3a
def E2a:List Int->Nat
 | []=>0
 | r::rs=>(if r<65536 then 1 else 2)+E2a rs
theorem f6a(rs:List Int):(H1a rs).length=2*E2a rs:=by
 induction rs with
 | nil=>rfl
 | cons r rs ih=>
  have:(G3a r).length=2*(if r<65536 then 1 else 2):=by unfold G3a;split<;>rfl
  unfold H1a at ih⊢;rw[List.flatMap_cons,List.length_append,ih,this,E2a];omega
theorem B1b(rs:List Int):E2a rs<=2*rs.length:=by
 induction rs with
 | nil=>exact Nat.le_refl _
 | cons r rs ih=>rw[E2a,List.length_cons];split<;>omega
theorem i9a(rs qs:List Int):H1a (rs++qs)=H1a rs++H1a qs:=by simp[H1a]
theorem a0b{r:Int}(h:p2a r):Bytes (G3a r):=by
 obtain⟨h0,h1,h2⟩:=h;unfold G3a;intro x hx;split at hx
 ·simp at hx;omega
 ·simp at hx;omega
theorem N0b{rs:List Int}(h:∀r∈rs,p2a r):Bytes (H1a rs):=by intro x hx;obtain⟨r,hr,hx⟩:=List.mem_flatMap.1 hx;exact a0b (h r hr) x hx
def R1a(l:List UInt8):List Int:=if w2a l=true then H1a (q1a l) else []
def s2a(l:List UInt8):Int:=if w2a l=true then 0 else 5
def s4a(l:List UInt8):Nat:=if w2a l=true then E2a (q1a l) else 0
theorem d7a(l:List UInt8):Bytes (R1a l):=by
 unfold R1a;split
 ·exact N0b (U6a (by assumption))
 ·exact Bytes.nil
theorem z7a(l:List UInt8):(R1a l).length=2*s4a l:=by
 unfold R1a s4a;split
 ·exact f6a _
 ·rfl
theorem e7a(l:List UInt8):s4a l<=2*l.length:=by unfold s4a;have:=B1b (q1a l);have:=n0b l;split<;>omega
def Row(w:World)(g:Nat)(xs:List Int):Prop:=w.heap[g]? = some (.cells (xs.map (Value.int .u8)).toArray 5 (0,0))
def Y1a(w:World)(base:Nat)(A:Option Addr)(xs:List Int):Prop:=(A=none/\xs=[])∨∃g,A=some ⟨g,0,none⟩/\base<=g/\Row w g xs
section
variable {w w':World} {g B base:Nat} {xs:List Int}
theorem Row.lt(h:Row w g xs):g<w.heap.size:=(Array.getElem?_eq_some_iff.1 h).1
theorem Row.cell(h:Row w g xs){i:Nat}(hi:i<xs.length):w.cell? ⟨g,i,none⟩=some (.int .u8 (xs.getD i 0)):=by rw[cell_of_row w g i _ 5 (0,0) h];simp[hi]
theorem Row.frozen(h:Row w g xs)(i:Nat):w.frozen? ⟨g,i,none⟩=false:=frozen_of_row w g i _ 5 h
theorem Row.below(h:Row w g xs)(hb:Below B w w')(hg:g<B):Row w' g xs:=(hb.block g hg).trans h
theorem Row.set(h:Row w g xs)(i:Nat)(u:Int):Row (w.setCell ⟨g,i,none⟩ (.int .u8 u)) g (xs.set i u):=by have h1:=heap_setCell_same w g i _ 5 (.int .u8 u) h;unfold Row;rw[h1];simp[List.map_set]
theorem Row.drewN(h:Row w g xs)(k:Nat):Row (w.drewN k) g xs:=h
theorem Y1a.holds{A:Option Addr}{n:Nat}(h:Y1a w base A xs)(hn:xs.length=n)(hx:Bytes xs)(hc:n<=281474976710656):Holds w w.heap.size A n n xs:=by
 refine⟨hn,Nat.le_refl _,hc,hx,λhA=>?_,λh0=>?_⟩
 ·rcases h with⟨_,rfl⟩ | ⟨g,rfl,_,hr⟩
  ·exact hn.symm
  ·cases hA
 rcases h with⟨_,rfl⟩ | ⟨g,rfl,_,hr⟩
 ·simp at hn;omega
 ·exact⟨g,0,rfl,hr.lt,λi hi=>by rw[Nat.zero_add];exact hr.cell (by omega)⟩
theorem Y1a.keep{A:Option Addr}{row:Option Nat}(h:Y1a w base A xs)(hg:w.grownBy w' row)(hr:∀k,row=some k->k<base):Y1a w' base A xs:=by
 rcases h with h | ⟨g,rfl,hb,hrow⟩
 ·exact .inl h
 ·exact .inr ⟨g,rfl,hb,(hg.block g hrow.lt (λe=>by have:=hr g e.symm;omega)).trans hrow⟩
theorem Y1a.below{A:Option Addr}(h:Y1a w base A xs)(hb:Below w.heap.size w w'):Y1a w' base A xs:=by
 rcases h with h | ⟨g,rfl,hg,hr⟩
 ·exact .inl h
 ·exact .inr ⟨g,rfl,hg,hr.below hb hr.lt⟩
end
theorem v3a:(Tryz.prog.info? 5).map (λi=>(i.zero,i.size,i.bytes))=some (some (.int .u8 0),1,1):=by kernel_rfl
theorem B1a(w:World){ops:Array Oper}{rest:List Oper}{o:Oper}{a:Act}{Q:Exit->Act->World->Prop}
(hg:o.guard=none)(l c:Operand)(hop:o.op=Op.makeSlice 31 l c)(L C:Int)(n:Nat)(hl:a.eval l=.int .i64 L)(hc:a.eval c=.int .i64 C)(hL:L=(n:Int))(hC:C=(n:Int))(hn:n<=281474976710656)
(hK:∀w',Hid (Row w' w.heap.size (List.replicate n 0))->Below w.heap.size w w'->wpList Tryz.prog ops Q rest (a.put o.dst (.slice (some ⟨w.heap.size,0,none⟩) n n)) w') :
  wpList Tryz.prog ops Q (o::rest) a w:=by
 obtain⟨i0,hi,hz0,hz1,hz2⟩:=info_parts v3a;refine wpList_make_full w hg l c 31 hop w.heap.size 5 i0 (.int .u8 0) 1 Tryz.underlying31 hi hz0 hz1 .i64 .i64 L C n hl hc hL hC (by rw[hz2];omega) (by unfold maxLen;omega) (Nat.le_refl _) ?_;intro w' hown hgr;refine hK w' ?_ ((Below.refl _ _).grown hgr (Nat.le_refl _) (λk hk=>by cases hk));rcases hown.2 with⟨h0,_⟩ | ⟨g,cap,cur,hv,_,hh,_,_,hcs,htk⟩
 ·cases h0
 ·simp only[Value.slice.injEq,Option.some.injEq,Addr.mk.injEq,and_true,true_and] at hv;obtain⟨rfl,rfl⟩:=hv;show w'.heap[_]? = _
  rw[hh];have e:cur.toList=List.replicate n (.int .u8 0):=by have h1:cur.toList.take (n*1)=cur.toList:=List.take_of_length_le (by simp[hcs]);rw[<-h1,htk];rw[Nat.mul_one];exact toList_madeCells_one (.int .u8 0) n
  rw[List.map_replicate,<-e]
theorem e8a{w:World}{ops:Array Oper}{rest:List Oper}{o:Oper}{a:Act}{Q:Exit->Act->World->Prop}(hgd:o.guard=none)(d s:Operand)
(ho:o.op=.call { callee:=.builtin .copy,args:=#[d,s],argTypes:=#[31,31] })
(g dLen dCap n c:Nat)(A:Option Addr)(hd:a.eval d=.slice (some ⟨g,0,none⟩) dLen dCap)(hs:a.eval s=.slice A n c)
(cur xs:List Int)(B:Nat)(hrow:Hid (Row w g cur))(hx:Holds w B A n c xs)(hn:n<=dLen)(hfit:n<=cur.length)
(h:∀w',Hid (Row w' g (xs++cur.drop n))->Below g w w'->wpList Tryz.prog ops Q rest (a.put o.dst (goInt n)) w') :
  wpList Tryz.prog ops Q (o::rest) a w:=by
 have hl:=hx.len;obtain⟨i0,hi,hz0,hz1,hz2⟩:=info_parts v3a;refine wpList_copy_splice hgd d s 31 31 ho 5 Tryz.underlying31 (by rw[hi];simp[hz1]) (some ⟨g,0,none⟩) A dLen dCap n c hd hs g 0 (cur.map (Value.int .u8)) 5 hrow.out (xs.map (Value.int .u8)) (by rw[List.length_map,hl];exact(Nat.min_eq_left hn).symm) ?_ (by simp;omega)
  (by intro v hv;obtain⟨x,_,rfl⟩:=List.mem_map.1 hv;rfl) g w (Below.refl _ _) (Nat.le_refl _) ?_
 ·intro h0;refine⟨rfl,?_⟩;obtain⟨b,off,rfl,_,hc⟩:=hx.cells (by simp at h0;omega);refine⟨⟨b,off,none⟩,rfl,λj v hj=>?_⟩;have hjl:j<xs.length:=by
   by_cases hj':j<xs.length
   ·exact hj'
   ·rw[List.getElem?_eq_none (by simp;omega)] at hj;cases hj
  have e:(⟨b,off,none⟩:Addr).add j=⟨b,off+j,none⟩:=by
   by_cases hj0:j=0
   ·subst hj0;simp[Addr.add]
   ·simp[Addr.add,hj0]
  rw[e,hc j (by omega),<-hj];simp[hjl]
 ·intro w' hr hb;have e:(splice (cur.map (Value.int .u8)) 0 (xs.map (Value.int .u8)))=(xs++cur.drop n).map (Value.int .u8):=by simp[splice,hl]
  have hr':=hr.out;rw[e] at hr';rw[List.length_map,hl] at *;exact h w' hr' hb
def Own(w:World)(base:Nat)(v:Value)(xs:List Int):Prop:=w.ownsRow base 5 1 v xs.length (xs.map (Value.int .u8))
theorem Own.nil(w:World)(base:Nat):Own w base (.slice none 0 0) []:=World.ownsRow_nil w base 5 1
theorem Own.holds{w:World}{base:Nat}{v:Value}{xs:List Int}(h:Own w base v xs)(hx:Bytes xs)(hn:xs.length<=281474976710656) :
  ∃A c,v=.slice A xs.length c/\Holds w w.heap.size A xs.length c xs:=by
 rcases h.2 with⟨rfl,h0⟩ | ⟨g,cap,cur,rfl,hb,hg,hnc,hcm,hcs,htk⟩
 ·have:xs=[]:=List.eq_nil_of_length_eq_zero h0;subst this;exact⟨none,0,rfl,Holds.nil _ _⟩
 ·refine⟨_,_,rfl,rfl,hnc,hn,hx,λhA=>(by cases hA),λh0=>⟨g,0,rfl,(Array.getElem?_eq_some_iff.1 hg).1,λi hi=>?_⟩⟩;rw[Nat.zero_add,cell_of_row w g i cur 5 (0,0) hg];have e:cur[i]? = (cur.toList.take (xs.length*1))[i]?:=by rw[List.getElem?_take,if_pos (by omega),Array.getElem?_toList]
  rw[e,htk];simp[hi]
theorem Own.below{w w':World}{base:Nat}{v:Value}{xs:List Int}(h:Own w base v xs)(hb:Below w.heap.size w w'):Own w' base v xs:=by
 refine⟨h.1,?_⟩;rcases h.2 with h0 | ⟨g,cap,cur,rfl,h1,hg,rest⟩
 ·exact .inl h0
 ·exact .inr ⟨g,cap,cur,rfl,h1,(hb.block g (Array.getElem?_eq_some_iff.1 hg).1).trans hg,rest⟩
theorem Own.mono{w:World}{base base':Nat}{v:Value}{xs:List Int}(h:Own w base v xs)(hb:base'<=base):Own w base' v xs:=by
 refine⟨h.1,?_⟩;rcases h.2 with h0 | ⟨g,cap,cur,rfl,h1,rest⟩
 ·exact .inl h0
 ·exact .inr ⟨g,cap,cur,rfl,by omega,rest⟩
theorem Own.alloc{w:World}{base:Nat}{v:Value}{xs:List Int}(h:Own w base v xs)(o:Obj):Own (w.alloc o) base v xs:=World.ownsRow.alloc h o
theorem Holds.single(w:World)(x:Int)(h:0<=x/\x<=255):Holds (w.alloc (.cells #[.int .u8 x] 5)) (w.heap.size+1) (some ⟨w.heap.size,0,none⟩) 1 1 [x]:=by
 refine⟨rfl,Nat.le_refl _,by omega,λy hy=>?_,λhA=>(by cases hA),λ_=>⟨w.heap.size,0,rfl,by omega,λi hi=>?_⟩⟩
 ·rcases List.mem_singleton.1 hy with rfl
  exact h
 ·obtain rfl:i=0:=by omega
  simp
theorem Holds.lit(w:World)(xs:List Int)(cs:Array Value)(S n:Nat)(hcs:cs=(xs.map (Value.int .u8)).toArray)(hS:w.heap.size=S)(hl:xs.length=n)(hx:Bytes xs)(hn:n<=281474976710656)(T:TypeId:=5) :
  Holds (w.alloc (.cells cs T)) (S+1) (some ⟨S,0,none⟩) n n xs:=by
 subst hcs;subst hS;subst hl;exact⟨rfl,Nat.le_refl _,hn,hx,λhA=>(by cases hA),λ_=>⟨w.heap.size,0,rfl,by omega,λi hi=>by have hr:(w.alloc (.cells (xs.map (Value.int .u8)).toArray T)).heap[w.heap.size]? = some (.cells (xs.map (Value.int .u8)).toArray T (0,0)):=heap_alloc_new w _;rw[Nat.zero_add,cell_of_row _ w.heap.size i _ T (0,0) hr];simp[hi]⟩⟩
theorem Own.len{w:World}{base:Nat}{v:Value}{xs:List Int}(h:Own w base v xs):∃A c,v=.slice A xs.length c:=by
 rcases h.2 with⟨rfl,h0⟩ | ⟨g,cap,cur,rfl,_⟩
 ·exact⟨none,0,by rw[h0]⟩
 ·exact⟨_,_,rfl⟩
theorem Y1a.own{w:World}{base n:Nat}{A:Option Addr}{xs:List Int}(h:Y1a w base A xs)(hn:xs.length=n)(hc:n<=281474976710656):Own w base (.slice A n n) xs:=by
 refine⟨by simp,?_⟩;rcases h with⟨rfl,rfl⟩ | ⟨g,rfl,hg,hr⟩
 ·obtain rfl:n=0:=by simpa using hn.symm
  exact .inl ⟨rfl,rfl⟩
 ·subst hn;exact .inr ⟨g,xs.length,_,rfl,hg,hr,Nat.le_refl _,by unfold maxLen;omega,by simp,by rw[List.take_of_length_le (by simp)]⟩
theorem D0a{w:World}{ops:Array Oper}{rest:List Oper}{o:Oper}{a:Act}{Q:Exit->Act->World->Prop}(hgd:o.guard=none)(s x:Operand)
(ho:o.op=.call { callee:=.builtin .append,args:=#[s,x],argTypes:=#[31,31] })
(base:Nat)(v:Value)(xs:List Int)(hs:a.eval s=v)(hown:Own w base v xs)(B:Nat)(A:Option Addr)(m c:Nat)(ys:List Int)(hx:a.eval x=.slice A m c)
(hr:Holds w B A m c ys)(hlen:xs.length+ys.length<=140737488355328)(hbase:base<=w.heap.size)
(h:∀v' w',Hid (Own w' base v' (xs++ys))->Below base w w'->w.grownBy w' v.ownBlock->wpList Tryz.prog ops Q rest (a.put o.dst v') w') :
  wpList Tryz.prog ops Q (o::rest) a w:=by
 obtain⟨i0,hi,hz0,hz1,hz2⟩:=info_parts v3a;have hl:=hr.len;rcases A with _ | ad
 ·have hc:=hr.bare rfl;have hf:=hr.fit;have hm:m=0:=by omega
  subst hm;subst hc;have:ys=[]:=List.eq_nil_of_length_eq_zero hl;subst this;refine wpList_append_own_none hgd s x 31 ho base 5 i0 1 Tryz.underlying31 hi v xs.length _ hs hown hx ?_;exact h v w (by rw[List.append_nil];exact hown) (Below.refl _ _) (World.grownBy.refl w _)
 ·refine wpList_append_own w hgd s x 31 ho base 5 i0 (.int .u8 0) 1 1 Tryz.underlying31 hi hz0 hz1 hz2 rfl (by omega) v xs.length _ hs hown ad m c (ys.map (Value.int .u8)) hx (by simp[hl]) ?_
   (by intro v hv;obtain⟨x,_,rfl⟩:=List.mem_map.1 hv;rfl) (by unfold maxLen;omega) (by omega) hbase ?_
  ·intro j u hj;have hjl:j<ys.length:=by
    by_cases hj':j<ys.length
    ·exact hj'
    ·rw[List.getElem?_eq_none (by simp;omega)] at hj;cases hj
   obtain⟨b,off,he,_,hcl⟩:=hr.cells (by omega);obtain rfl:=Option.some.inj he;have e:(⟨b,off,none⟩:Addr).add j=⟨b,off+j,none⟩:=by
    by_cases hj0:j=0
    ·subst hj0;simp[Addr.add]
    ·simp[Addr.add,hj0]
   rw[e,hcl j (by omega),<-hj];simp[hjl]
  ·intro v' w' hown' hgr _;refine h v' w' ?_ ((Below.refl _ _).grown hgr hbase (λk hk=>(hown.lt k hk).1)) hgr;show World.ownsRow _ _ _ _ _ _ _
   rw[List.length_append,List.map_append,hl];exact hown'
def X2a(k:IntKind)(e:TypeId)(w:World)(base:Nat)(v:Value)(xs:List Int):Prop:=w.ownsRow base e 1 v xs.length (xs.map (Value.int k))
def a1a(k:IntKind)(e:TypeId)(w:World)(base:Nat)(v:Value)(xs:List Int):Prop:=(v=.slice none 0 0/\xs=[])∨∃g m,v=.slice (some ⟨g,0,none⟩) xs.length (xs.length+m)/\base<=g/\xs.length+m<=maxLen/\w.heap[g]? = some (.cells ((xs++List.replicate m 0).map (Value.int k)).toArray e (0,0))
def J3b(w w':World)(v:Value):Prop:=∃o,(w.alloc o).grownBy w' v.ownBlock
section
variable {k k':IntKind} {e e':TypeId} {w w':World} {base base':Nat} {v u:Value} {xs ys:List Int}
theorem X2a.nil(k:IntKind)(e:TypeId)(w:World)(base:Nat):X2a k e w base (.slice none 0 0) []:=World.ownsRow_nil w base e 1
theorem a1a.nil(k:IntKind)(e:TypeId)(w:World)(base:Nat):a1a k e w base (.slice none 0 0) []:=.inl ⟨rfl,rfl⟩
theorem a1a.own(h:a1a k e w base v xs):X2a k e w base v xs:=by
 rcases h with⟨rfl,rfl⟩ | ⟨g,m,rfl,hb,hm,hg⟩
 ·exact X2a.nil k e w base
 ·exact⟨by simp,.inr ⟨g,_,_,rfl,hb,hg,by omega,hm,by simp,by simp⟩⟩
theorem X2a.mono(h:X2a k e w base v xs)(hb:base'<=base):X2a k e w base' v xs:=by
 refine⟨h.1,?_⟩;rcases h.2 with h0 | ⟨g,cap,cur,rfl,h1,rest⟩
 ·exact .inl h0
 ·exact .inr ⟨g,cap,cur,rfl,by omega,rest⟩
theorem a1a.mono(h:a1a k e w base v xs)(hb:base'<=base):a1a k e w base' v xs:=by
 rcases h with h0 | ⟨g,m,rfl,h1,rest⟩
 ·exact .inl h0
 ·exact .inr ⟨g,m,rfl,by omega,rest⟩
theorem X2a.keep(h:X2a k e w base v xs)(hk:∀i cs,v.ownBlock=some i->w.heap[i]? = some (.cells cs e (0,0))->w'.heap[i]? = w.heap[i]?):X2a k e w' base v xs:=by
 refine⟨h.1,?_⟩;rcases h.2 with h0 | ⟨g,cap,cur,rfl,h1,hg,rest⟩
 ·exact .inl h0
 ·exact .inr ⟨g,cap,cur,rfl,h1,(hk g cur rfl hg).trans hg,rest⟩
theorem a1a.keep(h:a1a k e w base v xs)(hk:∀i cs,v.ownBlock=some i->w.heap[i]? = some (.cells cs e (0,0))->w'.heap[i]? = w.heap[i]?):a1a k e w' base v xs:=by
 rcases h with h0 | ⟨g,m,rfl,h1,hm,hg⟩
 ·exact .inl h0
 ·exact .inr ⟨g,m,rfl,h1,hm,(hk g _ rfl hg).trans hg⟩
theorem X2a.below(h:X2a k e w base v xs)(hb:Below w.heap.size w w'):X2a k e w' base v xs:=h.keep λi _ _ hi=>hb.block i (Array.getElem?_eq_some_iff.1 hi).1
theorem a1a.below(h:a1a k e w base v xs)(hb:Below w.heap.size w w'):a1a k e w' base v xs:=h.keep λi _ _ hi=>hb.block i (Array.getElem?_eq_some_iff.1 hi).1
theorem X2a.alloc(h:X2a k e w base v xs)(o:Obj):X2a k e (w.alloc o) base v xs:=h.keep λ_ _ _ hi=>Below.heap_alloc _ _ _ (Array.getElem?_eq_some_iff.1 hi).1
theorem a1a.alloc(h:a1a k e w base v xs)(o:Obj):a1a k e (w.alloc o) base v xs:=h.keep λ_ _ _ hi=>Below.heap_alloc _ _ _ (Array.getElem?_eq_some_iff.1 hi).1
theorem X2a.iterAt(h:X2a k e w base v xs){K:Nat}{s:ByteArray}{p:Nat}(hK:w.heap[K]? = some (.stringIter s p))(p':Nat):X2a k e (w.iterAt K s p') base v xs:=h.keep λ_ _ _ hi=>Lib.iterAt_other w K _ s p' (λe=>by subst e;rw[hi] at hK;cases hK)
theorem a1a.iterAt(h:a1a k e w base v xs){K:Nat}{s:ByteArray}{p:Nat}(hK:w.heap[K]? = some (.stringIter s p))(p':Nat):a1a k e (w.iterAt K s p') base v xs:=h.keep λ_ _ _ hi=>Lib.iterAt_other w K _ s p' (λe=>by subst e;rw[hi] at hK;cases hK)
theorem X2a.block(h:X2a k e w base v xs){i:Nat}(hi:v.ownBlock=some i):base<=i/\∃cs,w.heap[i]? = some (.cells cs e (0,0)):=by
 rcases h.2 with⟨rfl,_⟩ | ⟨g,cap,cur,rfl,h1,hg,rest⟩
 ·cases hi
 ·simp only[Value.ownBlock,Option.some.injEq] at hi;subst hi;exact⟨h1,cur,hg⟩
theorem X2a.open(h:X2a k e w base v xs):∃A n c,v=.slice A n c/\xs.length=n/\n<=c/\n<=9223372036854775807/\(A=none->c=0)/\
  (0<n->∃g,A=some ⟨g,0,none⟩/\base<=g/\g<w.heap.size/\∀i,i<n->w.cell? ⟨g,i,none⟩=some (.int k (xs.getD i 0))):=by
 rcases h.2 with⟨rfl,h0⟩ | ⟨g,cap,cur,rfl,hb,hg,hnc,hcm,hcs,htk⟩
 ·exact⟨none,0,0,rfl,h0,Nat.le_refl _,by omega,λ_=>rfl,λh=>absurd h (by omega)⟩
 ·refine⟨_,_,_,rfl,rfl,hnc,by unfold maxLen at hcm;omega,λhA=>(by cases hA),λh0=>⟨g,rfl,hb,(Array.getElem?_eq_some_iff.1 hg).1,λi hi=>?_⟩⟩;rw[cell_of_row w g i cur e (0,0) hg];have e1:cur[i]? = (cur.toList.take (xs.length*1))[i]?:=by rw[List.getElem?_take,if_pos (by omega),Array.getElem?_toList]
  rw[e1,htk];simp[hi]
theorem J3b.below(hg:J3b w w' v)(h:X2a k e w base v xs)(hb:base<=w.heap.size):Below base w w':=by obtain⟨o,hg⟩:=hg;exact((Below.refl base w).alloc hb o).grown hg (by simp;omega) λi hi=>(h.block hi).1
theorem J3b.block(hg:J3b w w' v){i:Nat}{x:Obj}(hi:w.heap[i]? = some x)(hn:v.ownBlock≠some i):w'.heap[i]? = some x:=by obtain⟨o,hg⟩:=hg;have hlt:=(Array.getElem?_eq_some_iff.1 hi).1;rw[hg.block i (by simp;omega) (λe=>hn e.symm),Below.heap_alloc _ _ _ hlt,hi]
theorem J3b.iter(hg:J3b w w' v)(h:X2a k e w base v xs){K:Nat}{s:ByteArray}{p:Nat}(hK:w.heap[K]? = some (.stringIter s p)):w'.heap[K]? = some (.stringIter s p):=
 hg.block hK λhi=>by obtain⟨_,cs,hcs⟩:=h.block hi;rw[hcs] at hK;cases hK
theorem J3b.other(hg:J3b w w' v)(h:X2a k e w base v xs)(h':X2a k' e' w base' u ys)(hne:e≠e'):X2a k' e' w' base' u ys:=
 h'.keep λ_ _ _ hi=>by rw[hg.block hi λhv=>?_,hi];obtain⟨_,cs',hcs⟩:=h.block hv;rw[hcs] at hi;cases hi;exact hne rfl
theorem f3a(k:IntKind)(n:Nat):(Builtin.zeroCells (Value.int k 0).cells n)=(List.replicate n (Value.int k 0)).toArray:=by
 apply Array.ext
 ·simp[Builtin.zeroCells,Value.cells]
 ·intro i h1 h2;simp[Builtin.zeroCells,Value.cells,Nat.mod_one]
theorem N8a{P:Program}{ops:Array Oper}{rest:List Oper}{o:Oper}{a:Act}{Q:Exit->Act->World->Prop}(hg:o.guard=none)(k:IntKind)(T e:TypeId)(bytes:Nat)
(ht:P.underlying T=some (.slice e))(hi:(P.info? e).map (λi=>(i.zero,i.size,i.bytes))=some (some (.int k 0),1,bytes))
(l c:Operand)(hop:o.op=Op.makeSlice T l c)(C:Int)(n:Nat)(hl:a.eval l=.int .i64 0)(hc:a.eval c=.int .i64 C)(hC:C=(n:Int))(hb:n*bytes<=281474976710656)(hn:n<=maxLen)
(hK:∀w',Hid (a1a k e w' w.heap.size (.slice (some ⟨w.heap.size,0,none⟩) 0 n) [])->Below w.heap.size w w'->wpList P ops Q rest (a.put o.dst (.slice (some ⟨w.heap.size,0,none⟩) 0 n)) w') :
  wpList P ops Q (o::rest) a w:=by
 obtain⟨i0,hi0,hz0,hz1,hz2⟩:=info_parts hi;refine wpList_plain hg λK hK'=>?_
 have h63:(n:Int)<=9223372036854775807:=by have:=hn;rw[show maxLen=9223372036854775807 from rfl] at this;omega
 have hbb:(i0.bytes:Int)*(n:Int)<=281474976710656:=by
  have h:((i0.bytes*n:Nat):Int)<=281474976710656:=by rw[hz2,Nat.mul_comm];omega
  rwa [Int.natCast_mul] at h
 have hrun:=run_make (P:=P) w T e i0 (.int k 0) ht hi0 hz0 .i64 .i64 0 n (Int.le_refl _) (by omega) hbb h63;have q0a:madeCells (Value.int k 0).cells (n*i0.size)=(List.replicate n (Value.int k 0)).toArray:=by rw[hz1,Nat.mul_one];apply Array.toList_inj.1;rw[show(Value.int k 0).cells=#[Value.int k 0] from rfl,toList_madeCells_one]
 simp only[Int.toNat_zero,Int.toNat_natCast,q0a] at hrun;subst hC;unfold Oper.wp;simp[execOp,hop,hl,hc,hrun,Result.andThen];refine hK' _ _ (hK _ ?_ ((Below.refl _ _).alloc (Nat.le_refl _) _));exact .inr ⟨w.heap.size,n,by simp,Nat.le_refl _,by simpa using hn,by rw[List.nil_append,List.map_replicate];exact heap_alloc_new w _⟩
theorem t5a{P:Program}{ops:Array Oper}{rest:List Oper}{o:Oper}{a:Act}{Q:Exit->Act->World->Prop}(hgd:o.guard=none)(s x:Operand)(k:IntKind)(T e:TypeId)(bytes:Nat)
(ht:P.underlying T=some (.slice e))(hi:(P.info? e).map (λi=>(i.zero,i.size,i.bytes))=some (some (.int k 0),1,bytes))
(ho:o.op=.call { callee:=.builtin .append,args:=#[s,x],argTypes:=#[T,T] })
(base:Nat)(v:Value)(xs ys:List Int)(cs:Array Value)(hcs:cs=(ys.map (Value.int k)).toArray)(m c:Nat)(hm:ys.length=m)(hs:a.eval s=v)(hx:a.eval x=.slice (some ⟨w.heap.size,0,none⟩) m c)
(hown:X2a k e w base v xs)(hlen:(xs.length+m)*bytes<=140737488355328)(h63:xs.length+m<=9223372036854775807)(hbase:base<=w.heap.size)
(h:∀v' w',Hid (X2a k e w' base v' (xs++ys))->Hid (J3b w w' v)->wpList P ops Q rest (a.put o.dst v') w') :
  wpList P ops Q (o::rest) a (w.alloc (.cells cs e)):=by
 obtain⟨i0,hi0,hz0,hz1,hz2⟩:=info_parts hi;subst hcs;have hr:(w.alloc (.cells (ys.map (Value.int k)).toArray e)).heap[w.heap.size]? = some (.cells (ys.map (Value.int k)).toArray e (0,0)):=heap_alloc_new w _;refine wpList_append_own _ hgd s x T ho base e i0 (.int k 0) 1 bytes ht hi0 hz0 hz1 hz2 rfl (by omega) v xs.length (xs.map (Value.int k)) hs (X2a.alloc hown _) ⟨w.heap.size,0,none⟩ m c (ys.map (Value.int k)) hx (by simp[hm]) ?_
  (by intro v hv;obtain⟨x,_,rfl⟩:=List.mem_map.1 hv;rfl) (by unfold maxLen;omega) hlen (by simp;omega) ?_
 ·intro j y hj;have e1:(⟨w.heap.size,0,none⟩:Addr).add j=⟨w.heap.size,j,none⟩:=by
   by_cases hj0:j=0
   ·subst hj0;simp[Addr.add]
   ·simp[Addr.add,hj0]
  rw[e1,cell_of_row _ w.heap.size j _ e (0,0) hr,<-hj];simp
 ·intro v' w' hown' hgr _;refine h v' w' ?_ ⟨_,hgr⟩;show World.ownsRow _ _ _ _ _ _ _
  rw[List.length_append,List.map_append,hm];exact hown'
theorem j9a:maxLen=9223372036854775807:=rfl
end
section
variable {k:IntKind} {e:TypeId} {w:World} {base:Nat} {v:Value} {xs ys:List Int}
theorem f5a(k:IntKind)(e:TypeId)(w:World)(base:Nat)(zs:List Int)(old m:Nat)(hz:zs.length=m)(hb:base<=w.heap.size)(hm:m<=maxLen) :
  a1a k e (w.drew.alloc (.cells ((zs.map (Value.int k)).toArray++Builtin.zeroCells (Value.int k 0).cells (grownCap w m old e-m)) e)) base (.slice (some ⟨w.heap.size,0,none⟩) m (grownCap w m old e)) zs:=by
 have hge:=grownCap_ge w m old e;have hle:=grownCap_le_maxLen w m old e hm;refine .inr ⟨w.heap.size,grownCap w m old e-m,by rw[hz,show m+(grownCap w m old e-m)=grownCap w m old e by omega],hb,by omega,?_⟩;rw[f3a,List.map_append,List.map_replicate,<-List.append_toArray];exact heap_alloc_new w.drew _
theorem A7a{P:Program}{ops:Array Oper}{rest:List Oper}{o:Oper}{a:Act}{Q:Exit->Act->World->Prop}(hgd:o.guard=none)(s x:Operand)(k:IntKind)(T e:TypeId)(bytes:Nat)
(ht:P.underlying T=some (.slice e))(hi:(P.info? e).map (λi=>(i.zero,i.size,i.bytes))=some (some (.int k 0),1,bytes))
(ho:o.op=.call { callee:=.builtin .append,args:=#[s,x],argTypes:=#[T,T] })
(base:Nat)(v:Value)(xs ys:List Int)(cs:Array Value)(hcs:cs=(ys.map (Value.int k)).toArray)(m c:Nat)(hm:ys.length=m)(hm0:0<m)(hs:a.eval s=v)(hx:a.eval x=.slice (some ⟨w.heap.size,0,none⟩) m c)
(hown:a1a k e w base v xs)(hlen:(xs.length+m)*bytes<=140737488355328)(h63:xs.length+m<=9223372036854775807)(hbase:base<=w.heap.size)
(h:∀v' w',Hid (a1a k e w' base v' (xs++ys))->Hid (J3b w w' v)->wpList P ops Q rest (a.put o.dst v') w') :
  wpList P ops Q (o::rest) a (w.alloc (.cells cs e)):=by
 obtain⟨i0,hi0,hz0,hz1,hz2⟩:=info_parts hi;subst hcs;obtain⟨w1,hw1⟩:∃w1,w1=w.alloc (.cells (ys.map (Value.int k)).toArray e):=⟨_,rfl⟩;have hr:w1.heap[w.heap.size]? = some (.cells (ys.map (Value.int k)).toArray e (0,0)):=by rw[hw1];exact heap_alloc_new w _
 have hnews:∀j y,(ys.map (Value.int k))[j]? = some y->w1.cell? ((⟨w.heap.size,0,none⟩:Addr).add j)=some y:=by
  intro j y hj;have e1:(⟨w.heap.size,0,none⟩:Addr).add j=⟨w.heap.size,j,none⟩:=by
   by_cases hj0:j=0
   ·subst hj0;simp[Addr.add]
   ·simp[Addr.add,hj0]
  rw[e1,cell_of_row _ w.heap.size j _ e (0,0) hr,<-hj];simp
 have h1:∀y∈ys.map (Value.int k),y.oneCell'=true:=by intro v hv;obtain⟨x,_,rfl⟩:=List.mem_map.1 hv;rfl
 have hsz:w.heap.size<w1.heap.size:=(Array.getElem?_eq_some_iff.1 hr).1;have key:∀ty,∃v' w',(Builtin.append_ #[T,T] ty #[v,.slice (some ⟨w.heap.size,0,none⟩) m c]).run P w1=.ok v' w'/\a1a k e w' base v' (xs++ys)/\w1.grownBy w' v.ownBlock:=by
  intro ty;rcases hown with⟨rfl,rfl⟩ | ⟨g,z,rfl,hb,hz,hg⟩
  ·have hrun:=run_append_nil (P:=P) w1 T ty e i0 (.int k 0) ht hi0 hz0 ⟨w.heap.size,0,none⟩ m c (ys.map (Value.int k)) (by simp[hm,hz1]) hnews hm0 (by omega) (by rw[hz2];simp at hlen;omega);exact⟨_,_,hrun,by simpa using f5a k e w1 base ys 0 m hm (by omega) (by rw[j9a];simp at h63;omega),⟨rfl,rfl,rfl,by simp,λj hj _=>Below.heap_alloc w1.drew _ j hj⟩⟩
  ·have hg1:w1.heap[g]? = some (.cells ((xs++List.replicate z 0).map (Value.int k)).toArray e (0,0)):=by rw[hw1,Below.heap_alloc _ _ _ (Array.getElem?_eq_some_iff.1 hg).1,hg]
   by_cases hroom:xs.length+m<=xs.length+z
   ·have hrun:=run_append_room (P:=P) w1 T ty e i0 ht hi0 g xs.length (xs.length+z) _ hg1 ⟨w.heap.size,0,none⟩ m c (ys.map (Value.int k)) (by simp[hm,hz1]) hnews h1 hroom (by simp[hz1];omega);refine⟨_,_,hrun,.inr ⟨g,z-m,by simp[hm];omega,hb,by simp;omega,?_⟩,⟨rfl,rfl,rfl,by simp,λj _ hj=>setRow_other w1 g j _ (λe=>hj (by simp[Value.ownBlock,e]))⟩⟩;rw[setRow_heap w1 g _ _ e _ hg1]
    congr 2
    have e1:((xs++List.replicate z 0).map (Value.int k)).take (xs.length*i0.size)=xs.map (Value.int k):=by rw[hz1,Nat.mul_one,List.map_append,List.take_left' (by simp)]
    have e2:((xs++List.replicate z 0).map (Value.int k)).drop (xs.length*i0.size+(ys.map (Value.int k)).length)=(List.replicate (z-m) 0).map (Value.int k):=by rw[hz1,Nat.mul_one,List.length_map,hm,<-List.drop_drop,List.map_append,List.drop_left' (by simp),<-List.map_drop,List.drop_replicate]
    rw[e1,e2];simp
   ·have q0a:∀j y,(xs.map (Value.int k))[j]? = some y->w1.cell? ((⟨g,0,none⟩:Addr).add j)=some y:=by
     intro j y hj;have hjl:j<xs.length:=by
      rcases Nat.lt_or_ge j xs.length with h | h
      ·exact h
      ·rw[List.getElem?_eq_none (by simpa using h)] at hj;cases hj
     have e1:(⟨g,0,none⟩:Addr).add j=⟨g,j,none⟩:=by
      by_cases hj0:j=0
      ·subst hj0;simp[Addr.add]
      ·simp[Addr.add,hj0]
     rw[e1,cell_of_row _ g j _ e (0,0) hg1,<-hj];simp[hjl,List.getElem?_append]
    have hrun:=run_append_grow (P:=P) w1 T ty e i0 (.int k 0) ht hi0 hz0 ⟨g,0,none⟩ xs.length (xs.length+z) (xs.map (Value.int k)) (by simp[hz1]) q0a ⟨w.heap.size,0,none⟩ m c (ys.map (Value.int k)) (by simp[hm,hz1]) hnews (by omega) (by omega) (growslice_fits (by omega) (by rw[hz2];exact hlen));refine⟨_,_,hrun,?_,⟨rfl,rfl,rfl,by simp,λj hj _=>Below.heap_alloc w1.drew _ j hj⟩⟩;have:=f5a k e w1 base (xs++ys) (xs.length+z) (xs.length+m) (by simp[hm]) (by omega) (by rw[j9a];omega);simpa using this
 refine wpList_plain hgd λK hK'=>?_
 obtain⟨v',w',hrun,h2,h3⟩:=key o.type;rw[<-hw1];unfold Oper.wp execOp;simp only[ho,resolve,invoke,builtin,Sem.run_bind,Sem.run_pure,Result.andThen_ok,List.map_toArray,List.map_cons,List.map_nil,hs,hx,hrun];exact hK' _ _ (h v' w' h2 ⟨_,by rw[<-hw1];exact h3⟩)
theorem k9a{P:Program}{ops:Array Oper}{o:Oper}{a:Act}{K:Act->World->Prop}{Q:Exit->Act->World->Prop}{E:Prop}(hgd:o.guard=none)(s x:Operand)(k:IntKind)(T e:TypeId)(bytes:Nat)
(ht:P.underlying T=some (.slice e))(hi:(P.info? e).map (λi=>(i.zero,i.size,i.bytes))=some (some (.int k 0),1,bytes))
(ho:o.op=.call { callee:=.builtin .append,args:=#[s,x],argTypes:=#[T,T] })
(base:Nat)(v:Value)(xs ys:List Int)(cs:Array Value)(hcs:cs=(ys.map (Value.int k)).toArray)(m c:Nat)(hm:ys.length=m)(hs:a.eval s=v)(hx:a.eval x=.slice (some ⟨w.heap.size,0,none⟩) m c)
(hown:X2a k e w base v xs)(hlen:(xs.length+m)*bytes<=140737488355328)(h63:xs.length+m<=9223372036854775807)(hbase:base<=w.heap.size)
(h:∀v' w',Hid (X2a k e w' base v' (xs++ys))->Hid (J3b w w' v)->K (a.put o.dst v') w') :
  if Region.wanted o (yielded ops a.tmps)=true then Oper.wp P o a (w.alloc (.cells cs e)).drew K Q else E:=by
 have hw:Region.wanted o (yielded ops a.tmps)=true:=by simp[Region.wanted,hgd]
 rw[if_pos hw];obtain⟨i0,hi0,hz0,hz1,hz2⟩:=info_parts hi;subst hcs;have hr:(w.alloc (.cells (ys.map (Value.int k)).toArray e)).drew.heap[w.heap.size]? = some (.cells (ys.map (Value.int k)).toArray e (0,0)):=heap_alloc_new w _;refine wp_append_own _ s x T ho base e i0 (.int k 0) 1 bytes ht hi0 hz0 hz1 hz2 rfl (by omega) v xs.length (xs.map (Value.int k)) hs (show X2a k e (w.alloc _).drew base v xs from (X2a.alloc hown _).keep λ_ _ _ _=>rfl) ⟨w.heap.size,0,none⟩ m c (ys.map (Value.int k)) hx (by simp[hm]) ?_
  (by intro v hv;obtain⟨x,_,rfl⟩:=List.mem_map.1 hv;rfl) (by unfold maxLen;omega) hlen (by show base<=(w.alloc _).heap.size;simp;omega) ?_
 ·intro j y hj;have e1:(⟨w.heap.size,0,none⟩:Addr).add j=⟨w.heap.size,j,none⟩:=by
   by_cases hj0:j=0
   ·subst hj0;simp[Addr.add]
   ·simp[Addr.add,hj0]
  rw[e1,cell_of_row _ w.heap.size j _ e (0,0) hr,<-hj];simp
 ·intro v' w' hown' hgr _;refine h v' w' ?_ ⟨_,⟨hgr.os,hgr.tape,hgr.output,hgr.size,hgr.block⟩⟩;show World.ownsRow _ _ _ _ _ _ _
  rw[List.length_append,List.map_append,hm];exact hown'
theorem X2a.lit(k:IntKind)(e:TypeId)(w:World)(xs:List Int)(cs:Array Value)(n:Nat)(hcs:cs=(xs.map (Value.int k)).toArray)(hn:xs.length=n)(hm:n<=maxLen) :
  X2a k e (w.alloc (.cells cs e)) w.heap.size (.slice (some ⟨w.heap.size,0,none⟩) n n) xs:=by
 subst hcs;subst hn;exact⟨by simp,.inr ⟨w.heap.size,_,_,rfl,Nat.le_refl _,heap_alloc_new w _,Nat.le_refl _,hm,by simp,List.take_of_length_le (by simp)⟩⟩
end
end Go.Proofs.YtgfflnjggnadpaaGreatDoor
namespace Go.Proofs
open Go.Shelf
open Go.RowKit in
open Go.RowKit in
open Go.Proofs Go.RowKit Go.Lib in
def Tryz.lays196_ren:Go.Shelf.Ren:=⟨fun | 196=>187 | 259=>193 | n=>n,fun | 9=>9 | 4=>4 | 3=>3 | 5=>5 | 12=>12 | 119=>225 | 0=>0 | 46=>130 | 139=>228 | 138=>227 | 53=>25 | n=>n,fun | 3=>0 | 4=>1 | n=>n⟩
theorem Tryz.lays196:Go.Proofs.Lays.n196 Tryz.prog Tryz.lays196_ren:={
 mixed:=by kernel_rfl
 f196:=Tryz.func187.trans (congrArg some (by kernel_rfl))
 f259:=Tryz.func193.trans (congrArg some (by kernel_rfl))
 t0:=Tryz.underlying0
 a0:=Tryz.isAgg0
 z0:=Tryz.sizeOf0
 v0:=Tryz.zeroValue0
 t3:=Tryz.underlying3
 a3:=Tryz.isAgg3
 z3:=Tryz.sizeOf3
 v3:=Tryz.zeroValue3
 t4:=Tryz.underlying4
 a4:=Tryz.isAgg4
 z4:=Tryz.sizeOf4
 v4:=Tryz.zeroValue4
 t5:=Tryz.underlying5
 a5:=Tryz.isAgg5
 z5:=Tryz.sizeOf5
 v5:=Tryz.zeroValue5
 t9:=Tryz.underlying9
 a9:=Tryz.isAgg9
 z9:=Tryz.sizeOf9
 v9:=Tryz.zeroValue9
 t12:=Tryz.underlying12
 a12:=Tryz.isAgg12
 z12:=Tryz.sizeOf12
 v12:=Tryz.zeroValue12
 t46:=Tryz.underlying130
 a46:=Tryz.isAgg130
 z46:=Tryz.sizeOf130
 v46:=Tryz.zeroValue130
 t53:=Tryz.underlying25
 a53:=Tryz.isAgg25
 z53:=Tryz.sizeOf25
 v53:=Tryz.zeroValue25
 t119:=Tryz.underlying225
 a119:=Tryz.isAgg225
 z119:=Tryz.sizeOf225
 t138:=Tryz.underlying227
 a138:=Tryz.isAgg227
 z138:=Tryz.sizeOf227
 v138:=Tryz.zeroValue227
 t139:=Tryz.underlying228
 a139:=Tryz.isAgg228
 z139:=Tryz.sizeOf228
 v139:=Tryz.zeroValue228
 g3:=by kernel_rfl
 g4:=by kernel_rfl }
open Go.RowKit Go.Lib in
theorem Tryz.utf8_ValidString(s:ByteArray)(w:World)(hs:s.size<=9223372036854775807)(hT:Lib.Utf8Tabs (Tryz.lays196_ren.g 3) (Tryz.lays196_ren.g 4) w) :
  Calls Tryz.prog 187 #[.string s] w λe w'=>e=.returned (.bool (Lib.validD s.data.toList))/\Below w.heap.size w w':=Any.utf8_ValidString Tryz.lays196 s w hs hT
end Go.Proofs
namespace Go.Proofs.YtgfflnjggnadpaaGreatDoor
open Go.RowKit
theorem o3b:(Tryz.prog.info? 3).map (λi=>(i.zero,i.size,i.bytes))=some (some (.int .i64 0),1,8):=by kernel_rfl
theorem x2b(x:Int)(h0:0<=x)(h1:x<=2147483647):bits .and .i32 x 1023=x%1024:=by
 obtain⟨n,rfl⟩:=Int.eq_ofNat_of_zero_le h0;have e1:(BitVec.ofInt 32 (1023:Int)).toNat=2^10-1:=by decide
 have e2:(BitVec.ofInt 32 (n:Int)).toNat=n:=by rw[BitVec.toNat_ofInt];omega
 show IntKind.i32.wrap ((BitVec.ofInt 32 (n:Int) &&& BitVec.ofInt 32 1023).toNat:Int)=_
 rw[BitVec.toNat_and,e1,e2,Nat.and_two_pow_sub_one_eq_mod];simp[IntKind.wrap,IntKind.bits,IntKind.signed];omega
theorem n5a(w:World)(base:Nat)(v:Value)(xs:List Int)(u:Int)(hu:0<=u/\u<=65535)(h:a1a .u8 5 w base v xs)(hl:xs.length<=70368744177664)(hb:base<=w.heap.size) :
  Calls Tryz.prog 179 #[v,.int .i32 u] w λe w'=>∃v',e=.returned v'/\a1a .u8 5 w' base v' (xs++[u%256,u/256])/\J3b w w' v:=by
 obtain⟨hu0,hu1⟩:=hu;have H:=hI h;clear h;go_enter Tryz.func179,Tryz.ntmps179;go_wp2_with(at_builtin;go_loud (refine A7a rfl (.tmp 5) (.tmp 11) .u8 31 5 1 Tryz.underlying31 v3a rfl base v xs [u%256,u/256] _ rfl 2 2 rfl (by omega) rfl rfl H.out (by omega) (by omega) hb ?_;intro v1 w1 ho1 hg1));go_ret;exact⟨_,rfl,ho1.out,hg1.out⟩
def f7a(w:World):Prop:=Lib.Utf8Tabs 0 1 w
theorem f7a.below{w w':World}(h:f7a w)(hb:Below w.heap.size w w'):f7a w':=Utf8Tabs_below h hb
theorem O4b(s:ByteArray)(w:World)(hs:s.size<=9223372036854775807)(hT:f7a w) :
  Calls Tryz.prog 187 #[.string s] w λe w'=>e=.returned (.bool (w2a s.data.toList))/\Below w.heap.size w w':=by
 have:=Tryz.utf8_ValidString s w hs hT
 rwa [K0b] at this
theorem P4b(s:ByteArray)(w:World)(hs:s.size<=140737488355328)(hT:f7a w) :
  Calls Tryz.prog 178 #[.string s] w λe w'=>e=.returned (.tuple #[.int .i64 (s4a s.data.toList),.int .i64 (s2a s.data.toList)])/\Below w.heap.size w w':=by
 have cV:=O4b s w (by omega) hT;by_cases ht:w2a s.data.toList=true
 ·have e1:s4a s.data.toList=E2a (q1a s.data.toList):=if_pos ht;have e2:s2a s.data.toList=0:=if_pos ht;obtain⟨U,hU⟩:∃U,U=E2a (q1a s.data.toList):=⟨_,rfl⟩;rw[ht] at cV;rw[e1,e2,<-hU];have HU:=hI hU;have CV:=hI cV;have HT:=hI ht;clear e1 e2 hU cV ht;go_enter Tryz.func178,Tryz.ntmps178;go_wp2_with fail;refine CV.out.mono ?_;rintro e w1 ⟨rfl,hb1⟩;clear CV;go_wp2;go_loopw [4,6] (λn _ wr=>∃(pos k:Nat),n=.int .i64 k/\wr.heap[w1.heap.size]? = some (.stringIter s pos)/\Below w.heap.size w wr/\Hid (k+E2a (q1a (s.data.toList.drop pos))=U)/\Hid (w2a (s.data.toList.drop pos)=true)/\k<=2*pos/\pos<=s.size) (λ_ _ wr=>s.size-wr.iterPos w1.heap.size)
  case atStart=>
   refine⟨0,0,rfl,World.iter_heap w1 s 0,hb1.alloc hb1.size _,?_,HT,by omega,by omega⟩;show _=_
   rw[HU.out,List.drop_zero,Nat.zero_add]
  case round=>
   obtain⟨pos,k,rfl,hit,hb,HE,HX,hk,hps⟩:=hrel;have hK:w1.heap.size<wr.heap.size:=(Array.getElem?_eq_some_iff.1 hit).1;have hb1s:=hb1.size;by_cases hp:pos<s.size
   ·have hnx:∀ty,(Instr.next (.pointer (some ⟨w1.heap.size,0,none⟩)) true ty).run Tryz.prog wr=_:=λty=>Lib.run_next_any_at wr w1.heap.size s pos ty hit hp
    obtain⟨n1,n2,n3⟩:=L0b s pos hp;obtain⟨m1,m2,m3⟩:=A1b s pos hp HX.out;obtain⟨R,hR⟩:∃R:Int,R=((Utf8.decode s pos).1:Int):=⟨_,rfl⟩;obtain⟨p',hp'⟩:∃p',p'=pos+(Utf8.decode s pos).2:=⟨_,rfl⟩;rw[<-hp'] at hnx n1 n3 m1 m2;rw[<-hR] at hnx m1 m3;have hit2:=Lib.iterAt_heap wr w1.heap.size s pos p' hit;have hb2:=Lib.below_iterAt hb (k:=w1.heap.size) hb1s s p';have hpp:pos<p':=by omega
    have HN:=hI m1;have HX':=hI m2;have HI:=hI hit2;obtain⟨r0,r1,r2⟩:=m3;have hit0:=hit;clear n1 n2 m1 m2 hR hp' hit hit2;by_cases hlt:R<65536
    ·go_wp2;go_roundw
     case rel=>
      refine⟨p',k+1,by go_num,HI.out,hb2,?_,HX',by omega,n3⟩;show _=_
      have:=HE.out;rw[HN.out,E2a,if_pos hlt] at this;omega
     case measure=>have:=HI.out;simp only[World.iterPos,hit0,this];omega
    ·go_wp2;go_roundw
     case rel=>
      refine⟨p',k+2,by go_num,HI.out,hb2,?_,HX',by omega,n3⟩;show _=_
      have:=HE.out;rw[HN.out,E2a,if_neg hlt] at this;omega
     case measure=>have:=HI.out;simp only[World.iterPos,hit0,this];omega
   ·have hnx:∀ty,(Instr.next (.pointer (some ⟨w1.heap.size,0,none⟩)) true ty).run Tryz.prog wr=_:=λty=>Lib.run_next_end_at wr w1.heap.size s pos ty hit hp
    have e:k=U:=by have:=HE.out;rw[M0b s pos hp] at this;exact this
    subst e;go_wp2;go_ret2;exact⟨rfl,hb⟩
 ·have ht':w2a s.data.toList=false:=by simpa using ht
  have e1:s4a s.data.toList=0:=if_neg ht;have e2:s2a s.data.toList=5:=if_neg ht;rw[ht'] at cV;rw[e1,e2];have CV:=hI cV;clear e1 e2 cV ht ht';go_enter Tryz.func178,Tryz.ntmps178;go_wp2_with fail;refine CV.out.mono ?_;rintro e w1 ⟨rfl,hb1⟩;go_wp2;go_ret2;exact⟨rfl,hb1⟩
def O0b(w:World)(l:List UInt8)(e:Ending)(w':World):Prop:=∃v,e=.returned (.tuple #[v,.int .i64 (s2a l)])/\a1a .u8 5 w' w.heap.size v (R1a l)/\Below w.heap.size w w'
theorem t6b(s:ByteArray)(w:World)(hs:s.size<=17592186044416)(hT:f7a w) :
  Calls Tryz.prog 161 #[.string s] w (O0b w s.data.toList):=by
 have cU:=P4b s w (by omega) hT;have hq:∀e w',(∃v,e=.returned (.tuple #[v,.int .i64 (s2a s.data.toList)])/\a1a .u8 5 w' w.heap.size v (R1a s.data.toList)/\Below w.heap.size w w')->O0b w s.data.toList e w':=λ_ _ h=>h
 by_cases ht:w2a s.data.toList=true
 ·have e1:s4a s.data.toList=E2a (q1a s.data.toList):=if_pos ht;have e2:s2a s.data.toList=0:=if_pos ht;have e3:R1a s.data.toList=H1a (q1a s.data.toList):=if_pos ht;have hle:=e7a s.data.toList;rw[<-Lib.size_eq] at hle;obtain⟨U,hU⟩:∃U,U=E2a (q1a s.data.toList):=⟨_,rfl⟩;have hl2:=f6a (q1a s.data.toList);obtain⟨Z,hZ⟩:∃Z,Z=H1a (q1a s.data.toList):=⟨_,rfl⟩;rw[e1,e2,<-hU] at cU;rw[e1,<-hU] at hle;rw[e2,e3,<-hZ] at hq;rw[<-hZ,<-hU] at hl2;have HQ:=hI hq;have HZ:=hI hZ;have CU:=hI cU;have HT:=hI ht;have HL2:=hI hl2;clear e1 e2 e3 hU cU ht hq hZ hl2;go_enter Tryz.func161,Tryz.ntmps161;go_wp2_with fail;refine CU.out.mono ?_;rintro e w1 ⟨rfl,hb1⟩;clear CU;go_wp2_with(at_make;refine N8a rfl .u8 31 5 1 Tryz.underlying31 v3a _ _ rfl _ (2*U) rfl rfl (by omega) (by omega) (by rw[j9a];omega) ?_;intro w2 ho2 hb2);have hs1:=hb1.size;have hs2:=hb2.size;go_loopw [6,8] (λv _ wr=>∃(pos:Nat) (zs:List Int),Hid (a1a .u8 5 wr w1.heap.size v zs)/\wr.heap[w2.heap.size]? = some (.stringIter s pos)/\Below w.heap.size w wr/\Hid (zs++H1a (q1a (s.data.toList.drop pos))=Z)/\Hid (w2a (s.data.toList.drop pos)=true)/\zs.length<=4*pos/\pos<=s.size) (λ_ _ wr=>s.size-wr.iterPos w2.heap.size)
  case atStart=>
   refine⟨0,[],ho2.out.alloc _,World.iter_heap w2 s 0,(hb1.trans (hb2.mono hs1)).alloc (by omega) _,?_,HT,by simp,by omega⟩;show _=_
   rw[HZ.out,List.drop_zero,List.nil_append]
  case round=>
   obtain⟨pos,zs,HO,hit,hb,HE,HX,hzl,hps⟩:=hrel;have hK:w2.heap.size<wr.heap.size:=(Array.getElem?_eq_some_iff.1 hit).1;by_cases hp:pos<s.size
   ·have hnx:∀ty,(Instr.next (.pointer (some ⟨w2.heap.size,0,none⟩)) true ty).run Tryz.prog wr=_:=λty=>Lib.run_next_any_at wr w2.heap.size s pos ty hit hp
    obtain⟨n1,n2,n3⟩:=L0b s pos hp;obtain⟨m1,m2,m3⟩:=A1b s pos hp HX.out;obtain⟨R,hR⟩:∃R:Int,R=((Utf8.decode s pos).1:Int):=⟨_,rfl⟩;obtain⟨p',hp'⟩:∃p',p'=pos+(Utf8.decode s pos).2:=⟨_,rfl⟩;rw[<-hp'] at hnx n1 n3 m1 m2;rw[<-hR] at hnx m1 m3;have hit2:=Lib.iterAt_heap wr w2.heap.size s pos p' hit;have hb3:=Lib.below_iterAt hb (k:=w2.heap.size) (by omega) s p';have HO3:Hid (a1a .u8 5 (wr.iterAt w2.heap.size s p') w1.heap.size _ zs):=HO.out.iterAt hit p';have hs3:=Lib.iterAt_size wr w2.heap.size s p';obtain⟨w3,hw3⟩:∃w3,w3=wr.iterAt w2.heap.size s p':=⟨_,rfl⟩;rw[<-hw3] at hnx hit2 hb3 HO3 hs3;have hpp:pos<p':=by omega
    have HN:=hI m1;have HX':=hI m2;obtain⟨r0,r1,r2⟩:=m3;have HI0:=hI hit;have HI:=hI hit2;have HS3:=hI hs3;clear n1 n2 m1 m2 hR hp' hit hit2 hw3 hs3;by_cases hlt:R<65536
    ·have c1:=hI (n5a w3 w1.heap.size _ zs R (by omega) HO3.out (by omega) (by have:=HS3.out;omega));go_wp2_with fail;refine c1.out.mono ?_;rintro e w4 ⟨v4,rfl,ho4,hg4⟩;have hb4:=hg4.below HO3.out.own (by have:=HS3.out;omega);have HI4:=hI (hg4.iter HO3.out.own HI.out);have HO4:=hI ho4;clear ho4 hg4 c1;go_wp2;go_roundw
     case rel=>
      refine⟨p',_,HO4,HI4.out,hb3.trans (hb4.mono hs1),?_,HX',by simp;omega,n3⟩;show _=_
      have:=HE.out;rw[HN.out,H1a,List.flatMap_cons,G3a,if_pos hlt,<-List.append_assoc] at this;exact this
     case measure=>have h1:=HI4.out;have h0:=HI0.out;simp only[World.iterPos,h0,h1];omega
    ·have hbit:=x2b (R-65536) (by omega) (by omega);have c1:=hI (n5a w3 w1.heap.size _ zs (55296+(R-65536)/1024) (by omega) HO3.out (by omega) (by have:=HS3.out;omega));go_wp2_with fail;refine c1.out.mono ?_;rintro e w4 ⟨v4,rfl,ho4,hg4⟩;have hb4:=hg4.below HO3.out.own (by have:=HS3.out;omega);have hs4:w3.heap.size<=w4.heap.size:=hb4.size;have HI4:=hI (hg4.iter HO3.out.own HI.out);have HO4:=hI ho4;clear ho4 hg4 c1;have c2:=hI (n5a w4 w1.heap.size _ _ (56320+(R-65536)%1024) (by omega) HO4.out (by simp;omega) (by have:=HS3.out;omega));go_wp2_with fail;refine c2.out.mono ?_;rintro e w5 ⟨v5,rfl,ho5,hg5⟩;have hb5:=hg5.below HO4.out.own (by have:=HS3.out;omega);have HI5:=hI (hg5.iter HO4.out.own HI4.out);have HO5:=hI ho5;clear ho5 hg5 c2;go_wp2;go_roundw
     case rel=>
      refine⟨p',_,HO5,HI5.out,hb3.trans ((hb4.trans hb5).mono hs1),?_,HX',by simp;omega,n3⟩;show _=_
      have:=HE.out;rw[HN.out,H1a,List.flatMap_cons,G3a,if_neg (by omega)] at this;rw[<-this];simp[H1a]
     case measure=>have h1:=HI5.out;have h0:=HI0.out;simp only[World.iterPos,h0,h1];omega
   ·have hnx:∀ty,(Instr.next (.pointer (some ⟨w2.heap.size,0,none⟩)) true ty).run Tryz.prog wr=_:=λty=>Lib.run_next_end_at wr w2.heap.size s pos ty hit hp
    have HEE:Hid (zs=Z):=by have:=HE.out;rw[M0b s pos hp,H1a,List.flatMap_nil,List.append_nil] at this;exact this
    clear HE;go_wp2;go_ret2;refine HQ.out _ _ ⟨_,rfl,?_,hb⟩;rw[<-HEE.out];exact HO.out.mono hs1
 ·have ht':w2a s.data.toList=false:=by simpa using ht
  have e1:s4a s.data.toList=0:=if_neg ht;have e2:s2a s.data.toList=5:=if_neg ht;have e3:R1a s.data.toList=[]:=if_neg ht;rw[e1,e2] at cU;rw[e2,e3] at hq;have HQ:=hI hq;have CU:=hI cU;clear e1 e2 e3 cU ht ht' hq;go_enter Tryz.func161,Tryz.ntmps161;go_wp2_with fail;refine CU.out.mono ?_;rintro e w1 ⟨rfl,hb1⟩;go_wp2;go_ret2;exact HQ.out _ _ ⟨_,rfl,a1a.nil _ _ _ _,hb1⟩
set_option maxRecDepth 100000
theorem V8a(w:World)(B:Nat)(A:Option Addr)(n c:Nat)(xs:List Int)(a m:Int)(h:Holds w B A n c xs)
(ha:-9223372036854775808<=a/\a<=9223372036854775807)(hm:-9223372036854775808<=m/\m<=9223372036854775807) :
  Calls Tryz.prog 101 #[.slice A n c,.int .i64 a,.int .i64 m] w λe w'=>∃A',e=.returned (.tuple #[.slice A' (partOf xs a m).length (partOf xs a m).length,.int .i64 (p1a n a m)])/\
   Holds w B A' (partOf xs a m).length (partOf xs a m).length (partOf xs a m)/\w=w':=by
 have hl:=h.len;have hf:=h.fit;have hr:=h.room;by_cases h1:a<0
 ·have e1:p1a n a m=2:=by simp[p1a,h1]
  have e2:partOf xs a m=[]:=by unfold partOf;rw[hl,e1];rfl
  rw[e1,e2];clear e1 e2 hl;go_enter Tryz.func101,Tryz.ntmps101;go_wp2;go_ret2;exact⟨_,rfl,Holds.nil _ _,rfl⟩
 ·by_cases h2:(n:Int)<a
  ·have e1:p1a n a m=2:=by simp[p1a,h2]
   have e2:partOf xs a m=[]:=by unfold partOf;rw[hl,e1];rfl
   rw[e1,e2];clear e1 e2 hl;go_enter Tryz.func101,Tryz.ntmps101;go_wp2;go_ret2;exact⟨_,rfl,Holds.nil _ _,rfl⟩
  ·by_cases h3:m<0
   ·have e1:p1a n a m=2:=by simp[p1a,h3]
    have e2:partOf xs a m=[]:=by unfold partOf;rw[hl,e1];rfl
    rw[e1,e2];clear e1 e2 hl;go_enter Tryz.func101,Tryz.ntmps101;go_wp2;go_ret2;exact⟨_,rfl,Holds.nil _ _,rfl⟩
   ·by_cases h4:(n:Int)-a<m
    ·have e1:p1a n a m=4:=by unfold p1a;rw[if_neg (by omega),if_pos h4]
     have e2:partOf xs a m=[]:=by unfold partOf;rw[hl,e1];rfl
     rw[e1,e2];clear e1 e2 hl;go_enter Tryz.func101,Tryz.ntmps101;go_wp2;go_ret2;exact⟨_,rfl,Holds.nil _ _,rfl⟩
    ·have e1:p1a n a m=0:=by unfold p1a;rw[if_neg (by omega),if_neg h4]
     have e2:partOf xs a m=(xs.drop a.toNat).take m.toNat:=by unfold partOf;rw[hl,e1];rfl
     obtain⟨k,rfl⟩:=Int.eq_ofNat_of_zero_le (show 0<=a by omega);obtain⟨j,rfl⟩:=Int.eq_ofNat_of_zero_le (show 0<=m by omega);simp only[Int.toNat_natCast] at e2;have e3:((xs.drop k).take j).length=j:=by simp;omega
     by_cases hj:j=0
     ·subst hj;rw[e1,e2,e3];clear e1 e2 e3 hl;go_enter Tryz.func101,Tryz.ntmps101;go_wp2;go_ret2;exact⟨_,rfl,Holds.empty _ _ _ _ (λ_=>rfl),rfl⟩
     ·have hc:=h.cut (k:=k) (m:=j) (by omega) (by omega);rw[e1,e2,e3];clear e1 e2 e3 hl;go_enter Tryz.func101,Tryz.ntmps101;go_wp2;go_ret2;exact⟨_,rfl,hc,rfl⟩
theorem G6a(n:Int)(s:Nat)(M:Int)(hs:B2a s=true)(hM:(256:Int)^s=M)(h0:0<=n)(hp:0<M):(n/M==0)=V2a n s:=by
 unfold V2a;rw[hs,Int.toNat_natCast,hM,Bool.true_and,Bool.eq_iff_iff];simp only[beq_iff_eq,decide_eq_true_eq];constructor
 ·intro h;have:=Int.lt_mul_ediv_self_add (x:=n) hp;rw[h] at this;omega
 ·intro h;exact Int.ediv_eq_zero_of_lt h0 h
theorem K3b{n s:Int}(h1:¬s=1)(h2:¬s=2)(h4:¬s=4)(h8:¬s=8):V2a n s=false:=by simp[V2a,B2a,h1,h2,h4,h8]
theorem B7a(w:World)(n s:Int)(hn:0<=n/\n<=18446744073709551615)(hs:-9223372036854775808<=s/\s<=9223372036854775807) :
  Calls Tryz.prog 79 #[.int .u64 n,.int .i64 s] w λe w'=>e=.returned (.bool (V2a n s))/\w=w':=by
 obtain⟨hn0,hn1⟩:=hn;by_cases h1:s=1
 ·subst h1;go_enter Tryz.func79,Tryz.ntmps79;go_wp2;go_ret;exact⟨H0a (G6a n 1 256 rfl rfl hn0 (by omega)),rfl⟩
 by_cases h2:s=2
 ·subst h2;go_enter Tryz.func79,Tryz.ntmps79;go_wp2;go_ret;exact⟨H0a (G6a n 2 65536 rfl rfl hn0 (by omega)),rfl⟩
 by_cases h4:s=4
 ·subst h4;go_enter Tryz.func79,Tryz.ntmps79;go_wp2;go_ret;exact⟨H0a (G6a n 4 4294967296 rfl rfl hn0 (by omega)),rfl⟩
 by_cases h8:s=8
 ·subst h8;go_enter Tryz.func79,Tryz.ntmps79;go_wp2;go_ret;exact⟨H0a (G6a n 8 18446744073709551616 rfl rfl hn0 (by omega)),rfl⟩
 ·have e:=K3b (n:=n) h1 h2 h4 h8;rw[e];clear e;go_enter Tryz.func79,Tryz.ntmps79;go_wp2;go_ret;exact⟨rfl,rfl⟩
theorem y2b(k:Nat):(2:Nat)^(8*k)=256^k:=by rw[Nat.pow_mul]
theorem l9a(k:Nat):(2:Int)^(8*k)=((256^k:Nat):Int):=by rw[<-y2b,Int.natCast_pow];rfl
theorem z2b(k z y:Nat)(hk:k<8)(hz:z<256^k)(hy:y<=255):bits .or .u64 (z:Int) (IntKind.u64.wrap ((y:Int)*2^(8*k)))=((z+256^k*y:Nat):Int):=by
 have hp:256^k*y+256^k<=256^(k+1):=by rw[Nat.pow_succ,<-Nat.mul_succ];exact Nat.mul_le_mul_left _ (by omega)
 have h8:(256:Nat)^(k+1)<=256^8:=Nat.pow_le_pow_right (by omega) (by omega);have e8:(256:Nat)^8=18446744073709551616:=by decide
 have hw:IntKind.u64.wrap ((y:Int)*2^(8*k))=((256^k*y:Nat):Int):=by rw[l9a,IntKind.wrap_u64,<-Int.natCast_mul,Nat.mul_comm];omega
 rw[hw,u64_or_nat z (256^k*y) (by omega) (by omega),Nat.or_comm,nat_join (8*k) (256^k*y) z (by rw[y2b];exact Nat.mul_mod_right _ _) (by rw[y2b];exact hz),Nat.add_comm]
theorem z7b(k:Nat)(z y:Int)(hk:k<8)(hz0:0<=z)(hz:z<256^k)(hy0:0<=y)(hy:y<=255):bits .or .u64 z (IntKind.u64.wrap (y*2^(8*k)))=z+256^k*y:=by
 obtain⟨a,rfl⟩:=Int.eq_ofNat_of_zero_le hz0;obtain⟨b,rfl⟩:=Int.eq_ofNat_of_zero_le hy0;rw[z2b k a b hk (by
  have:((a:Int))<((256^k:Nat):Int):=by rw[Int.natCast_pow];exact hz
  omega) (by omega)]
 simp
theorem u6b{ys:List Int}{k:Nat}{z y:Int}(hb:Bytes ys)(hk:k<ys.length)(h8:k<8)(hz:z=num (ys.take k))(hy:y=ys.getD k 0) :
  bits .or .u64 z (IntKind.u64.wrap (y*2^(8*k)))=num (ys.take (k+1)):=by
 have h1:=l0b (ys.take k) (hb.take k);have h2:=hb.getD k;have hl:(ys.take k).length=k:=by simp;omega
 rw[hl,<-hz] at h1;rw[<-hy] at h2;rw[z7b k z y h8 h1.1 h1.2 h2.1 h2.2,List.take_succ_eq_append_getElem hk,n6b,hl,<-hz];have e:y=ys[k]:=by rw[hy];simp[List.getD_eq_getElem?_getD,hk]
 rw[e]
theorem v6b(n:Nat)(hn:n<=281474976710656):bits .and .i64 (-(n:Int)) 7=((D4b n-n:Nat):Int):=by
 have e1:(BitVec.ofInt 64 (7:Int)).toNat=7:=by decide
 have e2:(BitVec.ofInt 64 (-(n:Int))).toNat=(18446744073709551616-n)%18446744073709551616:=by rw[BitVec.toNat_ofInt];omega
 show IntKind.i64.wrap ((BitVec.ofInt 64 (-(n:Int)) &&& BitVec.ofInt 64 7).toNat:Int)=_
 rw[BitVec.toNat_and,e1,e2,nat_mask3,IntKind.wrap_i64];unfold D4b;omega
theorem f8a(s:Int):V2a 0 s=B2a s:=by
 unfold V2a;cases h:B2a s with
 | false=>rfl
 | true=>rcases F1a h with rfl | rfl | rfl | rfl<;>rfl
theorem A7b(w:World)(B:Nat)(A:Option Addr)(n c:Nat)(xs:List Int)(a s:Int)(h:Holds w B A n c xs)
(ha:-9223372036854775808<=a/\a<=9223372036854775807)(hs:-9223372036854775808<=s/\s<=9223372036854775807) :
  Calls Tryz.prog 102 #[.slice A n c,.int .i64 a,.int .i64 s] w λe w'=>e=.returned (.tuple #[.int .u64 (H0b xs a s),.int .i64 (w7a n a s)])/\w=w':=by
 have hl:=hI h.len;by_cases hz:B2a s=true
 ·by_cases hp:p1a n a s=0
  ·have e1:w7a n a s=0:=by unfold w7a;rw[if_pos hz,hp]
   have e2:partOf xs a s=(xs.drop a.toNat).take s.toNat:=by unfold partOf;rw[hl.out,if_pos hp]
   have e3:H0b xs a s=num (partOf xs a s):=by unfold H0b;rw[hl.out,if_pos e1,e2]
   obtain⟨z,hzz⟩:∃z,z=num (partOf xs a s):=⟨_,rfl⟩;rw[e1,e3,<-hzz];have HZ:=hI hzz;have H2:=hI e2;clear e1 e2 e3 hzz;have c1:=B7a w 0 s (by omega) hs;rw[f8a,hz] at c1;have C1:=hI c1;have c2:=V8a w B A n c xs a s h ha hs;rw[hp] at c2;have C2:=hI c2;have HS8:s.toNat<=8:=by rcases F1a hz with e | e | e | e<;>rw[e]<;>decide
   clear c1 c2 hz hp;go_enter Tryz.func102,Tryz.ntmps102;go_wp2_with fail;refine C1.out.mono ?_;rintro e w' ⟨rfl,rfl⟩;go_wp2_with fail;refine C2.out.mono ?_;rintro e w' ⟨A',rfl,hv,rfl⟩;obtain⟨ys,hys⟩:∃ys,ys=partOf xs a s:=⟨_,rfl⟩;rw[<-hys] at hv HZ H2⊢;obtain⟨m,hm⟩:∃m,m=ys.length:=⟨_,rfl⟩;rw[<-hm] at hv⊢;have HM:=hI hm;have hm8:m<=8:=by rw[hm,H2.out,List.length_take];omega
   clear hys hm;have hvr:=hv.room;go_wp2_with fail;go_loop [10,11,12,28] (λv i x k=>∃k':Nat,k'<=m/\k=.int .i64 k'/\∃z',v=.int .u64 z'/\Hid (z'=num (ys.take k'))) (λ_ _ _ k=>m-(intOf k).toNat)
   case atStart=>exact⟨0,Nat.zero_le _,rfl,0,rfl,rfl⟩
   case round=>
    obtain⟨k,hk,rfl,z',rfl,HZ'⟩:=hrel;by_cases hlt:k<m
    ·obtain⟨b,off,rfl,hb,hc⟩:=hv.cells (by omega);have gc:=hc k hlt;clear hc;obtain⟨y,hy⟩:∃y,y=ys.getD k 0:=⟨_,rfl⟩;rw[<-hy] at gc;have hy1:0<=y/\y<=255:=by rw[hy];exact hv.byte.getD k
     obtain⟨hy1,hy2⟩:=hy1;have HY:=hI hy;clear hy;have hS:=u6b hv.byte (by have:=HM.out;omega) (by omega) HZ'.out HY.out;have HS:=hI hS;clear hS HZ';go_wp2;go_roundw
     case rel=>exact⟨k+1,by omega,by go_num,_,rfl,HS⟩
     case measure=>simp[intOf];omega
    ·have hS:=hI (show z'=z by rw[HZ'.out,HZ.out,List.take_of_length_le (by have:=HM.out;omega)]);clear HZ';go_wp2;go_ret2;exact⟨by rw[hS.out];rfl,rfl⟩
  ·have e1:w7a n a s=p1a n a s:=by unfold w7a;rw[if_pos hz]
   have e3:H0b xs a s=0:=by unfold H0b;rw[hl.out,e1,if_neg hp]
   have e2:partOf xs a s=[]:=by unfold partOf;rw[hl.out,if_neg hp]
   have c1:=B7a w 0 s (by omega) hs;rw[f8a,hz] at c1;have C1:=hI c1;have c2:=V8a w B A n c xs a s h ha hs;rw[e1,e3];rw[e2] at c2;obtain⟨er,her⟩:∃er,er=p1a n a s:=⟨_,rfl⟩;rw[<-her] at c2 hp⊢;have C2:=hI c2;have hne:(er != 0)=true:=by simpa using hp
   clear c1 c2 hz hp e1 e2 e3 her;go_enter Tryz.func102,Tryz.ntmps102;go_wp2_with fail;refine C1.out.mono ?_;rintro e w' ⟨rfl,rfl⟩;go_wp2_with fail;refine C2.out.mono ?_;rintro e w' ⟨A',rfl,hv,rfl⟩;go_wp2;go_ret2;exact⟨rfl,rfl⟩
 ·have hz':B2a s=false:=by simpa using hz
  have e1:w7a n a s=2:=by unfold w7a;rw[if_neg hz]
  have e3:H0b xs a s=0:=by unfold H0b;rw[hl.out,e1];rfl
  have c1:=B7a w 0 s (by omega) hs;rw[f8a,hz'] at c1;have C1:=hI c1;rw[e1,e3];clear c1 hz hz' e1 e3;go_enter Tryz.func102,Tryz.ntmps102;go_wp2_with fail;refine C1.out.mono ?_;rintro e w' ⟨rfl,rfl⟩;go_wp2;go_ret2;exact⟨rfl,rfl⟩
def C7a(xs:List Int)(k:Nat):Int:=xs.getD k 0+256*xs.getD (k+1) 0
def B7b(xs:List Int)(k:Nat):Int×Nat:=
 if xs.length<k+2 then (0,0)
 else if 56320<=C7a xs k/\C7a xs k<57344 then (0,0)
 else if C7a xs k<55296∨56320<=C7a xs k then (C7a xs k,2)
 else if xs.length<k+4 then (0,0)
 else if 56320<=C7a xs (k+2)/\C7a xs (k+2)<57344 then (65536+(C7a xs k-55296)*1024+(C7a xs (k+2)-56320),4)
 else (0,0)
def n9b(xs:List Int):Nat->Nat->Option (List Int)
 | 0,_=>some []
 | f+1,k=>if k<xs.length then (if (B7b xs k).2=0 then none else (n9b xs f (k+(B7b xs k).2)).map ((B7b xs k).1 :: ·)) else some []
def Z8b(xs:List Int):Option (List Int):=n9b xs xs.length 0
def C7b(xs:List Int):List UInt8:=match Z8b xs with | some rs=>rs.flatMap enc | none=>[]
def D7b(xs:List Int):Int:=match Z8b xs with | some _=>0 | none=>5
def g6a(n:Nat):Int:=if n<=65535 then 0 else 3
def rowOf(xs:List Int):List Int:=if xs.length<=65535 then le xs.length 2++xs else []
theorem A2b{xs:List Int}(h:Bytes xs):Bytes (rowOf xs):=by
 unfold rowOf;split
 ·exact(F0a _ _).append h
 ·exact Bytes.nil
theorem Q4b(xs:List Int)(h:xs.length<=65535):(rowOf xs).length=xs.length+2:=by unfold rowOf;rw[if_pos h,List.length_append,m0a];omega
def a9b(xs:List Int)(a:Int):Int:=l1a xs a.toNat 2
def P0b(xs:List Int)(a most:Int):Int:=if a<0∨(xs.length:Int)<a then 2 else if (xs.length:Int)-a<2 then 4 else if most<a9b xs a then 3 else if (xs.length:Int)-a-2<a9b xs a then 4 else 0
def r7b(xs:List Int)(a most:Int):List Int:=if P0b xs a most=0 then (xs.drop (a.toNat+2)).take (a9b xs a).toNat else []
def w6b(xs:List Int)(a most:Int):Int:=if P0b xs a most=0 then a+2+a9b xs a else 0
def u0a(l:List UInt8):Int:=if s2a l=0 then (if (R1a l).length<=512 then 0 else 3) else s2a l
def G0a(l:List UInt8):List Int:=if u0a l=0 then rowOf (R1a l) else []
def D7a(xs:List Int)(a:Int):Int:=if P0b xs a 512=0 then D7b (r7b xs a 512) else P0b xs a 512
def R4b(xs:List Int)(a:Int):List UInt8:=if D7a xs a=0 then C7b (r7b xs a 512) else []
def C1b(xs:List Int)(a:Int):Int:=if D7a xs a=0 then w6b xs a 512 else 0
def t4a(w:World)(xs:List Int)(a m:Int)(e:Ending)(w':World):Prop:=∃A',e=.returned (.tuple #[.slice A' (partOf xs a m).length (partOf xs a m).length,.int .i64 (p1a xs.length a m)])/\Y1a w' w.heap.size A' (partOf xs a m)/\Below w.heap.size w w'
theorem W8a(w:World)(A:Option Addr)(n c:Nat)(xs:List Int)(a m:Int)(h:Holds w w.heap.size A n c xs)
(ha:-9223372036854775808<=a/\a<=9223372036854775807)(hm:-9223372036854775808<=m/\m<=9223372036854775807) :
  Calls Tryz.prog 58 #[.slice A n c,.int .i64 a,.int .i64 m] w (t4a w xs a m):=by
 have hl:=hI h.len;have c2:=V8a w _ A n c xs a m h ha hm;have hq:∀e w',(∃A',e=.returned (.tuple #[.slice A' (partOf xs a m).length (partOf xs a m).length,.int .i64 (p1a n a m)])/\Y1a w' w.heap.size A' (partOf xs a m)/\Below w.heap.size w w')->t4a w xs a m e w':=by intro e w' hh;unfold t4a;rw[hl.out];exact hh
 have HQ:=hI hq;clear hq;by_cases hp:p1a n a m=0
 ·rw[hp] at c2 HQ;have e2:(partOf xs a m).length=m.toNat/\0<=m:=by
   have h1:=hl.out;unfold partOf;rw[h1,if_pos hp];unfold p1a at hp;by_cases g1:a<0∨(n:Int)<a∨m<0
   ·rw[if_pos g1] at hp;omega
   ·by_cases g2:(n:Int)-a<m
    ·rw[if_neg g1,if_pos g2] at hp;omega
    ·rw[List.length_take,List.length_drop,h1];omega
  obtain⟨j,rfl⟩:=Int.eq_ofNat_of_zero_le e2.2;have e3:(partOf xs a j).length=j:=by rw[e2.1];rfl
  obtain⟨ys,hys⟩:∃ys,ys=partOf xs a j:=⟨_,rfl⟩;rw[<-hys] at c2 HQ e3;rw[e3] at c2 HQ;have C2:=hI c2;have HYS:=hI hys;clear c2 hp e2 e3 hys;go_enter Tryz.func58,Tryz.ntmps58;go_wp2_with fail;refine C2.out.mono ?_;rintro e w' ⟨A',rfl,hv,rfl⟩;have hjr:=hv.room;go_wp2_with(first
   | (at_make;refine B1a _ rfl (.tmp 21) (.tmp 21) rfl _ _ j rfl rfl rfl rfl (by omega) ?_;intro w1 hrow hb1)
   | ((with_reducible refine sN 25 ?_);refine e8a rfl (.tmp 23) (.tmp 24) rfl w.heap.size j j j j A' rfl rfl _ ys _ hrow (hv.below hb1) (Nat.le_refl _) (by simp) ?_;intro w2 hrow2 hb2))
  go_ret2;refine HQ.out _ _ ⟨_,rfl,.inr ⟨_,rfl,Nat.le_refl _,?_⟩,hb1.trans hb2⟩;have:=hrow2.out;simpa using this
 ·have e2:partOf xs a m=[]:=by unfold partOf;rw[hl.out,if_neg hp]
  rw[e2] at c2 HQ;obtain⟨er,her⟩:∃er,er=p1a n a m:=⟨_,rfl⟩;rw[<-her] at c2 hp HQ;have C2:=hI c2;have hne:(er != 0)=true:=by simpa using hp
  clear c2 hp e2 her;go_enter Tryz.func58,Tryz.ntmps58;go_wp2_with fail;refine C2.out.mono ?_;rintro e w' ⟨A',rfl,hv,rfl⟩;go_wp2;go_ret2;exact HQ.out _ _ ⟨_,rfl,.inl ⟨rfl,rfl⟩,Below.refl _ _⟩
theorem x6b(w:World)(B:Nat)(A:Option Addr)(n c:Nat)(xs:List Int)(a m:Int)(h:Holds w B A n c xs)
(ha:-9223372036854775808<=a/\a<=9223372036854775807)(hm:-9223372036854775808<=m/\m<=9223372036854775807) :
  Calls Tryz.prog 165 #[.slice A n c,.int .i64 a,.int .i64 m] w λe w'=>e=.returned (.bool (zeroOf xs a m))/\w=w':=by
 have hl:=hI h.len;have c2:=V8a w B A n c xs a m h ha hm;by_cases hp:p1a n a m=0
 ·have e0:zeroOf xs a m=(partOf xs a m).all (· == 0):=by unfold zeroOf;rw[hl.out,hp];simp
  rw[hp] at c2;obtain⟨ys,hys⟩:∃ys,ys=partOf xs a m:=⟨_,rfl⟩;rw[<-hys] at c2 e0;obtain⟨j,hj⟩:∃j,j=ys.length:=⟨_,rfl⟩;rw[<-hj] at c2;obtain⟨z,hz⟩:∃z,z=zeroOf xs a m:=⟨_,rfl⟩;rw[<-hz] at e0⊢;have C2:=hI c2;have E0:=hI e0;have HJ:=hI hj;clear c2 hp hys hj hz e0;go_enter Tryz.func165,Tryz.ntmps165;go_wp2_with fail;refine C2.out.mono ?_;rintro e w' ⟨A',rfl,hv,rfl⟩;have hjr:=hv.room;go_wp2_with fail;go_loop [10,22] (λ_ k=>∃k':Nat,k'<=j/\k=.int .i64 k'/\Hid ((ys.take k').all (· == 0)=true)) (λ_ k=>j-(intOf k).toNat)
  case atStart=>exact⟨0,Nat.zero_le _,rfl,rfl⟩
  case round=>
   obtain⟨k,hk,rfl,HT⟩:=hrel;by_cases hlt:k<j
   ·obtain⟨b,off,rfl,hb,hc⟩:=hv.cells (by omega);have gc:=hc k hlt;clear hc;have hky:k<ys.length:=by have:=HJ.out;omega
    obtain⟨y,hy⟩:∃y,y=ys.getD k 0:=⟨_,rfl⟩;rw[<-hy] at gc;have ey:ys[k]=y:=by rw[hy];simp[List.getD_eq_getElem?_getD,hky]
    by_cases hy0:y=0
    ·have hS:Hid ((ys.take (k+1)).all (· == 0)=true):=by
      show _=_
      rw[List.take_succ_eq_append_getElem hky,List.all_append,HT.out,ey,hy0];rfl
     clear HT hky ey hy;subst hy0;go_wp2;go_round
     case rel=>exact⟨k+1,by omega,by go_num,hS⟩
     case measure=>simp[intOf];omega
    ·have hS:Hid (z=false):=by
      show _=_
      rw[E0.out,List.all_eq_false];exact⟨ys[k],List.getElem_mem hky,by rw[ey];simpa using hy0⟩
     clear HT hky ey hy;have hne:(y != 0)=true:=by simpa using hy0
     clear hy0;go_wp2;go_ret;exact⟨H0a hS.out.symm,rfl⟩
   ·have hS:Hid (z=true):=by
     show _=_
     rw[E0.out,<-HT.out,List.take_of_length_le (by have:=HJ.out;omega)]
    clear HT;go_wp2;go_ret;exact⟨H0a hS.out.symm,rfl⟩
 ·have e0:zeroOf xs a m=false:=by unfold zeroOf;rw[hl.out];simp[hp]
  rw[e0];obtain⟨er,her⟩:∃er,er=p1a n a m:=⟨_,rfl⟩;rw[<-her] at c2 hp;have C2:=hI c2;have hne:(er != 0)=true:=by simpa using hp
  clear c2 hp e0 her;go_enter Tryz.func165,Tryz.ntmps165;go_wp2_with fail;refine C2.out.mono ?_;rintro e w' ⟨A',rfl,hv,rfl⟩;go_wp2;go_ret;exact⟨rfl,rfl⟩
theorem o0b(n:Int)(s k:Nat)(h:k<s)(hk:k<(le n s).length):(le n s)[k]=n/256^k%256:=by
 induction s generalizing n k with
 | zero=>omega
 | succ s ih=>
  cases k with
  | zero=>simp[le]
  | succ k=>simp only[le,List.getElem_cons_succ];rw[ih (n/256) k (by omega) (by rw[m0a];omega),Int.pow_succ,Int.mul_comm,Int.ediv_ediv_of_nonneg (by omega)]
def putRow(n:Int)(s k:Nat):List Int:=(le n s).take k++List.replicate (s-k) 0
theorem Q0b(n:Int)(s k:Nat)(hk:k<=s):(putRow n s k).length=s:=by simp[putRow,m0a];omega
theorem putRow_set(n:Int)(s k:Nat)(hk:k<s)(x:Int)(hx:x=n/256^k%256):(putRow n s k).set k x=putRow n s (k+1):=by
 have hl:((le n s).take k).length=k:=by simp[m0a];omega
 have hkl:k<(le n s).length:=by rw[m0a];omega
 unfold putRow;rw[List.set_append_right _ _ (by omega),hl,Nat.sub_self,show s-k=(s-(k+1))+1 from by omega,List.replicate_succ,List.set_cons_zero,List.take_succ_eq_append_getElem hkl,o0b n s k hk hkl,hx,
  List.append_assoc]
 rfl
theorem B2b(n:Int)(s:Nat):putRow n s 0=List.replicate s 0:=by simp[putRow]
theorem C2b(n:Int)(s:Nat):putRow n s s=le n s:=by unfold putRow;rw[List.take_of_length_le (by rw[m0a];omega)];simp
def B4a(w:World)(n s:Int)(e:Ending)(w':World):Prop:=∃A',e=.returned (.tuple #[.slice A' (v2a n s).length (v2a n s).length,.int .i64 (d4a n s)])/\Y1a w' w.heap.size A' (v2a n s)/\Below w.heap.size w w'
theorem g7a(w:World)(n s:Int)(hn:0<=n/\n<=18446744073709551615)(hs:-9223372036854775808<=s/\s<=9223372036854775807) :
  Calls Tryz.prog 37 #[.int .u64 n,.int .i64 s] w (B4a w n s):=by
 have c1:=B7a w n s hn hs;obtain⟨hn0,hn1⟩:=hn;by_cases hp:V2a n s=true
 ·have hz:B2a s=true:=by unfold V2a at hp;simp at hp;exact hp.1
  have hs8:1<=s/\s<=8:=by rcases F1a hz with e | e | e | e<;>omega
  obtain⟨hs1,hs8⟩:=hs8;obtain⟨j,rfl⟩:=Int.eq_ofNat_of_zero_le (show 0<=s by omega);have hq:∀e w',(∃A',e=.returned (.tuple #[.slice A' j j,.int .i64 0])/\Y1a w' w.heap.size A' (le n j)/\Below w.heap.size w w')->B4a w n j e w':=by intro e w' hh;unfold B4a v2a d4a;rw[if_pos hp,if_pos hp,Int.toNat_natCast,m0a];exact hh
  have HQ:=hI hq;rw[hp] at c1;have C1:=hI c1;clear c1 hp hz hq;go_enter Tryz.func37,Tryz.ntmps37;go_wp2_with fail;refine C1.out.mono ?_;rintro e w' ⟨rfl,rfl⟩;go_wp2_with(at_make;refine B1a _ rfl (.tmp 12) (.tmp 12) rfl _ _ j rfl rfl rfl rfl (by omega) ?_;intro w1 hrow hb1);go_loopw [7,16] (λ_ k wr=>∃k':Nat,k'<=j/\k=.int .i64 k'/\Hid (Row wr w.heap.size (putRow n j k'))/\Below w.heap.size w wr) (λ_ k _=>j-(intOf k).toNat)
  case atStart=>exact⟨0,Nat.zero_le _,rfl,by rw[B2b];exact hrow,hb1⟩
  case round=>
   obtain⟨k,hk,rfl,hR,hb⟩:=hrel;by_cases hlt:k<j
   ·have hl:=Q0b n j k hk;have hc:=hR.out.cell (i:=k) (by omega);have hz:=hR.out.frozen k;obtain⟨old,hold⟩:∃old,old=(putRow n j k).getD k 0:=⟨_,rfl⟩;rw[<-hold] at hc;clear hl hold;have e:=putRow_set n j k hlt (n/2^(8*k)%256) (by rw[l9a,Int.natCast_pow];rfl);have hS:Hid (Row (wr.setCell ⟨w.heap.size,k,none⟩ (.int .u8 (n/2^(8*k)%256))) w.heap.size (putRow n j (k+1))):=by rw[<-e];exact hR.out.set k _
    clear e hR;go_wp2;go_roundw
    case rel=>exact⟨k+1,by omega,by go_num,hS,hb.setCell (Nat.le_refl _) _⟩
    case measure=>simp[intOf];omega
   ·have hS:Hid (Row wr w.heap.size (le n j)):=by
     have:=hR.out
     rwa [show k=j from by omega,C2b] at this
    clear hR;go_wp2;go_ret2;exact HQ.out _ _ ⟨_,rfl,.inr ⟨_,rfl,Nat.le_refl _,hS⟩,hb⟩
 ·have hp':V2a n s=false:=by simpa using hp
  have hq:∀e w',(∃A',e=.returned (.tuple #[.slice A' 0 0,.int .i64 2])/\Y1a w' w.heap.size A' []/\Below w.heap.size w w')->B4a w n s e w':=by intro e w' hh;unfold B4a v2a d4a;rw[if_neg hp,if_neg hp];exact hh
  have HQ:=hI hq;rw[hp'] at c1;have C1:=hI c1;clear c1 hp hp' hq;go_enter Tryz.func37,Tryz.ntmps37;go_wp2_with fail;refine C1.out.mono ?_;rintro e w' ⟨rfl,rfl⟩;go_wp2;go_ret2;exact HQ.out _ _ ⟨_,rfl,.inl ⟨rfl,rfl⟩,Below.refl _ _⟩
open Go.RowKit Go.ChangeShapes Go.WideShapes
section
variable {H:Type} {enc:TypeId×Value->H} {P:Program} {W:World} {base:Nat} {t e:TypeId} {v:Value} {d:DataW H} {p:List MemPlace}
theorem F5a(d:DataW H):1<=Rows.uptoBulk d:=by
 cases d with
 | lit l=>cases l<;>simp[Rows.uptoBulk]
 | nil=>simp[Rows.uptoBulk]
 | ptr d=>simp[Rows.uptoBulk]
 | slice elems spare=>simp[Rows.uptoBulk]
 | agg parts=>simp[Rows.uptoBulk]
 | iface t d=>simp[Rows.uptoBulk]
 | map entries=>simp[Rows.uptoBulk]
 | held h=>simp[Rows.uptoBulk]
theorem Q2a(l:List (DataW H)):l.length<=Rows.uptoBulkAll l:=by
 induction l with
 | nil=>simp[Rows.uptoBulkAll]
 | cons x r ih=>have:=F5a x;simp only[Rows.uptoBulkAll,List.length_cons];omega
theorem Holds.head{w:World}{B c n:Nat}{A:Option Addr}{xs:List Int}(h:Holds w B A c c xs)(hn:n<=c):Holds w B A n c (xs.take n):=
 ⟨by have:=h.len;simp;omega,hn,by have:=h.room;omega,h.byte.take n,h.bare,λh0=>by obtain⟨b,off,rfl,hb,hc⟩:=h.cells (by omega);refine⟨b,off,rfl,hb,λi hi=>?_⟩;rw[hc i (by omega)];simp[List.getD_eq_getElem?_getD,hi]⟩
theorem u1a{x:Int}(h:(Lit.int .u8 x).wf=true):0<=x/\x<=255:=by simpa[Lit.wf,IntKind.min,IntKind.max,IntKind.signed,IntKind.bits] using h
theorem U1a{x:Int}(h:(Lit.int .u16 x).wf=true):0<=x/\x<=65535:=by simpa[Lit.wf,IntKind.min,IntKind.max,IntKind.signed,IntKind.bits] using h
theorem O1a{x:Int}(h:(Lit.int .u32 x).wf=true):0<=x/\x<=4294967295:=by simpa[Lit.wf,IntKind.min,IntKind.max,IntKind.signed,IntKind.bits] using h
theorem P1a{x:Int}(h:(Lit.int .u64 x).wf=true):0<=x/\x<=18446744073709551615:=by simpa[Lit.wf,IntKind.min,IntKind.max,IntKind.signed,IntKind.bits] using h
theorem V6a{x:Int}(h:(Lit.int .i64 x).wf=true):-9223372036854775808<=x/\x<=9223372036854775807:=by simpa[Lit.wf,IntKind.min,IntKind.max,IntKind.signed,IntKind.bits] using h
end
def R6a(X:Nat->List Int):Nat->List Int
 | 0=>[]
 | k+1=>R6a X k++X k
def b0b(n:Nat->Nat):Nat->Nat
 | 0=>0
 | k+1=>b0b n k+n k
theorem E7b(n:Nat->Nat){k m:Nat}(h:k<=m):b0b n k<=b0b n m:=by
 induction m with
 | zero=>
  obtain rfl:k=0:=by omega
  exact Nat.le_refl _
 | succ m ih=>
  by_cases he:k=m+1
  ·subst he;exact Nat.le_refl _
  ·have:=ih (by omega);simp only[b0b];omega
theorem y6b{X:Nat->List Int}{n:Nat->Nat}{m:Nat}(h:∀i,i<m->(X i).length=n i){k:Nat}(hk:k<=m):(R6a X k).length=b0b n k:=by
 induction k with
 | zero=>rfl
 | succ k ih=>simp only[R6a,b0b,List.length_append,ih (by omega),h k (by omega)]
structure S3a (w:World) (gs m:Nat) (A:Nat->Option Addr) (n c:Nat->Nat) (X:Nat->List Int):Prop where
 lt:gs<w.heap.size
 cell:∀i,i<m->w.cell? ⟨gs,i,none⟩=some (.slice (A i) (n i) (c i))
 holds:∀i,i<m->Holds w w.heap.size (A i) (n i) (c i) (X i)
theorem S3a.over{w w':World}{gs m:Nat}{A:Nat->Option Addr}{n c:Nat->Nat}{X:Nat->List Int}(h:S3a w gs m A n c X)(hb:Below w.heap.size w w'):S3a w' gs m A n c X:=⟨Nat.lt_of_lt_of_le h.lt hb.size,λi hi=>by rw[<-h.cell i hi];exact hb.cell (p:=⟨gs,i,none⟩) h.lt,λi hi=>(h.holds i hi).over hb⟩
theorem S3a.drewN{w:World}{gs m:Nat}{A:Nat->Option Addr}{n c:Nat->Nat}{X:Nat->List Int}(h:S3a w gs m A n c X)(d:Nat):S3a (w.drewN d) gs m A n c X:=h.over (b6a w d)
theorem S4b(w:World):Calls Tryz.prog 43 #[.slice none 0 0,.int .i64 0] w λe w'=>e=.returned (.slice none 0 0)/\w=w':=by go_enter Tryz.func43,Tryz.ntmps43;go_wp2_with fail;go_ret;exact⟨rfl,rfl⟩
theorem D2a{w:World}{ops:Array Oper}{rest:List Oper}{o:Oper}{a:Act}{Q:Exit->Act->World->Prop}(hgd:o.guard=none)(s x:Operand)
(ho:o.op=.call { callee:=.builtin .append,args:=#[s,x],argTypes:=#[31,31] })
(base:Nat)(v:Value)(xs:List Int)(hs:a.eval s=v)(hown:a1a .u8 5 w base v xs)(B:Nat)(A:Option Addr)(m c:Nat)(ys:List Int)(hx:a.eval x=.slice A m c)
(hr:Holds w B A m c ys)(hlen:xs.length+ys.length<=140737488355328)(hbase:base<=w.heap.size)
(h:∀v' w',Hid (a1a .u8 5 w' base v' (xs++ys))->Below base w w'->wpList Tryz.prog ops Q rest (a.put o.dst v') w') :
  wpList Tryz.prog ops Q (o::rest) a w:=by
 obtain⟨i0,hi0,hz0,hz1,hz2⟩:=info_parts v3a;have hl:=hr.len;have hOK:=hown.own;rcases A with _ | ad
 ·have hc:=hr.bare rfl;have hf:=hr.fit;have hm:m=0:=by omega
  subst hm;subst hc;have:ys=[]:=List.eq_nil_of_length_eq_zero hl;subst this;refine wpList_append_own_none hgd s x 31 ho base 5 i0 1 Tryz.underlying31 hi0 v xs.length _ hs hOK hx ?_;exact h v w (by rw[List.append_nil];exact hown) (Below.refl _ _)
 ·have hnews:∀j y,(ys.map (Value.int .u8))[j]? = some y->w.cell? (ad.add j)=some y:=by
   intro j u hj;have hjl:j<ys.length:=by
    by_cases hj':j<ys.length
    ·exact hj'
    ·rw[List.getElem?_eq_none (by simp;omega)] at hj;cases hj
   obtain⟨b,off,he,_,hcl⟩:=hr.cells (by omega);obtain rfl:=Option.some.inj he;have e:(⟨b,off,none⟩:Addr).add j=⟨b,off+j,none⟩:=by
    by_cases hj0:j=0
    ·subst hj0;simp[Addr.add]
    ·simp[Addr.add,hj0]
   rw[e,hcl j (by omega),<-hj];simp[hjl]
  have h1:∀y∈ys.map (Value.int .u8),y.oneCell'=true:=by intro v hv;obtain⟨x,_,rfl⟩:=List.mem_map.1 hv;rfl
  have hmax:maxLen=9223372036854775807:=rfl;have key:∀ty,∃v' w',(Builtin.append_ #[31,31] ty #[v,.slice (some ad) m c]).run Tryz.prog w=.ok v' w'/\a1a .u8 5 w' base v' (xs++ys)/\w.grownBy w' v.ownBlock:=by
   intro ty;rcases hown with⟨rfl,rfl⟩ | ⟨g,z,rfl,hb,hz,hg⟩
   ·by_cases hm0:m=0
    ·subst hm0;have:ys=[]:=List.eq_nil_of_length_eq_zero hl;subst this;obtain⟨v',w',hrun,_,hgr,hnil⟩:=run_append_own (P:=Tryz.prog) w base 31 ty 5 i0 (.int .u8 0) 1 1 Tryz.underlying31 hi0 hz0 hz1 hz2 rfl (by omega) (.slice none 0 0) 0 [] (World.ownsRow_nil w base _ 1) ad 0 c [] rfl (λj u hj=>by cases hj) (λu hu=>by cases hu) (by omega) (by omega) hbase;obtain rfl:=hnil.2 ⟨rfl,rfl⟩;exact⟨_,_,hrun,a1a.nil _ _ _ _,hgr⟩
    ·have hrun:=run_append_nil (P:=Tryz.prog) w 31 ty 5 i0 (.int .u8 0) Tryz.underlying31 hi0 hz0 ad m c (ys.map (Value.int .u8)) (by simp[hl,hz1]) hnews (by omega) (by omega) (by rw[hz2];simp at hlen;omega);exact⟨_,_,hrun,by simpa using f5a .u8 5 w base ys 0 m hl hbase (by omega),⟨rfl,rfl,rfl,by simp,λj hj _=>Below.heap_alloc w.drew _ j hj⟩⟩
   ·by_cases hroom:xs.length+m<=xs.length+z
    ·have hrun:=run_append_room (P:=Tryz.prog) w 31 ty 5 i0 Tryz.underlying31 hi0 g xs.length (xs.length+z) _ hg ad m c (ys.map (Value.int .u8)) (by simp[hl,hz1]) hnews h1 hroom (by simp[hz1];omega);refine⟨_,_,hrun,.inr ⟨g,z-m,by simp[hl];omega,hb,by simp;omega,?_⟩,⟨rfl,rfl,rfl,by simp,λj _ hj=>setRow_other w g j _ (λe=>hj (by simp[Value.ownBlock,e]))⟩⟩;rw[setRow_heap w g _ _ 5 _ hg]
     congr 2
     have e1:((xs++List.replicate z 0).map (Value.int .u8)).take (xs.length*i0.size)=xs.map (Value.int .u8):=by rw[hz1,Nat.mul_one,List.map_append,List.take_left' (by simp)]
     have e2:((xs++List.replicate z 0).map (Value.int .u8)).drop (xs.length*i0.size+(ys.map (Value.int .u8)).length)=(List.replicate (z-m) 0).map (Value.int .u8):=by rw[hz1,Nat.mul_one,List.length_map,hl,<-List.drop_drop,List.map_append,List.drop_left' (by simp),<-List.map_drop,List.drop_replicate]
     rw[e1,e2];simp
    ·have q0a:∀j y,(xs.map (Value.int .u8))[j]? = some y->w.cell? ((⟨g,0,none⟩:Addr).add j)=some y:=hOK.cells (g:=g) rfl;have hrun:=run_append_grow (P:=Tryz.prog) w 31 ty 5 i0 (.int .u8 0) Tryz.underlying31 hi0 hz0 ⟨g,0,none⟩ xs.length (xs.length+z) (xs.map (Value.int .u8)) (by simp[hz1]) q0a ad m c (ys.map (Value.int .u8)) (by simp[hl,hz1]) hnews (by omega) (by omega) (growslice_fits (by omega) (by rw[hz2];omega));refine⟨_,_,hrun,?_,⟨rfl,rfl,rfl,by simp,λj hj _=>Below.heap_alloc w.drew _ j hj⟩⟩;have:=f5a .u8 5 w base (xs++ys) (xs.length+z) (xs.length+m) (by simp[hl]) hbase (by omega);simpa using this
  refine wpList_plain hgd λK hK'=>?_
  obtain⟨v',w',hrun,h2,h3⟩:=key o.type;unfold Oper.wp execOp;simp only[ho,resolve,invoke,builtin,Sem.run_bind,Sem.run_pure,Result.andThen_ok,List.map_toArray,List.map_cons,List.map_nil,hs,hx,hrun];exact hK' _ _ (h v' w' h2 ((Below.refl _ _).grown h3 hbase (λk hk=>(World.ownsRow.lt hOK k hk).1)))
theorem T4b(w:World)(n:Nat)(h0:0<n)(h1:n<=281474976710656) :
  Calls Tryz.prog 43 #[.slice none 0 0,.int .i64 n] w λe w'=>∃v,e=.returned v/\a1a .u8 5 w' w.heap.size v []/\Below w.heap.size w w':=by
 obtain⟨i0,hi,hz0,hz1,hz2⟩:=info_parts v3a;have hrun:=λty=>Lib.run_append_nil_zeros (P:=Tryz.prog) w 31 3 ty 5 i0 (.int .u8 0) .i64 .i64 Tryz.underlying31 Tryz.underlying3 hi hz0 n h0 (by omega) (by omega) (by rw[hz2];omega)
 have hge:=grownCap_ge w n 0 5;have hle:=grownCap_le_maxLen w n 0 5 (by rw[show maxLen=9223372036854775807 from rfl];omega);obtain⟨c,hc⟩:∃c,c=grownCap w n 0 5:=⟨_,rfl⟩;rw[<-hc] at hrun hge hle;have hown:a1a .u8 5 (w.drew.alloc (.cells (Builtin.zeroCells (Value.int .u8 0).cells n++Builtin.zeroCells (Value.int .u8 0).cells (c-n)) 5)) w.heap.size (.slice (some ⟨w.heap.size,0,none⟩) 0 c) []:=by refine .inr ⟨w.heap.size,c,by simp,Nat.le_refl _,by simpa using hle,?_⟩;rw[f3a,f3a,List.append_toArray,List.replicate_append_replicate,show n+(c-n)=c by omega,List.nil_append,List.map_replicate];exact heap_alloc_new w.drew _
 have hbel:Below w.heap.size w (w.drew.alloc (.cells (Builtin.zeroCells (Value.int .u8 0).cells n++Builtin.zeroCells (Value.int .u8 0).cells (c-n)) 5)):=((Below.refl _ w).drew).alloc (Nat.le_refl _) _;obtain⟨w1,hw1⟩:∃w1,w1=(w.drew.alloc (.cells (Builtin.zeroCells (Value.int .u8 0).cells n++Builtin.zeroCells (Value.int .u8 0).cells (c-n)) 5)):=⟨_,rfl⟩;rw[<-hw1] at hown hbel hrun;have HR:=hI hrun;have HO:=hI hown;have hcn:(n:Int)<=(c:Int):=by omega
 have hc63:c<=9223372036854775807:=hle;clear hrun hown hc hw1 hi hz0 hz1 hz2 hge hle;go_enter Tryz.func43,Tryz.ntmps43;go_wp2_with(first
  | (at_builtin;refine Lib.wpList_append_run _ rfl (.tmp 20) (.tmp 21) 31 3 rfl (.slice none 0 0) (.int .i64 n) rfl rfl _ w1 (HR.out _) ?_)
  | fail)
 go_ret;exact⟨_,rfl,HO.out,hbel⟩
theorem U4b(w:World)(n:Nat)(h1:n<=281474976710656) :
  Calls Tryz.prog 43 #[.slice none 0 0,.int .i64 n] w λe w'=>∃v,e=.returned v/\a1a .u8 5 w' w.heap.size v []/\Below w.heap.size w w':=by
 by_cases h0:n=0
 ·subst h0;refine(S4b w).mono ?_;rintro e w' ⟨rfl,rfl⟩;exact⟨_,rfl,a1a.nil _ _ _ _,Below.refl _ _⟩
 ·exact T4b w n (by omega) h1
theorem Y2a(w:World)(gs m:Nat)(A:Nat->Option Addr)(n c:Nat->Nat)(X:Nat->List Int)(hP:S3a w gs m A n c X)(hm:m<=1000)(hb:b0b n m<=140737488355328) :
  Calls Tryz.prog 22 #[.slice (some ⟨gs,0,none⟩) m m] w λe w'=>∃v,e=.returned v/\a1a .u8 5 w' w.heap.size v (R6a X m)/\Below w.heap.size w w':=by
 have cg:=λw=>hI (U4b w (b0b n m) (by omega))
 have HBq:Hid (∀k,k<=m->b0b n k<=140737488355328):=λk hk=>by have:=E7b n hk;omega
 have HP:=hI hP;have HC:Hid (∀k,k<=m->(R6a X k).length=b0b n k):=λk hk=>y6b (λi hi=>(hP.holds i hi).len) hk
 have hgs:=hP.lt;have hcell:=hP.cell;clear hP hb;go_enter Tryz.func22,Tryz.ntmps22;go_wp2_with fail;go_loop [3,11] (λsz i=>∃k:Nat,k<=m/\i=.int .i64 k/\sz=.int .i64 (b0b n k:Nat)) (λ_ i=>m-(intOf i).toNat)
 case atStart=>exact⟨0,by omega,rfl,rfl⟩
 case round=>
  obtain⟨k,hk,rfl,rfl⟩:=hrel;by_cases hlt:k<m
  ·have q0:=hcell k hlt;have hs1:=HBq.out (k+1) (by omega);have hs0:b0b n k<=140737488355328:=HBq.out k hk;have hnk:n k<=140737488355328:=by simp only[b0b] at hs1;omega
   obtain⟨s0,es0⟩:∃s0,s0=b0b n k:=⟨_,rfl⟩;obtain⟨nk,enk⟩:∃nk,nk=n k:=⟨_,rfl⟩;have es1:b0b n (k+1)=s0+nk:=by rw[es0,enk];rfl
   rw[<-es0] at hs0⊢;rw[<-enk] at hnk q0;have ES:=hI es1;clear es0 enk es1 hs1 hcell;go_wp2_with fail;go_round
   case rel=>exact⟨k+1,by omega,by go_num,by rw[ES.out];go_num⟩
   case measure=>simp[intOf];omega
  ·obtain rfl:k=m:=by omega
   clear hcell;go_wp2_with fail;refine(cg _).out.mono ?_;rintro e w1 ⟨v1,rfl,ho1,hbel1⟩;have HO1:=hI ho1;clear ho1;go_wp2_with fail;have hbs1:=hbel1.size;go_loopw [6,27] (λv i wr=>∃j:Nat,j<=k/\i=.int .i64 j/\Hid (a1a .u8 5 wr w.heap.size v (R6a X j))/\Below w.heap.size w wr) (λ_ i _=>k-(intOf i).toNat)
   case atStart=>exact⟨0,by omega,rfl,HO1,hbel1⟩
   case round=>
    obtain⟨j,hj,rfl,hO,hbl⟩:=hrel;by_cases hlt2:j<k
    ·have q0:wr.cell? ⟨gs,j,none⟩=some (.slice (A j) (n j) (c j)):=by rw[<-HP.out.cell j hlt2];exact hbl.cell (p:=⟨gs,j,none⟩) hgs
     have hH:=(HP.out.holds j hlt2).below hbl;have hlen:(R6a X j).length+(X j).length<=140737488355328:=by have h1:=HBq.out (j+1) (by omega);rw[HC.out j hj,hH.len];simp only[b0b] at h1;exact h1
     have hsz:=hI hbl.size;have HE:Hid (R6a X (j+1)=R6a X j++X j):=rfl;obtain⟨Aj,eA⟩:∃Aj,Aj=A j:=⟨_,rfl⟩;obtain⟨nj,en⟩:∃nj,nj=n j:=⟨_,rfl⟩;obtain⟨cj,ec⟩:∃cj,cj=c j:=⟨_,rfl⟩;rw[<-eA,<-en,<-ec] at q0 hH;have HH:=hI hH;have HLn:=hI hlen;clear hH hlen eA en ec;go_wp2_with(first
      | (at_builtin;refine D2a rfl (.tmp 31) (.tmp 32) rfl w.heap.size _ _ rfl hO.out w.heap.size Aj nj cj (X j) rfl HH.out HLn.out hsz.out ?_;intro v2 w2 ho2 hb2)
      | fail)
     go_roundw
     case rel=>exact⟨j+1,by omega,by go_num,by rw[HE.out];exact ho2,hbl.trans hb2⟩
     case measure=>simp[intOf];omega
    ·obtain rfl:j=k:=by omega
     go_wp2_with fail;go_ret;exact⟨_,rfl,hO.out,hbl⟩
abbrev R0b:=Option Addr×Nat×Nat×List Int
def D1b(p:R0b):Value:=.slice p.1 p.2.1 p.2.2.1
def L3b:R0b:=(none,0,0,[])
def c0b(l:List R0b)(i:Nat):Option Addr:=(l.getD i L3b).1
def m9a(l:List R0b)(i:Nat):Nat:=(l.getD i L3b).2.1
def d0b(l:List R0b)(i:Nat):Nat:=(l.getD i L3b).2.2.1
def T3a(l:List R0b)(i:Nat):List Int:=(l.getD i L3b).2.2.2
theorem S3a.lit(w:World)(l:List R0b)(T:TypeId)(hh:∀p∈l,Holds w w.heap.size p.1 p.2.1 p.2.2.1 p.2.2.2) :
  S3a (w.alloc (.cells (l.map D1b).toArray T)) w.heap.size l.length (c0b l) (m9a l) (d0b l) (T3a l):=by
 have hb:Below w.heap.size w (w.alloc (.cells (l.map D1b).toArray T)):=(Below.refl _ _).alloc (Nat.le_refl _) _;refine⟨by simp,λi hi=>?_,λi hi=>?_⟩
 ·have hr:(w.alloc (.cells (l.map D1b).toArray T)).heap[w.heap.size]? = some (.cells (l.map D1b).toArray T (0,0)):=heap_alloc_new w _;rw[cell_of_row _ w.heap.size i _ T (0,0) hr];simp[c0b,m9a,d0b,List.getD_eq_getElem?_getD,hi,D1b]
 ·have he:l.getD i L3b=l[i]:=by simp[List.getD_eq_getElem?_getD,hi]
  have:=hh l[i] (List.getElem_mem hi);unfold c0b m9a d0b T3a;rw[he];exact this.over hb
section
variable {ops:Array Oper} {rest:List Oper} {o:Oper} {a:Act} {w:World} {Q:Exit->Act->World->Prop}
theorem Z2a(hg:o.guard=none)(n:Nat)(parts:Array (Nat×Operand))(ho:o.op=.buildSlice 93 n parts)(l:List R0b)(hl:l.length=n)
(hf:Tryz.prog.builtSlice 31 n (parts.map fun (i,x)=>(i,a.eval x)).toList=some (l.map D1b).toArray)(hh:∀p∈l,Holds w w.heap.size p.1 p.2.1 p.2.2.1 p.2.2.2)
(h:∀g w',Hid (S3a w' g n (c0b l) (m9a l) (d0b l) (T3a l))->Hid (Below w.heap.size w w')->wpList Tryz.prog ops Q rest (a.put o.dst (.slice (some ⟨g,0,none⟩) n n)) w') :
  wpList Tryz.prog ops Q (o::rest) a w:=by
 subst hl;exact Great.wpList_buildSliceTo hg _ _ _ parts ho w.heap.size rfl _ rfl Tryz.underlying93 _ hf (h _ _ (S3a.lit w l _ hh) ((Below.refl _ _).alloc (Nat.le_refl _) _))
end
theorem below_drewN{B:Nat}{a w:World}(h:Below B a w)(n:Nat):Below B a (w.drewN n):=h.trans ⟨rfl,rfl,rfl,Nat.le_refl _,λ_ _=>rfl⟩
theorem E1b{xs ys:List Int}{k:Nat}(hx:k<xs.length)(hy:k<ys.length)(h:xs.take k=ys.take k)(he:xs.getD k 0=ys.getD k 0):xs.take (k+1)=ys.take (k+1):=by
 rw[List.take_succ_eq_append_getElem hx,List.take_succ_eq_append_getElem hy,h];have e:xs[k]=ys[k]:=by simpa[List.getD_eq_getElem?_getD,hx,hy] using he
 rw[e]
theorem M3b{xs ys:List Int}{k:Nat}(he:¬xs.getD k 0=ys.getD k 0):decide (xs=ys)=false:=by rw[decide_eq_false_iff_not];rintro rfl;exact he rfl
theorem N3b{xs ys:List Int}{n:Nat}(hx:xs.length=n)(hy:ys.length=n)(h:xs.take n=ys.take n):decide (xs=ys)=true:=by
 rw[decide_eq_true_iff]
 rwa [List.take_of_length_le (by omega),List.take_of_length_le (by omega)] at h
theorem S0b(w:World)(B B':Nat)(A A':Option Addr)(n c n' c':Nat)(xs ys:List Int)(h:Holds w B A n c xs)(h':Holds w B' A' n' c' ys) :
  Calls Tryz.prog 10 #[.slice A n c,.slice A' n' c'] w λe w'=>e=.returned (.bool (decide (xs=ys)))/\∃k,w.drewN k=w':=by
 have hl:=h.len;have hl':=h'.len;have hf:=h.fit;have hr:=h.room;have hf':=h'.fit;have hr':=h'.room;by_cases hn:n=n'
 ·subst hn;have HL:=hI hl;have HL':=hI hl';clear hl hl';go_enter Tryz.func10,Tryz.ntmps10;go_wp2;go_loopw [5] (λi wr=>∃k:Nat,k<=n/\i=.int .i64 k/\Hid (xs.take k=ys.take k)/\∃j,wr=w.drewN j) (λi _=>n-(intOf i).toNat)
  case atStart=>exact⟨0,Nat.zero_le _,rfl,by simp[Hid],0,rfl⟩
  case round=>
   obtain⟨k,hk,rfl,HT,j,rfl⟩:=hrel;by_cases hlt:k<n
   ·obtain⟨b,off,rfl,hb,hc⟩:=h.cells (by omega);obtain⟨b',off',rfl,hb',hc'⟩:=h'.cells (by omega);have gc:=hc k hlt;have gc':=hc' k hlt;clear hc hc';obtain⟨x,hx⟩:∃x,x=xs.getD k 0:=⟨_,rfl⟩;obtain⟨y,hy⟩:∃y,y=ys.getD k 0:=⟨_,rfl⟩;rw[<-hx] at gc;rw[<-hy] at gc';have HX:=hI hx;have HY:=hI hy;clear hx hy;by_cases he:x=y
    ·have hS:Hid (xs.take (k+1)=ys.take (k+1)):=E1b (by have:=HL.out;omega) (by have:=HL'.out;omega) HT.out (by rw[<-HX.out,<-HY.out,he]);clear HX HY HT;subst he;have hb0:(x != x)=false:=by simp
     go_wp2;go_quiet (fail);go_wp2;go_roundw
     case rel=>exact⟨k+1,by omega,by go_num,hS,_,rfl⟩
     case measure=>simp[intOf];omega
    ·have hS:=hI (M3b (xs:=xs) (ys:=ys) (k:=k) (by rw[<-HX.out,<-HY.out];exact he));clear HX HY HT;have hb0:(x != y)=true:=by simpa using he
     clear he;go_wp2;go_quiet (fail);go_wp2;go_ret;exact⟨H0a hS.out.symm,_,(World.drewN_drewN ..).symm⟩
   ·have hS:=hI (N3b (n:=n) HL.out HL'.out (by have:=HT.out;rwa [show k=n from by omega] at this));clear HT;go_wp2;go_ret;exact⟨H0a hS.out.symm,_,rfl⟩
 ·have e1:decide (xs=ys)=false:=by rw[decide_eq_false_iff_not];rintro rfl;omega
  have hne:((n:Int)==(n':Int))=false:=by simp;omega
  have hne':((n:Int) != (n':Int))=true:=by simp;omega
  rw[e1];clear e1 hl hl';go_enter Tryz.func10,Tryz.ntmps10;go_wp2;go_ret;exact⟨rfl,0,rfl⟩
def Arr(w:World)(g:Nat)(k:IntKind)(T:TypeId)(xs:List Int):Prop:=w.heap[g]? = some (.cells (xs.map (Value.int k)).toArray T (0,0))
structure p3a (g:Nat) (w w':World):Prop where
 os:w'.os=w.os
 tape:w'.tape=w.tape
 output:w'.output=w.output
 size:w'.heap.size=w.heap.size
 rest:∀j,j≠g->w'.heap[j]? = w.heap[j]?
section
variable {w w' w2:World} {g h B:Nat} {k k':IntKind} {T T':TypeId} {xs ys:List Int}
theorem p3a.refl(g:Nat)(w:World):p3a g w w:=⟨rfl,rfl,rfl,rfl,λ_ _=>rfl⟩
theorem p3a.trans(a:p3a g w w')(b:p3a g w' w2):p3a g w w2:=⟨b.os.trans a.os,b.tape.trans a.tape,b.output.trans a.output,b.size.trans a.size,λj hj=>(b.rest j hj).trans (a.rest j hj)⟩
theorem p3a.setCell(a:p3a g w w')(i:Nat)(v:Value):p3a g w (w'.setCell ⟨g,i,none⟩ v):=a.trans ⟨rfl,rfl,rfl,by simp,λj hj=>Below.heap_setCell _ _ _ _ hj⟩
theorem p3a.setRow(a:p3a g w w')(cs:Array Value):p3a g w (w'.setRow g cs):=a.trans ⟨rfl,rfl,rfl,by simp,λj hj=>setRow_other _ _ _ _ hj⟩
theorem p3a.drewN(a:p3a g w w')(n:Nat):p3a g w (w'.drewN n):=a.trans ⟨rfl,rfl,rfl,rfl,λ_ _=>rfl⟩
theorem p3a.below(a:p3a g w w')(hB:B<=g):Below B w w':=⟨a.os,a.tape,a.output,by rw[a.size];exact Nat.le_refl _,λj hj=>a.rest j (by omega)⟩
theorem Arr.lt(h:Arr w g k T xs):g<w.heap.size:=(Array.getElem?_eq_some_iff.1 h).1
theorem Arr.cell(h:Arr w g k T xs){i:Nat}(hi:i<xs.length):w.cell? ⟨g,i,none⟩=some (.int k (xs.getD i 0)):=by rw[cell_of_row w g i _ T (0,0) h];simp[hi]
theorem Arr.frozen(h:Arr w g k T xs)(i:Nat):w.frozen? ⟨g,i,none⟩=false:=frozen_of_row w g i _ T h
theorem Arr.below(h:Arr w g k T xs)(hb:Below B w w')(hg:g<B):Arr w' g k T xs:=(hb.block g hg).trans h
theorem Arr.over(h:Arr w g k T xs)(hb:Below w.heap.size w w'):Arr w' g k T xs:=h.below hb h.lt
theorem Arr.only(a:Arr w g k T xs)(hb:p3a h w w')(hg:g≠h):Arr w' g k T xs:=(hb.rest g hg).trans a
theorem Arr.set(h:Arr w g k T xs)(i:Nat)(u:Int):Arr (w.setCell ⟨g,i,none⟩ (.int k u)) g k T (xs.set i u):=by have h1:=heap_setCell_same w g i _ T (.int k u) h;unfold Arr;rw[h1];simp[List.map_set]
theorem Arr.drewN(h:Arr w g k T xs)(n:Nat):Arr (w.drewN n) g k T xs:=h
theorem Arr.drew(h:Arr w g k T xs):Arr w.drew g k T xs:=h
theorem Arr.ne(a:Arr w g k T xs)(b:Arr w h k' T' ys)(hT:T≠T'):g≠h:=by rintro rfl;unfold Arr at a b;rw[a] at b;simp only[Option.some.injEq,Obj.cells.injEq] at b;exact hT b.2.1
theorem Arr.new(w:World)(k:IntKind)(T:TypeId)(xs:List Int):Arr (w.alloc (.cells (xs.map (Value.int k)).toArray T)) w.heap.size k T xs:=heap_alloc_new w _
end
section
variable {P:Program} {ops:Array Oper} {rest:List Oper} {o:Oper} {a:Act} {w:World} {Q:Exit->Act->World->Prop}
end
def Blk(w:World)(g:Nat)(T:TypeId)(cs:List Value):Prop:=w.heap[g]? = some (.cells cs.toArray T (0,0))
def q0a(h:Hd):List Value:=.int .u16 h.ch::.int .u32 h.st::.int .u16 h.cm::.int .u16 h.cr::.int .u32 h.fl::.int .u32 h.nx::.int .u64 h.id::.int .u64 h.asy::.int .u32 h.tr::.int .u64 h.se::h.sg.map (Value.int .u8)
def hv(h:Hd):Value:=.agg (q0a h).toArray
def HB(w:World)(g:Nat)(h:Hd):Prop:=Blk w g 28 (q0a h)
structure H2a (g:Nat) (w w':World):Prop where
 os:w'.os=w.os
 tape:w'.tape=w.tape
 output:w'.output=w.output
 size:w.heap.size<=w'.heap.size
 rest:∀j,j<w.heap.size->j≠g->w'.heap[j]? = w.heap[j]?
section
variable {w w' w2:World} {g g' B:Nat} {T T':TypeId} {cs cs':List Value} {h h':Hd} {k:IntKind} {xs:List Int}
theorem H2a.refl(g:Nat)(w:World):H2a g w w:=⟨rfl,rfl,rfl,Nat.le_refl _,λ_ _ _=>rfl⟩
theorem H2a.trans(a:H2a g w w')(b:H2a g w' w2):H2a g w w2:=⟨b.os.trans a.os,b.tape.trans a.tape,b.output.trans a.output,Nat.le_trans a.size b.size,λj hj hg=>(b.rest j (Nat.lt_of_lt_of_le hj a.size) hg).trans (a.rest j hj hg)⟩
theorem H2a.of_below(hb:Below w.heap.size w w')(g:Nat):H2a g w w':=⟨hb.os,hb.tape,hb.output,hb.size,λj hj _=>hb.block j hj⟩
theorem H2a.of_only(hO:p3a g w w'):H2a g w w':=⟨hO.os,hO.tape,hO.output,Nat.le_of_eq hO.size.symm,λj _ hg=>hO.rest j hg⟩
theorem H2a.below(a:H2a g w w')(hg:B<=g)(hB:B<=w.heap.size):Below B w w':=⟨a.os,a.tape,a.output,a.size,λj hj=>a.rest j (by omega) (by omega)⟩
theorem a3a(w:World)(g i:Nat)(v:Value):p3a g w (w.setCell ⟨g,i,none⟩ v):=(p3a.refl g w).setCell i v
theorem c0a(hb:Below B w w')(hO:p3a g w' w2)(hg:B<=g):Below B w w2:=hb.trans (hO.below hg)
theorem Blk.lt(a:Blk w g T cs):g<w.heap.size:=(Array.getElem?_eq_some_iff.1 a).1
theorem Blk.cell(a:Blk w g T cs)(i:Nat):w.cell? ⟨g,i,none⟩=cs[i]?:=by rw[cell_of_row w g i _ T (0,0) a];simp
theorem Blk.frozen(a:Blk w g T cs)(i:Nat):w.frozen? ⟨g,i,none⟩=false:=frozen_of_row w g i _ T a
theorem Blk.below(a:Blk w g T cs)(hb:Below B w w')(hg:g<B):Blk w' g T cs:=(hb.block g hg).trans a
theorem Blk.over(a:Blk w g T cs)(hb:Below w.heap.size w w'):Blk w' g T cs:=a.below hb a.lt
theorem Blk.only(a:Blk w g T cs)(hO:p3a g' w w')(hg:g≠g'):Blk w' g T cs:=(hO.rest g hg).trans a
theorem Blk.save(a:Blk w g T cs)(hS:H2a g' w w')(hg:g≠g'):Blk w' g T cs:=(hS.rest g a.lt hg).trans a
theorem Blk.drew(a:Blk w g T cs):Blk w.drew g T cs:=a
theorem Blk.drewN(a:Blk w g T cs)(n:Nat):Blk (w.drewN n) g T cs:=a
theorem Blk.alloc(a:Blk w g T cs)(o:Obj):Blk (w.alloc o) g T cs:=(Below.heap_alloc _ _ _ a.lt).trans a
theorem Blk.new(w:World)(T:TypeId)(cs:List Value):Blk (w.alloc (.cells cs.toArray T)) w.heap.size T cs:=heap_alloc_new w _
theorem Blk.set(a:Blk w g T cs)(i:Nat)(v:Value):Blk (w.setCell ⟨g,i,none⟩ v) g T (cs.set i v):=by have h1:=heap_setCell_same w g i _ T v a;unfold Blk;rw[h1];simp
theorem Blk.range(a:Blk w g T cs)(o:Nat):w.rangeAt g o (cs.drop o):=λj v hj=>by rw[a.cell,<-hj,List.getElem?_drop]
theorem Row.save(a:Row w g xs)(hS:H2a g' w w')(hg:g≠g'):Row w' g xs:=(hS.rest g a.lt hg).trans a
theorem Row.only(a:Row w g xs)(hO:p3a g' w w')(hg:g≠g'):Row w' g xs:=(hO.rest g hg).trans a
theorem Row.over(a:Row w g xs)(hb:Below w.heap.size w w'):Row w' g xs:=a.below hb a.lt
theorem Holds.only{A:Option Addr}{n c:Nat}(a:Holds w B A n c xs)(hO:p3a g' w w')(hg:B<=g'):Holds w' B A n c xs:=a.below (hO.below hg)
theorem I0a(hk:h.ok):(q0a h).length=26:=by simp[q0a,hk.len]
theorem i2a(h:Hd):∀v∈q0a h,v.oneCell'=true:=by intro v hv;simp only[q0a,List.mem_cons,List.mem_map] at hv;rcases hv with rfl | rfl | rfl | rfl | rfl | rfl | rfl | rfl | rfl | rfl | ⟨x,_,rfl⟩<;>rfl
theorem HB.of(e:cs=q0a h)(a:Blk w g 28 cs):HB w g h:=by subst e;exact a
theorem HB.c0(a:HB w g h):w.cell? ⟨g,0,none⟩=some (.int .u16 h.ch):=Blk.cell a 0
theorem HB.c1(a:HB w g h):w.cell? ⟨g,1,none⟩=some (.int .u32 h.st):=Blk.cell a 1
theorem HB.c2(a:HB w g h):w.cell? ⟨g,2,none⟩=some (.int .u16 h.cm):=Blk.cell a 2
theorem HB.c3(a:HB w g h):w.cell? ⟨g,3,none⟩=some (.int .u16 h.cr):=Blk.cell a 3
theorem HB.c4(a:HB w g h):w.cell? ⟨g,4,none⟩=some (.int .u32 h.fl):=Blk.cell a 4
theorem HB.c5(a:HB w g h):w.cell? ⟨g,5,none⟩=some (.int .u32 h.nx):=Blk.cell a 5
theorem HB.c6(a:HB w g h):w.cell? ⟨g,6,none⟩=some (.int .u64 h.id):=Blk.cell a 6
theorem HB.c7(a:HB w g h):w.cell? ⟨g,7,none⟩=some (.int .u64 h.asy):=Blk.cell a 7
theorem HB.c8(a:HB w g h):w.cell? ⟨g,8,none⟩=some (.int .u32 h.tr):=Blk.cell a 8
theorem HB.c9(a:HB w g h):w.cell? ⟨g,9,none⟩=some (.int .u64 h.se):=Blk.cell a 9
theorem HB.sgc(a:HB w g h){i:Nat}(hi:i<h.sg.length):w.cell? ⟨g,10+i,none⟩=some (.int .u8 (h.sg.getD i 0)):=by
 rw[Blk.cell a (10+i),show(q0a h)[10+i]? = (h.sg.map (Value.int .u8))[i]? from by rw[Nat.add_comm];rfl]
 simp[hi]
theorem HB.sig(a:HB w g h)(hk:h.ok):Holds w w.heap.size (some ⟨g,10,none⟩) 16 16 h.sg:=⟨hk.len,Nat.le_refl _,by omega,hk.byte,λhA=>(by cases hA),λ_=>⟨g,10,rfl,Blk.lt a,λi hi=>a.sgc (by rw[hk.len];exact hi)⟩⟩
end
section
variable {P:Program} {ops:Array Oper} {rest:List Oper} {o:Oper} {a:Act} {w:World} {Q:Exit->Act->World->Prop}
theorem a0a(hg:o.guard=none)(T:TypeId)(x:Operand)(ho:o.op=.box T x)(cs:List Value)(hx:a.eval x=.agg cs.toArray)
(h:∀g w',w.heap.size<=g->g<w'.heap.size->Hid (Blk w' g T cs)->Hid (Below w.heap.size w w')->wpList P ops Q rest (a.put o.dst (.pointer (some ⟨g,0,none⟩))) w'):wpList P ops Q (o::rest) a w:=by
 refine wpList_plain hg λK hK=>?_
 unfold Oper.wp execOp;simp only[ho,hx,Sem.run_bind,Instr.box,newVar,newRow,run_newObj_alloc,Sem.run_pure,Result.andThen_ok];refine hK _ _ (h _ _ (Nat.le_refl _) (by simp) ?_ ((Below.refl _ _).alloc (Nat.le_refl _) _));exact Blk.new w T cs
theorem e0b(hg:o.guard=none)(T:TypeId)(x:Operand)(ho:o.op=.box T x)(v:Value)(hx:a.eval x=v)(hv:v.cells=#[v])
(h:∀g w',w.heap.size<=g->g<w'.heap.size->Hid (Blk w' g T [v])->Hid (Below w.heap.size w w')->wpList P ops Q rest (a.put o.dst (.pointer (some ⟨g,0,none⟩))) w'):wpList P ops Q (o::rest) a w:=by
 refine wpList_plain hg λK hK=>?_
 unfold Oper.wp execOp;simp only[ho,hx,hv,Sem.run_bind,Instr.box,newVar,newRow,run_newObj_alloc,Sem.run_pure,Result.andThen_ok];refine hK _ _ (h _ _ (Nat.le_refl _) (by simp) ?_ ((Below.refl _ _).alloc (Nat.le_refl _) _));exact Blk.new w T [v]
theorem b0a(hg:o.guard=none)(T:TypeId)(ho:o.op=.alloc T)(zs:List Value)(n:Nat)(hi:Hid ((P.info? T).map (λi=>(i.zero,i.size))=some (some (.agg zs.toArray),n)))
(h:∀g w',w.heap.size<=g->g<w'.heap.size->Hid (Blk w' g T zs)->Hid (Below w.heap.size w w')->wpList P ops Q rest (a.put o.dst (.pointer (some ⟨g,0,none⟩))) w'):wpList P ops Q (o::rest) a w:=by
 refine wpList_plain hg λK hK=>?_
 unfold Oper.wp execOp;have hz:=(zero_of_info hi.out).1;simp only[ho,Sem.run_bind,Instr.alloc,hz,newVar,newRow,run_newObj_alloc,Sem.run_pure,Result.andThen_ok];refine hK _ _ (h _ _ (Nat.le_refl _) (by simp) ?_ ((Below.refl _ _).alloc (Nat.le_refl _) _));exact Blk.new w T zs
theorem d0a(hg:o.guard=none)(T:TypeId)(x:Operand)(ho:o.op=.load T x)(g:Nat)(hx:a.eval x=.pointer (some ⟨g,0,none⟩))(T':TypeId)(cs:List Value)(hA:Hid (Blk w g T' cs))(n:Nat)(d:TypeDesc)
(hu:P.underlying T=some d)(hd:(match d with | .struct _ | .array _ _=>true | _=>false)=true)(hi:(P.info? T).map (·.size)=some n)(hn:Hid (cs.length=n))
(h:wpList P ops Q rest (a.put o.dst (.agg cs.toArray)) w):wpList P ops Q (o::rest) a w:=wpList_load_row hg T x ho g hx T' _ (0,0) d hA.out hu hd (by rw[hi];have:=hn.out;simp[this]) h
theorem e0a(hg:o.guard=none)(T:TypeId)(x y:Operand)(ho:o.op=.store T x y)(g:Nat)(hx:a.eval x=.pointer (some ⟨g,0,none⟩))(T':TypeId)(cs ds:List Value)(hy:a.eval y=.agg ds.toArray)
(hA:Hid (Blk w g T' cs))(n:Nat)(hi:(P.info? T).map (·.size)=some n)(hn:Hid (cs.length=n))(hm:Hid (ds.length=n))(h1:Hid (∀v∈ds,v.oneCell'=true))
(h:∀w',Hid (Blk w' g T' ds)->Hid (p3a g w w')->g<w'.heap.size->wpList P ops Q rest a w')(hd:o.dst=none:=by rfl):wpList P ops Q (o::rest) a w:=by
 refine wpList_store_row hg T x y ho g _ hx hy T' _ hA.out (by rw[hi];have:=hm.out;simp[this]) (by have:=hm.out;have:=hn.out;simp_all) (all_oneCell_toArray h1.out) ?_;have hp:a.put o.dst undef=a:=by rw[hd];rfl
 rw[hp];refine h _ ?_ ((p3a.refl g w).setRow _) (by rw[size_setRow];exact hA.out.lt);exact setRow_heap w g _ _ T' (0,0) hA.out
theorem T5a(w:World)(g i:Nat)(T' ty:TypeId)(cs:List Value)(u:Value)(hB:Blk w g T' cs)(hi:i<cs.length)(hs:(P.info? ty).map (·.size)=some 1)(h1:u.oneCell'=true) :
  (storeVar ty ⟨g,i,none⟩ u).run P w=.ok () (w.setCell ⟨g,i,none⟩ u):=by
 have hc:u.cells=#[u]:=by cases u<;>first | rfl | (simp[Value.oneCell'] at h1)
 have:=run_storeCells_cells (P:=P) g i [u] 0 w (λj hj=>by
   obtain rfl:j=0:=by simpa using hj
   show(w.cell? ⟨g,i,none⟩).isSome=true
   rw[hB.cell];simp[hi]) (λj _=>hB.frozen _) (λx hx=>by obtain rfl:=List.mem_singleton.1 hx;exact h1)
 cases hq:P.info? ty with
 | none=>simp[hq] at hs
 | some q=>
  have hz:q.size=1:=by simpa[hq] using hs
  simp[storeVar,sizeOf,typeInfo,hq,hc,hz];simpa[World.setCells] using this
theorem h0a(hg:o.guard=none)(T:TypeId)(x y:Operand)(ho:o.op=.store T x y)(g i:Nat)(hx:a.eval x=.pointer (some ⟨g,i,none⟩))(T':TypeId)(cs:List Value)(u:Value)(hy:a.eval y=u)
(hA:Hid (Blk w g T' cs))(hi:Hid (i<cs.length))(hs:(P.info? T).map (·.size)=some 1)(h1:u.oneCell'=true)
(h:∀w',Hid (Blk w' g T' (cs.set i u))->Hid (p3a g w w')->g<w'.heap.size->wpList P ops Q rest a w')(hd:o.dst=none:=by rfl):wpList P ops Q (o::rest) a w:=by
 have hp:a.put o.dst undef=a:=by rw[hd];rfl
 refine wpList_plain hg λK hK=>?_
 unfold Oper.wp execOp;simp only[ho,hx,hy,Instr.storeAt,Instr.sureAddr,Sem.run_bind,Sem.run_pure,Result.andThen_ok,T5a w g i T' T cs u hA.out hi.out hs h1];show K (a.put o.dst undef) _
 rw[hp];refine hK _ _ (h _ ?_ (a3a w g i u) ?_)
 ·exact hA.out.set i u
 ·have:=(a3a w g i u).size;rw[this];exact hA.out.lt
theorem K0a(hg:o.guard=none)(t e:TypeId)(len:Nat)(parts:Array (Nat×Operand))(ho:o.op=.buildSlice t len parts)(hu:P.underlying t=some (.slice e))(cs:List Value)
(hf:P.builtSlice e len (parts.map fun (i,x)=>(i,a.eval x)).toList=some cs.toArray)
(h:∀g w',w.heap.size<=g->g<w'.heap.size->Hid (Blk w' g e cs)->Hid (Below w.heap.size w w')->wpList P ops Q rest (a.put o.dst (.slice (some ⟨g,0,none⟩) len len)) w'):wpList P ops Q (o::rest) a w:=_root_.Go.Great.wpList_buildSliceTo hg t e len parts ho w.heap.size rfl _ rfl hu cs.toArray hf (h _ _ (Nat.le_refl _) (by simp) (Blk.new w e cs) ((Below.refl _ _).alloc (Nat.le_refl _) _))
theorem S0a{K:Act->World->Prop}{E:Prop}(hg:o.guard=none)(t e:TypeId)(len:Nat)(parts:Array (Nat×Operand))(ho:o.op=.buildSlice t len parts)(hu:P.underlying t=some (.slice e))(cs:List Value)
(hf:P.builtSlice e len (parts.map fun (i,x)=>(i,a.eval x)).toList=some cs.toArray)
(h:∀g w',w.heap.size<=g->g<w'.heap.size->Hid (Blk w' g e cs)->Hid (Below w.heap.size w w')->K (a.put o.dst (.slice (some ⟨g,0,none⟩) len len)) w') :
  if Region.wanted o (yielded ops a.tmps)=true then Oper.wp P o a w K Q else E:=by
 have hw:Region.wanted o (yielded ops a.tmps)=true:=by simp[Region.wanted,hg]
 rw[if_pos hw];unfold Program.builtSlice at hf;cases hie:P.info? e with
 | none=>simp[hie] at hf
 | some ie=>
  simp only[hie] at hf;cases hz:ie.zero with
  | none=>simp[hz] at hf
  | some z=>
   simp only[hz] at hf;by_cases hc:len*ie.size>2^24∨len*ie.size=0
   ·simp[hc] at hf
   ·rw[if_neg hc] at hf;exact wp_buildSlice t e len parts ho _ ie z hu hie hz (λh'=>hc (Or.inl h')) (λh'=>hc (Or.inr h')) hf (h _ _ (Nat.le_refl _) (by simp) (Blk.new w e cs) ((Below.refl _ _).alloc (Nat.le_refl _) _))
theorem x0a(hg:o.guard=none)(T:TypeId)(parts:Array (Nat×Operand))(ho:o.op=.build T parts)(cs:List Value)(hf:P.built T (parts.map fun (i,x)=>(i,a.eval x)).toList=some cs.toArray)
(h:wpList P ops Q rest (a.put o.dst (.agg cs.toArray)) w):wpList P ops Q (o::rest) a w:=wpList_buildTo hg T parts ho _ rfl _ hf h
theorem W0a(hg:o.guard=none)(T:TypeId)(ho:o.op=.build T #[])(cs:List Value)(hf:P.built T []=some cs.toArray)
(h:wpList P ops Q rest (a.put o.dst (.agg cs.toArray)) w):wpList P ops Q (o::rest) a w:=by refine wpList_buildTo hg T #[] ho _ rfl cs.toArray ?_ h;rw[<-hf];simp
end
def spliced(cur:List Value)(off:Nat)(xs:List Int):List Value:=cur.take off++(xs.map (Value.int .u8)++cur.drop (off+xs.length))
theorem n9a{w:World}{ops:Array Oper}{rest:List Oper}{o:Oper}{a:Act}{Q:Exit->Act->World->Prop}(hgd:o.guard=none)(d s:Operand)
(ho:o.op=.call { callee:=.builtin .copy,args:=#[d,s],argTypes:=#[31,31] })
(g off:Nat)(T:TypeId)(dLen dCap n c:Nat)(A:Option Addr)(hd:a.eval d=.slice (some ⟨g,off,none⟩) dLen dCap)(hs:a.eval s=.slice A n c)
(cur:List Value)(xs:List Int)(B:Nat)(hrow:Hid (Blk w g T cur))(hx:Holds w B A n c xs)(h0:0<n)(hn:n<=dLen)(hfit:Hid (off+n<=cur.length))
(h:∀w',Hid (Blk w' g T (spliced cur off xs))->Hid (p3a g w w')->wpList Tryz.prog ops Q rest (a.put o.dst (goInt n)) w') :
  wpList Tryz.prog ops Q (o::rest) a w:=by
 have hl:=hx.len;obtain⟨i0,hi,hz0,hz1,hz2⟩:=info_parts v3a;obtain⟨b,so,rfl,_,hc⟩:=hx.cells h0;refine wpList_copy_own hgd d s 31 31 ho 5 Tryz.underlying31 (by rw[hi];simp[hz1]) g off dLen dCap _ n c hd hs cur.toArray T hrow.out (xs.map (Value.int .u8)) (by rw[List.length_map,hl];exact(Nat.min_eq_left hn).symm) ?_ (by have:=hfit.out;simp;omega)
  (by intro v hv;obtain⟨x,_,rfl⟩:=List.mem_map.1 hv;rfl) ?_
 ·intro j v hj;have hjl:j<xs.length:=by
   by_cases hj':j<xs.length
   ·exact hj'
   ·rw[List.getElem?_eq_none (by simp;omega)] at hj;cases hj
  rw[Addr.add_mid,hc j (by omega),<-hj];simp[hjl]
 ·have e:=h (w.setRow g (spliced cur off xs).toArray) (setRow_heap w g _ _ T (0,0) hrow.out) ((p3a.refl g w).setRow _);have e2:goInt (xs.map (Value.int .u8)).length=goInt n:=by rw[List.length_map,hl]
  rw[e2];simpa[spliced] using e
theorem E7a{w:World}{ops:Array Oper}{o:Oper}{a:Act}{K:Act->World->Prop}{Q:Exit->Act->World->Prop}{E:Prop}(hgd:o.guard=none)(d s:Operand)
(ho:o.op=.call { callee:=.builtin .copy,args:=#[d,s],argTypes:=#[31,31] })
(g off:Nat)(T:TypeId)(dLen dCap n c:Nat)(A:Option Addr)(hd:a.eval d=.slice (some ⟨g,off,none⟩) dLen dCap)(hs:a.eval s=.slice A n c)
(cur:List Value)(xs:List Int)(B:Nat)(hrow:Hid (Blk w g T cur))(hx:Holds w B A n c xs)(h0:0<n)(hn:n<=dLen)(hfit:Hid (off+n<=cur.length))
(h:∀w',Hid (Blk w' g T (spliced cur off xs))->Hid (p3a g w w')->K (a.put o.dst (goInt n)) w') :
  if Region.wanted o (yielded ops a.tmps)=true then Oper.wp Tryz.prog o a w K Q else E:=by
 have hw:Region.wanted o (yielded ops a.tmps)=true:=by simp[Region.wanted,hgd]
 rw[if_pos hw];have hl:=hx.len;obtain⟨i0,hi,hz0,hz1,hz2⟩:=info_parts v3a;obtain⟨b,so,rfl,_,hc⟩:=hx.cells h0;have hrun:=run_copy_row (P:=Tryz.prog) w 31 31 o.type 5 g off dLen dCap ⟨b,so,none⟩ n c cur.toArray T (xs.map (Value.int .u8)) Tryz.underlying31 (by rw[hi];simp[hz1]) hrow.out (by rw[List.length_map,hl];exact(Nat.min_eq_left hn).symm)
  (by
   intro j v hj;have hjl:j<xs.length:=by
    by_cases hj':j<xs.length
    ·exact hj'
    ·rw[List.getElem?_eq_none (by simp;omega)] at hj;cases hj
   rw[Addr.add_mid,hc j (by omega),<-hj];simp[hjl]) (by have:=hfit.out;simp;omega) (by intro v hv;obtain⟨x,_,rfl⟩:=List.mem_map.1 hv;rfl)
 unfold Oper.wp;simp[execOp,ho,resolve,invoke,builtin,hd,hs,hrun,Result.andThen];have e:=h (w.setRow g (spliced cur off xs).toArray) (setRow_heap w g _ _ T (0,0) hrow.out) ((p3a.refl g w).setRow _);rw[Oper.upon_value];simpa[spliced,hl] using e
theorem o9a(cur xs:List Int)(off:Nat):spliced (cur.map (Value.int .u8)) off xs=(cur.take off++xs++cur.drop (off+xs.length)).map (Value.int .u8):=by simp[spliced]
theorem D2b(h:Hd)(xs:List Int)(hl:h.sg.length=16)(hx:xs.length=16):spliced (q0a h) 10 xs=q0a { h with sg:=xs }:=by have e:(q0a h).drop (10+xs.length)=[]:=List.drop_of_length_le (by simp[q0a,hl,hx]);unfold spliced;rw[e,List.append_nil];rfl
theorem E0a:(Tryz.prog.info? 28).map (·.size)=some 26:=by kernel_rfl
theorem g8a:(Tryz.prog.info? 28).map (λi=>(i.zero,i.size))=some (some (.agg (q0a N1a).toArray),26):=by kernel_rfl
theorem p3b:Tryz.prog.built 28 []=some (q0a N1a).toArray:=by kernel_rfl
theorem q3b(w:World)(A:Option Addr)(n c:Nat)(xs:List Int)(h:Holds w w.heap.size A n c xs)(hn:n<=140737488355328) :
  Calls Tryz.prog 16 #[.slice A n c] w λe w'=>∃v,e=.returned v/\Own w' w.heap.size v xs/\Below w.heap.size w w':=by
 have hxl:xs.length<=140737488355328:=by have:=h.len;omega
 go_enter Tryz.func16,Tryz.ntmps16;go_wp2_with(at_builtin;refine D0a rfl (.tmp 4) (.tmp 5) rfl w.heap.size _ [] rfl (Own.nil _ _) w.heap.size A n c xs rfl h (by simpa using hxl) (Nat.le_refl _) ?_;intro v1 w1 ho1 hb1 hgr);have ho:=ho1.out;rw[List.nil_append] at ho;go_ret;exact⟨_,rfl,ho,hb1⟩
theorem Own.only{w w':World}{base g:Nat}{v:Value}{xs:List Int}(h:Own w base v xs)(hO:p3a g w w')(hg:g<base):Own w' base v xs:=by
 refine⟨h.1,?_⟩;rcases h.2 with h0 | ⟨q,cap,cur,rfl,h1,hq,rest⟩
 ·exact .inl h0
 ·exact .inr ⟨q,cap,cur,rfl,h1,(hO.rest q (by omega)).trans hq,rest⟩
theorem s7b(n:Nat)(h:n<=65535):v2a (n:Int) 2=le n 2/\d4a (n:Int) 2=0:=by
 have e:V2a (n:Int) 2=true:=by unfold V2a;rw[show B2a 2=true from rfl,show((2:Int).toNat)=2 from rfl,show(256:Int)^2=65536 from by decide,decide_eq_true (by omega:(n:Int)<65536)];rfl
 unfold v2a d4a;rw[if_pos e,if_pos e];exact⟨rfl,rfl⟩
theorem F7b(n:Nat)(h:¬n<=65535):d4a (n:Int) 2=2/\v2a (n:Int) 2=[]:=by
 have e:V2a (n:Int) 2=false:=by unfold V2a;rw[show((2:Int).toNat)=2 from rfl,show(256:Int)^2=65536 from by decide,decide_eq_false (by omega:¬(n:Int)<65536)];simp
 unfold d4a v2a;rw[if_neg (by simp[e]),if_neg (by simp[e])];exact⟨rfl,rfl⟩
theorem F1b(w:World)(base:Nat):Y1a w base none []:=.inl ⟨rfl,rfl⟩
def E2b(w:World)(n s:Int)(e:Ending)(w':World):Prop:=∃A',e=.returned (.slice A' (v2a n s).length (v2a n s).length)/\Y1a w' w.heap.size A' (v2a n s)/\Below w.heap.size w w'
theorem O3b(w:World)(n s:Int)(hn:0<=n/\n<=18446744073709551615)(hs:-9223372036854775808<=s/\s<=9223372036854775807) :
  Calls Tryz.prog 118 #[.int .u64 n,.int .i64 s] w (E2b w n s):=by
 have C1:=g7a w n s hn hs;have HQ:Hid (∀e w',(∃A',e=.returned (.slice A' (v2a n s).length (v2a n s).length)/\Y1a w' w.heap.size A' (v2a n s)/\Below w.heap.size w w')->E2b w n s e w'):=λ_ _ h=>h
 unfold B4a at C1;obtain⟨ys,hys⟩:∃ys,ys=v2a n s:=⟨_,rfl⟩;obtain⟨er,her⟩:∃er,er=d4a n s:=⟨_,rfl⟩;rw[<-hys] at C1 HQ;rw[<-her] at C1;obtain⟨m,hm⟩:∃m,m=ys.length:=⟨_,rfl⟩;rw[<-hm] at C1 HQ;have C1':=hI C1;clear C1 hys her hm hn hs;go_enter Tryz.func118,Tryz.ntmps118;go_wp2_with fail;refine C1'.out.mono ?_;rintro e w1 ⟨A',rfl,hfr,L1⟩;have HF:=hI hfr;clear hfr;go_wp2;go_ret;exact HQ.out _ _ ⟨_,rfl,HF.out,L1⟩
def Apart(v u:Value):Prop:=∀i,v.ownBlock=some i->u.ownBlock≠some i
theorem Apart.nil(u:Value):Apart (.slice none 0 0) u:=λi h=>by cases h
theorem Apart.symm{v u:Value}(h:Apart v u):Apart u v:=λi hu hv=>h i hv hu
section
variable {k k':IntKind} {e e':TypeId} {w w':World} {base base':Nat} {v v' u:Value} {xs ys:List Int}
theorem X2a.lt(h:X2a k e w base v xs){i:Nat}(hi:v.ownBlock=some i):i<w.heap.size:=(World.ownsRow.lt h i hi).2
theorem X2a.grown(h':X2a k' e' w base' u ys)(hg:w.grownBy w' v.ownBlock)(ha:Apart v u):X2a k' e' w' base' u ys:=h'.keep λi _ hi hcs=>hg.block i (Array.getElem?_eq_some_iff.1 hcs).1 λhe=>ha i he.symm hi
def h6a(w:World)(v v':Value):Prop:=v'.ownBlock=v.ownBlock∨∃g,v'.ownBlock=some g/\w.heap.size<=g
end
def Box(w:World)(b:Nat)(T:TypeId)(v:Value):Prop:=w.heap[b]? = some (.cells #[v] T (0,0))
structure i6a (w w':World) (b:Nat) (v:Value):Prop where
 os:w'.os=w.os
 tape:w'.tape=w.tape
 output:w'.output=w.output
 size:w.heap.size<=w'.heap.size
 rest:∀i,i<w.heap.size->i≠b->v.ownBlock≠some i->w'.heap[i]? = w.heap[i]?
section
variable {w w' w2:World} {b b' base base':Nat} {T T' e:TypeId} {v v' u:Value} {k:IntKind} {xs:List Int}
theorem Box.lt(h:Box w b T v):b<w.heap.size:=lt_of_block h
theorem Box.cell(h:Box w b T v):w.cell? ⟨b,0,none⟩=some v:=cell_of_one h
theorem Box.frozen(h:Box w b T v):w.frozen? ⟨b,0,none⟩=false:=free_of_one h
theorem Box.below(h:Box w b T v)(hb:Below w.heap.size w w'):Box w' b T v:=(hb.block b h.lt).trans h
theorem Box.alloc(h:Box w b T v)(o:Obj):Box (w.alloc o) b T v:=(Below.heap_alloc _ _ _ h.lt).trans h
theorem Box.only(h:Box w b T v)(hO:p3a b' w w')(hb:b≠b'):Box w' b T v:=(hO.rest b hb).trans h
theorem Box.ne(h:Box w b T v)(h':Box w b' T' v')(hT:T≠T'):b≠b':=by rintro rfl;unfold Box at h h';rw[h] at h';simp only[Option.some.injEq,Obj.cells.injEq] at h';exact hT h'.2.1
theorem Box.own(h:Box w b T v)(hu:X2a k e w base u xs)(hT:T≠e):u.ownBlock≠some b:=λhv=>by obtain⟨_,cs,hcs⟩:=hu.block hv;unfold Box at h;rw[hcs] at h;simp only[Option.some.injEq,Obj.cells.injEq] at h;exact hT h.2.1.symm
theorem X2a.only(h:X2a k e w base v xs)(hO:p3a b w w')(hB:Box w b T u)(hT:T≠e):X2a k e w' base v xs:=h.keep λi _ hi _=>hO.rest i λhe=>hB.own h hT (he▸hi)
theorem i6a.refl(w:World)(b:Nat)(v:Value):i6a w w b v:=⟨rfl,rfl,rfl,Nat.le_refl _,λ_ _ _ _=>rfl⟩
theorem h6a.refl(w:World)(v:Value):h6a w v v:=.inl rfl
theorem h6a.trans(h:h6a w v v')(h2:h6a w' v' u)(hs:w.heap.size<=w'.heap.size):h6a w v u:=by
 rcases h2 with h2 | ⟨g,h2,h3⟩
 ·rcases h with h | ⟨g,h,h4⟩
  ·exact .inl (h2.trans h)
  ·exact .inr ⟨g,h2.trans h,h4⟩
 ·exact .inr ⟨g,h2,by omega⟩
theorem i6a.append(ht:i6a w w' b v)(hw:h6a w v v')(hg:J3b w' w2 v'){w3:World}(hO:p3a b w2 w3):i6a w w3 b v:=by
 obtain⟨o,hg⟩:=hg;have hs:=hg.size;have ha:(w'.alloc o).heap.size=w'.heap.size+1:=by simp
 refine⟨hO.os.trans (hg.os.trans ht.os),hO.tape.trans (hg.tape.trans ht.tape),hO.output.trans (hg.output.trans ht.output),by rw[hO.size];have:=ht.size;omega,λi hi hb hv=>?_⟩;have hsz:=ht.size;rw[hO.rest i hb,hg.block i (by omega) ?_,Below.heap_alloc _ _ _ (by omega),ht.rest i hi hb hv];rintro he;rcases hw with h | ⟨g,h,h4⟩
 ·exact hv (h▸he.symm)
 ·rw[h] at he;injection he with he
  omega
theorem i6a.trans(ht:i6a w w' b v)(hw:h6a w v v')(ht2:i6a w' w2 b v'):i6a w w2 b v:=by
 have hsz:=ht.size;refine⟨ht2.os.trans ht.os,ht2.tape.trans ht.tape,ht2.output.trans ht.output,by have:=ht2.size;omega,λi hi hb hv=>?_⟩;rw[ht2.rest i (by omega) hb ?_,ht.rest i hi hb hv];intro he;rcases hw with h | ⟨g,h,h4⟩
 ·exact hv (h▸he)
 ·rw[h] at he;injection he with he
  omega
theorem i6a.below(ht:i6a w w' b v)(hbb:base<=b)(ho:X2a k e w base v xs)(hs:base<=w.heap.size):Below base w w':=
 ⟨ht.os,ht.tape,ht.output,ht.size,λi hi=>ht.rest i (by omega) (by omega) λhv=>by have:=(ho.block hv).1;omega⟩
theorem p3a.iter(hO:p3a b w w')(hB:Box w b T v){K:Nat}{s:ByteArray}{p:Nat}(hK:w.heap[K]? = some (.stringIter s p)):w'.heap[K]? = some (.stringIter s p):=by rw[hO.rest K ?_,hK];rintro rfl;unfold Box at hB;rw[hB] at hK;cases hK
theorem Box.iterAt(h:Box w b T v){K:Nat}{s:ByteArray}{p:Nat}(hK:w.heap[K]? = some (.stringIter s p))(p':Nat):Box (w.iterAt K s p') b T v:=(Lib.iterAt_other w K b s p' (λe=>by subst e;unfold Box at h;rw[h] at hK;cases hK)).trans h
end
def b5a{α:Type}(f:α->Value)(e:TypeId)(w:World)(base:Nat)(v:Value)(xs:List α):Prop:=w.ownsRow base e 1 v xs.length (xs.map f)
structure o1a {α:Type} (f:α->Value) (w:World) (B:Nat) (A:Option Addr) (n c:Nat) (xs:List α):Prop where
 len:xs.length=n
 fit:n<=c
 bare:A=none->c=0
 cells:0<n->∃b off,A=some ⟨b,off,none⟩/\b<B/\∀i x,xs[i]? = some x->w.cell? ⟨b,off+i,none⟩=some (f x)
section
variable {α:Type} {f:α->Value} {w w' w2:World} {B B' base base' b:Nat} {A:Option Addr} {n c:Nat} {xs ys:List α} {e e' T:TypeId} {v v' u:Value}
theorem o1a.keep(h:o1a f w B A n c xs)(hk:∀p:Addr,p.block<B->w'.cell? p=w.cell? p):o1a f w' B A n c xs:=
 ⟨h.len,h.fit,h.bare,λhn=>by obtain⟨b,off,e,hb,hc⟩:=h.cells hn;exact⟨b,off,e,hb,λi x hi=>(hk _ hb).trans (hc i x hi)⟩⟩
theorem o1a.mono(h:o1a f w B A n c xs)(hB:B<=B'):o1a f w B' A n c xs:=
 ⟨h.len,h.fit,h.bare,λhn=>by obtain⟨b,off,e,hb,hc⟩:=h.cells hn;exact⟨b,off,e,by omega,hc⟩⟩
theorem o1a.below(h:o1a f w B A n c xs)(hb:Below B w w'):o1a f w' B A n c xs:=h.keep λ_ hp=>hb.cell hp
theorem o1a.over(h:o1a f w w.heap.size A n c xs)(hb:Below w.heap.size w w'):o1a f w' w'.heap.size A n c xs:=(h.below hb).mono hb.size
theorem o1a.head(h:o1a f w B A c c xs)(hn:n<=c):o1a f w B A n c (xs.take n):=
 ⟨by have:=h.len;simp;omega,hn,h.bare,λh0=>by
  obtain⟨b,off,rfl,hb,hc⟩:=h.cells (by omega);refine⟨b,off,rfl,hb,λi x hi=>hc i x ?_⟩;rw[List.getElem?_take] at hi;split at hi
  ·exact hi
  ·cases hi⟩
theorem o1a.nil(f:α->Value)(w:World)(B:Nat):o1a f w B none 0 0 []:=⟨rfl,Nat.le_refl _,λ_=>rfl,λh=>absurd h (by omega)⟩
theorem b5a.nil(f:α->Value)(e:TypeId)(w:World)(base:Nat):b5a f e w base (.slice none 0 0) []:=World.ownsRow_nil w base e 1
theorem b5a.mono(h:b5a f e w base v xs)(hb:base'<=base):b5a f e w base' v xs:=by
 refine⟨h.1,?_⟩;rcases h.2 with h0 | ⟨g,cap,cur,rfl,h1,rest⟩
 ·exact .inl h0
 ·exact .inr ⟨g,cap,cur,rfl,by omega,rest⟩
theorem b5a.keep(h:b5a f e w base v xs)(hk:∀i cs,v.ownBlock=some i->w.heap[i]? = some (.cells cs e (0,0))->w'.heap[i]? = w.heap[i]?):b5a f e w' base v xs:=by
 refine⟨h.1,?_⟩;rcases h.2 with h0 | ⟨g,cap,cur,rfl,h1,hg,rest⟩
 ·exact .inl h0
 ·exact .inr ⟨g,cap,cur,rfl,h1,(hk g cur rfl hg).trans hg,rest⟩
theorem b5a.below(h:b5a f e w base v xs)(hb:Below w.heap.size w w'):b5a f e w' base v xs:=h.keep λi _ _ hi=>hb.block i (Array.getElem?_eq_some_iff.1 hi).1
theorem b5a.alloc(h:b5a f e w base v xs)(o:Obj):b5a f e (w.alloc o) base v xs:=World.ownsRow.alloc h o
theorem b5a.iterAt(h:b5a f e w base v xs){K:Nat}{s:ByteArray}{p:Nat}(hK:w.heap[K]? = some (.stringIter s p))(p':Nat):b5a f e (w.iterAt K s p') base v xs:=h.keep λ_ _ _ hi=>Lib.iterAt_other w K _ s p' (λe=>by subst e;rw[hi] at hK;cases hK)
theorem b5a.block(h:b5a f e w base v xs){i:Nat}(hi:v.ownBlock=some i):base<=i/\∃cs,w.heap[i]? = some (.cells cs e (0,0)):=by
 rcases h.2 with⟨rfl,_⟩ | ⟨g,cap,cur,rfl,h1,hg,rest⟩
 ·cases hi
 ·simp only[Value.ownBlock,Option.some.injEq] at hi;subst hi;exact⟨h1,cur,hg⟩
theorem b5a.lt(h:b5a f e w base v xs){i:Nat}(hi:v.ownBlock=some i):i<w.heap.size:=(World.ownsRow.lt h i hi).2
theorem b5a.open(h:b5a f e w base v xs):∃A n c,v=.slice A n c/\xs.length=n/\n<=c/\n<=9223372036854775807/\(A=none->c=0)/\
  (0<n->∃g,A=some ⟨g,0,none⟩/\base<=g/\g<w.heap.size/\∀i x,xs[i]? = some x->w.cell? ⟨g,i,none⟩=some (f x)):=by
 rcases h.2 with⟨rfl,h0⟩ | ⟨g,cap,cur,rfl,hb,hg,hnc,hcm,hcs,htk⟩
 ·exact⟨none,0,0,rfl,h0,Nat.le_refl _,by omega,λ_=>rfl,λh=>absurd h (by omega)⟩
 ·refine⟨_,_,_,rfl,rfl,hnc,by unfold maxLen at hcm;omega,λhA=>(by cases hA),λh0=>⟨g,rfl,hb,(Array.getElem?_eq_some_iff.1 hg).1,λi x hi=>?_⟩⟩;have hil:i<xs.length:=(List.getElem?_eq_some_iff.1 hi).1;rw[cell_of_row w g i cur e (0,0) hg];have e1:cur[i]? = (cur.toList.take (xs.length*1))[i]?:=by rw[List.getElem?_take,if_pos (by omega),Array.getElem?_toList]
  rw[e1,htk,List.getElem?_map,hi];rfl
theorem b5a.holds(h:b5a f e w base v xs):∃A n c,v=.slice A n c/\o1a f w w.heap.size A n c xs:=by obtain⟨A,n,c,rfl,hl,hf,_,hA,hc⟩:=h.open;refine⟨A,n,c,rfl,hl,hf,hA,λh0=>?_⟩;obtain⟨g,rfl,_,hg,hcc⟩:=hc h0;exact⟨g,0,rfl,hg,λi x hi=>by rw[Nat.zero_add];exact hcc i x hi⟩
theorem b5a.oneCell(h:b5a f e w base v xs):v.oneCell'=true:=by obtain⟨A,n,c,rfl,_⟩:=h.open;rfl
theorem b5a.only(h:b5a f e w base v xs)(hO:p3a b w w')(hB:Box w b T u)(hT:T≠e):b5a f e w' base v xs:=
 h.keep λi cs _ hcs=>hO.rest i λhe=>by subst he;unfold Box at hB;rw[hB] at hcs;simp only[Option.some.injEq,Obj.cells.injEq] at hcs;exact hT hcs.2.1
end
section
variable {α:Type} {f:α->Value} {P:Program} {w:World} {ops:Array Oper} {rest:List Oper} {o:Oper} {a:Act} {Q:Exit->Act->World->Prop}
end
section
variable {H:Type} {enc:TypeId×Value->H} {P:Program} {W:World} {base:Nat} {t e:TypeId} {v:Value} {d:DataW H} {p:List MemPlace}
end
section
variable {α:Type} {f:α->Value} {P:Program} {w:World} {ops:Array Oper} {rest:List Oper} {o:Oper} {a:Act} {Q:Exit->Act->World->Prop}
theorem h7a(hgd:o.guard=none)(s x:Operand)(f:α->Value)(hf:∀y,(f y).oneCell'=true)(z:Value)(hzc:z.cells.size=1)(T e:TypeId)(bytes:Nat)
(ht:P.underlying T=some (.slice e))(hi:(P.info? e).map (λi=>(i.zero,i.size,i.bytes))=some (some z,1,bytes))
(ho:o.op=.call { callee:=.builtin .append,args:=#[s,x],argTypes:=#[T,T] })
(base:Nat)(v:Value)(xs:List α)(hs:a.eval s=v)(hown:b5a f e w base v xs)(B:Nat)(A:Option Addr)(m c:Nat)(ys:List α)(hx:a.eval x=.slice A m c)
(hr:o1a f w B A m c ys)(hlen:(xs.length+ys.length)*bytes<=140737488355328)(h63:xs.length+ys.length<=9223372036854775807)(hbase:base<=w.heap.size)
(h:∀v' w',Hid (b5a f e w' base v' (xs++ys))->Hid (Below base w w')->wpList P ops Q rest (a.put o.dst v') w') :
  wpList P ops Q (o::rest) a w:=by
 obtain⟨i0,hi0,hz0,hz1,hz2⟩:=info_parts hi;have hl:=hr.len;rcases A with _ | ad
 ·have hc:=hr.bare rfl;have hft:=hr.fit;have hm:m=0:=by omega
  subst hm;subst hc;have:ys=[]:=List.eq_nil_of_length_eq_zero hl;subst this;refine wpList_append_own_none hgd s x T ho base e i0 1 ht hi0 v xs.length _ hs hown hx ?_;exact h v w (by rw[List.append_nil];exact hown) (Below.refl _ _)
 ·refine wpList_append_own w hgd s x T ho base e i0 z 1 bytes ht hi0 hz0 hz1 hz2 hzc (by omega) v xs.length _ hs hown ad m c (ys.map f) hx (by simp[hl]) ?_
   (by intro v hv;obtain⟨x,_,rfl⟩:=List.mem_map.1 hv;exact hf x) (by unfold maxLen;omega) (by rw[<-hl];exact hlen) hbase ?_
  ·intro j u hj;have hjl:j<ys.length:=by
    by_cases hj':j<ys.length
    ·exact hj'
    ·rw[List.getElem?_eq_none (by simp;omega)] at hj;cases hj
   obtain⟨b,off,he,_,hcl⟩:=hr.cells (by omega);injection he with he
   subst he;have e:(⟨b,off,none⟩:Addr).add j=⟨b,off+j,none⟩:=by
    by_cases hj0:j=0
    ·subst hj0;simp[Addr.add]
    ·simp[Addr.add,hj0]
   rw[e,hcl j ys[j] (List.getElem?_eq_getElem hjl),<-hj];simp[hjl]
  ·intro v' w' hown' hgr _;refine h v' w' ?_ ((Below.refl _ _).grown hgr hbase (λk hk=>(World.ownsRow.lt hown k hk).1));show World.ownsRow _ _ _ _ _ _ _
   rw[List.length_append,List.map_append,hl];exact hown'
end
section
variable {α:Type} {f:α->Value} {e:TypeId} {w:World} {base g n c:Nat} {xs:List α}
theorem b5a.heap(h:b5a f e w base (.slice (some ⟨g,0,none⟩) n c) xs):base<=g/\xs.length=n/\∃cur:Array Value,w.heap[g]? = some (.cells cur e (0,0))/\n<=cur.size/\cur.toList.take n=xs.map f/\n<=c/\c<=maxLen/\cur.size=c:=by
 rcases h.2 with⟨h0,_⟩ | ⟨g',cap,cur,hv,hb,hg,hnc,hcm,hcs,htk⟩
 ·cases h0
 ·simp only[Value.slice.injEq,Option.some.injEq,Addr.mk.injEq,and_true] at hv;obtain⟨rfl,hn,rfl⟩:=hv;rw[Nat.mul_one] at htk hcs;exact⟨hb,hn.symm,cur,hg,by omega,by rw[hn];exact htk,by omega,hcm,hcs⟩
theorem b5a.set(h:b5a f e w base (.slice (some ⟨g,0,none⟩) n c) xs)(i:Nat)(u:α):b5a f e (w.setCell ⟨g,i,none⟩ (f u)) base (.slice (some ⟨g,0,none⟩) n c) (xs.set i u):=by
 obtain⟨hb,hn,cur,hg,hns,htk,hnc,hcm,hcs⟩:=h.heap;have h1:=heap_setCell_same w g i cur e (f u) hg;have hl:(xs.set i u).length=n:=by rw[List.length_set,hn]
 refine⟨by simp,.inr ⟨g,c,_,by rw[hl],hb,h1,by rw[hl];exact hnc,hcm,by simp[hcs],?_⟩⟩;rw[hl,Nat.mul_one,Array.toList_setIfInBounds,List.take_set,htk,List.map_set]
theorem b5a.frozen(h:b5a f e w base (.slice (some ⟨g,0,none⟩) n c) xs)(i:Nat):w.frozen? ⟨g,i,none⟩=false:=by obtain⟨_,_,cur,hg,_⟩:=h.heap;exact frozen_of_row w g i _ e hg
theorem b5a.cell(h:b5a f e w base (.slice (some ⟨g,0,none⟩) n c) xs){i:Nat}{x:α}(hi:xs[i]? = some x):w.cell? ⟨g,i,none⟩=some (f x):=by
 obtain⟨_,hn,cur,hg,hns,htk,_⟩:=h.heap;have hl:=(List.getElem?_eq_some_iff.1 hi).1;rw[cell_of_row w g i cur e (0,0) hg];have e1:cur[i]? = (cur.toList.take n)[i]?:=by rw[List.getElem?_take,if_pos (by omega),Array.getElem?_toList]
 rw[e1,htk,List.getElem?_map,hi];rfl
end
section
open Go.ChangeShapes Go.WideShapes
variable {H:Type} {enc:TypeId×Value->H} {P:Program} {W:World} {base:Nat} {t e:TypeId} {v:Value} {d:DataW H} {p:List MemPlace}
end
def O8a{α:Type}(f:α->List Value)(s:Nat)(e:TypeId)(w:World)(base:Nat)(v:Value)(xs:List α):Prop:=w.ownsRow base e s v xs.length (xs.flatMap f)
structure T0a {α:Type} (f:α->List Value) (s:Nat) (w:World) (B:Nat) (A:Option Addr) (n c:Nat) (xs:List α):Prop where
 len:xs.length=n
 fit:n<=c
 bare:A=none->c=0
 cells:0<n->∃b off,A=some ⟨b,off,none⟩/\b<B/\∀i x,xs[i]? = some x->∀j u,(f x)[j]? = some u->w.cell? ⟨b,off+(i*s+j),none⟩=some u
theorem i7a{α:Type}{f:α->List Value}{s:Nat}(hs:0<s)(hf:∀x,(f x).length=s):∀(xs:List α) (i:Nat),(xs.flatMap f)[i]? = (xs[i/s]?).bind λx=>(f x)[i%s]?
 | [],i=>by simp
 | x::r,i=>by
  rw[List.flatMap_cons,List.getElem?_append,hf x];by_cases h:i<s
  ·rw[if_pos h,Nat.div_eq_of_lt h,Nat.mod_eq_of_lt h];rfl
  ·rw[if_neg h,i7a hs hf r (i-s)];have e1:i/s=(i-s)/s+1:=by rw[Nat.div_eq_sub_div hs (by omega)]
   have e2:i%s=(i-s)%s:=by rw[Nat.mod_eq_sub_mod (by omega)]
   rw[e1,e2,List.getElem?_cons_succ]
theorem p9a{α:Type}{f:α->List Value}{s:Nat}(hf:∀x,(f x).length=s)(xs:List α):(xs.flatMap f).length=xs.length*s:=by
 induction xs with
 | nil=>simp
 | cons x r ih=>rw[List.flatMap_cons,List.length_append,ih,hf,List.length_cons,Nat.add_mul];omega
section
variable {α:Type} {f:α->List Value} {s:Nat} {w w' w2:World} {B B' base base' b:Nat} {A:Option Addr} {n c:Nat} {xs ys:List α} {e e' T:TypeId} {v v' u:Value}
theorem T0a.keep(h:T0a f s w B A n c xs)(hk:∀p:Addr,p.block<B->w'.cell? p=w.cell? p):T0a f s w' B A n c xs:=
 ⟨h.len,h.fit,h.bare,λhn=>by obtain⟨b,off,e,hb,hc⟩:=h.cells hn;exact⟨b,off,e,hb,λi x hi j u hj=>(hk _ hb).trans (hc i x hi j u hj)⟩⟩
theorem T0a.mono(h:T0a f s w B A n c xs)(hB:B<=B'):T0a f s w B' A n c xs:=
 ⟨h.len,h.fit,h.bare,λhn=>by obtain⟨b,off,e,hb,hc⟩:=h.cells hn;exact⟨b,off,e,by omega,hc⟩⟩
theorem T0a.below(h:T0a f s w B A n c xs)(hb:Below B w w'):T0a f s w' B A n c xs:=h.keep λ_ hp=>hb.cell hp
theorem T0a.over(h:T0a f s w w.heap.size A n c xs)(hb:Below w.heap.size w w'):T0a f s w' w'.heap.size A n c xs:=(h.below hb).mono hb.size
theorem T0a.drew(h:T0a f s w B A n c xs):T0a f s w.drew B A n c xs:=h.keep λ_ _=>rfl
theorem T0a.drewN(h:T0a f s w B A n c xs)(k:Nat):T0a f s (w.drewN k) B A n c xs:=h.keep λ_ _=>rfl
theorem o1a.drew{f:α->Value}(h:o1a f w B A n c xs):o1a f w.drew B A n c xs:=h.keep λ_ _=>rfl
theorem o1a.drewN{f:α->Value}(h:o1a f w B A n c xs)(k:Nat):o1a f (w.drewN k) B A n c xs:=h.keep λ_ _=>rfl
theorem T0a.head(h:T0a f s w B A c c xs)(hn:n<=c):T0a f s w B A n c (xs.take n):=
 ⟨by have:=h.len;simp;omega,hn,h.bare,λh0=>by
  obtain⟨b,off,rfl,hb,hc⟩:=h.cells (by omega);refine⟨b,off,rfl,hb,λi x hi=>hc i x ?_⟩;rw[List.getElem?_take] at hi;split at hi
  ·exact hi
  ·cases hi⟩
theorem T0a.nil(f:α->List Value)(s:Nat)(w:World)(B:Nat):T0a f s w B none 0 0 []:=⟨rfl,Nat.le_refl _,λ_=>rfl,λh=>absurd h (by omega)⟩
theorem T0a.range(h:T0a f s w B A n c xs){b off i:Nat}(hA:A=some ⟨b,off,none⟩)(hi:i<n){x:α}(hx:xs[i]? = some x):w.rangeAt b (off+i*s) (f x):=λj u hj=>by
 obtain⟨b',off',e,_,hc⟩:=h.cells (by omega);rw[hA] at e;injection e with e
 injection e with e1 e2 e3
 subst e1 e2;have:=hc i x hx j u hj
 rwa [<-Nat.add_assoc] at this
theorem O8a.nil(f:α->List Value)(s:Nat)(e:TypeId)(w:World)(base:Nat):O8a f s e w base (.slice none 0 0) []:=World.ownsRow_nil w base e s
theorem O8a.mono(h:O8a f s e w base v xs)(hb:base'<=base):O8a f s e w base' v xs:=by
 refine⟨h.1,?_⟩;rcases h.2 with h0 | ⟨g,cap,cur,rfl,h1,rest⟩
 ·exact .inl h0
 ·exact .inr ⟨g,cap,cur,rfl,by omega,rest⟩
theorem O8a.keep(h:O8a f s e w base v xs)(hk:∀i cs,v.ownBlock=some i->w.heap[i]? = some (.cells cs e (0,0))->w'.heap[i]? = w.heap[i]?):O8a f s e w' base v xs:=by
 refine⟨h.1,?_⟩;rcases h.2 with h0 | ⟨g,cap,cur,rfl,h1,hg,rest⟩
 ·exact .inl h0
 ·exact .inr ⟨g,cap,cur,rfl,h1,(hk g cur rfl hg).trans hg,rest⟩
theorem O8a.below(h:O8a f s e w base v xs)(hb:Below w.heap.size w w'):O8a f s e w' base v xs:=h.keep λi _ _ hi=>hb.block i (Array.getElem?_eq_some_iff.1 hi).1
theorem O8a.only(h:O8a f s e w base v xs)(hO:p3a b w w')(hb:b<base):O8a f s e w' base v xs:=by
 refine⟨h.1,?_⟩;rcases h.2 with h0 | ⟨g,cap,cur,rfl,h1,hg,rest⟩
 ·exact .inl h0
 ·exact .inr ⟨g,cap,cur,rfl,h1,(hO.rest g (by omega)).trans hg,rest⟩
theorem O8a.lt(h:O8a f s e w base v xs){i:Nat}(hi:v.ownBlock=some i):i<w.heap.size:=(World.ownsRow.lt h i hi).2
theorem O8a.holds(hs:0<s)(hf:∀x,(f x).length=s)(h:O8a f s e w base v xs):∃A n c,v=.slice A n c/\T0a f s w w.heap.size A n c xs:=by
 rcases h.2 with⟨rfl,h0⟩ | ⟨g,cap,cur,rfl,hb,hg,hnc,hcm,hcs,htk⟩
 ·have:xs=[]:=List.eq_nil_of_length_eq_zero h0;subst this;exact⟨none,0,0,rfl,T0a.nil f s w _⟩
 ·refine⟨_,_,_,rfl,rfl,hnc,λhA=>(by cases hA),λh0=>⟨g,0,rfl,(Array.getElem?_eq_some_iff.1 hg).1,λi x hi j u hj=>?_⟩⟩;have hil:i<xs.length:=(List.getElem?_eq_some_iff.1 hi).1;have hjs:j<s:=by rw[<-hf x];exact(List.getElem?_eq_some_iff.1 hj).1
  have hlt:i*s+j<xs.length*s:=by have:(i+1)*s<=xs.length*s:=Nat.mul_le_mul_right s hil;rw[Nat.add_mul] at this;omega
  rw[Nat.zero_add,cell_of_row w g _ cur e (0,0) hg];have e1:cur[i*s+j]? = (cur.toList.take (xs.length*s))[i*s+j]?:=by rw[List.getElem?_take,if_pos hlt,Array.getElem?_toList]
  rw[e1,htk,i7a hs hf,show(i*s+j)/s=i from by rw[Nat.mul_comm,Nat.mul_add_div hs,Nat.div_eq_of_lt hjs,Nat.add_zero],show(i*s+j)%s=j from by rw[Nat.mul_comm,Nat.mul_add_mod,Nat.mod_eq_of_lt hjs],hi];exact hj
end
section
variable {α:Type} {f:α->List Value} {s:Nat} {P:Program} {w:World} {ops:Array Oper} {rest:List Oper} {o:Oper} {a:Act} {Q:Exit->Act->World->Prop}
theorem C4a(hgd:o.guard=none)(l x:Operand)(f:α->List Value)(s:Nat)(hs0:0<s)(hfl:∀y,(f y).length=s)(hf:∀y,∀u∈f y,u.oneCell'=true)(z:Value)(hzc:z.cells.size=s)(T e:TypeId)(bytes:Nat)
(ht:P.underlying T=some (.slice e))(hi:(P.info? e).map (λi=>(i.zero,i.size,i.bytes))=some (some z,s,bytes))
(ho:o.op=.call { callee:=.builtin .append,args:=#[l,x],argTypes:=#[T,T] })
(base:Nat)(v:Value)(xs:List α)(hs:a.eval l=v)(hown:O8a f s e w base v xs)(B:Nat)(A:Option Addr)(m c:Nat)(ys:List α)(hx:a.eval x=.slice A m c)
(hr:T0a f s w B A m c ys)(hlen:(xs.length+ys.length)*bytes<=140737488355328)(h63:xs.length+ys.length<=9223372036854775807)(hbase:base<=w.heap.size)
(h:∀v' w',Hid (O8a f s e w' base v' (xs++ys))->Hid (Below base w w')->wpList P ops Q rest (a.put o.dst v') w') :
  wpList P ops Q (o::rest) a w:=by
 obtain⟨i0,hi0,hz0,hz1,hz2⟩:=info_parts hi;have hl:=hr.len;rcases A with _ | ad
 ·have hc:=hr.bare rfl;have hft:=hr.fit;have hm:m=0:=by omega
  subst hm;subst hc;have:ys=[]:=List.eq_nil_of_length_eq_zero hl;subst this;refine wpList_append_own_none hgd l x T ho base e i0 s ht hi0 v xs.length _ hs hown hx ?_;exact h v w (by rw[List.append_nil];exact hown) (Below.refl _ _)
 ·refine wpList_append_own w hgd l x T ho base e i0 z s bytes ht hi0 hz0 hz1 hz2 hzc hs0 v xs.length _ hs hown ad m c (ys.flatMap f) hx (by rw[p9a hfl,hl]) ?_
   (by intro v hv;obtain⟨x,_,hx⟩:=List.mem_flatMap.1 hv;exact hf x v hx) (by unfold maxLen;omega) (by rw[<-hl];exact hlen) hbase ?_
  ·intro j u hj;have hjl:j<(ys.flatMap f).length:=(List.getElem?_eq_some_iff.1 hj).1;rw[p9a hfl] at hjl;have hm0:0<m:=by
    rcases Nat.eq_zero_or_pos m with h0 | h0
    ·rw[hl,h0,Nat.zero_mul] at hjl;omega
    ·exact h0
   obtain⟨b,off,he,_,hcl⟩:=hr.cells hm0;injection he with he
   subst he;have e:(⟨b,off,none⟩:Addr).add j=⟨b,off+j,none⟩:=by
    by_cases hj0:j=0
    ·subst hj0;simp[Addr.add]
    ·simp[Addr.add,hj0]
   rw[e];rw[i7a hs0 hfl,Option.bind_eq_some_iff] at hj;obtain⟨y,hy,hu⟩:=hj;have:=hcl _ y hy _ u hu
   rwa [Nat.mul_comm,Nat.div_add_mod] at this
  ·intro v' w' hown' hgr _;refine h v' w' ?_ ((Below.refl _ _).grown hgr hbase (λk hk=>(World.ownsRow.lt hown k hk).1));show World.ownsRow _ _ _ _ _ _ _
   rw[List.length_append,List.flatMap_append,hl];exact hown'
end
structure m2a where
 op:Int
 at_:Int
 n:Int
 md:Int
def m2a.tup(l:m2a):Int×Int×Int×Int:=(l.op,l.at_,l.n,l.md)
theorem m2a.tup_inj{a b:m2a}:a.tup=b.tup↔a=b:=by cases a;cases b;simp[m2a.tup]
instance:DecidableEq m2a:=λ_ _=>decidable_of_iff _ m2a.tup_inj
structure m2a.ok (l:m2a):Prop where
 op:-9223372036854775808<=l.op/\l.op<=9223372036854775807
 at_:0<=l.at_/\l.at_<=18446744073709551615
 n:0<=l.n/\l.n<=18446744073709551615
 md:0<=l.md/\l.md<=65535
def P0a(l:m2a):List Value:=[.int .i64 l.op,.int .u64 l.at_,.int .u64 l.n,.int .u16 l.md]
theorem u4a(l:m2a):(P0a l).length=4:=rfl
theorem F7a(l:m2a):∀u∈P0a l,u.oneCell'=true:=by intro u hu;simp only[P0a,List.mem_cons,List.not_mem_nil,or_false] at hu;rcases hu with rfl | rfl | rfl | rfl<;>rfl
structure s1a where
 name:ByteArray
 kind:Int
 size:Int
def s1a.tup(l:s1a):ByteArray×Int×Int:=(l.name,l.kind,l.size)
theorem s1a.tup_inj{a b:s1a}:a.tup=b.tup↔a=b:=by cases a;cases b;simp[s1a.tup]
instance:DecidableEq s1a:=λ_ _=>decidable_of_iff _ s1a.tup_inj
structure s1a.ok (l:s1a):Prop where
 kind:0<=l.kind/\l.kind<=255
 size:-9223372036854775808<=l.size/\l.size<=9223372036854775807
def J0a(l:s1a):List Value:=[.string l.name,.int .u8 l.kind,.int .i64 l.size]
theorem Y3a(l:s1a):(J0a l).length=3:=rfl
theorem W6a(l:s1a):∀u∈J0a l,u.oneCell'=true:=by intro u hu;simp only[J0a,List.mem_cons,List.not_mem_nil,or_false] at hu;rcases hu with rfl | rfl | rfl<;>rfl
structure m1a where
 dial:List Int
 guid:List Int
 proof:List Int
 user:ByteArray
 share:ByteArray
 acc:Int
 shr:Int
 way:Int
 opt:Int
 lev:Int
 dur:Int
 file:Int
 name:ByteArray
 at_:Int
 n:Int
 data:List Int
 locks:List m2a
 most:Int
 pat:ByteArray
 aft:ByteArray
 cls:Int
 siz:Int
 on:Bool
def m1a.tup(a:m1a):List (List Int)×List ByteArray×List Int×List m2a×Bool:=([a.dial,a.guid,a.proof,a.data],[a.user,a.share,a.name,a.pat,a.aft],[a.acc,a.shr,a.way,a.opt,a.lev,a.dur,a.file,a.at_,a.n,a.most,a.cls,a.siz],a.locks,a.on)
theorem m1a.tup_inj{a b:m1a}:a.tup=b.tup↔a=b:=by
 constructor
 ·obtain⟨a1,a2,a3,a4,a5,a6,a7,a8,a9,a10,a11,a12,a13,a14,a15,a16,a17,a18,a19,a20,a21,a22,a23⟩:=a;obtain⟨b1,b2,b3,b4,b5,b6,b7,b8,b9,b10,b11,b12,b13,b14,b15,b16,b17,b18,b19,b20,b21,b22,b23⟩:=b;intro h;simp only[m1a.tup,Prod.mk.injEq,List.cons.injEq,and_true] at h;obtain⟨⟨h1,h2,h3,h16⟩,⟨h4,h5,h13,h19,h20⟩,⟨h6,h7,h8,h9,h10,h11,h12,h14,h15,h18,h21,h22⟩,h17,h23⟩:=h;subst h1 h2 h3 h4 h5 h6 h7 h8 h9 h10 h11 h12 h13 h14 h15 h16 h17 h18 h19 h20 h21 h22 h23;rfl
 ·rintro rfl;rfl
instance:DecidableEq m1a:=λ_ _=>decidable_of_iff _ m1a.tup_inj
structure m1a.ok (a:m1a):Prop where
 dial:∀x∈a.dial,0<=x/\x<=65535
 glen:a.guid.length=16
 gbyte:Bytes a.guid
 plen:a.proof.length=32
 pbyte:Bytes a.proof
 acc:0<=a.acc/\a.acc<=4294967295
 shr:0<=a.shr/\a.shr<=4294967295
 way:0<=a.way/\a.way<=4294967295
 opt:0<=a.opt/\a.opt<=4294967295
 lev:0<=a.lev/\a.lev<=255
 dur:0<=a.dur/\a.dur<=255
 file:0<=a.file/\a.file<=18446744073709551615
 at_:0<=a.at_/\a.at_<=18446744073709551615
 n:0<=a.n/\a.n<=4294967295
 data:Bytes a.data
 locks:∀l∈a.locks,l.ok
 most:0<=a.most/\a.most<=65535
 cls:0<=a.cls/\a.cls<=65535
 siz:0<=a.siz/\a.siz<=18446744073709551615
def k0a:m1a:=⟨[],List.replicate 16 0,List.replicate 32 0,.empty,.empty,0,0,0,0,0,0,0,.empty,0,0,[],[],0,.empty,.empty,0,0,false⟩
theorem f0a:k0a.ok:=⟨(λx h=>by cases h),rfl,Bytes.zeros 16,rfl,Bytes.zeros 32,by decide,by decide,by decide,by decide,by decide,by decide,by decide,by decide,by decide,Bytes.nil,(λl h=>by cases h),by decide,by decide,by decide⟩
def G7a(vx vl:Value)(a:m1a):List Value:=[.string a.user,.string a.share,.int .u32 a.acc,.int .u32 a.shr,.int .u32 a.way,.int .u32 a.opt,.int .u8 a.lev,.int .u8 a.dur,.int .u64 a.file,.string a.name,.int .u64 a.at_,.int .u32 a.n,vx,vl,
 .int .u16 a.most,.string a.pat,.string a.aft,.int .u16 a.cls,.int .u64 a.siz,.bool a.on]
def l0a(vd vx vl:Value)(a:m1a):List Value:=vd::(a.guid.map (Value.int .u8)++(a.proof.map (Value.int .u8)++G7a vx vl a))
def b1a(w:World)(B:Nat)(cs:List Value)(a:m1a):Prop:=∃Ad nd cd Ax nx cx Al nl cl,cs=l0a (.slice Ad nd cd) (.slice Ax nx cx) (.slice Al nl cl) a/\
 o1a (Value.int .u16) w B Ad nd cd a.dial/\Holds w B Ax nx cx a.data/\T0a P0a 4 w B Al nl cl a.locks
structure E1a where
 dia:Int
 siz:Int
 chal:List Int
 lev:Int
 dur:Int
 made:Int
 file:Int
 kind:Int
 data:List Int
 n:Int
 ents:List s1a
 more:Bool
 gone:Bool
def E1a.tup(a:E1a):(List Int×List Int)×(List Int×List s1a×Bool×Bool):=(([a.dia,a.siz,a.lev,a.dur,a.made,a.file,a.kind,a.n],a.chal),(a.data,a.ents,a.more,a.gone))
theorem E1a.tup_inj{a b:E1a}:a.tup=b.tup↔a=b:=by
 obtain⟨a1,a2,a3,a4,a5,a6,a7,a8,a9,a10,a11,a12,a13⟩:=a;obtain⟨b1,b2,b3,b4,b5,b6,b7,b8,b9,b10,b11,b12,b13⟩:=b;simp only[E1a.tup,Prod.mk.injEq,List.cons.injEq,E1a.mk.injEq,and_true];constructor
 ·rintro⟨⟨⟨h1,h2,h3,h4,h5,h6,h7,h8⟩,h9⟩,h10,h11,h12,h13⟩;exact⟨h1,h2,h9,h3,h4,h5,h6,h7,h10,h8,h11,h12,h13⟩
 ·rintro⟨h1,h2,h9,h3,h4,h5,h6,h7,h10,h8,h11,h12,h13⟩;exact⟨⟨⟨h1,h2,h3,h4,h5,h6,h7,h8⟩,h9⟩,h10,h11,h12,h13⟩
instance:DecidableEq E1a:=λ_ _=>decidable_of_iff _ E1a.tup_inj
structure E1a.ok (a:E1a):Prop where
 dia:0<=a.dia/\a.dia<=65535
 siz:0<=a.siz/\a.siz<=18446744073709551615
 clen:a.chal.length=8
 cbyte:Bytes a.chal
 lev:0<=a.lev/\a.lev<=255
 dur:0<=a.dur/\a.dur<=255
 made:0<=a.made/\a.made<=65535
 file:0<=a.file/\a.file<=18446744073709551615
 kind:0<=a.kind/\a.kind<=255
 data:Bytes a.data
 n:0<=a.n/\a.n<=4294967295
 ents:∀l∈a.ents,l.ok
def w0a:E1a:=⟨0,0,List.replicate 8 0,0,0,0,0,0,[],0,[],false,false⟩
theorem C0a:w0a.ok:=⟨by decide,by decide,rfl,Bytes.zeros 8,by decide,by decide,by decide,by decide,by decide,Bytes.nil,by decide,(λl h=>by cases h)⟩
def f0b(vx ve:Value)(a:E1a):List Value:=[.int .u8 a.lev,.int .u8 a.dur,.int .u16 a.made,.int .u64 a.file,.int .u8 a.kind,vx,.int .u32 a.n,ve,.bool a.more,.bool a.gone]
def s0a(vx ve:Value)(a:E1a):List Value:=.int .u16 a.dia::.int .u64 a.siz::(a.chal.map (Value.int .u8)++f0b vx ve a)
def f1a(w:World)(B:Nat)(cs:List Value)(a:E1a):Prop:=∃Ax nx cx Ae ne ce,cs=s0a (.slice Ax nx cx) (.slice Ae ne ce) a/\Holds w B Ax nx cx a.data/\T0a J0a 3 w B Ae ne ce a.ents
section
variable {w w':World} {B B' g:Nat} {T:TypeId} {cs:List Value} {a:m1a} {s:E1a} {vd vx vl ve:Value}
theorem b1a.keep(h:b1a w B cs a)(hk:∀p:Addr,p.block<B->w'.cell? p=w.cell? p):b1a w' B cs a:=by obtain⟨Ad,nd,cd,Ax,nx,cx,Al,nl,cl,e,h1,h2,h3⟩:=h;exact⟨Ad,nd,cd,Ax,nx,cx,Al,nl,cl,e,h1.keep hk,h2.keep hk,h3.keep hk⟩
theorem b1a.mono(h:b1a w B cs a)(hB:B<=B'):b1a w B' cs a:=by obtain⟨Ad,nd,cd,Ax,nx,cx,Al,nl,cl,e,h1,h2,h3⟩:=h;exact⟨Ad,nd,cd,Ax,nx,cx,Al,nl,cl,e,h1.mono hB,h2.mono hB,h3.mono hB⟩
theorem b1a.below(h:b1a w B cs a)(hb:Below B w w'):b1a w' B cs a:=h.keep λ_ hp=>hb.cell hp
theorem b1a.over(h:b1a w w.heap.size cs a)(hb:Below w.heap.size w w'):b1a w' w'.heap.size cs a:=(h.below hb).mono hb.size
theorem b1a.drewN(h:b1a w B cs a)(k:Nat):b1a (w.drewN k) B cs a:=h.keep λ_ _=>rfl
theorem b1a.drew(h:b1a w B cs a):b1a w.drew B cs a:=h.keep λ_ _=>rfl
theorem f1a.keep(h:f1a w B cs s)(hk:∀p:Addr,p.block<B->w'.cell? p=w.cell? p):f1a w' B cs s:=by obtain⟨Ax,nx,cx,Al,nl,cl,e,h2,h3⟩:=h;exact⟨Ax,nx,cx,Al,nl,cl,e,h2.keep hk,h3.keep hk⟩
theorem f1a.mono(h:f1a w B cs s)(hB:B<=B'):f1a w B' cs s:=by obtain⟨Ax,nx,cx,Al,nl,cl,e,h2,h3⟩:=h;exact⟨Ax,nx,cx,Al,nl,cl,e,h2.mono hB,h3.mono hB⟩
theorem f1a.below(h:f1a w B cs s)(hb:Below B w w'):f1a w' B cs s:=h.keep λ_ hp=>hb.cell hp
theorem f1a.over(h:f1a w w.heap.size cs s)(hb:Below w.heap.size w w'):f1a w' w'.heap.size cs s:=(h.below hb).mono hb.size
theorem f1a.drewN(h:f1a w B cs s)(k:Nat):f1a (w.drewN k) B cs s:=h.keep λ_ _=>rfl
theorem f1a.drew(h:f1a w B cs s):f1a w.drew B cs s:=h.keep λ_ _=>rfl
theorem h1a(k:a.ok):(l0a vd vx vl a).length=69:=by simp[l0a,G7a,k.glen,k.plen]
theorem C1a(k:s.ok):(s0a vx ve s).length=20:=by simp[s0a,f0b,k.clen]
theorem v4a{xs:List Int}{k:IntKind}{v:Value}(h:v∈xs.map (Value.int k)):v.oneCell'=true:=by obtain⟨x,_,rfl⟩:=List.mem_map.1 h;rfl
theorem D1a(hd:vd.oneCell'=true)(hx:vx.oneCell'=true)(hl:vl.oneCell'=true):∀v∈l0a vd vx vl a,v.oneCell'=true:=by
 intro v hv;simp only[l0a,List.mem_cons,List.mem_append] at hv;rcases hv with rfl | hv | hv | hv
 ·exact hd
 ·exact v4a hv
 ·exact v4a hv
 ·simp only[G7a,List.mem_cons,List.not_mem_nil,or_false] at hv;rcases hv with rfl | rfl | rfl | rfl | rfl | rfl | rfl | rfl | rfl | rfl | rfl | rfl | rfl | rfl | rfl | rfl | rfl | rfl | rfl | rfl<;>first | rfl | assumption
theorem u2a(hx:vx.oneCell'=true)(hl:ve.oneCell'=true):∀v∈s0a vx ve s,v.oneCell'=true:=by
 intro v hv;simp only[s0a,List.mem_cons,List.mem_append] at hv;rcases hv with rfl | rfl | hv | hv
 ·rfl
 ·rfl
 ·exact v4a hv
 ·simp only[f0b,List.mem_cons,List.not_mem_nil,or_false] at hv;rcases hv with rfl | rfl | rfl | rfl | rfl | rfl | rfl | rfl | rfl | rfl<;>first | rfl | assumption
theorem b1a.one(h:b1a w B cs a):∀v∈cs,v.oneCell'=true:=by obtain⟨_,_,_,_,_,_,_,_,_,rfl,_⟩:=h;exact D1a rfl rfl rfl
theorem b1a.len(h:b1a w B cs a)(k:a.ok):cs.length=69:=by obtain⟨_,_,_,_,_,_,_,_,_,rfl,_⟩:=h;exact h1a k
theorem f1a.one(h:f1a w B cs s):∀v∈cs,v.oneCell'=true:=by obtain⟨_,_,_,_,_,_,rfl,_⟩:=h;exact u2a rfl rfl
theorem f1a.len(h:f1a w B cs s)(k:s.ok):cs.length=20:=by obtain⟨_,_,_,_,_,_,rfl,_⟩:=h;exact C1a k
theorem j0a(k:a.ok)(i:Nat):(l0a vd vx vl a)[49+i]? = (G7a vx vl a)[i]?:=by
 unfold l0a;rw[show 49+i=(48+i)+1 from by omega,List.getElem?_cons_succ,List.getElem?_append_right (by rw[List.length_map,k.glen];omega),List.length_map,k.glen,List.getElem?_append_right (by rw[List.length_map,k.plen];omega),List.length_map,k.plen]
 congr 1
 omega
theorem H6a(k:a.ok)(i:Nat)(u:Value):(l0a vd vx vl a).set (49+i) u=vd::(a.guid.map (Value.int .u8)++(a.proof.map (Value.int .u8)++(G7a vx vl a).set i u)):=by
 unfold l0a;rw[show 49+i=(48+i)+1 from by omega,List.set_cons_succ,List.set_append_right _ _ (by rw[List.length_map,k.glen];omega),List.length_map,k.glen,List.set_append_right _ _ (by rw[List.length_map,k.plen];omega),List.length_map,k.plen]
 congr 4
 omega
theorem z0a(k:s.ok)(i:Nat):(s0a vx ve s)[10+i]? = (f0b vx ve s)[i]?:=by
 unfold s0a;rw[show 10+i=(8+i)+1+1 from by omega,List.getElem?_cons_succ,List.getElem?_cons_succ,List.getElem?_append_right (by rw[List.length_map,k.clen];omega),List.length_map,k.clen]
 congr 1
 omega
theorem Blk.at(h:Blk w g T cs){i:Nat}{v:Value}(e:cs[i]? = some v):w.cell? ⟨g,i,none⟩=some v:=(h.cell i).trans e
end
theorem n0a:(Tryz.prog.info? 34).map (·.size)=some 69:=by kernel_rfl
theorem G5a:(Tryz.prog.info? 34).map (λi=>(i.zero,i.size))=some (some (.agg (l0a (.slice none 0 0) (.slice none 0 0) (.slice none 0 0) k0a).toArray),69):=by kernel_rfl
theorem q9a:Tryz.prog.built 34 []=some (l0a (.slice none 0 0) (.slice none 0 0) (.slice none 0 0) k0a).toArray:=by kernel_rfl
theorem v0a:(Tryz.prog.info? 39).map (·.size)=some 20:=by kernel_rfl
theorem I6a:(Tryz.prog.info? 39).map (λi=>(i.zero,i.size))=some (some (.agg (s0a (.slice none 0 0) (.slice none 0 0) w0a).toArray),20):=by kernel_rfl
theorem G1b:Tryz.prog.built 39 []=some (s0a (.slice none 0 0) (.slice none 0 0) w0a).toArray:=by kernel_rfl
theorem j2a(w:World)(B:Nat):b1a w B (l0a (.slice none 0 0) (.slice none 0 0) (.slice none 0 0) k0a) k0a:=⟨none,0,0,none,0,0,none,0,0,rfl,o1a.nil _ w B,Holds.nil w B,T0a.nil _ _ w B⟩
theorem R2a(w:World)(B:Nat):f1a w B (s0a (.slice none 0 0) (.slice none 0 0) w0a) w0a:=⟨none,0,0,none,0,0,rfl,Holds.nil w B,T0a.nil _ _ w B⟩
section
variable {P:Program} {ops:Array Oper} {md:Region.Mode} {S:World->Prop} {Q:Exit->Act->World->Prop}
theorem r0a(i:Nat)(oi:Oper){fuel:Nat}{listed:Array Bool}{a:Act}{w:World}(hr:Region.ready md ops listed=[i])(hi:ops[i]? = some oi)
(h:∀K:Act->World->Prop,(∀a' w',S w'->wpAnyH P md ops Q S fuel (listed.setIfInBounds i true) a' w'->K a' w')->if Region.wanted oi (yielded ops a.tmps)=true then oi.wp P a w K Q else K (a.put oi.dst undef) w):wpAnyH P md ops Q S (fuel+1) listed a w:=by
 refine wpAnyH_all hr (by simp) λj hj=>?_
 obtain rfl:j=i:=by simpa using hj
 have h1:=h (λa' w'=>S w'/\wpAnyH P md ops Q S fuel (listed.setIfInBounds j true) a' w') λ_ _ h2 h3=>⟨h2,h3⟩
 unfold wpOp;simp only[hi];by_cases hw:Region.wanted oi (yielded ops a.tmps)=true
 ·rw[if_pos hw] at h1⊢;exact .inl h1
 ·rw[if_neg hw] at h1⊢;exact h1
end
section
theorem Z1a{P:Program}{T e:TypeId}{n:Nat}{k:IntKind}(hu:P.underlying T=some (.array n e))(he:P.underlying e=some (.int k))(hs:(P.info? e).map (·.size)=some 1)(xs ys:List Int)(hl:xs.length=n)(hm:ys.length=n)(d:Nat)(w:World) :
  (Op.equalIn (d+2) T (.agg (xs.map (Value.int k)).toArray) (.agg (ys.map (Value.int k)).toArray)).run P w=.ok (decide (xs=ys)) w:=by
 obtain⟨j,hj,hj1⟩:∃j,P.info? e=some j/\j.size=1:=by
  cases hq:P.info? e with
  | none=>simp[hq] at hs
  | some j=>exact⟨j,rfl,by simpa[hq] using hs⟩
 have hc:P.cellsOf e=1:=by unfold Program.cellsOf;rw[hj];simpa using hj1
 rw[show d+2=(d+1)+1 from rfl,run_equalIn_array w (d+1) _ _ hu hj,hc];have key:∀is:List Nat,(∀i∈is,i<n)->(Op.eqItems (d+1) e 1 (xs.map (Value.int k)).toArray (ys.map (Value.int k)).toArray is).run P w=.ok (is.all λi=>xs.getD i 0==ys.getD i 0) w:=by
  intro is
  induction is with
  | nil=>intro _;simp[Op.eqItems]
  | cons i is ih=>
   intro hi;have hil:i<n:=hi i List.mem_cons_self;have hx:i<xs.length:=by omega
   have hy:i<ys.length:=by omega
   have hp:(part e (xs.map (Value.int k)).toArray (i*1)).run P w=.ok (.int k xs[i]) w:=by simp[part,isAgg,run_underlying he,hx]
   have hp2:(part e (ys.map (Value.int k)).toArray (i*1)).run P w=.ok (.int k ys[i]) w:=by simp[part,isAgg,run_underlying he,hy]
   simp only[Op.eqItems,Sem.run_bind,hp,hp2,Result.andThen_ok,run_equalIn_int w d e k k _ _ he];have e1:xs.getD i 0=xs[i]:=by simp[List.getD_eq_getElem?_getD,hx]
   have e2:ys.getD i 0=ys[i]:=by simp[List.getD_eq_getElem?_getD,hy]
   rw[List.all_cons,e1,e2];by_cases hq:xs[i]=ys[i]
   ·rw[hq];simp only[beq_self_eq_true,Bool.not_true,Bool.false_eq_true,if_false,Bool.true_and];exact ih λi h=>hi i (List.mem_cons_of_mem _ h)
   ·have hb:(xs[i]==ys[i])=false:=by simpa using hq
    simp[hb]
 rw[key _ λi h=>List.mem_range.1 h]
 congr 1
 by_cases hq:xs=ys
 ·subst hq;simp
 ·rw[decide_eq_false hq,List.all_eq_false];have hne:¬∀i,i<n->xs.getD i 0=ys.getD i 0:=λhall=>hq (by apply List.ext_getElem (by omega);intro i h1 h2;have:=hall i (by omega);simpa[List.getD_eq_getElem?_getD,h1,h2] using this)
  obtain⟨i,hi⟩:=Classical.not_forall.1 hne;obtain⟨hi1,hi2⟩:=Classical.not_imp.1 hi;exact⟨i,List.mem_range.2 hi1,by simpa using hi2⟩
def r4a(d:Nat)(xs ys:Array Value):List (Bool×TypeId×Nat)->Sem Bool
 | []=>pure true
 | (u,t,o)::r=>
  if u=true then r4a d xs ys r else do
   let a <-part t xs o
   let b <-part t ys o
   let q <-Op.equalIn d t a b
   if (!q)=true then pure false else r4a d xs ys r
theorem w4a(d:Nat)(xs ys:Array Value)(l:List Field):Op.eqFields d xs ys l=r4a d xs ys (l.map λf=>(decide (f.name = "_"),f.type,f.offset)):=by
 induction l with
 | nil=>rfl
 | cons f l ih=>
  simp only[Op.eqFields,List.map_cons,r4a,ih];by_cases h:f.name = "_"
  ·simp[h]
  ·simp[h]
section
variable {P:Program} {w:World} {d:Nat} {xs ys:Array Value} {r:List (Bool×TypeId×Nat)} {q:Bool}
theorem Q1a(t:TypeId)(k:IntKind)(o:Nat)(x y:Int)(ht:P.underlying t=some (.int k))(hx:xs[o]? = some (.int k x))(hy:ys[o]? = some (.int k y))(hr:(r4a (d+1) xs ys r).run P w=.ok q w) :
  (r4a (d+1) xs ys ((false,t,o)::r)).run P w=.ok (x==y&&q) w:=by
 have p1:(part t xs o).run P w=.ok (.int k x) w:=by simp[part,isAgg,run_underlying ht,hx]
 have p2:(part t ys o).run P w=.ok (.int k y) w:=by simp[part,isAgg,run_underlying ht,hy]
 simp only[r4a,Bool.false_eq_true,if_false,Sem.run_bind,p1,p2,Result.andThen_ok,run_equalIn_int w d t k k _ _ ht];by_cases h:x=y
 ·subst h;simpa using hr
 ·have hb:(x==y)=false:=by simpa using h
  simp[hb]
theorem P3b(t e:TypeId)(n:Nat)(k:IntKind)(o:Nat)(us vs:List Int)(ht:P.underlying t=some (.array n e))(he:P.underlying e=some (.int k))(hs:(P.info? e).map (·.size)=some 1)(hz:(P.info? t).map (·.size)=some n)
(hx:xs.extract o (o+n)=(us.map (Value.int k)).toArray)(hy:ys.extract o (o+n)=(vs.map (Value.int k)).toArray)(ha:us.length=n)(hb:vs.length=n) :
  (r4a (d+2) xs ys [(false,t,o)]).run P w=.ok (decide (us=vs)) w:=by
 obtain⟨j,hj,hj1⟩:∃j,P.info? t=some j/\j.size=n:=by
  cases hq:P.info? t with
  | none=>simp[hq] at hz
  | some j=>exact⟨j,rfl,by simpa[hq] using hz⟩
 have p1:(part t xs o).run P w=.ok (.agg (us.map (Value.int k)).toArray) w:=by simp[part,isAgg,run_underlying ht,sizeOf,typeInfo,hj,hj1,hx]
 have p2:(part t ys o).run P w=.ok (.agg (vs.map (Value.int k)).toArray) w:=by simp[part,isAgg,run_underlying ht,sizeOf,typeInfo,hj,hj1,hy]
 simp only[r4a,Bool.false_eq_true,if_false,Sem.run_bind,p1,p2,Result.andThen_ok,Z1a ht he hs us vs ha hb d w];by_cases h:us=vs
 ·simp[h]
 ·simp[h]
end
theorem V4b:(Tryz.prog.fieldsOf 28).toList.map (λf=>(decide (f.name = "_"),f.type,f.offset)) =
  [(false,22,0),(false,23,1),(false,24,2),(false,22,3),(false,23,4),(false,23,5),(false,25,6),(false,25,7),(false,23,8),(false,25,9),(false,26,10)]:=by kernel_rfl
theorem X6a(a b:Hd)(ka:a.ok)(kb:b.ok)(w:World):(Op.equalIn 10000 28 (.agg (q0a a).toArray) (.agg (q0a b).toArray)).run Tryz.prog w=.ok (decide (a=b)) w:=by
 rw[show(10000:Nat)=9999+1 from rfl,run_equalIn_struct w 9999 28 _ _ Tryz.underlying28 (by kernel_rfl),w4a,V4b];have ea:(q0a a).toArray.extract 10 (10+16)=(a.sg.map (Value.int .u8)).toArray:=by
  have hl:(a.sg.map (Value.int .u8)).length=16:=by rw[List.length_map];exact ka.len
  rw[List.extract_toArray]
  congr 1
  show(((a.sg.map (Value.int .u8))).take 16)=_
  exact List.take_of_length_le (by omega)
 have eb:(q0a b).toArray.extract 10 (10+16)=(b.sg.map (Value.int .u8)).toArray:=by
  have hl:(b.sg.map (Value.int .u8)).length=16:=by rw[List.length_map];exact kb.len
  rw[List.extract_toArray]
  congr 1
  show(((b.sg.map (Value.int .u8))).take 16)=_
  exact List.take_of_length_le (by omega)
 have h:=Q1a (P:=Tryz.prog) (w:=w) (d:=9998) 22 .u16 0 a.ch b.ch Tryz.underlying22 rfl rfl
  (Q1a 23 .u32 1 a.st b.st Tryz.underlying23 rfl rfl
  (Q1a 24 .u16 2 a.cm b.cm Tryz.underlying24 rfl rfl
  (Q1a 22 .u16 3 a.cr b.cr Tryz.underlying22 rfl rfl
  (Q1a 23 .u32 4 a.fl b.fl Tryz.underlying23 rfl rfl
  (Q1a 23 .u32 5 a.nx b.nx Tryz.underlying23 rfl rfl
  (Q1a 25 .u64 6 a.id b.id Tryz.underlying25 rfl rfl
  (Q1a 25 .u64 7 a.asy b.asy Tryz.underlying25 rfl rfl
  (Q1a 23 .u32 8 a.tr b.tr Tryz.underlying23 rfl rfl
  (Q1a 25 .u64 9 a.se b.se Tryz.underlying25 rfl rfl
  (P3b (xs:=(q0a a).toArray) (ys:=(q0a b).toArray) 26 5 16 .u8 10 a.sg b.sg Tryz.underlying26 Tryz.underlying5 (by kernel_rfl) (by kernel_rfl) ea eb ka.len kb.len))))))))))
 refine h.trans ?_
 congr 1
 obtain⟨a0,a1,a2,a3,a4,a5,a6,a7,a8,a9,us⟩:=a;obtain⟨b0,b1,b2,b3,b4,b5,b6,b7,b8,b9,vs⟩:=b;rw[Bool.eq_iff_iff];simp
section
variable {P:Program} {ops:Array Oper} {S:World->Prop}
theorem i0a{op:Oper}{a:Act}(hw:Region.wanted op (yielded ops a.tmps)=true)(T:TypeId)(x:Operand)(ho:op.op=.load T x)(g i:Nat)(hx:a.eval x=.pointer (some ⟨g,i,none⟩))(v:Value)
(hS:∀w,S w->w.cell? ⟨g,i,none⟩=some v)(d:TypeDesc)(hu:P.underlying T=some d)(hd:(match d with | .struct _ | .array _ _=>true | _=>false)=false):YieldsIf P ops S op v a:=
 .inl ⟨hw,λw hw'=>by
  have hc:=hS w hw';have hagg:(isAgg T).run P w=.ok false w:=by unfold isAgg;rw[Sem.run_bind,run_underlying hu w];cases d<;>simp_all
  unfold execOp;simp[ho,hx,Instr.loadAt,Instr.sureAddr,Sem.run_bind,Result.andThen_ok,loadVar,hagg,hc]⟩
theorem X0a{op:Oper}{a:Act}(hw:Region.wanted op (yielded ops a.tmps)=true)(T:TypeId)(parts:Array (Nat×Operand))(ho:op.op=.build T parts)(cs:List Value)
(hf:P.built T (parts.map fun (i,x)=>(i,a.eval x)).toList=some cs.toArray):YieldsIf P ops S op (.agg cs.toArray) a:=
 .inl ⟨hw,λw _=>by unfold execOp;simp only[ho,Sem.run_bind,run_build w T _ _ hf,Result.andThen_ok];rfl⟩
theorem x1a{op:Oper}{a:Act}(hw:Region.wanted op (yielded ops a.tmps)=true)(x:Operand)(ho:op.op=.nilCheck x)(ad:Addr)(hx:a.eval x=.pointer (some ad)):YieldsIf P ops S op (.pointer (some ad)) a:=
 .inl ⟨hw,λw _=>by unfold execOp;simp[ho,hx]⟩
theorem t0a{op:Oper}{a:Act}(hw:Region.wanted op (yielded ops a.tmps)=true)(x:Operand)(ho:op.op=.move x)(v:Value)(hx:a.eval x=v):YieldsIf P ops S op v a:=
 .inl ⟨hw,λw _=>by unfold execOp;simp[ho,hx]⟩
theorem j6a{op:Oper}{a:Act}(hw:Region.wanted op (yielded ops a.tmps)=true)(x:Operand)(ho:op.op=.assign x)(v:Value)(hx:a.eval x=v):YieldsIf P ops S op v a:=
 .inl ⟨hw,λw _=>by unfold execOp;simp[ho,hx]⟩
theorem y0a{md:Region.Mode}{Q:Exit->Act->World->Prop}{fuel:Nat}{listed:Array Bool}{a:Act}{w:World}(h:∀a',a'=a->wpAnyH P md ops Q S fuel listed a' w):wpAnyH P md ops Q S fuel listed a w:=h a rfl
theorem K2a{op:Oper}{a:Act}(hw:Region.wanted op (yielded ops a.tmps)=true)(fn:Fn)(xs ys:Array Operand)(ho:op.op=.makeFunc fn xs ys)(us vs:Array Value)(hx:xs.map a.eval=us)(hy:ys.map a.eval=vs)
(hf:∀w,(Instr.makeFunc fn us vs).run P w=.ok (.func fn us vs) w):YieldsIf P ops S op (.func fn us vs) a:=
 .inl ⟨hw,λw _=>by unfold execOp;simp only[ho,hx,hy,Sem.run_bind,hf,Result.andThen_ok];rfl⟩
theorem g0a{op:Oper}{a:Act}(hw:Region.wanted op (yielded ops a.tmps)=true)(T:TypeId)(x:Operand)(i:Nat)(ho:op.op=.fieldAddr T x i)(u v:Value)(hx:a.eval x=u)(hf:∀w,(Instr.fieldAt T u i).run P w=.ok v w):YieldsIf P ops S op v a:=
 .inl ⟨hw,λw _=>by unfold execOp;simp only[ho,hx,Sem.run_bind,hf,Result.andThen_ok];rfl⟩
theorem g3a{op:Oper}{a:Act}(hw:Region.wanted op (yielded ops a.tmps)=true)(T T':TypeId)(x:Operand)(ho:op.op=.convert T T' x)(u v:Value)(hx:a.eval x=u)(hf:∀w,(convert T T' u).run P w=.ok v w):YieldsIf P ops S op v a:=
 .inl ⟨hw,λw _=>by unfold execOp;simp only[ho,hx,Sem.run_bind,hf,Result.andThen_ok];rfl⟩
theorem T1a{op:Oper}{a:Act}(hw:Region.wanted op (yielded ops a.tmps)=true)(T:TypeId)(x:Operand)(ho:op.op=.load T x)(g:Nat)(hx:a.eval x=.pointer (some ⟨g,0,none⟩))(T':TypeId)(cs:List Value)
(hS:∀w,S w->Blk w g T' cs)(n:Nat)(d:TypeDesc)(hu:P.underlying T=some d)(hd:(match d with | .struct _ | .array _ _=>true | _=>false)=true)(hi:(P.info? T).map (·.size)=some n)(hn:Hid (cs.length=n)):YieldsIf P ops S op (.agg cs.toArray) a:=
 .inl ⟨hw,λw hw'=>by have hr:=run_loadVar_row (P:=P) w g T' T cs.toArray (0,0) _ (hS w hw') hu hd (by rw[hi];have:=hn.out;simp[this]);unfold execOp;simp only[ho,hx,Instr.loadAt,Instr.sureAddr,Sem.run_bind,Sem.run_pure,Result.andThen_ok,hr]⟩
end
theorem r8a(g:Nat)(i:Nat)(hi:i<11)(w:World):(Instr.fieldAt 28 (.pointer (some ⟨g,0,none⟩)) i).run Tryz.prog w=.ok (.pointer (some ⟨g,i,none⟩)) w:=by revert hi;refine λhi=>T6a (p:=λi=>(Instr.fieldAt 28 (.pointer (some ⟨g,0,none⟩)) i).run Tryz.prog w=.ok (.pointer (some ⟨g,i,none⟩)) w) ?_ ?_ ?_ ?_ ?_ ?_ ?_ ?_ ?_ ?_ ?_ i hi<;>go_simp
theorem r3b(n:Int)(h0:0<=n)(h1:n<=65535)(w:World):(convert 22 25 (.int .u16 n)).run Tryz.prog w=.ok (.int .u64 n) w:=by
 have e:IntKind.u64.wrap n=n:=by rw[IntKind.wrap_u64];omega
 go_simp
theorem z6b(n:Int)(h0:0<=n)(h1:n<=65535)(w:World):(convert 24 25 (.int .u16 n)).run Tryz.prog w=.ok (.int .u64 n) w:=by
 have e:IntKind.u64.wrap n=n:=by rw[IntKind.wrap_u64];omega
 go_simp
theorem T0b(n:Int)(h0:0<=n)(h1:n<=4294967295)(w:World):(convert 23 25 (.int .u32 n)).run Tryz.prog w=.ok (.int .u64 n) w:=by
 have e:IntKind.u64.wrap n=n:=by rw[IntKind.wrap_u64];omega
 go_simp
end
end Go.Proofs.YtgfflnjggnadpaaGreatDoor
