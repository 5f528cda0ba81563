import Derived.Lib.AppendZeros
import Derived.Great.Walk
import Derived.Shelf.Utf8.AppendRunePlain
import Derived.Shelf.Unicode.ValidAny
import Derived.Deep.MidRow
import Derived.Deep.Strs
import Derived.Test.YtjpcifmeimcikaaGreatDoorSAB
import Derived.Test.YtjpcifmeimcikaaGreatDoorS0
set_option linter.all false
set_option maxHeartbeats 8000000
set_option maxRecDepth 100000
namespace Go.Proofs.YtjpcifmeimcikaaGreatDoor
open Go.Proofs.Tryz
open Go.RowKit
set_option maxRecDepth 100000
def v5a(X:Nat->List Int):Nat->List Int
 | 0=>[]
 | k+1=>v5a X k++X k
def x0b(n:Nat->Nat):Nat->Nat
 | 0=>0
 | k+1=>x0b n k+n k
theorem n4c(n:Nat->Nat){k m:Nat}(h:k<=m):x0b n k<=x0b n m:=by
 induction m with
 | zero=>
  obtain rfl:k=0:=by omega
  exact Nat.le_refl _
 | succ m ih=>
  by_cases he:k=m+1
  ·subst he;exact Nat.le_refl _
  ·have:=ih (by omega);simp only[x0b];omega
theorem Z7b{X:Nat->List Int}{n:Nat->Nat}{m:Nat}(h:∀i,i<m->(X i).length=n i){k:Nat}(hk:k<=m):(v5a X k).length=x0b n k:=by
 induction k with
 | zero=>rfl
 | succ k ih=>simp only[v5a,x0b,List.length_append,ih (by omega),h k (by omega)]
theorem O8b{X:Nat->List Int}{m:Nat}(h:∀i,i<m->Bytes (X i)){k:Nat}(hk:k<=m):Bytes (v5a X k):=by
 induction k with
 | zero=>exact Bytes.nil
 | succ k ih=>exact(ih (by omega)).append (h k (by omega))
structure W3a (w:World) (gs m:Nat) (A:Nat->Option Addr) (n c:Nat->Nat) (X:Nat->List Int):Prop where
 lt:gs<w.heap.size
 cell:∀i,i<m->w.cell? ⟨gs,i,none⟩=some (.slice (A i) (n i) (c i))
 holds:∀i,i<m->Holds w w.heap.size (A i) (n i) (c i) (X i)
theorem W3a.over{w w':World}{gs m:Nat}{A:Nat->Option Addr}{n c:Nat->Nat}{X:Nat->List Int}(h:W3a w gs m A n c X)(hb:BW w w'):W3a w' gs m A n c X:=⟨Nat.lt_of_lt_of_le h.lt hb.size,λi hi=>by rw[<-h.cell i hi];exact hb.cell (p:=⟨gs,i,none⟩) h.lt,λi hi=>(h.holds i hi).over hb⟩
theorem W3a.drewN{w:World}{gs m:Nat}{A:Nat->Option Addr}{n c:Nat->Nat}{X:Nat->List Int}(h:W3a w gs m A n c X)(d:Nat):W3a (w.drewN d) gs m A n c X:=h.over (x3a w d)
theorem q0c(w:World):Calls prog 38 #[.slice none 0 0,.int .i64 0] w λe w'=>e=.returned (.slice none 0 0)/\w=w':=by go_enter func38,ntmps38;go_wp2_with fail;go_ret;exact⟨rfl,rfl⟩
theorem X2a{w:World}{ops:Array Oper}{rest:List Oper}{o:Oper}{a:Act}{Q:Exit->Act->World->Prop}(hgd:o.guard=none)(s x:Operand)
(ho:o.op=.call { callee:=.builtin .append,args:=#[s,x],argTypes:=#[31,31] })
(base:Nat)(v:Value)(xs:List Int)(hs:a.eval s=v)(hown:b1a .u8 5 w base v xs)(B:Nat)(A:Option Addr)(m c:Nat)(ys:List Int)(hx:a.eval x=.slice A m c)
(hr:Holds w B A m c ys)(hlen:xs.length+ys.length<=140737488355328)(hbase:base<=w.heap.size)
(h:∀v' w',Hid (b1a .u8 5 w' base v' (xs++ys))->Below base w w'->wpList prog ops Q rest (a.put o.dst v') w') :
  wpList prog ops Q (o::rest) a w:=by
 obtain⟨i0,hi0,hz0,hz1,hz2⟩:=info_parts i3a;have hl:=hr.len;have hOK:=hown.own;rcases A with _ | ad
 ·have hc:=hr.bare rfl;have hf:=hr.fit;have hm:m=0:=by omega
  subst hm;subst hc;have:ys=[]:=List.eq_nil_of_length_eq_zero hl;subst this;refine wpList_append_own_none hgd s x 31 ho base 5 i0 1 underlying31 hi0 v xs.length _ hs hOK hx ?_;exact h v w (by rw[List.append_nil];exact hown) (Below.refl _ _)
 ·have hnews:∀j y,(ys.map (Value.int .u8))[j]? = some y->w.cell? (ad.add j)=some y:=by
   intro j u hj;have hjl:j<ys.length:=by
    by_cases hj':j<ys.length
    ·exact hj'
    ·rw[List.getElem?_eq_none (by simp;omega)] at hj;cases hj
   obtain⟨b,off,he,_,hcl⟩:=hr.cells (by omega);obtain rfl:=Option.some.inj he;have e:(⟨b,off,none⟩:Addr).add j=⟨b,off+j,none⟩:=by
    by_cases hj0:j=0
    ·subst hj0;simp[Addr.add]
    ·simp[Addr.add,hj0]
   rw[e,hcl j (by omega),<-hj];simp[hjl]
  have h1:∀y∈ys.map (Value.int .u8),y.oneCell'=true:=by intro v hv;obtain⟨x,_,rfl⟩:=List.mem_map.1 hv;rfl
  have hmax:maxLen=9223372036854775807:=rfl;have key:∀ty,∃v' w',(Builtin.append_ #[31,31] ty #[v,.slice (some ad) m c]).run prog w=.ok v' w'/\b1a .u8 5 w' base v' (xs++ys)/\w.grownBy w' v.ownBlock:=by
   intro ty;rcases hown with⟨rfl,rfl⟩ | ⟨g,z,rfl,hb,hz,hg⟩
   ·by_cases hm0:m=0
    ·subst hm0;have:ys=[]:=List.eq_nil_of_length_eq_zero hl;subst this;obtain⟨v',w',hrun,_,hgr,hnil⟩:=run_append_own (P:=prog) w base 31 ty 5 i0 (.int .u8 0) 1 1 underlying31 hi0 hz0 hz1 hz2 rfl (by omega) (.slice none 0 0) 0 [] (World.ownsRow_nil w base _ 1) ad 0 c [] rfl (λj u hj=>by cases hj) (λu hu=>by cases hu) (by omega) (by omega) hbase;obtain rfl:=hnil.2 ⟨rfl,rfl⟩;exact⟨_,_,hrun,b1a.nil _ _ _ _,hgr⟩
    ·have hrun:=run_append_nil (P:=prog) w 31 ty 5 i0 (.int .u8 0) underlying31 hi0 hz0 ad m c (ys.map (Value.int .u8)) (by simp[hl,hz1]) hnews (by omega) (by omega) (by rw[hz2];simp at hlen;omega);exact⟨_,_,hrun,by simpa using S5a .u8 5 w base ys 0 m hl hbase (by omega),⟨rfl,rfl,rfl,by simp,λj hj _=>Below.heap_alloc w.drew _ j hj⟩⟩
   ·by_cases hroom:xs.length+m<=xs.length+z
    ·have hrun:=run_append_room (P:=prog) w 31 ty 5 i0 underlying31 hi0 g xs.length (xs.length+z) _ hg ad m c (ys.map (Value.int .u8)) (by simp[hl,hz1]) hnews h1 hroom (by simp[hz1];omega);refine⟨_,_,hrun,.inr ⟨g,z-m,by simp[hl];omega,hb,by simp;omega,?_⟩,⟨rfl,rfl,rfl,by simp,λj _ hj=>setRow_other w g j _ (λe=>hj (by simp[Value.ownBlock,e]))⟩⟩;rw[setRow_heap w g _ _ 5 _ hg]
     congr 2
     have e1:((xs++List.replicate z 0).map (Value.int .u8)).take (xs.length*i0.size)=xs.map (Value.int .u8):=by rw[hz1,Nat.mul_one,List.map_append,List.take_left' (by simp)]
     have e2:((xs++List.replicate z 0).map (Value.int .u8)).drop (xs.length*i0.size+(ys.map (Value.int .u8)).length)=(List.replicate (z-m) 0).map (Value.int .u8):=by rw[hz1,Nat.mul_one,List.length_map,hl,<-List.drop_drop,List.map_append,List.drop_left' (by simp),<-List.map_drop,List.drop_replicate]
     rw[e1,e2];simp
    ·have m0a:∀j y,(xs.map (Value.int .u8))[j]? = some y->w.cell? ((⟨g,0,none⟩:Addr).add j)=some y:=hOK.cells (g:=g) rfl;have hrun:=run_append_grow (P:=prog) w 31 ty 5 i0 (.int .u8 0) underlying31 hi0 hz0 ⟨g,0,none⟩ xs.length (xs.length+z) (xs.map (Value.int .u8)) (by simp[hz1]) m0a ad m c (ys.map (Value.int .u8)) (by simp[hl,hz1]) hnews (by omega) (by omega) (growslice_fits (by omega) (by rw[hz2];omega));refine⟨_,_,hrun,?_,⟨rfl,rfl,rfl,by simp,λj hj _=>Below.heap_alloc w.drew _ j hj⟩⟩;have:=S5a .u8 5 w base (xs++ys) (xs.length+z) (xs.length+m) (by simp[hl]) hbase (by omega);simpa using this
  refine wpList_plain hgd λK hK'=>?_
  obtain⟨v',w',hrun,h2,h3⟩:=key o.type;unfold Oper.wp execOp;simp only[ho,resolve,invoke,builtin,Sem.run_bind,Sem.run_pure,Result.andThen_ok,List.map_toArray,List.map_cons,List.map_nil,hs,hx,hrun];exact hK' _ _ (h v' w' h2 ((Below.refl _ _).grown h3 hbase (λk hk=>(World.ownsRow.lt hOK k hk).1)))
theorem r0c(w:World)(n:Nat)(h0:0<n)(h1:n<=281474976710656) :
  Calls prog 38 #[.slice none 0 0,.int .i64 n] w λe w'=>∃v,e=.returned v/\b1a .u8 5 w' w.heap.size v []/\BW w w':=by
 obtain⟨i0,hi,hz0,hz1,hz2⟩:=info_parts i3a;have hrun:=λty=>Lib.run_append_nil_zeros (P:=prog) w 31 3 ty 5 i0 (.int .u8 0) .i64 .i64 underlying31 underlying3 hi hz0 n h0 (by omega) (by omega) (by rw[hz2];omega)
 have hge:=grownCap_ge w n 0 5;have hle:=grownCap_le_maxLen w n 0 5 (by rw[show maxLen=9223372036854775807 from rfl];omega);obtain⟨c,hc⟩:=xX (grownCap w n 0 5);rw[<-hc] at hrun hge hle;have hown:b1a .u8 5 (w.drew.alloc (.cells (Builtin.zeroCells (Value.int .u8 0).cells n++Builtin.zeroCells (Value.int .u8 0).cells (c-n)) 5)) w.heap.size (.slice (some ⟨w.heap.size,0,none⟩) 0 c) []:=by refine .inr ⟨w.heap.size,c,by simp,Nat.le_refl _,by simpa using hle,?_⟩;rw[K3a,K3a,List.append_toArray,List.replicate_append_replicate,show n+(c-n)=c by omega,List.nil_append,List.map_replicate];exact heap_alloc_new w.drew _
 have hbel:BW w (w.drew.alloc (.cells (Builtin.zeroCells (Value.int .u8 0).cells n++Builtin.zeroCells (Value.int .u8 0).cells (c-n)) 5)):=((Below.refl _ w).drew).alloc (Nat.le_refl _) _;obtain⟨w1,hw1⟩:=xX ((w.drew.alloc (.cells (Builtin.zeroCells (Value.int .u8 0).cells n++Builtin.zeroCells (Value.int .u8 0).cells (c-n)) 5)));rw[<-hw1] at hown hbel hrun;have HR:=hI hrun;have HO:=hI hown;have hcn:(n:Int)<=(c:Int):=by omega
 have hc63:c<=9223372036854775807:=hle;clear hrun hown hc hw1 hi hz0 hz1 hz2 hge hle;go_enter func38,ntmps38;go_wp2_with(first|(at_builtin;refine Lib.wpList_append_run _ rfl (.tmp 20) (.tmp 21) 31 3 rfl (.slice none 0 0) (.int .i64 n) rfl rfl _ w1 (HR.o _) ?_)|fail)
 go_ret;exact⟨_,rfl,HO.o,hbel⟩
theorem s0c(w:World)(n:Nat)(h1:n<=281474976710656) :
  Calls prog 38 #[.slice none 0 0,.int .i64 n] w λe w'=>∃v,e=.returned v/\b1a .u8 5 w' w.heap.size v []/\BW w w':=by
 by_cases h0:n=0
 ·subst h0;refine(q0c w).mono ?_;rintro e w' ⟨rfl,rfl⟩;exact⟨_,rfl,b1a.nil _ _ _ _,Below.refl _ _⟩
 ·exact r0c w n (by omega) h1
theorem L2a(w:World)(gs m:Nat)(A:Nat->Option Addr)(n c:Nat->Nat)(X:Nat->List Int)(hP:W3a w gs m A n c X)(hm:m<=1000)(hb:x0b n m<=140737488355328) :
  Calls prog 18 #[.slice (some ⟨gs,0,none⟩) m m] w λe w'=>∃v,e=.returned v/\b1a .u8 5 w' w.heap.size v (v5a X m)/\BW w w':=by
 have cg:=λw=>hI (s0c w (x0b n m) (by omega))
 have HBq:Hid (∀k,k<=m->x0b n k<=140737488355328):=λk hk=>by have:=n4c n hk;omega
 have HP:=hI hP;have HC:Hid (∀k,k<=m->(v5a X k).length=x0b n k):=λk hk=>Z7b (λi hi=>(hP.holds i hi).len) hk
 have hgs:=hP.lt;have hcell:=hP.cell;clear hP hb;go_enter func18,ntmps18;go_wp2_with fail;go_loop [3,11] (λsz i=>∃k:Nat,k<=m/\i=.int .i64 k/\sz=.int .i64 (x0b n k:Nat)) (λ_ i=>m-(intOf i).toNat)
 case atStart=>exact⟨0,by omega,rfl,rfl⟩
 case round=>
  obtain⟨k,hk,rfl,rfl⟩:=hrel;by_cases hlt:k<m
  ·have q0:=hcell k hlt;have hs1:=HBq.o (k+1) (by omega);have hs0:x0b n k<=140737488355328:=HBq.o k hk;have hnk:n k<=140737488355328:=by simp only[x0b] at hs1;omega
   obtain⟨s0,es0⟩:=xX (x0b n k);obtain⟨nk,enk⟩:=xX (n k);have es1:x0b n (k+1)=s0+nk:=by rw[es0,enk];rfl
   rw[<-es0] at hs0⊢;rw[<-enk] at hnk q0;have ES:=hI es1;clear es0 enk es1 hs1 hcell;go_wp2_with fail;go_round
   case rel=>exact⟨k+1,by omega,by go_num,by rw[ES.o];go_num⟩
   case measure=>simp[intOf];omega
  ·obtain rfl:k=m:=by omega
   clear hcell;go_wp2_with fail;refine(cg _).o.mono ?_;rintro e w1 ⟨v1,rfl,ho1,hbel1⟩;have HO1:=hI ho1;clear ho1;go_wp2_with fail;have hbs1:=hbel1.size;go_loopw [6,27] (λv i wr=>∃j:Nat,j<=k/\i=.int .i64 j/\Hid (b1a .u8 5 wr w.heap.size v (v5a X j))/\BW w wr) (λ_ i _=>k-(intOf i).toNat)
   case atStart=>exact⟨0,by omega,rfl,HO1,hbel1⟩
   case round=>
    obtain⟨j,hj,rfl,hO,hbl⟩:=hrel;by_cases hlt2:j<k
    ·have q0:wr.cell? ⟨gs,j,none⟩=some (.slice (A j) (n j) (c j)):=by rw[<-HP.o.cell j hlt2];exact hbl.cell (p:=⟨gs,j,none⟩) hgs
     have hH:=(HP.o.holds j hlt2).below hbl;have hlen:(v5a X j).length+(X j).length<=140737488355328:=by have h1:=HBq.o (j+1) (by omega);rw[HC.o j hj,hH.len];simp only[x0b] at h1;exact h1
     have hsz:=hI hbl.size;have HE:Hid (v5a X (j+1)=v5a X j++X j):=rfl;obtain⟨Aj,eA⟩:=xX (A j);obtain⟨nj,en⟩:=xX (n j);obtain⟨cj,ec⟩:=xX (c j);rw[<-eA,<-en,<-ec] at q0 hH;have HH:=hI hH;have HLn:=hI hlen;clear hH hlen eA en ec;go_wp2_with(first|(at_builtin;refine X2a rfl (.tmp 31) (.tmp 32) rfl w.heap.size _ _ rfl hO.o w.heap.size Aj nj cj (X j) rfl HH.o HLn.o hsz.o ?_;intro v2 w2 ho2 hb2)|fail)
     go_roundw
     case rel=>exact⟨j+1,by omega,by go_num,by rw[HE.o];exact ho2,hbl.trans hb2⟩
     case measure=>simp[intOf];omega
    ·obtain rfl:j=k:=by omega
     go_wp2_with fail;go_ret;exact⟨_,rfl,hO.o,hbl⟩
theorem N1b(w:World)(gs m:Nat)(A:Nat->Option Addr)(n c:Nat->Nat)(X:Nat->List Int)(hP:W3a w gs m A n c X)(hm:m<=1000)(hb:x0b n m<=140737488355328) :
  Calls prog 18 #[.slice (some ⟨gs,0,none⟩) m m] w λe w'=>∃v,e=.returned v/\Own w' w.heap.size v (v5a X m)/\BW w w':=
 (L2a w gs m A n c X hP hm hb).mono λ_ _ ⟨v,h1,h2,h3⟩=>⟨v,h1,h2.own,h3⟩
abbrev s4b:=Option Addr×Nat×Nat×List Int
def w5b(p:s4b):Value:=.slice p.1 p.2.1 p.2.2.1
def P8b:s4b:=(none,0,0,[])
def U0b(l:List s4b)(i:Nat):Option Addr:=(l.getD i P8b).1
def e0b(l:List s4b)(i:Nat):Nat:=(l.getD i P8b).2.1
def V0b(l:List s4b)(i:Nat):Nat:=(l.getD i P8b).2.2.1
def T3a(l:List s4b)(i:Nat):List Int:=(l.getD i P8b).2.2.2
theorem W3a.lit(w:World)(l:List s4b)(T:TypeId)(hh:∀p∈l,Holds w w.heap.size p.1 p.2.1 p.2.2.1 p.2.2.2) :
  W3a (w.alloc (.cells (l.map w5b).toArray T)) w.heap.size l.length (U0b l) (e0b l) (V0b l) (T3a l):=by
 have hb:BW w (w.alloc (.cells (l.map w5b).toArray T)):=(Below.refl _ _).alloc (Nat.le_refl _) _;refine⟨by simp,λi hi=>?_,λi hi=>?_⟩
 ·have hr:(w.alloc (.cells (l.map w5b).toArray T)).heap[w.heap.size]? = some (.cells (l.map w5b).toArray T (0,0)):=heap_alloc_new w _;rw[cell_of_row _ w.heap.size i _ T (0,0) hr];simp[U0b,e0b,V0b,List.getD_eq_getElem?_getD,hi,w5b]
 ·have he:l.getD i P8b=l[i]:=by simp[List.getD_eq_getElem?_getD,hi]
  have:=hh l[i] (List.getElem_mem hi);unfold U0b e0b V0b T3a;rw[he];exact this.over hb
section
variable {ops:Array Oper} {rest:List Oper} {o:Oper} {a:Act} {w:World} {Q:Exit->Act->World->Prop}
theorem u2a(hg:o.guard=none)(n:Nat)(parts:Array (Nat×Operand))(ho:o.op=.buildSlice 94 n parts)(l:List s4b)(hl:l.length=n)
(hf:prog.builtSlice 31 n (parts.map fun (i,x)=>(i,a.eval x)).toList=some (l.map w5b).toArray)(hh:∀p∈l,Holds w w.heap.size p.1 p.2.1 p.2.2.1 p.2.2.2)
(h:∀g w',Hid (W3a w' g n (U0b l) (e0b l) (V0b l) (T3a l))->Hid (BW w w')->wpList prog ops Q rest (a.put o.dst (.slice (some ⟨g,0,none⟩) n n)) w') :
  wpList prog ops Q (o::rest) a w:=by
 subst hl;exact Great.wpList_buildSliceTo hg _ _ _ parts ho w.heap.size rfl _ rfl underlying94 _ hf (h _ _ (W3a.lit w l _ hh) ((Below.refl _ _).alloc (Nat.le_refl _) _))
end
open Go.Lib
def C1a(r:Int):Prop:=0<=r/\r<=1114111/\(r<55296∨57343<r)
def enc(r:Int):List UInt8:=if 1114112<=r then [(r-1114112).toNat.toUInt8] else encodeRune r
def y7a(l:List UInt8):Int:=if (decodeL l).1=65533/\(decodeL l).2=1 then 1114112+((l.getD 0 0).toNat:Int) else ((decodeL l).1:Int)
def G6a:Nat->List UInt8->List Int
 | 0,_=>[]
 | n+1,l=>if l=[] then [] else y7a l::G6a n (l.drop (decodeL l).2)
def I1a(l:List UInt8):List Int:=G6a l.length l
theorem T5a(n:Nat):G6a n []=[]:=by cases n<;>simp[G6a]
theorem j9a:∀(n m:Nat) (l:List UInt8),l.length<=n->l.length<=m->G6a n l=G6a m l
 | 0,m,l,hn,_=>by obtain rfl:l=[]:=List.eq_nil_of_length_eq_zero (by omega);rw[T5a,T5a]
 | n+1,0,l,_,hm=>by obtain rfl:l=[]:=List.eq_nil_of_length_eq_zero (by omega);rw[T5a,T5a]
 | n+1,m+1,l,hn,hm=>by
  unfold G6a;by_cases hne:l=[]
  ·simp[hne]
  ·have hw:=decodeL_width l;have hl:0<l.length:=List.length_pos_iff.2 hne;rw[if_neg hne,if_neg hne,j9a n m (l.drop (decodeL l).2) (by rw[List.length_drop];omega) (by rw[List.length_drop];omega)]
theorem O1b:I1a []=[]:=rfl
theorem z3a(l:List UInt8)(hne:l≠[]):I1a l=y7a l::I1a (l.drop (decodeL l).2):=by
 have hl:0<l.length:=List.length_pos_iff.2 hne;have hw:=decodeL_width l;obtain⟨n,hn⟩:∃n,l.length=n+1:=⟨l.length-1,by omega⟩;unfold I1a;rw[hn];show(if l=[] then [] else _)=_
 rw[if_neg hne,j9a n (l.drop (decodeL l).2).length _ (by rw[List.length_drop];omega) (Nat.le_refl _)]
theorem k8a(l:List UInt8)(_hne:l≠[]) :
  (¬((decodeL l).1=65533/\(decodeL l).2=1)/\y7a l=((decodeL l).1:Int)/\C1a ((decodeL l).1:Int))∨
  ((decodeL l).1=65533/\(decodeL l).2=1/\y7a l=1114112+((l.getD 0 0).toNat:Int)/\128<=(l.getD 0 0).toNat):=by
 have k0:=(l.getD 0 0).toNat_lt;have k1:=(l.getD 1 0).toNat_lt;have k2:=(l.getD 2 0).toNat_lt;have k3:=(l.getD 3 0).toNat_lt;unfold y7a C1a;by_cases h:(decodeL l).1=65533/\(decodeL l).2=1
 ·right;refine⟨h.1,h.2,if_pos h,?_⟩;rw[decodeL_N] at h;by_cases hb:(l.getD 0 0).toNat<128
  ·rw[decodeN_ascii _ _ _ _ _ hb] at h;dsimp only at h;omega
  ·omega
 ·left;refine⟨h,if_neg h,?_⟩;rw[decodeL_N] at h⊢;rcases decodeN_shape l.length (l.getD 0 0).toNat (l.getD 1 0).toNat (l.getD 2 0).toNat (l.getD 3 0).toNat with⟨c,e⟩ | ⟨c1,c2,c3,cv,e⟩ | ⟨c1,c2,c3,c4,cv,cs,e⟩ | ⟨c1,c2,c3,c4,c5,cv,cw,e⟩ | e
  all_goals (rw[e] at h⊢;dsimp only at h⊢)
  all_goals (try (exact absurd ⟨rfl,rfl⟩ h))
  all_goals (refine⟨by omega,by omega,by omega⟩)
def Q2c(r:Int):Prop:=C1a r∨(1114240<=r/\r<=1114367)
theorem R2c(l:List UInt8)(hne:l≠[]):Q2c (y7a l):=by
 have k0:=(l.getD 0 0).toNat_lt;rcases k8a l hne with⟨_,h1,h2⟩ | ⟨_,_,h1,h2⟩
 ·rw[h1];exact .inl h2
 ·rw[h1];exact .inr (by omega)
theorem Q2c.letter{r:Int}(h:Q2c r)(hr:r<1114112):C1a r:=by
 rcases h with h | h
 ·exact h
 ·omega
theorem C1a.lt{r:Int}(h:C1a r):¬1114112<=r:=by have:=h.2.1;omega
theorem t0c(l:List UInt8)(hne:l≠[]):l.take (decodeL l).2=enc (y7a l):=by
 unfold enc;rcases k8a l hne with⟨h0,h1,h2⟩ | ⟨_,h0,h1,h2⟩
 ·rw[h1,if_neg h2.lt,encode_decode l hne h0]
 ·rw[h1,if_pos (by omega),h0,takeA l (List.length_pos_iff.2 hne)];rw[toByte _ (l.getD 0 0) (by omega)]
theorem H6a{P:List UInt8->Prop}(h0:P [])(h1:∀l:List UInt8,l≠[]->P (l.drop (decodeL l).2)->P l):∀l,P l:=by
 have key:∀n (l:List UInt8),l.length<=n->P l:=by
  intro n
  induction n with
  | zero=>intro l hl;obtain rfl:l=[]:=List.eq_nil_of_length_eq_zero (by omega);exact h0
  | succ n ih=>
   intro l hl;by_cases hne:l=[]
   ·rw[hne];exact h0
   ·have hw:=decodeL_width l;exact h1 l hne (ih _ (by rw[List.length_drop];omega))
 exact λl=>key l.length l (Nat.le_refl _)
theorem M6b(l:List UInt8):∀r∈I1a l,Q2c r:=by
 induction l using H6a with
 | h0=>intro r hr;cases hr
 | h1 l hne ih=>
  rw[z3a l hne];intro r hr;rcases List.mem_cons.1 hr with rfl | hr
  ·exact R2c l hne
  ·exact ih r hr
theorem N6b(l:List UInt8):(I1a l).flatMap enc=l:=by
 induction l using H6a with
 | h0=>rfl
 | h1 l hne ih=>rw[z3a l hne,List.flatMap_cons,ih,<-t0c l hne,List.take_append_drop]
theorem Q8b(l:List UInt8):(I1a l).length<=l.length:=by
 induction l using H6a with
 | h0=>simp[O1b]
 | h1 l hne ih=>have hw:=decodeL_width l;have hl:0<l.length:=List.length_pos_iff.2 hne;rw[z3a l hne,List.length_cons];rw[List.length_drop] at ih;omega
theorem s1b(x:Int):(x.toNat.toUInt8).toNat=x.toNat%256:=by simp
theorem v3b(r:Int)(h:C1a r)(t:List UInt8):decodeL (encodeRune r++t)=(r.toNat,(encodeRune r).length):=by
 obtain⟨h0,h1,h2⟩:=h;rw[decodeL_N];unfold encodeRune;by_cases c1:r<=127
 ·rw[encodeRuneZ_one h0 c1];simp only[List.map_cons,List.map_nil,List.cons_append,List.nil_append,List.length_cons,List.getD_cons_zero,List.length_nil,s1b];rw[decodeN_ascii _ _ _ _ _ (by omega)];rw[show r.toNat%256=r.toNat by omega]
 by_cases c2:r<=2047
 ·rw[encodeRuneZ_two (by omega) c2];simp only[List.map_cons,List.map_nil,List.cons_append,List.nil_append,List.length_cons,List.getD_cons_zero,List.getD_cons_succ,List.length_nil,s1b];unfold decodeN;rw[if_neg (by omega),if_pos (by omega),if_pos (by omega)];exact Prod.ext (by dsimp only;omega) rfl
 by_cases c3:r<=65535
 ·rw[encodeRuneZ_three (by omega)];simp only[List.map_cons,List.map_nil,List.cons_append,List.nil_append,List.length_cons,List.getD_cons_zero,List.getD_cons_succ,List.length_nil,s1b];unfold decodeN;rw[if_neg (by omega),if_neg (by omega),if_pos (by omega),if_pos (by omega)];exact Prod.ext (by dsimp only;omega) rfl
 ·rw[encodeRuneZ_four (by omega) h1];simp only[List.map_cons,List.map_nil,List.cons_append,List.nil_append,List.length_cons,List.getD_cons_zero,List.getD_cons_succ,List.length_nil,s1b];unfold decodeN;rw[if_neg (by omega),if_neg (by omega),if_neg (by omega),if_pos (by omega),if_pos (by omega)];exact Prod.ext (by dsimp only;omega) rfl
theorem f0b{r:Int}(h:C1a r):enc r=encodeRune r:=if_neg h.lt
theorem o4c{r:Int}:1<=(enc r).length:=by
 unfold enc;split
 ·simp
 ·have:=encodeRuneZ_length r;simpa[encodeRune] using this.1
theorem C5c{r:Int}:(enc r).length<=4:=by
 unfold enc;split
 ·simp
 ·have:=encodeRuneZ_length r;simpa[encodeRune] using this.2
theorem S2c(r:Int)(h:C1a r)(t:List UInt8):y7a (enc r++t)=r:=by
 unfold y7a;rw[f0b h,v3b r h t];dsimp only;rw[if_neg ?_]
 ·have:=h.1;omega
 ·rintro⟨h1,h2⟩;obtain rfl:r=65533:=by have:=h.1;omega
  revert h2;decide
theorem x5b(r:Int)(h:C1a r)(t:List UInt8):I1a (enc r++t)=r::I1a t:=by
 have hp:=o4c (r:=r);have hne:enc r++t≠[]:=by intro e;have:=congrArg List.length e;rw[List.length_append,List.length_nil] at this;omega
 rw[z3a _ hne,S2c r h t];have e:(decodeL (enc r++t)).2=(enc r).length:=by rw[f0b h,v3b r h t]
 rw[e,List.drop_left]
theorem i3b(rs:List Int)(h:∀r∈rs,C1a r)(t:List UInt8):I1a (rs.flatMap enc++t)=rs++I1a t:=by
 induction rs with
 | nil=>rfl
 | cons r rs ih=>rw[List.flatMap_cons,List.append_assoc,x5b r (h r List.mem_cons_self),ih λx hx=>h x (List.mem_cons_of_mem _ hx),List.cons_append]
theorem w3b(rs:List Int)(h:∀r∈rs,C1a r):I1a (rs.flatMap enc)=rs:=by have:=i3b rs h [];simpa[O1b] using this
def S3a(l:List UInt8):Bool:=(I1a l).all λr=>decide (r<1114112)
theorem P1b(l:List UInt8)(hne:l≠[]):S3a l=(decide (y7a l<1114112)&&S3a (l.drop (decodeL l).2)):=by unfold S3a;rw[z3a l hne,List.all_cons]
theorem t4b(l:List UInt8):validD l=S3a l:=by
 induction l using H6a with
 | h0=>rfl
 | h1 l hne ih=>
  rw[validD_step l hne,P1b l hne,ih];rcases k8a l hne with⟨h0,h1,h2⟩ | ⟨h0,h0',h1,h2⟩
  ·have:=h2.lt;rw[if_neg h0,h1,decide_eq_true (by omega),Bool.true_and]
  ·rw[if_pos ⟨h0,h0'⟩,h1,decide_eq_false (by omega),Bool.false_and]
theorem C8a{l:List UInt8}(h:S3a l=true):∀r∈I1a l,C1a r:=λr hr=>(M6b l r hr).letter (by simpa using List.all_eq_true.1 h r hr)
theorem u0c(rs:List Int)(h:∀r∈rs,C1a r):S3a (rs.flatMap enc)=true:=by unfold S3a;rw[w3b rs h,List.all_eq_true];intro r hr;have:=(h r hr).2.1;simp only[decide_eq_true_eq];omega
theorem a8b(s:ByteArray)(pos:Nat)(h:pos<s.size) :
  I1a (s.data.toList.drop pos)=y7a (s.data.toList.drop pos)::I1a (s.data.toList.drop (pos+(Utf8.decode s pos).2))/\1<=(Utf8.decode s pos).2/\pos+(Utf8.decode s pos).2<=s.size:=by
 have hl:s.data.toList.drop pos≠[]:=by intro e;have:=congrArg List.length e;rw[List.length_drop,<-size_eq] at this;simp at this;omega
 have h1:=z3a _ hl;have h2:=decodeL_width (s.data.toList.drop pos);have h3:=decodeL_le _ hl;rw[decodeL_drop] at h1 h2 h3;rw[List.drop_drop] at h1;rw[List.length_drop,<-size_eq] at h3;exact⟨h1,h2,by omega⟩
theorem y5b(s:ByteArray)(pos:Nat)(h:pos<s.size)(ht:S3a (s.data.toList.drop pos)=true) :
  I1a (s.data.toList.drop pos)=((Utf8.decode s pos).1:Int)::I1a (s.data.toList.drop (pos+(Utf8.decode s pos).2))/\S3a (s.data.toList.drop (pos+(Utf8.decode s pos).2))=true/\C1a ((Utf8.decode s pos).1:Int):=by
 have hl:s.data.toList.drop pos≠[]:=by intro e;have:=congrArg List.length e;rw[List.length_drop,<-size_eq] at this;simp at this;omega
 have h1:=z3a _ hl;rw[P1b _ hl,Bool.and_eq_true] at ht;obtain⟨ht,ht'⟩:=ht;rw[decodeL_drop] at h1 ht';rw[List.drop_drop] at h1 ht';have ht:=of_decide_eq_true ht;rcases k8a _ hl with⟨_,e,hL⟩ | ⟨_,_,e,_⟩
 ·rw[decodeL_drop] at e hL;rw[e] at h1;exact⟨h1,ht',hL⟩
 ·omega
theorem b8b(s:ByteArray)(pos:Nat)(h:¬pos<s.size):I1a (s.data.toList.drop pos)=[]:=by rw[List.drop_of_length_le (by rw[<-size_eq];omega)];rfl
def B2a(r:Int):List Int:=if r<65536 then [r%256,r/256] else [(55296+(r-65536)/1024)%256,(55296+(r-65536)/1024)/256,(56320+(r-65536)%1024)%256,(56320+(r-65536)%1024)/256]
def k2a(rs:List Int):List Int:=rs.flatMap B2a
def M2a:List Int->Nat
 | []=>0
 | r::rs=>(if r<65536 then 1 else 2)+M2a rs
theorem w5a(rs:List Int):(k2a rs).length=2*M2a rs:=by
 induction rs with
 | nil=>rfl
 | cons r rs ih=>
  have:(B2a r).length=2*(if r<65536 then 1 else 2):=by unfold B2a;split<;>rfl
  unfold k2a at ih⊢;rw[List.flatMap_cons,List.length_append,ih,this,M2a];omega
theorem z5b(rs:List Int):M2a rs<=2*rs.length:=by
 induction rs with
 | nil=>exact Nat.le_refl _
 | cons r rs ih=>rw[M2a,List.length_cons];split<;>omega
theorem D8a{r:Int}(h:C1a r):Bytes (B2a r):=by
 obtain⟨h0,h1,h2⟩:=h;unfold B2a;intro x hx;split at hx
 ·simp at hx;omega
 ·simp at hx;omega
theorem k9a{rs:List Int}(h:∀r∈rs,C1a r):Bytes (k2a rs):=by intro x hx;obtain⟨r,hr,hx⟩:=List.mem_flatMap.1 hx;exact D8a (h r hr) x hx
def U1a(l:List UInt8):List Int:=if S3a l=true then k2a (I1a l) else []
def A3a(l:List UInt8):Int:=if S3a l=true then 0 else 5
def g5a(l:List UInt8):Nat:=if S3a l=true then M2a (I1a l) else 0
theorem Q1b(l:List UInt8):Bytes (U1a l):=by
 unfold U1a;split
 ·exact k9a (C8a (by assumption))
 ·exact Bytes.nil
theorem u4b(l:List UInt8):(U1a l).length=2*g5a l:=by
 unfold U1a g5a;split
 ·exact w5a _
 ·rfl
theorem R1b(l:List UInt8):g5a l<=2*l.length:=by unfold g5a;have:=z5b (I1a l);have:=Q8b l;split<;>omega
end Go.Proofs.YtjpcifmeimcikaaGreatDoor
namespace Go.Proofs
open Go.Proofs.Tryz
open Go.Shelf
open Go.RowKit in
def Tryz.lays242_ren:Go.Shelf.Ren:=⟨fun | 242=>151 | 278=>156 | n=>n,fun | 37=>31 | 21=>21 | 51=>23 | 4=>4 | 5=>5 | 46=>119 | n=>n,fun | n=>n⟩
theorem Tryz.lays242:Go.Proofs.Lays.n242 prog Tryz.lays242_ren:={
 mixed:=by kernel_rfl
 f242:=func151.trans (congrArg some (by kernel_rfl))
 f278:=func156.trans (congrArg some (by kernel_rfl))
 t4:=underlying4
 a4:=Tryz.isAgg4
 z4:=Tryz.sizeOf4
 v4:=Tryz.zeroValue4
 t5:=underlying5
 a5:=Tryz.isAgg5
 z5:=Tryz.sizeOf5
 v5:=Tryz.zeroValue5
 t21:=underlying21
 a21:=Tryz.isAgg21
 z21:=Tryz.sizeOf21
 v21:=Tryz.zeroValue21
 t37:=underlying31
 a37:=Tryz.isAgg31
 z37:=Tryz.sizeOf31
 v37:=Tryz.zeroValue31
 t46:=underlying119
 a46:=Tryz.isAgg119
 z46:=Tryz.sizeOf119
 v46:=Tryz.zeroValue119
 t51:=underlying23
 a51:=Tryz.isAgg23
 z51:=Tryz.sizeOf23
 v51:=Tryz.zeroValue23 }
open Go.RowKit in
theorem Tryz.utf8_AppendRune_plain(B:Nat)(v:Value)(n:Nat)(xs:List Value)(r:Int)(hr0:-2147483648<=r)(hr1:r<=2147483647)(w:World)(hown:w.ownsRow B 5 1 v n xs)(hlen:n+4<=140737488355328)(hBw:B<=w.heap.size) :
  Calls prog 151 #[v,.int .i32 r] w λe w'=>∃v',e=.returned v'/\w'.ownsRow B 5 1 v' (n+(Lib.runeCells r).length) (xs++Lib.runeCells r)/\∃o,(w.alloc o).grownBy w' v.ownBlock:=Any.utf8_AppendRune_plain Tryz.lays242 (by kernel_rfl) B v n xs r hr0 hr1 w hown hlen hBw
def Tryz.lays196_ren:Go.Shelf.Ren:=⟨fun | 196=>149 | 259=>154 | n=>n,fun | 9=>9 | 4=>4 | 3=>3 | 5=>5 | 12=>12 | 119=>205 | 0=>0 | 46=>119 | 139=>208 | 138=>207 | 53=>25 | n=>n,fun | 3=>1 | 4=>2 | n=>n⟩
theorem Tryz.lays196:Go.Proofs.Lays.n196 prog Tryz.lays196_ren:={
 mixed:=by kernel_rfl
 f196:=func149.trans (congrArg some (by kernel_rfl))
 f259:=func154.trans (congrArg some (by kernel_rfl))
 t0:=underlying0
 a0:=Tryz.isAgg0
 z0:=Tryz.sizeOf0
 v0:=Tryz.zeroValue0
 t3:=underlying3
 a3:=Tryz.isAgg3
 z3:=Tryz.sizeOf3
 v3:=Tryz.zeroValue3
 t4:=underlying4
 a4:=Tryz.isAgg4
 z4:=Tryz.sizeOf4
 v4:=Tryz.zeroValue4
 t5:=underlying5
 a5:=Tryz.isAgg5
 z5:=Tryz.sizeOf5
 v5:=Tryz.zeroValue5
 t9:=underlying9
 a9:=Tryz.isAgg9
 z9:=Tryz.sizeOf9
 v9:=Tryz.zeroValue9
 t12:=underlying12
 a12:=Tryz.isAgg12
 z12:=Tryz.sizeOf12
 v12:=Tryz.zeroValue12
 t46:=underlying119
 a46:=Tryz.isAgg119
 z46:=Tryz.sizeOf119
 v46:=Tryz.zeroValue119
 t53:=underlying25
 a53:=Tryz.isAgg25
 z53:=Tryz.sizeOf25
 v53:=Tryz.zeroValue25
 t119:=underlying205
 a119:=Tryz.isAgg205
 z119:=Tryz.sizeOf205
 t138:=underlying207
 a138:=Tryz.isAgg207
 z138:=Tryz.sizeOf207
 v138:=Tryz.zeroValue207
 t139:=underlying208
 a139:=Tryz.isAgg208
 z139:=Tryz.sizeOf208
 v139:=Tryz.zeroValue208
 g3:=by kernel_rfl
 g4:=by kernel_rfl }
open Go.RowKit Go.Lib in
theorem Tryz.utf8_ValidString(s:ByteArray)(w:World)(hs:s.size<=9223372036854775807)(hT:Lib.Utf8Tabs (Tryz.lays196_ren.g 3) (Tryz.lays196_ren.g 4) w) :
  Calls prog 149 #[.string s] w λe w'=>e=.returned (.bool (Lib.validD s.data.toList))/\BW w w':=Any.utf8_ValidString Tryz.lays196 s w hs hT
end Go.Proofs
namespace Go.Proofs.YtjpcifmeimcikaaGreatDoor
open Go.Proofs.Tryz
open Go.RowKit
theorem O6b(x:Int)(h0:0<=x)(h1:x<=2147483647):bits .and .i32 x 1023=x%1024:=by
 obtain⟨n,rfl⟩:=Int.eq_ofNat_of_zero_le h0;have e1:(BitVec.ofInt 32 (1023:Int)).toNat=2^10-1:=by decide
 have e2:(BitVec.ofInt 32 (n:Int)).toNat=n:=by rw[BitVec.toNat_ofInt];omega
 show IntKind.i32.wrap ((BitVec.ofInt 32 (n:Int) &&& BitVec.ofInt 32 1023).toNat:Int)=_
 rw[BitVec.toNat_and,e1,e2,Nat.and_two_pow_sub_one_eq_mod];simp[IntKind.wrap,IntKind.bits,IntKind.signed];omega
theorem S1b(x:Int)(h0:0<=x)(h1:x<=18446744073709551615):bits .and .u64 x 1023=x%1024:=by obtain⟨n,rfl⟩:=Int.eq_ofNat_of_zero_le h0;have h:=u64_and_nat n 1023 (by omega) (by omega);have h2:n &&& 1023=n%1024:=Nat.and_two_pow_sub_one_eq_mod n 10;rw[h2] at h;exact h
theorem v4b(x y:Int)(h0:0<=x)(h1:x<1024)(h2:0<=y)(h3:y<1024):bits .or .u64 (x*1024) y=x*1024+y:=by obtain⟨a,rfl⟩:=Int.eq_ofNat_of_zero_le h0;obtain⟨b,rfl⟩:=Int.eq_ofNat_of_zero_le h2;have:=u64_or_nat (a*1024) b (by omega) (by omega);rw[nat_join 10 (a*1024) b (by omega) (by omega)] at this;rw[show((a:Int)*1024)=((a*1024:Nat):Int) by omega,this];omega
theorem g0b(w:World)(u f:Int)(hu:0<=u/\u<=18446744073709551615)(hf:0<=f/\f<=18446744073709551615) :
  Calls prog 155 #[.int .u64 u,.int .u64 f] w λe w'=>e=.returned (.bool (u/1024==f/1024))/\w=w':=by
 obtain⟨hu0,hu1⟩:=hu;obtain⟨hf0,hf1⟩:=hf;go_enter func155,ntmps155;go_wp2;go_ret;exact⟨rfl,rfl⟩
theorem g6a(w:World)(base:Nat)(v:Value)(xs:List Int)(u:Int)(hu:0<=u/\u<=65535)(h:b1a .u8 5 w base v xs)(hl:xs.length<=70368744177664)(hb:base<=w.heap.size) :
  Calls prog 144 #[v,.int .i32 u] w λe w'=>∃v',e=.returned v'/\b1a .u8 5 w' base v' (xs++[u%256,u/256])/\a0c w w' v:=by
 obtain⟨hu0,hu1⟩:=hu;have H:=hI h;clear h;go_enter func144,ntmps144;go_wp2_with(at_builtin;go_loud (refine i9a rfl (.tmp 5) (.tmp 11) .u8 31 5 1 underlying31 i3a rfl base v xs [u%256,u/256] _ rfl 2 2 rfl (by omega) rfl rfl H.o (by omega) (by omega) hb ?_;intro v1 w1 ho1 hg1));go_ret;exact⟨_,rfl,ho1.o,hg1.o⟩
def E8a(w:World):Prop:=Lib.Utf8Tabs 1 2 w
theorem E8a.below{w w':World}(h:E8a w)(hb:BW w w'):E8a w':=Utf8Tabs_below h hb
theorem v0c(s:ByteArray)(w:World)(hs:s.size<=9223372036854775807)(hT:E8a w) :
  Calls prog 149 #[.string s] w λe w'=>e=.returned (.bool (S3a s.data.toList))/\BW w w':=by
 have:=Tryz.utf8_ValidString s w hs hT
 rwa [t4b] at this
theorem w0c(s:ByteArray)(w:World)(hs:s.size<=140737488355328)(hT:E8a w) :
  Calls prog 143 #[.string s] w λe w'=>e=.returned (.tuple #[.int .i64 (g5a s.data.toList),.int .i64 (A3a s.data.toList)])/\BW w w':=by
 have cV:=v0c s w (by omega) hT;by_cases ht:S3a s.data.toList=true
 ·have e1:g5a s.data.toList=M2a (I1a s.data.toList):=if_pos ht;have e2:A3a s.data.toList=0:=if_pos ht;obtain⟨U,hU⟩:=xX (M2a (I1a s.data.toList));rw[ht] at cV;rw[e1,e2,<-hU];have HU:=hI hU;have CV:=hI cV;have HT:=hI ht;clear e1 e2 hU cV ht;go_enter func143,ntmps143;go_wp2_with fail;refine CV.o.mono ?_;rintro e w1 ⟨rfl,hb1⟩;clear CV;go_wp2;go_loopw [4,6] (λn _ wr=>∃(pos k:Nat),n=.int .i64 k/\wr.heap[w1.heap.size]? = some (.stringIter s pos)/\BW w wr/\Hid (k+M2a (I1a (s.data.toList.drop pos))=U)/\Hid (S3a (s.data.toList.drop pos)=true)/\k<=2*pos/\pos<=s.size) (λ_ _ wr=>s.size-wr.iterPos w1.heap.size)
  case atStart=>
   refine⟨0,0,rfl,World.iter_heap w1 s 0,hb1.alloc hb1.size _,?_,HT,by omega,by omega⟩;show _=_
   rw[HU.o,List.drop_zero,Nat.zero_add]
  case round=>
   obtain⟨pos,k,rfl,hit,hb,HE,HX,hk,hps⟩:=hrel;have hK:w1.heap.size<wr.heap.size:=(Array.getElem?_eq_some_iff.1 hit).1;have hb1s:=hb1.size;by_cases hp:pos<s.size
   ·have hnx:∀ty,(Instr.next (.pointer (some ⟨w1.heap.size,0,none⟩)) true ty).run prog wr=_:=λty=>Lib.run_next_any_at wr w1.heap.size s pos ty hit hp
    obtain⟨n1,n2,n3⟩:=a8b s pos hp;obtain⟨m1,m2,m3⟩:=y5b s pos hp HX.o;obtain⟨R,hR⟩:∃R:Int,R=((Utf8.decode s pos).1:Int):=⟨_,rfl⟩;obtain⟨p',hp'⟩:∃p',p'=pos+(Utf8.decode s pos).2:=⟨_,rfl⟩;rw[<-hp'] at hnx n1 n3 m1 m2;rw[<-hR] at hnx m1 m3;have hit2:=Lib.iterAt_heap wr w1.heap.size s pos p' hit;have hb2:=Lib.below_iterAt hb (k:=w1.heap.size) hb1s s p';have hpp:pos<p':=by omega
    have HN:=hI m1;have HX':=hI m2;have HI:=hI hit2;obtain⟨r0,r1,r2⟩:=m3;have hit0:=hit;clear n1 n2 m1 m2 hR hp' hit hit2;by_cases hlt:R<65536
    ·go_wp2;go_roundw
     case rel=>
      refine⟨p',k+1,by go_num,HI.o,hb2,?_,HX',by omega,n3⟩;show _=_
      have:=HE.o;rw[HN.o,M2a,if_pos hlt] at this;omega
     case measure=>have:=HI.o;simp only[World.iterPos,hit0,this];omega
    ·go_wp2;go_roundw
     case rel=>
      refine⟨p',k+2,by go_num,HI.o,hb2,?_,HX',by omega,n3⟩;show _=_
      have:=HE.o;rw[HN.o,M2a,if_neg hlt] at this;omega
     case measure=>have:=HI.o;simp only[World.iterPos,hit0,this];omega
   ·have hnx:∀ty,(Instr.next (.pointer (some ⟨w1.heap.size,0,none⟩)) true ty).run prog wr=_:=λty=>Lib.run_next_end_at wr w1.heap.size s pos ty hit hp
    have e:k=U:=by have:=HE.o;rw[b8b s pos hp] at this;exact this
    subst e;go_wp2;go_ret2;exact⟨rfl,hb⟩
 ·have ht':S3a s.data.toList=false:=by simpa using ht
  have e1:g5a s.data.toList=0:=if_neg ht;have e2:A3a s.data.toList=5:=if_neg ht;rw[ht'] at cV;rw[e1,e2];have CV:=hI cV;clear e1 e2 cV ht ht';go_enter func143,ntmps143;go_wp2_with fail;refine CV.o.mono ?_;rintro e w1 ⟨rfl,hb1⟩;go_wp2;go_ret2;exact⟨rfl,hb1⟩
def w4b(w:World)(l:List UInt8)(e:Ending)(w':World):Prop:=∃v,e=.returned (.tuple #[v,.int .i64 (A3a l)])/\b1a .u8 5 w' w.heap.size v (U1a l)/\BW w w'
theorem T2c(s:ByteArray)(w:World)(hs:s.size<=17592186044416)(hT:E8a w) :
  Calls prog 126 #[.string s] w (w4b w s.data.toList):=by
 have cU:=w0c s w (by omega) hT;have hq:∀e w',(∃v,e=.returned (.tuple #[v,.int .i64 (A3a s.data.toList)])/\b1a .u8 5 w' w.heap.size v (U1a s.data.toList)/\BW w w')->w4b w s.data.toList e w':=λ_ _ h=>h
 by_cases ht:S3a s.data.toList=true
 ·have e1:g5a s.data.toList=M2a (I1a s.data.toList):=if_pos ht;have e2:A3a s.data.toList=0:=if_pos ht;have e3:U1a s.data.toList=k2a (I1a s.data.toList):=if_pos ht;have hle:=R1b s.data.toList;rw[<-Lib.size_eq] at hle;obtain⟨U,hU⟩:=xX (M2a (I1a s.data.toList));have hl2:=w5a (I1a s.data.toList);obtain⟨Z,hZ⟩:=xX (k2a (I1a s.data.toList));rw[e1,e2,<-hU] at cU;rw[e1,<-hU] at hle;rw[e2,e3,<-hZ] at hq;rw[<-hZ,<-hU] at hl2;have HQ:=hI hq;have HZ:=hI hZ;have CU:=hI cU;have HT:=hI ht;have HL2:=hI hl2;clear e1 e2 e3 hU cU ht hq hZ hl2;go_enter func126,ntmps126;go_wp2_with fail;refine CU.o.mono ?_;rintro e w1 ⟨rfl,hb1⟩;clear CU;go_wp2_with(at_make;refine f7a rfl .u8 31 5 1 underlying31 i3a _ _ rfl _ (2*U) rfl rfl (by omega) (by omega) (by rw[h9a];omega) ?_;intro w2 ho2 hb2);have hs1:=hb1.size;have hs2:=hb2.size;go_loopw [6,8] (λv _ wr=>∃(pos:Nat) (zs:List Int),Hid (b1a .u8 5 wr w1.heap.size v zs)/\wr.heap[w2.heap.size]? = some (.stringIter s pos)/\BW w wr/\Hid (zs++k2a (I1a (s.data.toList.drop pos))=Z)/\Hid (S3a (s.data.toList.drop pos)=true)/\zs.length<=4*pos/\pos<=s.size) (λ_ _ wr=>s.size-wr.iterPos w2.heap.size)
  case atStart=>
   refine⟨0,[],ho2.o.alloc _,World.iter_heap w2 s 0,(hb1.trans (hb2.mono hs1)).alloc (by omega) _,?_,HT,by simp,by omega⟩;show _=_
   rw[HZ.o,List.drop_zero,List.nil_append]
  case round=>
   obtain⟨pos,zs,HO,hit,hb,HE,HX,hzl,hps⟩:=hrel;have hK:w2.heap.size<wr.heap.size:=(Array.getElem?_eq_some_iff.1 hit).1;by_cases hp:pos<s.size
   ·have hnx:∀ty,(Instr.next (.pointer (some ⟨w2.heap.size,0,none⟩)) true ty).run prog wr=_:=λty=>Lib.run_next_any_at wr w2.heap.size s pos ty hit hp
    obtain⟨n1,n2,n3⟩:=a8b s pos hp;obtain⟨m1,m2,m3⟩:=y5b s pos hp HX.o;obtain⟨R,hR⟩:∃R:Int,R=((Utf8.decode s pos).1:Int):=⟨_,rfl⟩;obtain⟨p',hp'⟩:∃p',p'=pos+(Utf8.decode s pos).2:=⟨_,rfl⟩;rw[<-hp'] at hnx n1 n3 m1 m2;rw[<-hR] at hnx m1 m3;have hit2:=Lib.iterAt_heap wr w2.heap.size s pos p' hit;have hb3:=Lib.below_iterAt hb (k:=w2.heap.size) (by omega) s p';have HO3:Hid (b1a .u8 5 (wr.iterAt w2.heap.size s p') w1.heap.size _ zs):=HO.o.iterAt hit p';have hs3:=Lib.iterAt_size wr w2.heap.size s p';obtain⟨w3,hw3⟩:=xX (wr.iterAt w2.heap.size s p');rw[<-hw3] at hnx hit2 hb3 HO3 hs3;have hpp:pos<p':=by omega
    have HN:=hI m1;have HX':=hI m2;obtain⟨r0,r1,r2⟩:=m3;have HI0:=hI hit;have HI:=hI hit2;have HS3:=hI hs3;clear n1 n2 m1 m2 hR hp' hit hit2 hw3 hs3;by_cases hlt:R<65536
    ·have c1:=hI (g6a w3 w1.heap.size _ zs R (by omega) HO3.o (by omega) (by have:=HS3.o;omega));go_wp2_with fail;refine c1.o.mono ?_;rintro e w4 ⟨v4,rfl,ho4,hg4⟩;have hb4:=hg4.below HO3.o.own (by have:=HS3.o;omega);have HI4:=hI (hg4.iter HO3.o.own HI.o);have HO4:=hI ho4;clear ho4 hg4 c1;go_wp2;go_roundw
     case rel=>
      refine⟨p',_,HO4,HI4.o,hb3.trans (hb4.mono hs1),?_,HX',by simp;omega,n3⟩;show _=_
      have:=HE.o;rw[HN.o,k2a,List.flatMap_cons,B2a,if_pos hlt,<-List.append_assoc] at this;exact this
     case measure=>have h1:=HI4.o;have h0:=HI0.o;simp only[World.iterPos,h0,h1];omega
    ·have hbit:=O6b (R-65536) (by omega) (by omega);have c1:=hI (g6a w3 w1.heap.size _ zs (55296+(R-65536)/1024) (by omega) HO3.o (by omega) (by have:=HS3.o;omega));go_wp2_with fail;refine c1.o.mono ?_;rintro e w4 ⟨v4,rfl,ho4,hg4⟩;have hb4:=hg4.below HO3.o.own (by have:=HS3.o;omega);have hs4:w3.heap.size<=w4.heap.size:=hb4.size;have HI4:=hI (hg4.iter HO3.o.own HI.o);have HO4:=hI ho4;clear ho4 hg4 c1;have c2:=hI (g6a w4 w1.heap.size _ _ (56320+(R-65536)%1024) (by omega) HO4.o (by simp;omega) (by have:=HS3.o;omega));go_wp2_with fail;refine c2.o.mono ?_;rintro e w5 ⟨v5,rfl,ho5,hg5⟩;have hb5:=hg5.below HO4.o.own (by have:=HS3.o;omega);have HI5:=hI (hg5.iter HO4.o.own HI4.o);have HO5:=hI ho5;clear ho5 hg5 c2;go_wp2;go_roundw
     case rel=>
      refine⟨p',_,HO5,HI5.o,hb3.trans ((hb4.trans hb5).mono hs1),?_,HX',by simp;omega,n3⟩;show _=_
      have:=HE.o;rw[HN.o,k2a,List.flatMap_cons,B2a,if_neg (by omega)] at this;rw[<-this];simp[k2a]
     case measure=>have h1:=HI5.o;have h0:=HI0.o;simp only[World.iterPos,h0,h1];omega
   ·have hnx:∀ty,(Instr.next (.pointer (some ⟨w2.heap.size,0,none⟩)) true ty).run prog wr=_:=λty=>Lib.run_next_end_at wr w2.heap.size s pos ty hit hp
    have HEE:Hid (zs=Z):=by have:=HE.o;rw[b8b s pos hp,k2a,List.flatMap_nil,List.append_nil] at this;exact this
    clear HE;go_wp2;go_ret2;refine HQ.o _ _ ⟨_,rfl,?_,hb⟩;rw[<-HEE.o];exact HO.o.mono hs1
 ·have ht':S3a s.data.toList=false:=by simpa using ht
  have e1:g5a s.data.toList=0:=if_neg ht;have e2:A3a s.data.toList=5:=if_neg ht;have e3:U1a s.data.toList=[]:=if_neg ht;rw[e1,e2] at cU;rw[e2,e3] at hq;have HQ:=hI hq;have CU:=hI cU;clear e1 e2 e3 cU ht ht' hq;go_enter func126,ntmps126;go_wp2_with fail;refine CU.o.mono ?_;rintro e w1 ⟨rfl,hb1⟩;go_wp2;go_ret2;exact HQ.o _ _ ⟨_,rfl,b1a.nil _ _ _ _,hb1⟩
set_option maxRecDepth 100000
theorem t1b(w:World)(B:Nat)(A:Option Addr)(n c:Nat)(xs:List Int)(a m:Int)(h:Holds w B A n c xs)
(ha:-9223372036854775808<=a/\a<=9223372036854775807)(hm:-9223372036854775808<=m/\m<=9223372036854775807) :
  Calls prog 43 #[.slice A n c,.int .i64 a,.int .i64 m] w λe w'=>∃A',e=.returned (.tuple #[.slice A' (partOf xs a m).length (partOf xs a m).length,.int .i64 (R0a n a m)])/\
   Holds w B A' (partOf xs a m).length (partOf xs a m).length (partOf xs a m)/\w=w':=by
 have hl:=h.len;have hf:=h.fit;have hr:=h.room;by_cases h1:a<0
 ·have e1:R0a n a m=2:=by simp[R0a,h1]
  have e2:partOf xs a m=[]:=by unfold partOf;rw[hl,e1];rfl
  rw[e1,e2];clear e1 e2 hl;go_enter func43,ntmps43;go_wp2;go_ret2;exact⟨_,rfl,Holds.nil _ _,rfl⟩
 ·by_cases h2:(n:Int)<a
  ·have e1:R0a n a m=2:=by simp[R0a,h2]
   have e2:partOf xs a m=[]:=by unfold partOf;rw[hl,e1];rfl
   rw[e1,e2];clear e1 e2 hl;go_enter func43,ntmps43;go_wp2;go_ret2;exact⟨_,rfl,Holds.nil _ _,rfl⟩
  ·by_cases h3:m<0
   ·have e1:R0a n a m=2:=by simp[R0a,h3]
    have e2:partOf xs a m=[]:=by unfold partOf;rw[hl,e1];rfl
    rw[e1,e2];clear e1 e2 hl;go_enter func43,ntmps43;go_wp2;go_ret2;exact⟨_,rfl,Holds.nil _ _,rfl⟩
   ·by_cases h4:(n:Int)-a<m
    ·have e1:R0a n a m=4:=by unfold R0a;rw[if_neg (by omega),if_pos h4]
     have e2:partOf xs a m=[]:=by unfold partOf;rw[hl,e1];rfl
     rw[e1,e2];clear e1 e2 hl;go_enter func43,ntmps43;go_wp2;go_ret2;exact⟨_,rfl,Holds.nil _ _,rfl⟩
    ·have e1:R0a n a m=0:=by unfold R0a;rw[if_neg (by omega),if_neg h4]
     have e2:partOf xs a m=(xs.drop a.toNat).take m.toNat:=by unfold partOf;rw[hl,e1];rfl
     obtain⟨k,rfl⟩:=Int.eq_ofNat_of_zero_le (show 0<=a by omega);obtain⟨j,rfl⟩:=Int.eq_ofNat_of_zero_le (show 0<=m by omega);simp only[Int.toNat_natCast] at e2;have e3:((xs.drop k).take j).length=j:=by simp;omega
     by_cases hj:j=0
     ·subst hj;rw[e1,e2,e3];clear e1 e2 e3 hl;go_enter func43,ntmps43;go_wp2;go_ret2;exact⟨_,rfl,Holds.empty _ _ _ _ (λ_=>rfl),rfl⟩
     ·have hc:=h.cut (k:=k) (m:=j) (by omega) (by omega);rw[e1,e2,e3];clear e1 e2 e3 hl;go_enter func43,ntmps43;go_wp2;go_ret2;exact⟨_,rfl,hc,rfl⟩
theorem u1b(n:Int)(s:Nat)(M:Int)(hs:u3a s=true)(hM:(256:Int)^s=M)(h0:0<=n)(hp:0<M):(n/M==0)=N4a n s:=by
 unfold N4a;rw[hs,Int.toNat_natCast,hM,Bool.true_and,Bool.eq_iff_iff];simp only[beq_iff_eq,decide_eq_true_eq];constructor
 ·intro h;have:=Int.lt_mul_ediv_self_add (x:=n) hp;rw[h] at this;omega
 ·intro h;exact Int.ediv_eq_zero_of_lt h0 h
theorem R8b{n s:Int}(h1:¬s=1)(h2:¬s=2)(h4:¬s=4)(h8:¬s=8):N4a n s=false:=by simp[N4a,u3a,h1,h2,h4,h8]
theorem l9a(w:World)(n s:Int)(hn:0<=n/\n<=18446744073709551615)(hs:-9223372036854775808<=s/\s<=9223372036854775807) :
  Calls prog 59 #[.int .u64 n,.int .i64 s] w λe w'=>e=.returned (.bool (N4a n s))/\w=w':=by
 obtain⟨hn0,hn1⟩:=hn;by_cases h1:s=1
 ·subst h1;go_enter func59,ntmps59;go_wp2;go_ret;exact⟨N0a (u1b n 1 256 rfl rfl hn0 (by omega)),rfl⟩
 by_cases h2:s=2
 ·subst h2;go_enter func59,ntmps59;go_wp2;go_ret;exact⟨N0a (u1b n 2 65536 rfl rfl hn0 (by omega)),rfl⟩
 by_cases h4:s=4
 ·subst h4;go_enter func59,ntmps59;go_wp2;go_ret;exact⟨N0a (u1b n 4 4294967296 rfl rfl hn0 (by omega)),rfl⟩
 by_cases h8:s=8
 ·subst h8;go_enter func59,ntmps59;go_wp2;go_ret;exact⟨N0a (u1b n 8 18446744073709551616 rfl rfl hn0 (by omega)),rfl⟩
 ·have e:=R8b (n:=n) h1 h2 h4 h8;rw[e];clear e;go_enter func59,ntmps59;go_wp2;go_ret;exact⟨rfl,rfl⟩
theorem P6b(k:Nat):(2:Nat)^(8*k)=256^k:=by rw[Nat.pow_mul]
theorem T1b(k:Nat):(2:Int)^(8*k)=((256^k:Nat):Int):=by rw[<-P6b,Int.natCast_pow];rfl
theorem Q6b(k z y:Nat)(hk:k<8)(hz:z<256^k)(hy:y<=255):bits .or .u64 (z:Int) (IntKind.u64.wrap ((y:Int)*2^(8*k)))=((z+256^k*y:Nat):Int):=by
 have hp:256^k*y+256^k<=256^(k+1):=by rw[Nat.pow_succ,<-Nat.mul_succ];exact Nat.mul_le_mul_left _ (by omega)
 have h8:(256:Nat)^(k+1)<=256^8:=Nat.pow_le_pow_right (by omega) (by omega);have e8:(256:Nat)^8=18446744073709551616:=by decide
 have hw:IntKind.u64.wrap ((y:Int)*2^(8*k))=((256^k*y:Nat):Int):=by rw[T1b,IntKind.wrap_u64,<-Int.natCast_mul,Nat.mul_comm];omega
 rw[hw,u64_or_nat z (256^k*y) (by omega) (by omega),Nat.or_comm,nat_join (8*k) (256^k*y) z (by rw[P6b];exact Nat.mul_mod_right _ _) (by rw[P6b];exact hz),Nat.add_comm]
theorem p4c(k:Nat)(z y:Int)(hk:k<8)(hz0:0<=z)(hz:z<256^k)(hy0:0<=y)(hy:y<=255):bits .or .u64 z (IntKind.u64.wrap (y*2^(8*k)))=z+256^k*y:=by
 obtain⟨a,rfl⟩:=Int.eq_ofNat_of_zero_le hz0;obtain⟨b,rfl⟩:=Int.eq_ofNat_of_zero_le hy0;rw[Q6b k a b hk (by
  have:((a:Int))<((256^k:Nat):Int):=by rw[Int.natCast_pow];exact hz
  omega) (by omega)]
 simp
theorem U2c{ys:List Int}{k:Nat}{z y:Int}(hb:Bytes ys)(hk:k<ys.length)(h8:k<8)(hz:z=num (ys.take k))(hy:y=ys.getD k 0) :
  bits .or .u64 z (IntKind.u64.wrap (y*2^(8*k)))=num (ys.take (k+1)):=by
 have h1:=t3b (ys.take k) (hb.take k);have h2:=hb.getD k;have hl:(ys.take k).length=k:=by simp;omega
 rw[hl,<-hz] at h1;rw[<-hy] at h2;rw[p4c k z y h8 h1.1 h1.2 h2.1 h2.2,List.take_succ_eq_append_getElem hk,N2c,hl,<-hz];have e:y=ys[k]:=by rw[hy];simp[List.getD_eq_getElem?_getD,hk]
 rw[e]
theorem V2c(n:Nat)(hn:n<=281474976710656):bits .and .i64 (-(n:Int)) 7=((e0c n-n:Nat):Int):=by
 have e1:(BitVec.ofInt 64 (7:Int)).toNat=7:=by decide
 have e2:(BitVec.ofInt 64 (-(n:Int))).toNat=(18446744073709551616-n)%18446744073709551616:=by rw[BitVec.toNat_ofInt];omega
 show IntKind.i64.wrap ((BitVec.ofInt 64 (-(n:Int)) &&& BitVec.ofInt 64 7).toNat:Int)=_
 rw[BitVec.toNat_and,e1,e2,nat_mask3,IntKind.wrap_i64];unfold e0c;omega
theorem h0b(s:Int):N4a 0 s=u3a s:=by
 unfold N4a;cases h:u3a s with
 | false=>rfl
 | true=>rcases S1a h with rfl | rfl | rfl | rfl<;>rfl
theorem O8a(w:World)(B:Nat)(A:Option Addr)(n c:Nat)(xs:List Int)(a s:Int)(h:Holds w B A n c xs)
(ha:-9223372036854775808<=a/\a<=9223372036854775807)(hs:-9223372036854775808<=s/\s<=9223372036854775807) :
  Calls prog 44 #[.slice A n c,.int .i64 a,.int .i64 s] w λe w'=>e=.returned (.tuple #[.int .u64 (A4a xs a s),.int .i64 (t2a n a s)])/\w=w':=by
 have hl:=hI h.len;by_cases hz:u3a s=true
 ·by_cases hp:R0a n a s=0
  ·have e1:t2a n a s=0:=by unfold t2a;rw[if_pos hz,hp]
   have e2:partOf xs a s=(xs.drop a.toNat).take s.toNat:=by unfold partOf;rw[hl.o,if_pos hp]
   have e3:A4a xs a s=num (partOf xs a s):=by unfold A4a;rw[hl.o,if_pos e1,e2]
   obtain⟨z,hzz⟩:=xX (num (partOf xs a s));rw[e1,e3,<-hzz];have HZ:=hI hzz;have H2:=hI e2;clear e1 e2 e3 hzz;have c1:=l9a w 0 s (by omega) hs;rw[h0b,hz] at c1;have C1:=hI c1;have c2:=t1b w B A n c xs a s h ha hs;rw[hp] at c2;have C2:=hI c2;have HS8:s.toNat<=8:=by rcases S1a hz with e | e | e | e<;>rw[e]<;>decide
   clear c1 c2 hz hp;go_enter func44,ntmps44;go_wp2_with fail;refine C1.o.mono ?_;rintro e w' ⟨rfl,rfl⟩;go_wp2_with fail;refine C2.o.mono ?_;rintro e w' ⟨A',rfl,hv,rfl⟩;obtain⟨ys,hys⟩:=xX (partOf xs a s);rw[<-hys] at hv HZ H2⊢;obtain⟨m,hm⟩:=xX ys.length;rw[<-hm] at hv⊢;have HM:=hI hm;have hm8:m<=8:=by rw[hm,H2.o,List.length_take];omega
   clear hys hm;have hvr:=hv.room;go_wp2_with fail;go_loop [10,11,12,28] (λv i x k=>∃k':Nat,k'<=m/\k=.int .i64 k'/\∃z',v=.int .u64 z'/\Hid (z'=num (ys.take k'))) (λ_ _ _ k=>m-(intOf k).toNat)
   case atStart=>exact⟨0,Nat.zero_le _,rfl,0,rfl,rfl⟩
   case round=>
    obtain⟨k,hk,rfl,z',rfl,HZ'⟩:=hrel;by_cases hlt:k<m
    ·obtain⟨b,off,rfl,hb,hc⟩:=hv.cells (by omega);have gc:=hc k hlt;clear hc;obtain⟨y,hy⟩:=xX (ys.getD k 0);rw[<-hy] at gc;have hy1:0<=y/\y<=255:=by rw[hy];exact hv.byte.getD k
     obtain⟨hy1,hy2⟩:=hy1;have HY:=hI hy;clear hy;have hS:=U2c hv.byte (by have:=HM.o;omega) (by omega) HZ'.o HY.o;have HS:=hI hS;clear hS HZ';go_wp2;go_roundw
     case rel=>exact⟨k+1,by omega,by go_num,_,rfl,HS⟩
     case measure=>simp[intOf];omega
    ·have hS:=hI (show z'=z by rw[HZ'.o,HZ.o,List.take_of_length_le (by have:=HM.o;omega)]);clear HZ';go_wp2;go_ret2;exact⟨by rw[hS.o];rfl,rfl⟩
  ·have e1:t2a n a s=R0a n a s:=by unfold t2a;rw[if_pos hz]
   have e3:A4a xs a s=0:=by unfold A4a;rw[hl.o,e1,if_neg hp]
   have e2:partOf xs a s=[]:=by unfold partOf;rw[hl.o,if_neg hp]
   have c1:=l9a w 0 s (by omega) hs;rw[h0b,hz] at c1;have C1:=hI c1;have c2:=t1b w B A n c xs a s h ha hs;rw[e1,e3];rw[e2] at c2;obtain⟨er,her⟩:=xX (R0a n a s);rw[<-her] at c2 hp⊢;have C2:=hI c2;have hne:(er != 0)=true:=by simpa using hp
   clear c1 c2 hz hp e1 e2 e3 her;go_enter func44,ntmps44;go_wp2_with fail;refine C1.o.mono ?_;rintro e w' ⟨rfl,rfl⟩;go_wp2_with fail;refine C2.o.mono ?_;rintro e w' ⟨A',rfl,hv,rfl⟩;go_wp2;go_ret2;exact⟨rfl,rfl⟩
 ·have hz':u3a s=false:=by simpa using hz
  have e1:t2a n a s=2:=by unfold t2a;rw[if_neg hz]
  have e3:A4a xs a s=0:=by unfold A4a;rw[hl.o,e1];rfl
  have c1:=l9a w 0 s (by omega) hs;rw[h0b,hz'] at c1;have C1:=hI c1;rw[e1,e3];clear c1 hz hz' e1 e3;go_enter func44,ntmps44;go_wp2_with fail;refine C1.o.mono ?_;rintro e w' ⟨rfl,rfl⟩;go_wp2;go_ret2;exact⟨rfl,rfl⟩
def Z2a(xs:List Int)(k:Nat):Int:=xs.getD k 0+256*xs.getD (k+1) 0
def a3a(xs:List Int)(k:Nat):Int×Nat:=
 if xs.length<k+2 then (0,0)
 else if 56320<=Z2a xs k/\Z2a xs k<57344 then (0,0)
 else if Z2a xs k<55296∨56320<=Z2a xs k then (Z2a xs k,2)
 else if xs.length<k+4 then (0,0)
 else if 56320<=Z2a xs (k+2)/\Z2a xs (k+2)<57344 then (65536+(Z2a xs k-55296)*1024+(Z2a xs (k+2)-56320),4)
 else (0,0)
def W2c(xs:List Int):Nat->Nat->Option (List Int)
 | 0,_=>some []
 | f+1,k=>if k<xs.length then (if (a3a xs k).2=0 then none else (W2c xs f (k+(a3a xs k).2)).map ((a3a xs k).1 :: ·)) else some []
def S8b(xs:List Int):Option (List Int):=W2c xs xs.length 0
def e4a(xs:List Int):List UInt8:=match S8b xs with | some rs=>rs.flatMap enc | none=>[]
def Z4a(xs:List Int):Int:=match S8b xs with | some _=>0 | none=>5
theorem h5a{xs:List Int}(h:Bytes xs)(k:Nat):0<=Z2a xs k/\Z2a xs k<=65535:=by have h1:=h.getD k;have h2:=h.getD (k+1);unfold Z2a;omega
theorem x5a{xs:List Int}(h:Bytes xs)(k:Nat) :
  a3a xs k=(0,0)∨((a3a xs k).2=2/\k+2<=xs.length/\C1a (a3a xs k).1/\(a3a xs k).1=Z2a xs k/\Z2a xs k<65536)∨
  ((a3a xs k).2=4/\k+4<=xs.length/\C1a (a3a xs k).1/\(a3a xs k).1=65536+(Z2a xs k-55296)*1024+(Z2a xs (k+2)-56320)/\55296<=Z2a xs k/\Z2a xs k<56320/\56320<=Z2a xs (k+2)/\Z2a xs (k+2)<57344):=by
 have h1:=h5a h k;have h2:=h5a h (k+2);unfold a3a;split
 ·exact .inl rfl
 split
 ·exact .inl rfl
 split
 ·refine .inr (.inl ⟨rfl,by omega,⟨by dsimp only;omega,by dsimp only;omega,by dsimp only;omega⟩,rfl,by omega⟩)
 split
 ·exact .inl rfl
 split
 ·refine .inr (.inr ⟨rfl,by omega,⟨by dsimp only;omega,by dsimp only;omega,by dsimp only;omega⟩,rfl,by omega,by omega,by omega,by omega⟩)
 ·exact .inl rfl
theorem m9a{xs:List Int}(h:Bytes xs):∀(f g k:Nat),xs.length<=k+f->xs.length<=k+g->W2c xs f k=W2c xs g k
 | 0,0,_,_,_=>rfl
 | 0,g+1,k,hf,_=>by simp[W2c,show ¬k<xs.length by omega]
 | f+1,0,k,_,hg=>by simp[W2c,show ¬k<xs.length by omega]
 | f+1,g+1,k,hf,hg=>by
  unfold W2c;by_cases hk:k<xs.length
  ·rw[if_pos hk,if_pos hk];rcases x5a h k with e | ⟨e,_⟩ | ⟨e,_⟩
   ·rw[e];rfl
   ·rw[m9a h f g (k+(a3a xs k).2) (by omega) (by omega)]
   ·rw[m9a h f g (k+(a3a xs k).2) (by omega) (by omega)]
  ·rw[if_neg hk,if_neg hk]
def x0c(xs:List Int)(k:Nat):Option (List Int):=W2c xs (xs.length-k) k
theorem y0c(xs:List Int):S8b xs=x0c xs 0:=rfl
theorem U1b{xs:List Int}(h:Bytes xs){k:Nat}(hk:k<xs.length):x0c xs k=if (a3a xs k).2=0 then none else (x0c xs (k+(a3a xs k).2)).map ((a3a xs k).1 :: ·):=by
 unfold x0c;obtain⟨n,hn⟩:∃n,xs.length-k=n+1:=⟨xs.length-k-1,by omega⟩;rw[hn,W2c,if_pos hk];rcases x5a h k with e | ⟨e,_⟩ | ⟨e,_⟩
 ·rw[e];rfl
 ·rw[m9a h n (xs.length-(k+(a3a xs k).2)) (k+(a3a xs k).2) (by omega) (by omega)]
 ·rw[m9a h n (xs.length-(k+(a3a xs k).2)) (k+(a3a xs k).2) (by omega) (by omega)]
theorem x4b{xs:List Int}{k:Nat}(hk:¬k<xs.length):x0c xs k=some []:=by unfold x0c;rw[show xs.length-k=0 by omega];rfl
theorem X2c{xs:List Int}(h:Bytes xs){P:Nat->Prop}(h0:∀k,¬k<xs.length->P k)(h1:∀k,k<xs.length->((a3a xs k).2≠0->P (k+(a3a xs k).2))->P k):∀k,P k:=by
 have key:∀n k,xs.length<=k+n->P k:=by
  intro n
  induction n with
  | zero=>exact λk hk=>h0 k (by omega)
  | succ n ih=>
   intro k hk;by_cases hlt:k<xs.length
   ·refine h1 k hlt λhne=>ih _ ?_
    rcases x5a h k with e | ⟨e,_⟩ | ⟨e,_⟩
    ·rw[e] at hne;exact absurd rfl hne
    ·omega
    ·omega
   ·exact h0 k hlt
 exact λk=>key xs.length k (by omega)
theorem v1b{xs:List Int}{k:Nat}(hk:k+2<=xs.length):xs.drop k=[xs.getD k 0,xs.getD (k+1) 0]++xs.drop (k+2):=by rw[List.drop_eq_getElem_cons (by omega),List.drop_eq_getElem_cons (by omega)];simp[List.getD_eq_getElem?_getD,show k<xs.length by omega,show k+1<xs.length by omega]
theorem z0c{xs:List Int}(h:Bytes xs)(k:Nat):∀rs,x0c xs k=some rs->(∀r∈rs,C1a r)/\k2a rs=xs.drop k:=by
 induction k using X2c h with
 | h0 k hk=>
  intro rs hr;rw[x4b hk] at hr;cases hr;refine⟨λ_ h=>(by cases h),?_⟩;rw[List.drop_of_length_le (by omega)];rfl
 | h1 k hk ih=>
  intro rs hr;rw[U1b h hk] at hr;by_cases h0:(a3a xs k).2=0
  ·rw[if_pos h0] at hr;cases hr
  ·rw[if_neg h0] at hr;obtain⟨qs,hq,rfl⟩:=Option.map_eq_some_iff.1 hr;obtain⟨i1,i2⟩:=ih h0 qs hq;rcases x5a h k with e | ⟨e,e1,e2,e3,e4⟩ | ⟨e,e1,e2,e3,e4,e5,e6,e7⟩
   ·rw[e] at h0;exact absurd rfl h0
   ·refine⟨λr hr=>?_,?_⟩
    ·rcases List.mem_cons.1 hr with rfl | hr
     ·exact e2
     ·exact i1 r hr
    ·unfold k2a at i2⊢;rw[List.flatMap_cons,i2,e,e3,B2a,if_pos e4,v1b e1];have b0:=h.getD k;have b1:=h.getD (k+1);unfold Z2a;rw[show(xs.getD k 0+256*xs.getD (k+1) 0)%256=xs.getD k 0 by omega,show(xs.getD k 0+256*xs.getD (k+1) 0)/256=xs.getD (k+1) 0 by omega]
   ·refine⟨λr hr=>?_,?_⟩
    ·rcases List.mem_cons.1 hr with rfl | hr
     ·exact e2
     ·exact i1 r hr
    ·unfold k2a at i2⊢;rw[List.flatMap_cons,i2,e,e3,B2a,if_neg (by omega),v1b (show k+2<=xs.length by omega),v1b (show k+2+2<=xs.length by omega)];have b0:=h.getD k;have b1:=h.getD (k+1);have b2:=h.getD (k+2);have b3:=h.getD (k+2+1);unfold Z2a at *;generalize xs.getD k 0=x0 at *;generalize xs.getD (k+1) 0=x1 at *;generalize xs.getD (k+2) 0=x2 at *;generalize xs.getD (k+2+1) 0=x3 at *;have q0:(55296+(65536+(x0+256*x1-55296)*1024+(x2+256*x3-56320)-65536)/1024)%256=x0:=by omega
     have q1:(55296+(65536+(x0+256*x1-55296)*1024+(x2+256*x3-56320)-65536)/1024)/256=x1:=by omega
     have q2:(56320+(65536+(x0+256*x1-55296)*1024+(x2+256*x3-56320)-65536)%1024)%256=x2:=by omega
     have q3:(56320+(65536+(x0+256*x1-55296)*1024+(x2+256*x3-56320)-65536)%1024)/256=x3:=by omega
     rw[q0,q1,q2,q3];rfl
theorem A5b{xs:List Int}(h:Bytes xs){rs:List Int}(hr:S8b xs=some rs):(∀r∈rs,C1a r)/\k2a rs=xs:=by have:=z0c h 0 rs hr;simpa using this
theorem A0c(pre:List Int)(r:Int)(hr:C1a r)(post:List Int):a3a (pre++(B2a r++post)) pre.length=(r,(B2a r).length):=by
 obtain⟨h0,h1,h2⟩:=hr;have g:∀(ys:List Int) i,(pre++ys).getD (pre.length+i) 0=ys.getD i 0:=λys i=>by rw[List.getD_eq_getElem?_getD,List.getElem?_append_right (by omega),Nat.add_sub_cancel_left,List.getD_eq_getElem?_getD]
 have g0:∀(ys:List Int),(pre++ys).getD pre.length 0=ys.getD 0 0:=λys=>g ys 0
 unfold a3a Z2a;rw[g0,g,Nat.add_assoc,g,g,List.length_append];unfold B2a;by_cases c:r<65536
 ·rw[if_pos c];simp only[List.cons_append,List.nil_append,List.length_cons,List.length_nil,List.getD_cons_zero,List.getD_cons_succ];rw[if_neg (by omega),if_neg (by omega),if_pos (by omega)];exact Prod.ext (by dsimp only;omega) rfl
 ·rw[if_neg c];simp only[List.cons_append,List.nil_append,List.length_cons,List.length_nil,List.getD_cons_zero,List.getD_cons_succ];rw[if_neg (by omega),if_neg (by omega),if_neg (by omega),if_neg (by omega),if_pos (by omega)];exact Prod.ext (by dsimp only;omega) rfl
theorem c8b:∀(rs:List Int) (_:∀r∈rs,C1a r) (pre:List Int) (_:Bytes pre),x0c (pre++k2a rs) pre.length=some rs
 | [],_,pre,_=>by rw[x4b (by simp[k2a])]
 | r::rs,h,pre,hp=>by
  have hr:=h r List.mem_cons_self;have hrs:∀x∈rs,C1a x:=λx hx=>h x (List.mem_cons_of_mem _ hx)
  have e:k2a (r::rs)=B2a r++k2a rs:=by simp[k2a]
  have hpos:2<=(B2a r).length:=by unfold B2a;split<;>simp
  have hb:Bytes (pre++k2a (r::rs)):=hp.append (k9a h);rw[U1b hb (by rw[e];simp;omega),e,A0c pre r hr];dsimp only;rw[if_neg (by omega),<-List.append_assoc];have:=c8b rs hrs (pre++B2a r) (hp.append (D8a hr));rw[List.length_append] at this;rw[this];rfl
theorem Y2c{rs:List Int}(h:∀r∈rs,C1a r):S8b (k2a rs)=some rs:=c8b rs h [] Bytes.nil
theorem i0b{n k:Nat}(hk:k<=n):t2a n k 2=if n<k+2 then 4 else 0:=by unfold t2a R0a;rw[if_pos (by decide),if_neg (by omega)];split<;>split<;>omega
theorem B5b{xs:List Int}{k:Nat}(hk:k+2<=xs.length):A4a xs k 2=Z2a xs k:=by
 unfold A4a;have he:t2a xs.length k 2=0:=by rw[i0b (by omega),if_neg (by omega)]
 rw[if_pos he];have:=v1b hk;rw[Int.toNat_natCast,this];simp[num,Z2a]
theorem C5b(w:World)(B:Nat)(A:Option Addr)(n c:Nat)(xs:List Int)(k:Nat)(h:Holds w B A n c xs)(hk:k<n) :
  Calls prog 150 #[.slice A n c,.int .i64 k] w λe w'=>e=.returned (.tuple #[.int .i32 (a3a xs k).1,.int .i64 (a3a xs k).2])/\w=w':=by
 have hl:=h.len;have hrm:=h.room;have b1:=h5a h.byte k;have b2:=h5a h.byte (k+2);have c1:=O8a w B A n c xs k 2 h (by omega) (by omega);have c2:=O8a w B A n c xs ((k:Int)+2) 2 h (by omega) (by omega);rw[show((k:Int)+2)=((k+2:Nat):Int) by omega] at c2;rw[i0b (by omega)] at c1;by_cases h1:n<k+2
 ·have e:a3a xs k=(0,0):=by unfold a3a;rw[if_pos (by omega)]
  rw[if_pos h1] at c1;rw[e];obtain⟨G,hG⟩:=xX (A4a xs k 2);rw[<-hG] at c1;have C1:=hI c1;clear c1 c2 e hG hl b1 b2;go_enter func150,ntmps150;go_wp2_with fail;refine C1.o.mono ?_;rintro e w' ⟨rfl,rfl⟩;go_wp2;go_ret2;exact⟨rfl,rfl⟩
 rw[if_neg h1,B5b (by omega)] at c1;obtain⟨u,hu⟩:=xX (Z2a xs k);rw[<-hu] at b1 c1;have cl:=λw=>g0b w u 56320 (by omega) (by omega)
 have ch:=λw=>g0b w u 55296 (by omega) (by omega)
 by_cases h2:56320<=u/\u<57344
 ·have e:a3a xs k=(0,0):=by unfold a3a;rw[<-hu,if_neg (by omega),if_pos h2]
  rw[e];have et:(u/1024==(56320:Int)/1024)=true:=by rw[beq_iff_eq];omega
  rw[et] at cl;have C1:=hI c1;have CL:=λw=>hI (cl w)
  clear c1 c2 e hl b2 cl ch et hu;go_enter func150,ntmps150;go_wp2_with fail;refine C1.o.mono ?_;rintro e w' ⟨rfl,rfl⟩;go_wp2_with fail;refine(CL _).o.mono ?_;rintro e w' ⟨rfl,rfl⟩;go_wp2;go_ret2;exact⟨rfl,rfl⟩
 have et:(u/1024==(56320:Int)/1024)=false:=by rw[beq_eq_false_iff_ne];omega
 rw[et] at cl;by_cases h3:u<55296∨56320<=u
 ·have e:a3a xs k=(u,2):=by unfold a3a;rw[<-hu,if_neg (by omega),if_neg h2,if_pos h3]
  rw[e];have eh:(u/1024==(55296:Int)/1024)=false:=by rw[beq_eq_false_iff_ne];omega
  rw[eh] at ch;have C1:=hI c1;have CL:=λw=>hI (cl w)
  have CH:=λw=>hI (ch w)
  clear c1 c2 e hl b2 cl ch et eh hu h2 h3;go_enter func150,ntmps150;go_wp2_with fail;refine C1.o.mono ?_;rintro e w' ⟨rfl,rfl⟩;go_wp2_with fail;refine(CL _).o.mono ?_;rintro e w' ⟨rfl,rfl⟩;go_wp2_with fail;refine(CH _).o.mono ?_;rintro e w' ⟨rfl,rfl⟩;go_wp2;go_ret2;exact⟨rfl,rfl⟩
 have eh:(u/1024==(55296:Int)/1024)=true:=by rw[beq_iff_eq];omega
 rw[eh] at ch;rw[i0b (by omega)] at c2;by_cases h4:n<k+4
 ·have e:a3a xs k=(0,0):=by unfold a3a;rw[<-hu,if_neg (by omega),if_neg h2,if_neg h3,if_pos (by omega)]
  rw[e];rw[if_pos (by omega)] at c2;obtain⟨G,hG⟩:=xX (A4a xs ((k+2:Nat):Int) 2);rw[<-hG,show(((k+2:Nat):Int))=(k:Int)+2 by omega] at c2;have C1:=hI c1;have C2:=hI c2;have CL:=λw=>hI (cl w)
  have CH:=λw=>hI (ch w)
  clear c1 c2 e hl b2 cl ch et eh hu h2 h3 hG;go_enter func150,ntmps150;go_wp2_with fail;refine C1.o.mono ?_;rintro e w' ⟨rfl,rfl⟩;go_wp2_with fail;refine(CL _).o.mono ?_;rintro e w' ⟨rfl,rfl⟩;go_wp2_with fail;refine(CH _).o.mono ?_;rintro e w' ⟨rfl,rfl⟩;go_wp2_with fail;refine C2.o.mono ?_;rintro e w' ⟨rfl,rfl⟩;go_wp2;go_ret2;exact⟨rfl,rfl⟩
 rw[if_neg (by omega),B5b (by omega)] at c2;obtain⟨x,hx⟩:=xX (Z2a xs (k+2));rw[<-hx] at b2;rw[<-hx,show(((k+2:Nat):Int))=(k:Int)+2 by omega] at c2;have cx:=λw=>g0b w x 56320 (by omega) (by omega)
 by_cases h5:56320<=x/\x<57344
 ·have e:a3a xs k=(65536+(u-55296)*1024+(x-56320),4):=by unfold a3a;rw[<-hu,<-hx,if_neg (by omega),if_neg h2,if_neg h3,if_neg (by omega),if_pos h5]
  rw[e,show 65536+(u-55296)*1024+(x-56320)=65536+(u%1024*1024+x%1024) by omega];have ex:(x/1024==(56320:Int)/1024)=true:=by rw[beq_iff_eq];omega
  rw[ex] at cx;have C1:=hI c1;have C2:=hI c2;have CL:=λw=>hI (cl w)
  have CH:=λw=>hI (ch w)
  have CX:=λw=>hI (cx w)
  have a1:=S1b u (by omega) (by omega);have a2:=S1b x (by omega) (by omega);have a3:=v4b (u%1024) (x%1024) (by omega) (by omega) (by omega) (by omega);clear c1 c2 e hl cl ch cx et eh ex hu hx h2 h3;go_enter func150,ntmps150;go_wp2_with fail;refine C1.o.mono ?_;rintro e w' ⟨rfl,rfl⟩;go_wp2_with fail;refine(CL _).o.mono ?_;rintro e w' ⟨rfl,rfl⟩;go_wp2_with fail;refine(CH _).o.mono ?_;rintro e w' ⟨rfl,rfl⟩;go_wp2_with fail;refine C2.o.mono ?_;rintro e w' ⟨rfl,rfl⟩;go_wp2_with fail;refine(CX _).o.mono ?_;rintro e w' ⟨rfl,rfl⟩;go_wp2;go_ret2;exact⟨rfl,rfl⟩
 ·have e:a3a xs k=(0,0):=by unfold a3a;rw[<-hu,<-hx,if_neg (by omega),if_neg h2,if_neg h3,if_neg (by omega),if_neg h5]
  rw[e];have ex:(x/1024==(56320:Int)/1024)=false:=by rw[beq_eq_false_iff_ne];omega
  rw[ex] at cx;have C1:=hI c1;have C2:=hI c2;have CL:=λw=>hI (cl w)
  have CH:=λw=>hI (ch w)
  have CX:=λw=>hI (cx w)
  clear c1 c2 e hl cl ch cx et eh ex hu hx h2 h3 h5;go_enter func150,ntmps150;go_wp2_with fail;refine C1.o.mono ?_;rintro e w' ⟨rfl,rfl⟩;go_wp2_with fail;refine(CL _).o.mono ?_;rintro e w' ⟨rfl,rfl⟩;go_wp2_with fail;refine(CH _).o.mono ?_;rintro e w' ⟨rfl,rfl⟩;go_wp2_with fail;refine C2.o.mono ?_;rintro e w' ⟨rfl,rfl⟩;go_wp2_with fail;refine(CX _).o.mono ?_;rintro e w' ⟨rfl,rfl⟩;go_wp2;go_ret2;exact⟨rfl,rfl⟩
theorem B0c(rs:List Int)(h:∀r∈rs,C1a r):strOfNums (rs.flatMap Lib.encodeRuneZ)=⟨(rs.flatMap enc).toArray⟩:=by
 unfold strOfNums;have e:(rs.flatMap Lib.encodeRuneZ).map (λn=>UInt8.ofNat n.toNat)=rs.flatMap enc:=by
  induction rs with
  | nil=>rfl
  | cons r rs ih=>rw[List.flatMap_cons,List.map_append,ih λx hx=>h x (List.mem_cons_of_mem _ hx),List.flatMap_cons,f0b (h r List.mem_cons_self)];rfl
 rw[e]
theorem j3b(w:World)(base:Nat)(v:Value)(xs:List Int)(r:Int)(hr:C1a r)(h:d4a .u8 5 w base v xs)(hl:xs.length+4<=140737488355328)(hb:base<=w.heap.size) :
  Calls prog 151 #[v,.int .i32 r] w λe w'=>∃v',e=.returned v'/\d4a .u8 5 w' base v' (xs++Lib.encodeRuneZ r)/\a0c w w' v:=by
 obtain⟨r0,r1,_⟩:=hr;refine(Tryz.utf8_AppendRune_plain base v xs.length (xs.map (Value.int .u8)) r (by omega) (by omega) w h hl hb).mono ?_;rintro e w' ⟨v',rfl,ho,hg⟩;refine⟨v',rfl,?_,hg⟩;unfold d4a;rw[List.length_append,List.map_append];unfold Lib.runeCells at ho
 rwa [List.length_map] at ho
def C0c(w:World)(xs:List Int)(e:Ending)(w':World):Prop:=e=.returned (.tuple #[.string ⟨(e4a xs).toArray⟩,.int .i64 (Z4a xs)])/\BW w w'
theorem Z2c(w:World)(A:Option Addr)(n c:Nat)(xs:List Int)(h:Holds w w.heap.size A n c xs)(hn:n<=17592186044416) :
  Calls prog 146 #[.slice A n c] w (C0c w xs):=by
 have hl:=hI h.len;have hby:=h.byte;have hq:∀o,S8b xs=o->∀e w',(e=.returned (.tuple #[.string ⟨(match o with | some rs=>rs.flatMap enc | none=>[]).toArray⟩,.int .i64 (match o with | some _=>0 | none=>5)])/\BW w w')->C0c w xs e w':=by intro o ho e w' hh;subst ho;exact hh
 have HQ:=hI hq;obtain⟨O,hO⟩:∃O,S8b xs=O:=⟨_,rfl⟩;have HO:=hI hO;clear hq hO;go_enter func146,ntmps146;go_wp2_with(at_make;refine f7a rfl .u8 31 5 1 underlying31 i3a _ _ rfl _ n rfl rfl rfl (by omega) (by rw[h9a];omega) ?_;intro w1 ho1 hb1);have hs1:=hb1.size;go_loopw [4,5,6,7] (λv i _ _ wr=>∃(k:Nat) (rs:List Int),i=.int .i64 k/\Hid (d4a .u8 5 wr w.heap.size v (rs.flatMap Lib.encodeRuneZ))/\BW w wr/\Hid (∀r∈rs,C1a r)/\Hid ((x0c xs k).map (rs ++ ·)=O)/\Hid ((rs.flatMap Lib.encodeRuneZ).length<=4*k)/\k<=n) (λ_ i _ _ _=>n-(intOf i).toNat)
 case atStart=>
  refine⟨0,[],rfl,ho1.o.own,hb1,(λ_ h=>by cases h),?_,(by show _<=_;simp),by omega⟩;show _=_
  rw[<-HO.o,y0c];cases x0c xs 0<;>rfl
 case round=>
  obtain⟨k,rs,rfl,HV,hb,HR,HE,HL,hk⟩:=hrel;by_cases hlt:k<n
  ·have hstep:=U1b hby (k:=k) (by have:=hl.o;omega);have hc:=x5a hby k;have c1:=C5b wr w.heap.size A n c xs k (h.below hb) hlt;obtain⟨r,hr⟩:=xX ((a3a xs k).1);obtain⟨z,hz⟩:=xX ((a3a xs k).2);rw[<-hr,<-hz] at c1 hstep;have C1:=hI c1;have hbs:=hb.size;by_cases h0:z=0
   ·subst h0;have HN:Hid (O=none):=by have:=HE.o;rw[hstep,if_pos rfl] at this;exact this.symm
    clear hc hstep c1 hr hz HE;go_wp2_with fail;refine C1.o.mono ?_;rintro e w' ⟨rfl,rfl⟩;go_wp2;go_ret2;refine HQ.o O HO.o _ _ ⟨?_,hb⟩;rw[HN.o];rfl
   ·have hrl:C1a r/\k+z<=n/\2<=z:=by
     have:=hl.o;rcases hc with e | ⟨e,e1,e2,_⟩ | ⟨e,e1,e2,_⟩
     ·rw[e] at hz;exact absurd hz h0
     ·rw[hr,hz];exact⟨e2,by omega,by omega⟩
     ·rw[hr,hz];exact⟨e2,by omega,by omega⟩
    obtain⟨hrl,hkz,hz2⟩:=hrl;have HE':Hid ((x0c xs (k+z)).map ((rs++[r]) ++ ·)=O):=by
     have:=HE.o;rw[hstep,if_neg h0,Option.map_map] at this;show _=_
     rw[<-this]
     congr 1
     funext y;simp
    have HRL:=hI hrl;have hz4:(Lib.encodeRuneZ r).length<=4:=(Lib.encodeRuneZ_length r).2;have c2:=hI (j3b wr _ _ (rs.flatMap Lib.encodeRuneZ) r hrl HV.o (by have:=HL.o;omega) hbs);have hz0:((z:Int)==0)=false:=by rw[beq_eq_false_iff_ne];omega
    obtain⟨r0,r1,_⟩:=hrl;clear hc hstep c1 hr hz HE;go_wp2_with fail;refine C1.o.mono ?_;rintro e w' ⟨rfl,rfl⟩;go_wp2_with fail;refine c2.o.mono ?_;rintro e w3 ⟨v3,rfl,ho3,hg3⟩;have hb3:=hg3.below HV.o hbs;have HO3:=hI ho3;clear ho3 hg3 c2;go_wp2;go_roundw
    case rel=>
     refine⟨k+z,rs++[r],by go_num,?_,hb.trans hb3,?_,HE',?_,hkz⟩
     ·show d4a _ _ _ _ _ _
      have:=HO3.o;simpa using this
     ·intro x hx;rcases List.mem_append.1 hx with hx | hx
      ·exact HR.o x hx
      ·rcases List.mem_singleton.1 hx with rfl
       exact HRL.o
     ·show _<=_
      have:=HL.o;rw[List.flatMap_append,List.length_append,List.flatMap_cons,List.flatMap_nil,List.append_nil];omega
    case measure=>simp[intOf];omega
  ·obtain rfl:k=n:=by omega
   have hend:=x4b (xs:=xs) (k:=k) (by have:=hl.o;omega);have HS:Hid (O=some rs):=by
    have:=HE.o;rw[hend] at this;show _=_
    simpa using this.symm
   have hcv:=h3b (P:=prog) (src:=31) underlying31 underlying5 HV.o;rw[B0c rs HR.o] at hcv;obtain⟨T,hT⟩:∃T:ByteArray,T=⟨(rs.flatMap enc).toArray⟩:=⟨_,rfl⟩;rw[<-hT] at hcv;have HT:=hI hT;clear hend hT HE;go_wp2;go_ret2;refine HQ.o O HO.o _ _ ⟨?_,hb⟩;rw[HS.o,HT.o];rfl
def x3b(n:Nat):Int:=if n<=65535 then 0 else 3
def rowOf(xs:List Int):List Int:=if xs.length<=65535 then le xs.length 2++xs else []
theorem R6b{xs:List Int}(h:Bytes xs):Bytes (rowOf xs):=by
 unfold rowOf;split
 ·exact(F0a _ _).append h
 ·exact Bytes.nil
theorem D0c(xs:List Int)(h:xs.length<=65535):(rowOf xs).length=xs.length+2:=by unfold rowOf;rw[if_pos h,List.length_append,g0a];omega
def W0b(xs:List Int)(a:Int):Int:=Y0a xs a.toNat 2
def X1a(xs:List Int)(a most:Int):Int:=if a<0∨(xs.length:Int)<a then 2 else if (xs.length:Int)-a<2 then 4 else if most<W0b xs a then 3 else if (xs.length:Int)-a-2<W0b xs a then 4 else 0
def d2a(xs:List Int)(a most:Int):List Int:=if X1a xs a most=0 then (xs.drop (a.toNat+2)).take (W0b xs a).toNat else []
def L3a(xs:List Int)(a most:Int):Int:=if X1a xs a most=0 then a+2+W0b xs a else 0
def z0a(l:List UInt8):Int:=if A3a l=0 then (if (U1a l).length<=512 then 0 else 3) else A3a l
def C0a(l:List UInt8):List Int:=if z0a l=0 then rowOf (U1a l) else []
def V0a(xs:List Int)(a:Int):Int:=if X1a xs a 512=0 then Z4a (d2a xs a 512) else X1a xs a 512
def Y1a(xs:List Int)(a:Int):List UInt8:=if V0a xs a=0 then e4a (d2a xs a 512) else []
def Z0a(xs:List Int)(a:Int):Int:=if V0a xs a=0 then L3a xs a 512 else 0
theorem y5a(xs:List Int)(h:Bytes xs)(a:Int):0<=W0b xs a/\W0b xs a<=65535:=by have:=T1a xs h a.toNat 2 65536 (by decide);unfold W0b;omega
theorem z7a{xs:List Int}{a most:Int}(h:X1a xs a most=0):0<=a/\a+2+W0b xs a<=xs.length/\W0b xs a<=most:=by
 unfold X1a at h;by_cases h1:a<0∨(xs.length:Int)<a
 ·rw[if_pos h1] at h;omega
 ·rw[if_neg h1] at h;by_cases h2:(xs.length:Int)-a<2
  ·rw[if_pos h2] at h;omega
  ·rw[if_neg h2] at h;by_cases h3:most<W0b xs a
   ·rw[if_pos h3] at h;omega
   ·rw[if_neg h3] at h;by_cases h4:(xs.length:Int)-a-2<W0b xs a
    ·rw[if_pos h4] at h;omega
    ·omega
theorem A7a{xs:List Int}(h:Bytes xs)(a most:Int):Bytes (d2a xs a most):=by
 unfold d2a;split
 ·exact(h.drop _).take _
 ·exact Bytes.nil
theorem j0b{xs:List Int}{a most:Int}(hx:Bytes xs)(h:X1a xs a most=0):((d2a xs a most).length:Int)=W0b xs a:=by have h1:=z7a h;have h2:=y5a xs hx a;unfold d2a;rw[if_pos h,List.length_take,List.length_drop];omega
theorem D5b{xs:List Int}(hx:Bytes xs)(a most:Int):(d2a xs a most).length<=65535:=by
 by_cases h:X1a xs a most=0
 ·have:=j0b hx h;have:=y5a xs hx a;omega
 ·unfold d2a;rw[if_neg h];simp
def p4a(w:World)(xs:List Int)(a m:Int)(e:Ending)(w':World):Prop:=∃A',e=.returned (.tuple #[.slice A' (partOf xs a m).length (partOf xs a m).length,.int .i64 (R0a xs.length a m)])/\p2a w' w.heap.size A' (partOf xs a m)/\BW w w'
theorem l8a(w:World)(A:Option Addr)(n c:Nat)(xs:List Int)(a m:Int)(h:Holds w w.heap.size A n c xs)
(ha:-9223372036854775808<=a/\a<=9223372036854775807)(hm:-9223372036854775808<=m/\m<=9223372036854775807) :
  Calls prog 23 #[.slice A n c,.int .i64 a,.int .i64 m] w (p4a w xs a m):=by
 have hl:=hI h.len;have c2:=t1b w _ A n c xs a m h ha hm;have hq:∀e w',(∃A',e=.returned (.tuple #[.slice A' (partOf xs a m).length (partOf xs a m).length,.int .i64 (R0a n a m)])/\p2a w' w.heap.size A' (partOf xs a m)/\BW w w')->p4a w xs a m e w':=by intro e w' hh;unfold p4a;rw[hl.o];exact hh
 have HQ:=hI hq;clear hq;by_cases hp:R0a n a m=0
 ·rw[hp] at c2 HQ;have e2:(partOf xs a m).length=m.toNat/\0<=m:=by
   have h1:=hl.o;unfold partOf;rw[h1,if_pos hp];unfold R0a at hp;by_cases g1:a<0∨(n:Int)<a∨m<0
   ·rw[if_pos g1] at hp;omega
   ·by_cases g2:(n:Int)-a<m
    ·rw[if_neg g1,if_pos g2] at hp;omega
    ·rw[List.length_take,List.length_drop,h1];omega
  obtain⟨j,rfl⟩:=Int.eq_ofNat_of_zero_le e2.2;have e3:(partOf xs a j).length=j:=by rw[e2.1];rfl
  obtain⟨ys,hys⟩:=xX (partOf xs a j);rw[<-hys] at c2 HQ e3;rw[e3] at c2 HQ;have C2:=hI c2;have HYS:=hI hys;clear c2 hp e2 e3 hys;go_enter func23,ntmps23;go_wp2_with fail;refine C2.o.mono ?_;rintro e w' ⟨A',rfl,hv,rfl⟩;have hjr:=hv.room;go_wp2_with(first|(at_make;refine K1a _ rfl (.tmp 21) (.tmp 21) rfl _ _ j rfl rfl rfl rfl (by omega) ?_;intro w1 hrow hb1)|(refine sN 25 ?_;refine d0b rfl (.tmp 23) (.tmp 24) rfl w.heap.size j j j j A' rfl rfl _ ys _ hrow (hv.below hb1) (Nat.le_refl _) (by simp) ?_;intro w2 hrow2 hb2))
  go_ret2;refine HQ.o _ _ ⟨_,rfl,.inr ⟨_,rfl,Nat.le_refl _,?_⟩,hb1.trans hb2⟩;have:=hrow2.o;simpa using this
 ·have e2:partOf xs a m=[]:=by unfold partOf;rw[hl.o,if_neg hp]
  rw[e2] at c2 HQ;obtain⟨er,her⟩:=xX (R0a n a m);rw[<-her] at c2 hp HQ;have C2:=hI c2;have hne:(er != 0)=true:=by simpa using hp
  clear c2 hp e2 her;go_enter func23,ntmps23;go_wp2_with fail;refine C2.o.mono ?_;rintro e w' ⟨A',rfl,hv,rfl⟩;go_wp2;go_ret2;exact HQ.o _ _ ⟨_,rfl,.inl ⟨rfl,rfl⟩,Below.refl _ _⟩
theorem y4b(w:World)(B:Nat)(A:Option Addr)(n c:Nat)(xs:List Int)(a m:Int)(h:Holds w B A n c xs)
(ha:-9223372036854775808<=a/\a<=9223372036854775807)(hm:-9223372036854775808<=m/\m<=9223372036854775807) :
  Calls prog 130 #[.slice A n c,.int .i64 a,.int .i64 m] w λe w'=>e=.returned (.bool (zeroOf xs a m))/\w=w':=by
 have hl:=hI h.len;have c2:=t1b w B A n c xs a m h ha hm;by_cases hp:R0a n a m=0
 ·have e0:zeroOf xs a m=(partOf xs a m).all (· == 0):=by unfold zeroOf;rw[hl.o,hp];simp
  rw[hp] at c2;obtain⟨ys,hys⟩:=xX (partOf xs a m);rw[<-hys] at c2 e0;obtain⟨j,hj⟩:=xX ys.length;rw[<-hj] at c2;obtain⟨z,hz⟩:=xX (zeroOf xs a m);rw[<-hz] at e0⊢;have C2:=hI c2;have E0:=hI e0;have HJ:=hI hj;clear c2 hp hys hj hz e0;go_enter func130,ntmps130;go_wp2_with fail;refine C2.o.mono ?_;rintro e w' ⟨A',rfl,hv,rfl⟩;have hjr:=hv.room;go_wp2_with fail;go_loop [10,22] (λ_ k=>∃k':Nat,k'<=j/\k=.int .i64 k'/\Hid ((ys.take k').all (· == 0)=true)) (λ_ k=>j-(intOf k).toNat)
  case atStart=>exact⟨0,Nat.zero_le _,rfl,rfl⟩
  case round=>
   obtain⟨k,hk,rfl,HT⟩:=hrel;by_cases hlt:k<j
   ·obtain⟨b,off,rfl,hb,hc⟩:=hv.cells (by omega);have gc:=hc k hlt;clear hc;have hky:k<ys.length:=by have:=HJ.o;omega
    obtain⟨y,hy⟩:=xX (ys.getD k 0);rw[<-hy] at gc;have ey:ys[k]=y:=by rw[hy];simp[List.getD_eq_getElem?_getD,hky]
    by_cases hy0:y=0
    ·have hS:Hid ((ys.take (k+1)).all (· == 0)=true):=by
      show _=_
      rw[List.take_succ_eq_append_getElem hky,List.all_append,HT.o,ey,hy0];rfl
     clear HT hky ey hy;subst hy0;go_wp2;go_round
     case rel=>exact⟨k+1,by omega,by go_num,hS⟩
     case measure=>simp[intOf];omega
    ·have hS:Hid (z=false):=by
      show _=_
      rw[E0.o,List.all_eq_false];exact⟨ys[k],List.getElem_mem hky,by rw[ey];simpa using hy0⟩
     clear HT hky ey hy;have hne:(y != 0)=true:=by simpa using hy0
     clear hy0;go_wp2;go_ret;exact⟨N0a hS.o.symm,rfl⟩
   ·have hS:Hid (z=true):=by
     show _=_
     rw[E0.o,<-HT.o,List.take_of_length_le (by have:=HJ.o;omega)]
    clear HT;go_wp2;go_ret;exact⟨N0a hS.o.symm,rfl⟩
 ·have e0:zeroOf xs a m=false:=by unfold zeroOf;rw[hl.o];simp[hp]
  rw[e0];obtain⟨er,her⟩:=xX (R0a n a m);rw[<-her] at c2 hp;have C2:=hI c2;have hne:(er != 0)=true:=by simpa using hp
  clear c2 hp e0 her;go_enter func130,ntmps130;go_wp2_with fail;refine C2.o.mono ?_;rintro e w' ⟨A',rfl,hv,rfl⟩;go_wp2;go_ret;exact⟨rfl,rfl⟩
theorem T8b(n:Int)(s k:Nat)(h:k<s)(hk:k<(le n s).length):(le n s)[k]=n/256^k%256:=by
 induction s generalizing n k with
 | zero=>omega
 | succ s ih=>
  cases k with
  | zero=>simp[le]
  | succ k=>simp only[le,List.getElem_cons_succ];rw[ih (n/256) k (by omega) (by rw[g0a];omega),Int.pow_succ,Int.mul_comm,Int.ediv_ediv_of_nonneg (by omega)]
def putRow(n:Int)(s k:Nat):List Int:=(le n s).take k++List.replicate (s-k) 0
theorem z4b(n:Int)(s k:Nat)(hk:k<=s):(putRow n s k).length=s:=by simp[putRow,g0a];omega
theorem putRow_set(n:Int)(s k:Nat)(hk:k<s)(x:Int)(hx:x=n/256^k%256):(putRow n s k).set k x=putRow n s (k+1):=by
 have hl:((le n s).take k).length=k:=by simp[g0a];omega
 have hkl:k<(le n s).length:=by rw[g0a];omega
 unfold putRow;rw[List.set_append_right _ _ (by omega),hl,Nat.sub_self,show s-k=(s-(k+1))+1 from by omega,List.replicate_succ,List.set_cons_zero,List.take_succ_eq_append_getElem hkl,T8b n s k hk hkl,hx,
  List.append_assoc]
 rfl
theorem S6b(n:Int)(s:Nat):putRow n s 0=List.replicate s 0:=by simp[putRow]
theorem T6b(n:Int)(s:Nat):putRow n s s=le n s:=by unfold putRow;rw[List.take_of_length_le (by rw[g0a];omega)];simp
def z5a(w:World)(n s:Int)(e:Ending)(w':World):Prop:=∃A',e=.returned (.tuple #[.slice A' (N5a n s).length (N5a n s).length,.int .i64 (e7a n s)])/\p2a w' w.heap.size A' (N5a n s)/\BW w w'
theorem P8a(w:World)(n s:Int)(hn:0<=n/\n<=18446744073709551615)(hs:-9223372036854775808<=s/\s<=9223372036854775807) :
  Calls prog 32 #[.int .u64 n,.int .i64 s] w (z5a w n s):=by
 have c1:=l9a w n s hn hs;obtain⟨hn0,hn1⟩:=hn;by_cases hp:N4a n s=true
 ·have hz:u3a s=true:=by unfold N4a at hp;simp at hp;exact hp.1
  have hs8:1<=s/\s<=8:=by rcases S1a hz with e | e | e | e<;>omega
  obtain⟨hs1,hs8⟩:=hs8;obtain⟨j,rfl⟩:=Int.eq_ofNat_of_zero_le (show 0<=s by omega);have hq:∀e w',(∃A',e=.returned (.tuple #[.slice A' j j,.int .i64 0])/\p2a w' w.heap.size A' (le n j)/\BW w w')->z5a w n j e w':=by intro e w' hh;unfold z5a N5a e7a;rw[if_pos hp,if_pos hp,Int.toNat_natCast,g0a];exact hh
  have HQ:=hI hq;rw[hp] at c1;have C1:=hI c1;clear c1 hp hz hq;go_enter func32,ntmps32;go_wp2_with fail;refine C1.o.mono ?_;rintro e w' ⟨rfl,rfl⟩;go_wp2_with(at_make;refine K1a _ rfl (.tmp 12) (.tmp 12) rfl _ _ j rfl rfl rfl rfl (by omega) ?_;intro w1 hrow hb1);go_loopw [7,16] (λ_ k wr=>∃k':Nat,k'<=j/\k=.int .i64 k'/\Hid (Row wr w.heap.size (putRow n j k'))/\BW w wr) (λ_ k _=>j-(intOf k).toNat)
  case atStart=>exact⟨0,Nat.zero_le _,rfl,by rw[S6b];exact hrow,hb1⟩
  case round=>
   obtain⟨k,hk,rfl,hR,hb⟩:=hrel;by_cases hlt:k<j
   ·have hl:=z4b n j k hk;have hc:=hR.o.cell (i:=k) (by omega);have hz:=hR.o.frozen k;obtain⟨old,hold⟩:=xX ((putRow n j k).getD k 0);rw[<-hold] at hc;clear hl hold;have e:=putRow_set n j k hlt (n/2^(8*k)%256) (by rw[T1b,Int.natCast_pow];rfl);have hS:Hid (Row (wr.setCell ⟨w.heap.size,k,none⟩ (.int .u8 (n/2^(8*k)%256))) w.heap.size (putRow n j (k+1))):=by rw[<-e];exact hR.o.set k _
    clear e hR;go_wp2;go_roundw
    case rel=>exact⟨k+1,by omega,by go_num,hS,hb.setCell (Nat.le_refl _) _⟩
    case measure=>simp[intOf];omega
   ·have hS:Hid (Row wr w.heap.size (le n j)):=by
     have:=hR.o
     rwa [show k=j from by omega,T6b] at this
    clear hR;go_wp2;go_ret2;exact HQ.o _ _ ⟨_,rfl,.inr ⟨_,rfl,Nat.le_refl _,hS⟩,hb⟩
 ·have hp':N4a n s=false:=by simpa using hp
  have hq:∀e w',(∃A',e=.returned (.tuple #[.slice A' 0 0,.int .i64 2])/\p2a w' w.heap.size A' []/\BW w w')->z5a w n s e w':=by intro e w' hh;unfold z5a N5a e7a;rw[if_neg hp,if_neg hp];exact hh
  have HQ:=hI hq;rw[hp'] at c1;have C1:=hI c1;clear c1 hp hp' hq;go_enter func32,ntmps32;go_wp2_with fail;refine C1.o.mono ?_;rintro e w' ⟨rfl,rfl⟩;go_wp2;go_ret2;exact HQ.o _ _ ⟨_,rfl,.inl ⟨rfl,rfl⟩,Below.refl _ _⟩
def Blk(w:World)(g:Nat)(T:TypeId)(cs:List Value):Prop:=w.heap[g]? = some (.cells cs.toArray T (0,0))
def m0a(h:Hd):List Value:=.int .u16 h.ch::.int .u32 h.st::.int .u16 h.cm::.int .u16 h.cr::.int .u32 h.fl::.int .u32 h.nx::.int .u64 h.id::.int .u64 h.asy::.int .u32 h.tr::.int .u64 h.se::h.sg.map (Value.int .u8)
def hv(h:Hd):Value:=.agg (m0a h).toArray
def HB(w:World)(g:Nat)(h:Hd):Prop:=Blk w g 28 (m0a h)
structure W0a (g:Nat) (w w':World):Prop where
 os:w'.os=w.os
 tape:w'.tape=w.tape
 output:w'.output=w.output
 size:w.heap.size<=w'.heap.size
 rest:∀j,j<w.heap.size->j≠g->w'.heap[j]? = w.heap[j]?
section
variable {w w' w2:World} {g g' B:Nat} {T T':TypeId} {cs cs':List Value} {h h':Hd} {k:IntKind} {xs:List Int}
theorem W0a.refl(g:Nat)(w:World):W0a g w w:=⟨rfl,rfl,rfl,Nat.le_refl _,λ_ _ _=>rfl⟩
theorem W0a.trans(a:W0a g w w')(b:W0a g w' w2):W0a g w w2:=⟨b.os.trans a.os,b.tape.trans a.tape,b.output.trans a.output,Nat.le_trans a.size b.size,λj hj hg=>(b.rest j (Nat.lt_of_lt_of_le hj a.size) hg).trans (a.rest j hj hg)⟩
theorem W0a.of_below(hb:BW w w')(g:Nat):W0a g w w':=⟨hb.os,hb.tape,hb.output,hb.size,λj hj _=>hb.block j hj⟩
theorem W0a.of_only(hO:s2a g w w'):W0a g w w':=⟨hO.os,hO.tape,hO.output,Nat.le_of_eq hO.size.symm,λj _ hg=>hO.rest j hg⟩
theorem W0a.below(a:W0a g w w')(hg:B<=g)(hB:B<=w.heap.size):Below B w w':=⟨a.os,a.tape,a.output,a.size,λj hj=>a.rest j (by omega) (by omega)⟩
theorem d1a(w:World)(g i:Nat)(v:Value):s2a g w (w.setCell ⟨g,i,none⟩ v):=(s2a.refl g w).setCell i v
theorem c0a(hb:Below B w w')(hO:s2a g w' w2)(hg:B<=g):Below B w w2:=hb.trans (hO.below hg)
theorem Blk.lt(a:Blk w g T cs):g<w.heap.size:=(Array.getElem?_eq_some_iff.1 a).1
theorem Blk.cell(a:Blk w g T cs)(i:Nat):w.cell? ⟨g,i,none⟩=cs[i]?:=by rw[cell_of_row w g i _ T (0,0) a];simp
theorem Blk.frozen(a:Blk w g T cs)(i:Nat):w.frozen? ⟨g,i,none⟩=false:=frozen_of_row w g i _ T a
theorem Blk.below(a:Blk w g T cs)(hb:Below B w w')(hg:g<B):Blk w' g T cs:=(hb.block g hg).trans a
theorem Blk.over(a:Blk w g T cs)(hb:BW w w'):Blk w' g T cs:=a.below hb a.lt
theorem Blk.only(a:Blk w g T cs)(hO:s2a g' w w')(hg:g≠g'):Blk w' g T cs:=(hO.rest g hg).trans a
theorem Blk.save(a:Blk w g T cs)(hS:W0a g' w w')(hg:g≠g'):Blk w' g T cs:=(hS.rest g a.lt hg).trans a
theorem l2a{p:Prop}{B g h a:Nat}{w v v':World}{T T':TypeId}{zs C:List Value}(hP:p)(hS:W0a g v v')(Z:Hid (Blk v h T zs))(K:Hid (Blk v a T' C))(L:Hid (Below B w v))(h1:h≠g)(h2:a≠g)(hg:B<=g)(hB:B<=w.heap.size:=by exact Nat.le_refl _) :
  Hid p/\Hid (Blk v' h T zs)/\Hid (Blk v' a T' C)/\Hid (Below B w v'):=⟨hP,Z.o.save hS h1,K.o.save hS h2,L.o.trans (hS.below hg (Nat.le_trans hB L.o.size))⟩
theorem C2a{p:Prop}{B h a:Nat}{w v v':World}{T:TypeId}{zs:List Value}(hP:p)(Z:Hid (Blk v h T zs))(L:Hid (Below B w v))(O:Hid (s2a a v v'))(h1:h≠a)(h2:B<=a) :
  Hid p/\Hid (Blk v' h T zs)/\Hid (Below B w v'):=⟨hP,Z.o.only O.o h1,c0a L.o O.o h2⟩
theorem Blk.drew(a:Blk w g T cs):Blk w.drew g T cs:=a
theorem Blk.drewN(a:Blk w g T cs)(n:Nat):Blk (w.drewN n) g T cs:=a
theorem Blk.alloc(a:Blk w g T cs)(o:Obj):Blk (w.alloc o) g T cs:=(Below.heap_alloc _ _ _ a.lt).trans a
theorem Blk.new(w:World)(T:TypeId)(cs:List Value):Blk (w.alloc (.cells cs.toArray T)) w.heap.size T cs:=heap_alloc_new w _
theorem Blk.set(a:Blk w g T cs)(i:Nat)(v:Value):Blk (w.setCell ⟨g,i,none⟩ v) g T (cs.set i v):=by have h1:=heap_setCell_same w g i _ T v a;unfold Blk;rw[h1];simp
theorem Blk.range(a:Blk w g T cs)(o:Nat):w.rangeAt g o (cs.drop o):=λj v hj=>by rw[a.cell,<-hj,List.getElem?_drop]
theorem Row.save(a:Row w g xs)(hS:W0a g' w w')(hg:g≠g'):Row w' g xs:=(hS.rest g a.lt hg).trans a
theorem Row.only(a:Row w g xs)(hO:s2a g' w w')(hg:g≠g'):Row w' g xs:=(hO.rest g hg).trans a
theorem Row.over(a:Row w g xs)(hb:BW w w'):Row w' g xs:=a.below hb a.lt
theorem Holds.only{A:Option Addr}{n c:Nat}(a:Holds w B A n c xs)(hO:s2a g' w w')(hg:B<=g'):Holds w' B A n c xs:=a.below (hO.below hg)
theorem G0a(hk:h.ok):(m0a h).length=26:=by simp[m0a,hk.len]
theorem g2a(h:Hd):∀v∈m0a h,v.oneCell'=true:=by intro v hv;simp only[m0a,List.mem_cons,List.mem_map] at hv;rcases hv with rfl | rfl | rfl | rfl | rfl | rfl | rfl | rfl | rfl | rfl | ⟨x,_,rfl⟩<;>rfl
theorem HB.of(e:cs=m0a h)(a:Blk w g 28 cs):HB w g h:=by subst e;exact a
theorem HB.c0(a:HB w g h):w.cell? ⟨g,0,none⟩=some (.int .u16 h.ch):=Blk.cell a 0
theorem HB.c1(a:HB w g h):w.cell? ⟨g,1,none⟩=some (.int .u32 h.st):=Blk.cell a 1
theorem HB.c2(a:HB w g h):w.cell? ⟨g,2,none⟩=some (.int .u16 h.cm):=Blk.cell a 2
theorem HB.c3(a:HB w g h):w.cell? ⟨g,3,none⟩=some (.int .u16 h.cr):=Blk.cell a 3
theorem HB.c4(a:HB w g h):w.cell? ⟨g,4,none⟩=some (.int .u32 h.fl):=Blk.cell a 4
theorem HB.c5(a:HB w g h):w.cell? ⟨g,5,none⟩=some (.int .u32 h.nx):=Blk.cell a 5
theorem HB.c6(a:HB w g h):w.cell? ⟨g,6,none⟩=some (.int .u64 h.id):=Blk.cell a 6
theorem HB.c7(a:HB w g h):w.cell? ⟨g,7,none⟩=some (.int .u64 h.asy):=Blk.cell a 7
theorem HB.c8(a:HB w g h):w.cell? ⟨g,8,none⟩=some (.int .u32 h.tr):=Blk.cell a 8
theorem HB.c9(a:HB w g h):w.cell? ⟨g,9,none⟩=some (.int .u64 h.se):=Blk.cell a 9
theorem HB.sgc(a:HB w g h){i:Nat}(hi:i<h.sg.length):w.cell? ⟨g,10+i,none⟩=some (.int .u8 (h.sg.getD i 0)):=by
 rw[Blk.cell a (10+i),show(m0a h)[10+i]? = (h.sg.map (Value.int .u8))[i]? from by rw[Nat.add_comm];rfl]
 simp[hi]
theorem HB.sig(a:HB w g h)(hk:h.ok):Holds w w.heap.size (some ⟨g,10,none⟩) 16 16 h.sg:=⟨hk.len,Nat.le_refl _,by omega,hk.byte,λhA=>(by cases hA),λ_=>⟨g,10,rfl,Blk.lt a,λi hi=>a.sgc (by rw[hk.len];exact hi)⟩⟩
end
section
variable {P:Program} {ops:Array Oper} {rest:List Oper} {o:Oper} {a:Act} {w:World} {Q:Exit->Act->World->Prop}
theorem d0a(hg:o.guard=none)(T:TypeId)(x:Operand)(ho:o.op=.box T x)(cs:List Value)(hx:a.eval x=.agg cs.toArray)
(h:∀g w',w.heap.size<=g->g<w'.heap.size->Hid (Blk w' g T cs)->Hid (BW w w')->wpList P ops Q rest (a.put o.dst (.pointer (some ⟨g,0,none⟩))) w'):wpList P ops Q (o::rest) a w:=by
 refine wpList_plain hg λK hK=>?_
 unfold Oper.wp execOp;simp only[ho,hx,Sem.run_bind,Instr.box,newVar,newRow,run_newObj_alloc,Sem.run_pure,Result.andThen_ok];refine hK _ _ (h _ _ (Nat.le_refl _) (by simp) ?_ ((Below.refl _ _).alloc (Nat.le_refl _) _));exact Blk.new w T cs
theorem k3b(hg:o.guard=none)(T:TypeId)(x:Operand)(ho:o.op=.box T x)(v:Value)(hx:a.eval x=v)(hv:v.cells=#[v])
(h:∀g w',w.heap.size<=g->g<w'.heap.size->Hid (Blk w' g T [v])->Hid (BW w w')->wpList P ops Q rest (a.put o.dst (.pointer (some ⟨g,0,none⟩))) w'):wpList P ops Q (o::rest) a w:=by
 refine wpList_plain hg λK hK=>?_
 unfold Oper.wp execOp;simp only[ho,hx,hv,Sem.run_bind,Instr.box,newVar,newRow,run_newObj_alloc,Sem.run_pure,Result.andThen_ok];refine hK _ _ (h _ _ (Nat.le_refl _) (by simp) ?_ ((Below.refl _ _).alloc (Nat.le_refl _) _));exact Blk.new w T [v]
theorem b0a(hg:o.guard=none)(T:TypeId)(ho:o.op=.alloc T)(zs:List Value)(n:Nat)(hi:Hid ((P.info? T).map (λi=>(i.zero,i.size))=some (some (.agg zs.toArray),n)))
(h:∀g w',w.heap.size<=g->g<w'.heap.size->Hid (Blk w' g T zs)->Hid (BW w w')->wpList P ops Q rest (a.put o.dst (.pointer (some ⟨g,0,none⟩))) w'):wpList P ops Q (o::rest) a w:=by
 refine wpList_plain hg λK hK=>?_
 unfold Oper.wp execOp;have hz:=(zero_of_info hi.o).1;simp only[ho,Sem.run_bind,Instr.alloc,hz,newVar,newRow,run_newObj_alloc,Sem.run_pure,Result.andThen_ok];refine hK _ _ (h _ _ (Nat.le_refl _) (by simp) ?_ ((Below.refl _ _).alloc (Nat.le_refl _) _));exact Blk.new w T zs
theorem e0a(hg:o.guard=none)(T:TypeId)(x:Operand)(ho:o.op=.load T x)(g:Nat)(hx:a.eval x=.pointer (some ⟨g,0,none⟩))(T':TypeId)(cs:List Value)(hA:Hid (Blk w g T' cs))(n:Nat)(d:TypeDesc)
(hu:P.underlying T=some d)(hd:(match d with | .struct _ | .array _ _=>true | _=>false)=true)(hi:(P.info? T).map (·.size)=some n)(hn:Hid (cs.length=n))
(h:wpList P ops Q rest (a.put o.dst (.agg cs.toArray)) w):wpList P ops Q (o::rest) a w:=wpList_load_row hg T x ho g hx T' _ (0,0) d hA.o hu hd (by rw[hi];have:=hn.o;simp[this]) h
theorem a0a(hg:o.guard=none)(T:TypeId)(x y:Operand)(ho:o.op=.store T x y)(g:Nat)(hx:a.eval x=.pointer (some ⟨g,0,none⟩))(T':TypeId)(cs ds:List Value)(hy:a.eval y=.agg ds.toArray)
(hA:Hid (Blk w g T' cs))(n:Nat)(hi:(P.info? T).map (·.size)=some n)(hn:Hid (cs.length=n))(hm:Hid (ds.length=n))(h1:Hid (∀v∈ds,v.oneCell'=true))
(h:∀w',Hid (Blk w' g T' ds)->Hid (s2a g w w')->g<w'.heap.size->wpList P ops Q rest a w')(hd:o.dst=none:=by rfl):wpList P ops Q (o::rest) a w:=by
 refine wpList_store_row hg T x y ho g _ hx hy T' _ hA.o (by rw[hi];have:=hm.o;simp[this]) (by have:=hm.o;have:=hn.o;simp_all) (all_oneCell_toArray h1.o) ?_;have hp:a.put o.dst undef=a:=by rw[hd];rfl
 rw[hp];refine h _ ?_ ((s2a.refl g w).setRow _) (by rw[size_setRow];exact hA.o.lt);exact setRow_heap w g _ _ T' (0,0) hA.o
theorem g7a(w:World)(g i:Nat)(T' ty:TypeId)(cs:List Value)(u:Value)(hB:Blk w g T' cs)(hi:i<cs.length)(hs:(P.info? ty).map (·.size)=some 1)(h1:u.oneCell'=true) :
  (storeVar ty ⟨g,i,none⟩ u).run P w=.ok () (w.setCell ⟨g,i,none⟩ u):=by
 have hc:u.cells=#[u]:=by cases u<;>first | rfl | (simp[Value.oneCell'] at h1)
 have:=run_storeCells_cells (P:=P) g i [u] 0 w (λj hj=>by
   obtain rfl:j=0:=by simpa using hj
   show(w.cell? ⟨g,i,none⟩).isSome=true
   rw[hB.cell];simp[hi]) (λj _=>hB.frozen _) (λx hx=>by obtain rfl:=List.mem_singleton.1 hx;exact h1)
 cases hq:P.info? ty with
 | none=>simp[hq] at hs
 | some q=>
  have hz:q.size=1:=by simpa[hq] using hs
  simp[storeVar,sizeOf,typeInfo,hq,hc,hz];simpa[World.setCells] using this
theorem x0a(hg:o.guard=none)(T:TypeId)(x y:Operand)(ho:o.op=.store T x y)(g i:Nat)(hx:a.eval x=.pointer (some ⟨g,i,none⟩))(T':TypeId)(cs:List Value)(u:Value)(hy:a.eval y=u)
(hA:Hid (Blk w g T' cs))(hi:Hid (i<cs.length))(hs:(P.info? T).map (·.size)=some 1)(h1:u.oneCell'=true)
(h:∀w',Hid (Blk w' g T' (cs.set i u))->Hid (s2a g w w')->g<w'.heap.size->wpList P ops Q rest a w')(hd:o.dst=none:=by rfl):wpList P ops Q (o::rest) a w:=by
 have hp:a.put o.dst undef=a:=by rw[hd];rfl
 refine wpList_plain hg λK hK=>?_
 unfold Oper.wp execOp;simp only[ho,hx,hy,Instr.storeAt,Instr.sureAddr,Sem.run_bind,Sem.run_pure,Result.andThen_ok,g7a w g i T' T cs u hA.o hi.o hs h1];show K (a.put o.dst undef) _
 rw[hp];refine hK _ _ (h _ ?_ (d1a w g i u) ?_)
 ·exact hA.o.set i u
 ·have:=(d1a w g i u).size;rw[this];exact hA.o.lt
theorem f0a(hg:o.guard=none)(T:TypeId)(x y:Operand)(ho:o.op=.store T x y)(g i:Nat)(hx:a.eval x=.pointer (some ⟨g,i,none⟩))(T':TypeId)(cs:List Value)(u:Value)(hy:a.eval y=u)
(hA:Hid (Blk w g T' cs)){n:Nat}(hl:Hid (cs.length=n))(hi:i<n)(hs:(P.info? T).map (·.size)=some 1)(h1:u.oneCell'=true)
(h:∀w' cs',Hid (cs'=cs.set i u)->Hid (cs'.length=n)->Hid (Blk w' g T' cs')->Hid (s2a g w w')->g<w'.heap.size->wpList P ops Q rest a w')(hd:o.dst=none:=by rfl):wpList P ops Q (o::rest) a w:=x0a hg T x y ho g i hx T' cs u hy hA (Eq.subst (motive:=λm=>Hid (i<m)) hl.o.symm hi) hs h1 (λw' K O q=>h w' _ rfl (by show _=_;rw[List.length_set];exact hl) K O q) hd
theorem o1a(hg:o.guard=none)(t e:TypeId)(len:Nat)(parts:Array (Nat×Operand))(ho:o.op=.buildSlice t len parts)(hu:P.underlying t=some (.slice e))(cs:List Value)
(hf:P.builtSlice e len (parts.map fun (i,x)=>(i,a.eval x)).toList=some cs.toArray)
(h:∀g w',w.heap.size<=g->g<w'.heap.size->Hid (Blk w' g e cs)->Hid (BW w w')->wpList P ops Q rest (a.put o.dst (.slice (some ⟨g,0,none⟩) len len)) w'):wpList P ops Q (o::rest) a w:=_root_.Go.Great.wpList_buildSliceTo hg t e len parts ho w.heap.size rfl _ rfl hu cs.toArray hf (h _ _ (Nat.le_refl _) (by simp) (Blk.new w e cs) ((Below.refl _ _).alloc (Nat.le_refl _) _))
theorem P0a{K:Act->World->Prop}{E:Prop}(hg:o.guard=none)(t e:TypeId)(len:Nat)(parts:Array (Nat×Operand))(ho:o.op=.buildSlice t len parts)(hu:P.underlying t=some (.slice e))(cs:List Value)
(hf:P.builtSlice e len (parts.map fun (i,x)=>(i,a.eval x)).toList=some cs.toArray)
(h:∀g w',w.heap.size<=g->g<w'.heap.size->Hid (Blk w' g e cs)->Hid (BW w w')->K (a.put o.dst (.slice (some ⟨g,0,none⟩) len len)) w') :
  if Region.wanted o (yielded ops a.tmps)=true then Oper.wp P o a w K Q else E:=by
 have hw:Region.wanted o (yielded ops a.tmps)=true:=by simp[Region.wanted,hg]
 rw[if_pos hw];unfold Program.builtSlice at hf;cases hie:P.info? e with
 | none=>simp[hie] at hf
 | some ie=>
  simp only[hie] at hf;cases hz:ie.zero with
  | none=>simp[hz] at hf
  | some z=>
   simp only[hz] at hf;by_cases hc:len*ie.size>2^24∨len*ie.size=0
   ·simp[hc] at hf
   ·rw[if_neg hc] at hf;exact wp_buildSlice t e len parts ho _ ie z hu hie hz (λh'=>hc (Or.inl h')) (λh'=>hc (Or.inr h')) hf (h _ _ (Nat.le_refl _) (by simp) (Blk.new w e cs) ((Below.refl _ _).alloc (Nat.le_refl _) _))
theorem v0a(hg:o.guard=none)(T:TypeId)(parts:Array (Nat×Operand))(ho:o.op=.build T parts)(cs:List Value)(hf:P.built T (parts.map fun (i,x)=>(i,a.eval x)).toList=some cs.toArray)
(h:wpList P ops Q rest (a.put o.dst (.agg cs.toArray)) w):wpList P ops Q (o::rest) a w:=wpList_buildTo hg T parts ho _ rfl _ hf h
theorem r0a(hg:o.guard=none)(T:TypeId)(ho:o.op=.build T #[])(cs:List Value)(hf:P.built T []=some cs.toArray)
(h:wpList P ops Q rest (a.put o.dst (.agg cs.toArray)) w):wpList P ops Q (o::rest) a w:=by refine wpList_buildTo hg T #[] ho _ rfl cs.toArray ?_ h;rw[<-hf];simp
end
def spliced(cur:List Value)(off:Nat)(xs:List Int):List Value:=cur.take off++(xs.map (Value.int .u8)++cur.drop (off+xs.length))
theorem B7a{w:World}{ops:Array Oper}{rest:List Oper}{o:Oper}{a:Act}{Q:Exit->Act->World->Prop}(hgd:o.guard=none)(d s:Operand)
(ho:o.op=.call { callee:=.builtin .copy,args:=#[d,s],argTypes:=#[31,31] })
(g off:Nat)(T:TypeId)(dLen dCap n c:Nat)(A:Option Addr)(hd:a.eval d=.slice (some ⟨g,off,none⟩) dLen dCap)(hs:a.eval s=.slice A n c)
(cur:List Value)(xs:List Int)(B:Nat)(hrow:Hid (Blk w g T cur))(hx:Holds w B A n c xs)(h0:0<n)(hn:n<=dLen)(hfit:Hid (off+n<=cur.length))
(h:∀w',Hid (Blk w' g T (spliced cur off xs))->Hid (s2a g w w')->wpList prog ops Q rest (a.put o.dst (goInt n)) w') :
  wpList prog ops Q (o::rest) a w:=by
 have hl:=hx.len;obtain⟨i0,hi,hz0,hz1,hz2⟩:=info_parts i3a;obtain⟨b,so,rfl,_,hc⟩:=hx.cells h0;refine wpList_copy_own hgd d s 31 31 ho 5 underlying31 (by rw[hi];simp[hz1]) g off dLen dCap _ n c hd hs cur.toArray T hrow.o (xs.map (Value.int .u8)) (by rw[List.length_map,hl];exact(Nat.min_eq_left hn).symm) ?_ (by have:=hfit.o;simp;omega)
  (by intro v hv;obtain⟨x,_,rfl⟩:=List.mem_map.1 hv;rfl) ?_
 ·intro j v hj;have hjl:j<xs.length:=by
   by_cases hj':j<xs.length
   ·exact hj'
   ·rw[List.getElem?_eq_none (by simp;omega)] at hj;cases hj
  rw[Addr.add_mid,hc j (by omega),<-hj];simp[hjl]
 ·have e:=h (w.setRow g (spliced cur off xs).toArray) (setRow_heap w g _ _ T (0,0) hrow.o) ((s2a.refl g w).setRow _);have e2:goInt (xs.map (Value.int .u8)).length=goInt n:=by rw[List.length_map,hl]
  rw[e2];simpa[spliced] using e
theorem n9a{w:World}{ops:Array Oper}{o:Oper}{a:Act}{K:Act->World->Prop}{Q:Exit->Act->World->Prop}{E:Prop}(hgd:o.guard=none)(d s:Operand)
(ho:o.op=.call { callee:=.builtin .copy,args:=#[d,s],argTypes:=#[31,31] })
(g off:Nat)(T:TypeId)(dLen dCap n c:Nat)(A:Option Addr)(hd:a.eval d=.slice (some ⟨g,off,none⟩) dLen dCap)(hs:a.eval s=.slice A n c)
(cur:List Value)(xs:List Int)(B:Nat)(hrow:Hid (Blk w g T cur))(hx:Holds w B A n c xs)(h0:0<n)(hn:n<=dLen)(hfit:Hid (off+n<=cur.length))
(h:∀w',Hid (Blk w' g T (spliced cur off xs))->Hid (s2a g w w')->K (a.put o.dst (goInt n)) w') :
  if Region.wanted o (yielded ops a.tmps)=true then Oper.wp prog o a w K Q else E:=by
 have hw:Region.wanted o (yielded ops a.tmps)=true:=by simp[Region.wanted,hgd]
 rw[if_pos hw];have hl:=hx.len;obtain⟨i0,hi,hz0,hz1,hz2⟩:=info_parts i3a;obtain⟨b,so,rfl,_,hc⟩:=hx.cells h0;have hrun:=run_copy_row (P:=prog) w 31 31 o.type 5 g off dLen dCap ⟨b,so,none⟩ n c cur.toArray T (xs.map (Value.int .u8)) underlying31 (by rw[hi];simp[hz1]) hrow.o (by rw[List.length_map,hl];exact(Nat.min_eq_left hn).symm)
  (by
   intro j v hj;have hjl:j<xs.length:=by
    by_cases hj':j<xs.length
    ·exact hj'
    ·rw[List.getElem?_eq_none (by simp;omega)] at hj;cases hj
   rw[Addr.add_mid,hc j (by omega),<-hj];simp[hjl]) (by have:=hfit.o;simp;omega) (by intro v hv;obtain⟨x,_,rfl⟩:=List.mem_map.1 hv;rfl)
 unfold Oper.wp;simp[execOp,ho,resolve,invoke,builtin,hd,hs,hrun,Result.andThen];have e:=h (w.setRow g (spliced cur off xs).toArray) (setRow_heap w g _ _ T (0,0) hrow.o) ((s2a.refl g w).setRow _);rw[Oper.upon_value];simpa[spliced,hl] using e
theorem V1b(cur xs:List Int)(off:Nat):spliced (cur.map (Value.int .u8)) off xs=(cur.take off++xs++cur.drop (off+xs.length)).map (Value.int .u8):=by simp[spliced]
theorem U6b(h:Hd)(xs:List Int)(hl:h.sg.length=16)(hx:xs.length=16):spliced (m0a h) 10 xs=m0a { h with sg:=xs }:=by have e:(m0a h).drop (10+xs.length)=[]:=List.drop_of_length_le (by simp[m0a,hl,hx]);unfold spliced;rw[e,List.append_nil];rfl
theorem K0a:(prog.info? 28).map (·.size)=some 26:=by kernel_rfl
theorem C7a:(prog.info? 28).map (λi=>(i.zero,i.size))=some (some (.agg (m0a Q1a).toArray),26):=by kernel_rfl
theorem d8b:prog.built 28 []=some (m0a Q1a).toArray:=by kernel_rfl
theorem Own.only{w w':World}{base g:Nat}{v:Value}{xs:List Int}(h:Own w base v xs)(hO:s2a g w w')(hg:g<base):Own w' base v xs:=by
 refine⟨h.1,?_⟩;rcases h.2 with h0 | ⟨q,cap,cur,rfl,h1,hq,rest⟩
 ·exact .inl h0
 ·exact .inr ⟨q,cap,cur,rfl,h1,(hO.rest q (by omega)).trans hq,rest⟩
def m6a(w:World)(xs:List Int)(a most:Int)(e:Ending)(w':World):Prop:=∃A' m,e=.returned (.tuple #[.slice A' m m,.int .i64 (L3a xs a most),.int .i64 (X1a xs a most)])/\m=(d2a xs a most).length/\p2a w' w.heap.size A' (d2a xs a most)/\BW w w'
def s3a(w:World)(xs:List Int)(a:Int)(e:Ending)(w':World):Prop:=e=.returned (.tuple #[.string ⟨(Y1a xs a).toArray⟩,.int .i64 (Z0a xs a),.int .i64 (V0a xs a)])/\BW w w'
theorem X3c(n:Nat)(h:n<=65535):N5a (n:Int) 2=le n 2/\e7a (n:Int) 2=0:=by
 have e:N4a (n:Int) 2=true:=by unfold N4a;rw[show u3a 2=true from rfl,show((2:Int).toNat)=2 from rfl,show(256:Int)^2=65536 from by decide,decide_eq_true (by omega:(n:Int)<65536)];rfl
 unfold N5a e7a;rw[if_pos e,if_pos e];exact⟨rfl,rfl⟩
theorem q4c(n:Nat)(h:¬n<=65535):e7a (n:Int) 2=2/\N5a (n:Int) 2=[]:=by
 have e:N4a (n:Int) 2=false:=by unfold N4a;rw[show((2:Int).toNat)=2 from rfl,show(256:Int)^2=65536 from by decide,decide_eq_false (by omega:¬(n:Int)<65536)];simp
 unfold e7a N5a;rw[if_neg (by simp[e]),if_neg (by simp[e])];exact⟨rfl,rfl⟩
theorem V6b(xs:List Int)(a most:Int)(h:t2a xs.length a 2≠0):X1a xs a most=t2a xs.length a 2:=by
 unfold t2a R0a at h⊢;rw[if_pos (by rfl)] at h⊢;unfold X1a;by_cases h1:a<0∨(xs.length:Int)<a
 ·rw[if_pos h1,if_pos (by omega)]
 ·rw[if_neg (show ¬(a<0∨(xs.length:Int)<a∨(2:Int)<0) by omega)] at h;rw[if_neg (show ¬(a<0∨(xs.length:Int)<a∨(2:Int)<0) by omega)];rw[if_neg h1];by_cases h2:(xs.length:Int)-a<2
  ·rw[if_pos h2,if_pos h2]
  ·rw[if_neg h2] at h;exact absurd rfl h
theorem E0c(xs:List Int)(a:Int)(h:t2a xs.length a 2=0):0<=a/\a+2<=xs.length/\A4a xs a 2=W0b xs a:=by
 have h':=h;unfold t2a R0a at h;rw[if_pos (by rfl)] at h;by_cases h1:a<0∨(xs.length:Int)<a∨(2:Int)<0
 ·rw[if_pos h1] at h;omega
 ·rw[if_neg h1] at h;by_cases h2:(xs.length:Int)-a<2
  ·rw[if_pos h2] at h;omega
  ·refine⟨by omega,by omega,?_⟩;unfold A4a W0b Y0a;rw[if_pos h'];rfl
theorem W1b(w:World)(base:Nat):p2a w base none []:=.inl ⟨rfl,rfl⟩
theorem U8b(w:World)(A:Option Addr)(n c:Nat)(xs:List Int)(a most:Int)(h:Holds w w.heap.size A n c xs)(ha:-9223372036854775808<=a/\a<=9223372036854775807)(hm:-9223372036854775808<=most/\most<=9223372036854775807) :
  Calls prog 145 #[.slice A n c,.int .i64 a,.int .i64 most] w (m6a w xs a most):=by
 have hl:=h.len;have hr:=h.room;have hf:=h.fit;have C1:=O8a w w.heap.size A n c xs a 2 h ha (by omega);have HE:Hid (∀er,X1a xs a most=er->er≠0->∀e w',e=.returned (.tuple #[.slice none 0 0,.int .i64 0,.int .i64 er])->BW w w'->m6a w xs a most e w'):=by intro er h1 h2 e w' he hb;unfold m6a L3a d2a;rw[h1,if_neg h2,if_neg h2];exact⟨none,0,he,rfl,W1b _ _,hb⟩
 obtain⟨ha0,ha1⟩:=ha;obtain⟨hm0,hm1⟩:=hm;by_cases h1:t2a n a 2=0;rotate_left
 ·have HQ:=hI (HE.o _ (V6b xs a most (by rw[hl];exact h1)) (by rw[hl];exact h1));rw[hl] at HQ;have hne:(t2a n a 2 != 0)=true:=by simpa using h1
  obtain⟨er,her⟩:=xX (t2a n a 2);rw[<-her] at HQ C1 hne;have C1':=hI C1;clear HE h hl C1 her h1;go_enter func145,ntmps145;go_wp2_with fail;refine C1'.o.mono ?_;rintro e w1 ⟨rfl,rfl⟩;go_wp2;go_ret3;exact HQ.o _ _ rfl (Below.refl _ _)
 obtain⟨g0,g1,g2⟩:=E0c xs a (by rw[hl];exact h1);rw[hl] at g1;rw[h1,g2] at C1;obtain⟨p,rfl⟩:=Int.eq_ofNat_of_zero_le g0;have hNb:=y5a xs h.byte (p:Int);obtain⟨m,hm'⟩:∃m:Nat,W0b xs (p:Int)=(m:Int):=⟨(W0b xs (p:Int)).toNat,by omega⟩;rw[hm'] at hNb C1;obtain⟨hb0,hb1⟩:=hNb;have hap:¬((p:Int)<0∨(n:Int)<(p:Int)):=by omega
 have hap2:¬((n:Int)-p<2):=by omega
 have hz:IntKind.i64.wrap (m:Int)=m:=by rw[IntKind.wrap_i64]<;>omega
 by_cases h4:most<(m:Int)
 ·have HQ:=hI (HE.o 3 (by unfold X1a;rw[hl,if_neg hap,if_neg hap2,hm',if_pos h4]) (by decide));have C1':=hI C1;clear HE h hl C1 hm' h1 g2;go_enter func145,ntmps145;go_wp2_with fail;refine C1'.o.mono ?_;rintro e w1 ⟨rfl,rfl⟩;go_wp2;go_ret3;exact HQ.o _ _ rfl (Below.refl _ _)
 have C2:=l8a w A n c xs ((p:Int)+2) (m:Int) h (by omega) (by omega);unfold p4a at C2;have ep:R0a xs.length ((p:Int)+2) (m:Int)=if (n:Int)-p-2<m then 4 else 0:=by
  unfold R0a;rw[hl,if_neg (by omega)];by_cases h5:(n:Int)-p-2<m
  ·rw[if_pos h5,if_pos (by omega)]
  ·rw[if_neg h5,if_neg (by omega)]
 rw[ep] at C2;by_cases h5:(n:Int)-p-2<(m:Int)
 ·have HQ:=hI (HE.o 4 (by unfold X1a;rw[hl,if_neg hap,if_neg hap2,hm',if_neg h4,if_pos h5]) (by decide));rw[if_pos h5] at C2 ep;have ep2:partOf xs ((p:Int)+2) (m:Int)=[]:=by unfold partOf;rw[ep,if_neg (by decide)]
  rw[ep2] at C2;have C1':=hI C1;have C2':=hI C2;clear HE h hl C1 C2 hm' h1 g2 ep ep2;go_enter func145,ntmps145;go_wp2_with fail;refine C1'.o.mono ?_;rintro e w1 ⟨rfl,rfl⟩;go_wp2_with fail;refine C2'.o.mono ?_;rintro e w1 ⟨A',rfl,hfr,L1⟩;have L1':=hI L1;clear hfr L1;go_wp2;go_ret3;exact HQ.o _ _ rfl L1'.o
 ·have e0:X1a xs (p:Int) most=0:=by unfold X1a;rw[hl,if_neg hap,if_neg hap2,hm',if_neg h4,if_neg h5]
  rw[if_neg h5] at C2 ep;have ep2:partOf xs ((p:Int)+2) (m:Int)=d2a xs (p:Int) most:=by unfold partOf d2a;rw[ep,e0,if_pos rfl,if_pos rfl,hm',show((p:Int)+2).toNat=(p:Int).toNat+2 from by omega]
  rw[ep2] at C2;have hlm:(d2a xs (p:Int) most).length=m:=by have:=j0b h.byte e0;omega
  have HQ:Hid (∀e w',(∃A',e=.returned (.tuple #[.slice A' m m,.int .i64 ((p:Int)+2+m),.int .i64 0])/\p2a w' w.heap.size A' (d2a xs (p:Int) most)/\BW w w')->m6a w xs (p:Int) most e w'):=by rintro e w' ⟨A',h1,h2,h3⟩;unfold m6a L3a;rw[e0,if_pos rfl,hm',hlm];exact⟨A',m,h1,rfl,h2,h3⟩
  rw[hlm] at C2;obtain⟨ys,hys⟩:=xX (d2a xs (p:Int) most);rw[<-hys] at C2 HQ;have C1':=hI C1;have C2':=hI C2;clear HE h hl C1 C2 hm' h1 g2 ep ep2 hys hlm e0;go_enter func145,ntmps145;go_wp2_with fail;refine C1'.o.mono ?_;rintro e w1 ⟨rfl,rfl⟩;go_wp2_with fail;refine C2'.o.mono ?_;rintro e w1 ⟨A',rfl,hfr,L1⟩;have HF:=hI hfr;have L1':=hI L1;clear hfr L1;go_wp2;go_ret3;exact HQ.o _ _ ⟨_,rfl,HF.o,L1'.o⟩
theorem Q8a(w:World)(A:Option Addr)(n c:Nat)(xs:List Int)(a:Int)(h:Holds w w.heap.size A n c xs)(ha:-9223372036854775808<=a/\a<=9223372036854775807) :
  Calls prog 129 #[.slice A n c,.int .i64 a] w (s3a w xs a):=by
 have C1:=U8b w A n c xs a 512 h ha (by omega);unfold m6a at C1;have HGB:=hI (A7a h.byte a 512);have hle:=D5b h.byte a 512;have hQ:∀e w',s3a w xs a e w'->s3a w xs a e w':=λ_ _ h=>h
 by_cases h0:X1a xs a 512=0;rotate_left
 ·have HQ:Hid (∀e w',e=.returned (.tuple #[.string .empty,.int .i64 0,.int .i64 (X1a xs a 512)])->BW w w'->s3a w xs a e w'):=by
   intro e w' he hb;have e1:V0a xs a=X1a xs a 512:=by unfold V0a;rw[if_neg h0]
   unfold s3a Y1a Z0a;rw[e1,if_neg h0,if_neg h0];exact⟨he,hb⟩
  have hne:(X1a xs a 512 != 0)=true:=by simpa using h0
  obtain⟨er,her⟩:=xX (X1a xs a 512);obtain⟨nx,hnx⟩:=xX (L3a xs a 512);obtain⟨ys,hys⟩:=xX (d2a xs a 512);rw[<-her] at HQ C1 hne;rw[<-hnx,<-hys] at C1;have C1':=hI C1;clear C1 her hnx hys h0 h HGB hle hQ;go_enter func129,ntmps129;go_wp2_with fail;refine C1'.o.mono ?_;rintro e w1 ⟨A',m,rfl,hm,hfr,L1⟩;clear hm hfr;go_wp2;go_ret3;exact HQ.o _ _ rfl L1
 have CG:Hid (∀(w:World) (A:Option Addr) (n c:Nat),Holds w w.heap.size A n c (d2a xs a 512)->n<=17592186044416->Calls prog 146 #[.slice A n c] w λe w'=>e=.returned (.tuple #[.string ⟨(e4a (d2a xs a 512)).toArray⟩,.int .i64 (Z4a (d2a xs a 512))])/\BW w w'):=λw A n c hh hn=>Z2c w A n c _ hh hn
 rw[h0] at C1;by_cases h1:Z4a (d2a xs a 512)=0
 ·have HQ:Hid (∀e w',e=.returned (.tuple #[.string ⟨(e4a (d2a xs a 512)).toArray⟩,.int .i64 (L3a xs a 512),.int .i64 0])->BW w w'->s3a w xs a e w'):=by
   intro e w' he hb;have e1:V0a xs a=0:=by unfold V0a;rw[if_pos h0,h1]
   unfold s3a Y1a Z0a;rw[e1,if_pos rfl,if_pos rfl];exact⟨he,hb⟩
  rw[h1] at CG;obtain⟨tx,htx⟩:=xX (e4a (d2a xs a 512));obtain⟨nx,hnx⟩:=xX (L3a xs a 512);obtain⟨ys,hys⟩:=xX (d2a xs a 512);rw[<-htx] at HQ CG;rw[<-hnx] at C1 HQ;rw[<-hys] at C1 CG HGB hle;have C1':=hI C1;clear C1 htx hnx hys h0 h1 h hQ;go_enter func129,ntmps129;go_wp2_with fail;refine C1'.o.mono ?_;rintro e w1 ⟨A',m,rfl,hm,hfr,L1⟩;have HH:=hI (hfr.holds hm.symm HGB.o (by omega));have hml:m<=65535:=by omega
  have M1:=hI L1;clear hm hfr L1 hle;go_wp2_with fail;refine(CG.o _ _ _ _ HH.o (by omega)).mono ?_;rintro e w2 ⟨rfl,L2⟩;go_wp2;go_ret3;exact HQ.o _ _ rfl (step M1.o L2)
 ·have HQ:Hid (∀e w',e=.returned (.tuple #[.string .empty,.int .i64 0,.int .i64 (Z4a (d2a xs a 512))])->BW w w'->s3a w xs a e w'):=by
   intro e w' he hb;have e1:V0a xs a=Z4a (d2a xs a 512):=by unfold V0a;rw[if_pos h0]
   unfold s3a Y1a Z0a;rw[e1,if_neg h1,if_neg h1];exact⟨he,hb⟩
  have hne:(Z4a (d2a xs a 512) != 0)=true:=by simpa using h1
  obtain⟨er,her⟩:=xX (Z4a (d2a xs a 512));obtain⟨tx,htx⟩:=xX (e4a (d2a xs a 512));obtain⟨nx,hnx⟩:=xX (L3a xs a 512);obtain⟨ys,hys⟩:=xX (d2a xs a 512);rw[<-her] at HQ CG hne;rw[<-htx] at CG;rw[<-hnx] at C1;rw[<-hys] at C1 CG HGB hle;have C1':=hI C1;clear C1 htx hnx hys h0 h1 h hQ her;go_enter func129,ntmps129;go_wp2_with fail;refine C1'.o.mono ?_;rintro e w1 ⟨A',m,rfl,hm,hfr,L1⟩;have HH:=hI (hfr.holds hm.symm HGB.o (by omega));have hml:m<=65535:=by omega
  have M1:=hI L1;clear hm hfr L1 hle;go_wp2_with fail;refine(CG.o _ _ _ _ HH.o (by omega)).mono ?_;rintro e w2 ⟨rfl,L2⟩;go_wp2;go_ret3;exact HQ.o _ _ rfl (step M1.o L2)
def W6b(w:World)(n s:Int)(e:Ending)(w':World):Prop:=∃A',e=.returned (.slice A' (N5a n s).length (N5a n s).length)/\p2a w' w.heap.size A' (N5a n s)/\BW w w'
theorem V8b(w:World)(n s:Int)(hn:0<=n/\n<=18446744073709551615)(hs:-9223372036854775808<=s/\s<=9223372036854775807) :
  Calls prog 87 #[.int .u64 n,.int .i64 s] w (W6b w n s):=by
 have C1:=P8a w n s hn hs;have HQ:Hid (∀e w',(∃A',e=.returned (.slice A' (N5a n s).length (N5a n s).length)/\p2a w' w.heap.size A' (N5a n s)/\BW w w')->W6b w n s e w'):=λ_ _ h=>h
 unfold z5a at C1;obtain⟨ys,hys⟩:=xX (N5a n s);obtain⟨er,her⟩:=xX (e7a n s);rw[<-hys] at C1 HQ;rw[<-her] at C1;obtain⟨m,hm⟩:=xX ys.length;rw[<-hm] at C1 HQ;have C1':=hI C1;clear C1 hys her hm hn hs;go_enter func87,ntmps87;go_wp2_with fail;refine C1'.o.mono ?_;rintro e w1 ⟨A',rfl,hfr,L1⟩;have HF:=hI hfr;clear hfr;go_wp2;go_ret;exact HQ.o _ _ ⟨_,rfl,HF.o,L1⟩
def Apart(v u:Value):Prop:=∀i,v.ownBlock=some i->u.ownBlock≠some i
theorem Apart.nil(u:Value):Apart (.slice none 0 0) u:=λi h=>by cases h
theorem Apart.symm{v u:Value}(h:Apart v u):Apart u v:=λi hu hv=>h i hv hu
section
variable {k k':IntKind} {e e':TypeId} {w w':World} {base base':Nat} {v v' u:Value} {xs ys:List Int}
theorem d4a.lt(h:d4a k e w base v xs){i:Nat}(hi:v.ownBlock=some i):i<w.heap.size:=(World.ownsRow.lt h i hi).2
theorem a0c.apart(hg:a0c w w' v)(h':d4a k' e' w base' u ys)(ha:Apart v u):d4a k' e' w' base' u ys:=h'.keep λi cs hi hcs=>by rw[hg.block hcs λhv=>ha i hv hi,hcs]
theorem d4a.grown(h':d4a k' e' w base' u ys)(hg:w.grownBy w' v.ownBlock)(ha:Apart v u):d4a k' e' w' base' u ys:=h'.keep λi _ hi hcs=>hg.block i (Array.getElem?_eq_some_iff.1 hcs).1 λhe=>ha i he.symm hi
def D7a(w:World)(v v':Value):Prop:=v'.ownBlock=v.ownBlock∨∃g,v'.ownBlock=some g/\w.heap.size<=g
end
def Box(w:World)(b:Nat)(T:TypeId)(v:Value):Prop:=w.heap[b]? = some (.cells #[v] T (0,0))
structure E7a (w w':World) (b:Nat) (v:Value):Prop where
 os:w'.os=w.os
 tape:w'.tape=w.tape
 output:w'.output=w.output
 size:w.heap.size<=w'.heap.size
 rest:∀i,i<w.heap.size->i≠b->v.ownBlock≠some i->w'.heap[i]? = w.heap[i]?
section
variable {w w' w2:World} {b b' base base':Nat} {T T' e:TypeId} {v v' u:Value} {k:IntKind} {xs:List Int}
theorem Box.lt(h:Box w b T v):b<w.heap.size:=lt_of_block h
theorem Box.cell(h:Box w b T v):w.cell? ⟨b,0,none⟩=some v:=cell_of_one h
theorem Box.frozen(h:Box w b T v):w.frozen? ⟨b,0,none⟩=false:=free_of_one h
theorem Box.below(h:Box w b T v)(hb:BW w w'):Box w' b T v:=(hb.block b h.lt).trans h
theorem Box.alloc(h:Box w b T v)(o:Obj):Box (w.alloc o) b T v:=(Below.heap_alloc _ _ _ h.lt).trans h
theorem Box.only(h:Box w b T v)(hO:s2a b' w w')(hb:b≠b'):Box w' b T v:=(hO.rest b hb).trans h
theorem Box.ne(h:Box w b T v)(h':Box w b' T' v')(hT:T≠T'):b≠b':=by rintro rfl;unfold Box at h h';rw[h] at h';simp only[Option.some.injEq,Obj.cells.injEq] at h';exact hT h'.2.1
theorem Box.own(h:Box w b T v)(hu:d4a k e w base u xs)(hT:T≠e):u.ownBlock≠some b:=λhv=>by obtain⟨_,cs,hcs⟩:=hu.block hv;unfold Box at h;rw[hcs] at h;simp only[Option.some.injEq,Obj.cells.injEq] at h;exact hT h.2.1.symm
theorem d4a.only(h:d4a k e w base v xs)(hO:s2a b w w')(hB:Box w b T u)(hT:T≠e):d4a k e w' base v xs:=h.keep λi _ hi _=>hO.rest i λhe=>hB.own h hT (he▸hi)
theorem E7a.refl(w:World)(b:Nat)(v:Value):E7a w w b v:=⟨rfl,rfl,rfl,Nat.le_refl _,λ_ _ _ _=>rfl⟩
theorem D7a.refl(w:World)(v:Value):D7a w v v:=.inl rfl
theorem D7a.trans(h:D7a w v v')(h2:D7a w' v' u)(hs:w.heap.size<=w'.heap.size):D7a w v u:=by
 rcases h2 with h2 | ⟨g,h2,h3⟩
 ·rcases h with h | ⟨g,h,h4⟩
  ·exact .inl (h2.trans h)
  ·exact .inr ⟨g,h2.trans h,h4⟩
 ·exact .inr ⟨g,h2,by omega⟩
theorem E7a.append(ht:E7a w w' b v)(hw:D7a w v v')(hg:a0c w' w2 v'){w3:World}(hO:s2a b w2 w3):E7a w w3 b v:=by
 obtain⟨o,hg⟩:=hg;have hs:=hg.size;have ha:(w'.alloc o).heap.size=w'.heap.size+1:=by simp
 refine⟨hO.os.trans (hg.os.trans ht.os),hO.tape.trans (hg.tape.trans ht.tape),hO.output.trans (hg.output.trans ht.output),by rw[hO.size];have:=ht.size;omega,λi hi hb hv=>?_⟩;have hsz:=ht.size;rw[hO.rest i hb,hg.block i (by omega) ?_,Below.heap_alloc _ _ _ (by omega),ht.rest i hi hb hv];rintro he;rcases hw with h | ⟨g,h,h4⟩
 ·exact hv (h▸he.symm)
 ·rw[h] at he;injection he with he
  omega
theorem E7a.trans(ht:E7a w w' b v)(hw:D7a w v v')(ht2:E7a w' w2 b v'):E7a w w2 b v:=by
 have hsz:=ht.size;refine⟨ht2.os.trans ht.os,ht2.tape.trans ht.tape,ht2.output.trans ht.output,by have:=ht2.size;omega,λi hi hb hv=>?_⟩;rw[ht2.rest i (by omega) hb ?_,ht.rest i hi hb hv];intro he;rcases hw with h | ⟨g,h,h4⟩
 ·exact hv (h▸he)
 ·rw[h] at he;injection he with he
  omega
theorem E7a.below(ht:E7a w w' b v)(hbb:base<=b)(ho:d4a k e w base v xs)(hs:base<=w.heap.size):Below base w w':=
 ⟨ht.os,ht.tape,ht.output,ht.size,λi hi=>ht.rest i (by omega) (by omega) λhv=>by have:=(ho.block hv).1;omega⟩
theorem s2a.iter(hO:s2a b w w')(hB:Box w b T v){K:Nat}{s:ByteArray}{p:Nat}(hK:w.heap[K]? = some (.stringIter s p)):w'.heap[K]? = some (.stringIter s p):=by rw[hO.rest K ?_,hK];rintro rfl;unfold Box at hB;rw[hB] at hK;cases hK
theorem Box.iterAt(h:Box w b T v){K:Nat}{s:ByteArray}{p:Nat}(hK:w.heap[K]? = some (.stringIter s p))(p':Nat):Box (w.iterAt K s p') b T v:=(Lib.iterAt_other w K b s p' (λe=>by subst e;unfold Box at h;rw[h] at hK;cases hK)).trans h
end
open Go.RowKit Go.ChangeShapes Go.WideShapes
def r7a{α:Type}(f:α->Value)(e:TypeId)(w:World)(base:Nat)(v:Value)(xs:List α):Prop:=w.ownsRow base e 1 v xs.length (xs.map f)
structure J1a {α:Type} (f:α->Value) (w:World) (B:Nat) (A:Option Addr) (n c:Nat) (xs:List α):Prop where
 len:xs.length=n
 fit:n<=c
 bare:A=none->c=0
 cells:0<n->∃b off,A=some ⟨b,off,none⟩/\b<B/\∀i x,xs[i]? = some x->w.cell? ⟨b,off+i,none⟩=some (f x)
section
variable {α:Type} {f:α->Value} {w w' w2:World} {B B' base base' b:Nat} {A:Option Addr} {n c:Nat} {xs ys:List α} {e e' T:TypeId} {v v' u:Value}
theorem J1a.keep(h:J1a f w B A n c xs)(hk:∀p:Addr,p.block<B->w'.cell? p=w.cell? p):J1a f w' B A n c xs:=
 ⟨h.len,h.fit,h.bare,λhn=>by obtain⟨b,off,e,hb,hc⟩:=h.cells hn;exact⟨b,off,e,hb,λi x hi=>(hk _ hb).trans (hc i x hi)⟩⟩
theorem J1a.mono(h:J1a f w B A n c xs)(hB:B<=B'):J1a f w B' A n c xs:=
 ⟨h.len,h.fit,h.bare,λhn=>by obtain⟨b,off,e,hb,hc⟩:=h.cells hn;exact⟨b,off,e,by omega,hc⟩⟩
theorem J1a.below(h:J1a f w B A n c xs)(hb:Below B w w'):J1a f w' B A n c xs:=h.keep λ_ hp=>hb.cell hp
theorem J1a.over(h:J1a f w w.heap.size A n c xs)(hb:BW w w'):J1a f w' w'.heap.size A n c xs:=(h.below hb).mono hb.size
theorem J1a.head(h:J1a f w B A c c xs)(hn:n<=c):J1a f w B A n c (xs.take n):=
 ⟨by have:=h.len;simp;omega,hn,h.bare,λh0=>by
  obtain⟨b,off,rfl,hb,hc⟩:=h.cells (by omega);refine⟨b,off,rfl,hb,λi x hi=>hc i x ?_⟩;rw[List.getElem?_take] at hi;split at hi
  ·exact hi
  ·cases hi⟩
theorem J1a.nil(f:α->Value)(w:World)(B:Nat):J1a f w B none 0 0 []:=⟨rfl,Nat.le_refl _,λ_=>rfl,λh=>absurd h (by omega)⟩
theorem r7a.nil(f:α->Value)(e:TypeId)(w:World)(base:Nat):r7a f e w base (.slice none 0 0) []:=World.ownsRow_nil w base e 1
theorem r7a.mono(h:r7a f e w base v xs)(hb:base'<=base):r7a f e w base' v xs:=by
 refine⟨h.1,?_⟩;rcases h.2 with h0 | ⟨g,cap,cur,rfl,h1,rest⟩
 ·exact .inl h0
 ·exact .inr ⟨g,cap,cur,rfl,by omega,rest⟩
theorem r7a.keep(h:r7a f e w base v xs)(hk:∀i cs,v.ownBlock=some i->w.heap[i]? = some (.cells cs e (0,0))->w'.heap[i]? = w.heap[i]?):r7a f e w' base v xs:=by
 refine⟨h.1,?_⟩;rcases h.2 with h0 | ⟨g,cap,cur,rfl,h1,hg,rest⟩
 ·exact .inl h0
 ·exact .inr ⟨g,cap,cur,rfl,h1,(hk g cur rfl hg).trans hg,rest⟩
theorem r7a.below(h:r7a f e w base v xs)(hb:BW w w'):r7a f e w' base v xs:=h.keep λi _ _ hi=>hb.block i (Array.getElem?_eq_some_iff.1 hi).1
theorem r7a.alloc(h:r7a f e w base v xs)(o:Obj):r7a f e (w.alloc o) base v xs:=World.ownsRow.alloc h o
theorem r7a.iterAt(h:r7a f e w base v xs){K:Nat}{s:ByteArray}{p:Nat}(hK:w.heap[K]? = some (.stringIter s p))(p':Nat):r7a f e (w.iterAt K s p') base v xs:=h.keep λ_ _ _ hi=>Lib.iterAt_other w K _ s p' (λe=>by subst e;rw[hi] at hK;cases hK)
theorem r7a.block(h:r7a f e w base v xs){i:Nat}(hi:v.ownBlock=some i):base<=i/\∃cs,w.heap[i]? = some (.cells cs e (0,0)):=by
 rcases h.2 with⟨rfl,_⟩ | ⟨g,cap,cur,rfl,h1,hg,rest⟩
 ·cases hi
 ·simp only[Value.ownBlock,Option.some.injEq] at hi;subst hi;exact⟨h1,cur,hg⟩
theorem r7a.lt(h:r7a f e w base v xs){i:Nat}(hi:v.ownBlock=some i):i<w.heap.size:=(World.ownsRow.lt h i hi).2
theorem r7a.open(h:r7a f e w base v xs):∃A n c,v=.slice A n c/\xs.length=n/\n<=c/\n<=9223372036854775807/\(A=none->c=0)/\
  (0<n->∃g,A=some ⟨g,0,none⟩/\base<=g/\g<w.heap.size/\∀i x,xs[i]? = some x->w.cell? ⟨g,i,none⟩=some (f x)):=by
 rcases h.2 with⟨rfl,h0⟩ | ⟨g,cap,cur,rfl,hb,hg,hnc,hcm,hcs,htk⟩
 ·exact⟨none,0,0,rfl,h0,Nat.le_refl _,by omega,λ_=>rfl,λh=>absurd h (by omega)⟩
 ·refine⟨_,_,_,rfl,rfl,hnc,by unfold maxLen at hcm;omega,λhA=>(by cases hA),λh0=>⟨g,rfl,hb,(Array.getElem?_eq_some_iff.1 hg).1,λi x hi=>?_⟩⟩;have hil:i<xs.length:=(List.getElem?_eq_some_iff.1 hi).1;rw[cell_of_row w g i cur e (0,0) hg];have e1:cur[i]? = (cur.toList.take (xs.length*1))[i]?:=by rw[List.getElem?_take,if_pos (by omega),Array.getElem?_toList]
  rw[e1,htk,List.getElem?_map,hi];rfl
theorem r7a.holds(h:r7a f e w base v xs):∃A n c,v=.slice A n c/\J1a f w w.heap.size A n c xs:=by obtain⟨A,n,c,rfl,hl,hf,_,hA,hc⟩:=h.open;refine⟨A,n,c,rfl,hl,hf,hA,λh0=>?_⟩;obtain⟨g,rfl,_,hg,hcc⟩:=hc h0;exact⟨g,0,rfl,hg,λi x hi=>by rw[Nat.zero_add];exact hcc i x hi⟩
theorem r7a.only(h:r7a f e w base v xs)(hO:s2a b w w')(hB:Box w b T u)(hT:T≠e):r7a f e w' base v xs:=
 h.keep λi cs _ hcs=>hO.rest i λhe=>by subst he;unfold Box at hB;rw[hB] at hcs;simp only[Option.some.injEq,Obj.cells.injEq] at hcs;exact hT hcs.2.1
end
section
variable {α:Type} {f:α->Value} {P:Program} {w:World} {ops:Array Oper} {rest:List Oper} {o:Oper} {a:Act} {Q:Exit->Act->World->Prop}
end
section
variable {H:Type} {enc:TypeId×Value->H} {P:Program} {W:World} {base:Nat} {t e:TypeId} {v:Value} {d:DataW H} {p:List MemPlace}
end
section
variable {α:Type} {f:α->Value} {P:Program} {w:World} {ops:Array Oper} {rest:List Oper} {o:Oper} {a:Act} {Q:Exit->Act->World->Prop}
end
section
variable {α:Type} {f:α->Value} {e:TypeId} {w:World} {base g n c:Nat} {xs:List α}
theorem r7a.heap(h:r7a f e w base (.slice (some ⟨g,0,none⟩) n c) xs):base<=g/\xs.length=n/\∃cur:Array Value,w.heap[g]? = some (.cells cur e (0,0))/\n<=cur.size/\cur.toList.take n=xs.map f/\n<=c/\c<=maxLen/\cur.size=c:=by
 rcases h.2 with⟨h0,_⟩ | ⟨g',cap,cur,hv,hb,hg,hnc,hcm,hcs,htk⟩
 ·cases h0
 ·simp only[Value.slice.injEq,Option.some.injEq,Addr.mk.injEq,and_true] at hv;obtain⟨rfl,hn,rfl⟩:=hv;rw[Nat.mul_one] at htk hcs;exact⟨hb,hn.symm,cur,hg,by omega,by rw[hn];exact htk,by omega,hcm,hcs⟩
theorem r7a.set(h:r7a f e w base (.slice (some ⟨g,0,none⟩) n c) xs)(i:Nat)(u:α):r7a f e (w.setCell ⟨g,i,none⟩ (f u)) base (.slice (some ⟨g,0,none⟩) n c) (xs.set i u):=by
 obtain⟨hb,hn,cur,hg,hns,htk,hnc,hcm,hcs⟩:=h.heap;have h1:=heap_setCell_same w g i cur e (f u) hg;have hl:(xs.set i u).length=n:=by rw[List.length_set,hn]
 refine⟨by simp,.inr ⟨g,c,_,by rw[hl],hb,h1,by rw[hl];exact hnc,hcm,by simp[hcs],?_⟩⟩;rw[hl,Nat.mul_one,Array.toList_setIfInBounds,List.take_set,htk,List.map_set]
theorem r7a.frozen(h:r7a f e w base (.slice (some ⟨g,0,none⟩) n c) xs)(i:Nat):w.frozen? ⟨g,i,none⟩=false:=by obtain⟨_,_,cur,hg,_⟩:=h.heap;exact frozen_of_row w g i _ e hg
theorem r7a.cell(h:r7a f e w base (.slice (some ⟨g,0,none⟩) n c) xs){i:Nat}{x:α}(hi:xs[i]? = some x):w.cell? ⟨g,i,none⟩=some (f x):=by
 obtain⟨_,hn,cur,hg,hns,htk,_⟩:=h.heap;have hl:=(List.getElem?_eq_some_iff.1 hi).1;rw[cell_of_row w g i cur e (0,0) hg];have e1:cur[i]? = (cur.toList.take n)[i]?:=by rw[List.getElem?_take,if_pos (by omega),Array.getElem?_toList]
 rw[e1,htk,List.getElem?_map,hi];rfl
end
section
open Go.ChangeShapes Go.WideShapes
variable {H:Type} {enc:TypeId×Value->H} {P:Program} {W:World} {base:Nat} {t e:TypeId} {v:Value} {d:DataW H} {p:List MemPlace}
end
def F6a{α:Type}(f:α->List Value)(s:Nat)(e:TypeId)(w:World)(base:Nat)(v:Value)(xs:List α):Prop:=w.ownsRow base e s v xs.length (xs.flatMap f)
structure c1a {α:Type} (f:α->List Value) (s:Nat) (w:World) (B:Nat) (A:Option Addr) (n c:Nat) (xs:List α):Prop where
 len:xs.length=n
 fit:n<=c
 bare:A=none->c=0
 cells:0<n->∃b off,A=some ⟨b,off,none⟩/\b<B/\∀i x,xs[i]? = some x->∀j u,(f x)[j]? = some u->w.cell? ⟨b,off+(i*s+j),none⟩=some u
theorem R8a{α:Type}{f:α->List Value}{s:Nat}(hs:0<s)(hf:∀x,(f x).length=s):∀(xs:List α) (i:Nat),(xs.flatMap f)[i]? = (xs[i/s]?).bind λx=>(f x)[i%s]?
 | [],i=>by simp
 | x::r,i=>by
  rw[List.flatMap_cons,List.getElem?_append,hf x];by_cases h:i<s
  ·rw[if_pos h,Nat.div_eq_of_lt h,Nat.mod_eq_of_lt h];rfl
  ·rw[if_neg h,R8a hs hf r (i-s)];have e1:i/s=(i-s)/s+1:=by rw[Nat.div_eq_sub_div hs (by omega)]
   have e2:i%s=(i-s)%s:=by rw[Nat.mod_eq_sub_mod (by omega)]
   rw[e1,e2,List.getElem?_cons_succ]
theorem X1b{α:Type}{f:α->List Value}{s:Nat}(hf:∀x,(f x).length=s)(xs:List α):(xs.flatMap f).length=xs.length*s:=by
 induction xs with
 | nil=>simp
 | cons x r ih=>rw[List.flatMap_cons,List.length_append,ih,hf,List.length_cons,Nat.add_mul];omega
section
variable {α:Type} {f:α->List Value} {s:Nat} {w w' w2:World} {B B' base base' b:Nat} {A:Option Addr} {n c:Nat} {xs ys:List α} {e e' T:TypeId} {v v' u:Value}
theorem c1a.keep(h:c1a f s w B A n c xs)(hk:∀p:Addr,p.block<B->w'.cell? p=w.cell? p):c1a f s w' B A n c xs:=
 ⟨h.len,h.fit,h.bare,λhn=>by obtain⟨b,off,e,hb,hc⟩:=h.cells hn;exact⟨b,off,e,hb,λi x hi j u hj=>(hk _ hb).trans (hc i x hi j u hj)⟩⟩
theorem c1a.mono(h:c1a f s w B A n c xs)(hB:B<=B'):c1a f s w B' A n c xs:=
 ⟨h.len,h.fit,h.bare,λhn=>by obtain⟨b,off,e,hb,hc⟩:=h.cells hn;exact⟨b,off,e,by omega,hc⟩⟩
theorem c1a.below(h:c1a f s w B A n c xs)(hb:Below B w w'):c1a f s w' B A n c xs:=h.keep λ_ hp=>hb.cell hp
theorem c1a.over(h:c1a f s w w.heap.size A n c xs)(hb:BW w w'):c1a f s w' w'.heap.size A n c xs:=(h.below hb).mono hb.size
theorem c1a.drew(h:c1a f s w B A n c xs):c1a f s w.drew B A n c xs:=h.keep λ_ _=>rfl
theorem c1a.drewN(h:c1a f s w B A n c xs)(k:Nat):c1a f s (w.drewN k) B A n c xs:=h.keep λ_ _=>rfl
theorem J1a.drew{f:α->Value}(h:J1a f w B A n c xs):J1a f w.drew B A n c xs:=h.keep λ_ _=>rfl
theorem J1a.drewN{f:α->Value}(h:J1a f w B A n c xs)(k:Nat):J1a f (w.drewN k) B A n c xs:=h.keep λ_ _=>rfl
theorem c1a.head(h:c1a f s w B A c c xs)(hn:n<=c):c1a f s w B A n c (xs.take n):=
 ⟨by have:=h.len;simp;omega,hn,h.bare,λh0=>by
  obtain⟨b,off,rfl,hb,hc⟩:=h.cells (by omega);refine⟨b,off,rfl,hb,λi x hi=>hc i x ?_⟩;rw[List.getElem?_take] at hi;split at hi
  ·exact hi
  ·cases hi⟩
theorem c1a.nil(f:α->List Value)(s:Nat)(w:World)(B:Nat):c1a f s w B none 0 0 []:=⟨rfl,Nat.le_refl _,λ_=>rfl,λh=>absurd h (by omega)⟩
theorem c1a.range(h:c1a f s w B A n c xs){b off i:Nat}(hA:A=some ⟨b,off,none⟩)(hi:i<n){x:α}(hx:xs[i]? = some x):w.rangeAt b (off+i*s) (f x):=λj u hj=>by
 obtain⟨b',off',e,_,hc⟩:=h.cells (by omega);rw[hA] at e;injection e with e
 injection e with e1 e2 e3
 subst e1 e2;have:=hc i x hx j u hj
 rwa [<-Nat.add_assoc] at this
theorem F6a.nil(f:α->List Value)(s:Nat)(e:TypeId)(w:World)(base:Nat):F6a f s e w base (.slice none 0 0) []:=World.ownsRow_nil w base e s
theorem F6a.mono(h:F6a f s e w base v xs)(hb:base'<=base):F6a f s e w base' v xs:=by
 refine⟨h.1,?_⟩;rcases h.2 with h0 | ⟨g,cap,cur,rfl,h1,rest⟩
 ·exact .inl h0
 ·exact .inr ⟨g,cap,cur,rfl,by omega,rest⟩
theorem F6a.keep(h:F6a f s e w base v xs)(hk:∀i cs,v.ownBlock=some i->w.heap[i]? = some (.cells cs e (0,0))->w'.heap[i]? = w.heap[i]?):F6a f s e w' base v xs:=by
 refine⟨h.1,?_⟩;rcases h.2 with h0 | ⟨g,cap,cur,rfl,h1,hg,rest⟩
 ·exact .inl h0
 ·exact .inr ⟨g,cap,cur,rfl,h1,(hk g cur rfl hg).trans hg,rest⟩
theorem F6a.below(h:F6a f s e w base v xs)(hb:BW w w'):F6a f s e w' base v xs:=h.keep λi _ _ hi=>hb.block i (Array.getElem?_eq_some_iff.1 hi).1
theorem F6a.only(h:F6a f s e w base v xs)(hO:s2a b w w')(hb:b<base):F6a f s e w' base v xs:=by
 refine⟨h.1,?_⟩;rcases h.2 with h0 | ⟨g,cap,cur,rfl,h1,hg,rest⟩
 ·exact .inl h0
 ·exact .inr ⟨g,cap,cur,rfl,h1,(hO.rest g (by omega)).trans hg,rest⟩
theorem F6a.lt(h:F6a f s e w base v xs){i:Nat}(hi:v.ownBlock=some i):i<w.heap.size:=(World.ownsRow.lt h i hi).2
theorem F6a.holds(hs:0<s)(hf:∀x,(f x).length=s)(h:F6a f s e w base v xs):∃A n c,v=.slice A n c/\c1a f s w w.heap.size A n c xs:=by
 rcases h.2 with⟨rfl,h0⟩ | ⟨g,cap,cur,rfl,hb,hg,hnc,hcm,hcs,htk⟩
 ·have:xs=[]:=List.eq_nil_of_length_eq_zero h0;subst this;exact⟨none,0,0,rfl,c1a.nil f s w _⟩
 ·refine⟨_,_,_,rfl,rfl,hnc,λhA=>(by cases hA),λh0=>⟨g,0,rfl,(Array.getElem?_eq_some_iff.1 hg).1,λi x hi j u hj=>?_⟩⟩;have hil:i<xs.length:=(List.getElem?_eq_some_iff.1 hi).1;have hjs:j<s:=by rw[<-hf x];exact(List.getElem?_eq_some_iff.1 hj).1
  have hlt:i*s+j<xs.length*s:=by have:(i+1)*s<=xs.length*s:=Nat.mul_le_mul_right s hil;rw[Nat.add_mul] at this;omega
  rw[Nat.zero_add,cell_of_row w g _ cur e (0,0) hg];have e1:cur[i*s+j]? = (cur.toList.take (xs.length*s))[i*s+j]?:=by rw[List.getElem?_take,if_pos hlt,Array.getElem?_toList]
  rw[e1,htk,R8a hs hf,show(i*s+j)/s=i from by rw[Nat.mul_comm,Nat.mul_add_div hs,Nat.div_eq_of_lt hjs,Nat.add_zero],show(i*s+j)%s=j from by rw[Nat.mul_comm,Nat.mul_add_mod,Nat.mod_eq_of_lt hjs],hi];exact hj
end
section
variable {α:Type} {f:α->List Value} {s:Nat} {P:Program} {w:World} {ops:Array Oper} {rest:List Oper} {o:Oper} {a:Act} {Q:Exit->Act->World->Prop}
theorem S8a(hgd:o.guard=none)(l x:Operand)(f:α->List Value)(s:Nat)(hs0:0<s)(hfl:∀y,(f y).length=s)(hf:∀y,∀u∈f y,u.oneCell'=true)(z:Value)(hzc:z.cells.size=s)(T e:TypeId)(bytes:Nat)
(ht:P.underlying T=some (.slice e))(hi:(P.info? e).map (λi=>(i.zero,i.size,i.bytes))=some (some z,s,bytes))
(ho:o.op=.call { callee:=.builtin .append,args:=#[l,x],argTypes:=#[T,T] })
(base:Nat)(v:Value)(xs:List α)(hs:a.eval l=v)(hown:F6a f s e w base v xs)(B:Nat)(A:Option Addr)(m c:Nat)(ys:List α)(hx:a.eval x=.slice A m c)
(hr:c1a f s w B A m c ys)(hlen:(xs.length+ys.length)*bytes<=140737488355328)(h63:xs.length+ys.length<=9223372036854775807)(hbase:base<=w.heap.size)
(h:∀v' w',Hid (F6a f s e w' base v' (xs++ys))->Hid (Below base w w')->wpList P ops Q rest (a.put o.dst v') w') :
  wpList P ops Q (o::rest) a w:=by
 obtain⟨i0,hi0,hz0,hz1,hz2⟩:=info_parts hi;have hl:=hr.len;rcases A with _ | ad
 ·have hc:=hr.bare rfl;have hft:=hr.fit;have hm:m=0:=by omega
  subst hm;subst hc;have:ys=[]:=List.eq_nil_of_length_eq_zero hl;subst this;refine wpList_append_own_none hgd l x T ho base e i0 s ht hi0 v xs.length _ hs hown hx ?_;exact h v w (by rw[List.append_nil];exact hown) (Below.refl _ _)
 ·refine wpList_append_own w hgd l x T ho base e i0 z s bytes ht hi0 hz0 hz1 hz2 hzc hs0 v xs.length _ hs hown ad m c (ys.flatMap f) hx (by rw[X1b hfl,hl]) ?_
   (by intro v hv;obtain⟨x,_,hx⟩:=List.mem_flatMap.1 hv;exact hf x v hx) (by unfold maxLen;omega) (by rw[<-hl];exact hlen) hbase ?_
  ·intro j u hj;have hjl:j<(ys.flatMap f).length:=(List.getElem?_eq_some_iff.1 hj).1;rw[X1b hfl] at hjl;have hm0:0<m:=by
    rcases Nat.eq_zero_or_pos m with h0 | h0
    ·rw[hl,h0,Nat.zero_mul] at hjl;omega
    ·exact h0
   obtain⟨b,off,he,_,hcl⟩:=hr.cells hm0;injection he with he
   subst he;have e:(⟨b,off,none⟩:Addr).add j=⟨b,off+j,none⟩:=by
    by_cases hj0:j=0
    ·subst hj0;simp[Addr.add]
    ·simp[Addr.add,hj0]
   rw[e];rw[R8a hs0 hfl,Option.bind_eq_some_iff] at hj;obtain⟨y,hy,hu⟩:=hj;have:=hcl _ y hy _ u hu
   rwa [Nat.mul_comm,Nat.div_add_mod] at this
  ·intro v' w' hown' hgr _;refine h v' w' ?_ ((Below.refl _ _).grown hgr hbase (λk hk=>(World.ownsRow.lt hown k hk).1));show World.ownsRow _ _ _ _ _ _ _
   rw[List.length_append,List.flatMap_append,hl];exact hown'
end
structure r2a where
 op:Int
 at_:Int
 n:Int
 md:Int
def r2a.tup(l:r2a):Int×Int×Int×Int:=(l.op,l.at_,l.n,l.md)
theorem r2a.tup_inj{a b:r2a}:a.tup=b.tup↔a=b:=by cases a;cases b;simp[r2a.tup]
instance:DecidableEq r2a:=λ_ _=>decidable_of_iff _ r2a.tup_inj
structure r2a.ok (l:r2a):Prop where
 op:-9223372036854775808<=l.op/\l.op<=9223372036854775807
 at_:0<=l.at_/\l.at_<=18446744073709551615
 n:0<=l.n/\l.n<=18446744073709551615
 md:0<=l.md/\l.md<=65535
def H0a(l:r2a):List Value:=[.int .i64 l.op,.int .u64 l.at_,.int .u64 l.n,.int .u16 l.md]
theorem i5a(l:r2a):(H0a l).length=4:=rfl
theorem o9a(l:r2a):∀u∈H0a l,u.oneCell'=true:=by intro u hu;simp only[H0a,List.mem_cons,List.not_mem_nil,or_false] at hu;rcases hu with rfl | rfl | rfl | rfl<;>rfl
structure y1a where
 name:ByteArray
 kind:Int
 size:Int
def y1a.tup(l:y1a):ByteArray×Int×Int:=(l.name,l.kind,l.size)
theorem y1a.tup_inj{a b:y1a}:a.tup=b.tup↔a=b:=by cases a;cases b;simp[y1a.tup]
instance:DecidableEq y1a:=λ_ _=>decidable_of_iff _ y1a.tup_inj
structure y1a.ok (l:y1a):Prop where
 kind:0<=l.kind/\l.kind<=255
 size:-9223372036854775808<=l.size/\l.size<=9223372036854775807
def B0a(l:y1a):List Value:=[.string l.name,.int .u8 l.kind,.int .i64 l.size]
theorem I4a(l:y1a):(B0a l).length=3:=rfl
theorem h6a(l:y1a):∀u∈B0a l,u.oneCell'=true:=by intro u hu;simp only[B0a,List.mem_cons,List.not_mem_nil,or_false] at hu;rcases hu with rfl | rfl | rfl<;>rfl
structure l1a where
 dial:List Int
 guid:List Int
 proof:List Int
 user:ByteArray
 share:ByteArray
 acc:Int
 shr:Int
 way:Int
 opt:Int
 lev:Int
 dur:Int
 file:Int
 name:ByteArray
 at_:Int
 n:Int
 data:List Int
 locks:List r2a
 most:Int
 pat:ByteArray
 aft:ByteArray
 cls:Int
 siz:Int
 on:Bool
def l1a.tup(a:l1a):List (List Int)×List ByteArray×List Int×List r2a×Bool:=([a.dial,a.guid,a.proof,a.data],[a.user,a.share,a.name,a.pat,a.aft],[a.acc,a.shr,a.way,a.opt,a.lev,a.dur,a.file,a.at_,a.n,a.most,a.cls,a.siz],a.locks,a.on)
theorem l1a.tup_inj{a b:l1a}:a.tup=b.tup↔a=b:=by
 constructor
 ·obtain⟨a1,a2,a3,a4,a5,a6,a7,a8,a9,a10,a11,a12,a13,a14,a15,a16,a17,a18,a19,a20,a21,a22,a23⟩:=a;obtain⟨b1,b2,b3,b4,b5,b6,b7,b8,b9,b10,b11,b12,b13,b14,b15,b16,b17,b18,b19,b20,b21,b22,b23⟩:=b;intro h;simp only[l1a.tup,Prod.mk.injEq,List.cons.injEq,and_true] at h;obtain⟨⟨h1,h2,h3,h16⟩,⟨h4,h5,h13,h19,h20⟩,⟨h6,h7,h8,h9,h10,h11,h12,h14,h15,h18,h21,h22⟩,h17,h23⟩:=h;subst h1 h2 h3 h4 h5 h6 h7 h8 h9 h10 h11 h12 h13 h14 h15 h16 h17 h18 h19 h20 h21 h22 h23;rfl
 ·rintro rfl;rfl
instance:DecidableEq l1a:=λ_ _=>decidable_of_iff _ l1a.tup_inj
structure l1a.ok (a:l1a):Prop where
 dial:∀x∈a.dial,0<=x/\x<=65535
 glen:a.guid.length=16
 gbyte:Bytes a.guid
 plen:a.proof.length=32
 pbyte:Bytes a.proof
 acc:0<=a.acc/\a.acc<=4294967295
 shr:0<=a.shr/\a.shr<=4294967295
 way:0<=a.way/\a.way<=4294967295
 opt:0<=a.opt/\a.opt<=4294967295
 lev:0<=a.lev/\a.lev<=255
 dur:0<=a.dur/\a.dur<=255
 file:0<=a.file/\a.file<=18446744073709551615
 at_:0<=a.at_/\a.at_<=18446744073709551615
 n:0<=a.n/\a.n<=4294967295
 data:Bytes a.data
 locks:∀l∈a.locks,l.ok
 most:0<=a.most/\a.most<=65535
 cls:0<=a.cls/\a.cls<=65535
 siz:0<=a.siz/\a.siz<=18446744073709551615
def i0a:l1a:=⟨[],List.replicate 16 0,List.replicate 32 0,.empty,.empty,0,0,0,0,0,0,0,.empty,0,0,[],[],0,.empty,.empty,0,0,false⟩
theorem h0a:i0a.ok:=⟨(λx h=>by cases h),rfl,Bytes.zeros 16,rfl,Bytes.zeros 32,by decide,by decide,by decide,by decide,by decide,by decide,by decide,by decide,by decide,Bytes.nil,(λl h=>by cases h),by decide,by decide,by decide⟩
def p9a(vx vl:Value)(a:l1a):List Value:=[.string a.user,.string a.share,.int .u32 a.acc,.int .u32 a.shr,.int .u32 a.way,.int .u32 a.opt,.int .u8 a.lev,.int .u8 a.dur,.int .u64 a.file,.string a.name,.int .u64 a.at_,.int .u32 a.n,vx,vl,
 .int .u16 a.most,.string a.pat,.string a.aft,.int .u16 a.cls,.int .u64 a.siz,.bool a.on]
def l0a(vd vx vl:Value)(a:l1a):List Value:=vd::(a.guid.map (Value.int .u8)++(a.proof.map (Value.int .u8)++p9a vx vl a))
def g1a(w:World)(B:Nat)(cs:List Value)(a:l1a):Prop:=∃Ad nd cd Ax nx cx Al nl cl,cs=l0a (.slice Ad nd cd) (.slice Ax nx cx) (.slice Al nl cl) a/\
 J1a (Value.int .u16) w B Ad nd cd a.dial/\Holds w B Ax nx cx a.data/\c1a H0a 4 w B Al nl cl a.locks
structure O1a where
 dia:Int
 siz:Int
 chal:List Int
 lev:Int
 dur:Int
 made:Int
 file:Int
 kind:Int
 data:List Int
 n:Int
 ents:List y1a
 more:Bool
 gone:Bool
def O1a.tup(a:O1a):(List Int×List Int)×(List Int×List y1a×Bool×Bool):=(([a.dia,a.siz,a.lev,a.dur,a.made,a.file,a.kind,a.n],a.chal),(a.data,a.ents,a.more,a.gone))
theorem O1a.tup_inj{a b:O1a}:a.tup=b.tup↔a=b:=by
 obtain⟨a1,a2,a3,a4,a5,a6,a7,a8,a9,a10,a11,a12,a13⟩:=a;obtain⟨b1,b2,b3,b4,b5,b6,b7,b8,b9,b10,b11,b12,b13⟩:=b;simp only[O1a.tup,Prod.mk.injEq,List.cons.injEq,O1a.mk.injEq,and_true];constructor
 ·rintro⟨⟨⟨h1,h2,h3,h4,h5,h6,h7,h8⟩,h9⟩,h10,h11,h12,h13⟩;exact⟨h1,h2,h9,h3,h4,h5,h6,h7,h10,h8,h11,h12,h13⟩
 ·rintro⟨h1,h2,h9,h3,h4,h5,h6,h7,h10,h8,h11,h12,h13⟩;exact⟨⟨⟨h1,h2,h3,h4,h5,h6,h7,h8⟩,h9⟩,h10,h11,h12,h13⟩
instance:DecidableEq O1a:=λ_ _=>decidable_of_iff _ O1a.tup_inj
structure O1a.ok (a:O1a):Prop where
 dia:0<=a.dia/\a.dia<=65535
 siz:0<=a.siz/\a.siz<=18446744073709551615
 clen:a.chal.length=8
 cbyte:Bytes a.chal
 lev:0<=a.lev/\a.lev<=255
 dur:0<=a.dur/\a.dur<=255
 made:0<=a.made/\a.made<=65535
 file:0<=a.file/\a.file<=18446744073709551615
 kind:0<=a.kind/\a.kind<=255
 data:Bytes a.data
 n:0<=a.n/\a.n<=4294967295
 ents:∀l∈a.ents,l.ok
def n0a:O1a:=⟨0,0,List.replicate 8 0,0,0,0,0,0,[],0,[],false,false⟩
theorem I0a:n0a.ok:=⟨by decide,by decide,rfl,Bytes.zeros 8,by decide,by decide,by decide,by decide,by decide,Bytes.nil,by decide,(λl h=>by cases h)⟩
def A4b(vx ve:Value)(a:O1a):List Value:=[.int .u8 a.lev,.int .u8 a.dur,.int .u16 a.made,.int .u64 a.file,.int .u8 a.kind,vx,.int .u32 a.n,ve,.bool a.more,.bool a.gone]
def u0a(vx ve:Value)(a:O1a):List Value:=.int .u16 a.dia::.int .u64 a.siz::(a.chal.map (Value.int .u8)++A4b vx ve a)
def s1a(w:World)(B:Nat)(cs:List Value)(a:O1a):Prop:=∃Ax nx cx Ae ne ce,cs=u0a (.slice Ax nx cx) (.slice Ae ne ce) a/\Holds w B Ax nx cx a.data/\c1a B0a 3 w B Ae ne ce a.ents
section
variable {w w':World} {B B' g:Nat} {T:TypeId} {cs:List Value} {a:l1a} {s:O1a} {vd vx vl ve:Value}
theorem g1a.keep(h:g1a w B cs a)(hk:∀p:Addr,p.block<B->w'.cell? p=w.cell? p):g1a w' B cs a:=by obtain⟨Ad,nd,cd,Ax,nx,cx,Al,nl,cl,e,h1,h2,h3⟩:=h;exact⟨Ad,nd,cd,Ax,nx,cx,Al,nl,cl,e,h1.keep hk,h2.keep hk,h3.keep hk⟩
theorem g1a.mono(h:g1a w B cs a)(hB:B<=B'):g1a w B' cs a:=by obtain⟨Ad,nd,cd,Ax,nx,cx,Al,nl,cl,e,h1,h2,h3⟩:=h;exact⟨Ad,nd,cd,Ax,nx,cx,Al,nl,cl,e,h1.mono hB,h2.mono hB,h3.mono hB⟩
theorem g1a.below(h:g1a w B cs a)(hb:Below B w w'):g1a w' B cs a:=h.keep λ_ hp=>hb.cell hp
theorem g1a.over(h:g1a w w.heap.size cs a)(hb:BW w w'):g1a w' w'.heap.size cs a:=(h.below hb).mono hb.size
theorem g1a.drewN(h:g1a w B cs a)(k:Nat):g1a (w.drewN k) B cs a:=h.keep λ_ _=>rfl
theorem g1a.drew(h:g1a w B cs a):g1a w.drew B cs a:=h.keep λ_ _=>rfl
theorem s1a.keep(h:s1a w B cs s)(hk:∀p:Addr,p.block<B->w'.cell? p=w.cell? p):s1a w' B cs s:=by obtain⟨Ax,nx,cx,Al,nl,cl,e,h2,h3⟩:=h;exact⟨Ax,nx,cx,Al,nl,cl,e,h2.keep hk,h3.keep hk⟩
theorem s1a.mono(h:s1a w B cs s)(hB:B<=B'):s1a w B' cs s:=by obtain⟨Ax,nx,cx,Al,nl,cl,e,h2,h3⟩:=h;exact⟨Ax,nx,cx,Al,nl,cl,e,h2.mono hB,h3.mono hB⟩
theorem s1a.below(h:s1a w B cs s)(hb:Below B w w'):s1a w' B cs s:=h.keep λ_ hp=>hb.cell hp
theorem s1a.over(h:s1a w w.heap.size cs s)(hb:BW w w'):s1a w' w'.heap.size cs s:=(h.below hb).mono hb.size
theorem s1a.drewN(h:s1a w B cs s)(k:Nat):s1a (w.drewN k) B cs s:=h.keep λ_ _=>rfl
theorem s1a.drew(h:s1a w B cs s):s1a w.drew B cs s:=h.keep λ_ _=>rfl
theorem G1a(k:a.ok):(l0a vd vx vl a).length=69:=by simp[l0a,p9a,k.glen,k.plen]
theorem m2a(k:s.ok):(u0a vx ve s).length=20:=by simp[u0a,A4b,k.clen]
theorem m8a{xs:List Int}{k:IntKind}{v:Value}(h:v∈xs.map (Value.int k)):v.oneCell'=true:=by obtain⟨x,_,rfl⟩:=List.mem_map.1 h;rfl
theorem x1a(hd:vd.oneCell'=true)(hx:vx.oneCell'=true)(hl:vl.oneCell'=true):∀v∈l0a vd vx vl a,v.oneCell'=true:=by
 intro v hv;simp only[l0a,List.mem_cons,List.mem_append] at hv;rcases hv with rfl | hv | hv | hv
 ·exact hd
 ·exact m8a hv
 ·exact m8a hv
 ·simp only[p9a,List.mem_cons,List.not_mem_nil,or_false] at hv;rcases hv with rfl | rfl | rfl | rfl | rfl | rfl | rfl | rfl | rfl | rfl | rfl | rfl | rfl | rfl | rfl | rfl | rfl | rfl | rfl | rfl<;>first | rfl | assumption
theorem N1a(hx:vx.oneCell'=true)(hl:ve.oneCell'=true):∀v∈u0a vx ve s,v.oneCell'=true:=by
 intro v hv;simp only[u0a,List.mem_cons,List.mem_append] at hv;rcases hv with rfl | rfl | hv | hv
 ·rfl
 ·rfl
 ·exact m8a hv
 ·simp only[A4b,List.mem_cons,List.not_mem_nil,or_false] at hv;rcases hv with rfl | rfl | rfl | rfl | rfl | rfl | rfl | rfl | rfl | rfl<;>first | rfl | assumption
theorem g1a.one(h:g1a w B cs a):∀v∈cs,v.oneCell'=true:=by obtain⟨_,_,_,_,_,_,_,_,_,rfl,_⟩:=h;exact x1a rfl rfl rfl
theorem g1a.len(h:g1a w B cs a)(k:a.ok):cs.length=69:=by obtain⟨_,_,_,_,_,_,_,_,_,rfl,_⟩:=h;exact G1a k
theorem s1a.one(h:s1a w B cs s):∀v∈cs,v.oneCell'=true:=by obtain⟨_,_,_,_,_,_,rfl,_⟩:=h;exact N1a rfl rfl
theorem s1a.len(h:s1a w B cs s)(k:s.ok):cs.length=20:=by obtain⟨_,_,_,_,_,_,rfl,_⟩:=h;exact m2a k
theorem o0a(k:a.ok)(i:Nat):(l0a vd vx vl a)[49+i]? = (p9a vx vl a)[i]?:=by
 unfold l0a;rw[show 49+i=(48+i)+1 from by omega,List.getElem?_cons_succ,List.getElem?_append_right (by rw[List.length_map,k.glen];omega),List.length_map,k.glen,List.getElem?_append_right (by rw[List.length_map,k.plen];omega),List.length_map,k.plen]
 congr 1
 omega
theorem y3b(k:a.ok)(i:Nat)(u:Value):(l0a vd vx vl a).set (49+i) u=vd::(a.guid.map (Value.int .u8)++(a.proof.map (Value.int .u8)++(p9a vx vl a).set i u)):=by
 unfold l0a;rw[show 49+i=(48+i)+1 from by omega,List.set_cons_succ,List.set_append_right _ _ (by rw[List.length_map,k.glen];omega),List.length_map,k.glen,List.set_append_right _ _ (by rw[List.length_map,k.plen];omega),List.length_map,k.plen]
 congr 4
 omega
theorem D0a(k:s.ok)(i:Nat):(u0a vx ve s)[10+i]? = (A4b vx ve s)[i]?:=by
 unfold u0a;rw[show 10+i=(8+i)+1+1 from by omega,List.getElem?_cons_succ,List.getElem?_cons_succ,List.getElem?_append_right (by rw[List.length_map,k.clen];omega),List.length_map,k.clen]
 congr 1
 omega
theorem Blk.at(h:Blk w g T cs){i:Nat}{v:Value}(e:cs[i]? = some v):w.cell? ⟨g,i,none⟩=some v:=(h.cell i).trans e
end
theorem p0a:(prog.info? 34).map (·.size)=some 69:=by kernel_rfl
theorem n8a:(prog.info? 34).map (λi=>(i.zero,i.size))=some (some (.agg (l0a (.slice none 0 0) (.slice none 0 0) (.slice none 0 0) i0a).toArray),69):=by kernel_rfl
theorem F7a:prog.built 34 []=some (l0a (.slice none 0 0) (.slice none 0 0) (.slice none 0 0) i0a).toArray:=by kernel_rfl
theorem t0a:(prog.info? 39).map (·.size)=some 20:=by kernel_rfl
theorem q9a:(prog.info? 39).map (λi=>(i.zero,i.size))=some (some (.agg (u0a (.slice none 0 0) (.slice none 0 0) n0a).toArray),20):=by kernel_rfl
theorem r9a:prog.built 39 []=some (u0a (.slice none 0 0) (.slice none 0 0) n0a).toArray:=by kernel_rfl
theorem V1a(w:World)(B:Nat):g1a w B (l0a (.slice none 0 0) (.slice none 0 0) (.slice none 0 0) i0a) i0a:=⟨none,0,0,none,0,0,none,0,0,rfl,J1a.nil _ w B,Holds.nil w B,c1a.nil _ _ w B⟩
theorem v2a(w:World)(B:Nat):s1a w B (u0a (.slice none 0 0) (.slice none 0 0) n0a) n0a:=⟨none,0,0,none,0,0,rfl,Holds.nil w B,c1a.nil _ _ w B⟩
section
theorem y2a{P:Program}{T e:TypeId}{n:Nat}{k:IntKind}(hu:P.underlying T=some (.array n e))(he:P.underlying e=some (.int k))(hs:(P.info? e).map (·.size)=some 1)(xs ys:List Int)(hl:xs.length=n)(hm:ys.length=n)(d:Nat)(w:World) :
  (Op.equalIn (d+2) T (.agg (xs.map (Value.int k)).toArray) (.agg (ys.map (Value.int k)).toArray)).run P w=.ok (decide (xs=ys)) w:=by
 obtain⟨j,hj,hj1⟩:∃j,P.info? e=some j/\j.size=1:=by
  cases hq:P.info? e with
  | none=>simp[hq] at hs
  | some j=>exact⟨j,rfl,by simpa[hq] using hs⟩
 have hc:P.cellsOf e=1:=by unfold Program.cellsOf;rw[hj];simpa using hj1
 rw[show d+2=(d+1)+1 from rfl,run_equalIn_array w (d+1) _ _ hu hj,hc];have key:∀is:List Nat,(∀i∈is,i<n)->(Op.eqItems (d+1) e 1 (xs.map (Value.int k)).toArray (ys.map (Value.int k)).toArray is).run P w=.ok (is.all λi=>xs.getD i 0==ys.getD i 0) w:=by
  intro is
  induction is with
  | nil=>intro _;simp[Op.eqItems]
  | cons i is ih=>
   intro hi;have hil:i<n:=hi i List.mem_cons_self;have hx:i<xs.length:=by omega
   have hy:i<ys.length:=by omega
   have hp:(part e (xs.map (Value.int k)).toArray (i*1)).run P w=.ok (.int k xs[i]) w:=by simp[part,isAgg,run_underlying he,hx]
   have hp2:(part e (ys.map (Value.int k)).toArray (i*1)).run P w=.ok (.int k ys[i]) w:=by simp[part,isAgg,run_underlying he,hy]
   simp only[Op.eqItems,Sem.run_bind,hp,hp2,Result.andThen_ok,run_equalIn_int w d e k k _ _ he];have e1:xs.getD i 0=xs[i]:=by simp[List.getD_eq_getElem?_getD,hx]
   have e2:ys.getD i 0=ys[i]:=by simp[List.getD_eq_getElem?_getD,hy]
   rw[List.all_cons,e1,e2];by_cases hq:xs[i]=ys[i]
   ·rw[hq];simp only[beq_self_eq_true,Bool.not_true,Bool.false_eq_true,if_false,Bool.true_and];exact ih λi h=>hi i (List.mem_cons_of_mem _ h)
   ·have hb:(xs[i]==ys[i])=false:=by simpa using hq
    simp[hb]
 rw[key _ λi h=>List.mem_range.1 h]
 congr 1
 by_cases hq:xs=ys
 ·subst hq;simp
 ·rw[decide_eq_false hq,List.all_eq_false];have hne:¬∀i,i<n->xs.getD i 0=ys.getD i 0:=λhall=>hq (by apply List.ext_getElem (by omega);intro i h1 h2;have:=hall i (by omega);simpa[List.getD_eq_getElem?_getD,h1,h2] using this)
  obtain⟨i,hi⟩:=Classical.not_forall.1 hne;obtain⟨hi1,hi2⟩:=Classical.not_imp.1 hi;exact⟨i,List.mem_range.2 hi1,by simpa using hi2⟩
def d5a(d:Nat)(xs ys:Array Value):List (Bool×TypeId×Nat)->Sem Bool
 | []=>pure true
 | (u,t,o)::r=>
  if u=true then d5a d xs ys r else do
   let a <-part t xs o
   let b <-part t ys o
   let q <-Op.equalIn d t a b
   if (!q)=true then pure false else d5a d xs ys r
theorem j5a(d:Nat)(xs ys:Array Value)(l:List Field):Op.eqFields d xs ys l=d5a d xs ys (l.map λf=>(decide (f.name = "_"),f.type,f.offset)):=by
 induction l with
 | nil=>rfl
 | cons f l ih=>
  simp only[Op.eqFields,List.map_cons,d5a,ih];by_cases h:f.name = "_"
  ·simp[h]
  ·simp[h]
section
variable {P:Program} {w:World} {d:Nat} {xs ys:Array Value} {r:List (Bool×TypeId×Nat)} {q:Bool}
theorem h2a(t:TypeId)(k:IntKind)(o:Nat)(x y:Int)(ht:P.underlying t=some (.int k))(hx:xs[o]? = some (.int k x))(hy:ys[o]? = some (.int k y))(hr:(d5a (d+1) xs ys r).run P w=.ok q w) :
  (d5a (d+1) xs ys ((false,t,o)::r)).run P w=.ok (x==y&&q) w:=by
 have p1:(part t xs o).run P w=.ok (.int k x) w:=by simp[part,isAgg,run_underlying ht,hx]
 have p2:(part t ys o).run P w=.ok (.int k y) w:=by simp[part,isAgg,run_underlying ht,hy]
 simp only[d5a,Bool.false_eq_true,if_false,Sem.run_bind,p1,p2,Result.andThen_ok,run_equalIn_int w d t k k _ _ ht];by_cases h:x=y
 ·subst h;simpa using hr
 ·have hb:(x==y)=false:=by simpa using h
  simp[hb]
theorem W8b(t e:TypeId)(n:Nat)(k:IntKind)(o:Nat)(us vs:List Int)(ht:P.underlying t=some (.array n e))(he:P.underlying e=some (.int k))(hs:(P.info? e).map (·.size)=some 1)(hz:(P.info? t).map (·.size)=some n)
(hx:xs.extract o (o+n)=(us.map (Value.int k)).toArray)(hy:ys.extract o (o+n)=(vs.map (Value.int k)).toArray)(ha:us.length=n)(hb:vs.length=n) :
  (d5a (d+2) xs ys [(false,t,o)]).run P w=.ok (decide (us=vs)) w:=by
 obtain⟨j,hj,hj1⟩:∃j,P.info? t=some j/\j.size=n:=by
  cases hq:P.info? t with
  | none=>simp[hq] at hz
  | some j=>exact⟨j,rfl,by simpa[hq] using hz⟩
 have p1:(part t xs o).run P w=.ok (.agg (us.map (Value.int k)).toArray) w:=by simp[part,isAgg,run_underlying ht,sizeOf,typeInfo,hj,hj1,hx]
 have p2:(part t ys o).run P w=.ok (.agg (vs.map (Value.int k)).toArray) w:=by simp[part,isAgg,run_underlying ht,sizeOf,typeInfo,hj,hj1,hy]
 simp only[d5a,Bool.false_eq_true,if_false,Sem.run_bind,p1,p2,Result.andThen_ok,y2a ht he hs us vs ha hb d w];by_cases h:us=vs
 ·simp[h]
 ·simp[h]
end
theorem F0c:(prog.fieldsOf 28).toList.map (λf=>(decide (f.name = "_"),f.type,f.offset)) =
  [(false,22,0),(false,23,1),(false,24,2),(false,22,3),(false,23,4),(false,23,5),(false,25,6),(false,25,7),(false,23,8),(false,25,9),(false,26,10)]:=by kernel_rfl
theorem F8a(a b:Hd)(ka:a.ok)(kb:b.ok)(w:World):(Op.equalIn 10000 28 (.agg (m0a a).toArray) (.agg (m0a b).toArray)).run prog w=.ok (decide (a=b)) w:=by
 rw[show(10000:Nat)=9999+1 from rfl,run_equalIn_struct w 9999 28 _ _ underlying28 (by kernel_rfl),j5a,F0c];have ea:(m0a a).toArray.extract 10 (10+16)=(a.sg.map (Value.int .u8)).toArray:=by
  have hl:(a.sg.map (Value.int .u8)).length=16:=by rw[List.length_map];exact ka.len
  rw[List.extract_toArray]
  congr 1
  show(((a.sg.map (Value.int .u8))).take 16)=_
  exact List.take_of_length_le (by omega)
 have eb:(m0a b).toArray.extract 10 (10+16)=(b.sg.map (Value.int .u8)).toArray:=by
  have hl:(b.sg.map (Value.int .u8)).length=16:=by rw[List.length_map];exact kb.len
  rw[List.extract_toArray]
  congr 1
  show(((b.sg.map (Value.int .u8))).take 16)=_
  exact List.take_of_length_le (by omega)
 have h:=h2a (P:=prog) (w:=w) (d:=9998) 22 .u16 0 a.ch b.ch underlying22 rfl rfl
  (h2a 23 .u32 1 a.st b.st underlying23 rfl rfl
  (h2a 24 .u16 2 a.cm b.cm underlying24 rfl rfl
  (h2a 22 .u16 3 a.cr b.cr underlying22 rfl rfl
  (h2a 23 .u32 4 a.fl b.fl underlying23 rfl rfl
  (h2a 23 .u32 5 a.nx b.nx underlying23 rfl rfl
  (h2a 25 .u64 6 a.id b.id underlying25 rfl rfl
  (h2a 25 .u64 7 a.asy b.asy underlying25 rfl rfl
  (h2a 23 .u32 8 a.tr b.tr underlying23 rfl rfl
  (h2a 25 .u64 9 a.se b.se underlying25 rfl rfl
  (W8b (xs:=(m0a a).toArray) (ys:=(m0a b).toArray) 26 5 16 .u8 10 a.sg b.sg underlying26 underlying5 (by kernel_rfl) (by kernel_rfl) ea eb ka.len kb.len))))))))))
 refine h.trans ?_
 congr 1
 obtain⟨a0,a1,a2,a3,a4,a5,a6,a7,a8,a9,us⟩:=a;obtain⟨b0,b1,b2,b3,b4,b5,b6,b7,b8,b9,vs⟩:=b;rw[Bool.eq_iff_iff];simp
section
variable {P:Program} {ops:Array Oper} {S:World->Prop}
theorem k0a{op:Oper}{a:Act}(hw:Region.wanted op (yielded ops a.tmps)=true)(T:TypeId)(x:Operand)(ho:op.op=.load T x)(g i:Nat)(hx:a.eval x=.pointer (some ⟨g,i,none⟩))(v:Value)
(hS:∀w,S w->w.cell? ⟨g,i,none⟩=some v)(d:TypeDesc)(hu:P.underlying T=some d)(hd:(match d with | .struct _ | .array _ _=>true | _=>false)=false):YieldsIf P ops S op v a:=
 .inl ⟨hw,λw hw'=>by
  have hc:=hS w hw';have hagg:(isAgg T).run P w=.ok false w:=by unfold isAgg;rw[Sem.run_bind,run_underlying hu w];cases d<;>simp_all
  unfold execOp;simp[ho,hx,Instr.loadAt,Instr.sureAddr,Sem.run_bind,Result.andThen_ok,loadVar,hagg,hc]⟩
theorem f1a{op:Oper}{a:Act}(hw:Region.wanted op (yielded ops a.tmps)=true)(T:TypeId)(parts:Array (Nat×Operand))(ho:op.op=.build T parts)(cs:List Value)
(hf:P.built T (parts.map fun (i,x)=>(i,a.eval x)).toList=some cs.toArray):YieldsIf P ops S op (.agg cs.toArray) a:=
 .inl ⟨hw,λw _=>by unfold execOp;simp only[ho,Sem.run_bind,run_build w T _ _ hf,Result.andThen_ok];rfl⟩
theorem J0a{op:Oper}{a:Act}(hw:Region.wanted op (yielded ops a.tmps)=true)(x:Operand)(ho:op.op=.nilCheck x)(ad:Addr)(hx:a.eval x=.pointer (some ad)):YieldsIf P ops S op (.pointer (some ad)) a:=
 .inl ⟨hw,λw _=>by unfold execOp;simp[ho,hx]⟩
theorem s0a{op:Oper}{a:Act}(hw:Region.wanted op (yielded ops a.tmps)=true)(x:Operand)(ho:op.op=.move x)(v:Value)(hx:a.eval x=v):YieldsIf P ops S op v a:=
 .inl ⟨hw,λw _=>by unfold execOp;simp[ho,hx]⟩
theorem G7a{op:Oper}{a:Act}(hw:Region.wanted op (yielded ops a.tmps)=true)(x:Operand)(ho:op.op=.assign x)(v:Value)(hx:a.eval x=v):YieldsIf P ops S op v a:=
 .inl ⟨hw,λw _=>by unfold execOp;simp[ho,hx]⟩
theorem H2a{md:Region.Mode}{Q:Exit->Act->World->Prop}{fuel:Nat}{listed:Array Bool}{a:Act}{w:World}(h:∀a',a'=a->wpAnyH P md ops Q S fuel listed a' w):wpAnyH P md ops Q S fuel listed a w:=h a rfl
theorem j3a{op:Oper}{a:Act}(hw:Region.wanted op (yielded ops a.tmps)=true)(fn:Fn)(xs ys:Array Operand)(ho:op.op=.makeFunc fn xs ys)(us vs:Array Value)(hx:xs.map a.eval=us)(hy:ys.map a.eval=vs)
(hf:∀w,(Instr.makeFunc fn us vs).run P w=.ok (.func fn us vs) w):YieldsIf P ops S op (.func fn us vs) a:=
 .inl ⟨hw,λw _=>by unfold execOp;simp only[ho,hx,hy,Sem.run_bind,hf,Result.andThen_ok];rfl⟩
theorem w0a{op:Oper}{a:Act}(hw:Region.wanted op (yielded ops a.tmps)=true)(T:TypeId)(x:Operand)(i:Nat)(ho:op.op=.fieldAddr T x i)(u v:Value)(hx:a.eval x=u)(hf:∀w,(Instr.fieldAt T u i).run P w=.ok v w):YieldsIf P ops S op v a:=
 .inl ⟨hw,λw _=>by unfold execOp;simp only[ho,hx,Sem.run_bind,hf,Result.andThen_ok];rfl⟩
theorem M3a{op:Oper}{a:Act}(hw:Region.wanted op (yielded ops a.tmps)=true)(T T':TypeId)(x:Operand)(ho:op.op=.convert T T' x)(u v:Value)(hx:a.eval x=u)(hf:∀w,(convert T T' u).run P w=.ok v w):YieldsIf P ops S op v a:=
 .inl ⟨hw,λw _=>by unfold execOp;simp only[ho,hx,Sem.run_bind,hf,Result.andThen_ok];rfl⟩
theorem C4a{op:Oper}{a:Act}(hw:Region.wanted op (yielded ops a.tmps)=true)(T:TypeId)(x:Operand)(ho:op.op=.load T x)(g:Nat)(hx:a.eval x=.pointer (some ⟨g,0,none⟩))(T':TypeId)(cs:List Value)
(hS:∀w,S w->Blk w g T' cs)(n:Nat)(d:TypeDesc)(hu:P.underlying T=some d)(hd:(match d with | .struct _ | .array _ _=>true | _=>false)=true)(hi:(P.info? T).map (·.size)=some n)(hn:Hid (cs.length=n)):YieldsIf P ops S op (.agg cs.toArray) a:=
 .inl ⟨hw,λw hw'=>by have hr:=run_loadVar_row (P:=P) w g T' T cs.toArray (0,0) _ (hS w hw') hu hd (by rw[hi];have:=hn.o;simp[this]);unfold execOp;simp only[ho,hx,Instr.loadAt,Instr.sureAddr,Sem.run_bind,Sem.run_pure,Result.andThen_ok,hr]⟩
end
theorem y0b(g:Nat)(i:Nat)(hi:i<11)(w:World):(Instr.fieldAt 28 (.pointer (some ⟨g,0,none⟩)) i).run prog w=.ok (.pointer (some ⟨g,i,none⟩)) w:=by revert hi;refine λhi=>A8a (p:=λi=>(Instr.fieldAt 28 (.pointer (some ⟨g,0,none⟩)) i).run prog w=.ok (.pointer (some ⟨g,i,none⟩)) w) ?_ ?_ ?_ ?_ ?_ ?_ ?_ ?_ ?_ ?_ ?_ i hi<;>go_simp
theorem e8b(n:Int)(h0:0<=n)(h1:n<=65535)(w:World):(convert 22 25 (.int .u16 n)).run prog w=.ok (.int .u64 n) w:=by
 have e:IntKind.u64.wrap n=n:=by rw[IntKind.wrap_u64];omega
 go_simp
theorem a3c(n:Int)(h0:0<=n)(h1:n<=65535)(w:World):(convert 24 25 (.int .u16 n)).run prog w=.ok (.int .u64 n) w:=by
 have e:IntKind.u64.wrap n=n:=by rw[IntKind.wrap_u64];omega
 go_simp
theorem B4b(n:Int)(h0:0<=n)(h1:n<=4294967295)(w:World):(convert 23 25 (.int .u32 n)).run prog w=.ok (.int .u64 n) w:=by
 have e:IntKind.u64.wrap n=n:=by rw[IntKind.wrap_u64];omega
 go_simp
end
theorem I6a{α:Type}{xs ys:List α}{k:Nat}{x:α}(hx:xs[k]? = some x)(hy:ys[k]? = some x)(h:xs.take k=ys.take k):xs.take (k+1)=ys.take (k+1):=by obtain⟨h1,e1⟩:=List.getElem?_eq_some_iff.1 hx;obtain⟨h2,e2⟩:=List.getElem?_eq_some_iff.1 hy;rw[List.take_succ_eq_append_getElem h1,List.take_succ_eq_append_getElem h2,h,e1,e2]
theorem k0b{α:Type}[DecidableEq α]{xs ys:List α}{k:Nat}{x y:α}(hx:xs[k]? = some x)(hy:ys[k]? = some y)(h:x≠y):decide (xs=ys)=false:=by
 rw[decide_eq_false_iff_not];rintro rfl;rw[hx] at hy;injection hy with hy
 exact h hy
theorem T8a{α:Type}[DecidableEq α]{xs ys:List α}{n:Nat}(hx:xs.length=n)(hy:ys.length=n)(h:xs.take n=ys.take n):decide (xs=ys)=true:=by
 rw[decide_eq_true_iff]
 rwa [List.take_of_length_le (by omega),List.take_of_length_le (by omega)] at h
theorem X6b(w:World)(B B':Nat)(A A':Option Addr)(n c n' c':Nat)(xs ys:List Int)(h:J1a (Value.int .u16) w B A n c xs)(h':J1a (Value.int .u16) w B' A' n' c' ys)(hr:n<=281474976710656)(hr':n'<=281474976710656) :
  Calls prog 26 #[.slice A n c,.slice A' n' c'] w λe w'=>e=.returned (.bool (decide (xs=ys)))/\∃k,w.drewN k=w':=by
 have hl:=h.len;have hl':=h'.len;have hf:=h.fit;have hf':=h'.fit;by_cases hn:n=n'
 ·subst hn;have HL:=hI hl;have HL':=hI hl';clear hl hl';go_enter func26,ntmps26;go_wp2;go_loopw [5] (λi wr=>∃k:Nat,k<=n/\i=.int .i64 k/\Hid (xs.take k=ys.take k)/\∃j,wr=w.drewN j) (λi _=>n-(intOf i).toNat)
  case atStart=>exact⟨0,Nat.zero_le _,rfl,by simp[Hid],0,rfl⟩
  case round=>
   obtain⟨k,hk,rfl,HT,j,rfl⟩:=hrel;by_cases hlt:k<n
   ·obtain⟨b,off,rfl,hb,hc⟩:=h.cells (by omega);obtain⟨b',off',rfl,hb',hc'⟩:=h'.cells (by omega);obtain⟨x,hx⟩:∃x,xs[k]? = some x:=⟨_,List.getElem?_eq_getElem (by have:=HL.o;omega)⟩;obtain⟨y,hy⟩:∃y,ys[k]? = some y:=⟨_,List.getElem?_eq_getElem (by have:=HL'.o;omega)⟩;have gc:=hc k x hx;have gc':=hc' k y hy;clear hc hc';have HX:=hI hx;have HY:=hI hy;clear hx hy;by_cases he:x=y
    ·have hS:Hid (xs.take (k+1)=ys.take (k+1)):=I6a HX.o (by rw[HY.o,he]) HT.o;clear HX HY HT;subst he;have hb0:(x != x)=false:=by simp
     go_wp2;go_quiet (fail);go_wp2;go_roundw
     case rel=>exact⟨k+1,by omega,by go_num,hS,_,rfl⟩
     case measure=>simp[intOf];omega
    ·have hS:=hI (k0b HX.o HY.o he);clear HX HY HT;have hb0:(x != y)=true:=by simpa using he
     clear he;go_wp2;go_quiet (fail);go_wp2;go_ret;exact⟨N0a hS.o.symm,_,(World.drewN_drewN ..).symm⟩
   ·have hS:=hI (T8a (n:=n) HL.o HL'.o (by have:=HT.o;rwa [show k=n from by omega] at this));clear HT;go_wp2;go_ret;exact⟨N0a hS.o.symm,_,rfl⟩
 ·have e1:decide (xs=ys)=false:=by rw[decide_eq_false_iff_not];rintro rfl;omega
  have hne:((n:Int)==(n':Int))=false:=by simp;omega
  have hne':((n:Int) != (n':Int))=true:=by simp;omega
  rw[e1];clear e1 hl hl';go_enter func26,ntmps26;go_wp2;go_ret;exact⟨rfl,0,rfl⟩
section
variable {P:Program} {w:World} {d:Nat} {xs ys:Array Value} {r:List (Bool×TypeId×Nat)} {q:Bool}
theorem bytes_beq(a b:ByteArray):(a.toList==b.toList)=decide (a=b):=by rw[Bool.eq_iff_iff,beq_iff_eq,decide_eq_true_iff,ByteArray.toList_eq,ByteArray.toList_eq];obtain⟨⟨x⟩⟩:=a;obtain⟨⟨y⟩⟩:=b;simp
theorem X8b(t:TypeId)(o:Nat)(x y:ByteArray)(ht:P.underlying t=some .string)(hx:xs[o]? = some (.string x))(hy:ys[o]? = some (.string y))(hr:(d5a (d+1) xs ys r).run P w=.ok q w) :
  (d5a (d+1) xs ys ((false,t,o)::r)).run P w=.ok (decide (x=y)&&q) w:=by
 have p1:(part t xs o).run P w=.ok (.string x) w:=by simp[part,isAgg,run_underlying ht,hx]
 have p2:(part t ys o).run P w=.ok (.string y) w:=by simp[part,isAgg,run_underlying ht,hy]
 simp only[d5a,Bool.false_eq_true,if_false,Sem.run_bind,p1,p2,Result.andThen_ok,run_equalIn_string w d t _ _ ht,bytes_beq];by_cases h:x=y
 ·subst h;simpa using hr
 ·simp[h]
end
theorem Y6b:(prog.fieldsOf 104).toList.map (λf=>(decide (f.name = "_"),f.type,f.offset))=[(false,3,0),(false,25,1),(false,25,2),(false,22,3)]:=by kernel_rfl
theorem X0b(a b:r2a)(w:World):(Op.equalIn 10000 104 (.agg (H0a a).toArray) (.agg (H0a b).toArray)).run prog w=.ok (decide (a=b)) w:=by
 rw[show(10000:Nat)=9999+1 from rfl,run_equalIn_struct w 9999 104 _ _ underlying104 (by kernel_rfl),j5a,Y6b];have h:=h2a (P:=prog) (w:=w) (d:=9998) (xs:=(H0a a).toArray) (ys:=(H0a b).toArray) 3 .i64 0 a.op b.op underlying3 rfl rfl
  (h2a 25 .u64 1 a.at_ b.at_ underlying25 rfl rfl
  (h2a 25 .u64 2 a.n b.n underlying25 rfl rfl
  (h2a (r:=[]) (q:=true) 22 .u16 3 a.md b.md underlying22 rfl rfl (by simp[d5a]))))
 refine h.trans ?_
 congr 1
 obtain⟨a0,a1,a2,a3⟩:=a;obtain⟨b0,b1,b2,b3⟩:=b;rw[Bool.eq_iff_iff];simp
theorem Y8b:prog.eqGuardType prog.depth 104=false:=by kernel_rfl
theorem n6a:(prog.info? 104).map (·.size)=some 4:=by kernel_rfl
theorem G0c(w:World)(B B':Nat)(A A':Option Addr)(n c n' c':Nat)(xs ys:List r2a)(h:c1a H0a 4 w B A n c xs)(h':c1a H0a 4 w B' A' n' c' ys)(hr:n<=281474976710656)(hr':n'<=281474976710656) :
  Calls prog 28 #[.slice A n c,.slice A' n' c'] w λe w'=>e=.returned (.bool (decide (xs=ys)))/\∃k,w.drewN k=w':=by
 have hl:=h.len;have hl':=h'.len;have hf:=h.fit;have hf':=h'.fit;by_cases hn:n=n'
 ·subst hn;have HL:=hI hl;have HL':=hI hl';clear hl hl';go_enter func28,ntmps28;go_wp2;go_loopw [5] (λi wr=>∃k:Nat,k<=n/\i=.int .i64 k/\Hid (xs.take k=ys.take k)/\∃j,wr=w.drewN j) (λi _=>n-(intOf i).toNat)
  case atStart=>exact⟨0,Nat.zero_le _,rfl,by simp[Hid],0,rfl⟩
  case round=>
   obtain⟨k,hk,rfl,HT,j,rfl⟩:=hrel;by_cases hlt:k<n
   ·obtain⟨b,off,rfl,hb,hc⟩:=h.cells (by omega);obtain⟨b',off',rfl,hb',hc'⟩:=h'.cells (by omega);obtain⟨x,hx⟩:∃x,xs[k]? = some x:=⟨_,List.getElem?_eq_getElem (by have:=HL.o;omega)⟩;obtain⟨y,hy⟩:∃y,ys[k]? = some y:=⟨_,List.getElem?_eq_getElem (by have:=HL'.o;omega)⟩;have rx:=h.range rfl hlt hx;have ry:=h'.range rfl hlt hy;clear hc hc';have HX:=hI hx;have HY:=hI hy;have q0:∀w:World,(Op.equalIn 10000 104 (.agg (H0a x).toArray) (.agg (H0a y).toArray)).run prog w=.ok (decide (x=y)) w:=λw=>X0b x y w
    have qg:=Y8b;obtain⟨wj,hwj⟩:=xX (w.drewN j);have Rx:Hid (wj.rangeAt b (off+k*4) (H0a x)):=by rw[hwj];exact rx
    have Ry:Hid (wj.rangeAt b' (off'+k*4) (H0a y)):=by rw[hwj];exact ry
    rw[<-hwj];have HW:=hI hwj;have LX:Hid ((H0a x).length=4):=rfl;have LY:Hid ((H0a y).length=4):=rfl;obtain⟨cx,hcx⟩:=xX (H0a x);obtain⟨cy,hcy⟩:=xX (H0a y);rw[<-hcx] at Rx LX q0;rw[<-hcy] at Ry LY q0;obtain⟨z,hz⟩:=xX (decide (x=y));rw[<-hz] at q0;have HZ:=hI hz;clear hx hy hwj rx ry hcx hcy hz;go_upto_region 6 with fail
    refine wp_region_held (S:=λw'=>World.rangeAt w' b (off+k*4) cx/\World.rangeAt w' b' (off'+k*4) cy) (by kernel_rfl) ?_;change wpAnyH _ _ _ _ _ _ _ _ wj.drew
    have S0:Hid (World.rangeAt wj.drew b (off+k*4) cx/\World.rangeAt wj.drew b' (off'+k*4) cy):=⟨Rx.o,Ry.o⟩;have b0:Hid (BW w wj.drew):=by rw[HW.o];exact x3a w (j+1)
    refine tK 0 _ rfl (s0a (by kernel_rfl) (.tmp 0) rfl (.slice (some ⟨b,off,none⟩) n c) (by kernel_rfl)) S0.o ?_;refine tK 1 _ rfl (s0a (by kernel_rfl) (.tmp 5) rfl (.int .i64 k) (by kernel_rfl)) S0.o ?_;refine pK 2 (.pointer (some ⟨b,off+k*4,none⟩)) rfl S0.o ?_;refine tK 3 _ rfl (yieldsIf_load_mid (by kernel_rfl) _ (.tmp 19) rfl b (off+k*4) (by kernel_rfl) cx _ (λ_ h=>h.1) underlying104 rfl (by rw[n6a,LX.o])) S0.o ?_;refine tK 4 _ rfl (s0a (by kernel_rfl) (.tmp 1) rfl (.slice (some ⟨b',off',none⟩) n c') (by kernel_rfl)) S0.o ?_;refine tK 5 _ rfl (s0a (by kernel_rfl) (.tmp 5) rfl (.int .i64 k) (by kernel_rfl)) S0.o ?_;refine pK 6 (.pointer (some ⟨b',off'+k*4,none⟩)) rfl S0.o ?_;refine tK 7 _ rfl (yieldsIf_load_mid (by kernel_rfl) _ (.tmp 23) rfl b' (off'+k*4) (by kernel_rfl) cy _ (λ_ h=>h.2) underlying104 rfl (by rw[n6a,LY.o])) S0.o ?_;refine oN 8 _ rfl λK hK=>?_
    go_simp;refine hK _ _ S0.o ?_;clear hK K;refine dN ?_;have HE:Hid (wj.drew=w.drewN (j+1)):=by show _=_;rw[HW.o];exact World.drewN_drewN w j 1
    cases z
    ·have hS:=hI (k0b HX.o HY.o (by have:=HZ.o;simpa using this.symm));go_wp2_with fail;go_ret;exact⟨N0a hS.o.symm,_,HE.o.symm⟩
    ·have hxy:x=y:=by have:=HZ.o;simpa using this.symm
     have hS:Hid (xs.take (k+1)=ys.take (k+1)):=I6a HX.o (by rw[HY.o,hxy]) HT.o;clear hxy;go_wp2_with fail;go_roundw
     case rel=>exact⟨k+1,by omega,by go_num,hS,_,HE.o⟩
     case measure=>simp[intOf];omega
   ·have hS:=hI (T8a (n:=n) HL.o HL'.o (by have:=HT.o;rwa [show k=n from by omega] at this));clear HT;go_wp2;go_ret;exact⟨N0a hS.o.symm,_,rfl⟩
 ·have e1:decide (xs=ys)=false:=by rw[decide_eq_false_iff_not];rintro rfl;omega
  have hne:((n:Int)==(n':Int))=false:=by simp;omega
  have hne':((n:Int) != (n':Int))=true:=by simp;omega
  rw[e1];clear e1 hl hl';go_enter func28,ntmps28;go_wp2;go_ret;exact⟨rfl,0,rfl⟩
theorem Z6b:(prog.fieldsOf 106).toList.map (λf=>(decide (f.name = "_"),f.type,f.offset))=[(false,36,0),(false,3,1)]:=by kernel_rfl
theorem E5b:(prog.fieldsOf 108).toList.map (λf=>(decide (f.name = "_"),f.type,f.offset))=[(false,9,0),(false,106,1)]:=by kernel_rfl
theorem H0c:(prog.info? 106).map (·.size)=some 2:=by kernel_rfl
theorem Y0b(a b c d:Int)(w:World):(Op.equalIn 9999 106 (.agg #[.int .u8 a,.int .i64 b]) (.agg #[.int .u8 c,.int .i64 d])).run prog w=.ok (decide (a=c/\b=d)) w:=by
 rw[show(9999:Nat)=9998+1 from rfl,run_equalIn_struct w 9998 106 _ _ underlying106 (by kernel_rfl),j5a,Z6b];have h:=h2a (P:=prog) (w:=w) (d:=9997) (xs:=#[.int .u8 a,.int .i64 b]) (ys:=#[.int .u8 c,.int .i64 d]) 36 .u8 0 a c underlying36 rfl rfl
  (h2a (r:=[]) (q:=true) 3 .i64 1 b d underlying3 rfl rfl (by simp[d5a]))
 refine h.trans ?_
 congr 1
 rw[Bool.eq_iff_iff];simp
theorem l0b(a b:y1a)(w:World):(Op.equalIn 10000 108 (.agg (B0a a).toArray) (.agg (B0a b).toArray)).run prog w=.ok (decide (a=b)) w:=by
 rw[show(10000:Nat)=9999+1 from rfl,run_equalIn_struct w 9999 108 _ _ underlying108 (by kernel_rfl),j5a,E5b];have hs:(d5a 9999 (B0a a).toArray (B0a b).toArray [(false,106,1)]).run prog w=.ok (decide (a.kind=b.kind/\a.size=b.size)) w:=by
  obtain⟨j,hj,hj1⟩:∃j,prog.info? 106=some j/\j.size=2:=by
   have h2:=H0c;cases hq:prog.info? 106 with
   | none=>rw[hq] at h2;cases h2
   | some j=>exact⟨j,rfl,by rw[hq] at h2;simpa using h2⟩
  have p1:∀c:y1a,(part 106 (B0a c).toArray 1).run prog w=.ok (.agg #[.int .u8 c.kind,.int .i64 c.size]) w:=λc=>by simp[part,isAgg,run_underlying underlying106,sizeOf,typeInfo,hj,hj1,B0a]
  simp only[d5a,Bool.false_eq_true,if_false,Sem.run_bind,p1,Result.andThen_ok,Y0b];by_cases h:a.kind=b.kind/\a.size=b.size
  ·simp[h]
  ·simp[h]
 have h:=X8b (P:=prog) (w:=w) (d:=9998) (xs:=(B0a a).toArray) (ys:=(B0a b).toArray) 9 0 a.name b.name underlying9 rfl rfl hs;refine h.trans ?_
 congr 1
 obtain⟨a0,a1,a2⟩:=a;obtain⟨b0,b1,b2⟩:=b;rw[Bool.eq_iff_iff];simp
theorem a7b:prog.eqGuardType prog.depth 108=false:=by kernel_rfl
theorem N3a:(prog.info? 108).map (·.size)=some 3:=by kernel_rfl
theorem b7b(w:World)(B B':Nat)(A A':Option Addr)(n c n' c':Nat)(xs ys:List y1a)(h:c1a B0a 3 w B A n c xs)(h':c1a B0a 3 w B' A' n' c' ys)(hr:n<=281474976710656)(hr':n'<=281474976710656) :
  Calls prog 29 #[.slice A n c,.slice A' n' c'] w λe w'=>e=.returned (.bool (decide (xs=ys)))/\∃k,w.drewN k=w':=by
 have hl:=h.len;have hl':=h'.len;have hf:=h.fit;have hf':=h'.fit;by_cases hn:n=n'
 ·subst hn;have HL:=hI hl;have HL':=hI hl';clear hl hl';go_enter func29,ntmps29;go_wp2;go_loopw [5] (λi wr=>∃k:Nat,k<=n/\i=.int .i64 k/\Hid (xs.take k=ys.take k)/\∃j,wr=w.drewN j) (λi _=>n-(intOf i).toNat)
  case atStart=>exact⟨0,Nat.zero_le _,rfl,by simp[Hid],0,rfl⟩
  case round=>
   obtain⟨k,hk,rfl,HT,j,rfl⟩:=hrel;by_cases hlt:k<n
   ·obtain⟨b,off,rfl,hb,hc⟩:=h.cells (by omega);obtain⟨b',off',rfl,hb',hc'⟩:=h'.cells (by omega);obtain⟨x,hx⟩:∃x,xs[k]? = some x:=⟨_,List.getElem?_eq_getElem (by have:=HL.o;omega)⟩;obtain⟨y,hy⟩:∃y,ys[k]? = some y:=⟨_,List.getElem?_eq_getElem (by have:=HL'.o;omega)⟩;have rx:=h.range rfl hlt hx;have ry:=h'.range rfl hlt hy;clear hc hc';have HX:=hI hx;have HY:=hI hy;have q0:∀w:World,(Op.equalIn 10000 108 (.agg (B0a x).toArray) (.agg (B0a y).toArray)).run prog w=.ok (decide (x=y)) w:=λw=>l0b x y w
    have qg:=a7b;obtain⟨wj,hwj⟩:=xX (w.drewN j);have Rx:Hid (wj.rangeAt b (off+k*3) (B0a x)):=by rw[hwj];exact rx
    have Ry:Hid (wj.rangeAt b' (off'+k*3) (B0a y)):=by rw[hwj];exact ry
    rw[<-hwj];have HW:=hI hwj;have LX:Hid ((B0a x).length=3):=rfl;have LY:Hid ((B0a y).length=3):=rfl;obtain⟨cx,hcx⟩:=xX (B0a x);obtain⟨cy,hcy⟩:=xX (B0a y);rw[<-hcx] at Rx LX q0;rw[<-hcy] at Ry LY q0;obtain⟨z,hz⟩:=xX (decide (x=y));rw[<-hz] at q0;have HZ:=hI hz;clear hx hy hwj rx ry hcx hcy hz;go_upto_region 6 with fail
    refine wp_region_held (S:=λw'=>World.rangeAt w' b (off+k*3) cx/\World.rangeAt w' b' (off'+k*3) cy) (by kernel_rfl) ?_;change wpAnyH _ _ _ _ _ _ _ _ wj.drew
    have S0:Hid (World.rangeAt wj.drew b (off+k*3) cx/\World.rangeAt wj.drew b' (off'+k*3) cy):=⟨Rx.o,Ry.o⟩;have b0:Hid (BW w wj.drew):=by rw[HW.o];exact x3a w (j+1)
    refine tK 0 _ rfl (s0a (by kernel_rfl) (.tmp 0) rfl (.slice (some ⟨b,off,none⟩) n c) (by kernel_rfl)) S0.o ?_;refine tK 1 _ rfl (s0a (by kernel_rfl) (.tmp 5) rfl (.int .i64 k) (by kernel_rfl)) S0.o ?_;refine pK 2 (.pointer (some ⟨b,off+k*3,none⟩)) rfl S0.o ?_;refine tK 3 _ rfl (yieldsIf_load_mid (by kernel_rfl) _ (.tmp 19) rfl b (off+k*3) (by kernel_rfl) cx _ (λ_ h=>h.1) underlying108 rfl (by rw[N3a,LX.o])) S0.o ?_;refine tK 4 _ rfl (s0a (by kernel_rfl) (.tmp 1) rfl (.slice (some ⟨b',off',none⟩) n c') (by kernel_rfl)) S0.o ?_;refine tK 5 _ rfl (s0a (by kernel_rfl) (.tmp 5) rfl (.int .i64 k) (by kernel_rfl)) S0.o ?_;refine pK 6 (.pointer (some ⟨b',off'+k*3,none⟩)) rfl S0.o ?_;refine tK 7 _ rfl (yieldsIf_load_mid (by kernel_rfl) _ (.tmp 23) rfl b' (off'+k*3) (by kernel_rfl) cy _ (λ_ h=>h.2) underlying108 rfl (by rw[N3a,LY.o])) S0.o ?_;refine oN 8 _ rfl λK hK=>?_
    go_simp;refine hK _ _ S0.o ?_;clear hK K;refine dN ?_;have HE:Hid (wj.drew=w.drewN (j+1)):=by show _=_;rw[HW.o];exact World.drewN_drewN w j 1
    cases z
    ·have hS:=hI (k0b HX.o HY.o (by have:=HZ.o;simpa using this.symm));go_wp2_with fail;go_ret;exact⟨N0a hS.o.symm,_,HE.o.symm⟩
    ·have hxy:x=y:=by have:=HZ.o;simpa using this.symm
     have hS:Hid (xs.take (k+1)=ys.take (k+1)):=I6a HX.o (by rw[HY.o,hxy]) HT.o;clear hxy;go_wp2_with fail;go_roundw
     case rel=>exact⟨k+1,by omega,by go_num,hS,_,HE.o⟩
     case measure=>simp[intOf];omega
   ·have hS:=hI (T8a (n:=n) HL.o HL'.o (by have:=HT.o;rwa [show k=n from by omega] at this));clear HT;go_wp2;go_ret;exact⟨N0a hS.o.symm,_,rfl⟩
 ·have e1:decide (xs=ys)=false:=by rw[decide_eq_false_iff_not];rintro rfl;omega
  have hne:((n:Int)==(n':Int))=false:=by simp;omega
  have hne':((n:Int) != (n':Int))=true:=by simp;omega
  rw[e1];clear e1 hl hl';go_enter func29,ntmps29;go_wp2;go_ret;exact⟨rfl,0,rfl⟩
theorem I0c:(prog.info? 104).map (λi=>(i.zero,i.size,i.bytes))=some (some (.agg (H0a ⟨0,0,0,0⟩).toArray),4,32):=by kernel_rfl
theorem Z8b:(prog.info? 108).map (λi=>(i.zero,i.size,i.bytes))=some (some (.agg (B0a ⟨.empty,0,0⟩).toArray),3,32):=by kernel_rfl
theorem E0a{P:Program}{ops:Array Oper}{rest:List Oper}{o:Oper}{a:Act}{w:World}{Q:Exit->Act->World->Prop}(hw:Region.wanted o (yielded ops a.tmps)=true)(ty:TypeId)(x:Operand)(ho:o.op=.load ty x)
(b i:Nat)(hx:a.eval x=.pointer (some ⟨b,i,none⟩))(cs:List Value)(d:TypeDesc)(hc:Hid (w.rangeAt b i cs))(hu:P.underlying ty=some d)(hd:d.isRow=true)(n:Nat)(hi:(P.info? ty).map (·.size)=some n)(hn:Hid (cs.length=n))
(h:wpList P ops Q rest (a.put o.dst (.agg cs.toArray)) w):wpList P ops Q (o::rest) a w:=
 wpList_step λK hK=>by rw[if_pos hw];exact wp_load_mid ty x ho b i hx cs d hc.o hu hd (by rw[hi,hn.o]) (hK _ _ h)
theorem q0a{P:Program}{ops:Array Oper}{rest:List Oper}{o:Oper}{a:Act}{w:World}{Q:Exit->Act->World->Prop}(hg:o.guard=none)(ty:TypeId)(x:Operand)(ho:o.op=.load ty x)
(b i:Nat)(hx:a.eval x=.pointer (some ⟨b,i,none⟩))(cs:List Value)(d:TypeDesc)(hc:Hid (w.rangeAt b i cs))(hu:P.underlying ty=some d)(hd:d.isRow=true)(n:Nat)(hi:(P.info? ty).map (·.size)=some n)(hn:Hid (cs.length=n))
(h:wpList P ops Q rest (a.put o.dst (.agg cs.toArray)) w):wpList P ops Q (o::rest) a w:=wpList_load_mid hg ty x ho b i hx cs d hc.o hu hd (by rw[hi,hn.o]) h
theorem T0a{P:Program}{ops:Array Oper}{rest:List Oper}{o:Oper}{a:Act}{w:World}{Q:Exit->Act->World->Prop}(hw:Region.wanted o (yielded ops a.tmps)=true)(T:TypeId)(x:Operand)(i:Nat)(ho:o.op=.fieldAddr T x i)(u v:Value)
(hx:a.eval x=u)(hf:∀w,(Instr.fieldAt T u i).run P w=.ok v w)(h:wpList P ops Q rest (a.put o.dst v) w):wpList P ops Q (o::rest) a w:=
 wpList_step λK hK=>by rw[if_pos hw];unfold Oper.wp execOp;simp only[ho,hx,Sem.run_bind,hf,Result.andThen_ok];exact hK _ _ h
theorem U5a(g:Nat)(w:World):(Instr.fieldAt 34 (.pointer (some ⟨g,0,none⟩)) 1).run prog w=.ok (.pointer (some ⟨g,1,none⟩)) w:=by go_simp
theorem o8a(g:Nat)(w:World):(Instr.fieldAt 34 (.pointer (some ⟨g,0,none⟩)) 2).run prog w=.ok (.pointer (some ⟨g,17,none⟩)) w:=by go_simp
theorem p8a(g:Nat)(w:World):(Instr.fieldAt 39 (.pointer (some ⟨g,0,none⟩)) 2).run prog w=.ok (.pointer (some ⟨g,2,none⟩)) w:=by go_simp
theorem n3a:(prog.info? 26).map (·.size)=some 16:=by kernel_rfl
theorem j4a:(prog.info? 30).map (·.size)=some 32:=by kernel_rfl
theorem O4a:(prog.info? 35).map (·.size)=some 8:=by kernel_rfl
theorem z3b:prog.eqGuardType prog.depth 26=false:=by kernel_rfl
theorem Y1b:prog.eqGuardType prog.depth 30=false:=by kernel_rfl
theorem A3b:prog.eqGuardType prog.depth 35=false:=by kernel_rfl
theorem q8a:(prog.info? 5).map (·.size)=some 1:=by kernel_rfl
theorem J6a{vd vx vl:Value}{a:l1a}{w:World}{g:Nat}{T:TypeId}(h:Blk w g T (l0a vd vx vl a))(k:a.ok):w.rangeAt g 1 (a.guid.map (Value.int .u8)):=λj v hj=>by
 rw[h.cell,show 1+j=j+1 from by omega];show(a.guid.map (Value.int .u8)++(a.proof.map (Value.int .u8)++p9a vx vl a))[j]? = some v
 rw[List.getElem?_append_left (List.getElem?_eq_some_iff.1 hj).1,hj]
theorem V5a{vd vx vl:Value}{a:l1a}{w:World}{g:Nat}{T:TypeId}(h:Blk w g T (l0a vd vx vl a))(k:a.ok):w.rangeAt g 17 (a.proof.map (Value.int .u8)):=λj v hj=>by
 rw[h.cell,show 17+j=(16+j)+1 from by omega];show(a.guid.map (Value.int .u8)++(a.proof.map (Value.int .u8)++p9a vx vl a))[16+j]? = some v
 rw[List.getElem?_append_right (by rw[List.length_map,k.glen];omega),List.length_map,k.glen,show 16+j-16=j from by omega,List.getElem?_append_left (List.getElem?_eq_some_iff.1 hj).1,hj]
theorem K6a{vx ve:Value}{a:O1a}{w:World}{g:Nat}{T:TypeId}(h:Blk w g T (u0a vx ve a))(k:a.ok):w.rangeAt g 2 (a.chal.map (Value.int .u8)):=λj v hj=>by
 rw[h.cell,show 2+j=j+1+1 from by omega];show(a.chal.map (Value.int .u8)++A4b vx ve a)[j]? = some v
 rw[List.getElem?_append_left (List.getElem?_eq_some_iff.1 hj).1,hj]
end Go.Proofs.YtjpcifmeimcikaaGreatDoor
