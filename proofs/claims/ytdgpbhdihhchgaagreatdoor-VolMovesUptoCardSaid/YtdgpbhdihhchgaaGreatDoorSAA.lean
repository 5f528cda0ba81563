import Derived.Test.YtdgpbhdihhchgaaGreatDoorRows
import Derived.Laws.CopyOwn
import Derived.Laws.AppendOwnNone
import Derived.ProofKit
import Derived.OpenShut
import Derived.ShutString
import Derived.Lib.AppendZeros
import Derived.Great.Walk
import Derived.Deep.WholeRow
import Derived.Deep.Strs
import Derived.Deep.MidRow
import Derived.Shelf.Strings.OnBuilder
import Derived.Shelf.Small.Bits
import Derived.Shelf.Utf8.AppendRunePlain
import Derived.Shelf.Utf8.RuneCount
import Derived.Shelf.Strconv.Clone
import Derived.Shelf.Strings.Shaped
import Derived.Shelf.Slices.Turned
import Derived.Shelf.Slices.Cells
import Derived.Shelf.Slices.Empties
import Derived.Shelf.SortM.Plain
import Derived.Shelf.SortM.SortNone
import Derived.Shelf.Unicode.ValidAny
import Derived.WalkSpells
import Derived.WalkLawsBesides
import Derived.Test.YtdgpbhdihhchgaaGreatDoorS0
set_option linter.all false
set_option maxHeartbeats 8000000
set_option maxRecDepth 100000
namespace Go.Proofs.YtdgpbhdihhchgaaGreatDoor
open Go.RowKit
def Bytes(xs:List Int):Prop:=∀x∈xs,0<=x/\x<=255
theorem Bytes.nil:Bytes []:=λ_ h=>by cases h
theorem Bytes.take{xs:List Int}(h:Bytes xs)(k:Nat):Bytes (xs.take k):=λx hx=>h x (List.mem_of_mem_take hx)
theorem Bytes.drop{xs:List Int}(h:Bytes xs)(k:Nat):Bytes (xs.drop k):=λx hx=>h x (List.mem_of_mem_drop hx)
theorem Bytes.append{xs ys:List Int}(h:Bytes xs)(k:Bytes ys):Bytes (xs++ys):=λx hx=>by
 rcases List.mem_append.1 hx with h1 | h1
 ·exact h x h1
 ·exact k x h1
theorem Bytes.getD{xs:List Int}(h:Bytes xs)(i:Nat):0<=xs.getD i 0/\xs.getD i 0<=255:=by
 by_cases hi:i<xs.length
 ·rw[List.getD_eq_getElem?_getD,List.getElem?_eq_getElem hi];exact h _ (List.getElem_mem hi)
 ·rw[List.getD_eq_getElem?_getD,List.getElem?_eq_none (by omega)];simp
theorem Bytes.of_all{xs:List Int}(h:xs.all (λx=>decide (0<=x)&&decide (x<=255))=true):Bytes xs:=λx hx=>by have:=List.all_eq_true.1 h x hx;simpa using this
theorem Bytes.zeros(n:Nat):Bytes (List.replicate n 0):=λx hx=>by rw[List.eq_of_mem_replicate hx];omega
structure Holds (w:World) (B:Nat) (A:Option Addr) (n c:Nat) (xs:List Int):Prop where
 len:xs.length=n
 fit:n<=c
 room:n<=281474976710656
 byte:Bytes xs
 bare:A=none->c=0
 cells:0<n->∃b off,A=some ⟨b,off,none⟩/\b<B/\∀i,i<n->w.cell? ⟨b,off+i,none⟩=some (.int .u8 (xs.getD i 0))
section
variable {w w':World} {B B':Nat} {A:Option Addr} {n c:Nat} {xs:List Int}
theorem Holds.nil(w:World)(B:Nat):Holds w B none 0 0 []:=⟨rfl,Nat.le_refl _,by omega,Bytes.nil,λ_=>rfl,λh=>absurd h (by omega)⟩
theorem Holds.keep(h:Holds w B A n c xs)(hk:∀p:Addr,p.block<B->w'.cell? p=w.cell? p):Holds w' B A n c xs:=
 ⟨h.len,h.fit,h.room,h.byte,h.bare,λhn=>by obtain⟨b,off,e,hb,hc⟩:=h.cells hn;exact⟨b,off,e,hb,λi hi=>(hk _ hb).trans (hc i hi)⟩⟩
theorem Holds.mono(h:Holds w B A n c xs)(hB:B<=B'):Holds w B' A n c xs:=
 ⟨h.len,h.fit,h.room,h.byte,h.bare,λhn=>by obtain⟨b,off,e,hb,hc⟩:=h.cells hn;exact⟨b,off,e,by omega,hc⟩⟩
theorem Holds.below(h:Holds w B A n c xs)(hb:Below B w w'):Holds w' B A n c xs:=h.keep λ_ hp=>hb.cell hp
theorem Holds.over(h:Holds w w.heap.size A n c xs)(hb:Below w.heap.size w w'):Holds w' w'.heap.size A n c xs:=(h.below hb).mono hb.size
theorem Holds.drewN(h:Holds w B A n c xs)(k:Nat):Holds (w.drewN k) B A n c xs:=h.keep λ_ _=>rfl
theorem Holds.drew(h:Holds w B A n c xs):Holds w.drew B A n c xs:=h.keep λ_ _=>rfl
theorem Holds.empty(w:World)(B:Nat)(A:Option Addr)(c:Nat)(hc:A=none->c=0):Holds w B A 0 c []:=⟨rfl,Nat.zero_le _,by omega,Bytes.nil,hc,λh=>absurd h (by omega)⟩
theorem Holds.cut(h:Holds w B A n c xs){k m:Nat}(hk:k+m<=n)(hm:0<m):Holds w B (A.map (·.add k)) m m ((xs.drop k).take m):=by
 have hl:=h.len;refine⟨by simp;omega,Nat.le_refl _,by have:=h.room;omega,(h.byte.drop k).take m,λhA=>?_,λhm=>?_⟩
 ·obtain⟨b,off,rfl,_⟩:=h.cells (by omega);cases hA
 obtain⟨b,off,rfl,hb,hc⟩:=h.cells (by omega);refine⟨b,off+k,?_,hb,λi hi=>?_⟩
 ·by_cases hk0:k=0
  ·subst hk0;simp[Addr.add]
  ·simp[Addr.add,hk0]
 ·rw[Nat.add_assoc,hc (k+i) (by omega)];simp[List.getD_eq_getElem?_getD,List.getElem?_drop,hi]
end
theorem step{a b c:World}(h1:Below a.heap.size a b)(h2:Below b.heap.size b c):Below a.heap.size a c:=h1.trans (h2.mono h1.size)
theorem E0a(w:World)(k:Nat):Below w.heap.size w (w.drewN k):=⟨rfl,rfl,rfl,Nat.le_refl _,λ_ _=>rfl⟩
theorem a1a{a b:Bool}(h:a=b):Ending.returned (.bool a)=.returned (.bool b):=by rw[h]
theorem f8a{k:IntKind}{a b:Int}(h:a=b):Ending.returned (.int k a)=.returned (.int k b):=by rw[h]
def le(n:Int):Nat->List Int
 | 0=>[]
 | s+1=>n%256::le (n/256) s
def num:List Int->Int
 | []=>0
 | x::r=>x+256*num r
def Row(w:World)(g:Nat)(xs:List Int):Prop:=w.heap[g]? = some (.cells (xs.map (Value.int .u8)).toArray 5 (0,0))
def V1b(w:World)(base:Nat)(A:Option Addr)(xs:List Int):Prop:=(A=none/\xs=[])∨∃g,A=some ⟨g,0,none⟩/\base<=g/\Row w g xs
section
variable {w w':World} {g B base:Nat} {xs:List Int}
theorem Row.lt(h:Row w g xs):g<w.heap.size:=(Array.getElem?_eq_some_iff.1 h).1
theorem Row.cell(h:Row w g xs){i:Nat}(hi:i<xs.length):w.cell? ⟨g,i,none⟩=some (.int .u8 (xs.getD i 0)):=by rw[cell_of_row w g i _ 5 (0,0) h];simp[hi]
theorem Row.frozen(h:Row w g xs)(i:Nat):w.frozen? ⟨g,i,none⟩=false:=frozen_of_row w g i _ 5 h
theorem Row.below(h:Row w g xs)(hb:Below B w w')(hg:g<B):Row w' g xs:=(hb.block g hg).trans h
theorem Row.set(h:Row w g xs)(i:Nat)(u:Int):Row (w.setCell ⟨g,i,none⟩ (.int .u8 u)) g (xs.set i u):=by have h1:=heap_setCell_same w g i _ 5 (.int .u8 u) h;unfold Row;rw[h1];simp[List.map_set]
theorem Row.drewN(h:Row w g xs)(k:Nat):Row (w.drewN k) g xs:=h
theorem V1b.holds{A:Option Addr}{n:Nat}(h:V1b w base A xs)(hn:xs.length=n)(hx:Bytes xs)(hc:n<=281474976710656):Holds w w.heap.size A n n xs:=by
 refine⟨hn,Nat.le_refl _,hc,hx,λhA=>?_,λh0=>?_⟩
 ·rcases h with⟨_,rfl⟩ | ⟨g,rfl,_,hr⟩
  ·exact hn.symm
  ·cases hA
 rcases h with⟨_,rfl⟩ | ⟨g,rfl,_,hr⟩
 ·simp at hn;omega
 ·exact⟨g,0,rfl,hr.lt,λi hi=>by rw[Nat.zero_add];exact hr.cell (by omega)⟩
theorem V1b.keep{A:Option Addr}{row:Option Nat}(h:V1b w base A xs)(hg:w.grownBy w' row)(hr:∀k,row=some k->k<base):V1b w' base A xs:=by
 rcases h with h | ⟨g,rfl,hb,hrow⟩
 ·exact .inl h
 ·exact .inr ⟨g,rfl,hb,(hg.block g hrow.lt (λe=>by have:=hr g e.symm;omega)).trans hrow⟩
theorem V1b.below{A:Option Addr}(h:V1b w base A xs)(hb:Below w.heap.size w w'):V1b w' base A xs:=by
 rcases h with h | ⟨g,rfl,hg,hr⟩
 ·exact .inl h
 ·exact .inr ⟨g,rfl,hg,hr.below hb hr.lt⟩
end
theorem U4a:(Tryz.prog.info? 5).map (λi=>(i.zero,i.size,i.bytes))=some (some (.int .u8 0),1,1):=by kernel_rfl
theorem x3a(w:World){ops:Array Oper}{rest:List Oper}{o:Oper}{a:Act}{Q:Exit->Act->World->Prop}
(hg:o.guard=none)(l c:Operand)(hop:o.op=Op.makeSlice 51 l c)(L C:Int)(n:Nat)(hl:a.eval l=.int .i64 L)(hc:a.eval c=.int .i64 C)(hL:L=(n:Int))(hC:C=(n:Int))(hn:n<=281474976710656)
(hK:∀w',Hid (Row w' w.heap.size (List.replicate n 0))->Below w.heap.size w w'->wpList Tryz.prog ops Q rest (a.put o.dst (.slice (some ⟨w.heap.size,0,none⟩) n n)) w') :
  wpList Tryz.prog ops Q (o::rest) a w:=by
 obtain⟨i0,hi,hz0,hz1,hz2⟩:=info_parts U4a;refine wpList_make_full w hg l c 51 hop w.heap.size 5 i0 (.int .u8 0) 1 Tryz.underlying51 hi hz0 hz1 .i64 .i64 L C n hl hc hL hC (by rw[hz2];omega) (by unfold maxLen;omega) (Nat.le_refl _) ?_;intro w' hown hgr;refine hK w' ?_ ((Below.refl _ _).grown hgr (Nat.le_refl _) (λk hk=>by cases hk));rcases hown.2 with⟨h0,_⟩ | ⟨g,cap,cur,hv,_,hh,_,_,hcs,htk⟩
 ·cases h0
 ·simp only[Value.slice.injEq,Option.some.injEq,Addr.mk.injEq,and_true,true_and] at hv;obtain⟨rfl,rfl⟩:=hv;show w'.heap[_]? = _
  rw[hh];have e:cur.toList=List.replicate n (.int .u8 0):=by have h1:cur.toList.take (n*1)=cur.toList:=List.take_of_length_le (by simp[hcs]);rw[<-h1,htk];rw[Nat.mul_one];exact toList_madeCells_one (.int .u8 0) n
  rw[List.map_replicate,<-e]
def Own(w:World)(base:Nat)(v:Value)(xs:List Int):Prop:=w.ownsRow base 5 1 v xs.length (xs.map (Value.int .u8))
theorem Own.nil(w:World)(base:Nat):Own w base (.slice none 0 0) []:=World.ownsRow_nil w base 5 1
theorem Own.holds{w:World}{base:Nat}{v:Value}{xs:List Int}(h:Own w base v xs)(hx:Bytes xs)(hn:xs.length<=281474976710656) :
  ∃A c,v=.slice A xs.length c/\Holds w w.heap.size A xs.length c xs:=by
 rcases h.2 with⟨rfl,h0⟩ | ⟨g,cap,cur,rfl,hb,hg,hnc,hcm,hcs,htk⟩
 ·have:xs=[]:=List.eq_nil_of_length_eq_zero h0;subst this;exact⟨none,0,rfl,Holds.nil _ _⟩
 ·refine⟨_,_,rfl,rfl,hnc,hn,hx,λhA=>(by cases hA),λh0=>⟨g,0,rfl,(Array.getElem?_eq_some_iff.1 hg).1,λi hi=>?_⟩⟩;rw[Nat.zero_add,cell_of_row w g i cur 5 (0,0) hg];have e:cur[i]? = (cur.toList.take (xs.length*1))[i]?:=by rw[List.getElem?_take,if_pos (by omega),Array.getElem?_toList]
  rw[e,htk];simp[hi]
theorem Own.below{w w':World}{base:Nat}{v:Value}{xs:List Int}(h:Own w base v xs)(hb:Below w.heap.size w w'):Own w' base v xs:=by
 refine⟨h.1,?_⟩;rcases h.2 with h0 | ⟨g,cap,cur,rfl,h1,hg,rest⟩
 ·exact .inl h0
 ·exact .inr ⟨g,cap,cur,rfl,h1,(hb.block g (Array.getElem?_eq_some_iff.1 hg).1).trans hg,rest⟩
theorem Own.mono{w:World}{base base':Nat}{v:Value}{xs:List Int}(h:Own w base v xs)(hb:base'<=base):Own w base' v xs:=by
 refine⟨h.1,?_⟩;rcases h.2 with h0 | ⟨g,cap,cur,rfl,h1,rest⟩
 ·exact .inl h0
 ·exact .inr ⟨g,cap,cur,rfl,by omega,rest⟩
theorem Own.alloc{w:World}{base:Nat}{v:Value}{xs:List Int}(h:Own w base v xs)(o:Obj):Own (w.alloc o) base v xs:=World.ownsRow.alloc h o
theorem Holds.lit(w:World)(xs:List Int)(cs:Array Value)(S n:Nat)(hcs:cs=(xs.map (Value.int .u8)).toArray)(hS:w.heap.size=S)(hl:xs.length=n)(hx:Bytes xs)(hn:n<=281474976710656)(T:TypeId:=5) :
  Holds (w.alloc (.cells cs T)) (S+1) (some ⟨S,0,none⟩) n n xs:=by
 subst hcs;subst hS;subst hl;exact⟨rfl,Nat.le_refl _,hn,hx,λhA=>(by cases hA),λ_=>⟨w.heap.size,0,rfl,by omega,λi hi=>by have hr:(w.alloc (.cells (xs.map (Value.int .u8)).toArray T)).heap[w.heap.size]? = some (.cells (xs.map (Value.int .u8)).toArray T (0,0)):=heap_alloc_new w _;rw[Nat.zero_add,cell_of_row _ w.heap.size i _ T (0,0) hr];simp[hi]⟩⟩
theorem Own.len{w:World}{base:Nat}{v:Value}{xs:List Int}(h:Own w base v xs):∃A c,v=.slice A xs.length c:=by
 rcases h.2 with⟨rfl,h0⟩ | ⟨g,cap,cur,rfl,_⟩
 ·exact⟨none,0,by rw[h0]⟩
 ·exact⟨_,_,rfl⟩
theorem V1b.own{w:World}{base n:Nat}{A:Option Addr}{xs:List Int}(h:V1b w base A xs)(hn:xs.length=n)(hc:n<=281474976710656):Own w base (.slice A n n) xs:=by
 refine⟨by simp,?_⟩;rcases h with⟨rfl,rfl⟩ | ⟨g,rfl,hg,hr⟩
 ·obtain rfl:n=0:=by simpa using hn.symm
  exact .inl ⟨rfl,rfl⟩
 ·subst hn;exact .inr ⟨g,xs.length,_,rfl,hg,hr,Nat.le_refl _,by unfold maxLen;omega,by simp,by rw[List.take_of_length_le (by simp)]⟩
def v1a(k:IntKind)(e:TypeId)(w:World)(base:Nat)(v:Value)(xs:List Int):Prop:=w.ownsRow base e 1 v xs.length (xs.map (Value.int k))
def E5a(k:IntKind)(e:TypeId)(w:World)(base:Nat)(v:Value)(xs:List Int):Prop:=(v=.slice none 0 0/\xs=[])∨∃g m,v=.slice (some ⟨g,0,none⟩) xs.length (xs.length+m)/\base<=g/\xs.length+m<=maxLen/\w.heap[g]? = some (.cells ((xs++List.replicate m 0).map (Value.int k)).toArray e (0,0))
def i2b(w w':World)(v:Value):Prop:=∃o,(w.alloc o).grownBy w' v.ownBlock
section
variable {k k':IntKind} {e e':TypeId} {w w':World} {base base':Nat} {v u:Value} {xs ys:List Int}
theorem v1a.nil(k:IntKind)(e:TypeId)(w:World)(base:Nat):v1a k e w base (.slice none 0 0) []:=World.ownsRow_nil w base e 1
theorem E5a.nil(k:IntKind)(e:TypeId)(w:World)(base:Nat):E5a k e w base (.slice none 0 0) []:=.inl ⟨rfl,rfl⟩
theorem E5a.own(h:E5a k e w base v xs):v1a k e w base v xs:=by
 rcases h with⟨rfl,rfl⟩ | ⟨g,m,rfl,hb,hm,hg⟩
 ·exact v1a.nil k e w base
 ·exact⟨by simp,.inr ⟨g,_,_,rfl,hb,hg,by omega,hm,by simp,by simp⟩⟩
theorem v1a.mono(h:v1a k e w base v xs)(hb:base'<=base):v1a k e w base' v xs:=by
 refine⟨h.1,?_⟩;rcases h.2 with h0 | ⟨g,cap,cur,rfl,h1,rest⟩
 ·exact .inl h0
 ·exact .inr ⟨g,cap,cur,rfl,by omega,rest⟩
theorem E5a.mono(h:E5a k e w base v xs)(hb:base'<=base):E5a k e w base' v xs:=by
 rcases h with h0 | ⟨g,m,rfl,h1,rest⟩
 ·exact .inl h0
 ·exact .inr ⟨g,m,rfl,by omega,rest⟩
theorem v1a.keep(h:v1a k e w base v xs)(hk:∀i cs,v.ownBlock=some i->w.heap[i]? = some (.cells cs e (0,0))->w'.heap[i]? = w.heap[i]?):v1a k e w' base v xs:=by
 refine⟨h.1,?_⟩;rcases h.2 with h0 | ⟨g,cap,cur,rfl,h1,hg,rest⟩
 ·exact .inl h0
 ·exact .inr ⟨g,cap,cur,rfl,h1,(hk g cur rfl hg).trans hg,rest⟩
theorem E5a.keep(h:E5a k e w base v xs)(hk:∀i cs,v.ownBlock=some i->w.heap[i]? = some (.cells cs e (0,0))->w'.heap[i]? = w.heap[i]?):E5a k e w' base v xs:=by
 rcases h with h0 | ⟨g,m,rfl,h1,hm,hg⟩
 ·exact .inl h0
 ·exact .inr ⟨g,m,rfl,h1,hm,(hk g _ rfl hg).trans hg⟩
theorem v1a.below(h:v1a k e w base v xs)(hb:Below w.heap.size w w'):v1a k e w' base v xs:=h.keep λi _ _ hi=>hb.block i (Array.getElem?_eq_some_iff.1 hi).1
theorem E5a.below(h:E5a k e w base v xs)(hb:Below w.heap.size w w'):E5a k e w' base v xs:=h.keep λi _ _ hi=>hb.block i (Array.getElem?_eq_some_iff.1 hi).1
theorem v1a.alloc(h:v1a k e w base v xs)(o:Obj):v1a k e (w.alloc o) base v xs:=h.keep λ_ _ _ hi=>Below.heap_alloc _ _ _ (Array.getElem?_eq_some_iff.1 hi).1
theorem E5a.alloc(h:E5a k e w base v xs)(o:Obj):E5a k e (w.alloc o) base v xs:=h.keep λ_ _ _ hi=>Below.heap_alloc _ _ _ (Array.getElem?_eq_some_iff.1 hi).1
theorem v1a.iterAt(h:v1a k e w base v xs){K:Nat}{s:ByteArray}{p:Nat}(hK:w.heap[K]? = some (.stringIter s p))(p':Nat):v1a k e (w.iterAt K s p') base v xs:=h.keep λ_ _ _ hi=>Lib.iterAt_other w K _ s p' (λe=>by subst e;rw[hi] at hK;cases hK)
theorem E5a.iterAt(h:E5a k e w base v xs){K:Nat}{s:ByteArray}{p:Nat}(hK:w.heap[K]? = some (.stringIter s p))(p':Nat):E5a k e (w.iterAt K s p') base v xs:=h.keep λ_ _ _ hi=>Lib.iterAt_other w K _ s p' (λe=>by subst e;rw[hi] at hK;cases hK)
theorem v1a.block(h:v1a k e w base v xs){i:Nat}(hi:v.ownBlock=some i):base<=i/\∃cs,w.heap[i]? = some (.cells cs e (0,0)):=by
 rcases h.2 with⟨rfl,_⟩ | ⟨g,cap,cur,rfl,h1,hg,rest⟩
 ·cases hi
 ·simp only[Value.ownBlock,Option.some.injEq] at hi;subst hi;exact⟨h1,cur,hg⟩
theorem v1a.open(h:v1a k e w base v xs):∃A n c,v=.slice A n c/\xs.length=n/\n<=c/\n<=9223372036854775807/\(A=none->c=0)/\
  (0<n->∃g,A=some ⟨g,0,none⟩/\base<=g/\g<w.heap.size/\∀i,i<n->w.cell? ⟨g,i,none⟩=some (.int k (xs.getD i 0))):=by
 rcases h.2 with⟨rfl,h0⟩ | ⟨g,cap,cur,rfl,hb,hg,hnc,hcm,hcs,htk⟩
 ·exact⟨none,0,0,rfl,h0,Nat.le_refl _,by omega,λ_=>rfl,λh=>absurd h (by omega)⟩
 ·refine⟨_,_,_,rfl,rfl,hnc,by unfold maxLen at hcm;omega,λhA=>(by cases hA),λh0=>⟨g,rfl,hb,(Array.getElem?_eq_some_iff.1 hg).1,λi hi=>?_⟩⟩;rw[cell_of_row w g i cur e (0,0) hg];have e1:cur[i]? = (cur.toList.take (xs.length*1))[i]?:=by rw[List.getElem?_take,if_pos (by omega),Array.getElem?_toList]
  rw[e1,htk];simp[hi]
theorem i2b.below(hg:i2b w w' v)(h:v1a k e w base v xs)(hb:base<=w.heap.size):Below base w w':=by obtain⟨o,hg⟩:=hg;exact((Below.refl base w).alloc hb o).grown hg (by simp;omega) λi hi=>(h.block hi).1
theorem i2b.block(hg:i2b w w' v){i:Nat}{x:Obj}(hi:w.heap[i]? = some x)(hn:v.ownBlock≠some i):w'.heap[i]? = some x:=by obtain⟨o,hg⟩:=hg;have hlt:=(Array.getElem?_eq_some_iff.1 hi).1;rw[hg.block i (by simp;omega) (λe=>hn e.symm),Below.heap_alloc _ _ _ hlt,hi]
theorem i2b.iter(hg:i2b w w' v)(h:v1a k e w base v xs){K:Nat}{s:ByteArray}{p:Nat}(hK:w.heap[K]? = some (.stringIter s p)):w'.heap[K]? = some (.stringIter s p):=
 hg.block hK λhi=>by obtain⟨_,cs,hcs⟩:=h.block hi;rw[hcs] at hK;cases hK
theorem i2b.other(hg:i2b w w' v)(h:v1a k e w base v xs)(h':v1a k' e' w base' u ys)(hne:e≠e'):v1a k' e' w' base' u ys:=
 h'.keep λ_ _ _ hi=>by rw[hg.block hi λhv=>?_,hi];obtain⟨_,cs',hcs⟩:=h.block hv;rw[hcs] at hi;cases hi;exact hne rfl
theorem m3b(k:IntKind)(n:Nat):(Builtin.zeroCells (Value.int k 0).cells n)=(List.replicate n (Value.int k 0)).toArray:=by
 apply Array.ext
 ·simp[Builtin.zeroCells,Value.cells]
 ·intro i h1 h2;simp[Builtin.zeroCells,Value.cells,Nat.mod_one]
theorem A6a{P:Program}{ops:Array Oper}{rest:List Oper}{o:Oper}{a:Act}{Q:Exit->Act->World->Prop}(hg:o.guard=none)(k:IntKind)(T e:TypeId)(bytes:Nat)
(ht:P.underlying T=some (.slice e))(hi:(P.info? e).map (λi=>(i.zero,i.size,i.bytes))=some (some (.int k 0),1,bytes))
(l c:Operand)(hop:o.op=Op.makeSlice T l c)(C:Int)(n:Nat)(hl:a.eval l=.int .i64 0)(hc:a.eval c=.int .i64 C)(hC:C=(n:Int))(hb:n*bytes<=281474976710656)(hn:n<=maxLen)
(hK:∀w',Hid (E5a k e w' w.heap.size (.slice (some ⟨w.heap.size,0,none⟩) 0 n) [])->Below w.heap.size w w'->wpList P ops Q rest (a.put o.dst (.slice (some ⟨w.heap.size,0,none⟩) 0 n)) w') :
  wpList P ops Q (o::rest) a w:=by
 obtain⟨i0,hi0,hz0,hz1,hz2⟩:=info_parts hi;refine wpList_plain hg λK hK'=>?_
 have h63:(n:Int)<=9223372036854775807:=by have:=hn;rw[show maxLen=9223372036854775807 from rfl] at this;omega
 have hbb:(i0.bytes:Int)*(n:Int)<=281474976710656:=by
  have h:((i0.bytes*n:Nat):Int)<=281474976710656:=by rw[hz2,Nat.mul_comm];omega
  rwa [Int.natCast_mul] at h
 have hrun:=run_make (P:=P) w T e i0 (.int k 0) ht hi0 hz0 .i64 .i64 0 n (Int.le_refl _) (by omega) hbb h63;have C6a:madeCells (Value.int k 0).cells (n*i0.size)=(List.replicate n (Value.int k 0)).toArray:=by rw[hz1,Nat.mul_one];apply Array.toList_inj.1;rw[show(Value.int k 0).cells=#[Value.int k 0] from rfl,toList_madeCells_one]
 simp only[Int.toNat_zero,Int.toNat_natCast,C6a] at hrun;subst hC;unfold Oper.wp;simp[execOp,hop,hl,hc,hrun,Result.andThen];refine hK' _ _ (hK _ ?_ ((Below.refl _ _).alloc (Nat.le_refl _) _));exact .inr ⟨w.heap.size,n,by simp,Nat.le_refl _,by simpa using hn,by rw[List.nil_append,List.map_replicate];exact heap_alloc_new w _⟩
theorem c1a{P:Program}{ops:Array Oper}{rest:List Oper}{o:Oper}{a:Act}{Q:Exit->Act->World->Prop}(hgd:o.guard=none)(s x:Operand)(k:IntKind)(T e:TypeId)(bytes:Nat)
(ht:P.underlying T=some (.slice e))(hi:(P.info? e).map (λi=>(i.zero,i.size,i.bytes))=some (some (.int k 0),1,bytes))
(ho:o.op=.call { callee:=.builtin .append,args:=#[s,x],argTypes:=#[T,T] })
(base:Nat)(v:Value)(xs ys:List Int)(cs:Array Value)(hcs:cs=(ys.map (Value.int k)).toArray)(m c:Nat)(hm:ys.length=m)(hs:a.eval s=v)(hx:a.eval x=.slice (some ⟨w.heap.size,0,none⟩) m c)
(hown:v1a k e w base v xs)(hlen:(xs.length+m)*bytes<=140737488355328)(h63:xs.length+m<=9223372036854775807)(hbase:base<=w.heap.size)
(h:∀v' w',Hid (v1a k e w' base v' (xs++ys))->Hid (i2b w w' v)->wpList P ops Q rest (a.put o.dst v') w') :
  wpList P ops Q (o::rest) a (w.alloc (.cells cs e)):=by
 obtain⟨i0,hi0,hz0,hz1,hz2⟩:=info_parts hi;subst hcs;have hr:(w.alloc (.cells (ys.map (Value.int k)).toArray e)).heap[w.heap.size]? = some (.cells (ys.map (Value.int k)).toArray e (0,0)):=heap_alloc_new w _;refine wpList_append_own _ hgd s x T ho base e i0 (.int k 0) 1 bytes ht hi0 hz0 hz1 hz2 rfl (by omega) v xs.length (xs.map (Value.int k)) hs (v1a.alloc hown _) ⟨w.heap.size,0,none⟩ m c (ys.map (Value.int k)) hx (by simp[hm]) ?_
  (by intro v hv;obtain⟨x,_,rfl⟩:=List.mem_map.1 hv;rfl) (by unfold maxLen;omega) hlen (by simp;omega) ?_
 ·intro j y hj;have e1:(⟨w.heap.size,0,none⟩:Addr).add j=⟨w.heap.size,j,none⟩:=by
   by_cases hj0:j=0
   ·subst hj0;simp[Addr.add]
   ·simp[Addr.add,hj0]
  rw[e1,cell_of_row _ w.heap.size j _ e (0,0) hr,<-hj];simp
 ·intro v' w' hown' hgr _;refine h v' w' ?_ ⟨_,hgr⟩;show World.ownsRow _ _ _ _ _ _ _
  rw[List.length_append,List.map_append,hm];exact hown'
theorem A8a:maxLen=9223372036854775807:=rfl
end
section
variable {k:IntKind} {e:TypeId} {w:World} {base:Nat} {v:Value} {xs ys:List Int}
theorem X6b(k:IntKind)(e:TypeId)(w:World)(base:Nat)(zs:List Int)(old m:Nat)(hz:zs.length=m)(hb:base<=w.heap.size)(hm:m<=maxLen) :
  E5a k e (w.drew.alloc (.cells ((zs.map (Value.int k)).toArray++Builtin.zeroCells (Value.int k 0).cells (grownCap w m old e-m)) e)) base (.slice (some ⟨w.heap.size,0,none⟩) m (grownCap w m old e)) zs:=by
 have hge:=grownCap_ge w m old e;have hle:=grownCap_le_maxLen w m old e hm;refine .inr ⟨w.heap.size,grownCap w m old e-m,by rw[hz,show m+(grownCap w m old e-m)=grownCap w m old e by omega],hb,by omega,?_⟩;rw[m3b,List.map_append,List.map_replicate,<-List.append_toArray];exact heap_alloc_new w.drew _
theorem v1a.lit(k:IntKind)(e:TypeId)(w:World)(xs:List Int)(cs:Array Value)(n:Nat)(hcs:cs=(xs.map (Value.int k)).toArray)(hn:xs.length=n)(hm:n<=maxLen) :
  v1a k e (w.alloc (.cells cs e)) w.heap.size (.slice (some ⟨w.heap.size,0,none⟩) n n) xs:=by
 subst hcs;subst hn;exact⟨by simp,.inr ⟨w.heap.size,_,_,rfl,Nat.le_refl _,heap_alloc_new w _,Nat.le_refl _,hm,by simp,List.take_of_length_le (by simp)⟩⟩
theorem W7a{P:Program}{src e:TypeId}(hs:P.underlying src=some (.slice e))(he:P.underlying e=some (.int .u8))(h:v1a .u8 e w base v xs) :
  ∀dst,P.underlying dst=some .string->(convert src dst v).run P w=.ok (.string (strOfNums xs)) w:=by
 intro dst hd;obtain⟨A,n,c,rfl,hl,_,_,hA,hc⟩:=h.open;by_cases h0:0<n
 ·obtain⟨g,rfl,_,_,hc⟩:=hc h0;exact run_convert_bytes_arg w src e hs he g 0 n c xs hl (λi hi=>by rw[Nat.zero_add];exact hc i hi) dst hd
 ·obtain rfl:n=0:=by omega
  obtain rfl:xs=[]:=List.eq_nil_of_length_eq_zero hl;rcases h.2 with⟨h1,_⟩ | ⟨g,cap,cur,h1,_⟩
  ·cases h1;exact run_convert_bytes_nil w src e hs he 0 0 dst hd
  ·cases h1;exact run_convert_bytes_arg w src e hs he g 0 0 c [] rfl (λi hi=>absurd hi (by omega)) dst hd
end
open Go.RowKit Go.ChangeShapes Go.WideShapes
section
variable {H:Type} {enc:TypeId×Value->H} {P:Program} {W:World} {base:Nat} {t e:TypeId} {v:Value} {d:DataW H} {p:List MemPlace}
theorem Holds.head{w:World}{B c n:Nat}{A:Option Addr}{xs:List Int}(h:Holds w B A c c xs)(hn:n<=c):Holds w B A n c (xs.take n):=
 ⟨by have:=h.len;simp;omega,hn,by have:=h.room;omega,h.byte.take n,h.bare,λh0=>by obtain⟨b,off,rfl,hb,hc⟩:=h.cells (by omega);refine⟨b,off,rfl,hb,λi hi=>?_⟩;rw[hc i (by omega)];simp[List.getD_eq_getElem?_getD,hi]⟩
theorem N0a{x:Int}(h:(Lit.int .i64 x).wf=true):-9223372036854775808<=x/\x<=9223372036854775807:=by simpa[Lit.wf,IntKind.min,IntKind.max,IntKind.signed,IntKind.bits] using h
end
set_option maxRecDepth 100000
structure h4b (w:World) (gs m:Nat) (A:Nat->Option Addr) (n c:Nat->Nat) (X:Nat->List Int):Prop where
 lt:gs<w.heap.size
 cell:∀i,i<m->w.cell? ⟨gs,i,none⟩=some (.slice (A i) (n i) (c i))
 holds:∀i,i<m->Holds w w.heap.size (A i) (n i) (c i) (X i)
theorem h4b.over{w w':World}{gs m:Nat}{A:Nat->Option Addr}{n c:Nat->Nat}{X:Nat->List Int}(h:h4b w gs m A n c X)(hb:Below w.heap.size w w'):h4b w' gs m A n c X:=⟨Nat.lt_of_lt_of_le h.lt hb.size,λi hi=>by rw[<-h.cell i hi];exact hb.cell (p:=⟨gs,i,none⟩) h.lt,λi hi=>(h.holds i hi).over hb⟩
theorem h4b.drewN{w:World}{gs m:Nat}{A:Nat->Option Addr}{n c:Nat->Nat}{X:Nat->List Int}(h:h4b w gs m A n c X)(d:Nat):h4b (w.drewN d) gs m A n c X:=h.over (E0a w d)
theorem T7a{w:World}{ops:Array Oper}{rest:List Oper}{o:Oper}{a:Act}{Q:Exit->Act->World->Prop}(hgd:o.guard=none)(s x:Operand)
(ho:o.op=.call { callee:=.builtin .append,args:=#[s,x],argTypes:=#[51,51] })
(base:Nat)(v:Value)(xs:List Int)(hs:a.eval s=v)(hown:E5a .u8 5 w base v xs)(B:Nat)(A:Option Addr)(m c:Nat)(ys:List Int)(hx:a.eval x=.slice A m c)
(hr:Holds w B A m c ys)(hlen:xs.length+ys.length<=140737488355328)(hbase:base<=w.heap.size)
(h:∀v' w',Hid (E5a .u8 5 w' base v' (xs++ys))->Below base w w'->wpList Tryz.prog ops Q rest (a.put o.dst v') w') :
  wpList Tryz.prog ops Q (o::rest) a w:=by
 obtain⟨i0,hi0,hz0,hz1,hz2⟩:=info_parts U4a;have hl:=hr.len;have hOK:=hown.own;rcases A with _ | ad
 ·have hc:=hr.bare rfl;have hf:=hr.fit;have hm:m=0:=by omega
  subst hm;subst hc;have:ys=[]:=List.eq_nil_of_length_eq_zero hl;subst this;refine wpList_append_own_none hgd s x 51 ho base 5 i0 1 Tryz.underlying51 hi0 v xs.length _ hs hOK hx ?_;exact h v w (by rw[List.append_nil];exact hown) (Below.refl _ _)
 ·have hnews:∀j y,(ys.map (Value.int .u8))[j]? = some y->w.cell? (ad.add j)=some y:=by
   intro j u hj;have hjl:j<ys.length:=by
    by_cases hj':j<ys.length
    ·exact hj'
    ·rw[List.getElem?_eq_none (by simp;omega)] at hj;cases hj
   obtain⟨b,off,he,_,hcl⟩:=hr.cells (by omega);obtain rfl:=Option.some.inj he;have e:(⟨b,off,none⟩:Addr).add j=⟨b,off+j,none⟩:=by
    by_cases hj0:j=0
    ·subst hj0;simp[Addr.add]
    ·simp[Addr.add,hj0]
   rw[e,hcl j (by omega),<-hj];simp[hjl]
  have h1:∀y∈ys.map (Value.int .u8),y.oneCell'=true:=by intro v hv;obtain⟨x,_,rfl⟩:=List.mem_map.1 hv;rfl
  have hmax:maxLen=9223372036854775807:=rfl;have key:∀ty,∃v' w',(Builtin.append_ #[51,51] ty #[v,.slice (some ad) m c]).run Tryz.prog w=.ok v' w'/\E5a .u8 5 w' base v' (xs++ys)/\w.grownBy w' v.ownBlock:=by
   intro ty;rcases hown with⟨rfl,rfl⟩ | ⟨g,z,rfl,hb,hz,hg⟩
   ·by_cases hm0:m=0
    ·subst hm0;have:ys=[]:=List.eq_nil_of_length_eq_zero hl;subst this;obtain⟨v',w',hrun,_,hgr,hnil⟩:=run_append_own (P:=Tryz.prog) w base 51 ty 5 i0 (.int .u8 0) 1 1 Tryz.underlying51 hi0 hz0 hz1 hz2 rfl (by omega) (.slice none 0 0) 0 [] (World.ownsRow_nil w base _ 1) ad 0 c [] rfl (λj u hj=>by cases hj) (λu hu=>by cases hu) (by omega) (by omega) hbase;obtain rfl:=hnil.2 ⟨rfl,rfl⟩;exact⟨_,_,hrun,E5a.nil _ _ _ _,hgr⟩
    ·have hrun:=run_append_nil (P:=Tryz.prog) w 51 ty 5 i0 (.int .u8 0) Tryz.underlying51 hi0 hz0 ad m c (ys.map (Value.int .u8)) (by simp[hl,hz1]) hnews (by omega) (by omega) (by rw[hz2];simp at hlen;omega);exact⟨_,_,hrun,by simpa using X6b .u8 5 w base ys 0 m hl hbase (by omega),⟨rfl,rfl,rfl,by simp,λj hj _=>Below.heap_alloc w.drew _ j hj⟩⟩
   ·by_cases hroom:xs.length+m<=xs.length+z
    ·have hrun:=run_append_room (P:=Tryz.prog) w 51 ty 5 i0 Tryz.underlying51 hi0 g xs.length (xs.length+z) _ hg ad m c (ys.map (Value.int .u8)) (by simp[hl,hz1]) hnews h1 hroom (by simp[hz1];omega);refine⟨_,_,hrun,.inr ⟨g,z-m,by simp[hl];omega,hb,by simp;omega,?_⟩,⟨rfl,rfl,rfl,by simp,λj _ hj=>setRow_other w g j _ (λe=>hj (by simp[Value.ownBlock,e]))⟩⟩;rw[setRow_heap w g _ _ 5 _ hg]
     congr 2
     have e1:((xs++List.replicate z 0).map (Value.int .u8)).take (xs.length*i0.size)=xs.map (Value.int .u8):=by rw[hz1,Nat.mul_one,List.map_append,List.take_left' (by simp)]
     have e2:((xs++List.replicate z 0).map (Value.int .u8)).drop (xs.length*i0.size+(ys.map (Value.int .u8)).length)=(List.replicate (z-m) 0).map (Value.int .u8):=by rw[hz1,Nat.mul_one,List.length_map,hl,<-List.drop_drop,List.map_append,List.drop_left' (by simp),<-List.map_drop,List.drop_replicate]
     rw[e1,e2];simp
    ·have C6a:∀j y,(xs.map (Value.int .u8))[j]? = some y->w.cell? ((⟨g,0,none⟩:Addr).add j)=some y:=hOK.cells (g:=g) rfl;have hrun:=run_append_grow (P:=Tryz.prog) w 51 ty 5 i0 (.int .u8 0) Tryz.underlying51 hi0 hz0 ⟨g,0,none⟩ xs.length (xs.length+z) (xs.map (Value.int .u8)) (by simp[hz1]) C6a ad m c (ys.map (Value.int .u8)) (by simp[hl,hz1]) hnews (by omega) (by omega) (growslice_fits (by omega) (by rw[hz2];omega));refine⟨_,_,hrun,?_,⟨rfl,rfl,rfl,by simp,λj hj _=>Below.heap_alloc w.drew _ j hj⟩⟩;have:=X6b .u8 5 w base (xs++ys) (xs.length+z) (xs.length+m) (by simp[hl]) hbase (by omega);simpa using this
  refine wpList_plain hgd λK hK'=>?_
  obtain⟨v',w',hrun,h2,h3⟩:=key o.type;unfold Oper.wp execOp;simp only[ho,resolve,invoke,builtin,Sem.run_bind,Sem.run_pure,Result.andThen_ok,List.map_toArray,List.map_cons,List.map_nil,hs,hx,hrun];exact hK' _ _ (h v' w' h2 ((Below.refl _ _).grown h3 hbase (λk hk=>(World.ownsRow.lt hOK k hk).1)))
abbrev f6a:=Option Addr×Nat×Nat×List Int
def o3a(p:f6a):Value:=.slice p.1 p.2.1 p.2.2.1
def z9b:f6a:=(none,0,0,[])
def d4c(l:List f6a)(i:Nat):Option Addr:=(l.getD i z9b).1
def e4c(l:List f6a)(i:Nat):Nat:=(l.getD i z9b).2.1
def f4c(l:List f6a)(i:Nat):Nat:=(l.getD i z9b).2.2.1
def O4c(l:List f6a)(i:Nat):List Int:=(l.getD i z9b).2.2.2
theorem h4b.lit(w:World)(l:List f6a)(T:TypeId)(hh:∀p∈l,Holds w w.heap.size p.1 p.2.1 p.2.2.1 p.2.2.2) :
  h4b (w.alloc (.cells (l.map o3a).toArray T)) w.heap.size l.length (d4c l) (e4c l) (f4c l) (O4c l):=by
 have hb:Below w.heap.size w (w.alloc (.cells (l.map o3a).toArray T)):=(Below.refl _ _).alloc (Nat.le_refl _) _;refine⟨by simp,λi hi=>?_,λi hi=>?_⟩
 ·have hr:(w.alloc (.cells (l.map o3a).toArray T)).heap[w.heap.size]? = some (.cells (l.map o3a).toArray T (0,0)):=heap_alloc_new w _;rw[cell_of_row _ w.heap.size i _ T (0,0) hr];simp[d4c,e4c,f4c,List.getD_eq_getElem?_getD,hi,o3a]
 ·have he:l.getD i z9b=l[i]:=by simp[List.getD_eq_getElem?_getD,hi]
  have:=hh l[i] (List.getElem_mem hi);unfold d4c e4c f4c O4c;rw[he];exact this.over hb
section
variable {ops:Array Oper} {rest:List Oper} {o:Oper} {a:Act} {w:World} {Q:Exit->Act->World->Prop}
end
def Arr(w:World)(g:Nat)(k:IntKind)(T:TypeId)(xs:List Int):Prop:=w.heap[g]? = some (.cells (xs.map (Value.int k)).toArray T (0,0))
structure S1a (g:Nat) (w w':World):Prop where
 os:w'.os=w.os
 tape:w'.tape=w.tape
 output:w'.output=w.output
 size:w'.heap.size=w.heap.size
 rest:∀j,j≠g->w'.heap[j]? = w.heap[j]?
section
variable {w w' w2:World} {g h B:Nat} {k k':IntKind} {T T':TypeId} {xs ys:List Int}
theorem S1a.refl(g:Nat)(w:World):S1a g w w:=⟨rfl,rfl,rfl,rfl,λ_ _=>rfl⟩
theorem S1a.trans(a:S1a g w w')(b:S1a g w' w2):S1a g w w2:=⟨b.os.trans a.os,b.tape.trans a.tape,b.output.trans a.output,b.size.trans a.size,λj hj=>(b.rest j hj).trans (a.rest j hj)⟩
theorem S1a.setCell(a:S1a g w w')(i:Nat)(v:Value):S1a g w (w'.setCell ⟨g,i,none⟩ v):=a.trans ⟨rfl,rfl,rfl,by simp,λj hj=>Below.heap_setCell _ _ _ _ hj⟩
theorem S1a.setRow(a:S1a g w w')(cs:Array Value):S1a g w (w'.setRow g cs):=a.trans ⟨rfl,rfl,rfl,by simp,λj hj=>setRow_other _ _ _ _ hj⟩
theorem S1a.drewN(a:S1a g w w')(n:Nat):S1a g w (w'.drewN n):=a.trans ⟨rfl,rfl,rfl,rfl,λ_ _=>rfl⟩
theorem S1a.below(a:S1a g w w')(hB:B<=g):Below B w w':=⟨a.os,a.tape,a.output,by rw[a.size];exact Nat.le_refl _,λj hj=>a.rest j (by omega)⟩
theorem Arr.lt(h:Arr w g k T xs):g<w.heap.size:=(Array.getElem?_eq_some_iff.1 h).1
theorem Arr.cell(h:Arr w g k T xs){i:Nat}(hi:i<xs.length):w.cell? ⟨g,i,none⟩=some (.int k (xs.getD i 0)):=by rw[cell_of_row w g i _ T (0,0) h];simp[hi]
theorem Arr.frozen(h:Arr w g k T xs)(i:Nat):w.frozen? ⟨g,i,none⟩=false:=frozen_of_row w g i _ T h
theorem Arr.below(h:Arr w g k T xs)(hb:Below B w w')(hg:g<B):Arr w' g k T xs:=(hb.block g hg).trans h
theorem Arr.over(h:Arr w g k T xs)(hb:Below w.heap.size w w'):Arr w' g k T xs:=h.below hb h.lt
theorem Arr.only(a:Arr w g k T xs)(hb:S1a h w w')(hg:g≠h):Arr w' g k T xs:=(hb.rest g hg).trans a
theorem Arr.set(h:Arr w g k T xs)(i:Nat)(u:Int):Arr (w.setCell ⟨g,i,none⟩ (.int k u)) g k T (xs.set i u):=by have h1:=heap_setCell_same w g i _ T (.int k u) h;unfold Arr;rw[h1];simp[List.map_set]
theorem Arr.drewN(h:Arr w g k T xs)(n:Nat):Arr (w.drewN n) g k T xs:=h
theorem Arr.drew(h:Arr w g k T xs):Arr w.drew g k T xs:=h
theorem Arr.ne(a:Arr w g k T xs)(b:Arr w h k' T' ys)(hT:T≠T'):g≠h:=by rintro rfl;unfold Arr at a b;rw[a] at b;simp only[Option.some.injEq,Obj.cells.injEq] at b;exact hT b.2.1
theorem Arr.new(w:World)(k:IntKind)(T:TypeId)(xs:List Int):Arr (w.alloc (.cells (xs.map (Value.int k)).toArray T)) w.heap.size k T xs:=heap_alloc_new w _
end
section
variable {P:Program} {ops:Array Oper} {rest:List Oper} {o:Oper} {a:Act} {w:World} {Q:Exit->Act->World->Prop}
end
def Apart(v u:Value):Prop:=∀i,v.ownBlock=some i->u.ownBlock≠some i
theorem Apart.nil(u:Value):Apart (.slice none 0 0) u:=λi h=>by cases h
theorem Apart.nil'(v:Value):Apart v (.slice none 0 0):=λi _ h=>by cases h
theorem Apart.symm{v u:Value}(h:Apart v u):Apart u v:=λi hu hv=>h i hv hu
section
variable {k k':IntKind} {e e':TypeId} {w w':World} {base base':Nat} {v v' u:Value} {xs ys:List Int}
theorem v1a.lt(h:v1a k e w base v xs){i:Nat}(hi:v.ownBlock=some i):i<w.heap.size:=(World.ownsRow.lt h i hi).2
theorem i2b.apart(hg:i2b w w' v)(h':v1a k' e' w base' u ys)(ha:Apart v u):v1a k' e' w' base' u ys:=h'.keep λi cs hi hcs=>by rw[hg.block hcs λhv=>ha i hv hi,hcs]
theorem v1a.grown(h':v1a k' e' w base' u ys)(hg:w.grownBy w' v.ownBlock)(ha:Apart v u):v1a k' e' w' base' u ys:=h'.keep λi _ hi hcs=>hg.block i (Array.getElem?_eq_some_iff.1 hcs).1 λhe=>ha i he.symm hi
theorem Arr.grew{g:Nat}{T:TypeId}{zs:List Int}(a:Arr w g k' T zs)(hg:i2b w w' v)(h:v1a k e w base v xs)(hT:T≠e):Arr w' g k' T zs:=
 hg.block a λhv=>by obtain⟨_,cs,hcs⟩:=h.block hv;unfold Arr at a;rw[hcs] at a;simp only[Option.some.injEq,Obj.cells.injEq] at a;exact hT a.2.1.symm
def p3a(w:World)(v v':Value):Prop:=v'.ownBlock=v.ownBlock∨∃g,v'.ownBlock=some g/\w.heap.size<=g
theorem Apart.whither(ha:Apart v u)(hw:p3a w v v')(hu:v1a k e w base u ys):Apart v' u:=λi hi hui=>by
 rcases hw with h | ⟨g,hg,hge⟩
 ·exact ha i (h▸hi) hui
 ·rw[hg] at hi;injection hi with hi
  subst hi;have:=hu.lt hui;omega
end
theorem X3a{P:Program}(w:World)(t ty e:TypeId)(i:TypeInfo)(z:Value)(bytes:Nat)(ht:P.underlying t=some (.slice e))(hi:P.info? e=some i)(hz:i.zero=some z)(hsize:i.size=1)(hby:i.bytes=bytes)(hzs:z.cells.size=1)
(base:Nat)(v:Value)(n:Nat)(xs:List Value)(hown:w.ownsRow base e 1 v n xs)(a:Addr)(m c:Nat)(news:List Value)(hl:news.length=m*1)(hnews:∀j u,news[j]? = some u->w.cell? (a.add j)=some u)(h1:∀u∈news,u.oneCell'=true)
(h63:n+m<=maxLen)(hbytes:(n+m)*bytes<=140737488355328)(hbase:base<=w.heap.size) :
  ∃v' w',(Builtin.append_ #[t,t] ty #[v,.slice (some a) m c]).run P w=.ok v' w'/\w'.ownsRow base e 1 v' (n+m) (xs++news)/\w.grownBy w' v.ownBlock/\p3a w v v':=by
 obtain⟨v',w',hr,ho,hg,hnil⟩:=run_append_own (P:=P) w base t ty e i z 1 bytes ht hi hz hsize hby hzs (by omega) v n xs hown a m c news hl hnews h1 h63 hbytes hbase;refine⟨v',w',hr,ho,hg,?_⟩;have hsmall:n+m<=9223372036854775807:=by simp only[maxLen] at h63;omega
 rcases hown.2 with⟨rfl,rfl⟩ | ⟨g,cap,cur,rfl,hbg,hgg,hnc,hcm,hcs,htake⟩
 ·have hx:xs=[]:=List.eq_nil_of_length_eq_zero (by simpa using hown.1);subst hx;obtain⟨v2,w2,hr2,ho2,_,_⟩:=run_append_own (P:=P) w w.heap.size t ty e i z 1 bytes ht hi hz hsize hby hzs (by omega) (.slice none 0 0) 0 [] (World.ownsRow_nil w _ e 1) a m c news hl hnews h1 h63 hbytes (Nat.le_refl _);rw[hr] at hr2;injection hr2 with e1 e2
  subst e1 e2;rcases ho2.2 with⟨rfl,_⟩ | ⟨g,cap,cur,rfl,hb,_⟩
  ·exact .inl rfl
  ·exact .inr ⟨g,rfl,hb⟩
 ·by_cases hroom:n+m<=cap
  ·have hfit:n*i.size+news.length<=cur.size:=by rw[hl,hcs,hsize];omega
   have hr2:=run_append_room (P:=P) w t ty e i ht hi g n cap cur hgg a m c news (by rw[hl,hsize]) hnews h1 hroom hfit;rw[hr] at hr2;injection hr2 with e1 e2
   subst e1;exact .inl rfl
  ·have holds:∀j u,xs[j]? = some u->w.cell? ((⟨g,0,none⟩:Addr).add j)=some u:=hown.cells (g:=g) rfl;have hr2:=run_append_grow (P:=P) w t ty e i z ht hi hz ⟨g,0,none⟩ n cap xs (by rw[hsize];exact hown.1) holds a m c news (by rw[hl,hsize]) hnews (by omega) (by omega) (growslice_fits (by omega) (by rw[hby];exact hbytes));rw[hr] at hr2;injection hr2 with e1 e2
   subst e1;exact .inr ⟨_,rfl,Nat.le_refl _⟩
theorem U1a{P:Program}{w:World}{ops:Array Oper}{rest:List Oper}{o:Oper}{a:Act}{Q:Exit->Act->World->Prop}(hgd:o.guard=none)(s x:Operand)(k:IntKind)(T e:TypeId)(bytes:Nat)
(ht:P.underlying T=some (.slice e))(hi:(P.info? e).map (λi=>(i.zero,i.size,i.bytes))=some (some (.int k 0),1,bytes))
(ho:o.op=.call { callee:=.builtin .append,args:=#[s,x],argTypes:=#[T,T] })
(base:Nat)(v:Value)(xs ys:List Int)(cs:Array Value)(hcs:cs=(ys.map (Value.int k)).toArray)(m c:Nat)(hm:ys.length=m)(hs:a.eval s=v)(hx:a.eval x=.slice (some ⟨w.heap.size,0,none⟩) m c)
(hown:v1a k e w base v xs)(hlen:(xs.length+m)*bytes<=140737488355328)(h63:xs.length+m<=9223372036854775807)(hbase:base<=w.heap.size)
(h:∀v' w',Hid (v1a k e w' base v' (xs++ys))->Hid (i2b w w' v)->Hid (p3a w v v')->wpList P ops Q rest (a.put o.dst v') w') :
  wpList P ops Q (o::rest) a (w.alloc (.cells cs e)):=by
 obtain⟨i0,hi0,hz0,hz1,hz2⟩:=info_parts hi;subst hcs;have hr:(w.alloc (.cells (ys.map (Value.int k)).toArray e)).heap[w.heap.size]? = some (.cells (ys.map (Value.int k)).toArray e (0,0)):=heap_alloc_new w _;obtain⟨v',w',hrun,ho',hg',hwh⟩:=X3a (P:=P) (w.alloc (.cells (ys.map (Value.int k)).toArray e)) T o.type e i0 (.int k 0) bytes ht hi0 hz0 hz1 hz2 rfl base v xs.length (xs.map (Value.int k)) (v1a.alloc hown _) ⟨w.heap.size,0,none⟩ m c (ys.map (Value.int k)) (by simp[hm])
  (λj y hj=>by
   have e1:(⟨w.heap.size,0,none⟩:Addr).add j=⟨w.heap.size,j,none⟩:=by
    by_cases hj0:j=0
    ·subst hj0;simp[Addr.add]
    ·simp[Addr.add,hj0]
   rw[e1,cell_of_row _ w.heap.size j _ e (0,0) hr,<-hj];simp)
  (by intro v hv;obtain⟨x,_,rfl⟩:=List.mem_map.1 hv;rfl) (by unfold maxLen;omega) hlen (by simp;omega)
 refine wpList_plain hgd λK hK=>?_
 unfold Oper.wp execOp;simp only[ho,resolve,invoke,builtin,Sem.run_bind,Sem.run_pure,Result.andThen_ok,List.map_toArray,List.map_cons,List.map_nil,hs,hx,hrun];refine hK _ _ (h v' w' ?_ ⟨_,hg'⟩ ?_)
 ·show World.ownsRow _ _ _ _ _ _ _
  rw[List.length_append,List.map_append,hm];exact ho'
 ·rcases hwh with h1 | ⟨g,h1,h2⟩
  ·exact .inl h1
  ·exact .inr ⟨g,h1,by simp at h2;omega⟩
def Box(w:World)(b:Nat)(T:TypeId)(v:Value):Prop:=w.heap[b]? = some (.cells #[v] T (0,0))
structure d1a (w w':World) (b:Nat) (v:Value):Prop where
 os:w'.os=w.os
 tape:w'.tape=w.tape
 output:w'.output=w.output
 size:w.heap.size<=w'.heap.size
 rest:∀i,i<w.heap.size->i≠b->v.ownBlock≠some i->w'.heap[i]? = w.heap[i]?
section
variable {w w' w2:World} {b b' base base':Nat} {T T' e:TypeId} {v v' u:Value} {k:IntKind} {xs:List Int}
theorem Box.lt(h:Box w b T v):b<w.heap.size:=lt_of_block h
theorem Box.cell(h:Box w b T v):w.cell? ⟨b,0,none⟩=some v:=cell_of_one h
theorem Box.frozen(h:Box w b T v):w.frozen? ⟨b,0,none⟩=false:=free_of_one h
theorem Box.below(h:Box w b T v)(hb:Below w.heap.size w w'):Box w' b T v:=(hb.block b h.lt).trans h
theorem Box.alloc(h:Box w b T v)(o:Obj):Box (w.alloc o) b T v:=(Below.heap_alloc _ _ _ h.lt).trans h
theorem Box.grew(h:Box w b T v)(hg:i2b w w' u)(hu:v1a k e w base u xs)(hT:T≠e):Box w' b T v:=
 hg.block h λhv=>by obtain⟨_,cs,hcs⟩:=hu.block hv;unfold Box at h;rw[hcs] at h;simp only[Option.some.injEq,Obj.cells.injEq] at h;exact hT h.2.1.symm
theorem Box.only(h:Box w b T v)(hO:S1a b' w w')(hb:b≠b'):Box w' b T v:=(hO.rest b hb).trans h
theorem Box.ne(h:Box w b T v)(h':Box w b' T' v')(hT:T≠T'):b≠b':=by rintro rfl;unfold Box at h h';rw[h] at h';simp only[Option.some.injEq,Obj.cells.injEq] at h';exact hT h'.2.1
theorem Box.own(h:Box w b T v)(hu:v1a k e w base u xs)(hT:T≠e):u.ownBlock≠some b:=λhv=>by obtain⟨_,cs,hcs⟩:=hu.block hv;unfold Box at h;rw[hcs] at h;simp only[Option.some.injEq,Obj.cells.injEq] at h;exact hT h.2.1.symm
theorem Box.turned(h:Box w b T v)(ht:d1a w w' b' u)(hb:b≠b')(hu:u.ownBlock≠some b):Box w' b T v:=(ht.rest b h.lt hb hu).trans h
theorem v1a.only(h:v1a k e w base v xs)(hO:S1a b w w')(hB:Box w b T u)(hT:T≠e):v1a k e w' base v xs:=h.keep λi _ hi _=>hO.rest i λhe=>hB.own h hT (he▸hi)
theorem v1a.turned(h:v1a k e w base v xs)(ht:d1a w w' b u)(hb:v.ownBlock≠some b)(ha:Apart u v):v1a k e w' base v xs:=h.keep λi _ hi hcs=>ht.rest i (Array.getElem?_eq_some_iff.1 hcs).1 (λhe=>hb (he▸hi)) λhu=>ha i hu hi
theorem d1a.refl(w:World)(b:Nat)(v:Value):d1a w w b v:=⟨rfl,rfl,rfl,Nat.le_refl _,λ_ _ _ _=>rfl⟩
theorem p3a.refl(w:World)(v:Value):p3a w v v:=.inl rfl
theorem p3a.trans(h:p3a w v v')(h2:p3a w' v' u)(hs:w.heap.size<=w'.heap.size):p3a w v u:=by
 rcases h2 with h2 | ⟨g,h2,h3⟩
 ·rcases h with h | ⟨g,h,h4⟩
  ·exact .inl (h2.trans h)
  ·exact .inr ⟨g,h2.trans h,h4⟩
 ·exact .inr ⟨g,h2,by omega⟩
theorem d1a.append(ht:d1a w w' b v)(hw:p3a w v v')(hg:i2b w' w2 v'){w3:World}(hO:S1a b w2 w3):d1a w w3 b v:=by
 obtain⟨o,hg⟩:=hg;have hs:=hg.size;have ha:(w'.alloc o).heap.size=w'.heap.size+1:=by simp
 refine⟨hO.os.trans (hg.os.trans ht.os),hO.tape.trans (hg.tape.trans ht.tape),hO.output.trans (hg.output.trans ht.output),by rw[hO.size];have:=ht.size;omega,λi hi hb hv=>?_⟩;have hsz:=ht.size;rw[hO.rest i hb,hg.block i (by omega) ?_,Below.heap_alloc _ _ _ (by omega),ht.rest i hi hb hv];rintro he;rcases hw with h | ⟨g,h,h4⟩
 ·exact hv (h▸he.symm)
 ·rw[h] at he;injection he with he
  omega
theorem d1a.trans(ht:d1a w w' b v)(hw:p3a w v v')(ht2:d1a w' w2 b v'):d1a w w2 b v:=by
 have hsz:=ht.size;refine⟨ht2.os.trans ht.os,ht2.tape.trans ht.tape,ht2.output.trans ht.output,by have:=ht2.size;omega,λi hi hb hv=>?_⟩;rw[ht2.rest i (by omega) hb ?_,ht.rest i hi hb hv];intro he;rcases hw with h | ⟨g,h,h4⟩
 ·exact hv (h▸he)
 ·rw[h] at he;injection he with he
  omega
theorem d1a.below(ht:d1a w w' b v)(hbb:base<=b)(ho:v1a k e w base v xs)(hs:base<=w.heap.size):Below base w w':=
 ⟨ht.os,ht.tape,ht.output,ht.size,λi hi=>ht.rest i (by omega) (by omega) λhv=>by have:=(ho.block hv).1;omega⟩
theorem run_storeVar_one{P:Program}(w:World)(g:Nat)(t ty:TypeId)(v u:Value)(hg:w.heap[g]? = some (.cells #[v] t (0,0)))(hi:(P.info? ty).map (·.size)=some 1)(h1:u.oneCell'=true) :
  (storeVar ty ⟨g,0,none⟩ u).run P w=.ok () (w.setRow g #[u]):=by
 have hc:u.cells=#[u]:=by cases u<;>first | rfl | (simp[Value.oneCell'] at h1)
 have:=run_storeCells_from (P:=P) g t [u] 0 #[v] w hg (by simp) (λx hx=>by obtain rfl:=List.mem_singleton.1 hx;exact h1);cases hq:P.info? ty with
 | none=>simp[hq] at hi
 | some i=>
  have hs:i.size=1:=by simpa[hq] using hi
  simp[storeVar,sizeOf,typeInfo,hq,hc,hs];simpa using this
theorem V1a{P:Program}{ops:Array Oper}{rest:List Oper}{o:Oper}{a:Act}{Q:Exit->Act->World->Prop}(hgd:o.guard=none)(T:TypeId)(x y:Operand)(ho:o.op=.store T x y)(b:Nat)(hx:a.eval x=.pointer (some ⟨b,0,none⟩))
(u:Value)(hy:a.eval y=u)(T':TypeId)(v:Value)(hB:Box w b T' v)(hi:(P.info? T).map (·.size)=some 1)(h1:u.oneCell'=true)
(h:∀w',Hid (Box w' b T' u)->Hid (S1a b w w')->wpList P ops Q rest a w')(hd:o.dst=none:=by rfl):wpList P ops Q (o::rest) a w:=by
 have hp:a.put o.dst undef=a:=by rw[hd];rfl
 refine wpList_plain hgd λK hK=>?_
 unfold Oper.wp execOp;simp only[ho,hx,hy,Instr.storeAt,Instr.sureAddr,Sem.run_bind,Sem.run_pure,Result.andThen_ok,run_storeVar_one w b T' T v u hB hi h1];show K (a.put o.dst undef) _
 rw[hp];refine hK _ _ (h _ ?_ ((S1a.refl b w).setRow _));exact setRow_heap w b _ _ T' (0,0) hB
theorem S1a.iter(hO:S1a b w w')(hB:Box w b T v){K:Nat}{s:ByteArray}{p:Nat}(hK:w.heap[K]? = some (.stringIter s p)):w'.heap[K]? = some (.stringIter s p):=by rw[hO.rest K ?_,hK];rintro rfl;unfold Box at hB;rw[hB] at hK;cases hK
theorem Box.iterAt(h:Box w b T v){K:Nat}{s:ByteArray}{p:Nat}(hK:w.heap[K]? = some (.stringIter s p))(p':Nat):Box (w.iterAt K s p') b T v:=(Lib.iterAt_other w K b s p' (λe=>by subst e;unfold Box at h;rw[h] at hK;cases hK)).trans h
end
def t1a{α:Type}(f:α->Value)(e:TypeId)(w:World)(base:Nat)(v:Value)(xs:List α):Prop:=w.ownsRow base e 1 v xs.length (xs.map f)
structure U0a {α:Type} (f:α->Value) (w:World) (B:Nat) (A:Option Addr) (n c:Nat) (xs:List α):Prop where
 len:xs.length=n
 fit:n<=c
 bare:A=none->c=0
 cells:0<n->∃b off,A=some ⟨b,off,none⟩/\b<B/\∀i x,xs[i]? = some x->w.cell? ⟨b,off+i,none⟩=some (f x)
section
variable {α:Type} {f:α->Value} {w w' w2:World} {B B' base base' b:Nat} {A:Option Addr} {n c:Nat} {xs ys:List α} {e e' T:TypeId} {v v' u:Value}
theorem U0a.keep(h:U0a f w B A n c xs)(hk:∀p:Addr,p.block<B->w'.cell? p=w.cell? p):U0a f w' B A n c xs:=
 ⟨h.len,h.fit,h.bare,λhn=>by obtain⟨b,off,e,hb,hc⟩:=h.cells hn;exact⟨b,off,e,hb,λi x hi=>(hk _ hb).trans (hc i x hi)⟩⟩
theorem U0a.mono(h:U0a f w B A n c xs)(hB:B<=B'):U0a f w B' A n c xs:=
 ⟨h.len,h.fit,h.bare,λhn=>by obtain⟨b,off,e,hb,hc⟩:=h.cells hn;exact⟨b,off,e,by omega,hc⟩⟩
theorem U0a.below(h:U0a f w B A n c xs)(hb:Below B w w'):U0a f w' B A n c xs:=h.keep λ_ hp=>hb.cell hp
theorem U0a.over(h:U0a f w w.heap.size A n c xs)(hb:Below w.heap.size w w'):U0a f w' w'.heap.size A n c xs:=(h.below hb).mono hb.size
theorem U0a.head(h:U0a f w B A c c xs)(hn:n<=c):U0a f w B A n c (xs.take n):=
 ⟨by have:=h.len;simp;omega,hn,h.bare,λh0=>by
  obtain⟨b,off,rfl,hb,hc⟩:=h.cells (by omega);refine⟨b,off,rfl,hb,λi x hi=>hc i x ?_⟩;rw[List.getElem?_take] at hi;split at hi
  ·exact hi
  ·cases hi⟩
theorem U0a.nil(f:α->Value)(w:World)(B:Nat):U0a f w B none 0 0 []:=⟨rfl,Nat.le_refl _,λ_=>rfl,λh=>absurd h (by omega)⟩
theorem t1a.nil(f:α->Value)(e:TypeId)(w:World)(base:Nat):t1a f e w base (.slice none 0 0) []:=World.ownsRow_nil w base e 1
theorem t1a.mono(h:t1a f e w base v xs)(hb:base'<=base):t1a f e w base' v xs:=by
 refine⟨h.1,?_⟩;rcases h.2 with h0 | ⟨g,cap,cur,rfl,h1,rest⟩
 ·exact .inl h0
 ·exact .inr ⟨g,cap,cur,rfl,by omega,rest⟩
theorem t1a.keep(h:t1a f e w base v xs)(hk:∀i cs,v.ownBlock=some i->w.heap[i]? = some (.cells cs e (0,0))->w'.heap[i]? = w.heap[i]?):t1a f e w' base v xs:=by
 refine⟨h.1,?_⟩;rcases h.2 with h0 | ⟨g,cap,cur,rfl,h1,hg,rest⟩
 ·exact .inl h0
 ·exact .inr ⟨g,cap,cur,rfl,h1,(hk g cur rfl hg).trans hg,rest⟩
theorem t1a.below(h:t1a f e w base v xs)(hb:Below w.heap.size w w'):t1a f e w' base v xs:=h.keep λi _ _ hi=>hb.block i (Array.getElem?_eq_some_iff.1 hi).1
theorem t1a.alloc(h:t1a f e w base v xs)(o:Obj):t1a f e (w.alloc o) base v xs:=World.ownsRow.alloc h o
theorem t1a.iterAt(h:t1a f e w base v xs){K:Nat}{s:ByteArray}{p:Nat}(hK:w.heap[K]? = some (.stringIter s p))(p':Nat):t1a f e (w.iterAt K s p') base v xs:=h.keep λ_ _ _ hi=>Lib.iterAt_other w K _ s p' (λe=>by subst e;rw[hi] at hK;cases hK)
theorem t1a.block(h:t1a f e w base v xs){i:Nat}(hi:v.ownBlock=some i):base<=i/\∃cs,w.heap[i]? = some (.cells cs e (0,0)):=by
 rcases h.2 with⟨rfl,_⟩ | ⟨g,cap,cur,rfl,h1,hg,rest⟩
 ·cases hi
 ·simp only[Value.ownBlock,Option.some.injEq] at hi;subst hi;exact⟨h1,cur,hg⟩
theorem t1a.lt(h:t1a f e w base v xs){i:Nat}(hi:v.ownBlock=some i):i<w.heap.size:=(World.ownsRow.lt h i hi).2
theorem t1a.open(h:t1a f e w base v xs):∃A n c,v=.slice A n c/\xs.length=n/\n<=c/\n<=9223372036854775807/\(A=none->c=0)/\
  (0<n->∃g,A=some ⟨g,0,none⟩/\base<=g/\g<w.heap.size/\∀i x,xs[i]? = some x->w.cell? ⟨g,i,none⟩=some (f x)):=by
 rcases h.2 with⟨rfl,h0⟩ | ⟨g,cap,cur,rfl,hb,hg,hnc,hcm,hcs,htk⟩
 ·exact⟨none,0,0,rfl,h0,Nat.le_refl _,by omega,λ_=>rfl,λh=>absurd h (by omega)⟩
 ·refine⟨_,_,_,rfl,rfl,hnc,by unfold maxLen at hcm;omega,λhA=>(by cases hA),λh0=>⟨g,rfl,hb,(Array.getElem?_eq_some_iff.1 hg).1,λi x hi=>?_⟩⟩;have hil:i<xs.length:=(List.getElem?_eq_some_iff.1 hi).1;rw[cell_of_row w g i cur e (0,0) hg];have e1:cur[i]? = (cur.toList.take (xs.length*1))[i]?:=by rw[List.getElem?_take,if_pos (by omega),Array.getElem?_toList]
  rw[e1,htk,List.getElem?_map,hi];rfl
theorem t1a.holds(h:t1a f e w base v xs):∃A n c,v=.slice A n c/\U0a f w w.heap.size A n c xs:=by obtain⟨A,n,c,rfl,hl,hf,_,hA,hc⟩:=h.open;refine⟨A,n,c,rfl,hl,hf,hA,λh0=>?_⟩;obtain⟨g,rfl,_,hg,hcc⟩:=hc h0;exact⟨g,0,rfl,hg,λi x hi=>by rw[Nat.zero_add];exact hcc i x hi⟩
theorem t1a.oneCell(h:t1a f e w base v xs):v.oneCell'=true:=by obtain⟨A,n,c,rfl,_⟩:=h.open;rfl
theorem t1a.cut0(h:t1a f e w base (.slice A n c) xs):t1a f e w base (.slice A 0 c) []:=by
 refine⟨rfl,?_⟩;rcases h.2 with⟨h1,_⟩ | ⟨g,cap,cur,h1,hb,hg,hnc,hcm,hcs,htk⟩
 ·cases h1;exact .inl ⟨rfl,rfl⟩
 ·cases h1;exact .inr ⟨g,c,cur,rfl,hb,hg,Nat.zero_le _,hcm,hcs,by simp⟩
theorem t1a.only(h:t1a f e w base v xs)(hO:S1a b w w')(hB:Box w b T u)(hT:T≠e):t1a f e w' base v xs:=
 h.keep λi cs _ hcs=>hO.rest i λhe=>by subst he;unfold Box at hB;rw[hB] at hcs;simp only[Option.some.injEq,Obj.cells.injEq] at hcs;exact hT hcs.2.1
theorem i2b.belowF(hg:i2b w w' v)(h:t1a f e w base v xs)(hb:base<=w.heap.size):Below base w w':=by obtain⟨o,hg⟩:=hg;exact((Below.refl base w).alloc hb o).grown hg (by simp;omega) λi hi=>(h.block hi).1
end
section
variable {α:Type} {f:α->Value} {P:Program} {w:World} {ops:Array Oper} {rest:List Oper} {o:Oper} {a:Act} {Q:Exit->Act->World->Prop}
theorem g1a(hgd:o.guard=none)(s x:Operand)(f:α->Value)(hf:∀y,(f y).oneCell'=true)(z:Value)(hzc:z.cells.size=1)(T e:TypeId)(bytes:Nat)
(ht:P.underlying T=some (.slice e))(hi:(P.info? e).map (λi=>(i.zero,i.size,i.bytes))=some (some z,1,bytes))
(ho:o.op=.call { callee:=.builtin .append,args:=#[s,x],argTypes:=#[T,T] })
(base:Nat)(v:Value)(xs ys:List α)(cs:Array Value)(hcs:cs=(ys.map f).toArray)(m c:Nat)(hm:ys.length=m)(hs:a.eval s=v)(hx:a.eval x=.slice (some ⟨w.heap.size,0,none⟩) m c)
(hown:t1a f e w base v xs)(hlen:(xs.length+m)*bytes<=140737488355328)(h63:xs.length+m<=9223372036854775807)(hbase:base<=w.heap.size)
(h:∀v' w',Hid (t1a f e w' base v' (xs++ys))->Hid (i2b w w' v)->Hid (p3a w v v')->wpList P ops Q rest (a.put o.dst v') w') :
  wpList P ops Q (o::rest) a (w.alloc (.cells cs e)):=by
 obtain⟨i0,hi0,hz0,hz1,hz2⟩:=info_parts hi;subst hcs;have hr:(w.alloc (.cells (ys.map f).toArray e)).heap[w.heap.size]? = some (.cells (ys.map f).toArray e (0,0)):=heap_alloc_new w _;obtain⟨v',w',hrun,ho',hg',hwh⟩:=X3a (P:=P) (w.alloc (.cells (ys.map f).toArray e)) T o.type e i0 z bytes ht hi0 hz0 hz1 hz2 hzc base v xs.length (xs.map f) (t1a.alloc hown _) ⟨w.heap.size,0,none⟩ m c (ys.map f) (by simp[hm])
  (λj y hj=>by
   have e1:(⟨w.heap.size,0,none⟩:Addr).add j=⟨w.heap.size,j,none⟩:=by
    by_cases hj0:j=0
    ·subst hj0;simp[Addr.add]
    ·simp[Addr.add,hj0]
   rw[e1,cell_of_row _ w.heap.size j _ e (0,0) hr,<-hj];simp)
  (by intro v hv;obtain⟨x,_,rfl⟩:=List.mem_map.1 hv;exact hf x) (by unfold maxLen;omega) hlen (by simp;omega)
 refine wpList_plain hgd λK hK=>?_
 unfold Oper.wp execOp;simp only[ho,resolve,invoke,builtin,Sem.run_bind,Sem.run_pure,Result.andThen_ok,List.map_toArray,List.map_cons,List.map_nil,hs,hx,hrun];refine hK _ _ (h v' w' ?_ ⟨_,hg'⟩ ?_)
 ·show World.ownsRow _ _ _ _ _ _ _
  rw[List.length_append,List.map_append,hm];exact ho'
 ·rcases hwh with h1 | ⟨g,h1,h2⟩
  ·exact .inl h1
  ·exact .inr ⟨g,h1,by simp at h2;omega⟩
end
section
variable {H:Type} {enc:TypeId×Value->H} {P:Program} {W:World} {base:Nat} {t e:TypeId} {v:Value} {d:DataW H} {p:List MemPlace}
end
section
variable {α:Type} {f:α->Value} {P:Program} {w:World} {ops:Array Oper} {rest:List Oper} {o:Oper} {a:Act} {Q:Exit->Act->World->Prop}
end
section
variable {α:Type} {f:α->Value} {e:TypeId} {w:World} {base g n c:Nat} {xs:List α}
theorem t1a.heap(h:t1a f e w base (.slice (some ⟨g,0,none⟩) n c) xs):base<=g/\xs.length=n/\∃cur:Array Value,w.heap[g]? = some (.cells cur e (0,0))/\n<=cur.size/\cur.toList.take n=xs.map f/\n<=c/\c<=maxLen/\cur.size=c:=by
 rcases h.2 with⟨h0,_⟩ | ⟨g',cap,cur,hv,hb,hg,hnc,hcm,hcs,htk⟩
 ·cases h0
 ·simp only[Value.slice.injEq,Option.some.injEq,Addr.mk.injEq,and_true] at hv;obtain⟨rfl,hn,rfl⟩:=hv;rw[Nat.mul_one] at htk hcs;exact⟨hb,hn.symm,cur,hg,by omega,by rw[hn];exact htk,by omega,hcm,hcs⟩
theorem t1a.set(h:t1a f e w base (.slice (some ⟨g,0,none⟩) n c) xs)(i:Nat)(u:α):t1a f e (w.setCell ⟨g,i,none⟩ (f u)) base (.slice (some ⟨g,0,none⟩) n c) (xs.set i u):=by
 obtain⟨hb,hn,cur,hg,hns,htk,hnc,hcm,hcs⟩:=h.heap;have h1:=heap_setCell_same w g i cur e (f u) hg;have hl:(xs.set i u).length=n:=by rw[List.length_set,hn]
 refine⟨by simp,.inr ⟨g,c,_,by rw[hl],hb,h1,by rw[hl];exact hnc,hcm,by simp[hcs],?_⟩⟩;rw[hl,Nat.mul_one,Array.toList_setIfInBounds,List.take_set,htk,List.map_set]
theorem t1a.frozen(h:t1a f e w base (.slice (some ⟨g,0,none⟩) n c) xs)(i:Nat):w.frozen? ⟨g,i,none⟩=false:=by obtain⟨_,_,cur,hg,_⟩:=h.heap;exact frozen_of_row w g i _ e hg
theorem t1a.cell(h:t1a f e w base (.slice (some ⟨g,0,none⟩) n c) xs){i:Nat}{x:α}(hi:xs[i]? = some x):w.cell? ⟨g,i,none⟩=some (f x):=by
 obtain⟨_,hn,cur,hg,hns,htk,_⟩:=h.heap;have hl:=(List.getElem?_eq_some_iff.1 hi).1;rw[cell_of_row w g i cur e (0,0) hg];have e1:cur[i]? = (cur.toList.take n)[i]?:=by rw[List.getElem?_take,if_pos (by omega),Array.getElem?_toList]
 rw[e1,htk,List.getElem?_map,hi];rfl
end
section
open Go.ChangeShapes Go.WideShapes
variable {H:Type} {enc:TypeId×Value->H} {P:Program} {W:World} {base:Nat} {t e:TypeId} {v:Value} {d:DataW H} {p:List MemPlace}
end
structure Lst (w:World) (B:Nat) (A:Option Addr) (n c:Nat) (ps:List f6a):Prop where
 row:U0a o3a w B A n c ps
 each:∀p∈ps,Holds w B p.1 p.2.1 p.2.2.1 p.2.2.2
section
variable {w w':World} {B B':Nat} {A:Option Addr} {n c:Nat} {ps:List f6a}
theorem Lst.below(h:Lst w B A n c ps)(hb:Below B w w'):Lst w' B A n c ps:=⟨h.row.below hb,λp hp=>(h.each p hp).below hb⟩
theorem Lst.mono(h:Lst w B A n c ps)(hB:B<=B'):Lst w B' A n c ps:=⟨h.row.mono hB,λp hp=>(h.each p hp).mono hB⟩
theorem Lst.over(h:Lst w w.heap.size A n c ps)(hb:Below w.heap.size w w'):Lst w' w'.heap.size A n c ps:=(h.below hb).mono hb.size
theorem U0a.drewL{α:Type}{f:α->Value}{xs:List α}(h:U0a f w B A n c xs)(k:Nat):U0a f (w.drewN k) B A n c xs:=h.keep λ_ _=>rfl
theorem Lst.drewN(h:Lst w B A n c ps)(k:Nat):Lst (w.drewN k) B A n c ps:=⟨h.row.drewL k,λp hp=>(h.each p hp).drewN k⟩
theorem Lst.head(h:Lst w B A c c ps)(hn:n<=c):Lst w B A n c (ps.take n):=⟨h.row.head hn,λp hp=>h.each p (List.mem_of_mem_take hp)⟩
theorem Lst.nil(w:World)(B:Nat):Lst w B none 0 0 []:=⟨U0a.nil _ _ _,λp hp=>by cases hp⟩
theorem Lst.at(h:Lst w B A n c ps){i:Nat}(hi:i<n):∃b off p,A=some ⟨b,off,none⟩/\b<B/\ps[i]? = some p/\w.cell? ⟨b,off+i,none⟩=some (.slice p.1 p.2.1 p.2.2.1)/\Holds w B p.1 p.2.1 p.2.2.1 p.2.2.2:=by obtain⟨b,off,e,hb,hc⟩:=h.row.cells (by omega);have hl:=h.row.len;have hp:ps[i]? = some ps[i]:=List.getElem?_eq_getElem (by omega);exact⟨b,off,ps[i],e,hb,hp,hc i _ hp,h.each _ (List.getElem_mem _)⟩
end
section
variable {H:Type} {enc:TypeId×Value->H} {P:Program} {W:World} {base:Nat} {t e q:TypeId} {v:Value} {d:DataW H} {p:List MemPlace}
end
def j1a{α:Type}(f:α->List Value)(s:Nat)(e:TypeId)(w:World)(base:Nat)(v:Value)(xs:List α):Prop:=w.ownsRow base e s v xs.length (xs.flatMap f)
structure L0a {α:Type} (f:α->List Value) (s:Nat) (w:World) (B:Nat) (A:Option Addr) (n c:Nat) (xs:List α):Prop where
 len:xs.length=n
 fit:n<=c
 bare:A=none->c=0
 cells:0<n->∃b off,A=some ⟨b,off,none⟩/\b<B/\∀i x,xs[i]? = some x->∀j u,(f x)[j]? = some u->w.cell? ⟨b,off+(i*s+j),none⟩=some u
theorem g6a{α:Type}{f:α->List Value}{s:Nat}(hs:0<s)(hf:∀x,(f x).length=s):∀(xs:List α) (i:Nat),(xs.flatMap f)[i]? = (xs[i/s]?).bind λx=>(f x)[i%s]?
 | [],i=>by simp
 | x::r,i=>by
  rw[List.flatMap_cons,List.getElem?_append,hf x];by_cases h:i<s
  ·rw[if_pos h,Nat.div_eq_of_lt h,Nat.mod_eq_of_lt h];rfl
  ·rw[if_neg h,g6a hs hf r (i-s)];have e1:i/s=(i-s)/s+1:=by rw[Nat.div_eq_sub_div hs (by omega)]
   have e2:i%s=(i-s)%s:=by rw[Nat.mod_eq_sub_mod (by omega)]
   rw[e1,e2,List.getElem?_cons_succ]
theorem C1a{α:Type}{f:α->List Value}{s:Nat}(hf:∀x,(f x).length=s)(xs:List α):(xs.flatMap f).length=xs.length*s:=by
 induction xs with
 | nil=>simp
 | cons x r ih=>rw[List.flatMap_cons,List.length_append,ih,hf,List.length_cons,Nat.add_mul];omega
section
variable {α:Type} {f:α->List Value} {s:Nat} {w w' w2:World} {B B' base base' b:Nat} {A:Option Addr} {n c:Nat} {xs ys:List α} {e e' T:TypeId} {v v' u:Value}
theorem L0a.keep(h:L0a f s w B A n c xs)(hk:∀p:Addr,p.block<B->w'.cell? p=w.cell? p):L0a f s w' B A n c xs:=
 ⟨h.len,h.fit,h.bare,λhn=>by obtain⟨b,off,e,hb,hc⟩:=h.cells hn;exact⟨b,off,e,hb,λi x hi j u hj=>(hk _ hb).trans (hc i x hi j u hj)⟩⟩
theorem L0a.mono(h:L0a f s w B A n c xs)(hB:B<=B'):L0a f s w B' A n c xs:=
 ⟨h.len,h.fit,h.bare,λhn=>by obtain⟨b,off,e,hb,hc⟩:=h.cells hn;exact⟨b,off,e,by omega,hc⟩⟩
theorem L0a.below(h:L0a f s w B A n c xs)(hb:Below B w w'):L0a f s w' B A n c xs:=h.keep λ_ hp=>hb.cell hp
theorem L0a.over(h:L0a f s w w.heap.size A n c xs)(hb:Below w.heap.size w w'):L0a f s w' w'.heap.size A n c xs:=(h.below hb).mono hb.size
theorem L0a.drew(h:L0a f s w B A n c xs):L0a f s w.drew B A n c xs:=h.keep λ_ _=>rfl
theorem L0a.drewN(h:L0a f s w B A n c xs)(k:Nat):L0a f s (w.drewN k) B A n c xs:=h.keep λ_ _=>rfl
theorem U0a.drew{f:α->Value}(h:U0a f w B A n c xs):U0a f w.drew B A n c xs:=h.keep λ_ _=>rfl
theorem U0a.drewN{f:α->Value}(h:U0a f w B A n c xs)(k:Nat):U0a f (w.drewN k) B A n c xs:=h.keep λ_ _=>rfl
theorem L0a.head(h:L0a f s w B A c c xs)(hn:n<=c):L0a f s w B A n c (xs.take n):=
 ⟨by have:=h.len;simp;omega,hn,h.bare,λh0=>by
  obtain⟨b,off,rfl,hb,hc⟩:=h.cells (by omega);refine⟨b,off,rfl,hb,λi x hi=>hc i x ?_⟩;rw[List.getElem?_take] at hi;split at hi
  ·exact hi
  ·cases hi⟩
theorem L0a.nil(f:α->List Value)(s:Nat)(w:World)(B:Nat):L0a f s w B none 0 0 []:=⟨rfl,Nat.le_refl _,λ_=>rfl,λh=>absurd h (by omega)⟩
theorem L0a.range(h:L0a f s w B A n c xs){b off i:Nat}(hA:A=some ⟨b,off,none⟩)(hi:i<n){x:α}(hx:xs[i]? = some x):w.rangeAt b (off+i*s) (f x):=λj u hj=>by
 obtain⟨b',off',e,_,hc⟩:=h.cells (by omega);rw[hA] at e;injection e with e
 injection e with e1 e2 e3
 subst e1 e2;have:=hc i x hx j u hj
 rwa [<-Nat.add_assoc] at this
theorem j1a.nil(f:α->List Value)(s:Nat)(e:TypeId)(w:World)(base:Nat):j1a f s e w base (.slice none 0 0) []:=World.ownsRow_nil w base e s
theorem j1a.mono(h:j1a f s e w base v xs)(hb:base'<=base):j1a f s e w base' v xs:=by
 refine⟨h.1,?_⟩;rcases h.2 with h0 | ⟨g,cap,cur,rfl,h1,rest⟩
 ·exact .inl h0
 ·exact .inr ⟨g,cap,cur,rfl,by omega,rest⟩
theorem j1a.keep(h:j1a f s e w base v xs)(hk:∀i cs,v.ownBlock=some i->w.heap[i]? = some (.cells cs e (0,0))->w'.heap[i]? = w.heap[i]?):j1a f s e w' base v xs:=by
 refine⟨h.1,?_⟩;rcases h.2 with h0 | ⟨g,cap,cur,rfl,h1,hg,rest⟩
 ·exact .inl h0
 ·exact .inr ⟨g,cap,cur,rfl,h1,(hk g cur rfl hg).trans hg,rest⟩
theorem j1a.below(h:j1a f s e w base v xs)(hb:Below w.heap.size w w'):j1a f s e w' base v xs:=h.keep λi _ _ hi=>hb.block i (Array.getElem?_eq_some_iff.1 hi).1
theorem j1a.only(h:j1a f s e w base v xs)(hO:S1a b w w')(hb:b<base):j1a f s e w' base v xs:=by
 refine⟨h.1,?_⟩;rcases h.2 with h0 | ⟨g,cap,cur,rfl,h1,hg,rest⟩
 ·exact .inl h0
 ·exact .inr ⟨g,cap,cur,rfl,h1,(hO.rest g (by omega)).trans hg,rest⟩
theorem j1a.block(h:j1a f s e w base v xs){i:Nat}(hi:v.ownBlock=some i):base<=i/\∃cs,w.heap[i]? = some (.cells cs e (0,0)):=by
 rcases h.2 with⟨rfl,_⟩ | ⟨g,cap,cur,rfl,h1,hg,rest⟩
 ·cases hi
 ·simp only[Value.ownBlock,Option.some.injEq] at hi;subst hi;exact⟨h1,cur,hg⟩
theorem j1a.lt(h:j1a f s e w base v xs){i:Nat}(hi:v.ownBlock=some i):i<w.heap.size:=(World.ownsRow.lt h i hi).2
theorem j1a.holds(hs:0<s)(hf:∀x,(f x).length=s)(h:j1a f s e w base v xs):∃A n c,v=.slice A n c/\L0a f s w w.heap.size A n c xs:=by
 rcases h.2 with⟨rfl,h0⟩ | ⟨g,cap,cur,rfl,hb,hg,hnc,hcm,hcs,htk⟩
 ·have:xs=[]:=List.eq_nil_of_length_eq_zero h0;subst this;exact⟨none,0,0,rfl,L0a.nil f s w _⟩
 ·refine⟨_,_,_,rfl,rfl,hnc,λhA=>(by cases hA),λh0=>⟨g,0,rfl,(Array.getElem?_eq_some_iff.1 hg).1,λi x hi j u hj=>?_⟩⟩;have hil:i<xs.length:=(List.getElem?_eq_some_iff.1 hi).1;have hjs:j<s:=by rw[<-hf x];exact(List.getElem?_eq_some_iff.1 hj).1
  have hlt:i*s+j<xs.length*s:=by have:(i+1)*s<=xs.length*s:=Nat.mul_le_mul_right s hil;rw[Nat.add_mul] at this;omega
  rw[Nat.zero_add,cell_of_row w g _ cur e (0,0) hg];have e1:cur[i*s+j]? = (cur.toList.take (xs.length*s))[i*s+j]?:=by rw[List.getElem?_take,if_pos hlt,Array.getElem?_toList]
  rw[e1,htk,g6a hs hf,show(i*s+j)/s=i from by rw[Nat.mul_comm,Nat.mul_add_div hs,Nat.div_eq_of_lt hjs,Nat.add_zero],show(i*s+j)%s=j from by rw[Nat.mul_comm,Nat.mul_add_mod,Nat.mod_eq_of_lt hjs],hi];exact hj
end
section
variable {α:Type} {f:α->List Value} {s:Nat} {P:Program} {w:World} {ops:Array Oper} {rest:List Oper} {o:Oper} {a:Act} {Q:Exit->Act->World->Prop}
end
open Go.Lib
def R2a(r:Int):Prop:=0<=r/\r<=1114111/\(r<55296∨57343<r)
def enc(r:Int):List UInt8:=if 1114112<=r then [(r-1114112).toNat.toUInt8] else encodeRune r
def S3a(l:List UInt8):Int:=if (decodeL l).1=65533/\(decodeL l).2=1 then 1114112+((l.getD 0 0).toNat:Int) else ((decodeL l).1:Int)
def h6a:Nat->List UInt8->List Int
 | 0,_=>[]
 | n+1,l=>if l=[] then [] else S3a l::h6a n (l.drop (decodeL l).2)
def j0a(l:List UInt8):List Int:=h6a l.length l
theorem o5a(n:Nat):h6a n []=[]:=by cases n<;>simp[h6a]
theorem B8a:∀(n m:Nat) (l:List UInt8),l.length<=n->l.length<=m->h6a n l=h6a m l
 | 0,m,l,hn,_=>by obtain rfl:l=[]:=List.eq_nil_of_length_eq_zero (by omega);rw[o5a,o5a]
 | n+1,0,l,_,hm=>by obtain rfl:l=[]:=List.eq_nil_of_length_eq_zero (by omega);rw[o5a,o5a]
 | n+1,m+1,l,hn,hm=>by
  unfold h6a;by_cases hne:l=[]
  ·simp[hne]
  ·have hw:=decodeL_width l;have hl:0<l.length:=List.length_pos_iff.2 hne;rw[if_neg hne,if_neg hne,B8a n m (l.drop (decodeL l).2) (by rw[List.length_drop];omega) (by rw[List.length_drop];omega)]
theorem M3a:j0a []=[]:=rfl
theorem q2a(l:List UInt8)(hne:l≠[]):j0a l=S3a l::j0a (l.drop (decodeL l).2):=by
 have hl:0<l.length:=List.length_pos_iff.2 hne;have hw:=decodeL_width l;obtain⟨n,hn⟩:∃n,l.length=n+1:=⟨l.length-1,by omega⟩;unfold j0a;rw[hn];show(if l=[] then [] else _)=_
 rw[if_neg hne,B8a n (l.drop (decodeL l).2).length _ (by rw[List.length_drop];omega) (Nat.le_refl _)]
theorem O4a(l:List UInt8)(_hne:l≠[]) :
  (¬((decodeL l).1=65533/\(decodeL l).2=1)/\S3a l=((decodeL l).1:Int)/\R2a ((decodeL l).1:Int))∨
  ((decodeL l).1=65533/\(decodeL l).2=1/\S3a l=1114112+((l.getD 0 0).toNat:Int)/\128<=(l.getD 0 0).toNat):=by
 have k0:=(l.getD 0 0).toNat_lt;have k1:=(l.getD 1 0).toNat_lt;have k2:=(l.getD 2 0).toNat_lt;have k3:=(l.getD 3 0).toNat_lt;unfold S3a R2a;by_cases h:(decodeL l).1=65533/\(decodeL l).2=1
 ·right;refine⟨h.1,h.2,if_pos h,?_⟩;rw[decodeL_N] at h;by_cases hb:(l.getD 0 0).toNat<128
  ·rw[decodeN_ascii _ _ _ _ _ hb] at h;dsimp only at h;omega
  ·omega
 ·left;refine⟨h,if_neg h,?_⟩;rw[decodeL_N] at h⊢;rcases decodeN_shape l.length (l.getD 0 0).toNat (l.getD 1 0).toNat (l.getD 2 0).toNat (l.getD 3 0).toNat with⟨c,e⟩ | ⟨c1,c2,c3,cv,e⟩ | ⟨c1,c2,c3,c4,cv,cs,e⟩ | ⟨c1,c2,c3,c4,c5,cv,cw,e⟩ | e
  all_goals (rw[e] at h⊢;dsimp only at h⊢)
  all_goals (try (exact absurd ⟨rfl,rfl⟩ h))
  all_goals (refine⟨by omega,by omega,by omega⟩)
def i4b(r:Int):Prop:=R2a r∨(1114240<=r/\r<=1114367)
theorem h2c(l:List UInt8)(hne:l≠[]):i4b (S3a l):=by
 have k0:=(l.getD 0 0).toNat_lt;rcases O4a l hne with⟨_,h1,h2⟩ | ⟨_,_,h1,h2⟩
 ·rw[h1];exact .inl h2
 ·rw[h1];exact .inr (by omega)
theorem i4b.bounds{r:Int}(h:i4b r):0<=r/\r<=1114367:=by
 rcases h with h | h
 ·exact⟨h.1,by have:=h.2.1;omega⟩
 ·omega
theorem i4b.letter{r:Int}(h:i4b r)(hr:r<1114112):R2a r:=by
 rcases h with h | h
 ·exact h
 ·omega
theorem R2a.lt{r:Int}(h:R2a r):¬1114112<=r:=by have:=h.2.1;omega
theorem A9b(l:List UInt8)(hne:l≠[]):l.take (decodeL l).2=enc (S3a l):=by
 unfold enc;rcases O4a l hne with⟨h0,h1,h2⟩ | ⟨_,h0,h1,h2⟩
 ·rw[h1,if_neg h2.lt,encode_decode l hne h0]
 ·rw[h1,if_pos (by omega),h0,takeA l (List.length_pos_iff.2 hne)];rw[toByte _ (l.getD 0 0) (by omega)]
theorem V4a{P:List UInt8->Prop}(h0:P [])(h1:∀l:List UInt8,l≠[]->P (l.drop (decodeL l).2)->P l):∀l,P l:=by
 have key:∀n (l:List UInt8),l.length<=n->P l:=by
  intro n
  induction n with
  | zero=>intro l hl;obtain rfl:l=[]:=List.eq_nil_of_length_eq_zero (by omega);exact h0
  | succ n ih=>
   intro l hl;by_cases hne:l=[]
   ·rw[hne];exact h0
   ·have hw:=decodeL_width l;exact h1 l hne (ih _ (by rw[List.length_drop];omega))
 exact λl=>key l.length l (Nat.le_refl _)
theorem i6a(l:List UInt8):∀r∈j0a l,i4b r:=by
 induction l using V4a with
 | h0=>intro r hr;cases hr
 | h1 l hne ih=>
  rw[q2a l hne];intro r hr;rcases List.mem_cons.1 hr with rfl | hr
  ·exact h2c l hne
  ·exact ih r hr
theorem j6a(l:List UInt8):(j0a l).flatMap enc=l:=by
 induction l using V4a with
 | h0=>rfl
 | h1 l hne ih=>rw[q2a l hne,List.flatMap_cons,ih,<-A9b l hne,List.take_append_drop]
theorem o7a(l:List UInt8):(j0a l).length<=l.length:=by
 induction l using V4a with
 | h0=>simp[M3a]
 | h1 l hne ih=>have hw:=decodeL_width l;have hl:0<l.length:=List.length_pos_iff.2 hne;rw[q2a l hne,List.length_cons];rw[List.length_drop] at ih;omega
theorem Y6b(x:Int):(x.toNat.toUInt8).toNat=x.toNat%256:=by simp
theorem T7b{r:Int}(h:R2a r):enc r=encodeRune r:=if_neg h.lt
theorem P4c{r:Int}:(enc r).length<=4:=by
 unfold enc;split
 ·simp
 ·have:=encodeRuneZ_length r;simpa[encodeRune] using this.2
def u0a(l:List UInt8):Bool:=(j0a l).all λr=>decide (r<1114112)
theorem j2b:u0a []=true:=rfl
theorem g8a(l:List UInt8)(hne:l≠[]):u0a l=(decide (S3a l<1114112)&&u0a (l.drop (decodeL l).2)):=by unfold u0a;rw[q2a l hne,List.all_cons]
theorem n3b(l:List UInt8):validD l=u0a l:=by
 induction l using V4a with
 | h0=>rfl
 | h1 l hne ih=>
  rw[validD_step l hne,g8a l hne,ih];rcases O4a l hne with⟨h0,h1,h2⟩ | ⟨h0,h0',h1,h2⟩
  ·have:=h2.lt;rw[if_neg h0,h1,decide_eq_true (by omega),Bool.true_and]
  ·rw[if_pos ⟨h0,h0'⟩,h1,decide_eq_false (by omega),Bool.false_and]
def w0b(n:Nat):Nat:=if 65<=n/\n<=90 then n+32 else n
def d5c(b:UInt8):UInt8:=(w0b b.toNat).toUInt8
def D2a(r:Int):Int:=if 65<=r/\r<=90 then r+32 else r
def B0a(l:List UInt8):List UInt8:=l.map d5c
theorem k2b(b:UInt8):(d5c b).toNat=w0b b.toNat:=by have:=b.toNat_lt;unfold d5c w0b;split<;>simp<;>omega
theorem U7b(n:Nat):D2a (n:Int)=(w0b n:Int):=by unfold D2a w0b;split<;>split<;>omega
theorem q9a(b:Nat):w0b b=b∨(b/64≠2/\w0b b/64≠2):=by
 unfold w0b;split
 ·right;omega
 ·left;rfl
theorem H0b{b:Nat}(h:128<=b):w0b b=b:=if_neg (by omega)
theorem K5a(l:List UInt8)(k:Nat):((B0a l).getD k 0).toNat=w0b (l.getD k 0).toNat:=by
 unfold B0a;simp only[List.getD_eq_getElem?_getD,List.getElem?_map];cases h:l[k]? with
 | none=>rfl
 | some b=>simpa using k2b b
theorem F5b(n b0 b1 b2 b3:Nat):decodeN n (w0b b0) (w0b b1) (w0b b2) (w0b b3)=(w0b (decodeN n b0 b1 b2 b3).1,(decodeN n b0 b1 b2 b3).2):=by
 by_cases c:b0<128
 ·have c':w0b b0<128:=by unfold w0b;split<;>omega
  rw[decodeN_ascii _ _ _ _ _ c,decodeN_ascii _ _ _ _ _ c']
 ·rw[H0b (b:=b0) (by omega)];have key:decodeN n b0 (w0b b1) (w0b b2) (w0b b3)=decodeN n b0 b1 b2 b3:=by unfold decodeN;rcases q9a b1 with e1 | ⟨e1,e1'⟩<;>rcases q9a b2 with e2 | ⟨e2,e2'⟩<;>rcases q9a b3 with e3 | ⟨e3,e3'⟩<;>simp_all
  rw[key];have h:w0b (decodeN n b0 b1 b2 b3).1=(decodeN n b0 b1 b2 b3).1:=by
   apply H0b;rcases decodeN_shape n b0 b1 b2 b3 with⟨c,e⟩ | ⟨c1,c2,c3,cv,e⟩ | ⟨c1,c2,c3,c4,cv,cs,e⟩ | ⟨c1,c2,c3,c4,c5,cv,cw,e⟩ | e
   all_goals (rw[e];dsimp only;omega)
  rw[h]
theorem h8a(l:List UInt8):decodeL (B0a l)=(w0b (decodeL l).1,(decodeL l).2):=by rw[decodeL_N,decodeL_N,K5a,K5a,K5a,K5a,show(B0a l).length=l.length by simp[B0a],F5b]
theorem i2c(l:List UInt8)(hne:l≠[]):S3a (B0a l)=D2a (S3a l):=by
 rcases O4a l hne with⟨h0,h1,h2⟩ | ⟨h0,h0',h1,h2⟩
 ·rw[h1,U7b];unfold S3a;rw[h8a];dsimp only;rw[if_neg ?_];rintro⟨e1,e2⟩;refine h0 ⟨?_,e2⟩;unfold w0b at e1;split at e1<;>omega
 ·rw[h1];unfold S3a;rw[h8a,h0,h0'];dsimp only;rw[if_pos ⟨by decide,rfl⟩,K5a,H0b h2];unfold D2a;rw[if_neg (by omega)]
theorem W4a(l:List UInt8):j0a (B0a l)=(j0a l).map D2a:=by
 induction l using V4a with
 | h0=>rfl
 | h1 l hne ih=>
  have hne':B0a l≠[]:=by simpa[B0a] using hne
  rw[q2a _ hne',i2c l hne,q2a l hne,List.map_cons,<-ih,h8a];simp[B0a,List.map_drop]
def s0a(l:List UInt8):List Int:=(j0a l).map D2a
theorem L5a(l:List UInt8):(s0a l).flatMap enc=B0a l:=by unfold s0a;rw[<-W4a,j6a]
theorem j4a(l:List UInt8):s0a l=j0a (B0a l):=(W4a l).symm
theorem j4b(l:List UInt8):∀r∈s0a l,i4b r:=by rw[j4a];exact i6a _
theorem K6a(a:List UInt8):(B0a a).length=a.length:=by simp[B0a]
def I4c(x y:Int):Int:=if x<y then -1 else if y<x then 1 else 0
def J6a:List Int->List Int->Int
 | [],[]=>0
 | [],_::_=>-1
 | _::_,[]=>1
 | x::xs,y::ys=>if x<y then -1 else if y<x then 1 else J6a xs ys
theorem k4b:∀xs,J6a xs xs=0
 | []=>rfl
 | x::xs=>by simp[J6a,k4b xs]
theorem l4b:∀xs ys,J6a xs ys=0->xs=ys
 | [],[],_=>rfl
 | [],_::_,h=>by simp[J6a] at h
 | _::_,[],h=>by simp[J6a] at h
 | x::xs,y::ys,h=>by
  unfold J6a at h;split at h
  ·omega
  ·split at h
   ·omega
   ·rw[l4b xs ys h,show x=y by omega]
theorem I0b:∀xs ys,J6a ys xs=- J6a xs ys
 | [],[]=>rfl
 | [],_::_=>rfl
 | _::_,[]=>rfl
 | x::xs,y::ys=>by
  unfold J6a;have:=I0b xs ys;repeat' split
  all_goals omega
theorem l2b:∀xs ys zs,J6a xs ys<0->J6a ys zs<0->J6a xs zs<0
 | _,[],[],_,h=>by simp[J6a] at h
 | [],_,_::_,_,_=>by simp[J6a]
 | _::_,[],_,h,_=>by simp[J6a] at h
 | _,_::_,[],_,h=>by simp[J6a] at h
 | x::xs,y::ys,z::zs,h1,h2=>by
  unfold J6a at h1 h2⊢;have:=l2b xs ys zs;repeat' split at h1
  all_goals repeat' split at h2
  all_goals repeat' split
  all_goals first | omega | exact this h1 h2
def e1a(a b:List UInt8):Bool:=decide (J6a (s0a a) (s0a b)<0)
def f1a(a b:List UInt8):Bool:=decide (B0a a=B0a b)
theorem J0b(a b:List UInt8):B0a a=B0a b↔s0a a=s0a b:=by
 constructor
 ·intro h;rw[j4a,j4a,h]
 ·intro h;rw[<-L5a,<-L5a,h]
theorem p7a(s:ByteArray)(pos:Nat)(h:pos<s.size) :
  j0a (s.data.toList.drop pos)=S3a (s.data.toList.drop pos)::j0a (s.data.toList.drop (pos+(Utf8.decode s pos).2))/\1<=(Utf8.decode s pos).2/\pos+(Utf8.decode s pos).2<=s.size:=by
 have hl:s.data.toList.drop pos≠[]:=by intro e;have:=congrArg List.length e;rw[List.length_drop,<-size_eq] at this;simp at this;omega
 have h1:=q2a _ hl;have h2:=decodeL_width (s.data.toList.drop pos);have h3:=decodeL_le _ hl;rw[decodeL_drop] at h1 h2 h3;rw[List.drop_drop] at h1;rw[List.length_drop,<-size_eq] at h3;exact⟨h1,h2,by omega⟩
theorem K0b(s:ByteArray)(pos:Nat)(h:pos<s.size)(ht:u0a (s.data.toList.drop pos)=true) :
  j0a (s.data.toList.drop pos)=((Utf8.decode s pos).1:Int)::j0a (s.data.toList.drop (pos+(Utf8.decode s pos).2))/\u0a (s.data.toList.drop (pos+(Utf8.decode s pos).2))=true/\R2a ((Utf8.decode s pos).1:Int):=by
 have hl:s.data.toList.drop pos≠[]:=by intro e;have:=congrArg List.length e;rw[List.length_drop,<-size_eq] at this;simp at this;omega
 have h1:=q2a _ hl;rw[g8a _ hl,Bool.and_eq_true] at ht;obtain⟨ht,ht'⟩:=ht;rw[decodeL_drop] at h1 ht';rw[List.drop_drop] at h1 ht';have ht:=of_decide_eq_true ht;rcases O4a _ hl with⟨_,e,hL⟩ | ⟨_,_,e,_⟩
 ·rw[decodeL_drop] at e hL;rw[e] at h1;exact⟨h1,ht',hL⟩
 ·omega
theorem p5a(s:ByteArray)(pos:Nat)(h:¬pos<s.size):j0a (s.data.toList.drop pos)=[]:=by rw[List.drop_of_length_le (by rw[<-size_eq];omega)];rfl
def X4a:List Int->Nat
 | []=>0
 | r::rs=>(if r<65536 then 1 else 2)+X4a rs
def F5a(l:List UInt8):Int:=if u0a l=true then 0 else 5
def q7a(l:List UInt8):Nat:=if u0a l=true then X4a (j0a l) else 0
end Go.Proofs.YtdgpbhdihhchgaaGreatDoor
namespace Go.Proofs
open Go.Shelf
open Go.RowKit in
open Go.RowKit in
open Go.RowKit in
open Go.RowKit in
open Go.RowKit in
def Tryz.lays156_ren:Go.Shelf.Ren:=⟨fun | 156=>99 | 165=>148 | 166=>149 | 169=>150 | 240=>177 | 241=>178 | 276=>208 | 277=>209 | n=>n,fun | 31=>78 | 9=>9 | 3=>3 | 4=>4 | 0=>0 | 20=>20 | 72=>185 | 76=>188 | 70=>183 | 37=>51 | 75=>187 | 127=>203 | 164=>228 | 5=>5 | 80=>190 | n=>n,fun | n=>n⟩
theorem Tryz.lays156:Go.Proofs.Lays.n156 Tryz.prog Tryz.lays156_ren:={
 mixed:=by kernel_rfl
 f156:=Tryz.func99.trans (congrArg some (by kernel_rfl))
 f165:=Tryz.func148.trans (congrArg some (by kernel_rfl))
 f166:=Tryz.func149.trans (congrArg some (by kernel_rfl))
 f169:=Tryz.func150.trans (congrArg some (by kernel_rfl))
 f240:=Tryz.func177.trans (congrArg some (by kernel_rfl))
 f241:=Tryz.func178.trans (congrArg some (by kernel_rfl))
 f276:=Tryz.func208.trans (congrArg some (by kernel_rfl))
 f277:=Tryz.func209.trans (congrArg some (by kernel_rfl))
 t0:=Tryz.underlying0
 a0:=Tryz.isAgg0
 z0:=Tryz.sizeOf0
 v0:=Tryz.zeroValue0
 t3:=Tryz.underlying3
 a3:=Tryz.isAgg3
 z3:=Tryz.sizeOf3
 v3:=Tryz.zeroValue3
 t4:=Tryz.underlying4
 a4:=Tryz.isAgg4
 z4:=Tryz.sizeOf4
 v4:=Tryz.zeroValue4
 t9:=Tryz.underlying9
 a9:=Tryz.isAgg9
 z9:=Tryz.sizeOf9
 v9:=Tryz.zeroValue9
 t20:=Tryz.underlying20
 a20:=Tryz.isAgg20
 z20:=Tryz.sizeOf20
 v20:=Tryz.zeroValue20
 t31:=Tryz.underlying78
 a31:=Tryz.isAgg78
 z31:=Tryz.sizeOf78
 v31:=Tryz.zeroValue78
 t37:=Tryz.underlying51
 a37:=Tryz.isAgg51
 z37:=Tryz.sizeOf51
 v37:=Tryz.zeroValue51
 t70:=Tryz.underlying183
 a70:=Tryz.isAgg183
 z70:=Tryz.sizeOf183
 v70:=Tryz.zeroValue183
 t72:=Tryz.underlying185
 a72:=Tryz.isAgg185
 z72:=Tryz.sizeOf185
 v72:=Tryz.zeroValue185
 t75:=Tryz.underlying187
 a75:=Tryz.isAgg187
 z75:=Tryz.sizeOf187
 v75:=Tryz.zeroValue187
 t76:=Tryz.underlying188
 a76:=Tryz.isAgg188
 z76:=Tryz.sizeOf188
 v76:=Tryz.zeroValue188
 t127:=Tryz.underlying203
 a127:=Tryz.isAgg203
 z127:=Tryz.sizeOf203
 v127:=Tryz.zeroValue203
 t164:=Tryz.underlying228
 a164:=Tryz.isAgg228
 z164:=Tryz.sizeOf228
 v164:=Tryz.zeroValue228 }
theorem Tryz.Builder_Extra_156:Builder.Extra Tryz.prog Tryz.lays156_ren:={
 sizeBuilder:=by kernel_rfl
 liesBuilder:=by kernel_rfl
 t5:=Tryz.underlying5
 a5:=Tryz.isAgg5
 z5:=Tryz.sizeOf5
 v5:=Tryz.zeroValue5
 infoByte:=by kernel_rfl
 cellsByte:=by kernel_rfl
 sizeByte:=by kernel_rfl
 neB5:=by decide }
open Go.RowKit in
theorem Tryz.strings_Join_none(a:Option Addr)(c:Nat)(sep:ByteArray)(w:World) :
  Calls Tryz.prog 99 #[.slice a 0 c,.string sep] w λe w'=>e=.returned (.string ⟨#[]⟩)/\w'=w:=Any.strings_Join_none Tryz.lays156 Tryz.Builder_Extra_156 a c sep w
open Go.RowKit in
theorem Tryz.strings_Join(bk o c:Nat)(xs:List ByteArray)(sep:ByteArray)(w:World)(C6a:∀(j:Nat) x,xs[j]? = some x->w.cell? ⟨bk,o+j,none⟩=some (.string x))(hbk:bk<w.heap.size)(hN:xs.length<=140737488355328)(hcap:xs.length<=c)(hlen:(Lib.join (xs.map (·.data.toList)) sep.data.toList).length<=140737488355328) :
  Calls Tryz.prog 99 #[.slice (some ⟨bk,o,none⟩) xs.length c,.string sep] w λe w'=>e=.returned (.string ⟨(Lib.join (xs.map (·.data.toList)) sep.data.toList).toArray⟩)/\Below w.heap.size w w':=Any.strings_Join Tryz.lays156 Tryz.Builder_Extra_156 bk o c xs sep w C6a hbk hN hcap hlen
open Go.RowKit in
open Go.RowKit in
open Go.RowKit in
open Go.RowKit in
open Go.RowKit in
open Go.RowKit in
open Go.RowKit in
def Tryz.lays242_ren:Go.Shelf.Ren:=⟨fun | 242=>143 | 278=>175 | n=>n,fun | 37=>51 | 21=>21 | 51=>204 | 4=>4 | 5=>5 | 46=>196 | n=>n,fun | n=>n⟩
theorem Tryz.lays242:Go.Proofs.Lays.n242 Tryz.prog Tryz.lays242_ren:={
 mixed:=by kernel_rfl
 f242:=Tryz.func143.trans (congrArg some (by kernel_rfl))
 f278:=Tryz.func175.trans (congrArg some (by kernel_rfl))
 t4:=Tryz.underlying4
 a4:=Tryz.isAgg4
 z4:=Tryz.sizeOf4
 v4:=Tryz.zeroValue4
 t5:=Tryz.underlying5
 a5:=Tryz.isAgg5
 z5:=Tryz.sizeOf5
 v5:=Tryz.zeroValue5
 t21:=Tryz.underlying21
 a21:=Tryz.isAgg21
 z21:=Tryz.sizeOf21
 v21:=Tryz.zeroValue21
 t37:=Tryz.underlying51
 a37:=Tryz.isAgg51
 z37:=Tryz.sizeOf51
 v37:=Tryz.zeroValue51
 t46:=Tryz.underlying196
 a46:=Tryz.isAgg196
 z46:=Tryz.sizeOf196
 v46:=Tryz.zeroValue196
 t51:=Tryz.underlying204
 a51:=Tryz.isAgg204
 z51:=Tryz.sizeOf204
 v51:=Tryz.zeroValue204 }
open Go.RowKit in
theorem Tryz.utf8_AppendRune_plain(B:Nat)(v:Value)(n:Nat)(xs:List Value)(r:Int)(hr0:-2147483648<=r)(hr1:r<=2147483647)(w:World)(hown:w.ownsRow B 5 1 v n xs)(hlen:n+4<=140737488355328)(hBw:B<=w.heap.size) :
  Calls Tryz.prog 143 #[v,.int .i32 r] w λe w'=>∃v',e=.returned v'/\w'.ownsRow B 5 1 v' (n+(Lib.runeCells r).length) (xs++Lib.runeCells r)/\∃o,(w.alloc o).grownBy w' v.ownBlock:=Any.utf8_AppendRune_plain Tryz.lays242 (by kernel_rfl) B v n xs r hr0 hr1 w hown hlen hBw
def Tryz.lays195_ren:Go.Shelf.Ren:=⟨fun | 195=>138 | n=>n,fun | 9=>9 | 3=>3 | 0=>0 | 4=>4 | n=>n,fun | n=>n⟩
theorem Tryz.lays195:Go.Proofs.Lays.n195 Tryz.prog Tryz.lays195_ren:={
 mixed:=by kernel_rfl
 f195:=Tryz.func138.trans (congrArg some (by kernel_rfl))
 t0:=Tryz.underlying0
 a0:=Tryz.isAgg0
 z0:=Tryz.sizeOf0
 v0:=Tryz.zeroValue0
 t3:=Tryz.underlying3
 a3:=Tryz.isAgg3
 z3:=Tryz.sizeOf3
 v3:=Tryz.zeroValue3
 t4:=Tryz.underlying4
 a4:=Tryz.isAgg4
 z4:=Tryz.sizeOf4
 v4:=Tryz.zeroValue4
 t9:=Tryz.underlying9
 a9:=Tryz.isAgg9
 z9:=Tryz.sizeOf9
 v9:=Tryz.zeroValue9 }
open Go.RowKit in
theorem Tryz.utf8_RuneCountInString(s:ByteArray)(w:World)(hs:s.size<9223372036854775807) :
  Calls Tryz.prog 138 #[.string s] w λe w'=>e=.returned (.int .i64 (Lib.runeCount s))/\∃pos,w'=w.iter s pos:=Any.utf8_RuneCountInString Tryz.lays195 s w hs
def Tryz.laysM316_ren:Go.Shelf.Ren:=⟨fun | 316=>141 | n=>n,fun | 9=>9 | 3=>3 | 4=>4 | 37=>51 | 0=>0 | 127=>203 | 5=>5 | n=>n,fun | n=>n⟩
theorem Tryz.laysM316:Go.Proofs.LaysM.n316 Tryz.prog Tryz.laysM316_ren:={
 mixed:=by kernel_rfl
 f316:=Tryz.func141.trans (congrArg some (by kernel_rfl))
 t0:=Tryz.underlying0
 a0:=Tryz.isAgg0
 z0:=Tryz.sizeOf0
 v0:=Tryz.zeroValue0
 t3:=Tryz.underlying3
 a3:=Tryz.isAgg3
 z3:=Tryz.sizeOf3
 v3:=Tryz.zeroValue3
 t4:=Tryz.underlying4
 a4:=Tryz.isAgg4
 z4:=Tryz.sizeOf4
 v4:=Tryz.zeroValue4
 t9:=Tryz.underlying9
 a9:=Tryz.isAgg9
 z9:=Tryz.sizeOf9
 v9:=Tryz.zeroValue9
 t37:=Tryz.underlying51
 a37:=Tryz.isAgg51
 z37:=Tryz.sizeOf51
 v37:=Tryz.zeroValue51
 t127:=Tryz.underlying203
 a127:=Tryz.isAgg203
 z127:=Tryz.sizeOf203
 v127:=Tryz.zeroValue203
 t5:=Tryz.underlying5
 a5:=Tryz.isAgg5
 z5:=Tryz.sizeOf5
 v5:=Tryz.zeroValue5
 i0:=by kernel_rfl
 i3:=by kernel_rfl
 i4:=by kernel_rfl
 i5:=by kernel_rfl
 i9:=by kernel_rfl
 i37:=by kernel_rfl
 i127:=by kernel_rfl }
open Go.RowKit in
theorem Tryz.stringslite_Clone(s:ByteArray)(w:World)(hlim:s.size<=281474976710656) :
  Calls Tryz.prog 141 #[.string s] w λe w'=>e=.returned (.string s)/\Below w.heap.size w w':=Any.stringslite_Clone Tryz.laysM316 s w hlim
open Go.RowKit Go.Lib in
open Go.RowKit Go.Lib in
open Go.RowKit Go.Lib in
open Go.RowKit Go.Lib in
def Tryz.lays219_ren:Go.Shelf.Ren:=⟨fun | 219=>173 | 217=>202 | 225=>203 | 224=>204 | 267=>205 | 266=>222 | 314=>223 | n=>n,fun | 9=>9 | 3=>3 | 4=>4 | 5=>5 | 46=>196 | 146=>245 | 51=>204 | n=>n,fun | 1=>0 | n=>n⟩
theorem Tryz.lays219:Go.Proofs.Lays.n219 Tryz.prog Tryz.lays219_ren:={
 mixed:=by kernel_rfl
 f217:=Tryz.func202.trans (congrArg some (by kernel_rfl))
 f219:=Tryz.func173.trans (congrArg some (by kernel_rfl))
 f224:=Tryz.func204.trans (congrArg some (by kernel_rfl))
 f225:=Tryz.func203.trans (congrArg some (by kernel_rfl))
 f266:=Tryz.func222.trans (congrArg some (by kernel_rfl))
 f267:=Tryz.func205.trans (congrArg some (by kernel_rfl))
 f314:=Tryz.func223.trans (congrArg some (by kernel_rfl))
 t3:=Tryz.underlying3
 a3:=Tryz.isAgg3
 z3:=Tryz.sizeOf3
 v3:=Tryz.zeroValue3
 t4:=Tryz.underlying4
 a4:=Tryz.isAgg4
 z4:=Tryz.sizeOf4
 v4:=Tryz.zeroValue4
 t5:=Tryz.underlying5
 a5:=Tryz.isAgg5
 z5:=Tryz.sizeOf5
 v5:=Tryz.zeroValue5
 t9:=Tryz.underlying9
 a9:=Tryz.isAgg9
 z9:=Tryz.sizeOf9
 v9:=Tryz.zeroValue9
 t46:=Tryz.underlying196
 a46:=Tryz.isAgg196
 z46:=Tryz.sizeOf196
 v46:=Tryz.zeroValue196
 t51:=Tryz.underlying204
 a51:=Tryz.isAgg204
 z51:=Tryz.sizeOf204
 v51:=Tryz.zeroValue204
 t146:=Tryz.underlying245
 a146:=Tryz.isAgg245
 z146:=Tryz.sizeOf245
 v146:=Tryz.zeroValue245
 g1:=by kernel_rfl }
open Go.RowKit Go.Lib in
theorem Tryz.stringslite_Index_one(s:ByteArray)(c:UInt8)(w:World) :
  Calls Tryz.prog 173 #[.string s,.string ⟨#[c]⟩] w λe w'=>e=.returned (.int .i64 (Lib.indexByte s.data.toList c))/\w'=w:=Any.stringslite_Index_one Tryz.lays219 s c w
open Go.RowKit Go.Lib in
open Go.RowKit Go.Lib in
open Go.RowKit Go.Lib in
open Go.RowKit Go.Lib in
open Go.RowKit Go.Lib in
open Go.RowKit Go.Lib in
open Go.RowKit Go.Lib in
def Tryz.lays197_ren:Go.Shelf.Ren:=⟨fun | 197=>206 | 260=>224 | n=>n,fun | 9=>9 | 21=>21 | 3=>3 | 4=>4 | 5=>5 | 105=>225 | 119=>233 | 0=>0 | 46=>196 | 139=>236 | 138=>235 | n=>n,fun | 3=>1 | 4=>2 | n=>n⟩
theorem Tryz.lays197:Go.Proofs.Lays.n197 Tryz.prog Tryz.lays197_ren:={
 mixed:=by kernel_rfl
 f197:=Tryz.func206.trans (congrArg some (by kernel_rfl))
 f260:=Tryz.func224.trans (congrArg some (by kernel_rfl))
 t0:=Tryz.underlying0
 a0:=Tryz.isAgg0
 z0:=Tryz.sizeOf0
 v0:=Tryz.zeroValue0
 t3:=Tryz.underlying3
 a3:=Tryz.isAgg3
 z3:=Tryz.sizeOf3
 v3:=Tryz.zeroValue3
 t4:=Tryz.underlying4
 a4:=Tryz.isAgg4
 z4:=Tryz.sizeOf4
 v4:=Tryz.zeroValue4
 t5:=Tryz.underlying5
 a5:=Tryz.isAgg5
 z5:=Tryz.sizeOf5
 v5:=Tryz.zeroValue5
 t9:=Tryz.underlying9
 a9:=Tryz.isAgg9
 z9:=Tryz.sizeOf9
 v9:=Tryz.zeroValue9
 t21:=Tryz.underlying21
 a21:=Tryz.isAgg21
 z21:=Tryz.sizeOf21
 v21:=Tryz.zeroValue21
 t46:=Tryz.underlying196
 a46:=Tryz.isAgg196
 z46:=Tryz.sizeOf196
 v46:=Tryz.zeroValue196
 t105:=Tryz.underlying225
 a105:=Tryz.isAgg225
 z105:=Tryz.sizeOf225
 v105:=Tryz.zeroValue225
 t119:=Tryz.underlying233
 a119:=Tryz.isAgg233
 z119:=Tryz.sizeOf233
 t138:=Tryz.underlying235
 a138:=Tryz.isAgg235
 z138:=Tryz.sizeOf235
 v138:=Tryz.zeroValue235
 t139:=Tryz.underlying236
 a139:=Tryz.isAgg236
 z139:=Tryz.sizeOf236
 v139:=Tryz.zeroValue236
 g3:=by kernel_rfl
 g4:=by kernel_rfl }
open Go.RowKit Go.Lib in
theorem Tryz.utf8_DecodeRuneInString(s:ByteArray)(w:World)(hT:Lib.Utf8Tabs 1 2 w) :
  Calls Tryz.prog 206 #[.string s] w λe w'=>e=.returned (.tuple #[.int .i32 (Lib.decodeGo s).1,.int .i64 (Lib.decodeGo s).2])/\Below w.heap.size w w':=Any.utf8_DecodeRuneInString Tryz.lays197 s w hT
def Tryz.lays108_ren:Go.Shelf.Ren:=⟨fun | 108=>117 | n=>n,fun | 28=>44 | 3=>3 | 0=>0 | 4=>4 | n=>n,fun | n=>n⟩
theorem Tryz.lays108:Go.Proofs.Lays.n108 Tryz.prog Tryz.lays108_ren:={
 mixed:=by kernel_rfl
 f108:=Tryz.func117.trans (congrArg some (by kernel_rfl))
 t0:=Tryz.underlying0
 a0:=Tryz.isAgg0
 z0:=Tryz.sizeOf0
 v0:=Tryz.zeroValue0
 t3:=Tryz.underlying3
 a3:=Tryz.isAgg3
 z3:=Tryz.sizeOf3
 v3:=Tryz.zeroValue3
 t4:=Tryz.underlying4
 a4:=Tryz.isAgg4
 z4:=Tryz.sizeOf4
 v4:=Tryz.zeroValue4
 t28:=Tryz.underlying44
 a28:=Tryz.isAgg44
 z28:=Tryz.sizeOf44
 v28:=Tryz.zeroValue44 }
open Go.Lib in
theorem Tryz.slices_Index_int(b off n c:Nat)(zs:List Int)(x:Int)(w:World)(hz:n<=zs.length)(hbig:n<=9223372036854775807)(hc:∀j,j<zs.length->w.cell? ⟨b,off+j,none⟩=some (.int .i64 (zs.getD j 0))) :
  Calls Tryz.prog 117 #[.slice (some ⟨b,off,none⟩) n c,.int .i64 x] w λe w'=>e=.returned (.int .i64 (Lib.idxOf (zs.take n) x))/\w'=w:=Any.slices_Index_int Tryz.lays108 b off n c zs x w hz hbig hc
open Go.Lib in
theorem Tryz.slices_Index_int_empty(a:Option Addr)(c:Nat)(x:Int)(w:World) :
  Calls Tryz.prog 117 #[.slice a 0 c,.int .i64 x] w λe w'=>e=.returned (.int .i64 (Lib.idxOf [] x))/\w'=w:=Any.slices_Index_int_empty Tryz.lays108 a c x w
def Tryz.lays107_ren:Go.Shelf.Ren:=⟨fun | 107=>211 | 108=>117 | n=>n,fun | 28=>44 | 3=>3 | 4=>4 | 0=>0 | n=>n,fun | n=>n⟩
theorem Tryz.lays107:Go.Proofs.Lays.n107 Tryz.prog Tryz.lays107_ren:={
 mixed:=by kernel_rfl
 f107:=Tryz.func211.trans (congrArg some (by kernel_rfl))
 f108:=Tryz.func117.trans (congrArg some (by kernel_rfl))
 t0:=Tryz.underlying0
 a0:=Tryz.isAgg0
 z0:=Tryz.sizeOf0
 v0:=Tryz.zeroValue0
 t3:=Tryz.underlying3
 a3:=Tryz.isAgg3
 z3:=Tryz.sizeOf3
 v3:=Tryz.zeroValue3
 t4:=Tryz.underlying4
 a4:=Tryz.isAgg4
 z4:=Tryz.sizeOf4
 v4:=Tryz.zeroValue4
 t28:=Tryz.underlying44
 a28:=Tryz.isAgg44
 z28:=Tryz.sizeOf44
 v28:=Tryz.zeroValue44 }
open Go.Lib in
theorem Tryz.slices_Contains_int(b off n c:Nat)(zs:List Int)(x:Int)(w:World)(hz:n<=zs.length)(hbig:n<=9223372036854775807)(hc:∀j,j<zs.length->w.cell? ⟨b,off+j,none⟩=some (.int .i64 (zs.getD j 0))) :
  Calls Tryz.prog 211 #[.slice (some ⟨b,off,none⟩) n c,.int .i64 x] w λe w'=>e=.returned (.bool ((zs.take n).contains x))/\w'=w:=Any.slices_Contains_int Tryz.lays107 b off n c zs x w hz hbig hc
open Go.Lib in
theorem Tryz.slices_Contains_int_empty(a:Option Addr)(c:Nat)(x:Int)(w:World) :
  Calls Tryz.prog 211 #[.slice a 0 c,.int .i64 x] w λe w'=>e=.returned (.bool false)/\w'=w:=Any.slices_Contains_int_empty Tryz.lays107 a c x w
open Go.RowKit Go.Lib Go.Sort in
open Go.RowKit Go.Lib Go.Sort in
open Go.RowKit Go.Lib Go.Sort in
open Go.RowKit Go.Lib in
open Go.RowKit Go.Lib in
open Go.RowKit Go.Lib Go.Sort in
open Go.RowKit Go.Lib Go.Sort in
open Go.RowKit Go.Lib Go.Sort in
open Go.RowKit Go.Lib Go.Sort in
open Go.RowKit Go.Lib in
def Tryz.laysSlM5_f108_ren:Go.Shelf.Ren:=⟨fun | 5=>108 | 8=>160 | 7=>159 | 19=>195 | 20=>196 | 10=>186 | 11=>187 | 12=>188 | 13=>189 | 14=>190 | 15=>191 | 16=>192 | 17=>193 | 18=>194 | 30=>213 | 31=>214 | 32=>215 | 33=>216 | 34=>217 | 35=>218 | 40=>226 | n=>n,fun | 23=>44 | 25=>3 | 3=>3 | 32=>196 | 22=>44 | 0=>0 | 44=>204 | 46=>219 | 4=>4 | 36=>212 | 35=>211 | 41=>178 | 5=>5 | 9=>9 | 53=>237 | 57=>241 | 63=>247 | 64=>191 | n=>n,fun | n=>n⟩
theorem Tryz.laysSlM5_f108:Go.Proofs.SlLaysM.n5 Tryz.prog Tryz.laysSlM5_f108_ren:={
 mixed:=by kernel_rfl
 f5:=⟨Tryz.f108.name,by decide,Tryz.func108.trans (congrArg some (by kernel_rfl))⟩
 f7:=⟨Tryz.f159.name,by decide,Tryz.func159.trans (congrArg some (by kernel_rfl))⟩
 f8:=Tryz.func160.trans (congrArg some (by kernel_rfl))
 f10:=⟨Tryz.f186.name,by decide,Tryz.func186.trans (congrArg some (by kernel_rfl))⟩
 f11:=⟨Tryz.f187.name,by decide,Tryz.func187.trans (congrArg some (by kernel_rfl))⟩
 f12:=⟨Tryz.f188.name,by decide,Tryz.func188.trans (congrArg some (by kernel_rfl))⟩
 f13:=⟨Tryz.f189.name,by decide,Tryz.func189.trans (congrArg some (by kernel_rfl))⟩
 f14:=⟨Tryz.f190.name,by decide,Tryz.func190.trans (congrArg some (by kernel_rfl))⟩
 f15:=⟨Tryz.f191.name,by decide,Tryz.func191.trans (congrArg some (by kernel_rfl))⟩
 f16:=⟨Tryz.f192.name,by decide,Tryz.func192.trans (congrArg some (by kernel_rfl))⟩
 f17:=⟨Tryz.f193.name,by decide,Tryz.func193.trans (congrArg some (by kernel_rfl))⟩
 f18:=⟨Tryz.f194.name,by decide,Tryz.func194.trans (congrArg some (by kernel_rfl))⟩
 f19:=Tryz.func195.trans (congrArg some (by kernel_rfl))
 f20:=Tryz.func196.trans (congrArg some (by kernel_rfl))
 f30:=⟨Tryz.f213.name,by decide,Tryz.func213.trans (congrArg some (by kernel_rfl))⟩
 f31:=Tryz.func214.trans (congrArg some (by kernel_rfl))
 f32:=Tryz.func215.trans (congrArg some (by kernel_rfl))
 f33:=⟨Tryz.f216.name,by decide,Tryz.func216.trans (congrArg some (by kernel_rfl))⟩
 f34:=⟨Tryz.f217.name,by decide,Tryz.func217.trans (congrArg some (by kernel_rfl))⟩
 f35:=⟨Tryz.f218.name,by decide,Tryz.func218.trans (congrArg some (by kernel_rfl))⟩
 f40:=⟨Tryz.f226.name,by decide,Tryz.func226.trans (congrArg some (by kernel_rfl))⟩
 t0:=Tryz.underlying0
 a0:=Tryz.isAgg0
 z0:=Tryz.sizeOf0
 v0:=Tryz.zeroValue0
 t3:=Tryz.underlying3
 a3:=Tryz.isAgg3
 z3:=Tryz.sizeOf3
 v3:=Tryz.zeroValue3
 t4:=Tryz.underlying4
 a4:=Tryz.isAgg4
 z4:=Tryz.sizeOf4
 v4:=Tryz.zeroValue4
 t5:=Tryz.underlying5
 a5:=Tryz.isAgg5
 z5:=Tryz.sizeOf5
 v5:=Tryz.zeroValue5
 t9:=Tryz.underlying9
 a9:=Tryz.isAgg9
 z9:=Tryz.sizeOf9
 v9:=Tryz.zeroValue9
 t22:=Tryz.underlying44
 a22:=Tryz.isAgg44
 z22:=Tryz.sizeOf44
 v22:=Tryz.zeroValue44
 t23:=Tryz.underlying44
 a23:=Tryz.isAgg44
 z23:=Tryz.sizeOf44
 v23:=Tryz.zeroValue44
 t25:=Tryz.underlying3
 a25:=Tryz.isAgg3
 z25:=Tryz.sizeOf3
 v25:=Tryz.zeroValue3
 t32:=Tryz.underlying196
 a32:=Tryz.isAgg196
 z32:=Tryz.sizeOf196
 v32:=Tryz.zeroValue196
 t35:=Tryz.underlying211
 a35:=Tryz.isAgg211
 z35:=Tryz.sizeOf211
 v35:=Tryz.zeroValue211
 t36:=Tryz.underlying212
 a36:=Tryz.isAgg212
 z36:=Tryz.sizeOf212
 v36:=Tryz.zeroValue212
 t41:=Tryz.underlying178
 a41:=Tryz.isAgg178
 z41:=Tryz.sizeOf178
 v41:=Tryz.zeroValue178
 t44:=Tryz.underlying204
 a44:=Tryz.isAgg204
 z44:=Tryz.sizeOf204
 v44:=Tryz.zeroValue204
 t46:=Tryz.underlying219
 a46:=Tryz.isAgg219
 z46:=Tryz.sizeOf219
 v46:=Tryz.zeroValue219
 t53:=Tryz.underlying237
 a53:=Tryz.isAgg237
 z53:=Tryz.sizeOf237
 v53:=Tryz.zeroValue237
 t57:=Tryz.underlying241
 a57:=Tryz.isAgg241
 z57:=Tryz.sizeOf241
 v57:=Tryz.zeroValue241
 t63:=Tryz.underlying247
 a63:=Tryz.isAgg247
 z63:=Tryz.sizeOf247
 v63:=Tryz.zeroValue247
 t64:=Tryz.underlying191
 a64:=Tryz.isAgg191
 z64:=Tryz.sizeOf191
 v64:=Tryz.zeroValue191 }
open Go.Sort Go.RowKit in
theorem Tryz.slices_Sort_int(blk off cap:Nat)(zs:List Int)(w:World)(hH:Holds (Value.int .i64) w blk off zs.toArray)(hblk:blk<w.heap.size)(hsz:zs.length<4611686018427387904) :
  Calls Tryz.prog 108 #[.slice (some ⟨blk,off,none⟩) zs.length cap] w λe w'=>e=.returned (.tuple #[])/\∃n os,w'=grow (putRow (Value.int .i64) (Sort.ahead w n) blk off (zs.mergeSort λx y=>decide (x<=y)).toArray) os:=AnyM.slices_Sort_int Tryz.laysSlM5_f108 blk off cap zs w hH hblk hsz
open Go.RowKit Go.Sort in
theorem Tryz.slices_Sort_int_none(p:Option Addr)(cap:Nat)(w:World) :
  Calls Tryz.prog 108 #[.slice p 0 cap] w λe w'=>e=.returned (.tuple #[])/\w'=w:=AnyM.slices_Sort_int_none Tryz.laysSlM5_f108 p cap w
def Tryz.lays196_ren:Go.Shelf.Ren:=⟨fun | 196=>182 | 259=>212 | n=>n,fun | 9=>9 | 4=>4 | 3=>3 | 5=>5 | 12=>12 | 119=>233 | 0=>0 | 46=>196 | 139=>236 | 138=>235 | 53=>219 | n=>n,fun | 3=>1 | 4=>2 | n=>n⟩
theorem Tryz.lays196:Go.Proofs.Lays.n196 Tryz.prog Tryz.lays196_ren:={
 mixed:=by kernel_rfl
 f196:=Tryz.func182.trans (congrArg some (by kernel_rfl))
 f259:=Tryz.func212.trans (congrArg some (by kernel_rfl))
 t0:=Tryz.underlying0
 a0:=Tryz.isAgg0
 z0:=Tryz.sizeOf0
 v0:=Tryz.zeroValue0
 t3:=Tryz.underlying3
 a3:=Tryz.isAgg3
 z3:=Tryz.sizeOf3
 v3:=Tryz.zeroValue3
 t4:=Tryz.underlying4
 a4:=Tryz.isAgg4
 z4:=Tryz.sizeOf4
 v4:=Tryz.zeroValue4
 t5:=Tryz.underlying5
 a5:=Tryz.isAgg5
 z5:=Tryz.sizeOf5
 v5:=Tryz.zeroValue5
 t9:=Tryz.underlying9
 a9:=Tryz.isAgg9
 z9:=Tryz.sizeOf9
 v9:=Tryz.zeroValue9
 t12:=Tryz.underlying12
 a12:=Tryz.isAgg12
 z12:=Tryz.sizeOf12
 v12:=Tryz.zeroValue12
 t46:=Tryz.underlying196
 a46:=Tryz.isAgg196
 z46:=Tryz.sizeOf196
 v46:=Tryz.zeroValue196
 t53:=Tryz.underlying219
 a53:=Tryz.isAgg219
 z53:=Tryz.sizeOf219
 v53:=Tryz.zeroValue219
 t119:=Tryz.underlying233
 a119:=Tryz.isAgg233
 z119:=Tryz.sizeOf233
 t138:=Tryz.underlying235
 a138:=Tryz.isAgg235
 z138:=Tryz.sizeOf235
 v138:=Tryz.zeroValue235
 t139:=Tryz.underlying236
 a139:=Tryz.isAgg236
 z139:=Tryz.sizeOf236
 v139:=Tryz.zeroValue236
 g3:=by kernel_rfl
 g4:=by kernel_rfl }
open Go.RowKit Go.Lib in
theorem Tryz.utf8_ValidString(s:ByteArray)(w:World)(hs:s.size<=9223372036854775807)(hT:Lib.Utf8Tabs (Tryz.lays196_ren.g 3) (Tryz.lays196_ren.g 4) w) :
  Calls Tryz.prog 182 #[.string s] w λe w'=>e=.returned (.bool (Lib.validD s.data.toList))/\Below w.heap.size w w':=Any.utf8_ValidString Tryz.lays196 s w hs hT
end Go.Proofs
namespace Go.Proofs.YtdgpbhdihhchgaaGreatDoor
open Go.RowKit
theorem r7a:(Tryz.prog.info? 21).map (λi=>(i.zero,i.size,i.bytes))=some (some (.int .i32 0),1,4):=by kernel_rfl
theorem k2a:(Tryz.prog.info? 3).map (λi=>(i.zero,i.size,i.bytes))=some (some (.int .i64 0),1,8):=by kernel_rfl
def k5a(w:World):Prop:=Lib.Utf8Tabs 1 2 w
theorem k5a.below{w w':World}(h:k5a w)(hb:Below w.heap.size w w'):k5a w':=Utf8Tabs_below h hb
theorem B9b(s:ByteArray)(w:World)(hs:s.size<=9223372036854775807)(hT:k5a w) :
  Calls Tryz.prog 182 #[.string s] w λe w'=>e=.returned (.bool (u0a s.data.toList))/\Below w.heap.size w w':=by
 have:=Tryz.utf8_ValidString s w hs hT
 rwa [n3b] at this
theorem L0b(s:ByteArray)(w:World)(hs:s.size<=140737488355328)(hT:k5a w) :
  Calls Tryz.prog 152 #[.string s] w λe w'=>e=.returned (.tuple #[.int .i64 (q7a s.data.toList),.int .i64 (F5a s.data.toList)])/\Below w.heap.size w w':=by
 have cV:=B9b s w (by omega) hT;by_cases ht:u0a s.data.toList=true
 ·have e1:q7a s.data.toList=X4a (j0a s.data.toList):=if_pos ht;have e2:F5a s.data.toList=0:=if_pos ht;obtain⟨U,hU⟩:∃U,U=X4a (j0a s.data.toList):=⟨_,rfl⟩;rw[ht] at cV;rw[e1,e2,<-hU];have HU:=hI hU;have CV:=hI cV;have HT:=hI ht;clear e1 e2 hU cV ht;go_enter Tryz.func152,Tryz.ntmps152;go_wp2_with fail;refine CV.out.mono ?_;rintro e w1 ⟨rfl,hb1⟩;clear CV;go_wp2;go_loopw [4,6] (λn _ wr=>∃(pos k:Nat),n=.int .i64 k/\wr.heap[w1.heap.size]? = some (.stringIter s pos)/\Below w.heap.size w wr/\Hid (k+X4a (j0a (s.data.toList.drop pos))=U)/\Hid (u0a (s.data.toList.drop pos)=true)/\k<=2*pos/\pos<=s.size) (λ_ _ wr=>s.size-wr.iterPos w1.heap.size)
  case atStart=>
   refine⟨0,0,rfl,World.iter_heap w1 s 0,hb1.alloc hb1.size _,?_,HT,by omega,by omega⟩;show _=_
   rw[HU.out,List.drop_zero,Nat.zero_add]
  case round=>
   obtain⟨pos,k,rfl,hit,hb,HE,HX,hk,hps⟩:=hrel;have hK:w1.heap.size<wr.heap.size:=(Array.getElem?_eq_some_iff.1 hit).1;have hb1s:=hb1.size;by_cases hp:pos<s.size
   ·have hnx:∀ty,(Instr.next (.pointer (some ⟨w1.heap.size,0,none⟩)) true ty).run Tryz.prog wr=_:=λty=>Lib.run_next_any_at wr w1.heap.size s pos ty hit hp
    obtain⟨n1,n2,n3⟩:=p7a s pos hp;obtain⟨m1,m2,m3⟩:=K0b s pos hp HX.out;obtain⟨R,hR⟩:∃R:Int,R=((Utf8.decode s pos).1:Int):=⟨_,rfl⟩;obtain⟨p',hp'⟩:∃p',p'=pos+(Utf8.decode s pos).2:=⟨_,rfl⟩;rw[<-hp'] at hnx n1 n3 m1 m2;rw[<-hR] at hnx m1 m3;have hit2:=Lib.iterAt_heap wr w1.heap.size s pos p' hit;have hb2:=Lib.below_iterAt hb (k:=w1.heap.size) hb1s s p';have hpp:pos<p':=by omega
    have HN:=hI m1;have HX':=hI m2;have HI:=hI hit2;obtain⟨r0,r1,r2⟩:=m3;have hit0:=hit;clear n1 n2 m1 m2 hR hp' hit hit2;by_cases hlt:R<65536
    ·go_wp2;go_roundw
     case rel=>
      refine⟨p',k+1,by go_num,HI.out,hb2,?_,HX',by omega,n3⟩;show _=_
      have:=HE.out;rw[HN.out,X4a,if_pos hlt] at this;omega
     case measure=>have:=HI.out;simp only[World.iterPos,hit0,this];omega
    ·go_wp2;go_roundw
     case rel=>
      refine⟨p',k+2,by go_num,HI.out,hb2,?_,HX',by omega,n3⟩;show _=_
      have:=HE.out;rw[HN.out,X4a,if_neg hlt] at this;omega
     case measure=>have:=HI.out;simp only[World.iterPos,hit0,this];omega
   ·have hnx:∀ty,(Instr.next (.pointer (some ⟨w1.heap.size,0,none⟩)) true ty).run Tryz.prog wr=_:=λty=>Lib.run_next_end_at wr w1.heap.size s pos ty hit hp
    have e:k=U:=by have:=HE.out;rw[p5a s pos hp] at this;exact this
    subst e;go_wp2;go_ret2;exact⟨rfl,hb⟩
 ·have ht':u0a s.data.toList=false:=by simpa using ht
  have e1:q7a s.data.toList=0:=if_neg ht;have e2:F5a s.data.toList=5:=if_neg ht;rw[ht'] at cV;rw[e1,e2];have CV:=hI cV;clear e1 e2 cV ht ht';go_enter Tryz.func152,Tryz.ntmps152;go_wp2_with fail;refine CV.out.mono ?_;rintro e w1 ⟨rfl,hb1⟩;go_wp2;go_ret2;exact⟨rfl,hb1⟩
inductive Fit:List Int->List Int->Prop
 | nil:Fit [] []
 | one {c x:Int} {p t:List Int} (h:c=63∨c=x) (hc:c≠42) (r:Fit p t):Fit (c::p) (x::t)
 | skip {p t:List Int} (r:Fit p t):Fit (42::p) t
 | take {x:Int} {p t:List Int} (r:Fit (42::p) t):Fit (42::p) (x::t)
theorem q5a{t:List Int}:Fit [] t↔t=[]:=by
 constructor
 ·intro h;cases h;rfl
 ·rintro rfl;exact .nil
theorem C8a{c:Int}{p t:List Int}(hc:c≠42):Fit (c::p) t↔∃x r,t=x::r/\(c=63∨c=x)/\Fit p r:=by
 constructor
 ·intro h;cases h with
  | one h _ r=>exact⟨_,_,rfl,h,r⟩
  | skip r=>exact absurd rfl hc
  | take r=>exact absurd rfl hc
 ·rintro⟨x,r,rfl,h1,h2⟩;exact .one h1 hc h2
theorem x0b{p t:List Int}:Fit (42::p) t↔∃a b,t=a++b/\Fit p b:=by
 constructor
 ·intro h;generalize hq:42::p=q at h
  induction h with
  | nil=>cases hq
  | one h hc r _=>injection hq with e;exact absurd e.symm hc
  | skip r _=>injection hq with _ e;subst e;exact⟨[],_,rfl,r⟩
  | take r ih=>obtain⟨a,b,rfl,hb⟩:=ih hq;exact⟨_::a,b,rfl,hb⟩
 ·rintro⟨a,b,rfl,hb⟩
  induction a with
  | nil=>exact .skip hb
  | cons x a ih=>exact .take ih
theorem r9a(t:List Int):Fit [42] t:=x0b.2 ⟨t,[],by simp,.nil⟩
theorem b3a{p q t:List Int}:Fit (p++q) t↔∃a b,t=a++b/\Fit p a/\Fit q b:=by
 induction p generalizing t with
 | nil=>
  constructor
  ·intro h;exact⟨[],t,rfl,.nil,h⟩
  ·rintro⟨a,b,rfl,ha,hb⟩;obtain rfl:=q5a.1 ha;exact hb
 | cons c p ih=>
  rw[List.cons_append];by_cases hc:c=42
  ·subst hc;rw[x0b];constructor
   ·rintro⟨a,b,rfl,hb⟩;obtain⟨d,e,rfl,hd,he⟩:=ih.1 hb;exact⟨a++d,e,by simp,x0b.2 ⟨a,d,rfl,hd⟩,he⟩
   ·rintro⟨a,b,rfl,ha,hb⟩;obtain⟨d,e,rfl,he⟩:=x0b.1 ha;exact⟨d,e++b,by simp,ih.2 ⟨e,b,rfl,he,hb⟩⟩
  ·rw[C8a hc];constructor
   ·rintro⟨x,r,rfl,h1,h2⟩;obtain⟨d,e,rfl,hd,he⟩:=ih.1 h2;exact⟨x::d,e,rfl,.one h1 hc hd,he⟩
   ·rintro⟨a,b,rfl,ha,hb⟩;obtain⟨x,r,rfl,h1,h2⟩:=(C8a hc).1 ha;exact⟨x,r++b,rfl,h1,ih.2 ⟨r,b,rfl,h2,hb⟩⟩
theorem Z6b{p t:List Int}{c x:Int}(hc:c≠42):Fit (p++[c]) (t++[x])↔(c=63∨c=x)/\Fit p t:=by
 rw[b3a];constructor
 ·rintro⟨a,b,he,ha,hb⟩;obtain⟨y,r,rfl,h1,h2⟩:=(C8a hc).1 hb;obtain rfl:=q5a.1 h2;obtain⟨rfl,h3⟩:=List.append_inj' he (by simp);injection h3 with h3
  subst h3;exact⟨h1,ha⟩
 ·rintro⟨h1,h2⟩;exact⟨t,[x],rfl,h2,.one h1 hc .nil⟩
theorem m4b{p:List Int}{c:Int}(hc:c≠42):¬Fit (p++[c]) []:=by rw[b3a];rintro⟨a,b,he,ha,hb⟩;obtain⟨y,r,rfl,_⟩:=(C8a hc).1 hb;simp at he
theorem o3b{p t:List Int}{x:Int}:Fit (p++[42]) (t++[x])↔Fit (p++[42]) t∨Fit p (t++[x]):=by
 constructor
 ·intro h;obtain⟨a,b,he,ha,_⟩:=b3a.1 h;rcases List.eq_nil_or_concat b with rfl | ⟨b',y,hb⟩
  ·rw[List.append_nil] at he;subst he;exact .inr ha
  ·rw[List.concat_eq_append] at hb;subst hb;rw[<-List.append_assoc] at he;obtain⟨rfl,_⟩:=List.append_inj' he (by simp);exact .inl (b3a.2 ⟨a,b',rfl,ha,r9a _⟩)
 ·rintro(h | h)
  ·obtain⟨a,b,rfl,ha,_⟩:=b3a.1 h;exact b3a.2 ⟨a,b++[x],by simp,ha,r9a _⟩
  ·exact b3a.2 ⟨t++[x],[],by simp,h,r9a _⟩
theorem s9a{p:List Int}:Fit (p++[42]) []↔Fit p []:=by
 rw[b3a];constructor
 ·rintro⟨a,b,he,ha,_⟩;obtain⟨rfl,rfl⟩:a=[]/\b=[]:=by simpa using he.symm
  exact ha
 ·intro h;exact⟨[],[],rfl,h,r9a _⟩
noncomputable def m2a (p:List Int) (k:Nat) (t:List Int):Bool:=@decide (Fit (p.take k) t) (Classical.propDecidable _)
theorem X2a(p:List Int)(k:Nat)(t:List Int):m2a p k t=true↔Fit (p.take k) t:=@decide_eq_true_iff _ (Classical.propDecidable _)
theorem M0b(p:List Int)(k:Nat)(t:List Int)(h:¬Fit (p.take k) t):m2a p k t=false:=by
 cases he:m2a p k t
 ·rfl
 ·exact absurd ((X2a _ _ _).1 he) h
theorem N0b(p t:List Int)(k:Nat)(h:p.length<=k):m2a p k t=true↔Fit p t:=by rw[X2a,List.take_of_length_le h]
theorem m2b(p:List Int):m2a p 0 []=true:=(X2a _ _ _).2 .nil
theorem n2b(p t:List Int)(x:Int):m2a p 0 (t++[x])=false:=M0b _ _ _ (by rw[List.take_zero,q5a];simp)
theorem M5a(p:List Int)(k:Nat)(h:k<p.length):p.take (k+1)=p.take k++[p.getD k 0]:=by rw[List.take_succ_eq_append_getElem h];simp[h]
theorem X7a(p:List Int)(k:Nat)(h:k<p.length)(hc:p.getD k 0=42):m2a p (k+1) []=m2a p k []:=by rw[Bool.eq_iff_iff,X2a,X2a,M5a p k h,hc,s9a]
theorem L6a(p:List Int)(k:Nat)(h:k<p.length)(hc:p.getD k 0≠42):m2a p (k+1) []=false:=M0b _ _ _ (by rw[M5a p k h];exact m4b hc)
theorem t9a(p t:List Int)(x:Int)(k:Nat)(h:k<p.length)(hc:p.getD k 0=42):m2a p (k+1) (t++[x])=(m2a p (k+1) t||m2a p k t||m2a p k (t++[x])):=by
 rw[Bool.eq_iff_iff,Bool.or_eq_true,Bool.or_eq_true,X2a,X2a,X2a,X2a,M5a p k h,hc,o3b];constructor
 ·rintro(h1 | h1)
  ·exact .inl (.inl h1)
  ·exact .inr h1
 ·rintro((h1 | h1) | h1)
  ·exact .inl h1
  ·exact .inl (b3a.2 ⟨t,[],by simp,h1,r9a _⟩)
  ·exact .inr h1
theorem O0b(p t:List Int)(x:Int)(k:Nat)(h:k<p.length)(hc:p.getD k 0≠42)(hx:p.getD k 0=63∨p.getD k 0=x):m2a p (k+1) (t++[x])=m2a p k t:=by rw[Bool.eq_iff_iff,X2a,X2a,M5a p k h,Z6b hc];exact⟨λh=>h.2,λh=>⟨hx,h⟩⟩
theorem P0b(p t:List Int)(x:Int)(k:Nat)(h:k<p.length)(hc:p.getD k 0≠42)(hx:¬(p.getD k 0=63∨p.getD k 0=x)):m2a p (k+1) (t++[x])=false:=M0b _ _ _ (by rw[M5a p k h,Z6b hc];exact λh=>hx h.1)
open Go.Lib
theorem j2c{r:Int}:D2a r<1114112↔r<1114112:=by unfold D2a;split<;>omega
theorem i8a(l:List UInt8):u0a (B0a l)=u0a l:=by
 unfold u0a;rw[W4a,List.all_map]
 congr 1
 funext r;simp only[Function.comp,j2c]
theorem H2a(l:List UInt8):(s0a l).length=(j0a l).length:=by simp[s0a]
def M0a(p t:List UInt8):Int:=if u0a p=false∨u0a t=false then 5 else if 64<(j0a p).length∨256<(j0a t).length then 3 else 0
theorem Y4a{p t:List UInt8}:M0a p t=0↔u0a p=true/\u0a t=true/\(j0a p).length<=64/\(j0a t).length<=256:=by unfold M0a;cases u0a p<;>cases u0a t<;>simp
theorem a0b{p:List UInt8}:M0a p []=0↔u0a p=true/\(j0a p).length<=64:=by
 rw[Y4a];constructor
 ·rintro⟨h1,_,h3,_⟩;exact⟨h1,h3⟩
 ·rintro⟨h1,h3⟩;exact⟨h1,rfl,h3,by simp[M3a]⟩
def p3b(n:Int):Bool:=decide (n<32)||n==92||n==47||n==58||n==42||n==63||n==34||n==60||n==62||n==124
def j8a(rs:List Int):Bool:=decide (1<=rs.length)&&decide (rs.length<=32)&&rs.all (λr=>!p3b r) && !(rs.getD (rs.length-1) 0==32) && !(rs.getD (rs.length-1) 0==46)
def nameOf(l:List UInt8):Bool:=u0a l&&j8a (j0a l)
theorem G5b{r:Int}(h:i4b r):∀b∈enc r,b.toNat<128->r=(b.toNat:Int):=by
 rcases h with h | h
 ·rw[T7b h];obtain⟨h0,h3,h4⟩:=h;intro b hb hlt;unfold encodeRune at hb;obtain⟨z,hz,rfl⟩:=List.mem_map.1 hb;have key:(z=r/\r<=127)∨(128<=z/\z<=255):=by
   by_cases c1:r<=127
   ·rw[encodeRuneZ_one h0 c1] at hz;exact .inl ⟨by simpa using hz,c1⟩
   ·right;revert hz;unfold encodeRuneZ;repeat' split
    all_goals (intro hz;simp only[List.mem_cons,List.not_mem_nil,or_false] at hz;omega)
  rw[Y6b] at hlt⊢;rcases key with⟨rfl,_⟩ | _<;>omega
 ·intro b hb hlt;unfold enc at hb;rw[if_pos (by omega)] at hb;obtain rfl:=List.mem_singleton.1 hb;rw[Y6b] at hlt;omega
theorem M6a{l:List UInt8}{b:UInt8}(hb:b∈l)(hlt:b.toNat<128):(b.toNat:Int)∈j0a l:=by rw[<-j6a l] at hb;obtain⟨r,hr,hbr⟩:=List.mem_flatMap.1 hb;rw[<-G5b (i6a l r hr) b hbr hlt];exact hr
theorem k2c{rs:List Int}(h:j8a rs=true):rs≠[]:=by rintro rfl;simp[j8a] at h
theorem a7b{l:List UInt8}(h:nameOf l=true):∀b∈l,b≠92:=by rintro b hb rfl;unfold nameOf j8a at h;simp only[Bool.and_eq_true] at h;have:=List.all_eq_true.1 h.2.1.1.2 92 (M6a hb (by decide));revert this;decide
theorem C9b{l:List UInt8}(h:nameOf l=true):l≠[]:=by rintro rfl;unfold nameOf at h;rw[M3a,Bool.and_eq_true] at h;exact k2c h.2 rfl
theorem s7a{l:List UInt8}(h:nameOf l=true):(j0a l).length<=32:=by unfold nameOf j8a at h;simp only[Bool.and_eq_true,decide_eq_true_eq] at h;exact h.2.1.1.1.2
theorem H5b(rs:List Int):(rs.flatMap enc).length<=4*rs.length:=by
 induction rs with
 | nil=>simp
 | cons r rs ih=>have:=P4c (r:=r);rw[List.flatMap_cons,List.length_append,List.length_cons];omega
theorem S0a{l:List UInt8}(h:nameOf l=true):l.length<=128:=by have h1:=s7a h;have h2:=H5b (j0a l);rw[j6a] at h2;omega
def splitB:List UInt8->List (List UInt8)
 | []=>[[]]
 | b::r=>if b=92 then []::splitB r else match splitB r with
  | []=>[[b]]
  | p::ps=>(b::p)::ps
def l2a:List (List UInt8)->List UInt8
 | []=>[]
 | [p]=>p
 | p::q::ps=>p++92::l2a (q::ps)
theorem y0b(l:List UInt8):splitB l≠[]:=by
 cases l with
 | nil=>simp[splitB]
 | cons b r=>
  unfold splitB;split
  ·simp
  ·split<;>simp
theorem n4b(r:List UInt8):splitB (92::r)=[]::splitB r:=by simp[splitB]
theorem u9a{b:UInt8}(h:b≠92)(r:List UInt8):∃p ps,splitB r=p::ps/\splitB (b::r)=(b::p)::ps:=by
 cases hs:splitB r with
 | nil=>exact absurd hs (y0b r)
 | cons p ps=>exact⟨p,ps,rfl,by rw[splitB,if_neg h,hs]⟩
theorem k6a{p:List UInt8}(h:∀b∈p,b≠92):splitB p=[p]:=by
 induction p with
 | nil=>rfl
 | cons b p ih=>obtain⟨q,qs,h1,h2⟩:=u9a (h b List.mem_cons_self) p;rw[ih λc hc=>h c (List.mem_cons_of_mem _ hc)] at h1;cases h1;exact h2
theorem k4a{p:List UInt8}(h:∀b∈p,b≠92)(r:List UInt8):splitB (p++92::r)=p::splitB r:=by
 induction p with
 | nil=>exact n4b r
 | cons b p ih=>obtain⟨q,qs,h1,h2⟩:=u9a (h b List.mem_cons_self) (p++92::r);rw[ih λc hc=>h c (List.mem_cons_of_mem _ hc)] at h1;cases h1;exact h2
theorem join_cons(p:List UInt8){ps:List (List UInt8)}(h:ps≠[]):l2a (p::ps)=p++92::l2a ps:=by
 cases ps with
 | nil=>exact absurd rfl h
 | cons q qs=>rfl
theorem V7b{ps:List (List UInt8)}(hne:ps≠[])(h:∀p∈ps,∀b∈p,b≠92):splitB (l2a ps)=ps:=by
 induction ps with
 | nil=>exact absurd rfl hne
 | cons p ps ih=>
  by_cases hp:ps=[]
  ·subst hp;exact k6a (h p List.mem_cons_self)
  ·rw[join_cons p hp,k4a (h p List.mem_cons_self),ih hp λq hq=>h q (List.mem_cons_of_mem _ hq)]
theorem t7a(l:List UInt8):l2a (splitB l)=l:=by
 induction l with
 | nil=>rfl
 | cons b r ih=>
  by_cases h:b=92
  ·subst h;rw[n4b,join_cons _ (y0b r),ih];rfl
  ·obtain⟨p,ps,h1,h2⟩:=u9a h r;rw[h2];rw[h1] at ih;by_cases hp:ps=[]
   ·subst hp;exact congrArg (b :: ·) ih
   ·rw[join_cons _ hp] at ih⊢;rw[List.cons_append,ih]
theorem I5b{ps:List (List UInt8)}(h:∀p∈ps,p≠[])(he:l2a ps=[]):ps=[]:=by
 cases ps with
 | nil=>rfl
 | cons p ps=>
  exfalso;have hp:=h p List.mem_cons_self;by_cases hn:ps=[]
  ·subst hn;exact hp he
  ·rw[join_cons p hn] at he;exact hp (List.append_eq_nil_iff.1 he).1
def partsOf(l:List UInt8):List (List UInt8):=if l=[] then [] else splitB l
def s1a(ps:List (List UInt8)):Int:=if ps.all nameOf=false then 2 else if 8<ps.length then 3 else 0
def h0a(l:List UInt8):Int:=s1a (partsOf l)
def m0a(l:List UInt8):List (List UInt8):=if h0a l=0 then partsOf l else []
def h4a(ps:List (List UInt8)):List UInt8:=if s1a ps=0 then l2a ps else []
theorem w1a{ps:List (List UInt8)}:s1a ps=0↔(∀p∈ps,nameOf p=true)/\ps.length<=8:=by
 unfold s1a;split
 ·rename_i h;constructor
  ·intro h0;exact absurd h0 (by decide)
  ·rintro⟨h1,_⟩;rw[List.all_eq_true.2 h1] at h;cases h
 ·rename_i h;have h':ps.all nameOf=true:=by simpa using h
  rw[List.all_eq_true] at h';split
  ·constructor
   ·intro h0;exact absurd h0 (by decide)
   ·rintro⟨_,h1⟩;omega
  ·exact⟨λ_=>⟨h',by omega⟩,λ_=>rfl⟩
theorem W7b{ps:List (List UInt8)}(h:∀p∈ps,nameOf p=true):partsOf (l2a ps)=ps:=by
 unfold partsOf;by_cases hn:ps=[]
 ·subst hn;rfl
 ·rw[if_neg λhe=>hn (I5b (λp hp=>C9b (h p hp)) he)];exact V7b hn λp hp=>a7b (h p hp)
theorem X7b(l:List UInt8):l2a (partsOf l)=l:=by
 unfold partsOf;split
 ·rename_i h;rw[h];rfl
 ·exact t7a l
theorem u7a{ps:List (List UInt8)}(h:s1a ps=0):h0a (l2a ps)=0/\m0a (l2a ps)=ps:=by
 have hp:=W7b (w1a.1 h).1;have he:h0a (l2a ps)=0:=by unfold h0a;rw[hp];exact h
 exact⟨he,by unfold m0a;rw[if_pos he,hp]⟩
theorem P4a{l:List UInt8}(h:h0a l=0):s1a (m0a l)=0/\l2a (m0a l)=l:=by unfold m0a;rw[if_pos h];exact⟨h,X7b l⟩
theorem D8a{l:List UInt8}(h:h0a l=0):(m0a l).length<=8:=by unfold m0a;rw[if_pos h];exact(w1a.1 h).2
def g3a(a b:List UInt8):Bool:=decide (h0a a=0/\h0a b=0/\(m0a b).length<(m0a a).length/\((m0a a).take (m0a b).length).map B0a=(m0a b).map B0a)
theorem Q4a{a b:List UInt8}:g3a a b=true↔h0a a=0/\h0a b=0/\(m0a b).length<(m0a a).length/\((m0a a).take (m0a b).length).map B0a=(m0a b).map B0a:=decide_eq_true_iff
theorem J5b{a b c:List UInt8}(h:g3a a b=true)(h2:g3a b c=true):g3a a c=true:=by obtain⟨h1,_,h3,h4⟩:=Q4a.1 h;obtain⟨_,h6,h7,h8⟩:=Q4a.1 h2;refine Q4a.2 ⟨h1,h6,by omega,?_⟩;rw[<-h8,List.map_take,List.map_take,<-h4,List.map_take,List.take_take,Nat.min_eq_left (by omega)]
def F0a(l:List UInt8):Int:=if h0a l≠0 then h0a l else if l=[] then 2 else 0
def n2a(l:List UInt8):List UInt8:=if F0a l=0 then l2a (m0a l).dropLast else []
def lastOf(l:List UInt8):List UInt8:=if F0a l=0 then (m0a l).getLast?.getD [] else []
theorem a2a{l:List UInt8}:F0a l=0↔h0a l=0/\l≠[]:=by
 unfold F0a;split
 ·rename_i h;exact⟨λh0=>absurd h0 h,λh0=>absurd h0.1 h⟩
 ·rename_i h;have h':h0a l=0:=by simpa using h
  split
  ·rename_i h2;exact⟨λh0=>absurd h0 (by decide),λh0=>absurd h2 h0.2⟩
  ·rename_i h2;exact⟨λ_=>⟨h',h2⟩,λ_=>rfl⟩
theorem l4a{l:List UInt8}(h:h0a l=0):m0a l=[]↔l=[]:=by
 constructor
 ·intro h2;have:=(P4a h).2;rw[h2] at this;exact this.symm
 ·rintro rfl;rfl
theorem o4b{l:List UInt8}(h:F0a l=0) :
  m0a l=m0a (n2a l)++[lastOf l]/\h0a (n2a l)=0/\nameOf (lastOf l)=true/\g3a l (n2a l)=true/\(∀t,g3a t l=true->g3a t (n2a l)=true)/\s1a (m0a (n2a l)++[lastOf l])=0/\l2a (m0a (n2a l)++[lastOf l])=l:=by
 obtain⟨h1,h2⟩:=a2a.1 h;have hne:m0a l≠[]:=λhe=>h2 ((l4a h1).1 he)
 obtain⟨h3,h4⟩:=P4a h1;obtain⟨h5,h6⟩:=w1a.1 h3;have e0:(m0a l).dropLast++[lastOf l]=m0a l:=by unfold lastOf;rw[if_pos h,List.getLast?_eq_some_getLast hne];exact List.dropLast_concat_getLast hne
 have hd:s1a (m0a l).dropLast=0:=w1a.2 ⟨λp hp=>h5 p (List.dropLast_subset _ hp),by rw[List.length_dropLast];omega⟩;obtain⟨h7,h8⟩:=u7a hd;have ed:n2a l=l2a (m0a l).dropLast:=if_pos h;rw[ed,h8,e0];have hu:g3a l (l2a (m0a l).dropLast)=true:=by
  refine Q4a.2 ⟨h1,h7,?_,?_⟩
  ·rw[h8,List.length_dropLast];have:=List.length_pos_iff.2 hne;omega
  ·rw[h8,List.length_dropLast,<-List.dropLast_eq_take]
 exact⟨rfl,h7,h5 _ (by rw[<-e0];simp),hu,λt ht=>J5b ht hu,h3,h4⟩
def v9a(l:List UInt8):List UInt8:=(splitB l).headD []
def w9a(l:List UInt8):List UInt8:=l2a (splitB l).tail
def Q0b(l:List UInt8):Bool:=!(splitB l).tail.isEmpty
def E8a(more:Bool)(l:List UInt8):List (List UInt8):=if more then splitB l else []
theorem p4b{l:List UInt8}(h:∀b∈l,b≠92):v9a l=l/\w9a l=[]/\Q0b l=false:=by unfold v9a w9a Q0b;rw[k6a h];exact⟨rfl,rfl,rfl⟩
theorem b7b{p r:List UInt8}(h:∀b∈p,b≠92):v9a (p++92::r)=p/\w9a (p++92::r)=r/\Q0b (p++92::r)=true:=by
 unfold v9a w9a Q0b;rw[k4a h];refine⟨rfl,t7a r,?_⟩;cases hs:splitB r with
 | nil=>exact absurd hs (y0b r)
 | cons q qs=>rfl
theorem q4b(l:List UInt8):splitB l=v9a l::E8a (Q0b l) (w9a l):=by
 by_cases h:∀b∈l,b≠92
 ·obtain⟨h1,h2,h3⟩:=p4b h;rw[h1,h3,k6a h];rfl
 ·have key:∀l:List UInt8,(¬∀b∈l,b≠92)->∃p r,l=p++92::r/\∀b∈p,b≠92:=by
   intro l
   induction l with
   | nil=>intro h;exact absurd (λb hb=>by cases hb) h
   | cons b l ih=>
    intro h;by_cases hb:b=92
    ·exact⟨[],l,by rw[hb];rfl,λc hc=>by cases hc⟩
    ·obtain⟨p,r,rfl,hp⟩:=ih λh2=>h λc hc=>by
      rcases List.mem_cons.1 hc with rfl | hc
      ·exact hb
      ·exact h2 c hc
     refine⟨b::p,r,rfl,λc hc=>?_⟩;rcases List.mem_cons.1 hc with rfl | hc
     ·exact hb
     ·exact hp c hc
  obtain⟨p,r,rfl,hp⟩:=key l h;obtain⟨h1,h2,h3⟩:=b7b (r:=r) hp;rw[h1,h2,h3,k4a hp];rfl
theorem Y7b(l:List UInt8):partsOf l=E8a (decide (l≠[])) l:=by unfold partsOf E8a;by_cases h:l=[]<;>simp[h]
theorem g4c{l:List UInt8}(h:l≠[]):(w9a l).length<l.length:=by
 have h1:=t7a l;unfold w9a;obtain⟨p,ps,hs⟩:∃p ps,splitB l=p::ps:=by
  cases hs:splitB l with
  | nil=>exact absurd hs (y0b l)
  | cons p ps=>exact⟨p,ps,rfl⟩
 rw[hs] at h1⊢;show(l2a ps).length<_
 by_cases hp:ps=[]
 ·subst hp;exact List.length_pos_iff.2 h
 ·rw[<-h1,join_cons p hp];simp;omega
theorem h4c(l:List UInt8):(v9a l).length<=l.length:=by
 have h1:=t7a l;rw[q4b l] at h1;by_cases hp:E8a (Q0b l) (w9a l)=[]
 ·rw[hp] at h1;have h1:v9a l=l:=h1;rw[h1];exact Nat.le_refl _
 ·rw[join_cons _ hp] at h1;have:=congrArg List.length h1;simp at this;omega
theorem N6a{ps:List (List UInt8)}{p:List UInt8}(hp:p∈ps)(h:nameOf p=false):s1a ps=2:=by unfold s1a;rw[if_pos];rw[List.all_eq_false];exact⟨p,hp,by simp[h]⟩
theorem O6a{ps:List (List UInt8)}(h:∀p∈ps,nameOf p=true):s1a ps=if 8<ps.length then 3 else 0:=by unfold s1a;rw[if_neg (by simp[List.all_eq_true.2 h])]
theorem Z4a{l:List UInt8}(h:h0a l≠0):m0a l=[]:=if_neg h
theorem v7a(rs:List Int):j8a rs=(decide (1<=rs.length)&&decide (rs.length<=32)&&rs.all (λr=>!p3b r)&&(!(rs.getD (rs.length-1) 0==32) && !(rs.getD (rs.length-1) 0==46))):=by unfold j8a;simp only[Bool.and_assoc]
theorem extract_mk(s:ByteArray)(a b:Nat):s.extract a b=⟨((s.data.toList.drop a).take (b-a)).toArray⟩:=by apply ByteArray.ext;rw[<-Lib.extract_eq]
def w7a(w:World)(l:List UInt8)(e:Ending)(w':World):Prop:=e=.returned (.tuple #[.string ⟨(v9a l).toArray⟩,.string ⟨(w9a l).toArray⟩,.bool (Q0b l)])/\Below w.heap.size w w'
theorem l2c(s:ByteArray)(w:World)(hs:s.size<=140737488355328) :
  Calls Tryz.prog 137 #[.string s,.string ⟨#[92]⟩] w (w7a w s.data.toList):=by
 have c1:=Tryz.stringslite_Index_one s 92 w;have hge:=Lib.indexByte_ge s.data.toList 92;have hq:∀e w',(e=.returned (.tuple #[.string ⟨(v9a s.data.toList).toArray⟩,.string ⟨(w9a s.data.toList).toArray⟩,.bool (Q0b s.data.toList)])/\Below w.heap.size w w')->w7a w s.data.toList e w':=λ_ _ h=>h
 by_cases h:Lib.indexByte s.data.toList 92=-1
 ·have hn:∀b∈s.data.toList,b≠92:=by rintro b hb rfl;obtain⟨k,hk⟩:=List.getElem?_of_mem hb;exact Lib.indexByte_none h k hk
  obtain⟨h1,h2,h3⟩:=p4b hn;rw[h1,h2,h3,show(⟨s.data.toList.toArray⟩:ByteArray)=s from rfl] at hq;rw[h] at c1;have C1:=hI c1;have HQ:=hI hq;clear c1 hq h hn h1 h2 h3 hge;go_enter Tryz.func137,Tryz.ntmps137;go_wp2_with fail;refine C1.out.mono ?_;rintro e w1 ⟨rfl,rfl⟩;go_wp2;go_ret3;exact HQ.out _ _ ⟨rfl,Below.refl _ _⟩
 ·obtain⟨o,ho⟩:=Int.eq_ofNat_of_zero_le (show 0<=Lib.indexByte s.data.toList 92 by omega);obtain⟨g1,g2⟩:=Lib.indexByte_some ho;have hol:o<s.data.toList.length:=(List.getElem?_eq_some_iff.1 g1).1;have hos:o<s.size:=by rw[Lib.size_eq];exact hol
  have hcut:s.data.toList=s.data.toList.take o++92::s.data.toList.drop (o+1):=by have h1:s.data.toList[o]=92:=(List.getElem?_eq_some_iff.1 g1).2;rw[<-h1,<-List.drop_eq_getElem_cons hol,List.take_append_drop]
  have hb:∀b∈s.data.toList.take o,b≠92:=by
   rintro b hb rfl;obtain⟨k,hk⟩:=List.getElem?_of_mem hb;rw[List.getElem?_take] at hk;split at hk
   ·exact g2 k (by assumption) hk
   ·cases hk
  obtain⟨h1,h2,h3⟩:=b7b (r:=s.data.toList.drop (o+1)) hb;rw[<-hcut] at h1 h2 h3;have e1:=extract_mk s 0 o;have e2:=extract_mk s (o+1) s.size;rw[List.drop_zero,Nat.sub_zero,<-h1] at e1;rw[List.take_of_length_le (by rw[List.length_drop,<-Lib.size_eq];omega),<-h2] at e2;rw[<-e1,<-e2,h3] at hq;rw[ho] at c1;have C1:=hI c1;have HQ:=hI hq;have hw:Below w.heap.size w w:=Below.refl _ _;clear c1 hq h g1 g2 hol hcut hb h1 h2 h3 e1 e2 hge ho;go_enter Tryz.func137,Tryz.ntmps137;go_wp2_with fail;refine C1.out.mono ?_;rintro e w1 ⟨rfl,rfl⟩;go_wp2;go_quiet (fail);go_wp2;go_ret3;exact HQ.out _ _ ⟨rfl,E0a _ _⟩
theorem i4c(s:ByteArray)(w:World)(hs:s.size<=140737488355328) :
  Calls Tryz.prog 88 #[.string s,.string ⟨#[92]⟩] w (w7a w s.data.toList):=by
 have c1:=l2c s w hs;have hq:∀e w',(e=.returned (.tuple #[.string ⟨(v9a s.data.toList).toArray⟩,.string ⟨(w9a s.data.toList).toArray⟩,.bool (Q0b s.data.toList)])/\Below w.heap.size w w')->w7a w s.data.toList e w':=λ_ _ h=>h
 unfold w7a at c1;obtain⟨X,hX⟩:∃X:ByteArray,X=⟨(v9a s.data.toList).toArray⟩:=⟨_,rfl⟩;obtain⟨Y,hY⟩:∃X:ByteArray,X=⟨(w9a s.data.toList).toArray⟩:=⟨_,rfl⟩;obtain⟨b,hb⟩:∃b,b=Q0b s.data.toList:=⟨_,rfl⟩;rw[<-hX,<-hY,<-hb] at c1 hq;have C1:=hI c1;have HQ:=hI hq;clear c1 hq hX hY hb;go_enter Tryz.func88,Tryz.ntmps88;go_wp2_with fail;refine C1.out.mono ?_;rintro e w1 ⟨rfl,hb1⟩;go_wp2;go_ret3;exact HQ.out _ _ ⟨rfl,hb1⟩
theorem o2b(s:ByteArray)(w:World)(hs:s.size<=140737488355328) :
  Calls Tryz.prog 90 #[.string s] w λe w'=>e=.returned (.string s)/\Below w.heap.size w w':=by
 have c1:=hI (Tryz.stringslite_Clone s w (by omega));go_enter Tryz.func90,Tryz.ntmps90;go_wp2_with fail;refine c1.out.mono ?_;rintro e w1 ⟨rfl,hb1⟩;go_wp2;go_ret;exact⟨rfl,hb1⟩
theorem q3b(l:List UInt8):(F5a l==0)=u0a l:=by unfold F5a;cases u0a l<;>rfl
theorem K5b(s:ByteArray)(w:World)(hs:s.size<=140737488355328)(hT:k5a w) :
  Calls Tryz.prog 139 #[.string s] w λe w'=>e=.returned (.bool (u0a s.data.toList))/\Below w.heap.size w w':=by
 have c1:=L0b s w hs hT;rw[<-q3b];obtain⟨U,hU⟩:∃U,U=q7a s.data.toList:=⟨_,rfl⟩;obtain⟨E,hE⟩:∃E,E=F5a s.data.toList:=⟨_,rfl⟩;rw[<-hU,<-hE] at c1;rw[<-hE];have C1:=hI c1;clear c1 hU hE;go_enter Tryz.func139,Tryz.ntmps139;go_wp2_with fail;refine C1.out.mono ?_;rintro e w1 ⟨rfl,hb1⟩;go_wp2;go_ret;exact⟨rfl,hb1⟩
theorem m2c(r:Int):p3b r=((r==92)||(r==47)||(r==58)||(r==42)||(r==63)||(r==34)||(r==60)||(r==62)||(r==124)||decide (r<32)):=by unfold p3b;rw[Bool.eq_iff_iff];simp only[Bool.or_eq_true,beq_iff_eq,decide_eq_true_eq];omega
theorem L5b(r:Int)(w:World) :
  Calls Tryz.prog 140 #[.int .i32 r] w λe w'=>e=.returned (.bool (p3b r))/\w=w':=by
 rw[m2c];by_cases h:r=92∨r=47∨r=58∨r=42∨r=63∨r=34∨r=60∨r=62∨r=124
 ·rcases h with rfl | rfl | rfl | rfl | rfl | rfl | rfl | rfl | rfl
  all_goals
   go_enter Tryz.func140,Tryz.ntmps140;go_wp2;go_ret;exact⟨rfl,rfl⟩
 ·have h1:(r==92)=false:=by simp;omega
  have h2:(r==47)=false:=by simp;omega
  have h3:(r==58)=false:=by simp;omega
  have h4:(r==42)=false:=by simp;omega
  have h5:(r==63)=false:=by simp;omega
  have h6:(r==34)=false:=by simp;omega
  have h7:(r==60)=false:=by simp;omega
  have h8:(r==62)=false:=by simp;omega
  have h9:(r==124)=false:=by simp;omega
  rw[h1,h2,h3,h4,h5,h6,h7,h8,h9];clear h;go_enter Tryz.func140,Tryz.ntmps140;go_wp2;go_ret;exact⟨rfl,rfl⟩
theorem W1b(w:World)(base:Nat)(v:Value)(xs:List Int)(r:Int)(hr:R2a r)(h:v1a .u8 5 w base v xs)(hl:xs.length+4<=140737488355328)(hb:base<=w.heap.size) :
  Calls Tryz.prog 143 #[v,.int .i32 r] w λe w'=>∃v',e=.returned v'/\v1a .u8 5 w' base v' (xs++Lib.encodeRuneZ r)/\i2b w w' v:=by
 obtain⟨r0,r1,_⟩:=hr;refine(Tryz.utf8_AppendRune_plain base v xs.length (xs.map (Value.int .u8)) r (by omega) (by omega) w h hl hb).mono ?_;rintro e w' ⟨v',rfl,ho,hg⟩;refine⟨v',rfl,?_,hg⟩;unfold v1a;rw[List.length_append,List.map_append];unfold Lib.runeCells at ho
 rwa [List.length_map] at ho
theorem M5b(s:ByteArray):Lib.decodeGo s=if s.size=0 then (65533,0) else Lib.decodeL s.data.toList:=by
 unfold Lib.decodeGo;split
 ·rfl
 ·have:=Lib.decodeL_drop s 0;rw[List.drop_zero] at this;rw[this]
theorem D9b(s:ByteArray)(w:World)(hT:k5a w) :
  Calls Tryz.prog 174 #[.string s] w λe w'=>e=.returned (.bool (((Lib.decodeGo s).2:Int)==1))/\Below w.heap.size w w':=by
 have c1:=Tryz.utf8_DecodeRuneInString s w hT;obtain⟨r,hr⟩:∃r,r=(Lib.decodeGo s).1:=⟨_,rfl⟩;obtain⟨z,hz⟩:∃z,z=(Lib.decodeGo s).2:=⟨_,rfl⟩;rw[<-hr,<-hz] at c1;rw[<-hz];have C1:=hI c1;clear hr hz c1;go_enter Tryz.func174,Tryz.ntmps174;go_wp2_with fail;refine C1.out.mono ?_;rintro e w' ⟨rfl,hb⟩;go_wp2;go_ret;exact⟨rfl,hb⟩
def x9a(w:World)(l:List UInt8)(e:Ending)(w':World):Prop:=∃v,e=.returned v/\v1a .i32 21 w' w.heap.size v (s0a l)/\Below w.heap.size w w'
theorem n2c(s:ByteArray)(pos:Nat)(h:pos<s.size):(s.data.toList.drop pos).getD 0 0=s[pos]'h:=by have e:s.data[pos]? = some (s[pos]'h):=Array.getElem?_eq_getElem h;rw[List.getD_eq_getElem?_getD,List.getElem?_drop,Nat.add_zero,Array.getElem?_toList,e];rfl
theorem extract_drop(s:ByteArray)(pos:Nat):(s.extract pos s.size).data.toList=s.data.toList.drop pos:=by rw[Lib.extract_eq];exact List.take_of_length_le (by rw[List.length_drop,<-Lib.size_eq];exact Nat.le_refl _)
theorem E9b(s:ByteArray)(pos:Nat)(h:pos<s.size) :
  ((Utf8.decode s pos).1=65533/\(Utf8.decode s pos).2=1/\S3a (s.data.toList.drop pos)=1114112+((s[pos]'h).toNat:Int))∨
  (¬((Utf8.decode s pos).1=65533/\(Utf8.decode s pos).2=1)/\S3a (s.data.toList.drop pos)=((Utf8.decode s pos).1:Int)/\R2a ((Utf8.decode s pos).1:Int)):=by
 have hl:s.data.toList.drop pos≠[]:=by intro e;have:=congrArg List.length e;rw[List.length_drop,<-Lib.size_eq] at this;simp at this;omega
 rcases O4a _ hl with⟨h0,h1,h2⟩ | ⟨h0,h1,h2,_⟩
 ·rw[Lib.decodeL_drop] at h0 h1 h2;exact .inr ⟨h0,h1,h2⟩
 ·rw[Lib.decodeL_drop] at h0 h1;rw[n2c s pos h] at h2;exact .inl ⟨h0,h1,h2⟩
theorem y9a(s:ByteArray)(w:World)(hs:s.size<=4398046511104)(hT:k5a w) :
  Calls Tryz.prog 142 #[.string s] w (x9a w s.data.toList):=by
 have hq:∀e w',(∃v,e=.returned v/\v1a .i32 21 w' w.heap.size v (s0a s.data.toList)/\Below w.heap.size w w')->x9a w s.data.toList e w':=λ_ _ h=>h
 have HQ:=hI hq;have hb4:∀z:Nat,z<=4*s.size->z*4<=281474976710656:=λz hz=>by omega
 clear hq hb4;go_enter Tryz.func142,Tryz.ntmps142;go_wp2_with(at_make;refine A6a rfl .i32 179 21 4 Tryz.underlying179 r7a _ _ rfl _ s.size rfl rfl rfl (by omega) (by rw[A8a];omega) ?_;intro w1 ho1 hb1);have hs1:=hb1.size;go_loopw [3,4,5] (λv _ _ wr=>∃(pos:Nat) (zs:List Int),Hid (v1a .i32 21 wr w.heap.size v zs)/\wr.heap[w1.heap.size]? = some (.stringIter s pos)/\Below w.heap.size w wr/\Hid (zs++(j0a (s.data.toList.drop pos)).map D2a=s0a s.data.toList)/\zs.length<=pos/\pos<=s.size) (λ_ _ _ wr=>s.size-wr.iterPos w1.heap.size)
 case atStart=>
  refine⟨0,[],ho1.out.own.alloc _,World.iter_heap w1 s 0,hb1.alloc (by omega) _,?_,by simp,by omega⟩;show _=_
  rw[List.drop_zero,List.nil_append];rfl
 case round=>
  obtain⟨pos,zs,HO,hit,hb,HE,hzl,hps⟩:=hrel;have hK:w1.heap.size<wr.heap.size:=(Array.getElem?_eq_some_iff.1 hit).1;by_cases hp:pos<s.size
  ·have hnx:∀ty,(Instr.next (.pointer (some ⟨w1.heap.size,0,none⟩)) true ty).run Tryz.prog wr=_:=λty=>Lib.run_next_any_at wr w1.heap.size s pos ty hit hp
   obtain⟨n1,n2,n3⟩:=p7a s pos hp;have hh:=E9b s pos hp;obtain⟨R,hR⟩:∃R:Int,R=((Utf8.decode s pos).1:Int):=⟨_,rfl⟩;obtain⟨p',hp'⟩:∃p',p'=pos+(Utf8.decode s pos).2:=⟨_,rfl⟩;rw[<-hp'] at hnx n1 n3;rw[<-hR] at hnx hh;have hit2:=Lib.iterAt_heap wr w1.heap.size s pos p' hit;have hb3:=Lib.below_iterAt hb (k:=w1.heap.size) (by omega) s p';have HO3:Hid (v1a .i32 21 (wr.iterAt w1.heap.size s p') w.heap.size _ zs):=HO.out.iterAt hit p';have hs3:=Lib.iterAt_size wr w1.heap.size s p';obtain⟨w3,hw3⟩:∃w3,w3=wr.iterAt w1.heap.size s p':=⟨_,rfl⟩;rw[<-hw3] at hnx hit2 hb3 HO3 hs3;have hpp:pos<p':=by omega
   obtain⟨h,hh0⟩:∃h,h=S3a (s.data.toList.drop pos):=⟨_,rfl⟩;rw[<-hh0] at hh n1;have HN:Hid (zs++[D2a h]++(j0a (s.data.toList.drop p')).map D2a=s0a s.data.toList):=by
    show _=_
    rw[<-HE.out,n1];simp
   have HI0:=hI hit;have HI:=hI hit2;have HS3:=hI hs3;have hTr:k5a w3:=(hT.below hb3);have hce:=D9b (s.extract pos s.size) w3 hTr;rw[M5b,if_neg (by rw[ByteArray.size_extract];omega),extract_drop,Lib.decodeL_drop] at hce;obtain⟨Z,hZ⟩:∃Z,Z=(Utf8.decode s pos).2:=⟨_,rfl⟩;rw[<-hZ] at hce hh;have hR':R=65533↔(Utf8.decode s pos).1=65533:=by rw[hR];omega
   rw[<-hR'] at hh;have hbyte:0<=((s[pos]'hp).toNat:Int)/\((s[pos]'hp).toNat:Int)<=255:=by have:=(s[pos]'hp).toNat_lt;omega
   by_cases hA:65<=R/\R<=90
   ·obtain⟨hA1,hA2⟩:=hA;have HF:Hid (D2a h=R+32):=by
     rcases hh with⟨e,_,_⟩ | ⟨_,e,_⟩
     ·omega
     ·show _=_;rw[e];exact if_pos ⟨hA1,hA2⟩
    clear hh hce hbyte;clear hit hit2 hw3 hs3 hR hp' hh0 n1 n2 hR' hZ HE hTr;go_wp2_with(at_builtin;refine c1a rfl (.tmp 38) (.tmp 40) .i32 179 21 4 Tryz.underlying179 r7a rfl w.heap.size _ zs [R+32] _ rfl 1 1 rfl rfl rfl HO3.out (by omega) (by omega) (by have:=HS3.out;have:=hpp;omega) ?_;intro v5 w5 ho5 hg5);have hb5:=hg5.out.below HO3.out (by have:=HS3.out;have:=hpp;omega);have HI5:=hI (hg5.out.iter HO3.out HI.out);clear hg5;go_roundw
    case rel=>
     refine⟨p',_,ho5,HI5.out,hb3.trans hb5,?_,by simp;omega,n3⟩;show _=_
     rw[<-HN.out];have ef:=HF.out;rw[ef]
    case measure=>have h1:=HI5.out;have h0:=HI0.out;simp only[World.iterPos,h0,h1];omega
   by_cases hB:R=65533
   ·have hBb:(R==65533)=true:=by rw[beq_iff_eq];exact hB
    by_cases hC:Z=1
    ·have HF:Hid (D2a h=1114112+((s[pos]'hp).toNat:Int)):=by
      rcases hh with⟨_,_,e⟩ | ⟨e,_,_⟩
      ·show _=_;rw[e];exact if_neg (by omega)
      ·exact absurd ⟨hB,hC⟩ e
     subst hC;have CE:=hI hce;subst hB;clear hh hce hBb hA;clear hit hit2 hw3 hs3 hR hp' hh0 n1 n2 hR' hZ HE hTr;go_wp2_with fail;refine CE.out.mono ?_;rintro e w4 ⟨rfl,hb4⟩;have HO4:=hI (HO3.out.below hb4);have HI4:Hid (w4.heap[w1.heap.size]? = some (.stringIter s p')):=(hb4.block _ (by have:=HS3.out;omega)).trans HI.out;go_wp2_with(at_builtin;refine c1a rfl (.tmp 38) (.tmp 40) .i32 179 21 4 Tryz.underlying179 r7a rfl w.heap.size _ zs [1114112+((s[pos]'hp).toNat:Int)] _ rfl 1 1 rfl rfl rfl HO4.out (by omega) (by omega) (by have:=HS3.out;have:=hb4.size;omega) ?_;intro v5 w5 ho5 hg5);have hb5:=hg5.out.below HO4.out (by have:=HS3.out;have:=hb4.size;omega);have HI5:=hI (hg5.out.iter HO4.out HI4.out);clear hg5;go_roundw
     case rel=>
      refine⟨p',_,ho5,HI5.out,(hb3.trans (hb4.mono hb3.size)).trans hb5,?_,by simp;omega,n3⟩;show _=_
      rw[<-HN.out];have ef:=HF.out;rw[ef]
     case measure=>have h1:=HI5.out;have h0:=HI0.out;simp only[World.iterPos,h0,h1];omega
    ·have HF:Hid (D2a h=R):=by
      rcases hh with⟨_,e,_⟩ | ⟨_,e,_⟩
      ·exact absurd e hC
      ·show _=_;rw[e];exact if_neg hA
     rw[show((Z:Int)==1)=false by rw[beq_eq_false_iff_ne];omega] at hce;have CE:=hI hce;subst hB;clear hh hce hBb hA hC hbyte;clear hit hit2 hw3 hs3 hR hp' hh0 n1 n2 hR' hZ HE hTr;go_wp2_with fail;refine CE.out.mono ?_;rintro e w4 ⟨rfl,hb4⟩;have HO4:=hI (HO3.out.below hb4);have HI4:Hid (w4.heap[w1.heap.size]? = some (.stringIter s p')):=(hb4.block _ (by have:=HS3.out;omega)).trans HI.out;go_wp2_with(at_builtin;refine c1a rfl (.tmp 38) (.tmp 40) .i32 179 21 4 Tryz.underlying179 r7a rfl w.heap.size _ zs [65533] _ rfl 1 1 rfl rfl rfl HO4.out (by omega) (by omega) (by have:=HS3.out;have:=hb4.size;omega) ?_;intro v5 w5 ho5 hg5);have hb5:=hg5.out.below HO4.out (by have:=HS3.out;have:=hb4.size;omega);have HI5:=hI (hg5.out.iter HO4.out HI4.out);clear hg5;go_roundw
     case rel=>
      refine⟨p',_,ho5,HI5.out,(hb3.trans (hb4.mono hb3.size)).trans hb5,?_,by simp;omega,n3⟩;show _=_
      rw[<-HN.out];have ef:=HF.out;rw[ef]
     case measure=>have h1:=HI5.out;have h0:=HI0.out;simp only[World.iterPos,h0,h1];omega
   have HF:Hid (D2a h=R):=by
    rcases hh with⟨e,_,_⟩ | ⟨_,e,_⟩
    ·exact absurd e hB
    ·show _=_;rw[e];exact if_neg hA
   have hBb:(R==65533)=false:=by rw[beq_eq_false_iff_ne];exact hB
   have hRr:0<=R/\R<=1114111:=by
    rcases hh with⟨e,_,_⟩ | ⟨_,_,e⟩
    ·exact absurd e hB
    ·exact⟨e.1,e.2.1⟩
   obtain⟨hR0,hR1⟩:=hRr;clear hh hce hbyte;clear hit hit2 hw3 hs3 hR hp' hh0 n1 n2 hR' hZ HE hTr;by_cases hA1:65<=R
   ·have hA2:90<R:=by omega
    clear hA;go_wp2_with(at_builtin;refine c1a rfl (.tmp 38) (.tmp 40) .i32 179 21 4 Tryz.underlying179 r7a rfl w.heap.size _ zs [R] _ rfl 1 1 rfl rfl rfl HO3.out (by omega) (by omega) (by have:=HS3.out;have:=hpp;omega) ?_;intro v5 w5 ho5 hg5);have hb5:=hg5.out.below HO3.out (by have:=HS3.out;have:=hpp;omega);have HI5:=hI (hg5.out.iter HO3.out HI.out);clear hg5;go_roundw
    case rel=>
     refine⟨p',_,ho5,HI5.out,hb3.trans hb5,?_,by simp;omega,n3⟩;show _=_
     rw[<-HN.out];have ef:=HF.out;rw[ef]
    case measure=>have h1:=HI5.out;have h0:=HI0.out;simp only[World.iterPos,h0,h1];omega
   ·clear hA;go_wp2_with(at_builtin;refine c1a rfl (.tmp 38) (.tmp 40) .i32 179 21 4 Tryz.underlying179 r7a rfl w.heap.size _ zs [R] _ rfl 1 1 rfl rfl rfl HO3.out (by omega) (by omega) (by have:=HS3.out;have:=hpp;omega) ?_;intro v5 w5 ho5 hg5);have hb5:=hg5.out.below HO3.out (by have:=HS3.out;have:=hpp;omega);have HI5:=hI (hg5.out.iter HO3.out HI.out);clear hg5;go_roundw
    case rel=>
     refine⟨p',_,ho5,HI5.out,hb3.trans hb5,?_,by simp;omega,n3⟩;show _=_
     rw[<-HN.out];have ef:=HF.out;rw[ef]
    case measure=>have h1:=HI5.out;have h0:=HI0.out;simp only[World.iterPos,h0,h1];omega
  ·have hnx:∀ty,(Instr.next (.pointer (some ⟨w1.heap.size,0,none⟩)) true ty).run Tryz.prog wr=_:=λty=>Lib.run_next_end_at wr w1.heap.size s pos ty hit hp
   have HEE:Hid (zs=s0a s.data.toList):=by have:=HE.out;rw[p5a s pos hp,List.map_nil,List.append_nil] at this;exact this
   clear HE;go_wp2;go_ret;refine HQ.out _ _ ⟨_,rfl,?_,hb⟩;rw[<-HEE.out];exact HO.out
def encZ(r:Int):List Int:=if 1114112<=r then [r-1114112] else Lib.encodeRuneZ r
theorem j4c(r:Int):(encZ r).length<=4:=by
 unfold encZ;split
 ·simp
 ·exact(Lib.encodeRuneZ_length r).2
theorem Z7b(rs:List Int):strOfNums (rs.flatMap encZ)=⟨(rs.flatMap enc).toArray⟩:=by
 unfold strOfNums;have e:(rs.flatMap encZ).map (λn=>UInt8.ofNat n.toNat)=rs.flatMap enc:=by
  induction rs with
  | nil=>rfl
  | cons r rs ih=>
   rw[List.flatMap_cons,List.map_append,ih,List.flatMap_cons]
   congr 1
   unfold encZ enc;split<;>rfl
 rw[e]
def z0b(w:World)(l:List UInt8)(e:Ending)(w':World):Prop:=e=.returned (.string ⟨(B0a l).toArray⟩)/\Below w.heap.size w w'
theorem F8a(s:ByteArray)(w:World)(hs:s.size<=4398046511104)(hT:k5a w) :
  Calls Tryz.prog 94 #[.string s] w (z0b w s.data.toList):=by
 have hq:∀e w',(e=.returned (.string ⟨((s0a s.data.toList).flatMap enc).toArray⟩)/\Below w.heap.size w w')->z0b w s.data.toList e w':=λe w' h=>by rw[L5a] at h;exact h
 have HQ:=hI hq;have c1:=λw hT=>hI (y9a s w hs hT)
 have hone:=j4b s.data.toList;have hlen:(s0a s.data.toList).length<=s.size:=by unfold s0a;rw[List.length_map,Lib.size_eq];exact o7a _
 obtain⟨L,hL⟩:∃L,L=s0a s.data.toList:=⟨_,rfl⟩;rw[<-hL] at HQ hone hlen;have HL:=hI hL;clear hq hL;go_enter Tryz.func94,Tryz.ntmps94;go_wp2_with(first
  | (at_make;refine A6a rfl .u8 51 5 1 Tryz.underlying51 U4a _ _ rfl _ s.size rfl rfl rfl (by omega) (by rw[A8a];omega) ?_;intro w1 ho1 hb1)
  | fail)
 have hT1:=hT.below hb1;refine(c1 _ hT1).out.mono ?_;rintro e w2 ⟨v2,rfl,ho2,hb2⟩;rw[<-HL.out] at ho2;have HV2:=hI ho2;obtain⟨A2,n2,m2,rfl,hn2,hnm,hn63,hA2,_⟩:=ho2.open;have HN2:=hI hn2;have hnS:n2<=s.size:=by omega
 clear ho2 hn2 hlen c1;have HV1:=hI (ho1.out.own.below hb2);have hs1:=hb1.size;have hs2:=hb2.size;go_wp2;go_loopw [3,5,12] (λv _ i wr=>∃k:Nat,i=.int .i64 k/\k<=n2/\Hid (v1a .u8 5 wr w.heap.size v ((L.take k).flatMap encZ))/\Hid (v1a .i32 21 wr w1.heap.size (.slice A2 n2 m2) L)/\Hid (((L.take k).flatMap encZ).length<=4*k)/\Below w.heap.size w wr) (λ_ _ i _=>n2-(intOf i).toNat)
 case atStart=>exact⟨0,rfl,Nat.zero_le _,HV1,HV2,(by show _<=_;simp),hb1.trans (hb2.mono hs1)⟩
 case round=>
  obtain⟨k,rfl,hk,HO,HR,HL4,hb⟩:=hrel;have hbs:=hb.size;by_cases hlt:k<n2
  ·obtain⟨A3,n3,m3,he3,_,_,_,_,hc3⟩:=HR.out.open;cases he3;obtain⟨g,rfl,_,_,hc⟩:=hc3 (by omega);have gc:=hc k hlt;have hr:=hone (L.getD k 0) (by have:=HN2.out;rw[List.getD_eq_getElem?_getD,List.getElem?_eq_getElem (by omega)];exact List.getElem_mem _)
   have htk:L.take (k+1)=L.take k++[L.getD k 0]:=by have:=HN2.out;rw[List.take_succ_eq_append_getElem (by omega)];simp[List.getD_eq_getElem?_getD,show k<L.length by omega]
   obtain⟨r,hrr⟩:∃r,r=L.getD k 0:=⟨_,rfl⟩;rw[<-hrr] at gc hr htk;have hfl:(L.take (k+1)).flatMap encZ=(L.take k).flatMap encZ++encZ r:=by rw[htk];simp
   have hbd:=hr.bounds;obtain⟨hr0,hr1⟩:=hbd;have hlen4:((L.take (k+1)).flatMap encZ).length<=4*(k+1):=by have h1:=HL4.out;have h2:=j4c r;rw[hfl,List.length_append];omega
   have HLEN:=hI hlen4;clear hc hc3 htk hrr hlen4;by_cases hlo:r<1114112
   ·have hL:=hr.letter hlo;have HF:Hid ((L.take (k+1)).flatMap encZ=(L.take k).flatMap encZ++Lib.encodeRuneZ r):=by
     show _=_
     rw[hfl];unfold encZ;rw[if_neg (by omega)]
    have c2:=hI (W1b wr _ _ _ r hL HO.out (by have:=HL4.out;omega) hbs);clear hr hfl hL;go_wp2_with fail;refine c2.out.mono ?_;rintro e w5 ⟨v5,rfl,ho5,hg5⟩;have hb5:=hg5.below HO.out hbs;have HR5:=hI (hg5.other HO.out HR.out (by decide));have HO5:Hid (v1a .u8 5 w5 w.heap.size v5 ((L.take (k+1)).flatMap encZ)):=by rw[HF.out];exact ho5
    clear ho5 hg5 c2;go_wp2;go_roundw
    case rel=>exact⟨k+1,by go_num,hlt,HO5,HR5,HLEN,hb.trans hb5⟩
    case measure=>simp[intOf];omega
   ·have HF:Hid ((L.take (k+1)).flatMap encZ=(L.take k).flatMap encZ++[r-1114112]):=by
     show _=_
     rw[hfl];unfold encZ;rw[if_pos (by omega)]
    clear hr hfl;go_wp2_with(at_builtin;go_loud (refine c1a rfl (.tmp 16) (.tmp 20) .u8 51 5 1 Tryz.underlying51 U4a rfl w.heap.size _ _ [r-1114112] _ rfl 1 1 rfl rfl rfl HO.out (by have:=HL4.out;omega) (by have:=HL4.out;omega) hbs ?_;intro v5 w5 ho5 hg5));have hb5:=hg5.out.below HO.out hbs;have HR5:=hI (hg5.out.other HO.out HR.out (by decide));have HO5:Hid (v1a .u8 5 w5 w.heap.size v5 ((L.take (k+1)).flatMap encZ)):=by rw[HF.out];exact ho5
    clear ho5 hg5;go_roundw
    case rel=>exact⟨k+1,by go_num,hlt,HO5,HR5,HLEN,hb.trans hb5⟩
    case measure=>simp[intOf];omega
  ·obtain rfl:k=n2:=by omega
   have HTK:Hid (L.take k=L):=by
    show _=_
    exact List.take_of_length_le (by have:=HN2.out;omega)
   have hcv:=W7a (P:=Tryz.prog) (src:=51) Tryz.underlying51 Tryz.underlying5 HO.out;rw[HTK.out,Z7b] at hcv;obtain⟨T,hTT⟩:∃T:ByteArray,T=⟨(L.flatMap enc).toArray⟩:=⟨_,rfl⟩;rw[<-hTT] at hcv;have HTT:=hI hTT;clear hTT;go_wp2;go_ret;refine HQ.out _ _ ⟨?_,hb⟩;rw[HTT.out];rfl
theorem Q4c(a b:List UInt8):((⟨a.toArray⟩:ByteArray)=⟨b.toArray⟩)↔a=b:=by
 constructor
 ·intro h;have:=congrArg ByteArray.data h;exact List.toArray_inj this
 ·intro h;rw[h]
theorem F9b(s t:ByteArray)(w:World)(hs:s.size<=4398046511104)(ht:t.size<=4398046511104)(hT:k5a w) :
  Calls Tryz.prog 116 #[.string s,.string t] w λe w'=>e=.returned (.bool (f1a s.data.toList t.data.toList))/\Below w.heap.size w w':=by
 have c1:=hI (F8a s w hs hT);have c2:=λw hT=>hI (F8a t w ht hT)
 unfold f1a;have hdec:decide (B0a s.data.toList=B0a t.data.toList)=decide ((⟨(B0a s.data.toList).toArray⟩:ByteArray)=⟨(B0a t.data.toList).toArray⟩):=decide_eq_decide.2 (Q4c _ _).symm;rw[hdec];unfold z0b at c1 c2;obtain⟨X,hX⟩:∃X:ByteArray,X=⟨(B0a s.data.toList).toArray⟩:=⟨_,rfl⟩;obtain⟨Y,hY⟩:∃Y:ByteArray,Y=⟨(B0a t.data.toList).toArray⟩:=⟨_,rfl⟩;rw[<-hX] at c1⊢;rw[<-hY] at c2⊢;clear hdec hX hY;go_enter Tryz.func116,Tryz.ntmps116;go_wp2_with fail;refine c1.out.mono ?_;rintro e w1 ⟨rfl,hb1⟩;go_wp2_with fail;refine(c2 _ (hT.below hb1)).out.mono ?_;rintro e w2 ⟨rfl,hb2⟩;go_wp2;go_ret;refine⟨a1a ?_,step hb1 hb2⟩;show(X.toList==Y.toList)=decide (X=Y)
 rw[Lib.toList_data,Lib.toList_data,Bool.eq_iff_iff,beq_iff_eq,decide_eq_true_eq];exact⟨λh=>ByteArray.ext (Array.toList_inj.1 h),λh=>by rw[h]⟩
theorem G9b(x:Int)(w:World):Calls Tryz.prog 225 #[.int .i32 x] w λe w'=>e=.returned (.bool false)/\w=w':=by go_enter Tryz.func225,Tryz.ntmps225;go_wp2;go_ret;exact⟨rfl,rfl⟩
theorem k4c(x y:Int)(w:World):Calls Tryz.prog 207 #[.int .i32 x,.int .i32 y] w λe w'=>e=.returned (.int .i64 (I4c x y))/\w=w':=by
 have c1:=λx w=>hI (G9b x w)
 unfold I4c;by_cases h1:x<y
 ·rw[if_pos h1];go_enter Tryz.func207,Tryz.ntmps207;go_wp2_with fail;refine(c1 _ _).out.mono ?_;rintro e w' ⟨rfl,rfl⟩;go_wp2_with fail;refine(c1 _ _).out.mono ?_;rintro e w' ⟨rfl,rfl⟩;go_wp2;go_ret;exact⟨rfl,rfl⟩
 rw[if_neg h1];by_cases h2:y<x
 ·rw[if_pos h2];go_enter Tryz.func207,Tryz.ntmps207;go_wp2_with fail;refine(c1 _ _).out.mono ?_;rintro e w' ⟨rfl,rfl⟩;go_wp2_with fail;refine(c1 _ _).out.mono ?_;rintro e w' ⟨rfl,rfl⟩;go_wp2;go_ret;exact⟨rfl,rfl⟩
 ·rw[if_neg h2];obtain rfl:x=y:=by omega
  go_enter Tryz.func207,Tryz.ntmps207;go_wp2_with fail;refine(c1 _ _).out.mono ?_;rintro e w' ⟨rfl,rfl⟩;go_wp2_with fail;refine(c1 _ _).out.mono ?_;rintro e w' ⟨rfl,rfl⟩;go_wp2;go_ret;exact⟨rfl,rfl⟩
theorem H9b{xs ys:List Int}{k:Nat}(h1:k<xs.length)(h2:k<ys.length) :
  J6a (xs.drop k) (ys.drop k)=if I4c (xs.getD k 0) (ys.getD k 0)=0 then J6a (xs.drop (k+1)) (ys.drop (k+1)) else I4c (xs.getD k 0) (ys.getD k 0):=by
 rw[List.drop_eq_getElem_cons h1,List.drop_eq_getElem_cons h2];simp only[List.getD_eq_getElem?_getD,List.getElem?_eq_getElem h1,List.getElem?_eq_getElem h2,Option.getD_some,J6a];unfold I4c;repeat' split
 all_goals first | rfl | omega
theorem I9b{xs ys:List Int}{k:Nat}(h1:k<xs.length)(h2:¬k<ys.length):J6a (xs.drop k) (ys.drop k)=1:=by rw[List.drop_eq_getElem_cons h1,List.drop_of_length_le (l:=ys) (by omega)];rfl
theorem a8b{xs ys:List Int}{k:Nat}(h1:¬k<xs.length):J6a (xs.drop k) (ys.drop k)=if k<ys.length then -1 else 0:=by
 rw[List.drop_of_length_le (l:=xs) (by omega)];split
 ·rw[List.drop_eq_getElem_cons (l:=ys) (by omega)];rfl
 ·rw[List.drop_of_length_le (l:=ys) (by omega)];rfl
theorem N5b(w:World)(base base':Nat)(v u:Value)(xs ys:List Int)(h:v1a .i32 21 w base v xs)(h':v1a .i32 21 w base' u ys) :
  Calls Tryz.prog 176 #[v,u] w λe w'=>e=.returned (.int .i64 (J6a xs ys))/\w=w':=by
 obtain⟨A,n,c,rfl,hl,hf,hm,_,hc⟩:=h.open;obtain⟨A',n',c',rfl,hl',hf',hm',_,hc'⟩:=h'.open;have c1:=λx y w=>hI (k4c x y w)
 obtain⟨R,hR⟩:∃R,R=J6a xs ys:=⟨_,rfl⟩;rw[<-hR];have HR:=hI hR;have HL:=hI hl;have HL':=hI hl';clear h h' hR hl hl';go_enter Tryz.func176,Tryz.ntmps176;go_wp2;go_loop [5,6,7,8,11] (λ_ _ _ _ i=>∃k:Nat,i=.int .i64 k/\k<=n/\Hid (J6a (xs.drop k) (ys.drop k)=R)) (λ_ _ _ _ i=>n-(intOf i).toNat)
 case atStart=>exact⟨0,rfl,Nat.zero_le _,HR.out.symm⟩
 case round=>
  obtain⟨k,rfl,hk,HE⟩:=hrel;by_cases hlt:k<n
  ·obtain⟨g,rfl,_,_,hcc⟩:=hc (by omega);have gc:=hcc k hlt;by_cases hlt':k<n'
   ·obtain⟨g',rfl,_,_,hcc'⟩:=hc' (by omega);have gc':=hcc' k hlt';have hst:=H9b (xs:=xs) (ys:=ys) (k:=k) (by have:=HL.out;omega) (by have:=HL'.out;omega);obtain⟨x,hx⟩:∃x,x=xs.getD k 0:=⟨_,rfl⟩;obtain⟨y,hy⟩:∃y,y=ys.getD k 0:=⟨_,rfl⟩;rw[<-hx] at gc;rw[<-hy] at gc';rw[<-hx,<-hy] at hst;have c2:=(c1 x y w).out;obtain⟨z,hz⟩:∃z,z=I4c x y:=⟨_,rfl⟩;rw[<-hz] at hst c2;have C2:=hI c2;clear hx hy hz hcc hcc' c2 c1 hc hc';by_cases hz0:z=0
    ·subst hz0;have HE':Hid (J6a (xs.drop (k+1)) (ys.drop (k+1))=R):=by have:=HE.out;rw[hst,if_pos rfl] at this;exact this
     clear hst HE;go_wp2_with fail;refine C2.out.mono ?_;rintro e w' ⟨rfl,rfl⟩;go_wp2;go_round
     case rel=>exact⟨k+1,by go_num,hlt,HE'⟩
     case measure=>simp[intOf];omega
    ·have HE':Hid (z=R):=by have:=HE.out;rw[hst,if_neg hz0] at this;exact this
     have hzb:(z != 0)=true:=by simpa using hz0
     clear hst HE;go_wp2_with fail;refine C2.out.mono ?_;rintro e w' ⟨rfl,rfl⟩;go_wp2;go_ret;exact⟨f8a HE'.out,rfl⟩
   ·have HE':Hid (R=1):=by have:=HE.out;rw[I9b (by have:=HL.out;omega) (by have:=HL'.out;omega)] at this;exact this.symm
    clear hcc c1 hc hc' HE;go_wp2;go_ret;exact⟨f8a HE'.out.symm,rfl⟩
  ·obtain rfl:k=n:=by omega
   have hE:=HE.out;rw[a8b (by have:=HL.out;omega),HL'.out] at hE;clear c1 hc hc' HE;by_cases h2:k<n'
   ·rw[if_pos h2] at hE;have HE':=hI hE;clear hE;go_wp2;go_ret;exact⟨f8a HE'.out,rfl⟩
   ·rw[if_neg h2] at hE;have HE':=hI hE;clear hE;go_wp2;go_ret;exact⟨f8a HE'.out,rfl⟩
theorem J9b(s t:ByteArray)(w:World)(hs:s.size<=4398046511104)(ht:t.size<=4398046511104)(hT:k5a w) :
  Calls Tryz.prog 146 #[.string s,.string t] w λe w'=>e=.returned (.bool (e1a s.data.toList t.data.toList))/\Below w.heap.size w w':=by
 have c1:=hI (y9a s w hs hT);have c2:=λw hT=>hI (y9a t w ht hT)
 unfold x9a at c1 c2;unfold e1a;obtain⟨X,hX⟩:∃X,X=s0a s.data.toList:=⟨_,rfl⟩;obtain⟨Y,hY⟩:∃Y,Y=s0a t.data.toList:=⟨_,rfl⟩;rw[<-hX] at c1⊢;rw[<-hY] at c2⊢;obtain⟨z,hz⟩:∃z,z=J6a X Y:=⟨_,rfl⟩;have c3:=λw b b' v u h h'=>N5b w b b' v u X Y h h'
 rw[<-hz] at c3⊢;have C3:=hI c3;clear hX hY hz c3;go_enter Tryz.func146,Tryz.ntmps146;go_wp2_with fail;refine c1.out.mono ?_;rintro e w1 ⟨v1,rfl,ho1,hb1⟩;have HO1:=hI ho1;clear ho1;go_wp2_with fail;refine(c2 _ (hT.below hb1)).out.mono ?_;rintro e w2 ⟨v2,rfl,ho2,hb2⟩;have HO2:=hI ho2;clear ho2;go_wp2_with fail;refine(C3.out _ _ _ _ _ (HO1.out.below hb2) HO2.out).mono ?_;rintro e w3 ⟨rfl,rfl⟩;go_wp2;go_ret;exact⟨rfl,step hb1 hb2⟩
theorem X1b(s:ByteArray)(bound pos:Nat)(acc:Array Value)(hb:s.size<=pos+bound)(ht:u0a (s.data.toList.drop pos)=true) :
  (Conv.runesFrom s bound pos acc).toList=acc.toList++(j0a (s.data.toList.drop pos)).map (Value.int .i32):=by
 induction bound generalizing pos acc with
 | zero=>rw[p5a s pos (by omega)];simp[Conv.runesFrom]
 | succ b ih=>
  unfold Conv.runesFrom;by_cases hp:pos<s.size
  ·obtain⟨m1,m2,_⟩:=K0b s pos hp ht;obtain⟨_,n2,_⟩:=p7a s pos hp;rw[if_pos hp];show(Conv.runesFrom s b (pos+(Utf8.decode s pos).2) (acc.push (.int .i32 (Int.ofNat (Utf8.decode s pos).1)))).toList=_
   rw[ih (pos+(Utf8.decode s pos).2) _ (by omega) m2,m1];simp
  ·rw[if_neg hp,p5a s pos hp];simp
theorem G8a(s:ByteArray)(ht:u0a s.data.toList=true):Conv.runesFrom s s.size 0 #[]=((j0a s.data.toList).map (Value.int .i32)).toArray:=by have h:=X1b s s.size 0 #[] (by omega) (by rwa [List.drop_zero]);rw[List.drop_zero] at h;apply Array.toList_inj.1;rw[h];rfl
theorem Y1b(s:ByteArray)(bound pos:Nat)(hb:s.size<=pos+bound):Lib.runeCountFrom s bound pos=(j0a (s.data.toList.drop pos)).length:=by
 induction bound generalizing pos with
 | zero=>rw[p5a s pos (by omega)];rfl
 | succ b ih=>
  unfold Lib.runeCountFrom;by_cases hp:pos<s.size
  ·obtain⟨n1,n2,_⟩:=p7a s pos hp;rw[if_pos hp,ih (pos+(Utf8.decode s pos).2) (by omega),n1,List.length_cons,Nat.add_comm]
  ·rw[if_neg hp,p5a s pos hp];rfl
theorem N5a(s:ByteArray):Lib.runeCount s=(j0a s.data.toList).length:=by
 have h:=Y1b s s.size 0 (by omega)
 rwa [List.drop_zero] at h
theorem b0b{w:World}{ops:Array Oper}{rest:List Oper}{o:Oper}{a:Act}{Q:Exit->Act->World->Prop}(hg:o.guard=none)(x:Operand)(ho:o.op=.convert 9 179 x)(s:ByteArray)(hx:a.eval x=.string s)(ht:u0a s.data.toList=true)(hn:s.size<=70368744177664)
(h:∀v w',Hid (v1a .i32 21 w' w.heap.size v (j0a s.data.toList))->Hid (Below w.heap.size w w')->wpList Tryz.prog ops Q rest (a.put o.dst v) w') :
  wpList Tryz.prog ops Q (o::rest) a w:=by
 have hl:=o7a s.data.toList;rw[<-Lib.size_eq] at hl;have hrun:=run_runes_of_string (P:=Tryz.prog) w 9 179 21 s Tryz.underlying9 Tryz.underlying179 Tryz.underlying21 (by rw[G8a s ht];simp;omega);rw[G8a s ht] at hrun;simp only[List.size_toArray,List.length_map] at hrun;refine wpList_plain hg λK hK=>?_
 unfold Oper.wp execOp;simp only[ho,hx,hrun,Sem.run_bind,Result.andThen_ok,Sem.run_pure];refine hK _ _ (h _ _ ?_ (((Below.refl _ _).drew).alloc (Nat.le_refl _) _));have hge:=grownCap_ge w (j0a s.data.toList).length 0 21;have hle:=grownCap_le_maxLen w (j0a s.data.toList).length 0 21 (by unfold maxLen;omega);refine⟨by simp,.inr ⟨w.heap.size,_,_,rfl,Nat.le_refl _,heap_alloc_new w.drew _,hge,hle,by simp;omega,?_⟩⟩;rw[Array.toList_append];simp
theorem c0b(l:List UInt8):(F5a l==0)=u0a l:=by unfold F5a;cases u0a l<;>rfl
theorem p2b(s:ByteArray)(w:World)(hs:s.size<=35184372088832)(hT:k5a w) :
  Calls Tryz.prog 179 #[.string s] w λe w'=>e=.returned (.bool (u0a s.data.toList))/\Below w.heap.size w w':=by
 have c1:=L0b s w (by omega) hT;rw[<-c0b];obtain⟨U,hU⟩:∃U,U=q7a s.data.toList:=⟨_,rfl⟩;obtain⟨E,hE⟩:∃E,E=F5a s.data.toList:=⟨_,rfl⟩;rw[<-hU,<-hE] at c1;rw[<-hE];have C1:=hI c1;clear c1 hU hE;go_enter Tryz.func179,Tryz.ntmps179;go_wp2_with fail;refine C1.out.mono ?_;rintro e w1 ⟨rfl,hb1⟩;go_wp2;go_ret;exact⟨rfl,hb1⟩
theorem q2b(s:ByteArray)(m:Int)(w:World)(hs:s.size<=35184372088832) :
  Calls Tryz.prog 180 #[.string s,.int .i64 m] w λe w'=>e=.returned (.bool (decide (m<((j0a s.data.toList).length:Int))))/\Below w.heap.size w w':=by
 have c1:=Tryz.utf8_RuneCountInString s w (by omega);rw[N5a] at c1;obtain⟨L,hL⟩:∃L,L=(j0a s.data.toList).length:=⟨_,rfl⟩;rw[<-hL] at c1⊢;have C1:=hI c1;clear c1 hL;go_enter Tryz.func180,Tryz.ntmps180;go_wp2_with fail;refine C1.out.mono ?_;rintro e w1 ⟨rfl,pos,hw⟩;have hb1:Below w.heap.size w w1:=by rw[hw];exact(Below.refl _ _).alloc (Nat.le_refl _) _
 clear hw;go_wp2;go_ret;exact⟨rfl,hb1⟩
def P6a:Int->List Int->Bool
 | last,[]=>!(last==32) && !(last==46)
 | _,r::rs=>if p3b r=true then false else P6a r rs
theorem K9b(last:Int)(rs:List Int):P6a last rs=(rs.all (λr=>!p3b r)&&(!((last::rs).getD rs.length 0==32) && !((last::rs).getD rs.length 0==46))):=by
 induction rs generalizing last with
 | nil=>simp[P6a]
 | cons r rs ih=>
  unfold P6a;rw[ih r];cases hb:p3b r
  ·simp[hb]
  ·simp[hb]
theorem o2c{rs:List Int}(h1:1<=rs.length)(h2:rs.length<=32):j8a rs=P6a 0 rs:=by
 rw[v7a,K9b,decide_eq_true h1,decide_eq_true h2];obtain⟨r,rs,rfl⟩:∃r q,rs=r::q:=by
  cases rs with
  | nil=>simp at h1
  | cons r q=>exact⟨r,q,rfl⟩
 simp
theorem c7b(s:ByteArray)(w:World)(hs:s.size<=140737488355328)(hT:k5a w) :
  Calls Tryz.prog 89 #[.string s] w λe w'=>e=.returned (.bool (nameOf s.data.toList))/\Below w.heap.size w w':=by
 have c1:=Tryz.utf8_RuneCountInString s w (by omega);rw[N5a] at c1;have c2:=λw hT=>hI (K5b s w (by omega) hT)
 have c3:=λr w=>hI (L5b r w)
 unfold nameOf;by_cases ht':u0a s.data.toList=false
 ·rw[ht'] at c2;rw[ht',Bool.false_and];obtain⟨L,hL⟩:∃L,L=(j0a s.data.toList).length:=⟨_,rfl⟩;rw[<-hL] at c1;have C1:=hI c1;clear c1 hL ht';go_enter Tryz.func89,Tryz.ntmps89;go_wp2_with fail;refine C1.out.mono ?_;rintro e w1 ⟨rfl,pos,hw⟩;have hb1:Below w.heap.size w w1:=by rw[hw];exact(Below.refl _ _).alloc (Nat.le_refl _) _
  clear hw;go_wp2_with fail;refine(c2 _ (hT.below hb1)).out.mono ?_;rintro e w2 ⟨rfl,hb2⟩;go_wp2;go_ret;exact⟨rfl,step hb1 hb2⟩
 have ht:u0a s.data.toList=true:=by simpa using ht'
 rw[ht] at c2;rw[ht,Bool.true_and];have HT:=hI ht;clear ht ht';by_cases hn:1<=(j0a s.data.toList).length/\(j0a s.data.toList).length<=32
 ·obtain⟨n1,n2⟩:=hn;rw[o2c n1 n2];obtain⟨L,hL⟩:∃L,L=(j0a s.data.toList).length:=⟨_,rfl⟩;rw[<-hL] at c1 n1 n2;obtain⟨R,hR⟩:∃R,R=P6a 0 (j0a s.data.toList):=⟨_,rfl⟩;rw[<-hR];have HR:=hI hR;have C1:=hI c1;have t1:1<=(L:Int):=by omega
  have t2:(L:Int)<=32:=by omega
  clear c1 hL hR;go_enter Tryz.func89,Tryz.ntmps89;go_wp2_with fail;refine C1.out.mono ?_;rintro e w1 ⟨rfl,pos,hw⟩;have hb1:Below w.heap.size w w1:=by rw[hw];exact(Below.refl _ _).alloc (Nat.le_refl _) _
  clear hw;go_wp2_with fail;refine(c2 _ (hT.below hb1)).out.mono ?_;rintro e w2 ⟨rfl,hb2⟩;have hB2:=step hb1 hb2;have hs2:=hB2.size;clear hb1 hb2 c2 C1;go_wp2;go_loopw [4,6] (λl _ wr=>∃(pos:Nat) (last:Int),l=.int .i32 last/\wr.heap[w2.heap.size]? = some (.stringIter s pos)/\Below w.heap.size w wr/\Hid (P6a last (j0a (s.data.toList.drop pos))=R)/\Hid (u0a (s.data.toList.drop pos)=true)/\pos<=s.size) (λ_ _ wr=>s.size-wr.iterPos w2.heap.size)
  case atStart=>
   refine⟨0,0,rfl,World.iter_heap w2 s 0,hB2.alloc hs2 _,?_,HT,by omega⟩;show _=_
   rw[HR.out,List.drop_zero]
  case round=>
   obtain⟨pos,last,rfl,hit,hb,HE,HX,hps⟩:=hrel;have hK:w2.heap.size<wr.heap.size:=(Array.getElem?_eq_some_iff.1 hit).1;by_cases hp:pos<s.size
   ·have hnx:∀ty,(Instr.next (.pointer (some ⟨w2.heap.size,0,none⟩)) true ty).run Tryz.prog wr=_:=λty=>Lib.run_next_any_at wr w2.heap.size s pos ty hit hp
    obtain⟨q1,q2,q3⟩:=p7a s pos hp;obtain⟨m1,m2,m3⟩:=K0b s pos hp HX.out;obtain⟨c,hc⟩:∃c:Int,c=((Utf8.decode s pos).1:Int):=⟨_,rfl⟩;obtain⟨p',hp'⟩:∃p',p'=pos+(Utf8.decode s pos).2:=⟨_,rfl⟩;rw[<-hp'] at hnx q1 q3 m1 m2;rw[<-hc] at hnx m1 m3;have hit2:=Lib.iterAt_heap wr w2.heap.size s pos p' hit;have hb2:=Lib.below_iterAt hb (k:=w2.heap.size) hs2 s p';have hpp:pos<p':=by omega
    have hE:=HE.out;rw[m1] at hE;have HX':=hI m2;obtain⟨w3,hw3⟩:∃w3,w3=wr.iterAt w2.heap.size s p':=⟨_,rfl⟩;rw[<-hw3] at hnx hit2 hb2;have HI:=hI hit2;have HI0:=hI hit;obtain⟨r0,r1,r2⟩:=m3;have c4:=c3 c w3;have d4:=c4.out;clear q1 q2 m1 m2 hc hp' hit hit2 hw3 c3 c4 HE;cases hbc:p3b c
    ·have HE':Hid (P6a c (j0a (s.data.toList.drop p'))=R):=by
      show _=_
      rw[<-hE,P6a,hbc];rfl
     rw[hbc] at d4;have D4:=hI d4;clear d4 hE hbc;go_wp2_with fail;refine D4.out.mono ?_;rintro e w4 ⟨rfl,rfl⟩;go_wp2;go_roundw
     case rel=>exact⟨p',c,rfl,HI.out,hb2,HE',HX',q3⟩
     case measure=>have h1:=HI.out;have h0:=HI0.out;simp only[World.iterPos,h0,h1];omega
    ·have HE':Hid (false=R):=by
      show _=_
      rw[<-hE,P6a,hbc];rfl
     rw[hbc] at d4;have D4:=hI d4;clear d4 hE hbc;go_wp2_with fail;refine D4.out.mono ?_;rintro e w4 ⟨rfl,rfl⟩;go_wp2;go_ret;exact⟨a1a HE'.out,hb2⟩
   ·have hnx:∀ty,(Instr.next (.pointer (some ⟨w2.heap.size,0,none⟩)) true ty).run Tryz.prog wr=_:=λty=>Lib.run_next_end_at wr w2.heap.size s pos ty hit hp
    have hE:=HE.out;rw[p5a s pos hp] at hE;by_cases e1:last=32
    ·subst e1;have HE':Hid (false=R):=hE;clear hE HE c3;go_wp2;go_ret;exact⟨a1a HE'.out,hb⟩
    ·by_cases e2:last=46
     ·subst e2;have HE':Hid (false=R):=hE;clear hE HE c3;go_wp2;go_ret;exact⟨a1a HE'.out,hb⟩
     ·have t3:(last != 32)=true:=by simpa using e1
      have t4:(last != 46)=true:=by simpa using e2
      have HE':Hid (true=R):=by
       show _=_
       rw[<-hE];simp[P6a,e1,e2]
      clear hE HE c3;go_wp2;go_ret;exact⟨a1a HE'.out,hb⟩
 ·have hf:j8a (j0a s.data.toList)=false:=by rw[v7a];rw[Bool.eq_false_iff];intro h;simp only[Bool.and_eq_true,decide_eq_true_eq] at h;exact hn ⟨h.1.1.1,h.1.1.2⟩
  rw[hf];obtain⟨L,hL⟩:∃L,L=(j0a s.data.toList).length:=⟨_,rfl⟩;rw[<-hL] at c1 hn;have C1:=hI c1;clear c1 hL hf;by_cases h1:L<1
  ·obtain rfl:L=0:=by omega
   go_enter Tryz.func89,Tryz.ntmps89;go_wp2_with fail;refine C1.out.mono ?_;rintro e w1 ⟨rfl,pos,hw⟩;have hb1:Below w.heap.size w w1:=by rw[hw];exact(Below.refl _ _).alloc (Nat.le_refl _) _
   clear hw;go_wp2_with fail;refine(c2 _ (hT.below hb1)).out.mono ?_;rintro e w2 ⟨rfl,hb2⟩;go_wp2;go_ret;exact⟨rfl,step hb1 hb2⟩
  ·have hgt:32<(L:Int):=by omega
   have hge:1<=(L:Int):=by omega
   clear hn h1;go_enter Tryz.func89,Tryz.ntmps89;go_wp2_with fail;refine C1.out.mono ?_;rintro e w1 ⟨rfl,pos,hw⟩;have hb1:Below w.heap.size w w1:=by rw[hw];exact(Below.refl _ _).alloc (Nat.le_refl _) _
   clear hw;go_wp2_with fail;refine(c2 _ (hT.below hb1)).out.mono ?_;rintro e w2 ⟨rfl,hb2⟩;go_wp2;go_ret;exact⟨rfl,step hb1 hb2⟩
def V0a(p:List UInt8):Value:=.string ⟨p.toArray⟩
theorem x7a(p:List UInt8):(V0a p).oneCell'=true:=rfl
theorem W1a(l:List UInt8):(⟨l.toArray⟩:ByteArray).size=l.length:=by simp[ByteArray.size]
theorem r4a:(Tryz.prog.info? 9).map (λi=>(i.zero,i.size,i.bytes))=some (some (.string ⟨#[]⟩),1,16):=by kernel_rfl
def strSize:Value->Nat
 | .string s=>s.size
 | _=>0
def R0b:Value->Nat
 | .bool true=>1
 | _=>0
def e2a(w:World)(l:List UInt8)(e:Ending)(w':World):Prop:=∃v,e=.returned (.tuple #[v,.int .i64 (h0a l)])/\t1a V0a 9 w' w.heap.size v (m0a l)/\Below w.heap.size w w'
theorem S0b{l ps p qs}(h:ps++p::qs=partsOf l)(hp:nameOf p=false):h0a l=2/\m0a l=[]:=by have h1:h0a l=2:=N6a (p:=p) (by rw[<-h];simp) hp;exact⟨h1,Z4a (by omega)⟩
theorem r4b{l ps}(h:ps++[]=partsOf l)(hp:∀p∈ps,nameOf p=true):h0a l=(if 8<ps.length then 3 else 0)/\m0a l=(if 8<ps.length then [] else ps.take 8):=by
 rw[List.append_nil] at h;have h1:h0a l=if 8<ps.length then 3 else 0:=by unfold h0a;rw[<-h];exact O6a hp
 refine⟨h1,?_⟩;by_cases h8:8<ps.length
 ·rw[if_pos h8] at h1⊢;exact Z4a (by omega)
 ·rw[if_neg h8] at h1⊢;unfold m0a;rw[if_pos h1,<-h,List.take_of_length_le (by omega)]
theorem Q6a(s:ByteArray)(w:World)(hs:s.size<=140737488355328)(hT:k5a w) :
  Calls Tryz.prog 41 #[.string s] w (e2a w s.data.toList):=by
 have c1:=fun (s:ByteArray) (w:World) hs=>hI (i4c s w hs)
 have c2:=fun (s:ByteArray) (w:World) hs hT=>hI (c7b s w hs hT)
 have c3:=fun (s:ByteArray) (w:World) hs=>hI (o2b s w hs)
 have hq:∀(n:Int) ps,h0a s.data.toList=n->m0a s.data.toList=ps->∀e w',(∃v,e=.returned (.tuple #[v,.int .i64 n])/\t1a V0a 9 w' w.heap.size v ps/\Below w.heap.size w w')->e2a w s.data.toList e w':=λn ps hn hp e w' h=>by unfold e2a;rw[hn,hp];exact h
 have HQ:=hI hq;have h0:=Y7b s.data.toList;have hne:decide (s.data.toList≠[])=(!s.toList.isEmpty):=by rw[Lib.toList_data];cases s.data.toList<;>rfl
 rw[hne] at h0;obtain⟨m0,hm0⟩:∃m0,m0=(!s.toList.isEmpty):=⟨_,rfl⟩;rw[<-hm0] at h0;have H0:=hI h0;clear hq h0 hne;go_enter Tryz.func41,Tryz.ntmps41;go_wp2;go_step3;go_wp2;go_step3;go_wp2;go_loopw [4,5,6,7,8] (λv e r m _ wr=>∃(n:Int) (rest:ByteArray) (more:Bool) (ps:List (List UInt8)),e=.int .i64 n/\r=.string rest/\m=.bool more/\Hid (t1a V0a 9 wr w.heap.size v (ps.take 8))/\Hid (Below w.heap.size w wr)/\Hid (ps++E8a more rest.data.toList=partsOf s.data.toList)/\Hid (∀p∈ps,nameOf p=true)/\Hid (n=if 8<ps.length then 3 else 0)/\rest.size<=s.size) (λ_ _ r m _ _=>2*strSize r+R0b m)
 case atStart=>refine⟨0,s,_,[],rfl,rfl,rfl,t1a.nil _ _ _ _,Below.refl _ _,?_,(λp hp=>by cases hp),rfl,Nat.le_refl _⟩;rw[<-hm0];exact H0.out.symm
 case round=>
  obtain⟨n,rest,more,ps,rfl,rfl,rfl,HO,HBl,HP,HN,HE,hrs⟩:=hrel;have hbs:=HBl.out.size;clear hm0 H0;cases more
  ·obtain⟨h1,h2⟩:=r4b HP.out HN.out;rw[<-HE.out] at h1;by_cases h8:8<ps.length
   ·rw[if_pos h8] at h2;have hn:n=3:=by rw[HE.out,if_pos h8]
    rw[hn] at h1;have HF:=hI (HQ.out _ _ h1 h2);subst hn;clear HO h1 h2 h8 HP HN HE HQ c1 c2 c3;go_wp2;rw[Exit.noGoto_ret];go_ret2;exact HF.out _ _ ⟨_,rfl,t1a.nil _ _ _ _,HBl.out⟩
   ·rw[if_neg h8] at h2;have hn:n=0:=by rw[HE.out,if_neg h8]
    rw[hn] at h1;have HF:=hI (HQ.out _ _ h1 h2);subst hn;clear h1 h2 h8 HP HN HE HQ c1 c2 c3;go_wp2;rw[Exit.noGoto_ret];go_ret2;exact HF.out _ _ ⟨_,rfl,HO.out,HBl.out⟩
  ·have hsp:=q4b rest.data.toList;have hhl:=h4c rest.data.toList;have hrl:=g4c (l:=rest.data.toList);have d1:=c1 rest wr (by omega);unfold w7a at d1;rw[<-Lib.size_eq] at hhl;have hP:=HP.out;rw[show E8a true rest.data.toList=splitB rest.data.toList from rfl,hsp] at hP;have hnn:rest.data.toList=[]->v9a rest.data.toList=[]:=λh=>by rw[h];rfl
   obtain⟨P,hPP⟩:∃P,P=v9a rest.data.toList:=⟨_,rfl⟩;obtain⟨T,hTT⟩:∃T,T=w9a rest.data.toList:=⟨_,rfl⟩;obtain⟨m,hm⟩:∃m,m=Q0b rest.data.toList:=⟨_,rfl⟩;rw[<-hPP,<-hTT,<-hm] at d1;rw[<-hPP] at hhl hnn;rw[<-hTT] at hrl;rw[<-hPP,<-hTT,<-hm] at hP;have d2:=λw hT=>c2 ⟨P.toArray⟩ w (by rw[W1a];omega) hT
   have d3:=λw=>c3 ⟨P.toArray⟩ w (by rw[W1a];omega)
   rw[show(⟨P.toArray⟩:ByteArray).data.toList=P from rfl] at d2;have HP2:=hI hP;have D1:=hI d1.out;clear hsp d1 hPP hTT hm hP HP c1 c2 c3;by_cases hnm:nameOf P=true
   ·rw[hnm] at d2;have hTl:T.length<rest.size:=by
     rw[Lib.size_eq];refine hrl λh=>?_
     exact C9b hnm (hnn h)
    have HP3:Hid ((ps++[P])++E8a m (⟨T.toArray⟩:ByteArray).data.toList=partsOf s.data.toList):=by
     show _=_
     rw[<-HP2.out,List.append_assoc];rfl
    have HN3:Hid (∀p∈ps++[P],nameOf p=true):=λp hp=>by
     rcases List.mem_append.1 hp with hp | hp
     ·exact HN.out p hp
     ·rw[List.mem_singleton.1 hp];exact hnm
    have hms:2*(⟨T.toArray⟩:ByteArray).size+R0b (.bool m)<2*rest.size+1:=by rw[W1a];cases m<;>simp[R0b]<;>omega
    have hTs:(⟨T.toArray⟩:ByteArray).size<=s.size:=by rw[W1a];omega
    obtain⟨Y,hY⟩:∃Y:ByteArray,Y=⟨T.toArray⟩:=⟨_,rfl⟩;rw[<-hY] at D1 HP3 hms hTs;have HMS:=hI hms;obtain⟨A,k,c,rfl,hk,hkc,h63,_,_⟩:=HO.out.open;have HK:=hI hk;clear hY hnm hnn hrl hhl HP2 HN hk hms;by_cases h8:8<=ps.length
    ·have hk8:k=8:=by have:=HK.out;rw[List.length_take] at this;omega
     have t8:((k:Int)==8)=true:=by rw[hk8];rfl
     have HO3:Hid (t1a V0a 9 wr w.heap.size (.slice A k c) ((ps++[P]).take 8)):=by rw[List.take_append_of_le_length h8];exact HO.out
     have HE3:Hid ((3:Int)=if 8<(ps++[P]).length then 3 else 0):=by
      show _=_
      rw[if_pos (by simp;omega)]
     clear HO HE HK hk8 h8 d3 HQ;go_wp2_with fail;refine D1.out.mono ?_;rintro e w1 ⟨rfl,hb1⟩;have hT1:k5a w1:=(hT.below HBl.out).below hb1;go_wp2_with fail;refine(d2 _ hT1).out.mono ?_;rintro e w2 ⟨rfl,hb2⟩;have hb12:=step hb1 hb2;go_wp2;go_roundw
     case rel=>exact⟨3,Y,m,ps++[P],rfl,rfl,rfl,HO3.out.below hb12,HBl.out.trans (hb12.mono hbs),HP3,HN3,HE3,hTs⟩
     case measure=>simpa[strSize,R0b] using HMS.out
    ·have hk8:k=ps.length:=by have:=HK.out;rw[List.length_take] at this;omega
     have t8:((k:Int)==8)=false:=by rw[hk8,beq_eq_false_iff_ne];omega
     have hE3:(n=if 8<(ps++[P]).length then 3 else 0):=by rw[HE.out,if_neg (by omega),if_neg (by simp;omega)]
     have htk:(ps++[P]).take 8=ps.take 8++[P]:=by rw[List.take_of_length_le (by simp;omega),List.take_of_length_le (by omega)]
     have hle8:(ps.take 8).length<=8:=by rw[List.length_take];omega
     have HE3:=hI hE3;have HTK:=hI htk;clear HE HK hk8 h8 HQ hE3 htk;go_wp2_with fail;refine D1.out.mono ?_;rintro e w1 ⟨rfl,hb1⟩;have hT1:k5a w1:=(hT.below HBl.out).below hb1;go_wp2_with fail;refine(d2 _ hT1).out.mono ?_;rintro e w2 ⟨rfl,hb2⟩;go_wp2_with fail;refine(d3 _).out.mono ?_;rintro e w3 ⟨rfl,hb3⟩;have hb13:=step (step hb1 hb2) hb3;have HO3:=hI (HO.out.below hb13);have hbs3:=hb13.size;clear HO d2 d3 D1;go_wp2_with(first
      | (at_builtin;go_loud (refine g1a rfl (.tmp 19) (.tmp 22) V0a x7a (.string ⟨#[]⟩) rfl 78 9 16 Tryz.underlying78 r4a rfl w.heap.size _ (ps.take 8) [P] _ rfl 1 1 rfl rfl rfl HO3.out (by omega) (by omega) (by omega) ?_;intro v1 w4 ho4 hg4 hw4))
      | fail)
     have hb4:=hg4.out.belowF HO3.out (by omega);have HO4:Hid (t1a V0a 9 w4 w.heap.size v1 ((ps++[P]).take 8)):=by rw[HTK.out];exact ho4.out
     clear ho4 hg4 hw4;go_roundw
     case rel=>exact⟨n,Y,m,ps++[P],rfl,rfl,rfl,HO4,(HBl.out.trans (hb13.mono hbs)).trans hb4,HP3,HN3,HE3,hTs⟩
     case measure=>simpa[strSize,R0b] using HMS.out
   ·have hnm':nameOf P=false:=by simpa using hnm
    rw[hnm'] at d2;obtain⟨h1,h2⟩:=S0b HP2.out hnm';have HF:=hI (HQ.out _ _ h1 h2);obtain⟨Y,hY⟩:∃Y:ByteArray,Y=⟨T.toArray⟩:=⟨_,rfl⟩;rw[<-hY] at D1;clear HO HE HQ d3 h1 h2 hY hnm hnm' hnn hrl hhl HP2 HN;go_wp2_with fail;refine D1.out.mono ?_;rintro e w1 ⟨rfl,hb1⟩;have hT1:k5a w1:=(hT.below HBl.out).below hb1;go_wp2_with fail;refine(d2 _ hT1).out.mono ?_;rintro e w2 ⟨rfl,hb2⟩;have hb12:=step hb1 hb2;go_wp2;rw[Exit.noGoto_ret];go_ret2;exact HF.out _ _ ⟨_,rfl,t1a.nil _ _ _ _,HBl.out.trans (hb12.mono hbs)⟩
def G4a(n:Nat)(a k:Int):Int:=if a<0∨k<0 then 2 else if k=0 then 0 else if (n:Int)<=a then 22 else 0
def d0b(B:List Int)(a k:Int):List Int:=if G4a B.length a k=0 then (B.drop a.toNat).take k.toNat else []
def C2a(s:Int):Int:=if s<0 then 2 else if 65536<s then 3 else 0
def y1a{α:Type}(z:α)(l:List α)(n:Nat):List α:=l.take n++List.replicate (n-l.length) z
def T1a{α:Type}(z:α)(l:List α)(s:Int):List α:=if C2a s=0 then y1a z l s.toNat else l
def q3a(a:Int)(m:Nat):Int:=if a<0 then 2 else if m=0 then 0 else if 65536<a+m then 3 else 0
def N3a{α:Type}(z:α)(l:List α)(a:Nat)(ys:List α):List α:=(y1a z l (max l.length (a+ys.length))).take a++ys++l.drop (a+ys.length)
def Y3a{α:Type}(z:α)(l:List α)(a:Int)(ys:List α):List α:=if q3a a ys.length=0/\ys≠[] then N3a z l a.toNat ys else l
section
variable {α:Type} {z:α} {l ys:List α} {n a:Nat}
theorem h1a:(y1a z l n).length=n:=by unfold y1a;rw[List.length_append,List.length_take,List.length_replicate];omega
theorem y7a:y1a z l l.length=l:=by simp[y1a]
theorem H8a{i:Nat}(h:i<n):(y1a z l n).getD i z=l.getD i z:=by
 unfold y1a;rw[List.getD_eq_getElem?_getD,List.getD_eq_getElem?_getD,List.getElem?_append,List.length_take];by_cases h1:i<min n l.length
 ·rw[if_pos h1,List.getElem?_take,if_pos h]
 ·rw[if_neg h1,List.getElem?_replicate,List.getElem?_eq_none (show l.length<=i by omega)];split<;>rfl
theorem f2a:(N3a z l a ys).length=max l.length (a+ys.length):=by unfold N3a;rw[List.length_append,List.length_append,List.length_take,h1a,List.length_drop];omega
theorem O5a(i:Nat):(N3a z l a ys).getD i z=if a<=i/\i<a+ys.length then ys.getD (i-a) z else l.getD i z:=by
 unfold N3a;have h0:((y1a z l (max l.length (a+ys.length))).take a).length=a:=by rw[List.length_take,h1a];omega
 rw[List.getD_eq_getElem?_getD,List.append_assoc,List.getElem?_append,h0];by_cases h1:i<a
 ·rw[if_pos h1,if_neg (by omega),List.getElem?_take,if_pos h1,<-List.getD_eq_getElem?_getD,H8a (by omega)]
 ·rw[if_neg h1,List.getElem?_append];by_cases h2:i<a+ys.length
  ·rw[if_pos (by omega),if_pos ⟨by omega,h2⟩,<-List.getD_eq_getElem?_getD]
  ·rw[if_neg (by omega),if_neg (by omega),List.getElem?_drop,show a+ys.length+(i-a-ys.length)=i by omega,List.getD_eq_getElem?_getD]
end
theorem l6a{B:List Int}(h:Bytes B)(n:Nat):Bytes (y1a 0 B n):=(h.take n).append (Bytes.zeros _)
theorem k8a{B ys:List Int}(h:Bytes B)(hy:Bytes ys)(a:Nat):Bytes (N3a 0 B a ys):=(((l6a h _).take a).append hy).append (h.drop _)
theorem L9b{α β:Type}(z:α)(y:β){l:List α}{m:List β}(h:l.length=m.length)(s:Int):(T1a z l s).length=(T1a y m s).length:=by
 unfold T1a;split
 ·rw[h1a,h1a]
 ·exact h
theorem p2c{α β:Type}(z:α)(y:β){l:List α}{m:List β}{ys:List α}{zs:List β}(h:l.length=m.length)(hy:ys.length=zs.length)(a:Int):(Y3a z l a ys).length=(Y3a y m a zs).length:=by
 have e1:(ys=[])↔(zs=[]):=by rw[<-List.length_eq_zero_iff,hy,List.length_eq_zero_iff]
 unfold Y3a;by_cases h1:q3a a ys.length=0/\ys≠[]
 ·rw[if_pos h1,if_pos ⟨by rw[<-hy];exact h1.1,λh=>h1.2 (e1.2 h)⟩,f2a,f2a,h,hy]
 ·rw[if_neg h1,if_neg (λh2=>h1 ⟨by rw[hy];exact h2.1,λh=>h2.2 (e1.1 h)⟩),h]
theorem M9b{s:Int}(h:C2a s=0):0<=s/\s<=65536:=by
 unfold C2a at h;by_cases h2:s<0
 ·rw[if_pos h2] at h;cases h
 ·rw[if_neg h2] at h;by_cases h3:65536<s
  ·rw[if_pos h3] at h;cases h
  ·omega
theorem T0b{α:Type}(z:α){l:List α}(h:l.length<=65536)(s:Int):(T1a z l s).length<=65536:=by
 unfold T1a;by_cases h1:C2a s=0
 ·have:=M9b h1;rw[if_pos h1,h1a];omega
 ·rw[if_neg h1];exact h
theorem q2c{a:Int}{m:Nat}(h:q3a a m=0)(hm:0<m):0<=a/\a+m<=65536:=by
 unfold q3a at h;by_cases h1:a<0
 ·rw[if_pos h1] at h;cases h
 ·rw[if_neg h1,if_neg (by omega)] at h;by_cases h2:65536<a+m
  ·rw[if_pos h2] at h;cases h
  ·omega
theorem r2b{α:Type}(z:α){l ys:List α}(h:l.length<=65536)(a:Int):(Y3a z l a ys).length<=65536:=by
 unfold Y3a;by_cases h1:q3a a ys.length=0/\ys≠[]
 ·have:=q2c h1.1 (List.length_pos_iff.2 h1.2);rw[if_pos h1,f2a];omega
 ·rw[if_neg h1];exact h
theorem O5b{B:List Int}(h:Bytes B)(s:Int):Bytes (T1a 0 B s):=by
 unfold T1a;split
 ·exact l6a h _
 ·exact h
theorem b8b{B ys:List Int}(h:Bytes B)(hy:Bytes ys)(a:Int):Bytes (Y3a 0 B a ys):=by
 unfold Y3a;split
 ·exact k8a h hy _
 ·exact h
structure l4c (B:List Int) (i:Nat) (l:List (Nat×List Int)):Prop where
 some:∀e∈l,e.2≠[]
 ends:∀e∈l,e.1+e.2.length<=i
 have_:∀e∈l,e.2=(B.drop e.1).take e.2.length
 rise:l.Pairwise λe f=>e.1+e.2.length<f.1
theorem l4c.mono{B:List Int}{i j:Nat}{l:List (Nat×List Int)}(h:l4c B i l)(hij:i<=j):l4c B j l:=⟨h.some,λe he=>Nat.le_trans (h.ends e he) hij,h.have_,h.rise⟩
theorem getD_lt{p:List Int}{k:Nat}{c:Int}(hc:c≠0)(h:p.getD k 0=c):k<p.length:=by
 rcases Nat.lt_or_ge k p.length with h1 | h1
 ·exact h1
 ·rw[List.getD_eq_getElem?_getD,List.getElem?_eq_none h1] at h;exact absurd h.symm hc
noncomputable def live (p:List Int) (k:Nat) (t:List Int):Bool:=m2a p (if p.getD k 0=42 then k+1 else k) t
theorem U0b{p t:List Int}{k:Nat}(hc:p.getD k 0=42)(h:m2a p k t=true):m2a p (k+1) t=true:=by have hk:=getD_lt (by omega) hc;rw[X2a] at h⊢;rw[M5a p k hk,hc];exact b3a.2 ⟨t,[],by simp,h,r9a _⟩
theorem H4a{p t:List Int}{k:Nat}(h:m2a p k t=true):live p k t=true:=by
 unfold live;split
 ·exact U0b (by assumption) h
 ·exact h
theorem N9b{p t:List Int}{k:Nat}(x:Int)(hc:p.getD k 0=42)(h:live p k t=true):live p k (t++[x])=true:=by unfold live at h⊢;rw[if_pos hc] at h⊢;rw[t9a p t x k (getD_lt (by omega) hc) hc,h];rfl
theorem r2c{p t:List Int}{k:Nat}{x:Int}(hk:k<p.length)(hc:p.getD k 0≠42)(hx:p.getD k 0=63∨p.getD k 0=x)(h:live p k t=true):live p (k+1) (t++[x])=true:=by refine H4a ?_;unfold live at h;rw[if_neg hc] at h;rw[O0b p t x k hk hc hx,h]
theorem O9b{p t:List Int}{k:Nat}(hc:p.getD k 0=42)(h:live p k t=true):live p (k+1) t=true:=by unfold live at h;rw[if_pos hc] at h;exact H4a h
theorem P9b{p t:List Int}{k:Nat}{x:Int}(hk:k<=p.length)(h:live p k (t++[x])=true) :
  (p.getD k 0=42/\live p k t=true)∨(∃j,k=j+1/\p.getD j 0≠42/\(p.getD j 0=63∨p.getD j 0=x)/\live p j t=true)∨(∃j,k=j+1/\p.getD j 0=42/\live p j (t++[x])=true):=by
 have key:m2a p k (t++[x])=true->(∃j,k=j+1/\p.getD j 0≠42/\(p.getD j 0=63∨p.getD j 0=x)/\live p j t=true)∨(∃j,k=j+1/\p.getD j 0=42/\live p j (t++[x])=true):=by
  intro h
  match k,hk,h with
  | 0,_,h=>rw[n2b] at h;cases h
  | j+1,hk,h=>
   by_cases hc:p.getD j 0=42
   ·refine .inr ⟨j,rfl,hc,?_⟩;unfold live;rw[if_pos hc];exact h
   ·by_cases hx:p.getD j 0=63∨p.getD j 0=x
    ·refine .inl ⟨j,rfl,hc,hx,?_⟩;unfold live;rw[if_neg hc]
     rwa [O0b p t x j hk hc hx] at h
    ·rw[P0b p t x j hk hc hx] at h;cases h
 unfold live at h;by_cases hc:p.getD k 0=42
 ·rw[if_pos hc,t9a p t x k (getD_lt (by omega) hc) hc,Bool.or_eq_true,Bool.or_eq_true] at h;rcases h with(h | h) | h
  ·refine .inl ⟨hc,?_⟩;unfold live;rw[if_pos hc];exact h
  ·exact .inl ⟨hc,H4a h⟩
  ·exact .inr (key h)
 ·rw[if_neg hc] at h;exact .inr (key h)
theorem s2c(p:List Int):live p 0 []=true:=H4a (m2b p)
theorem r3b{p:List Int}{k:Nat}(hk:k+1<=p.length)(h:live p (k+1) []=true):p.getD k 0=42/\live p k []=true:=by
 have key:m2a p (k+1) []=true->p.getD k 0=42/\live p k []=true:=by
  intro h;by_cases hc:p.getD k 0=42
  ·refine⟨hc,?_⟩;unfold live;rw[if_pos hc];exact h
  ·rw[L6a p k hk hc] at h;cases h
 unfold live at h;by_cases hc:p.getD (k+1) 0=42
 ·rw[if_pos hc,X7a p (k+1) (getD_lt (by omega) hc) hc] at h;exact key h
 ·rw[if_neg hc] at h;exact key h
theorem t2c(p t:List Int):live p p.length t=true↔Fit p t:=by unfold live;rw[if_neg ?_,N0b p t _ (Nat.le_refl _)];intro h;exact absurd (getD_lt (by omega) h) (by omega)
noncomputable def m0b (p t:List Int) (m:Nat):List Nat:=(List.range m).filter λk=>live p k t
noncomputable def places (p t:List Int):List Nat:=m0b p t (p.length+1)
def P5a(p:List Int)(k:Nat):Nat:=((p.drop k).takeWhile λc=>decide (c=42)).length
def V0b(p:List Int)(m:Nat)(L:List Nat)(k:Nat):List Nat:=if m<=k then L++List.range' k (P5a p k+1) else L
theorem z9a(p:List Int)(k:Nat):P5a p k=if p.getD k 0=42 then P5a p (k+1)+1 else 0:=by
 unfold P5a;by_cases hk:k<p.length
 ·rw[List.drop_eq_getElem_cons hk];have e:p.getD k 0=p[k]:=by simp[hk]
  rw[e];by_cases h:p[k]=42
  ·rw[List.takeWhile_cons_of_pos (by simpa using h),if_pos h,List.length_cons]
  ·rw[List.takeWhile_cons_of_neg (by simpa using h),if_neg h,List.length_nil]
 ·rw[List.drop_of_length_le (by omega),if_neg (by rw[List.getD_eq_getElem?_getD,List.getElem?_eq_none (by omega)];decide)];rfl
theorem Q5a(p:List Int)(n k:Nat)(hn:P5a p k=n):(∀i,i<n->p.getD (k+i) 0=42)/\p.getD (k+n) 0≠42:=by
 induction n generalizing k with
 | zero=>
  refine⟨λi hi=>by omega,λh=>?_⟩;rw[Nat.add_zero] at h;rw[z9a,if_pos h] at hn;omega
 | succ n ih=>
  have hc:p.getD k 0=42:=by
   by_cases h:p.getD k 0=42
   ·exact h
   ·rw[z9a,if_neg h] at hn;omega
  rw[z9a,if_pos hc] at hn;obtain⟨h1,h2⟩:=ih (k+1) (by omega);refine⟨λi hi=>?_,by rw[show k+(n+1)=k+1+n by omega];exact h2⟩
  match i,hi with
  | 0,_=>exact hc
  | i+1,hi=>rw[show k+(i+1)=k+1+i by omega];exact h1 i (by omega)
theorem s3b(p:List Int)(k:Nat)(hk:k<=p.length):k+P5a p k<=p.length:=by
 obtain⟨h1,_⟩:=Q5a p _ k rfl;by_cases h:P5a p k=0
 ·omega
 ·have:=getD_lt (by omega) (h1 (P5a p k-1) (by omega));omega
theorem t3b(p t:List Int)(m:Nat):m0b p t (m+1)=m0b p t m++if live p m t=true then [m] else []:=by
 unfold m0b;rw[List.range_succ,List.filter_append];by_cases h:live p m t=true
 ·rw[if_pos h];simp[List.filter,h]
 ·rw[if_neg h];simp[List.filter,h]
theorem P5b(p t:List Int)(m d:Nat)(h:∀j,m<=j->j<m+d->¬live p j t=true):m0b p t (m+d)=m0b p t m:=by
 induction d with
 | zero=>rfl
 | succ d ih=>rw[<-Nat.add_assoc,t3b,if_neg (h (m+d) (by omega) (by omega)),List.append_nil,ih λj h1 h2=>h j h1 (by omega)]
theorem Q9b(p t:List Int)(k s:Nat)(h:∀i,i<s->live p (k+i) t=true):m0b p t (k+s)=m0b p t k++List.range' k s:=by
 induction s with
 | zero=>simp
 | succ s ih=>rw[<-Nat.add_assoc,t3b,if_pos (h s (by omega)),ih λi hi=>h i (by omega),List.append_assoc,List.range'_concat,Nat.one_mul]
theorem u3b{p t:List Int}{k:Nat}(h:live p k t=true)(i:Nat)(hi:i<=P5a p k):live p (k+i) t=true:=by
 induction i with
 | zero=>exact h
 | succ i ih=>exact O9b ((Q5a p _ k rfl).1 i (by omega)) (ih (by omega))
structure Told (p t:List Int) (x:Int) (D:Nat->Prop) (m:Nat):Prop where
 le:m<=p.length+1
 top:m=0∨(live p (m-1) (t++[x])=true/\p.getD (m-1) 0≠42)
 star:∀a,D a->p.getD a 0=42->a<m
 one:∀a,D a->a<p.length->p.getD a 0≠42->(p.getD a 0=63∨p.getD a 0=x)->a+1<m
theorem Told.gap{p t:List Int}{x:Int}{D:Nat->Prop}{m k:Nat}(T:Told p t x D m)(hk:k<=p.length+1)(h1:∀a,a<k->live p a t=true->p.getD a 0=42->D a)(h2:∀a,a+1<k->live p a t=true->p.getD a 0≠42->D a) :
  ∀j,m<=j->j<k->¬live p j (t++[x])=true:=by
 intro j
 induction j using Nat.strongRecOn with
 | ind j ih=>
  intro hm hj h;rcases P9b (by omega) h with⟨hc,hl⟩ | ⟨i,rfl,hc,hx,hl⟩ | ⟨i,rfl,hc,hl⟩
  ·have:=T.star j (h1 j hj hl hc) hc;omega
  ·have:=T.one i (h2 i hj hl hc) (by omega) hc hx;omega
  ·by_cases hi:m<=i
   ·exact ih i (by omega) hi (by omega) hl
   ·rcases T.top with h0 | ⟨_,h0⟩
    ·omega
    ·rw[show m-1=i by omega] at h0;exact h0 hc
def l8a(p:List Int)(m k:Nat):Nat:=if m<=k then k+P5a p k+1 else m
theorem d7b(p:List Int)(m k:Nat):m<=l8a p m k/\k<l8a p m k:=by unfold l8a;split<;>omega
theorem Told.wait{p t:List Int}{x:Int}{D:Nat->Prop}{m k:Nat}(T:Told p t x D m)(hk:k<=p.length)(hl:live p k (t++[x])=true)(h1:∀a,a<k->live p a t=true->p.getD a 0=42->D a)(h2:∀a,a+1<k->live p a t=true->p.getD a 0≠42->D a) :
  V0b p m (m0b p (t++[x]) m) k=m0b p (t++[x]) (l8a p m k)/\l8a p m k<=p.length+1/\(live p (l8a p m k-1) (t++[x])=true/\p.getD (l8a p m k-1) 0≠42):=by
 unfold V0b l8a;by_cases hm:m<=k
 ·rw[if_pos hm,if_pos hm];have hs:=s3b p k hk;have hg:=P5b p (t++[x]) m (k-m) λj a b=>T.gap (by omega) h1 h2 j a (by omega)
  rw[show m+(k-m)=k by omega] at hg;refine⟨?_,by omega,?_⟩
  ·rw[<-hg,Nat.add_assoc,Q9b p (t++[x]) k (P5a p k+1) λi hi=>u3b hl i (by omega)]
  ·rw[Nat.add_sub_cancel];exact⟨u3b hl _ (Nat.le_refl _),(Q5a p _ k rfl).2⟩
 ·rw[if_neg hm,if_neg hm];refine⟨rfl,T.le,?_⟩;rcases T.top with h0 | h0
  ·omega
  ·exact h0
theorem Told.start(p t:List Int)(x:Int):Told p t x (λ_=>False) 0:=⟨by omega,.inl rfl,λ_ h=>h.elim,λ_ h=>h.elim⟩
theorem Told.all{p t:List Int}{x:Int}{D:Nat->Prop}{m:Nat}(T:Told p t x D m)(h:∀a,a<=p.length->live p a t=true->(a<p.length->D a)):m0b p (t++[x]) m=places p (t++[x]):=by
 have hle:=T.le;have hg:=P5b p (t++[x]) m (p.length+1-m) λj a b=>T.gap (k:=p.length+1) (Nat.le_refl _)
  (λa ha hl hc=>h a (by omega) hl (getD_lt (by omega) hc)) (λa ha hl hc=>h a (by omega) hl (by omega)) j a (by omega)
 rw[show m+(p.length+1-m)=p.length+1 by omega] at hg;exact hg.symm
theorem Told.mono{p t:List Int}{x:Int}{D D':Nat->Prop}{m:Nat}(T:Told p t x D m)(h:∀a,D' a->D a):Told p t x D' m:=⟨T.le,T.top,λa ha=>T.star a (h a ha),λa ha=>T.one a (h a ha)⟩
theorem c8b(p:List Int):V0b p 0 [] 0=places p []:=by
 unfold V0b places;rw[if_pos (Nat.le_refl _),List.nil_append];have hs:=s3b p 0 (Nat.zero_le _);have hr:=Q9b p [] 0 (P5a p 0+1) λi hi=>u3b (s2c p) i (by omega)
 rw[Nat.zero_add] at hr;have h0:m0b p [] 0=[]:=rfl;rw[h0,List.nil_append] at hr;rw[<-hr];have hne:=(Q5a p _ 0 rfl).2;have hg:=P5b p [] (P5a p 0+1) (p.length-P5a p 0) (by
  intro j
  induction j with
  | zero=>intro h;omega
  | succ j ih=>
   intro h1 h2 hl;obtain⟨hc,hl'⟩:=r3b (by omega) hl;by_cases hj:P5a p 0+1<=j
   ·exact ih hj (by omega) hl'
   ·rw[show 0+P5a p 0=j by omega] at hne;exact hne hc)
 rw[show P5a p 0+1+(p.length-P5a p 0)=p.length+1 by omega] at hg;exact hg.symm
theorem R5a(p t:List Int)(k:Nat):k∈places p t↔k<=p.length/\live p k t=true:=by unfold places m0b;rw[List.mem_filter,List.mem_range];exact and_congr Nat.lt_succ_iff Iff.rfl
theorem d8b(p t:List Int):p.length∈places p t↔Fit p t:=by rw[R5a,t2c];exact⟨λh=>h.2,λh=>⟨Nat.le_refl _,h⟩⟩
theorem A9a(p t:List Int)(m:Nat):(m0b p t m).Pairwise (· < ·):=List.pairwise_lt_range.filter _
theorem u2c(p t:List Int)(m:Nat):(m0b p t m).length<=m:=by
 have:=List.length_filter_le (λk=>live p k t) (List.range m)
 rwa [List.length_range] at this
theorem m8a{L:List Nat}(h:L.Pairwise (· < ·)){c:Nat}(hc:c<L.length){a:Nat}(ha:a∈L)(hlt:a<L.getD c 0):a∈L.take c:=by
 have e:L=L.take c++L.getD c 0::L.drop (c+1):=by rw[List.getD_eq_getElem?_getD,List.getElem?_eq_getElem hc,Option.getD_some,<-List.drop_eq_getElem_cons hc,List.take_append_drop]
 rw[e] at ha h;rcases List.mem_append.1 ha with h1 | h1
 ·exact h1
 ·have h2:=(List.pairwise_append.1 h).2.1;rcases List.mem_cons.1 h1 with h3 | h3
  ·omega
  ·have:=List.rel_of_pairwise_cons h2 h3;omega
def s4b(L:List Nat)(m:Nat):Prop:=(L=[]/\m=0)∨(L≠[]/\L.getD (L.length-1) 0+1=m)
theorem v2c{p t:List Int}{m:Nat}(h:m=0∨live p (m-1) t=true):s4b (m0b p t m) m:=by
 by_cases h0:m=0
 ·subst h0;exact .inl ⟨rfl,rfl⟩
 ·obtain⟨j,rfl⟩:∃j,m=j+1:=⟨m-1,by omega⟩;have hl:=h.resolve_left h0;rw[Nat.add_sub_cancel] at hl;rw[t3b,if_pos hl];exact .inr ⟨by simp,by simp⟩
def W0b(p t:List Int)(x:Int)(c m:Nat):Prop:=Told p t x (λa=>a∈(places p t).take c) m
theorem S5a{L:List Nat}{c:Nat}(hc:c<L.length){a:Nat}(h:a∈L.take (c+1)):a∈L.take c∨a=L.getD c 0:=by
 rw[List.take_succ_eq_append_getElem hc,List.mem_append,List.mem_singleton] at h;rcases h with h | h
 ·exact .inl h
 ·exact .inr (by rw[h];simp[hc])
theorem X0b(p t:List Int){c:Nat}(hc:c<(places p t).length):(places p t).getD c 0<=p.length/\live p ((places p t).getD c 0) t=true:=by rw[<-R5a,List.getD_eq_getElem?_getD,List.getElem?_eq_getElem hc];exact List.getElem_mem hc
theorem W0b.start(p t:List Int)(x:Int):W0b p t x 0 0:=(Told.start p t x).mono λa h=>by simp at h
theorem W0b.star{p t:List Int}{x:Int}{c m:Nat}(T:W0b p t x c m)(hc:c<(places p t).length)(h:p.getD ((places p t).getD c 0) 0=42) :
  V0b p m (m0b p (t++[x]) m) ((places p t).getD c 0)=m0b p (t++[x]) (l8a p m ((places p t).getD c 0))/\W0b p t x (c+1) (l8a p m ((places p t).getD c 0)):=by
 obtain⟨hle,hl⟩:=X0b p t hc;have hD:∀a,a<(places p t).getD c 0->live p a t=true->a∈(places p t).take c:=λa ha hla=>m8a (A9a p t _) hc ((R5a p t a).2 ⟨by omega,hla⟩) ha
 obtain⟨h1,h2,h3⟩:=Told.wait T hle (N9b x h hl) (λa ha hla _=>hD a ha hla) (λa ha hla _=>hD a (by omega) hla);have hge:=d7b p m ((places p t).getD c 0);refine⟨h1,h2,.inr h3,λa ha hs=>?_,λa ha hlt hs hx=>?_⟩
 ·rcases S5a hc ha with ha | rfl
  ·have:=Told.star T a ha hs;omega
  ·exact hge.2
 ·rcases S5a hc ha with ha | rfl
  ·have:=Told.one T a ha hlt hs hx;omega
  ·exact absurd h hs
theorem W0b.one{p t:List Int}{x:Int}{c m:Nat}(T:W0b p t x c m)(hc:c<(places p t).length)(hlt:(places p t).getD c 0<p.length)(h:p.getD ((places p t).getD c 0) 0≠42)(hx:p.getD ((places p t).getD c 0) 0=63∨p.getD ((places p t).getD c 0) 0=x) :
  V0b p m (m0b p (t++[x]) m) ((places p t).getD c 0+1)=m0b p (t++[x]) (l8a p m ((places p t).getD c 0+1))/\W0b p t x (c+1) (l8a p m ((places p t).getD c 0+1)):=by
 obtain⟨hle,hl⟩:=X0b p t hc;have hD:∀a,a<(places p t).getD c 0->live p a t=true->a∈(places p t).take c:=λa ha hla=>m8a (A9a p t _) hc ((R5a p t a).2 ⟨by omega,hla⟩) ha
 obtain⟨h1,h2,h3⟩:=Told.wait T hlt (r2c hlt h hx hl) (λa ha hla hs=>hD a (by
  by_cases e:a=(places p t).getD c 0
  ·rw[e] at hs;exact absurd hs h
  ·omega) hla) (λa ha hla _=>hD a (by omega) hla)
 have hge:=d7b p m ((places p t).getD c 0+1);refine⟨h1,h2,.inr h3,λa ha hs=>?_,λa ha hlt hs hx=>?_⟩
 ·rcases S5a hc ha with ha | rfl
  ·have:=Told.star T a ha hs;omega
  ·exact absurd hs h
 ·rcases S5a hc ha with ha | rfl
  ·have:=Told.one T a ha hlt hs hx;omega
  ·exact hge.2
theorem W0b.none{p t:List Int}{x:Int}{c m:Nat}(T:W0b p t x c m)(hc:c<(places p t).length)(h:p.getD ((places p t).getD c 0) 0≠42)(hx:¬(p.getD ((places p t).getD c 0) 0=63∨p.getD ((places p t).getD c 0) 0=x)):W0b p t x (c+1) m:=by
 refine⟨Told.le T,Told.top T,λa ha hs=>?_,λa ha hlt hs hx'=>?_⟩
 ·rcases S5a hc ha with ha | rfl
  ·exact Told.star T a ha hs
  ·exact absurd hs h
 ·rcases S5a hc ha with ha | rfl
  ·exact Told.one T a ha hlt hs hx'
  ·exact absurd hx' hx
theorem W0b.last{p t:List Int}{x:Int}{c m:Nat}(T:W0b p t x c m):s4b (m0b p (t++[x]) m) m:=v2c ((Told.top T).imp_right λh=>h.1)
theorem W0b.all{p t:List Int}{x:Int}{c m:Nat}(T:W0b p t x c m)(h:c=(places p t).length∨(c<(places p t).length/\(places p t).getD c 0=p.length)):m0b p (t++[x]) m=places p (t++[x]):=by
 refine Told.all T λa hle hl hlt=>?_
 have ha:=(R5a p t a).2 ⟨hle,hl⟩;rcases h with rfl | ⟨hc,he⟩
 ·rw[List.take_of_length_le (Nat.le_refl _)];exact ha
 ·exact m8a (L:=places p t) (A9a p t _) hc ha (by omega)
end Go.Proofs.YtdgpbhdihhchgaaGreatDoor
