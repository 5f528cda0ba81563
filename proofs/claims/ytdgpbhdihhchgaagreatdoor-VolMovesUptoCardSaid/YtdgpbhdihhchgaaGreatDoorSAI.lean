import Derived.Test.YtdgpbhdihhchgaaGreatDoorSAH
import Derived.Test.YtdgpbhdihhchgaaGreatDoorS0
set_option linter.all false
set_option maxHeartbeats 8000000
set_option maxRecDepth 100000
namespace Go.Proofs.YtdgpbhdihhchgaaGreatDoor
open Go.RowKit Go.ChangeShapes Go.WideShapes
set_option maxRecDepth 100000
structure M2a where
 act:Int
 path:o0a
 kind:Int
 num:Int
 pos:Int
 many:Int
 row:f6a
 over:Bool
 pat:o0a
 aft:o0a
deriving Inhabited
def A2a(a:M2a):List Value:=[.int .i64 a.act,V0a a.path,.int .u8 a.kind,.int .i64 a.num,.int .i64 a.pos,.int .i64 a.many,o3a a.row,.bool a.over,V0a a.pat,V0a a.aft]
theorem m9a(a:M2a):(A2a a).length=10:=rfl
structure I6a (w:World) (B:Nat) (a:M2a):Prop where
 act:c2a a.act
 num:c2a a.num
 pos:c2a a.pos
 many:c2a a.many
 path:a.path.length<=1048576
 pat:a.pat.length<=1048576
 aft:a.aft.length<=1048576
 row:Holds w B a.row.1 a.row.2.1 a.row.2.2.1 a.row.2.2.2
 cap:a.row.2.2.1<=1048576
theorem I6a.below{w w':World}{B:Nat}{a:M2a}(h:I6a w B a)(hb:Below B w w'):I6a w' B a:=⟨h.act,h.num,h.pos,h.many,h.path,h.pat,h.aft,h.row.below hb,h.cap⟩
theorem I6a.mono{w:World}{B B':Nat}{a:M2a}(h:I6a w B a)(hB:B<=B'):I6a w B' a:=⟨h.act,h.num,h.pos,h.many,h.path,h.pat,h.aft,h.row.mono hB,h.cap⟩
structure e4a (w:World) (B:Nat) (A:Option Addr) (n c:Nat) (l:List M2a):Prop where
 row:L0a A2a 10 w B A n c l
 each:∀x∈l,I6a w B x
section
variable {w w':World} {B B':Nat} {A:Option Addr} {n c:Nat} {l:List M2a}
theorem e4a.below(h:e4a w B A n c l)(hb:Below B w w'):e4a w' B A n c l:=⟨h.row.below hb,λx hx=>(h.each x hx).below hb⟩
theorem e4a.mono(h:e4a w B A n c l)(hB:B<=B'):e4a w B' A n c l:=⟨h.row.mono hB,λx hx=>(h.each x hx).mono hB⟩
theorem e4a.over(h:e4a w w.heap.size A n c l)(hb:Below w.heap.size w w'):e4a w' w'.heap.size A n c l:=(h.below hb).mono hb.size
theorem e4a.len(h:e4a w B A n c l):l.length=n:=h.row.len
theorem e4a.at(h:e4a w B A n c l){i:Nat}(hi:i<n):∃b off x,A=some ⟨b,off,none⟩/\b<B/\l[i]? = some x/\I6a w B x/\w.rangeAt b (off+i*10) (A2a x):=by obtain⟨b,off,e,hb,hc⟩:=h.row.cells (by omega);have hl:=h.row.len;have hx:l[i]? = some l[i]:=List.getElem?_eq_getElem (by omega);exact⟨b,off,l[i],e,hb,hx,h.each _ (List.getElem_mem _),h.row.range e hi hx⟩
end
section
variable {H:Type} {enc:TypeId×Value->H} {W:World} {base:Nat} {v:Value} {d:DataW H} {p:List MemPlace}
def G1c(a:M2a):Nat:=max (max a.path.length a.row.2.2.1) (max a.pat.length a.aft.length)
structure W4c (w:World) (B:Nat) (a:M2a):Prop where
 act:c2a a.act
 num:c2a a.num
 pos:c2a a.pos
 many:c2a a.many
 row:Holds w B a.row.1 a.row.2.1 a.row.2.2.1 a.row.2.2.2
theorem o5b(n:Nat)(cs:List Value)(x:DataW H×List MemPlace)(hf:DataW.trod enc Tryz.prog W 0 (λ_=>true) true n 58 cs=some x)(hw:∀k∈x.1.weights Tryz.prog 58,k<=reachBytes) :
  ∃l:M2a,cs=A2a l/\W4c W W.heap.size l/\G1c l<Rows.uptoBulk x.1:=by
 obtain⟨xs,m,_,hd,hl,hx,hel⟩:=DataW.trod_struct Tryz.underlying58 hf;have hxn:xs.length=10:=hx;have hcn:cs.length=10:=hl.trans (by kernel_rfl);have some_at:∀i,i<10->∃z,xs[i]? = some z:=λi hi=>⟨xs[i],List.getElem?_eq_getElem (by omega)⟩
 have ca:Tryz.prog.cellsOf 3=1:=by kernel_rfl
 have cb:Tryz.prog.cellsOf 9=1:=by kernel_rfl
 have cc:Tryz.prog.cellsOf 32=1:=by kernel_rfl
 have cd:Tryz.prog.cellsOf 51=1:=by kernel_rfl
 have ce:Tryz.prog.cellsOf 4=1:=by kernel_rfl
 have e0:=hel 0 _ rfl;change DataW.trod enc Tryz.prog W 0 (λ_=>true) true m 3 ((cs.drop 0).take (Tryz.prog.cellsOf 3))=xs[0]? at e0
 rw[ca] at e0;obtain⟨z0,q0⟩:=some_at 0 (by omega);rw[q0] at e0;have e1:=hel 1 _ rfl;change DataW.trod enc Tryz.prog W 0 (λ_=>true) true m 9 ((cs.drop 1).take (Tryz.prog.cellsOf 9))=xs[1]? at e1
 rw[cb] at e1;obtain⟨z1,q1⟩:=some_at 1 (by omega);rw[q1] at e1;have e2:=hel 2 _ rfl;change DataW.trod enc Tryz.prog W 0 (λ_=>true) true m 32 ((cs.drop 2).take (Tryz.prog.cellsOf 32))=xs[2]? at e2
 rw[cc] at e2;obtain⟨z2,q2⟩:=some_at 2 (by omega);rw[q2] at e2;have e3:=hel 3 _ rfl;change DataW.trod enc Tryz.prog W 0 (λ_=>true) true m 3 ((cs.drop 3).take (Tryz.prog.cellsOf 3))=xs[3]? at e3
 rw[ca] at e3;obtain⟨z3,q3⟩:=some_at 3 (by omega);rw[q3] at e3;have e4:=hel 4 _ rfl;change DataW.trod enc Tryz.prog W 0 (λ_=>true) true m 3 ((cs.drop 4).take (Tryz.prog.cellsOf 3))=xs[4]? at e4
 rw[ca] at e4;obtain⟨z4,q4⟩:=some_at 4 (by omega);rw[q4] at e4;have e5:=hel 5 _ rfl;change DataW.trod enc Tryz.prog W 0 (λ_=>true) true m 3 ((cs.drop 5).take (Tryz.prog.cellsOf 3))=xs[5]? at e5
 rw[ca] at e5;obtain⟨z5,q5⟩:=some_at 5 (by omega);rw[q5] at e5;have e6:=hel 6 _ rfl;change DataW.trod enc Tryz.prog W 0 (λ_=>true) true m 51 ((cs.drop 6).take (Tryz.prog.cellsOf 51))=xs[6]? at e6
 rw[cd] at e6;obtain⟨z6,q6⟩:=some_at 6 (by omega);rw[q6] at e6;have e7:=hel 7 _ rfl;change DataW.trod enc Tryz.prog W 0 (λ_=>true) true m 4 ((cs.drop 7).take (Tryz.prog.cellsOf 4))=xs[7]? at e7
 rw[ce] at e7;obtain⟨z7,q7⟩:=some_at 7 (by omega);rw[q7] at e7;have e8:=hel 8 _ rfl;change DataW.trod enc Tryz.prog W 0 (λ_=>true) true m 9 ((cs.drop 8).take (Tryz.prog.cellsOf 9))=xs[8]? at e8
 rw[cb] at e8;obtain⟨z8,q8⟩:=some_at 8 (by omega);rw[q8] at e8;have e9:=hel 9 _ rfl;change DataW.trod enc Tryz.prog W 0 (λ_=>true) true m 9 ((cs.drop 9).take (Tryz.prog.cellsOf 9))=xs[9]? at e9
 rw[cb] at e9;obtain⟨z9,q9⟩:=some_at 9 (by omega);rw[q9] at e9;obtain⟨x0,d0,_,w0⟩:=DataW.trod_int Tryz.underlying3 e0;obtain⟨x1,d1,b1,_⟩:=DataW.trod_string Tryz.underlying9 e1;obtain⟨x2,d2,_,w2⟩:=DataW.trod_int Tryz.underlying32 e2;obtain⟨x3,d3,_,w3⟩:=DataW.trod_int Tryz.underlying3 e3;obtain⟨x4,d4,_,w4⟩:=DataW.trod_int Tryz.underlying3 e4;obtain⟨x5,d5,_,w5⟩:=DataW.trod_int Tryz.underlying3 e5;obtain⟨x7,d7,_⟩:=DataW.trod_bool Tryz.underlying4 e7;obtain⟨x8,d8,b8,_⟩:=DataW.trod_string Tryz.underlying9 e8;obtain⟨x9,d9,b9,_⟩:=DataW.trod_string Tryz.underlying9 e9;have hxd:x.1=.agg (xs.map (·.1)):=by rw[hd]
 have g1:(xs.map (·.1))[1]? = some z1.1:=by rw[List.getElem?_map,q1];rfl
 have f1:=F0b (List.mem_of_getElem? g1);rw[<-hxd] at f1;have g6:(xs.map (·.1))[6]? = some z6.1:=by rw[List.getElem?_map,q6];rfl
 have f6:=F0b (List.mem_of_getElem? g6);rw[<-hxd] at f6;have g8:(xs.map (·.1))[8]? = some z8.1:=by rw[List.getElem?_map,q8];rfl
 have f8:=F0b (List.mem_of_getElem? g8);rw[<-hxd] at f8;have g9:(xs.map (·.1))[9]? = some z9.1:=by rw[List.getElem?_map,q9];rfl
 have f9:=F0b (List.mem_of_getElem? g9);rw[<-hxd] at f9;rw[b1] at f1;rw[b8] at f8;rw[b9] at f9;simp only[Rows.uptoBulk] at f1 f8 f9;obtain⟨y,d6,hy,hy1,hy2⟩:=y8b Tryz.underlying51 Tryz.underlying5 (by kernel_rfl) (by kernel_rfl) e6 (λk hk=>hw k (by rw[hxd];simp only[DataW.weights,Tryz.underlying58];exact w1b (i:=6) hk rfl g6))
 refine⟨⟨x0,x1.data.toList,x2,x3,x4,x5,y,x7,x8.data.toList,x9.data.toList⟩,?_,⟨N0a w0,N0a w3,N0a w4,N0a w5,hy⟩,?_⟩
 ·match cs,hcn with
  | [a0,a1,a2,a3,a4,a5,a6,a7,a8,a9],_=>cases d0;cases d1;cases d2;cases d3;cases d4;cases d5;cases d6;cases d7;cases d8;cases d9;rfl
 ·show max (max x1.data.toList.length y.2.2.1) (max x8.data.toList.length x9.data.toList.length)<_
  omega
theorem o4a(hv:Value.okWide Tryz.prog W .any base 22 v)(hk:DataW.Trod enc Tryz.prog W 0 (λ_=>true) true 22 v d p)(hw:∀n∈d.weights Tryz.prog 22,n<=reachBytes)(hb:Rows.uptoBulk d<=1048576) :
  ∃A n c l,v=.slice A n c/\n<=c/\c<=1048576/\e4a W W.heap.size A n c l:=by
 obtain⟨A,n,c,zs,rfl,h1,h2,h3,h4,h5⟩:=d1c (f:=A2a) (s:=10) (q:=120) (ok:=W4c W W.heap.size) (g:=G1c) Tryz.underlying22 (by kernel_rfl) (by omega) (by kernel_rfl) m9a o5b hv hk hw;refine⟨A,n,c,zs.take n,rfl,h1,by omega,⟨h4.head h1,λx hx=>?_⟩⟩;obtain⟨k1,k2⟩:=h5 x (List.mem_of_mem_take hx);have k3:max (max x.path.length x.row.2.2.1) (max x.pat.length x.aft.length)<_:=k2;exact⟨k1.act,k1.num,k1.pos,k1.many,by omega,by omega,by omega,k1.row,by omega⟩
end
section
variable {I:e0b} {w w':World} {b q g k:Nat} {S:Nat->Prop} {v:Value} {V V' V2:X0a} {M:List VP} {T:TypeId} {cs:List Value}
theorem B3a.blk(h:B3a I.is w b q S V2 w')(hk:Blk w k T cs)(hs:¬S k):Blk w' k T cs:=by obtain⟨_,_,a,_⟩:=h;exact hk.spare a hs
theorem u1a.blk(h:u1a w b g v M V2 w')(hk:Blk w k T cs)(hs:¬rvA g v M k):Blk w' k T cs:=by obtain⟨_,_,_,a,_⟩:=h;exact hk.spare a hs
theorem z8a.below1(h:z8a I w b q S g v V V' M)(t:B3a I.is w b q S V2 w'):Below b w w':=by obtain⟨_,_,a,_⟩:=t;exact a.below (λj hj=>(I.ge h.x j hj).1) h.hb
theorem z8a.below2(h:z8a I w b q S g v V V' M)(t:u1a w b g v M V2 w'):Below b w w':=by obtain⟨_,_,_,a,_⟩:=t;exact a.below (λj hj=>(h.r.set_ge j hj).1) h.hb
end
def J6b(a:M2a)(V:X0a):X0a:=if a.act=1 then F3a V a.path a.kind else if a.act=2 then U6a V a.num else if a.act=3 then h2a V a.num a.path a.over else if a.act=4 then vWr V a.num a.pos a.row.2.2.2 else if a.act=5 then b2b V a.num a.pos else V
theorem Y8b{V:X0a}{s:o0a}{k:Int}:(F3a V s k).last<=V.last+1:=by
 unfold F3a;split
 ·exact Int.le_refl _
 ·omega
theorem H1c{V:X0a}{n:Int}:(U6a V n).last=V.last:=by unfold U6a;split<;>rfl
theorem Z8b{V:X0a}{n:Int}{s:o0a}{o:Bool}:(h2a V n s o).last=V.last:=by unfold h2a;split<;>rfl
theorem F3c{V:X0a}{n a:Int}{xs:List Int}:(vWr V n a xs).last=V.last:=by unfold vWr;split<;>rfl
theorem I1c{V:X0a}{n s:Int}:(b2b V n s).last=V.last:=by unfold b2b;split<;>rfl
theorem J1c{a:M2a}{V:X0a}:(J6b a V).last<=V.last+1:=by
 unfold J6b;split
 ·exact Y8b
 ·split
  ·rw[H1c];omega
  ·split
   ·rw[Z8b];omega
   ·split
    ·rw[F3c];omega
    ·split
     ·rw[I1c];omega
     ·omega
def N4a(q:Int)(l:List M2a)(k:Nat):X0a:=(l.take k).foldl (λV a=>J6b a V) (e2c q)
theorem S9a{q:Int}{l:List M2a}{k:Nat}{a:M2a}(h:l[k]? = some a):N4a q l (k+1)=J6b a (N4a q l k):=by obtain⟨h1,h2⟩:=List.getElem?_eq_some_iff.1 h;unfold N4a;rw[List.take_succ_eq_append_getElem h1,List.foldl_append,h2];rfl
theorem p4a{q:Int}{l:List M2a}(k:Nat):(N4a q l k).last<=k+1:=by
 induction k with
 | zero=>exact Int.le_refl _
 | succ k ih=>
  rcases Nat.lt_or_ge k l.length with h | h
  ·rw[S9a (List.getElem?_eq_getElem h)];have:=J1c (a:=l[k]) (V:=N4a q l k);omega
  ·have e:N4a q l (k+1)=N4a q l k:=by unfold N4a;rw[List.take_of_length_le h,List.take_of_length_le (by omega)]
   rw[e];omega
open Go.RowKit
structure t0b where
 op:Int
 at_:Int
 n:Int
 md:Int
def t0b.tup(l:t0b):Int×Int×Int×Int:=(l.op,l.at_,l.n,l.md)
theorem t0b.tup_inj{a b:t0b}:a.tup=b.tup↔a=b:=by cases a;cases b;simp[t0b.tup]
instance:DecidableEq t0b:=λ_ _=>decidable_of_iff _ t0b.tup_inj
structure t0b.ok (l:t0b):Prop where
 op:-9223372036854775808<=l.op/\l.op<=9223372036854775807
 at_:0<=l.at_/\l.at_<=18446744073709551615
 n:0<=l.n/\l.n<=18446744073709551615
 md:0<=l.md/\l.md<=65535
def K1c(l:t0b):List Value:=[.int .i64 l.op,.int .u64 l.at_,.int .u64 l.n,.int .u16 l.md]
structure F4a where
 name:ByteArray
 kind:Int
 size:Int
def F4a.tup(l:F4a):ByteArray×Int×Int:=(l.name,l.kind,l.size)
theorem F4a.tup_inj{a b:F4a}:a.tup=b.tup↔a=b:=by cases a;cases b;simp[F4a.tup]
instance:DecidableEq F4a:=λ_ _=>decidable_of_iff _ F4a.tup_inj
structure F4a.ok (l:F4a):Prop where
 kind:0<=l.kind/\l.kind<=255
 size:-9223372036854775808<=l.size/\l.size<=9223372036854775807
def k1a(l:F4a):List Value:=[.string l.name,.int .u8 l.kind,.int .i64 l.size]
structure a9b where
 dial:List Int
 guid:List Int
 proof:List Int
 user:ByteArray
 share:ByteArray
 acc:Int
 shr:Int
 way:Int
 opt:Int
 lev:Int
 dur:Int
 file:Int
 name:ByteArray
 at_:Int
 n:Int
 data:List Int
 locks:List t0b
 most:Int
 pat:ByteArray
 aft:ByteArray
 cls:Int
 siz:Int
 on:Bool
def a9b.tup(a:a9b):List (List Int)×List ByteArray×List Int×List t0b×Bool:=([a.dial,a.guid,a.proof,a.data],[a.user,a.share,a.name,a.pat,a.aft],[a.acc,a.shr,a.way,a.opt,a.lev,a.dur,a.file,a.at_,a.n,a.most,a.cls,a.siz],a.locks,a.on)
theorem a9b.tup_inj{a b:a9b}:a.tup=b.tup↔a=b:=by
 constructor
 ·obtain⟨a1,a2,a3,a4,a5,a6,a7,a8,a9,a10,a11,a12,a13,a14,a15,a16,a17,a18,a19,a20,a21,a22,a23⟩:=a;obtain⟨b1,b2,b3,b4,b5,b6,b7,b8,b9,b10,b11,b12,b13,b14,b15,b16,b17,b18,b19,b20,b21,b22,b23⟩:=b;intro h;simp only[a9b.tup,Prod.mk.injEq,List.cons.injEq,and_true] at h;obtain⟨⟨h1,h2,h3,h16⟩,⟨h4,h5,h13,h19,h20⟩,⟨h6,h7,h8,h9,h10,h11,h12,h14,h15,h18,h21,h22⟩,h17,h23⟩:=h;subst h1 h2 h3 h4 h5 h6 h7 h8 h9 h10 h11 h12 h13 h14 h15 h16 h17 h18 h19 h20 h21 h22 h23;rfl
 ·rintro rfl;rfl
instance:DecidableEq a9b:=λ_ _=>decidable_of_iff _ a9b.tup_inj
structure a9b.ok (a:a9b):Prop where
 dial:∀x∈a.dial,0<=x/\x<=65535
 glen:a.guid.length=16
 gbyte:Bytes a.guid
 plen:a.proof.length=32
 pbyte:Bytes a.proof
 acc:0<=a.acc/\a.acc<=4294967295
 shr:0<=a.shr/\a.shr<=4294967295
 way:0<=a.way/\a.way<=4294967295
 opt:0<=a.opt/\a.opt<=4294967295
 lev:0<=a.lev/\a.lev<=255
 dur:0<=a.dur/\a.dur<=255
 file:0<=a.file/\a.file<=18446744073709551615
 at_:0<=a.at_/\a.at_<=18446744073709551615
 n:0<=a.n/\a.n<=4294967295
 data:Bytes a.data
 locks:∀l∈a.locks,l.ok
 most:0<=a.most/\a.most<=65535
 cls:0<=a.cls/\a.cls<=65535
 siz:0<=a.siz/\a.siz<=18446744073709551615
def F4c(vx vl:Value)(a:a9b):List Value:=[.string a.user,.string a.share,.int .u32 a.acc,.int .u32 a.shr,.int .u32 a.way,.int .u32 a.opt,.int .u8 a.lev,.int .u8 a.dur,.int .u64 a.file,.string a.name,.int .u64 a.at_,.int .u32 a.n,vx,vl,
 .int .u16 a.most,.string a.pat,.string a.aft,.int .u16 a.cls,.int .u64 a.siz,.bool a.on]
def p5b(vd vx vl:Value)(a:a9b):List Value:=vd::(a.guid.map (Value.int .u8)++(a.proof.map (Value.int .u8)++F4c vx vl a))
def m5a(w:World)(B:Nat)(cs:List Value)(a:a9b):Prop:=∃Ad nd cd Ax nx cx Al nl cl,cs=p5b (.slice Ad nd cd) (.slice Ax nx cx) (.slice Al nl cl) a/\
 U0a (Value.int .u16) w B Ad nd cd a.dial/\Holds w B Ax nx cx a.data/\L0a K1c 4 w B Al nl cl a.locks
structure P7b where
 dia:Int
 siz:Int
 chal:List Int
 lev:Int
 dur:Int
 made:Int
 file:Int
 kind:Int
 data:List Int
 n:Int
 ents:List F4a
 more:Bool
 gone:Bool
def P7b.tup(a:P7b):(List Int×List Int)×(List Int×List F4a×Bool×Bool):=(([a.dia,a.siz,a.lev,a.dur,a.made,a.file,a.kind,a.n],a.chal),(a.data,a.ents,a.more,a.gone))
theorem P7b.tup_inj{a b:P7b}:a.tup=b.tup↔a=b:=by
 obtain⟨a1,a2,a3,a4,a5,a6,a7,a8,a9,a10,a11,a12,a13⟩:=a;obtain⟨b1,b2,b3,b4,b5,b6,b7,b8,b9,b10,b11,b12,b13⟩:=b;simp only[P7b.tup,Prod.mk.injEq,List.cons.injEq,P7b.mk.injEq,and_true];constructor
 ·rintro⟨⟨⟨h1,h2,h3,h4,h5,h6,h7,h8⟩,h9⟩,h10,h11,h12,h13⟩;exact⟨h1,h2,h9,h3,h4,h5,h6,h7,h10,h8,h11,h12,h13⟩
 ·rintro⟨h1,h2,h9,h3,h4,h5,h6,h7,h10,h8,h11,h12,h13⟩;exact⟨⟨⟨h1,h2,h3,h4,h5,h6,h7,h8⟩,h9⟩,h10,h11,h12,h13⟩
instance:DecidableEq P7b:=λ_ _=>decidable_of_iff _ P7b.tup_inj
structure P7b.ok (a:P7b):Prop where
 dia:0<=a.dia/\a.dia<=65535
 siz:0<=a.siz/\a.siz<=18446744073709551615
 clen:a.chal.length=8
 cbyte:Bytes a.chal
 lev:0<=a.lev/\a.lev<=255
 dur:0<=a.dur/\a.dur<=255
 made:0<=a.made/\a.made<=65535
 file:0<=a.file/\a.file<=18446744073709551615
 kind:0<=a.kind/\a.kind<=255
 data:Bytes a.data
 n:0<=a.n/\a.n<=4294967295
 ents:∀l∈a.ents,l.ok
def G4c(vx ve:Value)(a:P7b):List Value:=[.int .u8 a.lev,.int .u8 a.dur,.int .u16 a.made,.int .u64 a.file,.int .u8 a.kind,vx,.int .u32 a.n,ve,.bool a.more,.bool a.gone]
def q5b(vx ve:Value)(a:P7b):List Value:=.int .u16 a.dia::.int .u64 a.siz::(a.chal.map (Value.int .u8)++G4c vx ve a)
def n5a(w:World)(B:Nat)(cs:List Value)(a:P7b):Prop:=∃Ax nx cx Ae ne ce,cs=q5b (.slice Ax nx cx) (.slice Ae ne ce) a/\Holds w B Ax nx cx a.data/\L0a k1a 3 w B Ae ne ce a.ents
section
variable {w w':World} {B B' g:Nat} {T:TypeId} {cs:List Value} {a:a9b} {s:P7b} {vd vx vl ve:Value}
theorem m5a.keep(h:m5a w B cs a)(hk:∀p:Addr,p.block<B->w'.cell? p=w.cell? p):m5a w' B cs a:=by obtain⟨Ad,nd,cd,Ax,nx,cx,Al,nl,cl,e,h1,h2,h3⟩:=h;exact⟨Ad,nd,cd,Ax,nx,cx,Al,nl,cl,e,h1.keep hk,h2.keep hk,h3.keep hk⟩
theorem m5a.mono(h:m5a w B cs a)(hB:B<=B'):m5a w B' cs a:=by obtain⟨Ad,nd,cd,Ax,nx,cx,Al,nl,cl,e,h1,h2,h3⟩:=h;exact⟨Ad,nd,cd,Ax,nx,cx,Al,nl,cl,e,h1.mono hB,h2.mono hB,h3.mono hB⟩
theorem m5a.below(h:m5a w B cs a)(hb:Below B w w'):m5a w' B cs a:=h.keep λ_ hp=>hb.cell hp
theorem m5a.over(h:m5a w w.heap.size cs a)(hb:Below w.heap.size w w'):m5a w' w'.heap.size cs a:=(h.below hb).mono hb.size
theorem m5a.drewN(h:m5a w B cs a)(k:Nat):m5a (w.drewN k) B cs a:=h.keep λ_ _=>rfl
theorem m5a.drew(h:m5a w B cs a):m5a w.drew B cs a:=h.keep λ_ _=>rfl
theorem n5a.keep(h:n5a w B cs s)(hk:∀p:Addr,p.block<B->w'.cell? p=w.cell? p):n5a w' B cs s:=by obtain⟨Ax,nx,cx,Al,nl,cl,e,h2,h3⟩:=h;exact⟨Ax,nx,cx,Al,nl,cl,e,h2.keep hk,h3.keep hk⟩
theorem n5a.mono(h:n5a w B cs s)(hB:B<=B'):n5a w B' cs s:=by obtain⟨Ax,nx,cx,Al,nl,cl,e,h2,h3⟩:=h;exact⟨Ax,nx,cx,Al,nl,cl,e,h2.mono hB,h3.mono hB⟩
theorem n5a.below(h:n5a w B cs s)(hb:Below B w w'):n5a w' B cs s:=h.keep λ_ hp=>hb.cell hp
theorem n5a.over(h:n5a w w.heap.size cs s)(hb:Below w.heap.size w w'):n5a w' w'.heap.size cs s:=(h.below hb).mono hb.size
theorem n5a.drewN(h:n5a w B cs s)(k:Nat):n5a (w.drewN k) B cs s:=h.keep λ_ _=>rfl
theorem n5a.drew(h:n5a w B cs s):n5a w.drew B cs s:=h.keep λ_ _=>rfl
theorem b9b(k:a.ok):(p5b vd vx vl a).length=69:=by simp[p5b,F4c,k.glen,k.plen]
theorem c9b(k:s.ok):(q5b vx ve s).length=20:=by simp[q5b,G4c,k.clen]
theorem T3b{xs:List Int}{k:IntKind}{v:Value}(h:v∈xs.map (Value.int k)):v.oneCell'=true:=by obtain⟨x,_,rfl⟩:=List.mem_map.1 h;rfl
theorem d9b(hd:vd.oneCell'=true)(hx:vx.oneCell'=true)(hl:vl.oneCell'=true):∀v∈p5b vd vx vl a,v.oneCell'=true:=by
 intro v hv;simp only[p5b,List.mem_cons,List.mem_append] at hv;rcases hv with rfl | hv | hv | hv
 ·exact hd
 ·exact T3b hv
 ·exact T3b hv
 ·simp only[F4c,List.mem_cons,List.not_mem_nil,or_false] at hv;rcases hv with rfl | rfl | rfl | rfl | rfl | rfl | rfl | rfl | rfl | rfl | rfl | rfl | rfl | rfl | rfl | rfl | rfl | rfl | rfl | rfl<;>first | rfl | assumption
theorem e9b(hx:vx.oneCell'=true)(hl:ve.oneCell'=true):∀v∈q5b vx ve s,v.oneCell'=true:=by
 intro v hv;simp only[q5b,List.mem_cons,List.mem_append] at hv;rcases hv with rfl | rfl | hv | hv
 ·rfl
 ·rfl
 ·exact T3b hv
 ·simp only[G4c,List.mem_cons,List.not_mem_nil,or_false] at hv;rcases hv with rfl | rfl | rfl | rfl | rfl | rfl | rfl | rfl | rfl | rfl<;>first | rfl | assumption
theorem m5a.one(h:m5a w B cs a):∀v∈cs,v.oneCell'=true:=by obtain⟨_,_,_,_,_,_,_,_,_,rfl,_⟩:=h;exact d9b rfl rfl rfl
theorem m5a.len(h:m5a w B cs a)(k:a.ok):cs.length=69:=by obtain⟨_,_,_,_,_,_,_,_,_,rfl,_⟩:=h;exact b9b k
theorem n5a.one(h:n5a w B cs s):∀v∈cs,v.oneCell'=true:=by obtain⟨_,_,_,_,_,_,rfl,_⟩:=h;exact e9b rfl rfl
theorem n5a.len(h:n5a w B cs s)(k:s.ok):cs.length=20:=by obtain⟨_,_,_,_,_,_,rfl,_⟩:=h;exact c9b k
theorem Blk.at(h:Blk w g T cs){i:Nat}{v:Value}(e:cs[i]? = some v):w.cell? ⟨g,i,none⟩=some v:=(h.cell i).trans e
end
theorem n9a{α:Type}{xs ys:List α}{k:Nat}{x:α}(hx:xs[k]? = some x)(hy:ys[k]? = some x)(h:xs.take k=ys.take k):xs.take (k+1)=ys.take (k+1):=by obtain⟨h1,e1⟩:=List.getElem?_eq_some_iff.1 hx;obtain⟨h2,e2⟩:=List.getElem?_eq_some_iff.1 hy;rw[List.take_succ_eq_append_getElem h1,List.take_succ_eq_append_getElem h2,h,e1,e2]
theorem e3b{α:Type}[DecidableEq α]{xs ys:List α}{k:Nat}{x y:α}(hx:xs[k]? = some x)(hy:ys[k]? = some y)(h:x≠y):decide (xs=ys)=false:=by
 rw[decide_eq_false_iff_not];rintro rfl;rw[hx] at hy;injection hy with hy
 exact h hy
theorem O1b{α:Type}[DecidableEq α]{xs ys:List α}{n:Nat}(hx:xs.length=n)(hy:ys.length=n)(h:xs.take n=ys.take n):decide (xs=ys)=true:=by
 rw[decide_eq_true_iff]
 rwa [List.take_of_length_le (by omega),List.take_of_length_le (by omega)] at h
section
variable {P:Program} {w:World} {d:Nat} {xs ys:Array Value} {r:List (Bool×TypeId×Nat)} {q:Bool}
theorem bytes_beq(a b:ByteArray):(a.toList==b.toList)=decide (a=b):=by rw[Bool.eq_iff_iff,beq_iff_eq,decide_eq_true_iff,ByteArray.toList_eq,ByteArray.toList_eq];obtain⟨⟨x⟩⟩:=a;obtain⟨⟨y⟩⟩:=b;simp
theorem f9b(t:TypeId)(o:Nat)(x y:ByteArray)(ht:P.underlying t=some .string)(hx:xs[o]? = some (.string x))(hy:ys[o]? = some (.string y))(hr:(D5a (d+1) xs ys r).run P w=.ok q w) :
  (D5a (d+1) xs ys ((false,t,o)::r)).run P w=.ok (decide (x=y)&&q) w:=by
 have p1:(part t xs o).run P w=.ok (.string x) w:=by simp[part,isAgg,run_underlying ht,hx]
 have p2:(part t ys o).run P w=.ok (.string y) w:=by simp[part,isAgg,run_underlying ht,hy]
 simp only[D5a,Bool.false_eq_true,if_false,Sem.run_bind,p1,p2,Result.andThen_ok,run_equalIn_string w d t _ _ ht,bytes_beq];by_cases h:x=y
 ·subst h;simpa using hr
 ·simp[h]
end
theorem P1b:(Tryz.prog.fieldsOf 34).toList.map (λf=>(decide (f.name = "_"),f.type,f.offset))=[(false,32,0),(false,3,1)]:=by kernel_rfl
theorem r5b:(Tryz.prog.fieldsOf 49).toList.map (λf=>(decide (f.name = "_"),f.type,f.offset))=[(false,9,0),(false,34,1)]:=by kernel_rfl
theorem L1c:(Tryz.prog.info? 34).map (·.size)=some 2:=by kernel_rfl
theorem u0b(a b c d:Int)(w:World):(Op.equalIn 9999 34 (.agg #[.int .u8 a,.int .i64 b]) (.agg #[.int .u8 c,.int .i64 d])).run Tryz.prog w=.ok (decide (a=c/\b=d)) w:=by
 rw[show(9999:Nat)=9998+1 from rfl,run_equalIn_struct w 9998 34 _ _ Tryz.underlying34 (by kernel_rfl),z6a,P1b];have h:=S7a (P:=Tryz.prog) (w:=w) (d:=9997) (xs:=#[.int .u8 a,.int .i64 b]) (ys:=#[.int .u8 c,.int .i64 d]) 32 .u8 0 a c Tryz.underlying32 rfl rfl
  (S7a (r:=[]) (q:=true) 3 .i64 1 b d Tryz.underlying3 rfl rfl (by simp[D5a]))
 refine h.trans ?_
 congr 1
 rw[Bool.eq_iff_iff];simp
theorem T9a(a b:F4a)(w:World):(Op.equalIn 10000 49 (.agg (k1a a).toArray) (.agg (k1a b).toArray)).run Tryz.prog w=.ok (decide (a=b)) w:=by
 rw[show(10000:Nat)=9999+1 from rfl,run_equalIn_struct w 9999 49 _ _ Tryz.underlying49 (by kernel_rfl),z6a,r5b];have hs:(D5a 9999 (k1a a).toArray (k1a b).toArray [(false,34,1)]).run Tryz.prog w=.ok (decide (a.kind=b.kind/\a.size=b.size)) w:=by
  obtain⟨j,hj,hj1⟩:∃j,Tryz.prog.info? 34=some j/\j.size=2:=by
   have h2:=L1c;cases hq:Tryz.prog.info? 34 with
   | none=>rw[hq] at h2;cases h2
   | some j=>exact⟨j,rfl,by rw[hq] at h2;simpa using h2⟩
  have p1:∀c:F4a,(part 34 (k1a c).toArray 1).run Tryz.prog w=.ok (.agg #[.int .u8 c.kind,.int .i64 c.size]) w:=λc=>by simp[part,isAgg,run_underlying Tryz.underlying34,sizeOf,typeInfo,hj,hj1,k1a]
  simp only[D5a,Bool.false_eq_true,if_false,Sem.run_bind,p1,Result.andThen_ok,u0b];by_cases h:a.kind=b.kind/\a.size=b.size
  ·simp[h]
  ·simp[h]
 have h:=f9b (P:=Tryz.prog) (w:=w) (d:=9998) (xs:=(k1a a).toArray) (ys:=(k1a b).toArray) 9 0 a.name b.name Tryz.underlying9 rfl rfl hs;refine h.trans ?_
 congr 1
 obtain⟨a0,a1,a2⟩:=a;obtain⟨b0,b1,b2⟩:=b;rw[Bool.eq_iff_iff];simp
theorem K6b:Tryz.prog.eqGuardType Tryz.prog.depth 49=false:=by kernel_rfl
theorem f3b:(Tryz.prog.info? 49).map (·.size)=some 3:=by kernel_rfl
theorem y8a(w:World)(B B':Nat)(A A':Option Addr)(n c n' c':Nat)(xs ys:List F4a)(h:L0a k1a 3 w B A n c xs)(h':L0a k1a 3 w B' A' n' c' ys)(hr:n<=281474976710656)(hr':n'<=281474976710656) :
  Calls Tryz.prog 21 #[.slice A n c,.slice A' n' c'] w λe w'=>e=.returned (.bool (decide (xs=ys)))/\∃k,w.drewN k=w':=by
 have hl:=h.len;have hl':=h'.len;have hf:=h.fit;have hf':=h'.fit;by_cases hn:n=n'
 ·subst hn;have HL:=hI hl;have HL':=hI hl';clear hl hl';go_enter Tryz.func21,Tryz.ntmps21;go_wp2;go_loopw [5] (λi wr=>∃k:Nat,k<=n/\i=.int .i64 k/\Hid (xs.take k=ys.take k)/\∃j,wr=w.drewN j) (λi _=>n-(intOf i).toNat)
  case atStart=>exact⟨0,Nat.zero_le _,rfl,by simp[Hid],0,rfl⟩
  case round=>
   obtain⟨k,hk,rfl,HT,j,rfl⟩:=hrel;by_cases hlt:k<n
   ·obtain⟨b,off,rfl,hb,hc⟩:=h.cells (by omega);obtain⟨b',off',rfl,hb',hc'⟩:=h'.cells (by omega);obtain⟨x,hx⟩:∃x,xs[k]? = some x:=⟨_,List.getElem?_eq_getElem (by have:=HL.out;omega)⟩;obtain⟨y,hy⟩:∃y,ys[k]? = some y:=⟨_,List.getElem?_eq_getElem (by have:=HL'.out;omega)⟩;have rx:=h.range rfl hlt hx;have ry:=h'.range rfl hlt hy;clear hc hc';have HX:=hI hx;have HY:=hI hy;have q0:∀w:World,(Op.equalIn 10000 49 (.agg (k1a x).toArray) (.agg (k1a y).toArray)).run Tryz.prog w=.ok (decide (x=y)) w:=λw=>T9a x y w
    have qg:=K6b;obtain⟨wj,hwj⟩:∃wj,wj=w.drewN j:=⟨_,rfl⟩;have Rx:Hid (wj.rangeAt b (off+k*3) (k1a x)):=by rw[hwj];exact rx
    have Ry:Hid (wj.rangeAt b' (off'+k*3) (k1a y)):=by rw[hwj];exact ry
    rw[<-hwj];have HW:=hI hwj;have LX:Hid ((k1a x).length=3):=rfl;have LY:Hid ((k1a y).length=3):=rfl;obtain⟨cx,hcx⟩:∃cx,cx=k1a x:=⟨_,rfl⟩;obtain⟨cy,hcy⟩:∃cy,cy=k1a y:=⟨_,rfl⟩;rw[<-hcx] at Rx LX q0;rw[<-hcy] at Ry LY q0;obtain⟨z,hz⟩:∃z,z=decide (x=y):=⟨_,rfl⟩;rw[<-hz] at q0;have HZ:=hI hz;clear hx hy hwj rx ry hcx hcy hz;go_upto_region 6 with fail
    refine wp_region_held (S:=λw'=>World.rangeAt w' b (off+k*3) cx/\World.rangeAt w' b' (off'+k*3) cy) (by kernel_rfl) ?_;change wpAnyH _ _ _ _ _ _ _ _ wj.drew
    have S0:Hid (World.rangeAt wj.drew b (off+k*3) cx/\World.rangeAt wj.drew b' (off'+k*3) cy):=⟨Rx.out,Ry.out⟩;have b0:Hid (Below w.heap.size w wj.drew):=by rw[HW.out];exact E0a w (j+1)
    refine tK 0 _ rfl (a0a (by kernel_rfl) (.tmp 0) rfl (.slice (some ⟨b,off,none⟩) n c) (by kernel_rfl)) S0.out ?_;refine tK 1 _ rfl (a0a (by kernel_rfl) (.tmp 5) rfl (.int .i64 k) (by kernel_rfl)) S0.out ?_;refine tK 2 (.pointer (some ⟨b,off+k*3,none⟩)) rfl (.inl ⟨by kernel_rfl,λw _=>by go_simp⟩) S0.out ?_;refine tK 3 _ rfl (yieldsIf_load_mid (by kernel_rfl) _ (.tmp 19) rfl b (off+k*3) (by kernel_rfl) cx _ (λ_ h=>h.1) Tryz.underlying49 rfl (by rw[f3b,LX.out])) S0.out ?_;refine tK 4 _ rfl (a0a (by kernel_rfl) (.tmp 1) rfl (.slice (some ⟨b',off',none⟩) n c') (by kernel_rfl)) S0.out ?_;refine tK 5 _ rfl (a0a (by kernel_rfl) (.tmp 5) rfl (.int .i64 k) (by kernel_rfl)) S0.out ?_;refine tK 6 (.pointer (some ⟨b',off'+k*3,none⟩)) rfl (.inl ⟨by kernel_rfl,λw _=>by go_simp⟩) S0.out ?_;refine tK 7 _ rfl (yieldsIf_load_mid (by kernel_rfl) _ (.tmp 23) rfl b' (off'+k*3) (by kernel_rfl) cy _ (λ_ h=>h.2) Tryz.underlying49 rfl (by rw[f3b,LY.out])) S0.out ?_;refine oN 8 _ rfl λK hK=>?_
    go_simp;refine hK _ _ S0.out ?_;clear hK K;refine dN ?_;have HE:Hid (wj.drew=w.drewN (j+1)):=by show _=_;rw[HW.out];exact World.drewN_drewN w j 1
    cases z
    ·have hS:=hI (e3b HX.out HY.out (by have:=HZ.out;simpa using this.symm));go_wp2_with fail;go_ret;exact⟨a1a hS.out.symm,_,HE.out.symm⟩
    ·have hxy:x=y:=by have:=HZ.out;simpa using this.symm
     have hS:Hid (xs.take (k+1)=ys.take (k+1)):=n9a HX.out (by rw[HY.out,hxy]) HT.out;clear hxy;go_wp2_with fail;go_roundw
     case rel=>exact⟨k+1,by omega,by go_num,hS,_,HE.out⟩
     case measure=>simp[intOf];omega
   ·have hS:=hI (O1b (n:=n) HL.out HL'.out (by have:=HT.out;rwa [show k=n from by omega] at this));clear HT;go_wp2;go_ret;exact⟨a1a hS.out.symm,_,rfl⟩
 ·have e1:decide (xs=ys)=false:=by rw[decide_eq_false_iff_not];rintro rfl;omega
  have hne:((n:Int)==(n':Int))=false:=by simp;omega
  have hne':((n:Int) != (n':Int))=true:=by simp;omega
  rw[e1];clear e1 hl hl';go_enter Tryz.func21,Tryz.ntmps21;go_wp2;go_ret;exact⟨rfl,0,rfl⟩
theorem G3c(w:World)(B B':Nat)(A A':Option Addr)(n c n' c':Nat)(xs ys:List Int)(h:U0a (Value.int .i64) w B A n c xs)(h':U0a (Value.int .i64) w B' A' n' c' ys)(hr:n<=281474976710656)(hr':n'<=281474976710656) :
  Calls Tryz.prog 79 #[.slice A n c,.slice A' n' c'] w λe w'=>e=.returned (.bool (decide (xs=ys)))/\∃k,w.drewN k=w':=by
 have hl:=h.len;have hl':=h'.len;have hf:=h.fit;have hf':=h'.fit;by_cases hn:n=n'
 ·subst hn;have HL:=hI hl;have HL':=hI hl';clear hl hl';go_enter Tryz.func79,Tryz.ntmps79;go_wp2;go_loopw [5] (λi wr=>∃k:Nat,k<=n/\i=.int .i64 k/\Hid (xs.take k=ys.take k)/\∃j,wr=w.drewN j) (λi _=>n-(intOf i).toNat)
  case atStart=>exact⟨0,Nat.zero_le _,rfl,by simp[Hid],0,rfl⟩
  case round=>
   obtain⟨k,hk,rfl,HT,j,rfl⟩:=hrel;by_cases hlt:k<n
   ·obtain⟨b,off,rfl,hb,hc⟩:=h.cells (by omega);obtain⟨b',off',rfl,hb',hc'⟩:=h'.cells (by omega);obtain⟨x,hx⟩:∃x,xs[k]? = some x:=⟨_,List.getElem?_eq_getElem (by have:=HL.out;omega)⟩;obtain⟨y,hy⟩:∃y,ys[k]? = some y:=⟨_,List.getElem?_eq_getElem (by have:=HL'.out;omega)⟩;have gc:=hc k x hx;have gc':=hc' k y hy;clear hc hc';have HX:=hI hx;have HY:=hI hy;clear hx hy;by_cases he:x=y
    ·have hS:Hid (xs.take (k+1)=ys.take (k+1)):=n9a HX.out (by rw[HY.out,he]) HT.out;clear HX HY HT;subst he;have hb0:(x != x)=false:=by simp
     go_wp2;go_quiet (fail);go_wp2;go_roundw
     case rel=>exact⟨k+1,by omega,by go_num,hS,_,rfl⟩
     case measure=>simp[intOf];omega
    ·have hS:=hI (e3b HX.out HY.out he);clear HX HY HT;have hb0:(x != y)=true:=by simpa using he
     clear he;go_wp2;go_quiet (fail);go_wp2;go_ret;exact⟨a1a hS.out.symm,_,(World.drewN_drewN ..).symm⟩
   ·have hS:=hI (O1b (n:=n) HL.out HL'.out (by have:=HT.out;rwa [show k=n from by omega] at this));clear HT;go_wp2;go_ret;exact⟨a1a hS.out.symm,_,rfl⟩
 ·have e1:decide (xs=ys)=false:=by rw[decide_eq_false_iff_not];rintro rfl;omega
  have hne:((n:Int)==(n':Int))=false:=by simp;omega
  have hne':((n:Int) != (n':Int))=true:=by simp;omega
  rw[e1];clear e1 hl hl';go_enter Tryz.func79,Tryz.ntmps79;go_wp2;go_ret;exact⟨rfl,0,rfl⟩
def B5c(x:k0a):F4a:=⟨⟨x.name.toArray⟩,x.kind,(x.B.length:Nat)⟩
theorem L0a.ents{w:World}{B n c:Nat}{A:Option Addr}{l:List k0a}(h:L0a W0a 3 w B A n c l):L0a k1a 3 w B A n c (l.map B5c):=by
 refine⟨by rw[List.length_map];exact h.len,h.fit,h.bare,λh0=>?_⟩;obtain⟨b,off,e,hb,hc⟩:=h.cells h0;refine⟨b,off,e,hb,λi z hi j u hj=>?_⟩;rw[List.getElem?_map] at hi;cases hq:l[i]? with
 | none=>rw[hq] at hi;cases hi
 | some x=>
  rw[hq] at hi;injection hi with hi
  subst hi;exact hc i x hq j u hj
theorem M1c{out:List VP}{x:k0a}{k:Nat}(hk:k<=out.length)(h:∀j (hj:j<out.length),j<k->e1a out[j].1.name x.name=true)(he:k=out.length∨∃hk:k<out.length,e1a out[k].1.name x.name=false):c4c out x=k:=by
 unfold c4c;rcases he with rfl | ⟨hk2,e⟩
 ·rw[List.findIdx_eq_length];intro y hy;obtain⟨j,hj,rfl⟩:=List.mem_iff_getElem.1 hy;rw[h j hj hj];rfl
 ·rw[List.findIdx_eq hk2];exact⟨by rw[e];rfl,λj hj=>by rw[h j (by omega) hj];rfl⟩
theorem g9b{out:List VP}{y z:VP}(h:z∈m7a out y):z=y∨z∈out:=by
 unfold m7a at h;rcases List.mem_append.1 h with h | h
 ·rcases List.mem_append.1 h with h | h
  ·exact .inr (List.mem_of_mem_take h)
  ·exact .inl (List.mem_singleton.1 h)
 ·exact .inr (List.mem_of_mem_drop h)
theorem Q1b:∀(l out:List VP) {z:VP},z∈l.foldl m7a out->z∈l∨z∈out
 | [],out,z,h=>.inr h
 | y::r,out,z,h=>by
  rw[List.foldl_cons] at h;rcases Q1b r _ h with h | h
  ·exact .inl (List.mem_cons_of_mem _ h)
  ·rcases g9b h with rfl | h
   ·exact .inl (List.mem_cons_self ..)
   ·exact .inr h
theorem s5b{M:List VP}{d:Int}{k:Nat}{z:VP}(h:z∈j2a M d k):z∈M:=by
 unfold j2a at h;rcases Q1b _ _ h with h | h
 ·exact List.mem_of_mem_take (List.mem_filter.1 h).1
 ·cases h
theorem Q7b{w:World}{B g n c:Nat}{A:Option Addr}{xs:List VP}(h:L0a C0a 5 w B A n c xs)(hA:∀ad,A=some ad->∃g,ad=⟨g,0,none⟩)(hc:c<=maxLen){k:Nat}(hk:k<=n) :
  (∃A1 c1,(∀w,(Instr.sliceAt 99 (.slice A n c) none (some (.int .i64 (k:Nat))) none).run Tryz.prog w=.ok (.slice A1 k c1) w)/\L0a C0a 5 w B A1 k c1 (xs.take k))/\
  (∃A2 m2 c2,(∀w,(Instr.sliceAt 99 (.slice A n c) (some (.int .i64 (k:Nat))) none none).run Tryz.prog w=.ok (.slice A2 m2 c2) w)/\L0a C0a 5 w B A2 m2 c2 (xs.drop k)):=by
 unfold maxLen at hc;have hnc:=h.fit;have e1:(k:Int)<=(n:Int):=by omega
 have e2:(n:Int)<=(c:Int):=by omega
 have e3:(k:Int)<=(c:Int):=by omega
 have hlen:=h.len;rcases A with _ | ad
 ·obtain rfl:c=0:=h.bare rfl;obtain rfl:n=0:=by omega
  obtain rfl:k=0:=by omega
  refine⟨⟨none,0,λw=>by go_simp,?_⟩,⟨none,0,0,λw=>by go_simp,?_⟩⟩
  ·exact⟨by simp,by omega,λ_=>rfl,λh=>absurd h (by omega)⟩
  ·exact⟨by rw[List.length_drop];omega,by omega,λ_=>rfl,λh=>absurd h (by omega)⟩
 ·obtain⟨g,rfl⟩:=hA ad rfl;by_cases hc0:c=0
  ·subst hc0;obtain rfl:n=0:=by omega
   obtain rfl:k=0:=by omega
   refine⟨⟨some ⟨g,0,none⟩,0,λw=>by go_simp,?_⟩,⟨some ⟨g,0,none⟩,0,0,λw=>by go_simp,?_⟩⟩
   ·exact⟨by simp,by omega,(λe=>by cases e),λh=>absurd h (by omega)⟩
   ·exact⟨by rw[List.length_drop];omega,by omega,(λe=>by cases e),λh=>absurd h (by omega)⟩
  ·refine⟨⟨some ⟨g,0,none⟩,c,λw=>by go_simp,h.preV hk⟩,?_⟩;by_cases hck:c=k
   ·have hnk:n=k:=by omega
    subst hck;refine⟨some ⟨g,0,none⟩,0,0,λw=>by go_simp,?_⟩;exact⟨by rw[List.length_drop];omega,by omega,(λe=>by cases e),λh=>absurd h (by omega)⟩
   ·refine⟨some ⟨g,k*5,none⟩,n-k,c-k,λw=>by go_simp,?_⟩;by_cases hkn:k<n
    ·exact h.dropV hkn
    ·exact⟨by rw[List.length_drop];omega,by omega,(λe=>by cases e),λh=>absurd h (by omega)⟩
theorem j1a.headV{α:Type}{f:α->List Value}{s:Nat}{e:TypeId}{w:World}{base n c:Nat}{A:Option Addr}{xs:List α}(h:j1a f s e w base (.slice A n c) xs):(∀ad,A=some ad->∃g,ad=⟨g,0,none⟩)/\c<=maxLen:=by
 rcases h.2 with⟨h1,_⟩ | ⟨g,cap,_,h1,_,_,_,h2,_⟩
 ·injection h1 with h1 h2 h3
  subst h1 h3;exact⟨(λad e=>by cases e),by unfold maxLen;omega⟩
 ·injection h1 with h1 _ h3
  subst h1 h3;exact⟨λad e=>⟨g,by injection e with e;exact e.symm⟩,h2⟩
theorem L6b(w:World)(base g:Nat)(v:Value)(V:X0a)(M:List VP)(d:T2a w base g v V M)(dn:Int) :
  Calls Tryz.prog 57 #[.pointer (some ⟨g,0,none⟩),.int .i64 dn] w λe w'=>∃u,e=.returned u/\j1a C0a 5 98 w' w.heap.size u (L1b M dn)/\Below w.heap.size w w':=by
 obtain⟨A,c,rfl⟩:=d.len;have k0:w.cell? ⟨g,2,none⟩=some (.slice A V.l.length c):=d.blk.cell 2;have hsm:=d.ok.many;have D:=hI d;have hML:M.length=V.l.length:=by rw[<-d.is,List.length_map]
 obtain⟨n,hn⟩:∃n,n=V.l.length:=⟨_,rfl⟩;rw[<-hn] at k0 hsm hML;have HN:=hI hn;have HM:=hI hML;clear d hn hML;go_enter Tryz.func57,Tryz.ntmps57;go_wp2_with fail;go_loopw [5,6] (λO I wr=>∃i:Nat,i<=n/\I=.int .i64 (i:Nat)/\Hid (j1a C0a 5 98 wr w.heap.size O (j2a M dn i))/\Hid (Below w.heap.size w wr)) (λ_ I _=>n-(intOf I).toNat)
 case atStart=>exact⟨0,Nat.zero_le _,rfl,j1a.nil _ _ _ _ _,Below.refl _ _⟩
 case round=>
  obtain⟨i,hi,rfl,OR,LR⟩:=hrel
  rename World=>w1
  have k0':w1.cell? ⟨g,2,none⟩=some (.slice A n c):=(LR.out.cell (d0a k0)).trans k0;by_cases hlt:i<n
  ·have hil:i<V.l.length:=by have:=HN.out;omega
   have hiM:i<M.length:=by have:=HM.out;omega
   have D1:=hI (D.out.below LR.out);obtain⟨q,c',e,hnc,hcm,k1,kk,k2,k3,_,k4⟩:=D1.out.at hil;injection e with e1 e2 e3
   subst e1 e3;obtain⟨hm,hei⟩:=D1.out.get hil;obtain⟨xp,hxp⟩:∃u,u=V.l[i].par:=⟨_,rfl⟩;rw[<-hxp] at k2;have HXP:=hI hxp;by_cases he:xp=dn
   ·have t:(xp != dn)=false:=by simpa using he
    have HONE:Hid (j2a M dn (i+1)=m7a (j2a M dn i) M[i]):=I6b hiM (by rw[hei,<-hxp];exact he);have HL:Hid ((j2a M dn i).length<=256):=by show _<=_;have:=N1b M dn i;have:=HM.out;omega
    have HNM:Hid (∀y∈j2a M dn i,y.1.name.length<=1048576):=λy hy=>D1.out.name (s5b hy)
    obtain⟨xn,hxn⟩:∃u,u=V.l[i].n:=⟨_,rfl⟩;obtain⟨xk,hxk⟩:∃u,u=V.l[i].kind:=⟨_,rfl⟩;obtain⟨N,hNm⟩:∃N:ByteArray,N=⟨V.l[i].name.toArray⟩:=⟨_,rfl⟩;obtain⟨xv,hxv⟩:∃u,u=T5b M[i].2:=⟨_,rfl⟩;have hv1:V0a V.l[i].name=.string N:=by rw[hNm];rfl
    have HNL:Hid (N.data.toList=M[i].1.name):=by show _=_;rw[hei,hNm]
    have HNS:Hid (N.size<=1048576):=by
     show _<=_
     rw[Lib.size_eq,HNL.out];exact D1.out.name (List.getElem_mem hiM)
    have HCS:Hid (#[Value.int .i64 xn,.int .u8 xk,.int .i64 xp,.string N,xv]=(C0a M[i]).toArray):=by
     show _=_
     unfold C0a;rw[hei,<-hxn,<-hxk,<-hxp,hv1,<-hxv]
    rw[<-hxn] at k1;rw[<-hxk] at kk;rw[hv1] at k3;rw[<-hxv] at k4;have RG:Hid (∀w',Below w1.heap.size w1 w'->w'.rangeAt q (i*5) [.int .i64 xn,.int .u8 xk,.int .i64 xp,.string N,xv]):=λw' hb j u hj=>by
     match j,hj with
     | 0,hj=>injection hj with hj;subst hj;exact(hb.cell (d0a k1)).trans k1
     | 1,hj=>injection hj with hj;subst hj;exact(hb.cell (d0a kk)).trans kk
     | 2,hj=>injection hj with hj;subst hj;exact(hb.cell (d0a k2)).trans k2
     | 3,hj=>injection hj with hj;subst hj;exact(hb.cell (d0a k3)).trans k3
     | 4,hj=>injection hj with hj;subst hj;exact(hb.cell (d0a k4)).trans k4
    obtain⟨out,hout⟩:∃out,out=j2a M dn i:=⟨_,rfl⟩;rw[<-hout] at HONE HL HNM OR;obtain⟨Ao,l,co,rfl,hh⟩:=OR.out.holds (by decide) K0a;have hlen:=hh.len;have HAD:=hI OR.out.headV.1;have hcm2:=OR.out.headV.2;have hco:co<=9223372036854775807:=by unfold maxLen at hcm2;exact hcm2
    have HO:=hI hh;have hfit:=hh.fit;have hl256:l<=256:=by have:=HL.out;omega
    have HLE:=hI hlen;clear he hei hxn hxk hNm hxv hv1 hout hh hlen e2 D1 hxp OR k1 kk k4;go_wp2_with fail;go_loopw [7] (λK w2=>∃k:Nat,k<=l/\K=.int .i64 (k:Nat)/\Hid (∀j (hj:j<out.length),j<k->e1a out[j].1.name M[i].1.name=true)/\Hid (Below w1.heap.size w1 w2)) (λK _=>l-(intOf K).toNat)
    case atStart=>exact⟨0,Nat.zero_le _,rfl,(λj _ h=>absurd h (Nat.not_lt_zero _)),Below.refl _ _⟩
    case round=>
     obtain⟨k,hkl,rfl,AH,L2⟩:=hrel
     rename World=>w2
     by_cases hkn:k<l
     ·have hko:k<out.length:=by have:=HLE.out;omega
      obtain⟨p,off,rfl,hb,hc⟩:=(HO.out.below L2.out).cells (by omega);obtain⟨g0,eg⟩:=HAD.out _ rfl;injection eg with e4 e5
      subst e4 e5;obtain⟨X,hX⟩:∃X:ByteArray,X=⟨out[k].1.name.toArray⟩:=⟨_,rfl⟩;have kX:w2.cell? ⟨p,k*5+3,none⟩=some (.string X):=by have:=hc k out[k] (List.getElem?_eq_getElem hko) 3 (V0a out[k].1.name) rfl;rw[Nat.zero_add] at this;rw[this,hX];rfl
      have HXL:Hid (X.data.toList=out[k].1.name):=by show _=_;rw[hX]
      have hXs:X.size<=1048576:=by rw[Lib.size_eq,HXL.out];exact HNM.out _ (List.getElem_mem hko)
      have j0:w2.cell? ⟨g,2,none⟩=some (.slice (some ⟨q,0,none⟩) n c):=(L2.out.cell (d0a k0')).trans k0';have j3:w2.cell? ⟨q,i*5+3,none⟩=some (.string N):=(L2.out.cell (d0a k3)).trans k3;have ez:ahd X N=e1a out[k].1.name M[i].1.name:=by unfold ahd;rw[HXL.out,HNL.out]
      obtain⟨z,hz⟩:∃z,z=e1a out[k].1.name M[i].1.name:=⟨_,rfl⟩;rw[<-hz] at ez;have HZ:=hI hz;have hNs:=HNS.out;have CA:Hid (∀w',Calls Tryz.prog 58 #[.string X,.string N] w' λe w2=>e=.returned (.bool z)/\Below w'.heap.size w' w2):=λw'=>by have:=F1b X N w' (by omega) (by omega);rw[ez] at this;exact this
      have tkl:((k:Int)<(l:Int)):=by omega
      have tkl2:decide ((k:Int)<(l:Int))=true:=decide_eq_true tkl;clear hc hX HXL ez hz;go_wp2_with fail;refine wp_region_held (S:=λw'=>w'.cell? ⟨p,k*5+3,none⟩=some (.string X)/\w'.cell? ⟨g,2,none⟩=some (.slice (some ⟨q,0,none⟩) n c)/\w'.cell? ⟨q,i*5+3,none⟩=some (.string N)) (by kernel_rfl) ?_;change wpAnyH _ _ _ _ _ _ _ _ w2.drew
      have Sr0:Hid (w2.drew.cell? ⟨p,k*5+3,none⟩=some (.string X)/\w2.drew.cell? ⟨g,2,none⟩=some (.slice (some ⟨q,0,none⟩) n c)/\w2.drew.cell? ⟨q,i*5+3,none⟩=some (.string N)):=⟨kX,j0,j3⟩;have br0:Hid (Below w1.heap.size w1 w2.drew):=L2.out.drew;refine tK 0 _ rfl (a0a (by kernel_rfl) (.tmp 7) rfl (.int .i64 (k:Nat)) (by kernel_rfl)) Sr0.out ?_;refine tK 1 _ rfl (a0a (by kernel_rfl) (.tmp 5) rfl (.slice (some ⟨p,0,none⟩) l co) (by kernel_rfl)) Sr0.out ?_;refine tK 2 (.int .i64 (l:Nat)) rfl (.inl ⟨by kernel_rfl,λw _=>by go_simp⟩) Sr0.out ?_;refine tK 3 (.bool true) rfl (.inl ⟨by kernel_rfl,λw _=>by go_simp⟩) Sr0.out ?_;refine tK 4 _ rfl (a0a (by kernel_rfl) (.tmp 31) rfl (.bool true) (by kernel_rfl)) Sr0.out ?_;refine tK 5 _ rfl (a0a (by kernel_rfl) (.tmp 5) rfl (.slice (some ⟨p,0,none⟩) l co) (by kernel_rfl)) Sr0.out ?_;refine tK 6 _ rfl (a0a (by kernel_rfl) (.tmp 7) rfl (.int .i64 (k:Nat)) (by kernel_rfl)) Sr0.out ?_;refine tK 7 (.pointer (some ⟨p,k*5,none⟩)) rfl (.inl ⟨by kernel_rfl,λw _=>by go_simp⟩) Sr0.out ?_;refine tK 8 _ rfl (e0a (by kernel_rfl) _ (.tmp 35) 3 rfl (.pointer (some ⟨p,k*5,none⟩)) (.pointer (some ⟨p,k*5+3,none⟩)) (by kernel_rfl) (λw=>by go_simp)) Sr0.out ?_;refine tK 9 _ rfl (b0a (by kernel_rfl) _ (.tmp 36) rfl p (k*5+3) (by kernel_rfl) (.string X) (λ_ h=>h.1) _ Tryz.underlying9 rfl) Sr0.out ?_;refine tK 10 _ rfl (a0a (by kernel_rfl) (.tmp 0) rfl (.pointer (some ⟨g,0,none⟩)) (by kernel_rfl)) Sr0.out ?_;refine tK 11 _ rfl (p0a (by kernel_rfl) (.tmp 38) rfl ⟨g,0,none⟩ (by kernel_rfl)) Sr0.out ?_;refine tK 12 _ rfl (e0a (by kernel_rfl) _ (.tmp 39) 2 rfl (.pointer (some ⟨g,0,none⟩)) (.pointer (some ⟨g,2,none⟩)) (by kernel_rfl) (λw=>by go_simp)) Sr0.out ?_;refine tK 13 _ rfl (b0a (by kernel_rfl) _ (.tmp 40) rfl g (2) (by kernel_rfl) (.slice (some ⟨q,0,none⟩) n c) (λ_ h=>h.2.1) _ Tryz.underlying99 rfl) Sr0.out ?_;refine tK 14 _ rfl (a0a (by kernel_rfl) (.tmp 6) rfl (.int .i64 (i:Nat)) (by kernel_rfl)) Sr0.out ?_;refine tK 15 (.pointer (some ⟨q,i*5,none⟩)) rfl (.inl ⟨by kernel_rfl,λw _=>by go_simp⟩) Sr0.out ?_;refine tK 16 _ rfl (e0a (by kernel_rfl) _ (.tmp 43) 3 rfl (.pointer (some ⟨q,i*5,none⟩)) (.pointer (some ⟨q,i*5+3,none⟩)) (by kernel_rfl) (λw=>by go_simp)) Sr0.out ?_;refine tK 17 _ rfl (b0a (by kernel_rfl) _ (.tmp 44) rfl q (i*5+3) (by kernel_rfl) (.string N) (λ_ h=>h.2.2) _ Tryz.underlying9 rfl) Sr0.out ?_;refine oN 18 _ rfl λK hK=>?_
      go_simp;refine(CA.out _).mono ?_;rintro e vr1 ⟨rfl,l1⟩;have Sr1:Hid (vr1.cell? ⟨p,k*5+3,none⟩=some (.string X)/\vr1.cell? ⟨g,2,none⟩=some (.slice (some ⟨q,0,none⟩) n c)/\vr1.cell? ⟨q,i*5+3,none⟩=some (.string N)):=⟨(l1.cell (d0a Sr0.out.1)).trans Sr0.out.1,(l1.cell (d0a Sr0.out.2.1)).trans Sr0.out.2.1,(l1.cell (d0a Sr0.out.2.2)).trans Sr0.out.2.2⟩;have br1:Hid (Below w1.heap.size w1 vr1):=br0.out.trans (l1.mono br0.out.size);refine hK _ _ Sr1.out ?_;clear hK K l1;refine tK 19 (.bool z) rfl (.inl ⟨by kernel_rfl,λw _=>by go_simp⟩) Sr1.out ?_;refine dN ?_;cases z with
      | true=>
       go_wp2_with fail;go_roundw
       case rel=>
        refine⟨k+1,by omega,by go_num,(λj hj hjk=>?_),br1⟩;rcases Nat.lt_or_ge j k with h' | h'
        ·exact AH.out j hj h'
        ·obtain rfl:j=k:=by omega
         exact HZ.out.symm
       case measure=>simp[intOf];omega
      | false=>
       have HEND:Hid (c4c out M[i].1=k):=M1c (by omega) AH.out (.inr ⟨hko,HZ.out.symm⟩);obtain⟨w3,hw3⟩:∃w3,w3=vr1:=⟨_,rfl⟩;rw[<-hw3] at br1⊢;have L3:=hI br1.out;clear hw3 br1 Sr1 Sr0 br0 L2 CA kX j0 j3 HZ;have HIX:Hid (m7a out M[i]=(([]++out.take k)++[M[i]])++out.drop k):=by
        show _=_
        unfold m7a;rw[HEND.out,List.nil_append]
       have hw3:=L3.out.size;have H3:=HO.out.over L3.out;obtain⟨⟨A1,c1',sl1,hs1⟩,⟨A2,m2,c2',sl2,hs2⟩⟩:=Q7b (g:=0) H3 HAD.out hcm2 hkl;have S1:=hI hs1;have S2:=hI hs2;have kk0:w3.cell? ⟨g,2,none⟩=some (.slice (some ⟨q,0,none⟩) n c):=(L3.out.cell (d0a k0')).trans k0';have kr:=hI (RG.out w3 L3.out);clear hs1 hs2 H3;go_wp2_with(first
        | ((with_reducible refine sN 54 ?_);go_loud (refine o1a rfl (.tmp 50) (.tmp 53) C0a 5 (by decide) K0a N1a (.agg G1a.toArray) rfl 99 98 48 Tryz.underlying99 Z2a rfl w3.heap.size _ [] rfl (j1a.nil _ _ _ _ _) w3.heap.size _ _ _ (out.take k) rfl S1.out (by have:=HL.out;simp only[List.length_nil,List.length_take];omega) (by have:=HL.out;simp only[List.length_nil,List.length_take];omega) (Nat.le_refl _) ?_);intro v4 w4 O4 L4;have kk4:w4.cell? ⟨g,2,none⟩=some (.slice (some ⟨q,0,none⟩) n c):=(L4.out.cell (d0a kk0)).trans kk0;have kr4:=hI (RG.out w4 (L3.out.trans (L4.out.mono L3.out.size))))
        | ((with_reducible refine sN 62 ?_);go_loud (refine wpList_load_mid rfl _ (.tmp 61) rfl q (i*5) rfl [.int .i64 xn,.int .u8 xk,.int .i64 xp,.string N,xv] _ kr4.out Tryz.underlying98 rfl (by rw[H3a];rfl) ?_))
        | ((with_reducible refine sN 64 ?_);go_loud (refine C5a C0a 5 (by decide) K0a N1a (.agg G1a.toArray) rfl 99 98 48 rfl (.tmp 55) (.tmp 63) Tryz.underlying99 Z2a rfl w3.heap.size v4 ([]++out.take k) M[i] _ HCS.out rfl rfl O4.out (by have:=HL.out;simp only[List.length_append,List.length_nil,List.length_take];omega) (by have:=HL.out;simp only[List.length_append,List.length_nil,List.length_take];omega) L4.out.size ?_);intro v5 w5 O5 A5;have L5:Hid (Below w3.heap.size w4 w5):=A5.out.below (λj hj=>(O4.out.block hj).1) L4.out.size;have L35:=hI (L4.out.trans L5.out))
        | ((with_reducible refine sN 69 ?_);go_loud (refine o1a rfl (.tmp 65) (.tmp 68) C0a 5 (by decide) K0a N1a (.agg G1a.toArray) rfl 99 98 48 Tryz.underlying99 Z2a rfl w3.heap.size _ (([]++out.take k)++[M[i]]) rfl O5.out w3.heap.size _ _ _ (out.drop k) rfl (S2.out.below L35.out) (by have:=HL.out;simp only[List.length_append,List.length_cons,List.length_nil,List.length_take,List.length_drop];omega) (by have:=HL.out;simp only[List.length_append,List.length_cons,List.length_nil,List.length_take,List.length_drop];omega) L35.out.size ?_);intro v6 w6 O6 L6)
        | fail)
       have L36:=hI (L35.out.trans L6.out);have L6w:=hI (step LR.out (L3.out.trans (L36.out.mono L3.out.size)));have O6':Hid (j1a C0a 5 98 w6 w.heap.size v6 (j2a M dn (i+1))):=by
        show j1a _ _ _ _ _ _ _
        rw[HONE.out,HIX.out];exact O6.out.mono (Nat.le_trans LR.out.size hw3)
       clear O6 O5 O4 S1 S2 L36 L35 L6 L5 A5 L4 kr kr4 kk0 kk4 sl1 sl2;go_wp2_with fail;go_roundw
       case rel=>exact⟨i+1,by omega,by go_num,O6',L6w⟩
       case measure=>simp[intOf];omega
     ·obtain rfl:k=l:=by omega
      have tk:decide ((k:Int)<(k:Int))=false:=by simp
      go_wp2_with fail;go_quiet (fail);obtain⟨w3,hw3⟩:∃u,u=w2.drewN nq:=⟨_,rfl⟩;have L3:Hid (Below w1.heap.size w1 w3):=by rw[hw3];exact L2.out.trans ((E0a w2 nq).mono L2.out.size)
      have HEND:Hid (c4c out M[i].1=k):=M1c (by have:=HLE.out;omega) AH.out (.inl HLE.out.symm);rw[<-hw3];clear hw3 tk L2;have HIX:Hid (m7a out M[i]=(([]++out.take k)++[M[i]])++out.drop k):=by
       show _=_
       unfold m7a;rw[HEND.out,List.nil_append]
      have hw3:=L3.out.size;have H3:=HO.out.over L3.out;obtain⟨⟨A1,c1',sl1,hs1⟩,⟨A2,m2,c2',sl2,hs2⟩⟩:=Q7b (g:=0) H3 HAD.out hcm2 hkl;have S1:=hI hs1;have S2:=hI hs2;have kk0:w3.cell? ⟨g,2,none⟩=some (.slice (some ⟨q,0,none⟩) n c):=(L3.out.cell (d0a k0')).trans k0';have kr:=hI (RG.out w3 L3.out);clear hs1 hs2 H3;go_wp2_with(first
       | ((with_reducible refine sN 54 ?_);go_loud (refine o1a rfl (.tmp 50) (.tmp 53) C0a 5 (by decide) K0a N1a (.agg G1a.toArray) rfl 99 98 48 Tryz.underlying99 Z2a rfl w3.heap.size _ [] rfl (j1a.nil _ _ _ _ _) w3.heap.size _ _ _ (out.take k) rfl S1.out (by have:=HL.out;simp only[List.length_nil,List.length_take];omega) (by have:=HL.out;simp only[List.length_nil,List.length_take];omega) (Nat.le_refl _) ?_);intro v4 w4 O4 L4;have kk4:w4.cell? ⟨g,2,none⟩=some (.slice (some ⟨q,0,none⟩) n c):=(L4.out.cell (d0a kk0)).trans kk0;have kr4:=hI (RG.out w4 (L3.out.trans (L4.out.mono L3.out.size))))
       | ((with_reducible refine sN 62 ?_);go_loud (refine wpList_load_mid rfl _ (.tmp 61) rfl q (i*5) rfl [.int .i64 xn,.int .u8 xk,.int .i64 xp,.string N,xv] _ kr4.out Tryz.underlying98 rfl (by rw[H3a];rfl) ?_))
       | ((with_reducible refine sN 64 ?_);go_loud (refine C5a C0a 5 (by decide) K0a N1a (.agg G1a.toArray) rfl 99 98 48 rfl (.tmp 55) (.tmp 63) Tryz.underlying99 Z2a rfl w3.heap.size v4 ([]++out.take k) M[i] _ HCS.out rfl rfl O4.out (by have:=HL.out;simp only[List.length_append,List.length_nil,List.length_take];omega) (by have:=HL.out;simp only[List.length_append,List.length_nil,List.length_take];omega) L4.out.size ?_);intro v5 w5 O5 A5;have L5:Hid (Below w3.heap.size w4 w5):=A5.out.below (λj hj=>(O4.out.block hj).1) L4.out.size;have L35:=hI (L4.out.trans L5.out))
       | ((with_reducible refine sN 69 ?_);go_loud (refine o1a rfl (.tmp 65) (.tmp 68) C0a 5 (by decide) K0a N1a (.agg G1a.toArray) rfl 99 98 48 Tryz.underlying99 Z2a rfl w3.heap.size _ (([]++out.take k)++[M[i]]) rfl O5.out w3.heap.size _ _ _ (out.drop k) rfl (S2.out.below L35.out) (by have:=HL.out;simp only[List.length_append,List.length_cons,List.length_nil,List.length_take,List.length_drop];omega) (by have:=HL.out;simp only[List.length_append,List.length_cons,List.length_nil,List.length_take,List.length_drop];omega) L35.out.size ?_);intro v6 w6 O6 L6)
       | fail)
      have L36:=hI (L35.out.trans L6.out);have L6w:=hI (step LR.out (L3.out.trans (L36.out.mono L3.out.size)));have O6':Hid (j1a C0a 5 98 w6 w.heap.size v6 (j2a M dn (i+1))):=by
       show j1a _ _ _ _ _ _ _
       rw[HONE.out,HIX.out];exact O6.out.mono (Nat.le_trans LR.out.size hw3)
      clear O6 O5 O4 S1 S2 L36 L35 L6 L5 A5 L4 kr kr4 kk0 kk4 sl1 sl2;go_wp2_with fail;go_roundw
      case rel=>exact⟨i+1,by omega,by go_num,O6',L6w⟩
      case measure=>simp[intOf];omega
   ·have t:(xp != dn)=true:=by simpa using he
    have HNOT:Hid (j2a M dn (i+1)=j2a M dn i):=H6b hiM (by rw[hei,<-hxp];exact he);rw[<-HNOT.out] at OR;clear he hei hxp e2 D1;go_wp2_with fail;go_roundw
    case rel=>exact⟨i+1,by omega,by go_num,OR,LR⟩
    case measure=>simp[intOf];omega
  ·obtain rfl:i=n:=by omega
   have HALL:Hid (j2a M dn i=L1b M dn):=by show _=_;rw[<-M1b,HM.out]
   rw[HALL.out] at OR;go_wp2_with fail;go_ret;exact⟨_,rfl,OR.out,LR.out⟩
noncomputable def g3b (p a:o0a) (x:k0a):Bool:=E3a p x.name&&(decide (a=[])||e1a a x.name)
noncomputable def W2a (L:List k0a) (p a:o0a) (k:Nat):List k0a:=(L.take k).filter (g3b p a)
section
variable {L:List k0a} {V:X0a} {p a s:o0a} {k:Nat} {n m:Int} {x:k0a} {w w':World}
theorem H3c(hk:L.length<=k):W2a L p a k=L.filter (g3b p a):=by unfold W2a;rw[List.take_of_length_le hk]
theorem R7b(hk:k<L.length)(h:g3b p a L[k]=false):W2a L p a (k+1)=W2a L p a k:=by unfold W2a;rw[List.take_succ_eq_append_getElem hk,List.filter_append,List.filter_cons,h];simp
theorem U3b(hk:k<L.length)(h:g3b p a L[k]=true):W2a L p a (k+1)=W2a L p a k++[L[k]]:=by unfold W2a;rw[List.take_succ_eq_append_getElem hk,List.filter_append,List.filter_cons,h];simp
theorem N1c:(W2a L p a k).length<=L.length:=by unfold W2a;have h1:=List.length_filter_le (g3b p a) (L.take k);rw[List.length_take] at h1;omega
theorem t5b(hk:k<L.length)(h:g3b p a L[k]=true)(hm:((W2a L p a k).length:Int)=m):(L.filter (g3b p a)).take m.toNat=W2a L p a k/\decide (m<((L.filter (g3b p a)).length:Int))=true:=by
 have e:L.filter (g3b p a)=W2a L p a (k+1)++(L.drop (k+1)).filter (g3b p a):=by unfold W2a;rw[<-List.filter_append,List.take_append_drop]
 rw[e,U3b hk h];refine⟨?_,?_⟩
 ·rw[List.append_assoc,List.take_left' (by omega)]
 ·simp only[List.length_append,List.length_cons,List.length_nil,decide_eq_true_eq];omega
theorem O1c(hk:L.length<=k)(hm:((W2a L p a k).length:Int)<=m):(L.filter (g3b p a)).take m.toNat=W2a L p a k/\decide (m<((L.filter (g3b p a)).length:Int))=false:=by rw[<-H3c hk];exact⟨List.take_of_length_le (by omega),decide_eq_false (by omega)⟩
theorem P1c(x:k0a)(cs:List Value)(hc:W0a x=cs)(w:World)(b:Nat)(h:Blk w b 49 cs):∀j u,([x].flatMap W0a)[j]? = some u->w.cell? ⟨b,0+j,none⟩=some u:=λj u hj=>by rw[Nat.zero_add,h.cell,<-hc,<-hj];simp
end
theorem R1b(w:World)(base g:Nat)(v:Value)(V:X0a)(M:List VP)(d:T2a w base g v V M)(dn m:Int)(pl al:o0a)(hp:pl.length<=1048576)(ha:al.length<=1048576) :
  Calls Tryz.prog 20 #[.pointer (some ⟨g,0,none⟩),.int .i64 dn,V0a pl,V0a al,.int .i64 m] w (d3a w V.l dn pl al m):=by
 have hE:Z3a V.l dn pl al m=if (vAt V.l dn).isSome=false then 7 else if z0a V.l dn≠1 then 9 else if m<0 then 2 else if M0a pl []≠0 then M0a pl [] else if u0a al=true then 0 else 5:=rfl
 have HQ:Hid (∀E,Z3a V.l dn pl al m=E->E≠0->∀w',Below w.heap.size w w'->d3a w V.l dn pl al m (.returned (.tuple #[.slice none 0 0,.bool false,.int .i64 E])) w'):=λE h1 h2 w' h3=>d3a.err h1 h2 h3
 have hc1:=V2a w base g v V M d dn;obtain⟨P0,hP0⟩:∃S:ByteArray,S=⟨pl.toArray⟩:=⟨_,rfl⟩;obtain⟨A0,hA0⟩:∃S:ByteArray,S=⟨al.toArray⟩:=⟨_,rfl⟩;have hP1:V0a pl=.string P0:=by rw[hP0];rfl
 have hA1:V0a al=.string A0:=by rw[hA0];rfl
 have HP2:Hid (P0.data.toList=pl):=by show _=_;rw[hP0]
 have HA2:Hid (A0.data.toList=al):=by show _=_;rw[hA0]
 have hP3:P0.size<=4398046511104:=by rw[Lib.size_eq,HP2.out];omega
 have hA3:A0.size<=4398046511104:=by rw[Lib.size_eq,HA2.out];omega
 rw[hP1,hA1];clear hP0 hA0 hP1 hA1;cases hat:vAt V.l dn with
 | none=>
  have hpl:C3a V.l dn=-1:=by unfold C3a;rw[if_neg];intro hlt;unfold vAt at hat;rw[List.getElem?_eq_getElem hlt] at hat;cases hat
  rw[hpl] at hc1;rw[hat] at hE;have C1:Hid (Calls _ _ _ _ λe w'=>e=_/\w=w'):=hc1.mono λe w' h=>And.intro h.1 h.2.symm
  have HF:=hI (HQ.out 7 hE (by decide));clear hc1 hE hat hpl d HQ;go_enter Tryz.func20,Tryz.ntmps20;go_wp2_with fail;refine C1.out.mono ?_;rintro e w1 ⟨rfl,rfl⟩;go_wp2_with fail;go_ret3;exact HF.out _ (Below.refl _ _)
 | some y=>
  obtain⟨hi,hiy⟩:=List.getElem?_eq_some_iff.1 hat;have hpl:C3a V.l dn=(vIx V.l dn:Int):=if_pos hi;have hkk:z0a V.l dn=y.kind:=by unfold z0a;rw[hat]
  rw[hpl] at hc1;rw[hat,if_neg (by simp),hkk] at hE;obtain⟨q,c,e,hnc,hcm,_,kk,_⟩:=d.at hi;subst e;have k0:w.cell? ⟨g,2,none⟩=some (.slice (some ⟨q,0,none⟩) V.l.length c):=d.blk.cell 2;rw[hiy] at kk;have hn256:=d.ok.many;have hn1:1<=dn:=by have h1:=(d.ok.num _ (y0a hat).1).1;rw[(y0a hat).2] at h1;exact h1
  obtain⟨ix,hix⟩:∃ix,ix=vIx V.l dn:=⟨_,rfl⟩;rw[<-hix] at hc1 hi kk;obtain⟨n,hn⟩:∃n,n=V.l.length:=⟨_,rfl⟩;rw[<-hn] at k0 hi hnc hn256;have HN:=hI hn;obtain⟨yk,hyk⟩:∃yk,yk=y.kind:=⟨_,rfl⟩;rw[<-hyk] at hE kk;have C1:Hid (Calls _ _ _ _ λe w'=>e=_/\w=w'):=hc1.mono λe w' h=>And.intro h.1 h.2.symm
  clear hc1 hpl hkk hix hn hyk hiy hat;by_cases h1:yk=1
  case neg=>
   rw[if_pos h1] at hE;have HF:=hI (HQ.out 9 hE (by decide));have t:(yk != 1)=true:=by simpa using h1
   clear hE h1 d HQ;go_enter Tryz.func20,Tryz.ntmps20;go_wp2_with fail;refine C1.out.mono ?_;rintro e w1 ⟨rfl,rfl⟩;go_wp2_with fail;go_ret3;exact HF.out _ (Below.refl _ _)
  subst h1;rw[if_neg (by decide)] at hE;by_cases hm:m<0
  ·rw[if_pos hm] at hE;have HF:=hI (HQ.out 2 hE (by decide));have hmd:decide (m<0)=true:=decide_eq_true hm;clear hE d HQ;go_enter Tryz.func20,Tryz.ntmps20;go_wp2_with fail;refine C1.out.mono ?_;rintro e w1 ⟨rfl,rfl⟩;go_wp2_with fail;go_ret3;exact HF.out _ (Below.refl _ _)
  rw[if_neg hm] at hE;have hmd:decide (m<0)=false:=decide_eq_false hm;have CE:=hI (f5b P0 ⟨#[]⟩ w hP3 (by decide));unfold y3a at CE;rw[HP2.out,show(⟨#[]⟩:ByteArray).data.toList=[] from rfl] at CE;have CF:Hid (∀(s:ByteArray),s.size<=4398046511104->∀w',Calls Tryz.prog 55 #[.string P0,.string s] w' λe w2=>e=.returned (.tuple #[.bool (E3a pl s.data.toList),.int .i64 (M0a pl s.data.toList)])/\Below w'.heap.size w' w2):=λs hs w'=>by have:=f5b P0 s w' hP3 hs;unfold y3a at this;rw[HP2.out] at this;exact this
  have CI:Hid (∀w',Calls Tryz.prog 56 #[.string A0] w' λe w2=>e=.returned (.bool (u0a al))/\Below w'.heap.size w' w2):=λw'=>by have:=C4c A0 w' hA3;rw[HA2.out] at this;exact this
  obtain⟨pe,hpe⟩:∃z,z=M0a pl []:=⟨_,rfl⟩;obtain⟨pf,hpf⟩:∃z,z=E3a pl []:=⟨_,rfl⟩;rw[<-hpe] at hE;rw[<-hpe,<-hpf] at CE;clear hpe hpf;by_cases hpe0:pe=0
  case neg=>
   rw[if_pos hpe0] at hE;have HF:=hI (HQ.out pe hE hpe0);have t:(pe != 0)=true:=by simpa using hpe0
   clear hE hpe0 d HQ CF CI;go_enter Tryz.func20,Tryz.ntmps20;go_wp2_with fail;refine C1.out.mono ?_;rintro e w1 ⟨rfl,rfl⟩;go_wp2_with fail;refine CE.out.mono ?_;rintro e w1 ⟨rfl,l1⟩;have L1:=hI l1;clear l1;go_wp2_with fail;go_ret3;exact HF.out _ L1.out
  subst hpe0;rw[if_neg (λh=>h rfl)] at hE;obtain⟨ib,hib⟩:∃z,z=u0a al:=⟨_,rfl⟩;rw[<-hib] at hE CI;clear hib;cases ib with
  | false=>
   rw[if_neg (by decide)] at hE;have HF:=hI (HQ.out 5 hE (by decide));clear hE d HQ CF;go_enter Tryz.func20,Tryz.ntmps20;go_wp2_with fail;refine C1.out.mono ?_;rintro e w1 ⟨rfl,rfl⟩;go_wp2_with fail;refine CE.out.mono ?_;rintro e w1 ⟨rfl,l1⟩;have L1:=hI l1;clear l1;go_wp2_with fail;refine(CI.out _).mono ?_;rintro e w2 ⟨rfl,l2⟩;have L2:=hI (step L1.out l2);clear l2;go_wp2_with fail;go_ret3;exact HF.out _ L2.out
  | true=>
   rw[if_pos rfl] at hE;have HE:=hI hE;clear hE HQ;obtain⟨SM,hSM⟩:∃SM,SM=L1b M dn:=⟨_,rfl⟩;obtain⟨NS,hNS⟩:∃NS,NS=o0b V.l dn:=⟨_,rfl⟩;have HMAP:Hid (SM.map (·.1)=NS):=by show _=_;rw[hSM,hNS,X8b,d.is]
   have HTOLD:Hid (U7a V.l dn pl al=NS.filter (g3b pl al)):=by show _=_;rw[hNS];rfl
   have HXS:Hid (∀x∈NS,x∈V.l/\nameOf x.name=true):=λx hx=>by rw[hNS] at hx;obtain⟨h1,h2,h3⟩:=F7a d.ok hn1 hx;exact⟨h1,h3⟩
   have hSl:SM.length<=256:=by
    rw[hSM,<-M1b];have:=N1b M dn M.length;have h2:M.length=V.l.length:=by rw[<-d.is,List.length_map]
    have:=HN.out;omega
   have HNS:Hid (NS.length<=256):=by show _<=_;rw[<-HMAP.out,List.length_map];exact hSl
   have CS:Hid (∀w',Below w.heap.size w w'->Calls Tryz.prog 57 #[.pointer (some ⟨g,0,none⟩),.int .i64 dn] w' λe w2=>∃u,e=.returned u/\j1a C0a 5 98 w2 w'.heap.size u SM/\Below w'.heap.size w' w2):=λw' hb=>by have:=L6b w' base g _ V M (d.below hb) dn;rw[<-hSM] at this;exact this
   have CT:Hid (∀x∈NS,∀w',Below w.heap.size w w'->Calls Tryz.prog 16 #[.pointer (some ⟨g,0,none⟩),.int .i64 x.n] w' λe w2=>e=.returned (.tuple #[.agg #[.int .u8 x.kind,.int .i64 (x.B.length:Nat)],.int .i64 0])/\Below w'.heap.size w' w2):=λx hx w' hb=>by
    have c:=x8a w' base g _ V M (d.below hb) x.n;have hat:=d.ok.at (HXS.out x hx).1;have e1:z0a V.l x.n=x.kind:=by unfold z0a;rw[hat]
    have e2:I4a V.l x.n=x.B.length:=by unfold I4a;rw[hat]
    have e3:N2a V.l x.n=0:=by unfold N2a;rw[hat];rfl
    rw[e1,e2,e3] at c;exact c
   have HANS:Hid (∀u b ts w',(NS.filter (g3b pl al)).take m.toNat=ts->decide (m<((NS.filter (g3b pl al)).length:Int))=b->j1a W0a 3 49 w' w.heap.size u ts->Below w.heap.size w w'->d3a w V.l dn pl al m (.returned (.tuple #[u,.bool b,.int .i64 0])) w'):=λu b ts w' h1 h2 h3 h4=>by
    have e1:N8a V.l dn pl al m=b:=by unfold N8a;rw[HE.out,if_pos rfl,HTOLD.out];exact h2
    have e2:D4a V.l dn pl al m=ts:=by unfold D4a;rw[HE.out,if_pos rfl,HTOLD.out];exact h1
    exact⟨u,by rw[e1,HE.out],by rw[e2];exact h3,h4⟩
   have CA:Hid (∀(s:ByteArray),s.size<=4398046511104->∀w',Calls Tryz.prog 58 #[.string A0,.string s] w' λe w2=>e=.returned (.bool (ahd A0 s))/\Below w'.heap.size w' w2):=λs hs w'=>F1b A0 s w' hA3 hs
   have hm0:0<=m:=by omega
   have hA0l:A0.size=al.length:=by rw[Lib.size_eq,HA2.out]
   clear d hSM hNS hn1 HN;go_enter Tryz.func20,Tryz.ntmps20;go_wp2_with fail;refine C1.out.mono ?_;rintro e w1 ⟨rfl,rfl⟩;go_wp2_with fail;refine CE.out.mono ?_;rintro e w1 ⟨rfl,l1⟩;have L1:=hI l1;clear l1 C1 CE;go_wp2_with fail;refine(CI.out _).mono ?_;rintro e w2 ⟨rfl,l2⟩;have L2:=hI (step L1.out l2);have CS2:=hI (CS.out _ L2.out);clear l2 CI L1 CS;go_wp2_with fail;refine CS2.out.mono ?_;rintro e w3 ⟨u,rfl,o3,l3⟩;obtain⟨Ao,l,co,rfl,hh⟩:=o3.holds (by decide) K0a;have hlen:=hh.len;have HAD:=hI o3.headV.1;have hco:co<=9223372036854775807:=by have:=o3.headV.2;unfold maxLen at this;exact this
   have hfit:=hh.fit;have HH:=hI hh;have hl256:l<=256:=by omega
   have HLN:Hid (NS.length=l):=by show _=_;rw[<-HMAP.out,List.length_map];exact hlen
   have L3:=hI (step L2.out l3);have L3s:w.heap.size<=w3.heap.size:=L3.out.size;clear o3 l3 hh hlen CS2 L2;go_wp2_with fail;have h0:(A0.toList==[])=decide (A0.size=0):=b4a;have h1:A0.toList.isEmpty=decide (A0.size=0):=S2a;go_loopw [16,18] (λO I wr=>∃i:Nat,i<=l/\I=.int .i64 (i:Nat)/\Hid (j1a W0a 3 49 wr w3.heap.size O (W2a NS pl al i))/\Hid (((W2a NS pl al i).length:Int)<=m)/\Hid (Below w3.heap.size w3 wr)) (λ_ I _=>l-(intOf I).toNat)
   case atStart=>exact⟨0,Nat.zero_le _,rfl,j1a.nil _ _ _ _ _,(by show((W2a NS pl al 0).length:Int)<=m;unfold W2a;simpa using hm0),Below.refl _ _⟩
   case round=>
    obtain⟨i,hi,rfl,OR,LE,LR⟩:=hrel
    rename World=>wr
    obtain⟨A8,n8,c8,e8,hh8⟩:=OR.out.holds (by decide) x2a;subst e8;have HN8:Hid (n8=(W2a NS pl al i).length):=hh8.len.symm;clear hh8;by_cases hlt:i<l
    ·have hil:i<NS.length:=by have:=HLN.out;omega
     obtain⟨x,hx⟩:∃x,x=NS[i]:=⟨_,rfl⟩;have HX:=hI hx;have hxm:x∈NS:=by rw[hx];exact List.getElem_mem hil
     have hiS:i<SM.length:=by rw[<-List.length_map (f:=(·.1)),HMAP.out];exact hil
     have hxS:(SM[i]'hiS).1=x:=by
      have h1:(SM.map (·.1))[i]? = NS[i]?:=by rw[HMAP.out]
      rw[List.getElem?_map,List.getElem?_eq_getElem hiS,List.getElem?_eq_getElem hil] at h1;rw[hx];simpa using h1
     obtain⟨p,off,e,_,hc⟩:=HH.out.cells (by omega);obtain⟨g0,eg⟩:=HAD.out _ e;injection eg with e4 e5
     subst e4 e5;subst e;have hget:SM[i]? = some (SM[i]'hiS):=List.getElem?_eq_getElem hiS;have k1:=hc i _ hget 0 _ rfl;have k3:=hc i _ hget 3 _ rfl;rw[hxS,Nat.zero_add] at k1 k3;obtain⟨N,hNm⟩:∃N:ByteArray,N=⟨x.name.toArray⟩:=⟨_,rfl⟩;have hv1:V0a x.name=.string N:=by rw[hNm];rfl
     rw[hv1] at k3;have HNL:Hid (N.data.toList=x.name):=by show _=_;rw[hNm]
     have hNs:N.size<=4398046511104:=by rw[Lib.size_eq,HNL.out];have:=S0a (HXS.out x hxm).2;omega
     have C2:=hI (CF.out N hNs wr);rw[HNL.out] at C2;have hpe:M0a pl x.name=M0a pl x.name:=rfl;obtain⟨f,hf⟩:∃z,z=E3a pl x.name:=⟨_,rfl⟩;obtain⟨pz,hpz⟩:∃z,z=M0a pl x.name:=⟨_,rfl⟩;rw[<-hf,<-hpz] at C2;have HF1:=hI hf;obtain⟨xk,hxk⟩:∃z,z=x.kind:=⟨_,rfl⟩;obtain⟨xB,hxB⟩:∃z,z=x.B.length:=⟨_,rfl⟩;obtain⟨xn,hxn⟩:∃z,z=x.n:=⟨_,rfl⟩;have HCS:Hid (W0a x=[.string N,.int .u8 xk,.int .i64 (xB:Nat)]):=by
      show _=_
      unfold W0a;rw[hv1,<-hxk,<-hxB]
     have HST:Hid (∀w',Below w.heap.size w w'->Calls Tryz.prog 16 #[.pointer (some ⟨g,0,none⟩),.int .i64 xn] w' λe w2=>e=.returned (.tuple #[.agg #[.int .u8 xk,.int .i64 (xB:Nat)],.int .i64 0])/\Below w'.heap.size w' w2):=by rw[hxn,hxk,hxB];exact λw' hb=>CT.out x hxm w' hb
     have hn5:i*5+0=i*5:=rfl;rw[hn5,<-hxn] at k1;have K1:Hid (∀w',Below w3.heap.size w3 w'->w'.cell? ⟨p,i*5,none⟩=some (.int .i64 xn)):=λw' h=>(h.cell (d0a k1)).trans k1
     have K3:Hid (∀w',Below w3.heap.size w3 w'->w'.cell? ⟨p,i*5+3,none⟩=some (.string N)):=λw' h=>(h.cell (d0a k3)).trans k3
     have j3:=K3.out _ LR.out;clear hx hxS hc hget hNm hv1 hpe hf hpz hxk hxB hxn hn5 k1 k3;cases f with
     | false=>
      have NX:Hid (W2a NS pl al (i+1)=W2a NS pl al i):=R7b hil (by unfold g3b;rw[<-HX.out,<-HF1.out];rfl);go_wp2_with fail;refine C2.out.mono ?_;rintro e wc ⟨rfl,l2⟩;have LC:=hI (LR.out.trans (l2.mono LR.out.size));have OC:=hI (OR.out.below l2);clear l2 C2;go_wp2_with fail;go_roundw
      case rel=>exact⟨i+1,by omega,by go_num,NX.out▸OC.out,by rw[NX.out];exact LE.out,LC.out⟩
      case measure=>simp[intOf];omega
     | true=>
      by_cases ha0:A0.size=0
      ·rw[decide_eq_true ha0] at h0 h1;have hal:al=[]:=List.length_eq_zero_iff.1 (by omega);have TD:Hid (g3b pl al NS[i]=true):=by show _=_;unfold g3b;rw[<-HX.out,<-HF1.out,decide_eq_true hal];rfl
       clear hal;go_wp2_with fail;refine C2.out.mono ?_;rintro e wc ⟨rfl,l2⟩;have LC:=hI (LR.out.trans (l2.mono LR.out.size));have OC:=hI (OR.out.below l2);have j3:=K3.out _ LC.out;clear l2 C2;by_cases hlm:((W2a NS pl al i).length:Int)=m
       ·have hq:=t5b hil TD.out hlm;have FIN:Hid (d3a w V.l dn pl al m (.returned (.tuple #[.slice A8 n8 c8,.bool true,.int .i64 0])) wc):=HANS.out _ _ _ _ hq.1 hq.2 (OC.out.mono L3s) (step L3.out LC.out);have hmq:((n8:Int)==m)=true:=by rw[<-hlm,HN8.out];simp
        clear hq;go_wp2_with fail;go_ret3;exact FIN.out
       ·have hmq:((n8:Int)==m)=false:=by rw[HN8.out];simpa using hlm
        have LE2:Hid (((W2a NS pl al i).length:Int)+1<=m):=by have:=LE.out;show _<=_;omega
        have NX:Hid (W2a NS pl al (i+1)=W2a NS pl al i++[x]):=by rw[HX.out];exact U3b hil TD.out
        have HML:Hid (((W2a NS pl al i).length+[x].length)*32<=140737488355328/\(W2a NS pl al i).length+[x].length<=9223372036854775807):=by
         have:=N1c (L:=NS) (p:=pl) (a:=al) (k:=i);have:=HNS.out;show _/\_
         simp only[List.length_cons,List.length_nil];omega
        have CSX:=hI (HST.out _ (step L3.out LC.out));have j1:=K1.out _ LC.out;obtain⟨ts,hts⟩:∃ts,ts=W2a NS pl al i:=⟨_,rfl⟩;rw[<-hts] at HML NX LE2 OC;obtain⟨v8,hv8⟩:∃v8,v8=Value.slice A8 n8 c8:=⟨_,rfl⟩;clear hlm;go_wp2_with fail;refine CSX.out.mono ?_;rintro e w5 ⟨rfl,l5⟩;have L5:=hI (step LC.out l5);have O5:=hI (OC.out.below l5);clear l5 CSX;rw[<-hv8] at O5⊢;clear hv8;go_upto_region 23 with(first
         | ((with_reducible refine sN 21 ?_);refine i0a rfl _ rfl [.int .u8 0,.int .i64 0] 2 w2a ?_;intro b w6 hb1 hb2 X6 L6)
         | ((with_reducible refine sT 21 ?_);go_loud (refine l0a rfl _ (.tmp 21) (.tmp 98) rfl b rfl _ _ [.int .u8 xk,.int .i64 (xB:Nat)] rfl X6 2 J0a rfl rfl (by intro u hu;simp only[List.mem_cons,List.not_mem_nil,or_false] at hu;rcases hu with rfl | rfl<;>rfl) ?_);intro wz XZ OZ0 hz0)
         | fail)
        have l7:=r0a L6.out OZ0.out hb1;have LZ:=hI (step L5.out l7);have OZ:=hI (O5.out.below l7);have j3:=K3.out wz LZ.out;clear l7 L6 X6 OZ0;refine m1a 10 (λw'=>w'.cell? ⟨p,i*5+3,none⟩=some (.string N)/\Blk w' b 34 [.int .u8 xk,.int .i64 (xB:Nat)]) (by kernel_rfl) ?_;change K2a _ _ _ _ _ _ _ _ _ wz.drew
        have Sr0:Hid (wz.drew.cell? ⟨p,i*5+3,none⟩=some (.string N)/\Blk wz.drew b 34 [.int .u8 xk,.int .i64 (xB:Nat)]):=⟨j3,XZ.out⟩;have br0:Hid (True):=trivial;refine c0a (i:=0) (v:=_) rfl (by kernel_rfl) (by kernel_rfl) (by kernel_rfl) (λ_ _ _ h=>h) rfl (by kernel_rfl) (by kernel_rfl) (by decide) (a0a (by kernel_rfl) (.tmp 16) rfl (v8) (by kernel_rfl)) Sr0.out ?_;refine c0a (i:=1) (v:=_) rfl (by kernel_rfl) (by kernel_rfl) (by kernel_rfl) (λ_ _ _ h=>h) rfl (by kernel_rfl) (by kernel_rfl) (by decide) (a0a (by kernel_rfl) (.tmp 17) rfl (.slice (some ⟨p,0,none⟩) l co) (by kernel_rfl)) Sr0.out ?_;refine c0a (i:=2) (v:=_) rfl (by kernel_rfl) (by kernel_rfl) (by kernel_rfl) (λ_ _ _ h=>h) rfl (by kernel_rfl) (by kernel_rfl) (by decide) (a0a (by kernel_rfl) (.tmp 18) rfl (.int .i64 (i:Nat)) (by kernel_rfl)) Sr0.out ?_;refine c0a (i:=3) (v:=.pointer (some ⟨p,i*5,none⟩)) rfl (by kernel_rfl) (by kernel_rfl) (by kernel_rfl) (λ_ _ _ h=>h) rfl (by kernel_rfl) (by kernel_rfl) (by decide) (.inl ⟨by kernel_rfl,λw _=>by go_simp⟩) Sr0.out ?_;refine c0a (i:=4) (v:=_) rfl (by kernel_rfl) (by kernel_rfl) (by kernel_rfl) (λ_ _ _ h=>h) rfl (by kernel_rfl) (by kernel_rfl) (by decide) (e0a (by kernel_rfl) _ (.tmp 103) 3 rfl (.pointer (some ⟨p,i*5,none⟩)) (.pointer (some ⟨p,i*5+3,none⟩)) (by kernel_rfl) (λw=>by go_simp)) Sr0.out ?_;refine c0a (i:=5) (v:=_) rfl (by kernel_rfl) (by kernel_rfl) (by kernel_rfl) (λ_ _ _ h=>h) rfl (by kernel_rfl) (by kernel_rfl) (by decide) (b0a (by kernel_rfl) _ (.tmp 104) rfl p (i*5+3) (by kernel_rfl) (.string N) (λ_ h=>h.1) _ Tryz.underlying9 rfl) Sr0.out ?_;refine c0a (i:=6) (v:=_) rfl (by kernel_rfl) (by kernel_rfl) (by kernel_rfl) (λ_ _ _ h=>h) rfl (by kernel_rfl) (by kernel_rfl) (by decide) (b6a (by kernel_rfl) _ (.tmp 21) rfl b (by kernel_rfl) _ [.int .u8 xk,.int .i64 (xB:Nat)] (λ_ h=>h.2) 2 _ Tryz.underlying34 rfl J0a rfl) Sr0.out ?_;refine c0a (i:=7) (v:=_) rfl (by kernel_rfl) (by kernel_rfl) (by kernel_rfl) (λ_ _ _ h=>h) rfl (by kernel_rfl) (by kernel_rfl) (by decide) (i3a (by kernel_rfl) _ _ rfl [.string N,.int .u8 xk,.int .i64 (xB:Nat)] (by kernel_rfl)) Sr0.out ?_;refine n0a 8 _ (by kernel_rfl) rfl λK hK=>?_
        refine b2a rfl _ _ _ _ rfl Tryz.underlying39 [.string N,.int .u8 xk,.int .i64 (xB:Nat)] (by kernel_rfl) ?_;intro gv w9 hgv hgv2 V9 l9;have R9:=hI ((Below.refl wz.heap.size wz).drew.trans l9.out);have O9:=hI (OZ.out.below R9.out);have L9:=hI (LZ.out.trans (R9.out.mono LZ.out.size));refine hK _ _ (λ_=>⟨(R9.out.cell (d0a j3)).trans j3,XZ.out.over R9.out⟩) ?_;clear hK K;refine n0a 9 _ (by kernel_rfl) rfl λK hK=>?_
        refine k3a rfl (.tmp 100) (.tmp 108) W0a 3 (by decide) x2a a7a (.agg #[.string ⟨#[]⟩,.int .u8 0,.int .i64 0]) rfl 39 49 32 Tryz.underlying39 C3b rfl w3.heap.size _ ts (by kernel_rfl) O9.out gv 0 1 1 [x] (by kernel_rfl) rfl (P1c x _ HCS.out _ gv V9.out) HML.out.1 HML.out.2 L9.out.size ?_;intro v' w10 O10 S10 N10;have L10:Hid (Below w3.heap.size w3 w10):=L9.out.trans (S10.out.below (λj hj=>(O9.out.block hj).1) L9.out.size);refine hK _ _ (λ_=>⟨K3.out _ L10.out,(XZ.out.over R9.out).spare S10.out (λe=>absurd ((XZ.out.over R9.out).typ.same (O9.out.block e).2) (by decide))⟩) ?_;clear hK K;refine n0a 10 _ (by kernel_rfl) rfl λK hK=>?_
        go_simp;refine hK _ _ (λh=>Bool.noConfusion (show true=false from h)) ?_;clear hK K;refine K1a (by kernel_rfl) ?_ _;have LE3:Hid (((ts++[x]).length:Int)<=m):=by have:=LE2.out;show _<=_;simp only[List.length_append,List.length_cons,List.length_nil];omega
        go_wp2_with fail;go_roundw
        case rel=>exact⟨i+1,by omega,by go_num,by rw[NX.out];exact O10,by rw[NX.out];exact LE3.out,L10.out⟩
        case measure=>simp[intOf];omega
      ·rw[decide_eq_false ha0] at h0 h1;have hal:al≠[]:=λe=>ha0 (by rw[hA0l,e];rfl)
       have C3:=hI (CA.out N hNs);obtain⟨z,hz⟩:∃z,z=ahd A0 N:=⟨_,rfl⟩;rw[<-hz] at C3;have TZ:Hid (g3b pl al NS[i]=z):=by
        show _=_
        unfold g3b;rw[<-HX.out,<-HF1.out,decide_eq_false hal,hz];unfold ahd;rw[HA2.out,HNL.out];rfl
       clear hz hal;go_wp2_with fail;refine C2.out.mono ?_;rintro e wb ⟨rfl,l2⟩;have LB:=hI (LR.out.trans (l2.mono LR.out.size));have OB:=hI (OR.out.below l2);have j3:=K3.out _ LB.out;clear l2 C2;go_wp2_with fail;refine(C3.out _).mono ?_;rintro e wc ⟨rfl,l3⟩;have LC:=hI (LB.out.trans (l3.mono LB.out.size));have OC:=hI (OB.out.below l3);have j3:=K3.out _ LC.out;clear l3 C3;cases z with
       | false=>
        have NX:Hid (W2a NS pl al (i+1)=W2a NS pl al i):=R7b hil TZ.out;go_wp2_with fail;go_roundw
        case rel=>exact⟨i+1,by omega,by go_num,NX.out▸OC.out,by rw[NX.out];exact LE.out,LC.out⟩
        case measure=>simp[intOf];omega
       | true=>
        have TD:=hI TZ.out;by_cases hlm:((W2a NS pl al i).length:Int)=m
        ·have hq:=t5b hil TD.out hlm;have FIN:Hid (d3a w V.l dn pl al m (.returned (.tuple #[.slice A8 n8 c8,.bool true,.int .i64 0])) wc):=HANS.out _ _ _ _ hq.1 hq.2 (OC.out.mono L3s) (step L3.out LC.out);have hmq:((n8:Int)==m)=true:=by rw[<-hlm,HN8.out];simp
         clear hq;go_wp2_with fail;go_ret3;exact FIN.out
        ·have hmq:((n8:Int)==m)=false:=by rw[HN8.out];simpa using hlm
         have LE2:Hid (((W2a NS pl al i).length:Int)+1<=m):=by have:=LE.out;show _<=_;omega
         have NX:Hid (W2a NS pl al (i+1)=W2a NS pl al i++[x]):=by rw[HX.out];exact U3b hil TD.out
         have HML:Hid (((W2a NS pl al i).length+[x].length)*32<=140737488355328/\(W2a NS pl al i).length+[x].length<=9223372036854775807):=by
          have:=N1c (L:=NS) (p:=pl) (a:=al) (k:=i);have:=HNS.out;show _/\_
          simp only[List.length_cons,List.length_nil];omega
         have CSX:=hI (HST.out _ (step L3.out LC.out));have j1:=K1.out _ LC.out;obtain⟨ts,hts⟩:∃ts,ts=W2a NS pl al i:=⟨_,rfl⟩;rw[<-hts] at HML NX LE2 OC;obtain⟨v8,hv8⟩:∃v8,v8=Value.slice A8 n8 c8:=⟨_,rfl⟩;clear hlm;go_wp2_with fail;refine CSX.out.mono ?_;rintro e w5 ⟨rfl,l5⟩;have L5:=hI (step LC.out l5);have O5:=hI (OC.out.below l5);clear l5 CSX;rw[<-hv8] at O5⊢;clear hv8;go_upto_region 23 with(first
          | ((with_reducible refine sN 21 ?_);refine i0a rfl _ rfl [.int .u8 0,.int .i64 0] 2 w2a ?_;intro b w6 hb1 hb2 X6 L6)
          | ((with_reducible refine sT 21 ?_);go_loud (refine l0a rfl _ (.tmp 21) (.tmp 98) rfl b rfl _ _ [.int .u8 xk,.int .i64 (xB:Nat)] rfl X6 2 J0a rfl rfl (by intro u hu;simp only[List.mem_cons,List.not_mem_nil,or_false] at hu;rcases hu with rfl | rfl<;>rfl) ?_);intro wz XZ OZ0 hz0)
          | fail)
         have l7:=r0a L6.out OZ0.out hb1;have LZ:=hI (step L5.out l7);have OZ:=hI (O5.out.below l7);have j3:=K3.out wz LZ.out;clear l7 L6 X6 OZ0;refine m1a 10 (λw'=>w'.cell? ⟨p,i*5+3,none⟩=some (.string N)/\Blk w' b 34 [.int .u8 xk,.int .i64 (xB:Nat)]) (by kernel_rfl) ?_;change K2a _ _ _ _ _ _ _ _ _ wz.drew
         have Sr0:Hid (wz.drew.cell? ⟨p,i*5+3,none⟩=some (.string N)/\Blk wz.drew b 34 [.int .u8 xk,.int .i64 (xB:Nat)]):=⟨j3,XZ.out⟩;have br0:Hid (True):=trivial;refine c0a (i:=0) (v:=_) rfl (by kernel_rfl) (by kernel_rfl) (by kernel_rfl) (λ_ _ _ h=>h) rfl (by kernel_rfl) (by kernel_rfl) (by decide) (a0a (by kernel_rfl) (.tmp 16) rfl (v8) (by kernel_rfl)) Sr0.out ?_;refine c0a (i:=1) (v:=_) rfl (by kernel_rfl) (by kernel_rfl) (by kernel_rfl) (λ_ _ _ h=>h) rfl (by kernel_rfl) (by kernel_rfl) (by decide) (a0a (by kernel_rfl) (.tmp 17) rfl (.slice (some ⟨p,0,none⟩) l co) (by kernel_rfl)) Sr0.out ?_;refine c0a (i:=2) (v:=_) rfl (by kernel_rfl) (by kernel_rfl) (by kernel_rfl) (λ_ _ _ h=>h) rfl (by kernel_rfl) (by kernel_rfl) (by decide) (a0a (by kernel_rfl) (.tmp 18) rfl (.int .i64 (i:Nat)) (by kernel_rfl)) Sr0.out ?_;refine c0a (i:=3) (v:=.pointer (some ⟨p,i*5,none⟩)) rfl (by kernel_rfl) (by kernel_rfl) (by kernel_rfl) (λ_ _ _ h=>h) rfl (by kernel_rfl) (by kernel_rfl) (by decide) (.inl ⟨by kernel_rfl,λw _=>by go_simp⟩) Sr0.out ?_;refine c0a (i:=4) (v:=_) rfl (by kernel_rfl) (by kernel_rfl) (by kernel_rfl) (λ_ _ _ h=>h) rfl (by kernel_rfl) (by kernel_rfl) (by decide) (e0a (by kernel_rfl) _ (.tmp 103) 3 rfl (.pointer (some ⟨p,i*5,none⟩)) (.pointer (some ⟨p,i*5+3,none⟩)) (by kernel_rfl) (λw=>by go_simp)) Sr0.out ?_;refine c0a (i:=5) (v:=_) rfl (by kernel_rfl) (by kernel_rfl) (by kernel_rfl) (λ_ _ _ h=>h) rfl (by kernel_rfl) (by kernel_rfl) (by decide) (b0a (by kernel_rfl) _ (.tmp 104) rfl p (i*5+3) (by kernel_rfl) (.string N) (λ_ h=>h.1) _ Tryz.underlying9 rfl) Sr0.out ?_;refine c0a (i:=6) (v:=_) rfl (by kernel_rfl) (by kernel_rfl) (by kernel_rfl) (λ_ _ _ h=>h) rfl (by kernel_rfl) (by kernel_rfl) (by decide) (b6a (by kernel_rfl) _ (.tmp 21) rfl b (by kernel_rfl) _ [.int .u8 xk,.int .i64 (xB:Nat)] (λ_ h=>h.2) 2 _ Tryz.underlying34 rfl J0a rfl) Sr0.out ?_;refine c0a (i:=7) (v:=_) rfl (by kernel_rfl) (by kernel_rfl) (by kernel_rfl) (λ_ _ _ h=>h) rfl (by kernel_rfl) (by kernel_rfl) (by decide) (i3a (by kernel_rfl) _ _ rfl [.string N,.int .u8 xk,.int .i64 (xB:Nat)] (by kernel_rfl)) Sr0.out ?_;refine n0a 8 _ (by kernel_rfl) rfl λK hK=>?_
         refine b2a rfl _ _ _ _ rfl Tryz.underlying39 [.string N,.int .u8 xk,.int .i64 (xB:Nat)] (by kernel_rfl) ?_;intro gv w9 hgv hgv2 V9 l9;have R9:=hI ((Below.refl wz.heap.size wz).drew.trans l9.out);have O9:=hI (OZ.out.below R9.out);have L9:=hI (LZ.out.trans (R9.out.mono LZ.out.size));refine hK _ _ (λ_=>⟨(R9.out.cell (d0a j3)).trans j3,XZ.out.over R9.out⟩) ?_;clear hK K;refine n0a 9 _ (by kernel_rfl) rfl λK hK=>?_
         refine k3a rfl (.tmp 100) (.tmp 108) W0a 3 (by decide) x2a a7a (.agg #[.string ⟨#[]⟩,.int .u8 0,.int .i64 0]) rfl 39 49 32 Tryz.underlying39 C3b rfl w3.heap.size _ ts (by kernel_rfl) O9.out gv 0 1 1 [x] (by kernel_rfl) rfl (P1c x _ HCS.out _ gv V9.out) HML.out.1 HML.out.2 L9.out.size ?_;intro v' w10 O10 S10 N10;have L10:Hid (Below w3.heap.size w3 w10):=L9.out.trans (S10.out.below (λj hj=>(O9.out.block hj).1) L9.out.size);refine hK _ _ (λ_=>⟨K3.out _ L10.out,(XZ.out.over R9.out).spare S10.out (λe=>absurd ((XZ.out.over R9.out).typ.same (O9.out.block e).2) (by decide))⟩) ?_;clear hK K;refine n0a 10 _ (by kernel_rfl) rfl λK hK=>?_
         go_simp;refine hK _ _ (λh=>Bool.noConfusion (show true=false from h)) ?_;clear hK K;refine K1a (by kernel_rfl) ?_ _;have LE3:Hid (((ts++[x]).length:Int)<=m):=by have:=LE2.out;show _<=_;simp only[List.length_append,List.length_cons,List.length_nil];omega
         go_wp2_with fail;go_roundw
         case rel=>exact⟨i+1,by omega,by go_num,by rw[NX.out];exact O10,by rw[NX.out];exact LE3.out,L10.out⟩
         case measure=>simp[intOf];omega
    ·obtain rfl:i=l:=by omega
     have hle:=HLN.out;obtain⟨q1,q2⟩:=O1c (p:=pl) (a:=al) (k:=i) (m:=m) (L:=NS) (by omega) LE.out;have FIN:=hI (HANS.out _ _ _ _ q1 q2 (OR.out.mono L3s) (step L3.out LR.out));clear q1 q2 hle;go_wp2_with fail;go_ret3;exact FIN.out
open Go.RowKit Go.Lib
section
variable {L:List k0a} {V:X0a} {n m d k:Int} {x y:k0a} {s p:o0a} {ps qs ws rs us:List o0a} {tp un:o0a} {over:Bool}
theorem Way.cut(hw:Way L n ps)(ha:vAt L n=some x)(h1:n≠1):∃qs,ps=qs++[x.name]/\Way L x.par qs:=by
 generalize he:n=k at hw;cases hw with
 | root=>exact absurd he h1
 | @step y us a b c=>
  rw[he,a] at ha;injection ha with ha
  subst ha;exact⟨us,rfl,c⟩
theorem U9a(h:Vok V){a b:Int}:Bytes (E2a V.l n a b)/\(E2a V.l n a b).length<=65536:=by
 have hb:Bytes (H0a V.l n)/\(H0a V.l n).length<=65536:=by
  unfold H0a;cases hq:vAt V.l n with
  | none=>exact⟨Bytes.nil,Nat.zero_le _⟩
  | some x=>exact⟨(h.len x (y0a hq).1).2.2,(h.len x (y0a hq).1).2.1⟩
 unfold E2a;split
 ·exact⟨z8b hb.1 _ _,Nat.le_trans (t3c _ _ _) hb.2⟩
 ·exact⟨Bytes.nil,Nat.zero_le _⟩
theorem I3c(out:List k0a)(x:k0a):(k7b out x).length=out.length+1:=by have h:=List.findIdx_le_length (xs:=out) (p:=λy=>!e1a y.name x.name);unfold k7b;rw[List.length_append,List.length_append,List.length_take,List.length_drop,List.length_singleton];omega
theorem u5b:∀(l out:List k0a),(l.foldl k7b out).length=out.length+l.length
 | [],out=>rfl
 | x::l,out=>by rw[List.foldl_cons,u5b l,I3c,List.length_cons];omega
theorem h3b(h:Vok V){p a:o0a}{m:Int}:(D4a V.l n p a m).length<=256:=by
 have h1:(U7a V.l n p a).length<=256:=by unfold U7a;refine Nat.le_trans (List.length_filter_le _ _) ?_;unfold o0b;rw[u5b];have:=List.length_filter_le (λx:k0a=>decide (x.par=n)) V.l;have:=h.many;simp only[List.length_nil];omega
 unfold D4a;split
 ·rw[List.length_take];omega
 ·exact Nat.zero_le _
end
def J3c(I:e0b)(w:World)(b q g:Nat)(a:M2a)(V:X0a)(e:Ending)(w':World):Prop:=e=.returned (.bool true)/\∃S' v' M',z8a I w' b q S' g v' (J6b a V) (J6b a V) M'/\Below b w w'
theorem K3c(I:e0b)(w:World)(b q:Nat)(S:Nat->Prop)(g:Nat)(v:Value)(V:X0a)(M:List VP)(a:M2a)(h:z8a I w b q S g v V V M)(ha:I6a w b a)(hl:V.last<1048576) :
  Calls Tryz.prog 39 #[R0a q,.pointer (some ⟨g,0,none⟩),.agg (A2a a).toArray] w (J3c I w b q g a V):=by
 have H0:=hI h;have HA:=hI ha;have HSZ:=h.hb;have HAB:Hid (∀k,a.act=k->J6b a V=(if k=1 then F3a V a.path a.kind else if k=2 then U6a V a.num else if k=3 then h2a V a.num a.path a.over else if k=4 then vWr V a.num a.pos a.row.2.2.2 else if k=5 then b2b V a.num a.pos else V)):=λk hk=>by unfold J6b;rw[hk]
 have HCS:Hid (A2a a=[.int .i64 a.act,.string ⟨a.path.toArray⟩,.int .u8 a.kind,.int .i64 a.num,.int .i64 a.pos,.int .i64 a.many,.slice a.row.1 a.row.2.1 a.row.2.2.1,.bool a.over,.string ⟨a.pat.toArray⟩,.string ⟨a.aft.toArray⟩]):=rfl;have hok:=(I.ok h.x).1;have HRS:Hid (Bytes (E2a V.l a.num a.pos a.many)/\(E2a V.l a.num a.pos a.many).length<=65536):=U9a hok;have HLS:Hid ((D4a V.l a.num a.pat a.aft a.many).length<=256):=h3b hok;have HL:=hI hl;obtain⟨cs,hcs⟩:∃cs,cs=A2a a:=⟨_,rfl⟩;rw[<-hcs] at HCS⊢;clear h ha hcs hok hl;rcases(by omega:a.act=1∨a.act=2∨a.act=3∨a.act=4∨a.act=5∨a.act=6∨a.act=7∨a.act=8∨(¬a.act=1/\¬a.act=2/\¬a.act=3/\¬a.act=4/\¬a.act=5/\¬a.act=6/\¬a.act=7/\¬a.act=8)) with h1 | h1 | h1 | h1 | h1 | h1 | h1 | h1 | ⟨h1,h2,h3,h4,h5,h6,h7,h8⟩
 ·go_enter Tryz.func39,Tryz.ntmps39;go_upto_region 1 with(first
   | ((with_reducible refine sN 5 ?_);refine v0a rfl _ (.tmp 2) rfl cs rfl ?_;intro k w1 hk1 hk2 k1 l1)
   | fail)
  have K1:Hid (Blk w1 k 58 [.int .i64 a.act,.string ⟨a.path.toArray⟩,.int .u8 a.kind,.int .i64 a.num,.int .i64 a.pos,.int .i64 a.many,.slice a.row.1 a.row.2.1 a.row.2.2.1,.bool a.over,.string ⟨a.pat.toArray⟩,.string ⟨a.aft.toArray⟩]):=by have:=k1.out;rw[HCS.out] at this;exact this
  have c0:=K1.out.cell 0;have c1:=K1.out.cell 1;have c2:=K1.out.cell 2;have c3:=K1.out.cell 3;have c4:=K1.out.cell 4;have c5:=K1.out.cell 5;have c6:=K1.out.cell 6;have c7:=K1.out.cell 7;have c8:=K1.out.cell 8;have c9:=K1.out.cell 9;have HKS:Hid (¬S k):=λh=>by have:=(I.ge H0.out.x k h).2;omega
  have HKR:Hid (¬rvA g v M k):=λh=>by have:=(H0.out.r.set_ge k h).2;omega
  have T1:=hI (H0.out.below l1.out);have A1:=hI (HA.out.below (l1.out.mono HSZ));have T1d:Hid (z8a I w1.drew b q S g v V V M):=T1.out.below (E0a w1 1);clear k1;rw[h1] at c0;have C1:=hI (I.make T1.out.x T1.out.tb T1.out.hb HL.out (s:=a.path) (k:=a.kind) HA.out.path);have C2:Hid (∀S1 V1 w2,z8a I w2 b q S1 g v V1 V M->_):=λS1 V1 w2 (t:z8a I w2 b q S1 g v V1 V M)=>B1c w2 b g v V M t.r t.hb HL.out a.path HA.out.path a.kind
  obtain⟨mn,hmn⟩:∃x,x=r2a V a.path a.kind:=⟨_,rfl⟩;obtain⟨me,hme⟩:∃x,x=I1a V a.path a.kind:=⟨_,rfl⟩;rw[<-hmn,<-hme] at C1 C2;clear hmn hme;have e1:=HAB.out 1 h1;rw[if_pos rfl] at e1;have E1:=hI e1;clear e1;go_wp2_with fail;refine C1.out.mono ?_;rintro e w2 ⟨rfl,t1⟩;have L2:=hI (T1.out.below1 t1);have K2:=hI (t1.blk K1.out HKS.out);have c1':=K2.out.cell 1;have c2':=K2.out.cell 2;obtain⟨S1,t2⟩:=T1.out.left t1;have T2:=hI t2;clear t1 t2 C1 c0 c1 c2 c3 c4 c5 c6 c7 c8 c9;go_wp2_with fail;refine(C2.out _ _ _ T2.out).mono ?_;rintro e w3 ⟨rfl,t1⟩;have L3:=hI (T2.out.below2 t1);obtain⟨v',M',t2⟩:=T2.out.right t1;have T3:=hI t2;clear t1 t2 C2 c1' c2';go_wp2_with fail;go_ret;exact⟨by simp,_,_,_,by rw[E1.out];exact T3.out,((l1.out.mono HSZ).trans L2.out).trans L3.out⟩
 ·go_enter Tryz.func39,Tryz.ntmps39;go_upto_region 1 with(first
   | ((with_reducible refine sN 5 ?_);refine v0a rfl _ (.tmp 2) rfl cs rfl ?_;intro k w1 hk1 hk2 k1 l1)
   | fail)
  have K1:Hid (Blk w1 k 58 [.int .i64 a.act,.string ⟨a.path.toArray⟩,.int .u8 a.kind,.int .i64 a.num,.int .i64 a.pos,.int .i64 a.many,.slice a.row.1 a.row.2.1 a.row.2.2.1,.bool a.over,.string ⟨a.pat.toArray⟩,.string ⟨a.aft.toArray⟩]):=by have:=k1.out;rw[HCS.out] at this;exact this
  have c0:=K1.out.cell 0;have c1:=K1.out.cell 1;have c2:=K1.out.cell 2;have c3:=K1.out.cell 3;have c4:=K1.out.cell 4;have c5:=K1.out.cell 5;have c6:=K1.out.cell 6;have c7:=K1.out.cell 7;have c8:=K1.out.cell 8;have c9:=K1.out.cell 9;have HKS:Hid (¬S k):=λh=>by have:=(I.ge H0.out.x k h).2;omega
  have HKR:Hid (¬rvA g v M k):=λh=>by have:=(H0.out.r.set_ge k h).2;omega
  have T1:=hI (H0.out.below l1.out);have A1:=hI (HA.out.below (l1.out.mono HSZ));have T1d:Hid (z8a I w1.drew b q S g v V V M):=T1.out.below (E0a w1 1);clear k1;rw[h1] at c0;go_upto_region 7 with fail
  refine wp_region_held (S:=λw'=>Blk w' k 58 [.int .i64 a.act,.string ⟨a.path.toArray⟩,.int .u8 a.kind,.int .i64 a.num,.int .i64 a.pos,.int .i64 a.many,.slice a.row.1 a.row.2.1 a.row.2.2.1,.bool a.over,.string ⟨a.pat.toArray⟩,.string ⟨a.aft.toArray⟩]) (by kernel_rfl) ?_;change wpAnyH _ _ _ _ _ _ _ _ w1.drew
  have Ss0:Hid (Blk w1.drew k 58 [.int .i64 a.act,.string ⟨a.path.toArray⟩,.int .u8 a.kind,.int .i64 a.num,.int .i64 a.pos,.int .i64 a.many,.slice a.row.1 a.row.2.1 a.row.2.2.1,.bool a.over,.string ⟨a.pat.toArray⟩,.string ⟨a.aft.toArray⟩]):=K1.out;have bs0:Hid (True):=trivial;refine tK 0 _ rfl (a0a (by kernel_rfl) (.tmp 0) rfl (R0a q) (by kernel_rfl)) Ss0.out ?_;refine tK 1 _ rfl (e0a (by kernel_rfl) _ (.tmp 5) 3 rfl (.pointer (some ⟨k,0,none⟩)) (.pointer (some ⟨k,3,none⟩)) (by kernel_rfl) (λw=>by go_simp)) Ss0.out ?_;refine tK 2 _ rfl (b0a (by kernel_rfl) _ (.tmp 58) rfl k (3) (by kernel_rfl) (.int .i64 a.num) (λ_ h=>h.cell 3) _ Tryz.underlying3 rfl) Ss0.out ?_;refine tK 4 _ rfl (a0a (by kernel_rfl) (.tmp 1) rfl (.pointer (some ⟨g,0,none⟩)) (by kernel_rfl)) Ss0.out ?_;refine tK 5 _ rfl (e0a (by kernel_rfl) _ (.tmp 5) 3 rfl (.pointer (some ⟨k,0,none⟩)) (.pointer (some ⟨k,3,none⟩)) (by kernel_rfl) (λw=>by go_simp)) Ss0.out ?_;refine tK 6 _ rfl (b0a (by kernel_rfl) _ (.tmp 62) rfl k (3) (by kernel_rfl) (.int .i64 a.num) (λ_ h=>h.cell 3) _ Tryz.underlying3 rfl) Ss0.out ?_;refine oN 3 _ rfl λK hK=>?_
  go_simp;refine(I.remove T1d.out.x T1d.out.tb T1d.out.hb HA.out.num).mono ?_;rintro e vs1 ⟨rfl,t1⟩;have Ss1:Hid (Blk vs1 k 58 [.int .i64 a.act,.string ⟨a.path.toArray⟩,.int .u8 a.kind,.int .i64 a.num,.int .i64 a.pos,.int .i64 a.many,.slice a.row.1 a.row.2.1 a.row.2.2.1,.bool a.over,.string ⟨a.pat.toArray⟩,.string ⟨a.aft.toArray⟩]):=t1.blk Ss0.out HKS.out;have bs1:Hid (True):=trivial;have L2:=hI (T1d.out.below1 t1);obtain⟨S1,t2⟩:=T1d.out.left t1;have T2:=hI t2;have A2:=hI (A1.out.below (((E0a w1 1).mono T1.out.hb).trans L2.out));clear t1 t2;refine hK _ _ Ss1.out ?_;clear hK K;refine oN 7 _ rfl λK hK=>?_
  go_simp;refine(F6b _ b g v V M T2.out.r T2.out.hb a.num).mono ?_;rintro e vs2 ⟨rfl,t1⟩;have Ss2:Hid (Blk vs2 k 58 [.int .i64 a.act,.string ⟨a.path.toArray⟩,.int .u8 a.kind,.int .i64 a.num,.int .i64 a.pos,.int .i64 a.many,.slice a.row.1 a.row.2.1 a.row.2.2.1,.bool a.over,.string ⟨a.pat.toArray⟩,.string ⟨a.aft.toArray⟩]):=t1.blk Ss1.out HKR.out;have bs2:Hid (True):=trivial;have L3:=hI (T2.out.below2 t1);obtain⟨v',M',t2⟩:=T2.out.right t1;have T3:=hI t2;clear t1 t2;refine hK _ _ Ss2.out ?_;clear hK K;refine oN 8 _ rfl λK hK=>?_
  go_simp;refine hK _ _ Ss2.out ?_;clear hK K;refine oN 9 _ rfl λK hK=>?_
  go_simp;refine hK _ _ Ss2.out ?_;clear hK K;refine dN ?_;go_wp2_with fail;go_ret;have e1:=HAB.out 2 h1;exact⟨by simp,_,_,_,by rw[e1];exact T3.out,((l1.out.mono HSZ).trans (((E0a w1 1).mono (Nat.le_trans HSZ l1.out.size)).trans L2.out)).trans L3.out⟩
 ·go_enter Tryz.func39,Tryz.ntmps39;go_upto_region 1 with(first
   | ((with_reducible refine sN 5 ?_);refine v0a rfl _ (.tmp 2) rfl cs rfl ?_;intro k w1 hk1 hk2 k1 l1)
   | fail)
  have K1:Hid (Blk w1 k 58 [.int .i64 a.act,.string ⟨a.path.toArray⟩,.int .u8 a.kind,.int .i64 a.num,.int .i64 a.pos,.int .i64 a.many,.slice a.row.1 a.row.2.1 a.row.2.2.1,.bool a.over,.string ⟨a.pat.toArray⟩,.string ⟨a.aft.toArray⟩]):=by have:=k1.out;rw[HCS.out] at this;exact this
  have c0:=K1.out.cell 0;have c1:=K1.out.cell 1;have c2:=K1.out.cell 2;have c3:=K1.out.cell 3;have c4:=K1.out.cell 4;have c5:=K1.out.cell 5;have c6:=K1.out.cell 6;have c7:=K1.out.cell 7;have c8:=K1.out.cell 8;have c9:=K1.out.cell 9;have HKS:Hid (¬S k):=λh=>by have:=(I.ge H0.out.x k h).2;omega
  have HKR:Hid (¬rvA g v M k):=λh=>by have:=(H0.out.r.set_ge k h).2;omega
  have T1:=hI (H0.out.below l1.out);have A1:=hI (HA.out.below (l1.out.mono HSZ));have T1d:Hid (z8a I w1.drew b q S g v V V M):=T1.out.below (E0a w1 1);clear k1;rw[h1] at c0;go_upto_region 9 with fail
  refine wp_region_held (S:=λw'=>Blk w' k 58 [.int .i64 a.act,.string ⟨a.path.toArray⟩,.int .u8 a.kind,.int .i64 a.num,.int .i64 a.pos,.int .i64 a.many,.slice a.row.1 a.row.2.1 a.row.2.2.1,.bool a.over,.string ⟨a.pat.toArray⟩,.string ⟨a.aft.toArray⟩]) (by kernel_rfl) ?_;change wpAnyH _ _ _ _ _ _ _ _ w1.drew
  have Ss0:Hid (Blk w1.drew k 58 [.int .i64 a.act,.string ⟨a.path.toArray⟩,.int .u8 a.kind,.int .i64 a.num,.int .i64 a.pos,.int .i64 a.many,.slice a.row.1 a.row.2.1 a.row.2.2.1,.bool a.over,.string ⟨a.pat.toArray⟩,.string ⟨a.aft.toArray⟩]):=K1.out;have bs0:Hid (True):=trivial;refine tK 0 _ rfl (a0a (by kernel_rfl) (.tmp 0) rfl (R0a q) (by kernel_rfl)) Ss0.out ?_;refine tK 1 _ rfl (e0a (by kernel_rfl) _ (.tmp 5) 3 rfl (.pointer (some ⟨k,0,none⟩)) (.pointer (some ⟨k,3,none⟩)) (by kernel_rfl) (λw=>by go_simp)) Ss0.out ?_;refine tK 2 _ rfl (b0a (by kernel_rfl) _ (.tmp 69) rfl k (3) (by kernel_rfl) (.int .i64 a.num) (λ_ h=>h.cell 3) _ Tryz.underlying3 rfl) Ss0.out ?_;refine tK 3 _ rfl (e0a (by kernel_rfl) _ (.tmp 5) 1 rfl (.pointer (some ⟨k,0,none⟩)) (.pointer (some ⟨k,1,none⟩)) (by kernel_rfl) (λw=>by go_simp)) Ss0.out ?_;refine tK 4 _ rfl (b0a (by kernel_rfl) _ (.tmp 71) rfl k (1) (by kernel_rfl) (.string ⟨a.path.toArray⟩) (λ_ h=>h.cell 1) _ Tryz.underlying9 rfl) Ss0.out ?_;refine tK 5 _ rfl (e0a (by kernel_rfl) _ (.tmp 5) 7 rfl (.pointer (some ⟨k,0,none⟩)) (.pointer (some ⟨k,7,none⟩)) (by kernel_rfl) (λw=>by go_simp)) Ss0.out ?_;refine tK 6 _ rfl (b0a (by kernel_rfl) _ (.tmp 73) rfl k (7) (by kernel_rfl) (.bool a.over) (λ_ h=>h.cell 7) _ Tryz.underlying4 rfl) Ss0.out ?_;refine tK 8 _ rfl (a0a (by kernel_rfl) (.tmp 1) rfl (.pointer (some ⟨g,0,none⟩)) (by kernel_rfl)) Ss0.out ?_;refine tK 9 _ rfl (e0a (by kernel_rfl) _ (.tmp 5) 3 rfl (.pointer (some ⟨k,0,none⟩)) (.pointer (some ⟨k,3,none⟩)) (by kernel_rfl) (λw=>by go_simp)) Ss0.out ?_;refine tK 10 _ rfl (b0a (by kernel_rfl) _ (.tmp 77) rfl k (3) (by kernel_rfl) (.int .i64 a.num) (λ_ h=>h.cell 3) _ Tryz.underlying3 rfl) Ss0.out ?_;refine tK 11 _ rfl (e0a (by kernel_rfl) _ (.tmp 5) 1 rfl (.pointer (some ⟨k,0,none⟩)) (.pointer (some ⟨k,1,none⟩)) (by kernel_rfl) (λw=>by go_simp)) Ss0.out ?_;refine tK 12 _ rfl (b0a (by kernel_rfl) _ (.tmp 79) rfl k (1) (by kernel_rfl) (.string ⟨a.path.toArray⟩) (λ_ h=>h.cell 1) _ Tryz.underlying9 rfl) Ss0.out ?_;refine tK 13 _ rfl (e0a (by kernel_rfl) _ (.tmp 5) 7 rfl (.pointer (some ⟨k,0,none⟩)) (.pointer (some ⟨k,7,none⟩)) (by kernel_rfl) (λw=>by go_simp)) Ss0.out ?_;refine tK 14 _ rfl (b0a (by kernel_rfl) _ (.tmp 81) rfl k (7) (by kernel_rfl) (.bool a.over) (λ_ h=>h.cell 7) _ Tryz.underlying4 rfl) Ss0.out ?_;refine oN 7 _ rfl λK hK=>?_
  go_simp;refine(I.move T1d.out.x T1d.out.tb T1d.out.hb HA.out.num HA.out.path).mono ?_;rintro e vs1 ⟨rfl,t1⟩;have Ss1:Hid (Blk vs1 k 58 [.int .i64 a.act,.string ⟨a.path.toArray⟩,.int .u8 a.kind,.int .i64 a.num,.int .i64 a.pos,.int .i64 a.many,.slice a.row.1 a.row.2.1 a.row.2.2.1,.bool a.over,.string ⟨a.pat.toArray⟩,.string ⟨a.aft.toArray⟩]):=t1.blk Ss0.out HKS.out;have bs1:Hid (True):=trivial;have L2:=hI (T1d.out.below1 t1);obtain⟨S1,t2⟩:=T1d.out.left t1;have T2:=hI t2;have A2:=hI (A1.out.below (((E0a w1 1).mono T1.out.hb).trans L2.out));clear t1 t2;refine hK _ _ Ss1.out ?_;clear hK K;refine oN 15 _ rfl λK hK=>?_
  go_simp;refine(C1c _ b g v V M T2.out.r T2.out.hb a.num a.path HA.out.path a.over).mono ?_;rintro e vs2 ⟨rfl,t1⟩;have Ss2:Hid (Blk vs2 k 58 [.int .i64 a.act,.string ⟨a.path.toArray⟩,.int .u8 a.kind,.int .i64 a.num,.int .i64 a.pos,.int .i64 a.many,.slice a.row.1 a.row.2.1 a.row.2.2.1,.bool a.over,.string ⟨a.pat.toArray⟩,.string ⟨a.aft.toArray⟩]):=t1.blk Ss1.out HKR.out;have bs2:Hid (True):=trivial;have L3:=hI (T2.out.below2 t1);obtain⟨v',M',t2⟩:=T2.out.right t1;have T3:=hI t2;clear t1 t2;refine hK _ _ Ss2.out ?_;clear hK K;refine oN 16 _ rfl λK hK=>?_
  go_simp;refine hK _ _ Ss2.out ?_;clear hK K;refine oN 17 _ rfl λK hK=>?_
  go_simp;refine hK _ _ Ss2.out ?_;clear hK K;refine dN ?_;go_wp2_with fail;go_ret;have e1:=HAB.out 3 h1;exact⟨by simp,_,_,_,by rw[e1];exact T3.out,((l1.out.mono HSZ).trans (((E0a w1 1).mono (Nat.le_trans HSZ l1.out.size)).trans L2.out)).trans L3.out⟩
 ·go_enter Tryz.func39,Tryz.ntmps39;go_upto_region 1 with(first
   | ((with_reducible refine sN 5 ?_);refine v0a rfl _ (.tmp 2) rfl cs rfl ?_;intro k w1 hk1 hk2 k1 l1)
   | fail)
  have K1:Hid (Blk w1 k 58 [.int .i64 a.act,.string ⟨a.path.toArray⟩,.int .u8 a.kind,.int .i64 a.num,.int .i64 a.pos,.int .i64 a.many,.slice a.row.1 a.row.2.1 a.row.2.2.1,.bool a.over,.string ⟨a.pat.toArray⟩,.string ⟨a.aft.toArray⟩]):=by have:=k1.out;rw[HCS.out] at this;exact this
  have c0:=K1.out.cell 0;have c1:=K1.out.cell 1;have c2:=K1.out.cell 2;have c3:=K1.out.cell 3;have c4:=K1.out.cell 4;have c5:=K1.out.cell 5;have c6:=K1.out.cell 6;have c7:=K1.out.cell 7;have c8:=K1.out.cell 8;have c9:=K1.out.cell 9;have HKS:Hid (¬S k):=λh=>by have:=(I.ge H0.out.x k h).2;omega
  have HKR:Hid (¬rvA g v M k):=λh=>by have:=(H0.out.r.set_ge k h).2;omega
  have T1:=hI (H0.out.below l1.out);have A1:=hI (HA.out.below (l1.out.mono HSZ));have T1d:Hid (z8a I w1.drew b q S g v V V M):=T1.out.below (E0a w1 1);clear k1;rw[h1] at c0;go_upto_region 11 with fail
  refine wp_region_held (S:=λw'=>Blk w' k 58 [.int .i64 a.act,.string ⟨a.path.toArray⟩,.int .u8 a.kind,.int .i64 a.num,.int .i64 a.pos,.int .i64 a.many,.slice a.row.1 a.row.2.1 a.row.2.2.1,.bool a.over,.string ⟨a.pat.toArray⟩,.string ⟨a.aft.toArray⟩]) (by kernel_rfl) ?_;change wpAnyH _ _ _ _ _ _ _ _ w1.drew
  have Ss0:Hid (Blk w1.drew k 58 [.int .i64 a.act,.string ⟨a.path.toArray⟩,.int .u8 a.kind,.int .i64 a.num,.int .i64 a.pos,.int .i64 a.many,.slice a.row.1 a.row.2.1 a.row.2.2.1,.bool a.over,.string ⟨a.pat.toArray⟩,.string ⟨a.aft.toArray⟩]):=K1.out;have bs0:Hid (True):=trivial;refine tK 0 _ rfl (a0a (by kernel_rfl) (.tmp 0) rfl (R0a q) (by kernel_rfl)) Ss0.out ?_;refine tK 1 _ rfl (e0a (by kernel_rfl) _ (.tmp 5) 3 rfl (.pointer (some ⟨k,0,none⟩)) (.pointer (some ⟨k,3,none⟩)) (by kernel_rfl) (λw=>by go_simp)) Ss0.out ?_;refine tK 2 _ rfl (b0a (by kernel_rfl) _ (.tmp 88) rfl k (3) (by kernel_rfl) (.int .i64 a.num) (λ_ h=>h.cell 3) _ Tryz.underlying3 rfl) Ss0.out ?_;refine tK 3 _ rfl (e0a (by kernel_rfl) _ (.tmp 5) 4 rfl (.pointer (some ⟨k,0,none⟩)) (.pointer (some ⟨k,4,none⟩)) (by kernel_rfl) (λw=>by go_simp)) Ss0.out ?_;refine tK 4 _ rfl (b0a (by kernel_rfl) _ (.tmp 90) rfl k (4) (by kernel_rfl) (.int .i64 a.pos) (λ_ h=>h.cell 4) _ Tryz.underlying3 rfl) Ss0.out ?_;refine tK 5 _ rfl (e0a (by kernel_rfl) _ (.tmp 5) 6 rfl (.pointer (some ⟨k,0,none⟩)) (.pointer (some ⟨k,6,none⟩)) (by kernel_rfl) (λw=>by go_simp)) Ss0.out ?_;refine tK 6 _ rfl (b0a (by kernel_rfl) _ (.tmp 92) rfl k (6) (by kernel_rfl) (.slice a.row.1 a.row.2.1 a.row.2.2.1) (λ_ h=>h.cell 6) _ Tryz.underlying51 rfl) Ss0.out ?_;refine tK 8 _ rfl (a0a (by kernel_rfl) (.tmp 1) rfl (.pointer (some ⟨g,0,none⟩)) (by kernel_rfl)) Ss0.out ?_;refine tK 9 _ rfl (e0a (by kernel_rfl) _ (.tmp 5) 3 rfl (.pointer (some ⟨k,0,none⟩)) (.pointer (some ⟨k,3,none⟩)) (by kernel_rfl) (λw=>by go_simp)) Ss0.out ?_;refine tK 10 _ rfl (b0a (by kernel_rfl) _ (.tmp 96) rfl k (3) (by kernel_rfl) (.int .i64 a.num) (λ_ h=>h.cell 3) _ Tryz.underlying3 rfl) Ss0.out ?_;refine tK 11 _ rfl (e0a (by kernel_rfl) _ (.tmp 5) 4 rfl (.pointer (some ⟨k,0,none⟩)) (.pointer (some ⟨k,4,none⟩)) (by kernel_rfl) (λw=>by go_simp)) Ss0.out ?_;refine tK 12 _ rfl (b0a (by kernel_rfl) _ (.tmp 98) rfl k (4) (by kernel_rfl) (.int .i64 a.pos) (λ_ h=>h.cell 4) _ Tryz.underlying3 rfl) Ss0.out ?_;refine tK 13 _ rfl (e0a (by kernel_rfl) _ (.tmp 5) 6 rfl (.pointer (some ⟨k,0,none⟩)) (.pointer (some ⟨k,6,none⟩)) (by kernel_rfl) (λw=>by go_simp)) Ss0.out ?_;refine tK 14 _ rfl (b0a (by kernel_rfl) _ (.tmp 100) rfl k (6) (by kernel_rfl) (.slice a.row.1 a.row.2.1 a.row.2.2.1) (λ_ h=>h.cell 6) _ Tryz.underlying51 rfl) Ss0.out ?_;refine oN 7 _ rfl λK hK=>?_
  go_simp;refine(I.write T1d.out.x T1d.out.tb T1d.out.hb HA.out.num HA.out.pos ((A1.out.below ((E0a w1 1).mono T1.out.hb)).row.mono T1d.out.hb) (λh0 x hx hS=>by obtain⟨b',o',e,hb,_⟩:=A1.out.row.cells h0;rw[hx] at e;injection e with e;subst e;exact absurd hb (Nat.not_lt.2 (I.ge T1d.out.x _ hS).1)) (Nat.le_trans A1.out.cap (by decide))).mono ?_;rintro e vs1 ⟨rfl,t1⟩;have Ss1:Hid (Blk vs1 k 58 [.int .i64 a.act,.string ⟨a.path.toArray⟩,.int .u8 a.kind,.int .i64 a.num,.int .i64 a.pos,.int .i64 a.many,.slice a.row.1 a.row.2.1 a.row.2.2.1,.bool a.over,.string ⟨a.pat.toArray⟩,.string ⟨a.aft.toArray⟩]):=t1.blk Ss0.out HKS.out;have bs1:Hid (True):=trivial;have L2:=hI (T1d.out.below1 t1);obtain⟨S1,t2⟩:=T1d.out.left t1;have T2:=hI t2;have A2:=hI (A1.out.below (((E0a w1 1).mono T1.out.hb).trans L2.out));clear t1 t2;refine hK _ _ Ss1.out ?_;clear hK K;refine oN 15 _ rfl λK hK=>?_
  go_simp;refine(n5b _ b g v V M T2.out.r T2.out.hb a.num a.pos HA.out.pos _ _ _ _ A2.out.row).mono ?_;rintro e vs2 ⟨rfl,t1⟩;have Ss2:Hid (Blk vs2 k 58 [.int .i64 a.act,.string ⟨a.path.toArray⟩,.int .u8 a.kind,.int .i64 a.num,.int .i64 a.pos,.int .i64 a.many,.slice a.row.1 a.row.2.1 a.row.2.2.1,.bool a.over,.string ⟨a.pat.toArray⟩,.string ⟨a.aft.toArray⟩]):=t1.blk Ss1.out HKR.out;have bs2:Hid (True):=trivial;have L3:=hI (T2.out.below2 t1);obtain⟨v',M',t2⟩:=T2.out.right t1;have T3:=hI t2;clear t1 t2;refine hK _ _ Ss2.out ?_;clear hK K;refine oN 16 _ rfl λK hK=>?_
  go_simp;refine hK _ _ Ss2.out ?_;clear hK K;refine oN 17 _ rfl λK hK=>?_
  go_simp;refine hK _ _ Ss2.out ?_;clear hK K;refine dN ?_;go_wp2_with fail;go_ret;have e1:=HAB.out 4 h1;exact⟨by simp,_,_,_,by rw[e1];exact T3.out,((l1.out.mono HSZ).trans (((E0a w1 1).mono (Nat.le_trans HSZ l1.out.size)).trans L2.out)).trans L3.out⟩
 ·go_enter Tryz.func39,Tryz.ntmps39;go_upto_region 1 with(first
   | ((with_reducible refine sN 5 ?_);refine v0a rfl _ (.tmp 2) rfl cs rfl ?_;intro k w1 hk1 hk2 k1 l1)
   | fail)
  have K1:Hid (Blk w1 k 58 [.int .i64 a.act,.string ⟨a.path.toArray⟩,.int .u8 a.kind,.int .i64 a.num,.int .i64 a.pos,.int .i64 a.many,.slice a.row.1 a.row.2.1 a.row.2.2.1,.bool a.over,.string ⟨a.pat.toArray⟩,.string ⟨a.aft.toArray⟩]):=by have:=k1.out;rw[HCS.out] at this;exact this
  have c0:=K1.out.cell 0;have c1:=K1.out.cell 1;have c2:=K1.out.cell 2;have c3:=K1.out.cell 3;have c4:=K1.out.cell 4;have c5:=K1.out.cell 5;have c6:=K1.out.cell 6;have c7:=K1.out.cell 7;have c8:=K1.out.cell 8;have c9:=K1.out.cell 9;have HKS:Hid (¬S k):=λh=>by have:=(I.ge H0.out.x k h).2;omega
  have HKR:Hid (¬rvA g v M k):=λh=>by have:=(H0.out.r.set_ge k h).2;omega
  have T1:=hI (H0.out.below l1.out);have A1:=hI (HA.out.below (l1.out.mono HSZ));have T1d:Hid (z8a I w1.drew b q S g v V V M):=T1.out.below (E0a w1 1);clear k1;rw[h1] at c0;go_upto_region 13 with fail
  refine wp_region_held (S:=λw'=>Blk w' k 58 [.int .i64 a.act,.string ⟨a.path.toArray⟩,.int .u8 a.kind,.int .i64 a.num,.int .i64 a.pos,.int .i64 a.many,.slice a.row.1 a.row.2.1 a.row.2.2.1,.bool a.over,.string ⟨a.pat.toArray⟩,.string ⟨a.aft.toArray⟩]) (by kernel_rfl) ?_;change wpAnyH _ _ _ _ _ _ _ _ w1.drew
  have Ss0:Hid (Blk w1.drew k 58 [.int .i64 a.act,.string ⟨a.path.toArray⟩,.int .u8 a.kind,.int .i64 a.num,.int .i64 a.pos,.int .i64 a.many,.slice a.row.1 a.row.2.1 a.row.2.2.1,.bool a.over,.string ⟨a.pat.toArray⟩,.string ⟨a.aft.toArray⟩]):=K1.out;have bs0:Hid (True):=trivial;refine tK 0 _ rfl (a0a (by kernel_rfl) (.tmp 0) rfl (R0a q) (by kernel_rfl)) Ss0.out ?_;refine tK 1 _ rfl (e0a (by kernel_rfl) _ (.tmp 5) 3 rfl (.pointer (some ⟨k,0,none⟩)) (.pointer (some ⟨k,3,none⟩)) (by kernel_rfl) (λw=>by go_simp)) Ss0.out ?_;refine tK 2 _ rfl (b0a (by kernel_rfl) _ (.tmp 107) rfl k (3) (by kernel_rfl) (.int .i64 a.num) (λ_ h=>h.cell 3) _ Tryz.underlying3 rfl) Ss0.out ?_;refine tK 3 _ rfl (e0a (by kernel_rfl) _ (.tmp 5) 4 rfl (.pointer (some ⟨k,0,none⟩)) (.pointer (some ⟨k,4,none⟩)) (by kernel_rfl) (λw=>by go_simp)) Ss0.out ?_;refine tK 4 _ rfl (b0a (by kernel_rfl) _ (.tmp 109) rfl k (4) (by kernel_rfl) (.int .i64 a.pos) (λ_ h=>h.cell 4) _ Tryz.underlying3 rfl) Ss0.out ?_;refine tK 6 _ rfl (a0a (by kernel_rfl) (.tmp 1) rfl (.pointer (some ⟨g,0,none⟩)) (by kernel_rfl)) Ss0.out ?_;refine tK 7 _ rfl (e0a (by kernel_rfl) _ (.tmp 5) 3 rfl (.pointer (some ⟨k,0,none⟩)) (.pointer (some ⟨k,3,none⟩)) (by kernel_rfl) (λw=>by go_simp)) Ss0.out ?_;refine tK 8 _ rfl (b0a (by kernel_rfl) _ (.tmp 113) rfl k (3) (by kernel_rfl) (.int .i64 a.num) (λ_ h=>h.cell 3) _ Tryz.underlying3 rfl) Ss0.out ?_;refine tK 9 _ rfl (e0a (by kernel_rfl) _ (.tmp 5) 4 rfl (.pointer (some ⟨k,0,none⟩)) (.pointer (some ⟨k,4,none⟩)) (by kernel_rfl) (λw=>by go_simp)) Ss0.out ?_;refine tK 10 _ rfl (b0a (by kernel_rfl) _ (.tmp 115) rfl k (4) (by kernel_rfl) (.int .i64 a.pos) (λ_ h=>h.cell 4) _ Tryz.underlying3 rfl) Ss0.out ?_;refine oN 5 _ rfl λK hK=>?_
  go_simp;refine(I.cut T1d.out.x T1d.out.tb T1d.out.hb HA.out.num HA.out.pos).mono ?_;rintro e vs1 ⟨rfl,t1⟩;have Ss1:Hid (Blk vs1 k 58 [.int .i64 a.act,.string ⟨a.path.toArray⟩,.int .u8 a.kind,.int .i64 a.num,.int .i64 a.pos,.int .i64 a.many,.slice a.row.1 a.row.2.1 a.row.2.2.1,.bool a.over,.string ⟨a.pat.toArray⟩,.string ⟨a.aft.toArray⟩]):=t1.blk Ss0.out HKS.out;have bs1:Hid (True):=trivial;have L2:=hI (T1d.out.below1 t1);obtain⟨S1,t2⟩:=T1d.out.left t1;have T2:=hI t2;have A2:=hI (A1.out.below (((E0a w1 1).mono T1.out.hb).trans L2.out));clear t1 t2;refine hK _ _ Ss1.out ?_;clear hK K;refine oN 11 _ rfl λK hK=>?_
  go_simp;refine(U8b _ b g v V M T2.out.r T2.out.hb a.num a.pos HA.out.pos).mono ?_;rintro e vs2 ⟨rfl,t1⟩;have Ss2:Hid (Blk vs2 k 58 [.int .i64 a.act,.string ⟨a.path.toArray⟩,.int .u8 a.kind,.int .i64 a.num,.int .i64 a.pos,.int .i64 a.many,.slice a.row.1 a.row.2.1 a.row.2.2.1,.bool a.over,.string ⟨a.pat.toArray⟩,.string ⟨a.aft.toArray⟩]):=t1.blk Ss1.out HKR.out;have bs2:Hid (True):=trivial;have L3:=hI (T2.out.below2 t1);obtain⟨v',M',t2⟩:=T2.out.right t1;have T3:=hI t2;clear t1 t2;refine hK _ _ Ss2.out ?_;clear hK K;refine oN 12 _ rfl λK hK=>?_
  go_simp;refine hK _ _ Ss2.out ?_;clear hK K;refine oN 13 _ rfl λK hK=>?_
  go_simp;refine hK _ _ Ss2.out ?_;clear hK K;refine dN ?_;go_wp2_with fail;go_ret;have e1:=HAB.out 5 h1;exact⟨by simp,_,_,_,by rw[e1];exact T3.out,((l1.out.mono HSZ).trans (((E0a w1 1).mono (Nat.le_trans HSZ l1.out.size)).trans L2.out)).trans L3.out⟩
 ·go_enter Tryz.func39,Tryz.ntmps39;go_upto_region 1 with(first
   | ((with_reducible refine sN 5 ?_);refine v0a rfl _ (.tmp 2) rfl cs rfl ?_;intro k w1 hk1 hk2 k1 l1)
   | fail)
  have K1:Hid (Blk w1 k 58 [.int .i64 a.act,.string ⟨a.path.toArray⟩,.int .u8 a.kind,.int .i64 a.num,.int .i64 a.pos,.int .i64 a.many,.slice a.row.1 a.row.2.1 a.row.2.2.1,.bool a.over,.string ⟨a.pat.toArray⟩,.string ⟨a.aft.toArray⟩]):=by have:=k1.out;rw[HCS.out] at this;exact this
  have c0:=K1.out.cell 0;have c1:=K1.out.cell 1;have c2:=K1.out.cell 2;have c3:=K1.out.cell 3;have c4:=K1.out.cell 4;have c5:=K1.out.cell 5;have c6:=K1.out.cell 6;have c7:=K1.out.cell 7;have c8:=K1.out.cell 8;have c9:=K1.out.cell 9;have HKS:Hid (¬S k):=λh=>by have:=(I.ge H0.out.x k h).2;omega
  have HKR:Hid (¬rvA g v M k):=λh=>by have:=(H0.out.r.set_ge k h).2;omega
  have T1:=hI (H0.out.below l1.out);have A1:=hI (HA.out.below (l1.out.mono HSZ));have T1d:Hid (z8a I w1.drew b q S g v V V M):=T1.out.below (E0a w1 1);clear k1;rw[h1] at c0;have C1:=hI (I.read T1.out.x HA.out.num HA.out.pos HA.out.many);have C2:Hid (∀w2,Below w1.heap.size w1 w2->_):=λw2 (l:Below w1.heap.size w1 w2)=>G6b w2 b g v V M (T1.out.below l).r a.num a.pos a.many HA.out.pos HA.out.many
  have CS:Hid (∀w2 B B' A A' n c n' c',Holds w2 B A n c (E2a V.l a.num a.pos a.many)->Holds w2 B' A' n' c' (E2a V.l a.num a.pos a.many)->_):=λw2 B B' A A' n c n' c' (k1:Holds w2 B A n c (E2a V.l a.num a.pos a.many)) k2=>i9a w2 B B' A A' n c n' c' _ (E2a V.l a.num a.pos a.many) k1 k2
  rw[decide_eq_true rfl] at CS;obtain⟨zs,hzs⟩:∃x,x=E2a V.l a.num a.pos a.many:=⟨_,rfl⟩;obtain⟨me,hme⟩:∃x,x=s2a V.l a.num a.pos a.many:=⟨_,rfl⟩;rw[<-hzs] at C1 C2 CS HRS;rw[<-hme] at C1 C2;clear hzs hme;have e1:=HAB.out 6 h1;have E1:Hid (J6b a V=V):=e1;clear e1;go_wp2_with fail;refine C1.out.mono ?_;rintro e w2 ⟨u2,rfl,o2,l2⟩;obtain⟨A2,k2,rfl,hh2⟩:=o2.holds HRS.out.1 (Nat.le_trans HRS.out.2 (by decide));have R2:=hI hh2;have L2:=hI l2;have K2:=hI (K1.out.over l2);have c3':=K2.out.cell 3;have c4':=K2.out.cell 4;have c5':=K2.out.cell 5;obtain⟨nn,hnn⟩:∃n,n=zs.length:=⟨_,rfl⟩;rw[<-hnn] at R2⊢;clear o2 l2 hh2 C1 c0 c1 c2 c3 c4 c5 c6 c7 c8 c9;go_wp2_with fail;refine(C2.out _ L2.out).mono ?_;rintro e w3 ⟨u3,rfl,o3,l3⟩;obtain⟨A3,k3,rfl,hh3⟩:=o3.holds HRS.out.1 (Nat.le_trans HRS.out.2 (by decide));rw[<-hnn] at hh3⊢;have R3:=hI hh3;have R2':=hI (R2.out.over l3);have L3:=hI (L2.out.trans (l3.mono L2.out.size));clear o3 l3 hh3 C2 R2 hnn c3' c4' c5';go_wp2_with fail;refine(CS.out _ _ _ _ _ _ _ _ _ R2'.out R3.out).mono ?_;rintro e w4 ⟨rfl,k4,rfl⟩;clear R2' R3 CS;go_wp2_with fail;go_ret;exact⟨by simp,_,_,_,by rw[E1.out];exact(T1.out.below L3.out).below (E0a _ _),(l1.out.mono HSZ).trans ((L3.out.mono (Nat.le_trans HSZ l1.out.size)).trans ((E0a w3 k4).mono (Nat.le_trans HSZ (Nat.le_trans l1.out.size L3.out.size))))⟩
 ·go_enter Tryz.func39,Tryz.ntmps39;go_upto_region 1 with(first
   | ((with_reducible refine sN 5 ?_);refine v0a rfl _ (.tmp 2) rfl cs rfl ?_;intro k w1 hk1 hk2 k1 l1)
   | fail)
  have K1:Hid (Blk w1 k 58 [.int .i64 a.act,.string ⟨a.path.toArray⟩,.int .u8 a.kind,.int .i64 a.num,.int .i64 a.pos,.int .i64 a.many,.slice a.row.1 a.row.2.1 a.row.2.2.1,.bool a.over,.string ⟨a.pat.toArray⟩,.string ⟨a.aft.toArray⟩]):=by have:=k1.out;rw[HCS.out] at this;exact this
  have c0:=K1.out.cell 0;have c1:=K1.out.cell 1;have c2:=K1.out.cell 2;have c3:=K1.out.cell 3;have c4:=K1.out.cell 4;have c5:=K1.out.cell 5;have c6:=K1.out.cell 6;have c7:=K1.out.cell 7;have c8:=K1.out.cell 8;have c9:=K1.out.cell 9;have HKS:Hid (¬S k):=λh=>by have:=(I.ge H0.out.x k h).2;omega
  have HKR:Hid (¬rvA g v M k):=λh=>by have:=(H0.out.r.set_ge k h).2;omega
  have T1:=hI (H0.out.below l1.out);have A1:=hI (HA.out.below (l1.out.mono HSZ));have T1d:Hid (z8a I w1.drew b q S g v V V M):=T1.out.below (E0a w1 1);clear k1;rw[h1] at c0;have C1:=hI (I.find T1.out.x T1.out.tb T1.out.hb HA.out.path);have C2:Hid (∀w2,Below w1.heap.size w1 w2->_):=λw2 (l:Below w1.heap.size w1 w2)=>u8a w2 b g v V M (T1.out.below l).r a.path HA.out.path
  obtain⟨mn,hmn⟩:∃x,x=(A1a V.l a.path).1:=⟨_,rfl⟩;obtain⟨me,hme⟩:∃x,x=(A1a V.l a.path).2:=⟨_,rfl⟩;rw[<-hmn,<-hme] at C1 C2;clear hmn hme;have e1:=HAB.out 7 h1;have E1:Hid (J6b a V=V):=e1;clear e1;go_wp2_with fail;refine C1.out.mono ?_;rintro e w2 ⟨rfl,l2⟩;have L2:=hI l2;have K2:=hI (K1.out.over l2);have c1':=K2.out.cell 1;clear l2 C1 c0 c1 c2 c3 c4 c5 c6 c7 c8 c9;go_wp2_with fail;refine(C2.out _ L2.out).mono ?_;rintro e w3 ⟨rfl,l3⟩;have L3:=hI (L2.out.trans (l3.mono L2.out.size));clear l3 C2 c1';go_wp2_with fail;go_ret;exact⟨by simp,_,_,_,by rw[E1.out];exact T1.out.below L3.out,(l1.out.mono HSZ).trans (L3.out.mono (Nat.le_trans HSZ l1.out.size))⟩
 ·go_enter Tryz.func39,Tryz.ntmps39;go_upto_region 1 with(first
   | ((with_reducible refine sN 5 ?_);refine v0a rfl _ (.tmp 2) rfl cs rfl ?_;intro k w1 hk1 hk2 k1 l1)
   | fail)
  have K1:Hid (Blk w1 k 58 [.int .i64 a.act,.string ⟨a.path.toArray⟩,.int .u8 a.kind,.int .i64 a.num,.int .i64 a.pos,.int .i64 a.many,.slice a.row.1 a.row.2.1 a.row.2.2.1,.bool a.over,.string ⟨a.pat.toArray⟩,.string ⟨a.aft.toArray⟩]):=by have:=k1.out;rw[HCS.out] at this;exact this
  have c0:=K1.out.cell 0;have c1:=K1.out.cell 1;have c2:=K1.out.cell 2;have c3:=K1.out.cell 3;have c4:=K1.out.cell 4;have c5:=K1.out.cell 5;have c6:=K1.out.cell 6;have c7:=K1.out.cell 7;have c8:=K1.out.cell 8;have c9:=K1.out.cell 9;have HKS:Hid (¬S k):=λh=>by have:=(I.ge H0.out.x k h).2;omega
  have HKR:Hid (¬rvA g v M k):=λh=>by have:=(H0.out.r.set_ge k h).2;omega
  have T1:=hI (H0.out.below l1.out);have A1:=hI (HA.out.below (l1.out.mono HSZ));have T1d:Hid (z8a I w1.drew b q S g v V V M):=T1.out.below (E0a w1 1);clear k1;rw[h1] at c0;have C1:=hI (I.list T1.out.x T1.out.tb T1.out.hb HA.out.num HA.out.many HA.out.pat HA.out.aft);have C2:Hid (∀w2,Below w1.heap.size w1 w2->_):=λw2 (l:Below w1.heap.size w1 w2)=>R1b w2 b g v V M (T1.out.below l).r a.num a.many a.pat a.aft HA.out.pat HA.out.aft
  have CS:Hid (∀w2 B B' A A' n c n' c',L0a W0a 3 w2 B A n c (D4a V.l a.num a.pat a.aft a.many)->L0a W0a 3 w2 B' A' n' c' (D4a V.l a.num a.pat a.aft a.many)->n<=281474976710656->n'<=281474976710656->_):=λw2 B B' A A' n c n' c' (k1:L0a W0a 3 w2 B A n c (D4a V.l a.num a.pat a.aft a.many)) (k2:L0a W0a 3 w2 B' A' n' c' (D4a V.l a.num a.pat a.aft a.many)) k3 k4=>y8a w2 B B' A A' n c n' c' _ _ k1.ents k2.ents k3 k4
  rw[decide_eq_true rfl] at CS;unfold d3a at C2;obtain⟨zs,hzs⟩:∃x,x=D4a V.l a.num a.pat a.aft a.many:=⟨_,rfl⟩;obtain⟨mo,hmo⟩:∃x,x=N8a V.l a.num a.pat a.aft a.many:=⟨_,rfl⟩;obtain⟨me,hme⟩:∃x,x=Z3a V.l a.num a.pat a.aft a.many:=⟨_,rfl⟩;rw[<-hzs] at C1 C2 CS HLS;rw[<-hmo,<-hme] at C1 C2;clear hzs hmo hme;have e1:=HAB.out 8 h1;have E1:Hid (J6b a V=V):=e1;clear e1;go_wp2_with fail;refine C1.out.mono ?_;rintro e w2 ⟨u2,rfl,o2,l2⟩;obtain⟨A2,n2,k2,rfl,hh2⟩:=o2.holds (by decide) x2a;have N2:Hid (n2<=281474976710656):=by have:=hh2.len;have:=HLS.out;show _<=_;omega
  have R2:=hI hh2;have L2:=hI l2;have K2:=hI (K1.out.over l2);have c3':=K2.out.cell 3;have c5':=K2.out.cell 5;have c8':=K2.out.cell 8;have c9':=K2.out.cell 9;clear o2 l2 hh2 C1 c0 c1 c2 c3 c4 c5 c6 c7 c8 c9;go_wp2_with fail;refine(C2.out _ L2.out).mono ?_;rintro e w3 ⟨u3,rfl,o3,l3⟩;obtain⟨A3,n3,k3,rfl,hh3⟩:=o3.holds (by decide) x2a;have N3:Hid (n3<=281474976710656):=by have:=hh3.len;have:=HLS.out;show _<=_;omega
  have R3:=hI hh3;have R2':=hI (R2.out.over l3);have L3:=hI (L2.out.trans (l3.mono L2.out.size));clear o3 l3 hh3 C2 R2 c3' c5' c8' c9';go_wp2_with fail;refine(CS.out _ _ _ _ _ _ _ _ _ R2'.out R3.out N2.out N3.out).mono ?_;rintro e w4 ⟨rfl,k4,rfl⟩;clear R2' R3 CS;go_wp2_with fail;go_ret;exact⟨by simp,_,_,_,by rw[E1.out];exact(T1.out.below L3.out).below (E0a _ _),(l1.out.mono HSZ).trans ((L3.out.mono (Nat.le_trans HSZ l1.out.size)).trans ((E0a w3 k4).mono (Nat.le_trans HSZ (Nat.le_trans l1.out.size L3.out.size))))⟩
 ·go_enter Tryz.func39,Tryz.ntmps39;go_upto_region 1 with(first
   | ((with_reducible refine sN 5 ?_);refine v0a rfl _ (.tmp 2) rfl cs rfl ?_;intro k w1 hk1 hk2 k1 l1)
   | fail)
  have K1:Hid (Blk w1 k 58 [.int .i64 a.act,.string ⟨a.path.toArray⟩,.int .u8 a.kind,.int .i64 a.num,.int .i64 a.pos,.int .i64 a.many,.slice a.row.1 a.row.2.1 a.row.2.2.1,.bool a.over,.string ⟨a.pat.toArray⟩,.string ⟨a.aft.toArray⟩]):=by have:=k1.out;rw[HCS.out] at this;exact this
  have c0:=K1.out.cell 0;have c1:=K1.out.cell 1;have c2:=K1.out.cell 2;have c3:=K1.out.cell 3;have c4:=K1.out.cell 4;have c5:=K1.out.cell 5;have c6:=K1.out.cell 6;have c7:=K1.out.cell 7;have c8:=K1.out.cell 8;have c9:=K1.out.cell 9;have HKS:Hid (¬S k):=λh=>by have:=(I.ge H0.out.x k h).2;omega
  have HKR:Hid (¬rvA g v M k):=λh=>by have:=(H0.out.r.set_ge k h).2;omega
  have T1:=hI (H0.out.below l1.out);have A1:=hI (HA.out.below (l1.out.mono HSZ));have T1d:Hid (z8a I w1.drew b q S g v V V M):=T1.out.below (E0a w1 1);clear k1;go_wp2_with fail;go_ret;have e:J6b a V=V:=by unfold J6b;rw[if_neg h1,if_neg h2,if_neg h3,if_neg h4,if_neg h5]
  exact⟨rfl,_,_,_,by rw[e];exact T1.out,l1.out.mono HSZ⟩
theorem V9a:Tryz.prog.eqGuardType Tryz.prog.depth 34=false:=by kernel_rfl
theorem q4a(a b c d:Int)(w:World):(Op.equalIn 10000 34 (.agg #[.int .u8 a,.int .i64 b]) (.agg #[.int .u8 c,.int .i64 d])).run Tryz.prog w=.ok (decide (a=c/\b=d)) w:=by
 rw[show(10000:Nat)=9999+1 from rfl,run_equalIn_struct w 9999 34 _ _ Tryz.underlying34 (by kernel_rfl),z6a,P1b];have h:=S7a (P:=Tryz.prog) (w:=w) (d:=9998) (xs:=#[.int .u8 a,.int .i64 b]) (ys:=#[.int .u8 c,.int .i64 d]) 32 .u8 0 a c Tryz.underlying32 rfl rfl
  (S7a (r:=[]) (q:=true) 3 .i64 1 b d Tryz.underlying3 rfl rfl (by simp[D5a]))
 refine h.trans ?_
 congr 1
 rw[Bool.eq_iff_iff];simp
theorem V3b{V:X0a}(h:Vok V)(hl:V.last<=1048576){x:Int}(hx:x∈Y0a V.l):c2a x:=by unfold Y0a at hx;obtain⟨y,hy,rfl⟩:=List.mem_map.1 hx;have:=h.num y hy;unfold c2a;omega
theorem d6a(I:e0b)(w:World)(b q:Nat)(S:Nat->Prop)(g:Nat)(v:Value)(V:X0a)(M:List VP)(h:z8a I w b q S g v V V M) :
  Calls Tryz.prog 32 #[R0a q,.pointer (some ⟨g,0,none⟩)] w λe w'=>e=.returned (.bool true)/\Below w.heap.size w w':=by
 have H0:=hI h;have hok:=I.ok h.x;have HNL:Hid ((Y0a V.l).length<=256):=by show _<=_;unfold Y0a;rw[List.length_map];exact hok.1.many
 have HI64:Hid (∀x∈Y0a V.l,c2a x):=λx hx=>V3b hok.1 hok.2 hx
 have C1:=hI (I.nodes h.x h.tb);have C2:Hid (∀w2,Below w.heap.size w w2->_):=λw2 (l:Below w.heap.size w w2)=>W8b w2 b g v V M (h.below l).r
 have CI:Hid (∀w2 B B' A A' n c n' c',U0a (Value.int .i64) w2 B A n c (Y0a V.l)->U0a (Value.int .i64) w2 B' A' n' c' (Y0a V.l)->n<=281474976710656->n'<=281474976710656->_):=λw2 B B' A A' n c n' c' (k1:U0a (Value.int .i64) w2 B A n c (Y0a V.l)) k2 k3 k4=>G3c w2 B B' A A' n c n' c' _ (Y0a V.l) k1 k2 k3 k4
 rw[decide_eq_true rfl] at CI;have CU1:Hid (∀w2,Below w.heap.size w w2->_):=λw2 (l:Below w.heap.size w w2)=>I.used (h.below l).x (h.below l).tb
 have CU2:Hid (∀w2,Below w.heap.size w w2->_):=λw2 (l:Below w.heap.size w w2)=>x1c w2 b g v V M (h.below l).r
 have CS1:Hid (∀x,c2a x->∀w2,Below w.heap.size w w2->_):=λx (hx:c2a x) w2 (l:Below w.heap.size w w2)=>I.stat (h.below l).x hx
 have CS2:Hid (∀x:Int,∀w2,Below w.heap.size w w2->_):=λx w2 (l:Below w.heap.size w w2)=>x8a w2 b g v V M (h.below l).r x
 have CP1:Hid (∀x,c2a x->∀w2,Below w.heap.size w w2->_):=λx (hx:c2a x) w2 (l:Below w.heap.size w w2)=>I.path (h.below l).x (h.below l).tb (h.below l).hb hx
 have CP2:Hid (∀x:Int,∀w2,Below w.heap.size w w2->_):=λx w2 (l:Below w.heap.size w w2)=>v8a w2 b g v V M (h.below l).r x
 have ZN:Hid ((Tryz.prog.info? 34).map (λi=>(i.zero,i.size))=some (some (.agg ([.int .u8 0,.int .i64 0]:List Value).toArray),2)):=w2a;have SZ:Hid ((Tryz.prog.info? 34).map (·.size)=some 2):=J0a;have GS:=V9a;obtain⟨ns,hns⟩:∃x,x=Y0a V.l:=⟨_,rfl⟩;obtain⟨us,hus⟩:∃x:Int,x=(T0a V.l:Nat):=⟨_,rfl⟩;rw[<-hns] at HNL HI64 C1 C2 CI;rw[<-hus] at CU1 CU2;clear h hok hns hus;go_enter Tryz.func32,Tryz.ntmps32;go_wp2_with fail;refine C1.out.mono ?_;rintro e w1 ⟨u1,rfl,o1,l1⟩;obtain⟨A1,n1,c1,rfl,hh1⟩:=o1.holds;have N1:Hid (n1<=256):=by have:=hh1.len;have:=HNL.out;show _<=_;omega
 have R1:=hI hh1;have L1:=hI l1;clear o1 l1 hh1 C1;go_wp2_with fail;refine(C2.out _ L1.out).mono ?_;rintro e w2 ⟨u2,rfl,o2,l2⟩;obtain⟨A2,n2,c2,rfl,hh2⟩:=o2.holds;have N2:Hid (n2<=256):=by have:=hh2.len;have:=HNL.out;show _<=_;omega
 have R2:=hI hh2;have R1':=hI (R1.out.over l2);have L2:=hI (L1.out.trans (l2.mono L1.out.size));clear o2 l2 hh2 C2 R1 L1;go_wp2_with fail;refine(CI.out _ _ _ _ _ _ _ _ _ R1'.out R2.out (Nat.le_trans N1.out (by decide)) (Nat.le_trans N2.out (by decide))).mono ?_;rintro e w3 ⟨rfl,k3,hw3⟩;have l3:Below w2.heap.size w2 w3:=by rw[<-hw3];exact E0a _ _
 have L3:=hI (L2.out.trans (l3.mono L2.out.size));have R3:=hI (R1'.out.over l3);clear hw3 l3 CI R1' R2 L2 N2;go_wp2_with fail;refine(CU1.out _ L3.out).mono ?_;rintro e w4 ⟨rfl,l4⟩;have L4:=hI (L3.out.trans (l4.mono L3.out.size));have R4:=hI (R3.out.over l4);clear l4 CU1 R3 L3;go_wp2_with fail;refine(CU2.out _ L4.out).mono ?_;rintro e w5 ⟨rfl,l5⟩;have L5:=hI (L4.out.trans (l5.mono L4.out.size));have R5:=hI (R4.out.over l5);clear l5 CU2 R4 L4;go_wp2_with fail;go_loopw [6] (λI' wr=>∃i:Nat,i<=n1/\I'=.int .i64 (i:Nat)/\Hid (Below w5.heap.size w5 wr)) (λI' _=>n1-(intOf I').toNat)
 case atStart=>exact⟨0,Nat.zero_le _,rfl,Below.refl _ _⟩
 case round=>
  obtain⟨i,hi,rfl,LR⟩:=hrel;by_cases hlt:i<n1
  ·obtain⟨bn,off,rfl,hbn,hc⟩:=R5.out.cells (by omega);obtain⟨x,hx⟩:∃x,ns[i]? = some x:=⟨_,List.getElem?_eq_getElem (by have:=R5.out.len;omega)⟩;have HX:=hI (HI64.out x (List.mem_of_getElem? hx));have HC:Hid (∀w',Below w5.heap.size w5 w'->w'.cell? ⟨bn,off+i,none⟩=some (.int .i64 x)):=λw' l=>(l.cell hbn).trans (hc i x hx)
   have L6:=hI (L5.out.trans (LR.out.mono L5.out.size));have D1:=hI (CS1.out x HX.out);have D2:=hI (CS2.out x);have D3:=hI (CP1.out x HX.out);have D4:=hI (CP2.out x);obtain⟨K,hK⟩:∃y,y=z0a V.l x:=⟨_,rfl⟩;obtain⟨Z,hZ⟩:∃y:Int,y=(I4a V.l x:Nat):=⟨_,rfl⟩;obtain⟨E,hE⟩:∃y,y=N2a V.l x:=⟨_,rfl⟩;obtain⟨P,hP⟩:∃y,y=(⟨(i1a V.l x).toArray⟩:ByteArray):=⟨_,rfl⟩;obtain⟨F,hF⟩:∃y,y=I2a V.l x:=⟨_,rfl⟩;unfold V0a at D3 D4;rw[<-hK,<-hZ,<-hE] at D1 D2;rw[<-hP,<-hF] at D3 D4;have q0:∀w:World,(Op.equalIn 10000 34 (.agg #[.int .u8 K,.int .i64 Z]) (.agg #[.int .u8 K,.int .i64 Z])).run Tryz.prog w=.ok true w:=λw=>by rw[q4a];simp
   have hs1:(P.toList==P.toList)=true:=beq_self_eq_true _;have hi':i+1<=n1:=hlt;have hn1:n1<=256:=N1.out;have g6:=HC.out _ LR.out;clear hc hx hbn hK hZ hE hP hF;go_wp2_with fail;refine(D1.out _ L6.out).mono ?_;rintro e w7 ⟨rfl,l7⟩;have L7:=hI (LR.out.trans (l7.mono LR.out.size));clear l7 g6 D1;go_wp2_with(first
    | ((with_reducible refine sN 7 ?_);refine i0a rfl _ rfl [.int .u8 0,.int .i64 0] 2 ZN ?_;intro b7 v7 hb7 hb7' X7 M7)
    | ((with_reducible refine sT 7 ?_);go_loud (refine l0a rfl _ (.tmp 7) (.tmp 42) rfl b7 rfl _ _ [.int .u8 K,.int .i64 Z] rfl X7 2 SZ.out rfl rfl (by intro u hu;simp only[List.mem_cons,List.not_mem_nil,or_false] at hu;rcases hu with rfl | rfl<;>rfl) ?_);intro y7 Y7 O7 hg7;have L8:=hI (L7.out.trans ((r0a M7.out O7.out hb7).mono L7.out.size));have g8:=HC.out _ L8.out)
    | fail)
   have LL8:=hI (L5.out.trans (L8.out.mono L5.out.size));clear X7 M7 O7 L7;refine(D2.out _ LL8.out).mono ?_;rintro e w9 ⟨rfl,l9⟩;have L9:=hI (L8.out.trans (l9.mono L8.out.size));have Y9:=hI (Y7.out.over l9);clear l9 g8 D2 Y7 LL8;go_wp2_with(first
    | ((with_reducible refine sN 9 ?_);refine i0a rfl _ rfl [.int .u8 0,.int .i64 0] 2 ZN ?_;intro b9 v9 hb9 hb9' X9 M9)
    | ((with_reducible refine sT 9 ?_);go_loud (refine l0a rfl _ (.tmp 9) (.tmp 51) rfl b9 rfl _ _ [.int .u8 K,.int .i64 Z] rfl X9 2 SZ.out rfl rfl (by intro u hu;simp only[List.mem_cons,List.not_mem_nil,or_false] at hu;rcases hu with rfl | rfl<;>rfl) ?_);intro y9 Z9 O9 hg9;have b10:=r0a M9.out O9.out hb9;have L10:=hI (L9.out.trans (b10.mono L9.out.size));have g10:=HC.out _ L10.out)
    | fail)
   have Y10:=hI (Y9.out.over b10);have LL10:=hI (L5.out.trans (L10.out.mono L5.out.size));clear X9 M9 O9 L9 Y9 b10;refine(D3.out _ LL10.out).mono ?_;rintro e w11 ⟨rfl,l11⟩;have L11:=hI (L10.out.trans (l11.mono L10.out.size));have Y11:=hI (Y10.out.over l11);have Z11:=hI (Z9.out.over l11);have g11:=HC.out _ L11.out;have LL11:=hI (L5.out.trans (L11.out.mono L5.out.size));clear l11 g10 D3 Y10 Z9 L10 LL10;go_wp2_with fail;refine(D4.out _ LL11.out).mono ?_;rintro e w12 ⟨rfl,l12⟩;have L12:=hI (L11.out.trans (l12.mono L11.out.size));have Y12:=hI (Y11.out.over l12);have Z12:=hI (Z11.out.over l12);have HT:Hid (([.int .u8 K,.int .i64 Z]:List Value).length=2):=rfl;clear l12 g11 D4 Y11 Z11 L11 LL11;go_wp2_with(first
    | ((with_reducible refine sN 71 ?_);go_loud (refine s3a rfl _ (.tmp 7) rfl b7 rfl _ [.int .u8 K,.int .i64 Z] Y12 2 _ Tryz.underlying34 rfl SZ.out HT ?_))
    | ((with_reducible refine sN 72 ?_);go_loud (refine s3a rfl _ (.tmp 9) rfl b9 rfl _ [.int .u8 K,.int .i64 Z] Z12 2 _ Tryz.underlying34 rfl SZ.out HT ?_))
    | fail)
   go_roundw
   case rel=>exact⟨i+1,hi',by go_num,L12.out⟩
   case measure=>simp[intOf];omega
  ·have LL:=hI (L5.out.trans (LR.out.mono L5.out.size));go_wp2_with fail;go_ret;exact⟨rfl,LL.out⟩
def C4a(I:e0b)(w:World)(k:Int)(l:List M2a)(m:Nat)(e:Ending)(w':World):Prop:=
 (O3a k≠0->e=.returned (.tuple #[.pointer none,.pointer none,.bool true])/\Below w.heap.size w w')/\
 (O3a k=0->∃q g S v M,e=.returned (.tuple #[R0a q,.pointer (some ⟨g,0,none⟩),.bool true])/\z8a I w' w.heap.size q S g v (N4a k l m) (N4a k l m) M/\Below w.heap.size w w')
theorem v0b{P:Program}{ops:Array Oper}{rest:List Oper}{o:Oper}{a:Act}{w:World}{Q:Exit->Act->World->Prop}(hg:o.guard=none)(ty:TypeId)(x:Operand)(ho:o.op=.load ty x)
(b i:Nat)(hx:a.eval x=.pointer (some ⟨b,i,none⟩))(cs:List Value)(d:TypeDesc)(hc:Hid (w.rangeAt b i cs))(hu:P.underlying ty=some d)(hd:d.isRow=true)(n:Nat)(hi:(P.info? ty).map (·.size)=some n)(hn:Hid (cs.length=n))
(h:wpList P ops Q rest (a.put o.dst (.agg cs.toArray)) w):wpList P ops Q (o::rest) a w:=wpList_load_mid hg ty x ho b i hx cs d hc.out hu hd (by rw[hi,hn.out]) h
theorem T2a.mono{w:World}{base base' g:Nat}{v:Value}{V:X0a}{M:List VP}(h:T2a w base g v V M)(hb:base'<=base):T2a w base' g v V M:=
 ⟨Nat.le_trans hb h.ge,h.blk,h.row.mono hb,h.is,h.dirs,λy hy hk=>by obtain⟨b,vB,vZ,e,d⟩:=h.files y hy hk;exact⟨b,vB,vZ,e,⟨Nat.le_trans hb d.ge,d.blk,d.rowB.mono hb,d.rowZ.mono hb,d.len,d.small,d.byte⟩⟩,h.ok,h.big⟩
theorem Q1c:(Tryz.prog.info? 58).map (·.size)=some 10:=by kernel_rfl
theorem R3a(I:e0b)(w:World)(k:Int)(hk:c2a k)(A:Option Addr)(n c:Nat)(l:List M2a)(hl:e4a w w.heap.size A n c l)(hn:n<=1048576)(htb:I.tb w.heap.size w) :
  Calls Tryz.prog 11 #[.int .i64 k,.slice A n c] w (C4a I w k l (min n 40)):=by
 by_cases hE:O3a k=0
 ·obtain⟨m,hm⟩:∃m,m=min n 40:=⟨_,rfl⟩;have hmn:m<=n:=by omega
  have hm4:m<=40:=by omega
  have HMN:Hid (m=n∨m=40):=by show _∨_;omega
  rw[<-hm];have HE:=hI hE;have HL:=hI hl;have HTB:=hI htb;have C1:=hI ((I.new htb (Nat.le_refl _) hk).mono λe w' h=>h.2 hE);have C2:Hid (∀w1:World,Calls Tryz.prog 38 #[.int .i64 k] w1 _):=λw1=>(b3b w1 k).mono λe w' h=>h.2 hE
  have SZ:Hid ((Tryz.prog.info? 58).map (·.size)=some 10):=Q1c;clear hm hl htb hE;go_enter Tryz.func11,Tryz.ntmps11;go_wp2_with fail;refine C1.out.mono ?_;rintro e w1 ⟨q,S,rfl,x0,l0⟩;have X0:=hI x0;have L0:=hI l0;clear x0 l0 C1;go_wp2_with fail;refine(C2.out w1).mono ?_;rintro e w2 ⟨g,v,rfl,r0,l1⟩;have T2:Hid (z8a I w2 w.heap.size q S g v (N4a k l 0) (N4a k l 0) [(W3a,none)]):=by refine⟨I.below X0.out l1,r0.mono L0.out.size,λj hj hr=>?_,Nat.le_trans L0.out.size l1.size,I.tbNext HTB.out (L0.out.trans (l1.mono L0.out.size))⟩;have:=(I.ge X0.out j hj).2;have:=(r0.set_ge j hr).1;omega
  have L2:=hI (L0.out.trans (l1.mono L0.out.size));clear X0 L0 r0 l1 HTB C2;go_wp2_with fail;go_loopw [11] (λI' wr=>∃(i:Nat) (S:Nat->Prop) (v:Value) (M:List VP),i<=m/\I'=.int .i64 (i:Nat)/\Hid (z8a I wr w.heap.size q S g v (N4a k l i) (N4a k l i) M)/\Hid (Below w.heap.size w wr)) (λI' _=>m-(intOf I').toNat)
  case atStart=>exact⟨0,S,v,_,Nat.zero_le _,rfl,T2,L2⟩
  case round=>
   clear T2 L2;obtain⟨i,S,v,M,hi,rfl,TR,LR⟩:=hrel;by_cases him:i<m
   ·have hin:i<n:=by omega
    have hi40:i<40:=by omega
    obtain⟨kb,o,x,rfl,hkb,hx,hax,hrx⟩:=HL.out.at hin;have hrx':=F1c hrx LR.out hkb;obtain⟨cs,hcs⟩:∃cs,cs=A2a x:=⟨_,rfl⟩;have HCL:Hid (cs.length=10):=by rw[hcs];exact m9a x
    rw[<-hcs] at hrx';have RX:=hI hrx';have CA:=hI (K3c I wr w.heap.size q S g v _ M x TR.out (hax.below LR.out) (by have:=p4a (q:=k) (l:=l) i;omega));rw[<-hcs] at CA;have HBn:=hI (S9a (q:=k) hx);have hi':i+1<=m:=by omega
    clear hcs hx hax hrx hrx';go_wp2_with(first
     | ((with_reducible refine sN 51 ?_);go_loud (refine v0b rfl _ (.tmp 50) rfl kb (o+i*10) rfl cs _ RX Tryz.underlying58 rfl 10 SZ.out HCL ?_))
     | fail)
    refine CA.out.mono ?_;rintro e w3 ⟨rfl,S1,v1,M1,t1,l1⟩;have T1:=hI t1;have L1:=hI (LR.out.trans l1);clear t1 l1 CA RX;go_wp2_with fail;go_roundw
    case rel=>exact⟨i+1,S1,v1,M1,hi',by go_num,by rw[HBn.out];exact T1.out,L1.out⟩
    case measure=>simp[intOf];omega
   ·obtain rfl:i=m:=by omega
    have CS:=hI (d6a I wr w.heap.size q S g v _ M TR.out);have FIN:Hid (∀w',Below wr.heap.size wr w'->C4a I w k l i (.returned (.tuple #[R0a q,.pointer (some ⟨g,0,none⟩),.bool true])) w'):=λw' h=>⟨λq=>absurd HE.out q,λ_=>⟨q,g,S,v,M,rfl,TR.out.below h,LR.out.trans (h.mono LR.out.size)⟩⟩
    rcases HMN.out with h1 | h1
    ·have h2:¬(i:Int)<(n:Int):=by omega
     go_wp2_with fail;refine CS.out.mono ?_;rintro e w3 ⟨rfl,l3⟩;go_wp2_with fail;go_ret3;exact FIN.out _ l3
    ·have h2:¬(i:Int)<40:=by omega
     by_cases h3:i<n
     ·have h3':(i:Int)<(n:Int):=by omega
      go_wp2_with fail;refine CS.out.mono ?_;rintro e w3 ⟨rfl,l3⟩;go_wp2_with fail;go_ret3;exact FIN.out _ l3
     ·have h3':¬(i:Int)<(n:Int):=by omega
      go_wp2_with fail;refine CS.out.mono ?_;rintro e w3 ⟨rfl,l3⟩;go_wp2_with fail;go_ret3;exact FIN.out _ l3
 ·have hE2:O3a k=2:=by
   unfold O3a at hE⊢;split
   ·rfl
   ·rename_i h;rw[if_neg h] at hE;exact absurd rfl hE
  have C1:=hI ((I.new htb (Nat.le_refl _) hk).mono λe w' h=>h.1 hE);have C2:Hid (∀w1:World,Calls Tryz.prog 38 #[.int .i64 k] w1 _):=λw1=>(b3b w1 k).mono λe w' h=>h.1 hE
  rw[hE2] at C1 C2;have HE:=hI hE;clear hl htb hE hE2;go_enter Tryz.func11,Tryz.ntmps11;go_wp2_with fail;refine C1.out.mono ?_;rintro e w1 ⟨rfl,l0⟩;have L0:=hI l0;clear l0 C1;go_wp2_with fail;refine(C2.out w1).mono ?_;rintro e w2 ⟨rfl,l1⟩;have L2:=hI (L0.out.trans (l1.mono L0.out.size));clear l1 C2;go_wp2_with fail;go_ret3;exact⟨λ_=>⟨rfl,L2.out⟩,λq=>absurd q HE.out⟩
section
variable {L:List I0a} {s t u:ByteArray} {n:Int}
theorem v5b(hb:J8a s=false)(h:s5a L s=false):O1a L s=7:=by unfold O1a;rw[hb,h];rfl
theorem gone(h:Dok L)(he:O1a L s=0):O1a (n0b L s) s=7:=by
 obtain⟨hb,_⟩:=g2a.1 he;refine v5b hb ?_;cases hh:s5a (n0b L s) s with
 | false=>rfl
 | true=>
  obtain⟨x,hx,ha⟩:=I3a.1 hh;rcases((M8a h).1 hx).2 with h1 | h1
  ·rw[hb] at h1;cases h1
  ·rw[ha] at h1;cases h1
end
section
variable {L:List I0a} {i:Nat}
end
end Go.Proofs.YtdgpbhdihhchgaaGreatDoor
