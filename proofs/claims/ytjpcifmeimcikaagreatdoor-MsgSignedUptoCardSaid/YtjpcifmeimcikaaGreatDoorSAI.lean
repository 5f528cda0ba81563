import Derived.Test.YtjpcifmeimcikaaGreatDoorSAH
import Derived.Test.YtjpcifmeimcikaaGreatDoorS0
set_option linter.all false
set_option maxHeartbeats 8000000
set_option maxRecDepth 100000
namespace Go.Proofs.YtjpcifmeimcikaaGreatDoor
open Go.Proofs.Tryz
open Go.RowKit
set_option maxRecDepth 100000
theorem e4c:∀(xs:List Value) (k off:Nat) (cur:List Value),off+k+xs.length<=cur.length->
  List.foldl (fun (cs:Array Value) (p:Value×Nat)=>cs.setIfInBounds (off+p.2) p.1) cur.toArray (xs.zipIdx k)=(cur.take (off+k)++(xs++cur.drop (off+k+xs.length))).toArray
 | [],k,off,cur,_=>by simp
 | x::xs,k,off,cur,h=>by
  have h':off+k+(xs.length+1)<=cur.length:=h;rw[List.zipIdx_cons,List.foldl_cons];have e0:cur.toArray.setIfInBounds (off+k) x=(cur.take (off+k)++x::cur.drop (off+k+1)).toArray:=by rw[List.setIfInBounds_toArray,List.set_eq_take_append_cons_drop,if_pos (by omega)]
  show List.foldl _ (cur.toArray.setIfInBounds (off+k) x) _=_
  have hk:(cur.take (off+k)).length=off+k:=by rw[List.length_take];omega
  rw[e0,e4c xs (k+1) off _ (by simp only[List.length_append,List.length_cons,List.length_drop,hk];omega)]
  congr 1
  have e1:(cur.take (off+k)++x::cur.drop (off+k+1)).take (off+(k+1))=cur.take (off+k)++[x]:=by rw[show cur.take (off+k)++x::cur.drop (off+k+1)=(cur.take (off+k)++[x])++cur.drop (off+k+1) by simp];exact List.take_left' (by rw[List.length_append,hk];rfl)
  have e2:(cur.take (off+k)++x::cur.drop (off+k+1)).drop (off+(k+1)+xs.length)=cur.drop (off+k+(x::xs).length):=by rw[show cur.take (off+k)++x::cur.drop (off+k+1)=(cur.take (off+k)++[x])++cur.drop (off+k+1) by simp];rw[show off+(k+1)+xs.length=(cur.take (off+k)++[x]).length+xs.length by rw[List.length_append,hk];rfl,<-List.drop_drop,List.drop_left,List.drop_drop,List.length_cons,show off+k+1+xs.length=off+k+(xs.length+1) by omega]
  rw[e1,e2];simp
theorem C1b(place:Nat->Option (Nat×Nat))(off size i:Nat)(cur xs:List Value)(hp:place i=some (off,size))(hl:xs.length=size)(hb:off+size<=cur.length)(rest:List (Nat×Value)) :
  Instr.fill place cur.toArray ((i,.agg xs.toArray)::rest)=Instr.fill place (cur.take off++(xs++cur.drop (off+size))).toArray rest:=by
 have hc:(Value.agg xs.toArray).cells=xs.toArray:=rfl;rw[Instr.fill];simp only[hp,hc,List.size_toArray];rw[if_neg (by rw[hl];simpa using hb)];have h:=e4c xs 0 off cur (by omega);rw[hl] at h;rw[<-Array.foldl_toList,Array.toList_zipIdx];exact congrArg (λz=>Instr.fill place z rest) h
def W3b(P:Program)(T:TypeId):Option (Array Value×List (Nat×Nat)):=
 match P.info? T,P.underlying T with
 | some it,some (.struct fields)=>
  match it.zero,fields.toList.mapM (λf=>(P.info? f.type).map λi=>(f.offset,i.size)) with
  | some z,some places=>some (z.cells,places)
  | _,_=>none
 | _,_=>none
theorem a8a{P:Program}{T:TypeId}{z:Array Value}{pl:List (Nat×Nat)}(h:W3b P T=some (z,pl))(parts:List (Nat×Value)):P.built T parts=Instr.fill (pl.toArray[·]?) z parts:=by
 unfold W3b at h;unfold Program.built;cases hi:P.info? T with
 | none=>simp[hi] at h
 | some it=>
  cases hu:P.underlying T with
  | none=>simp[hi,hu] at h
  | some d=>
   cases d<;>try (simp[hi,hu] at h;done)
   rename_i fields;simp only[hi,hu] at h⊢;cases hz:it.zero with
   | none=>simp[hz] at h
   | some z'=>
    cases hp:fields.toList.mapM (λf=>(P.info? f.type).map λi=>(f.offset,i.size)) with
    | none=>simp[hz,hp] at h
    | some places=>
     simp only[hz,hp] at h⊢;injection h with h
     injection h with h1 h2
     subst h1 h2;rfl
def E1a:List Value:=m0a Q1a++(l0a (.slice none 0 0) (.slice none 0 0) (.slice none 0 0) i0a++u0a (.slice none 0 0) (.slice none 0 0) n0a)
theorem K8a:W3b prog 60=some (E1a.toArray,[(0,26),(26,69),(95,20)]):=by kernel_rfl
theorem x8a:W3b prog 41=some (E1a.toArray,[(0,26),(26,69),(95,20)]):=by kernel_rfl
theorem I3a:E1a.length=115:=by decide +kernel
theorem Q9b:E1a.take 26=m0a Q1a/\E1a.drop 26=l0a (.slice none 0 0) (.slice none 0 0) (.slice none 0 0) i0a++u0a (.slice none 0 0) (.slice none 0 0) n0a:=⟨rfl,rfl⟩
theorem f4c{T:TypeId}(hp:W3b prog T=some (E1a.toArray,[(0,26),(26,69),(95,20)])){hc ac sc:List Value}(h1:hc.length=26)(h2:ac.length=69)(h3:sc.length=20) :
  prog.built T [(0,.agg hc.toArray),(1,.agg ac.toArray),(2,.agg sc.toArray)]=some (hc++(ac++sc)).toArray:=by
 have hz:=I3a;rw[a8a hp,C1b _ 0 26 0 _ _ rfl h1 (by omega),C1b _ 26 69 1 _ _ rfl h2 (by simp;omega),C1b _ 95 20 2 _ _ rfl h3 (by simp;omega),Instr.fill];have e1:E1a.take 0++(hc++E1a.drop (0+26))=hc++E1a.drop 26:=by simp
 rw[e1];have e2:(hc++E1a.drop 26).take 26++(ac++(hc++E1a.drop 26).drop (26+69))=hc++(ac++E1a.drop 95):=by rw[List.take_left' h1,<-List.drop_drop,List.drop_left' h1,List.drop_drop]
 rw[e2];have e3:(hc++(ac++E1a.drop 95)).take 95++(sc++(hc++(ac++E1a.drop 95)).drop (95+20))=hc++(ac++sc):=by
  have hl:(hc++ac).length=95:=by rw[List.length_append];omega
  rw[<-List.append_assoc hc,List.take_left' hl,<-List.drop_drop,List.drop_left' hl,List.drop_drop,List.drop_of_length_le (by omega)];simp
 rw[e3]
theorem l2c{T:TypeId}(hp:W3b prog T=some (E1a.toArray,[(0,26),(26,69),(95,20)])){hc:List Value}(h1:hc.length=26) :
  prog.built T [(0,.agg hc.toArray)]=some (hc++(l0a (.slice none 0 0) (.slice none 0 0) (.slice none 0 0) i0a++u0a (.slice none 0 0) (.slice none 0 0) n0a)).toArray:=by
 have hz:=I3a;rw[a8a hp,C1b _ 0 26 0 _ _ rfl h1 (by omega),Instr.fill];have e1:E1a.take 0++(hc++E1a.drop (0+26))=hc++E1a.drop 26:=by simp
 rw[e1,Q9b.2]
def G4a(w:World)(B:Nat)(cs:List Value)(m:W4a):Prop:=∃ac sc,cs=m0a m.h++(ac++sc)/\g1a w B ac m.a/\s1a w B sc m.s
theorem G4a.over{w w':World}{cs:List Value}{m:W4a}(h:G4a w w.heap.size cs m)(hb:BW w w'):G4a w' w'.heap.size cs m:=by obtain⟨ac,sc,h1,h2,h3⟩:=h;exact⟨ac,sc,h1,h2.over hb,h3.over hb⟩
theorem G4a.len{w:World}{B:Nat}{cs:List Value}{m:W4a}(h:G4a w B cs m)(k:m.ok):cs.length=115:=by obtain⟨ac,sc,rfl,h2,h3⟩:=h;simp only[List.length_append,G0a k.h,h2.len k.a,h3.len k.s]
theorem G4a.one{w:World}{B:Nat}{cs:List Value}{m:W4a}(h:G4a w B cs m):∀v∈cs,v.oneCell'=true:=by
 obtain⟨ac,sc,rfl,h2,h3⟩:=h;intro v hv;rcases List.mem_append.1 hv with hv | hv
 ·exact g2a _ v hv
 ·rcases List.mem_append.1 hv with hv | hv
  ·exact h2.one v hv
  ·exact h3.one v hv
theorem S2b{w:World}{g:Nat}{T:TypeId}{pre mid post cs:List Value}(B:Blk w g T cs)(h:cs=pre++(mid++post))(n:Nat)(hn:pre.length=n):w.rangeAt g n mid:=λj v hj=>by rw[B.cell,h,List.getElem?_append_right (by omega),hn,Nat.add_sub_cancel_left,List.getElem?_append_left (List.getElem?_eq_some_iff.1 hj).1,hj]
theorem T2b{w:World}{g:Nat}{T:TypeId}{hc ac sc:List Value}(B:Blk w g T (hc++(ac++sc))):w.rangeAt g 0 hc:=S2b (pre:=[]) B rfl 0 rfl
theorem Y8a{w:World}{g:Nat}{T:TypeId}{hc ac sc:List Value}(B:Blk w g T (hc++(ac++sc)))(h:hc.length=26):w.rangeAt g 26 ac:=S2b B rfl 26 h
theorem Z8a{w:World}{g:Nat}{T:TypeId}{hc ac sc:List Value}(B:Blk w g T (hc++(ac++sc)))(h:hc.length=26)(h2:ac.length=69):w.rangeAt g 95 sc:=S2b (pre:=hc++ac) (post:=[]) B (by simp) 95 (by simp only[List.length_append];omega)
theorem r1a:(prog.info? 41).map (·.size)=some 115:=by kernel_rfl
theorem h3a:(prog.info? 60).map (·.size)=some 115:=by kernel_rfl
theorem R9a:(prog.info? 41).map (λi=>(i.zero,i.size))=some (some (.agg E1a.toArray),115):=by kernel_rfl
theorem N0b:(prog.info? 60).map (λi=>(i.zero,i.size))=some (some (.agg E1a.toArray),115):=by kernel_rfl
theorem X3b:prog.built 41 []=some E1a.toArray:=by rw[a8a x8a];rfl
theorem A3c(x:Int)(h0:0<=x)(h1:x<=4294967295):(bits .and .u32 x 1 != 0)=P2a x:=by obtain⟨a,rfl⟩:=Int.eq_ofNat_of_zero_le h0;rw[show(1:Int)=((1:Nat):Int) from rfl,u32_and_nat a 1 (by omega) (by omega),show(1:Nat)=2^0 from rfl,nat_bit 0 a];unfold P2a;rw[Bool.eq_iff_iff,bne_iff_ne,decide_eq_true_iff];omega
theorem a9a(w:World)(g:Nat)(h:Hd)(k:h.ok)(r:List Value)(B:Blk w g 60 (m0a h++r)) :
  Calls prog 34 #[.pointer (some ⟨g,0,none⟩)] w λe w'=>e=.returned (.bool (P2a h.fl))/\w=w':=by
 have gc:w.cell? ⟨g,4,none⟩=some (.int .u32 h.fl):=Blk.cell B 4;have hb:=A3c h.fl k.fl.1 k.fl.2;obtain⟨z,hz⟩:=xX (P2a h.fl);rw[<-hz] at hb⊢;clear hz B k;go_enter func34,ntmps34;go_wp2;go_ret;exact⟨rfl,rfl⟩
theorem m2c(w:World)(g:Nat)(h:Hd)(k:h.ok)(r:List Value)(B:Blk w g 60 (m0a h++r)) :
  Calls prog 33 #[.pointer (some ⟨g,0,none⟩)] w λe w'=>e=.returned (.int .u16 (u8a h))/\w=w':=by
 have CR:=hI (a9a w g h k r B);have gc:w.cell? ⟨g,1,none⟩=some (.int .u32 h.st):=Blk.cell B 1;have gm:w.cell? ⟨g,2,none⟩=some (.int .u16 h.cm):=Blk.cell B 2;by_cases hr:P2a h.fl=true
 ·by_cases hs:h.st=0
  ·have e:u8a h=h.cm:=by unfold u8a;rw[if_neg (λh2=>h2.2 hs)]
   rw[e];rw[hs] at gc;rw[hr] at CR;clear hs hr B k e;go_enter func33,ntmps33;go_wp2_with fail;refine CR.o.mono ?_;rintro e w1 ⟨rfl,rfl⟩;go_wp2;go_ret;exact⟨rfl,rfl⟩
  ·have e:u8a h=13:=by unfold u8a;rw[if_pos ⟨hr,hs⟩]
   have hne:(h.st != 0)=true:=by simpa using hs
   rw[e];rw[hr] at CR;clear hs hr B k e gm;go_enter func33,ntmps33;go_wp2_with fail;refine CR.o.mono ?_;rintro e w1 ⟨rfl,rfl⟩;go_wp2;go_ret;exact⟨rfl,rfl⟩
 ·have e:u8a h=h.cm:=by unfold u8a;rw[if_neg (λh2=>hr h2.1)]
  have hr':P2a h.fl=false:=by simpa using hr
  rw[e];rw[hr'] at CR;clear hr hr' B k e gc;go_enter func33,ntmps33;go_wp2_with fail;refine CR.o.mono ?_;rintro e w1 ⟨rfl,rfl⟩;go_wp2;go_ret;exact⟨rfl,rfl⟩
theorem and7(n:Nat)(h:n<=281474976710656):bits .and .i64 (-(n:Int)) 7=(U3b n:Nat):=by rw[V2c n h];unfold U3b e0c;omega
theorem U2b(w:World)(A:Option Addr)(n c:Nat)(h:n<=281474976710656) :
  Calls prog 19 #[.slice A n c] w λe w'=>e=.returned (.int .i64 (U3b n:Nat))/\w=w':=by
 have hb:=and7 n h;have hp:=V4b n;obtain⟨p,hpp⟩:=xX (U3b n);rw[<-hpp] at hb hp⊢;clear hpp;go_enter func19,ntmps19;go_wp2;go_ret;exact⟨rfl,rfl⟩
def fPA(c:Int):Nat:=if S0a c=true then 60 else if c<=10 then 64 else 68
def fGA(c:Int):Nat:=if S0a c=true then 61 else if c<=10 then 65 else 69
def fPS(c:Int):Nat:=if S0a c=true then 62 else if c<=10 then 66 else 70
def fGS(c:Int):Nat:=if S0a c=true then 63 else if c<=10 then 67 else 71
theorem j6c(c:Int):∀(args:Array Value) (w:World),(callFunc (fPA c) args).run prog w=.ok (.enter (fPA c) args) w:=by
 unfold fPA;split
 ·exact enters_of func60 (by kernel_rfl) rfl
 ·split
  ·exact enters_of func64 (by kernel_rfl) rfl
  ·exact enters_of func68 (by kernel_rfl) rfl
theorem k6c(c:Int):∀(args:Array Value) (w:World),(callFunc (fGA c) args).run prog w=.ok (.enter (fGA c) args) w:=by
 unfold fGA;split
 ·exact enters_of func61 (by kernel_rfl) rfl
 ·split
  ·exact enters_of func65 (by kernel_rfl) rfl
  ·exact enters_of func69 (by kernel_rfl) rfl
theorem l6c(c:Int):∀(args:Array Value) (w:World),(callFunc (fPS c) args).run prog w=.ok (.enter (fPS c) args) w:=by
 unfold fPS;split
 ·exact enters_of func62 (by kernel_rfl) rfl
 ·split
  ·exact enters_of func66 (by kernel_rfl) rfl
  ·exact enters_of func70 (by kernel_rfl) rfl
theorem m6c(c:Int):∀(args:Array Value) (w:World),(callFunc (fGS c) args).run prog w=.ok (.enter (fGS c) args) w:=by
 unfold fGS;split
 ·exact enters_of func63 (by kernel_rfl) rfl
 ·split
  ·exact enters_of func67 (by kernel_rfl) rfl
  ·exact enters_of func71 (by kernel_rfl) rfl
def g4a(c:Int):Value:=.agg #[.func (.func (fPA c)) #[] #[],.func (.func (fGA c)) #[] #[],.func (.func (fPS c)) #[] #[],.func (.func (fGS c)) #[] #[]]
theorem I7b:(prog.info? 91).map (λi=>(i.zero,i.size))=some (some (.agg ([.nilFunc,.nilFunc,.nilFunc,.nilFunc]:List Value).toArray),4):=by kernel_rfl
theorem J3a:(prog.info? 91).map (·.size)=some 4:=by kernel_rfl
def j6a:List Value:=[.func (.func 60) #[] #[],.func (.func 61) #[] #[],.func (.func 62) #[] #[],.func (.func 63) #[] #[]]
theorem V2b:∀v∈j6a,v.oneCell'=true:=by intro v hv;simp[j6a] at hv;rcases hv with rfl | rfl | rfl | rfl<;>rfl
def q0b:List Value:=[.func (.func 64) #[] #[],.func (.func 65) #[] #[],.func (.func 66) #[] #[],.func (.func 67) #[] #[]]
theorem J7b:∀v∈q0b,v.oneCell'=true:=by intro v hv;simp[q0b] at hv;rcases hv with rfl | rfl | rfl | rfl<;>rfl
def r0b:List Value:=[.func (.func 68) #[] #[],.func (.func 69) #[] #[],.func (.func 70) #[] #[],.func (.func 71) #[] #[]]
theorem K7b:∀v∈r0b,v.oneCell'=true:=by intro v hv;simp[r0b] at hv;rcases hv with rfl | rfl | rfl | rfl<;>rfl
theorem O0b(w:World)(c:Int)(hc:0<=c/\c<=65535) :
  Calls prog 36 #[.int .u16 c] w λe w'=>e=.returned (g4a c)/\BW w w':=by
 have ZB:=hI I7b;have HZ:Hid (([.nilFunc,.nilFunc,.nilFunc,.nilFunc]:List Value).length=4):=rfl;by_cases h4:c<=4
 ·have q4:decide (c<=4)=true:=by simpa using h4
  have e:g4a c=.agg j6a.toArray:=by
   have hk:S0a c=true:=by unfold S0a;simp[h4]
   unfold g4a fPA fGA fPS fGS;simp only[if_pos hk];rfl
  rw[e];have H1:=hI V2b;have HN:Hid (j6a.length=4):=rfl;have BB:prog.built 91 [(0,.func (.func 60) #[] #[]),(1,.func (.func 61) #[] #[]),(2,.func (.func 62) #[] #[]),(3,.func (.func 63) #[] #[])]=some j6a.toArray:=by kernel_rfl
  obtain⟨bs,hbs⟩:=xX j6a;rw[<-hbs] at H1 HN BB⊢;clear e hbs;go_enter func36,ntmps36;go_wp2_with(first|(refine sN 2 ?_;refine b0a rfl _ rfl _ _ ZB ?_;intro g w1 hg1 hg2 Z1 L1)|(refine sN 8 ?_;refine v0a rfl _ _ rfl bs (by refine Eq.trans ?_ BB;kernel_rfl) ?_)|(refine sT 2 ?_;refine a0a rfl _ (.tmp 2) (.tmp 8) rfl g rfl _ _ bs rfl Z1 4 J3a HZ HN H1 ?_;intro w2 X2 O2 hg3)|fail)
  refine bodyPost_ret ?_ rfl ⟨rfl,c0a L1.o O2.o hg1⟩;exact results_cell_row rfl _ _ g _ _ (0,0) _ rfl X2.o underlying91 rfl (by rw[J3a];have:=HN.o;simp[this])
 have q4:decide (c<=4)=false:=by simpa using h4
 by_cases h13:c=13
 ·subst h13;have e:g4a 13=.agg j6a.toArray:=by unfold g4a fPA fGA fPS fGS;simp only[if_pos (show S0a 13=true by decide)];rfl
  rw[e];have H1:=hI V2b;have HN:Hid (j6a.length=4):=rfl;have BB:prog.built 91 [(0,.func (.func 60) #[] #[]),(1,.func (.func 61) #[] #[]),(2,.func (.func 62) #[] #[]),(3,.func (.func 63) #[] #[])]=some j6a.toArray:=by kernel_rfl
  obtain⟨bs,hbs⟩:=xX j6a;rw[<-hbs] at H1 HN BB⊢;clear e hbs;go_enter func36,ntmps36;go_wp2_with(first|(refine sN 2 ?_;refine b0a rfl _ rfl _ _ ZB ?_;intro g w1 hg1 hg2 Z1 L1)|(refine sN 8 ?_;refine v0a rfl _ _ rfl bs (by refine Eq.trans ?_ BB;kernel_rfl) ?_)|(refine sT 2 ?_;refine a0a rfl _ (.tmp 2) (.tmp 8) rfl g rfl _ _ bs rfl Z1 4 J3a HZ HN H1 ?_;intro w2 X2 O2 hg3)|fail)
  refine bodyPost_ret ?_ rfl ⟨rfl,c0a L1.o O2.o hg1⟩;exact results_cell_row rfl _ _ g _ _ (0,0) _ rfl X2.o underlying91 rfl (by rw[J3a];have:=HN.o;simp[this])
 have hk:¬S0a c=true:=by unfold S0a;simp[h4,h13]
 have q13:(c==13)=false:=bF h13
 by_cases h10:c<=10
 ·have q10:decide (c<=10)=true:=by simpa using h10
  have e:g4a c=.agg q0b.toArray:=by unfold g4a fPA fGA fPS fGS;simp only[if_neg hk,if_pos h10];rfl
  rw[e];have H1:=hI J7b;have HN:Hid (q0b.length=4):=rfl;have BB:prog.built 91 [(0,.func (.func 64) #[] #[]),(1,.func (.func 65) #[] #[]),(2,.func (.func 66) #[] #[]),(3,.func (.func 67) #[] #[])]=some q0b.toArray:=by kernel_rfl
  obtain⟨bs,hbs⟩:=xX q0b;rw[<-hbs] at H1 HN BB⊢;clear e hbs;go_enter func36,ntmps36;go_wp2_with(first|(refine sN 2 ?_;refine b0a rfl _ rfl _ _ ZB ?_;intro g w1 hg1 hg2 Z1 L1)|(refine sN 12 ?_;refine v0a rfl _ _ rfl bs (by refine Eq.trans ?_ BB;kernel_rfl) ?_)|(refine sT 2 ?_;refine a0a rfl _ (.tmp 2) (.tmp 12) rfl g rfl _ _ bs rfl Z1 4 J3a HZ HN H1 ?_;intro w2 X2 O2 hg3)|fail)
  refine bodyPost_ret ?_ rfl ⟨rfl,c0a L1.o O2.o hg1⟩;exact results_cell_row rfl _ _ g _ _ (0,0) _ rfl X2.o underlying91 rfl (by rw[J3a];have:=HN.o;simp[this])
 ·have q10:decide (c<=10)=false:=by simpa using h10
  have e:g4a c=.agg r0b.toArray:=by unfold g4a fPA fGA fPS fGS;simp only[if_neg hk,if_neg h10];rfl
  rw[e];have H1:=hI K7b;have HN:Hid (r0b.length=4):=rfl;have BB:prog.built 91 [(0,.func (.func 68) #[] #[]),(1,.func (.func 69) #[] #[]),(2,.func (.func 70) #[] #[]),(3,.func (.func 71) #[] #[])]=some r0b.toArray:=by kernel_rfl
  obtain⟨bs,hbs⟩:=xX r0b;rw[<-hbs] at H1 HN BB⊢;clear e hbs;go_enter func36,ntmps36;go_wp2_with(first|(refine sN 2 ?_;refine b0a rfl _ rfl _ _ ZB ?_;intro g w1 hg1 hg2 Z1 L1)|(refine sN 13 ?_;refine v0a rfl _ _ rfl bs (by refine Eq.trans ?_ BB;kernel_rfl) ?_)|(refine sT 2 ?_;refine a0a rfl _ (.tmp 2) (.tmp 13) rfl g rfl _ _ bs rfl Z1 4 J3a HZ HN H1 ?_;intro w2 X2 O2 hg3)|fail)
  refine bodyPost_ret ?_ rfl ⟨rfl,c0a L1.o O2.o hg1⟩;exact results_cell_row rfl _ _ g _ _ (0,0) _ rfl X2.o underlying91 rfl (by rw[J3a];have:=HN.o;simp[this])
theorem e6a{P:Program}{ops:Array Oper}{S:World->Prop}{op:Oper}{a:Act}(hw:Region.wanted op (yielded ops a.tmps)=true)(T:TypeId)(x:Operand)(ho:op.op=.load T x)(g i:Nat)(hx:a.eval x=.pointer (some ⟨g,i,none⟩))(cs:List Value)
(hS:∀w,S w->w.rangeAt g i cs)(n:Nat)(d:TypeDesc)(hu:P.underlying T=some d)(hd:d.isRow=true)(hi:(P.info? T).map (·.size)=some n)(hn:Hid (cs.length=n)):YieldsIf P ops S op (.agg cs.toArray) a:=
 .inl ⟨hw,λw hw'=>by unfold execOp;simp only[ho,hx,Instr.loadAt,Instr.sureAddr,Sem.run_bind,Sem.run_pure,Result.andThen_ok,run_loadVar_mid w g i T cs d (hS w hw') hu hd (by rw[hi,hn.o])]⟩
theorem n6c{c:Int}{s:O1a}(h:¬pse c s=0):pso c s=[]:=by
 unfold pso;unfold pse at h;split
 ·rename_i h1;rw[if_pos h1] at h;unfold V2a;rw[if_neg h]
 ·rename_i h1;rw[if_neg h1] at h;split
  ·rename_i h2;rw[if_pos h2] at h;unfold O3b;rw[if_neg h]
  ·rename_i h2;rw[if_neg h2] at h;unfold M2b;rw[if_neg h]
theorem o6c{c:Int}{a:l1a}(h:¬pae c a=0):pao c a=[]:=by
 unfold pao;unfold pae at h;split
 ·rename_i h1;rw[if_pos h1] at h;unfold S2a;rw[if_neg h]
 ·rename_i h1;rw[if_neg h1] at h;split
  ·rename_i h2;rw[if_pos h2] at h;unfold F2b;rw[if_neg h]
  ·rename_i h2;rw[if_neg h2] at h;unfold c0b;rw[if_neg h]
theorem W2b(w:World)(ac:List Value)(a:l1a)(k:a.ok)(ha:g1a w w.heap.size ac a)(hu:a.user.size<=17592186044416/\a.share.size<=17592186044416)(hT:E8a w) :
  Calls prog 35 #[.agg ac.toArray] w λe w'=>e=.returned (.bool (h1a 13 a==0))/\BW w w':=by
 have HL:=hI (ha.len k);have CP:Hid (∀w',BW w w'->Calls prog 60 #[.int .u16 13,.agg ac.toArray] w' λe w2=>∃v,e=.returned (.tuple #[v,.int .i64 (h1a 13 a)])/\BW w' w2):=λw' hb=>(X6a w' 13 ac a (by decide) k (ha.over hb) hu (hT.below hb)).mono λe w2 ⟨v,h1,_,h2⟩=>⟨v,h1,h2⟩
 obtain⟨er,her⟩:=xX (h1a 13 a);rw[<-her] at CP⊢;clear her ha;go_enter func35,ntmps35;go_wp2_with(first|(refine sN 1 ?_;refine d0a rfl _ (.tmp 0) rfl ac rfl ?_;intro g w1 hg1 hg2 B1 L1)|(refine sN 6 ?_;refine e0a rfl _ (.tmp 1) rfl g rfl _ ac B1 69 _ underlying34 rfl p0a HL ?_)|fail)
 refine(CP.o w1 L1.o).mono ?_;rintro e w2 ⟨v,rfl,L2⟩;go_wp2;go_ret;exact⟨rfl,step L1.o L2⟩
theorem X2b(w:World)(ac:List Value)(a:O1a)(k:a.ok)(ha:s1a w w.heap.size ac a) :
  Calls prog 37 #[.agg ac.toArray] w λe w'=>e=.returned (.bool (q1a 13 a==0))/\BW w w':=by
 have HL:=hI (ha.len k);have CP:Hid (∀w',BW w w'->Calls prog 62 #[.int .u16 13,.agg ac.toArray] w' λe w2=>∃v,e=.returned (.tuple #[v,.int .i64 (q1a 13 a)])/\BW w' w2):=λw' hb=>(Y6a w' 13 ac a (by decide) k (ha.over hb)).mono λe w2 ⟨v,h1,_,h2⟩=>⟨v,h1,h2⟩
 obtain⟨er,her⟩:=xX (q1a 13 a);rw[<-her] at CP⊢;clear her ha;go_enter func37,ntmps37;go_wp2_with(first|(refine sN 1 ?_;refine d0a rfl _ (.tmp 0) rfl ac rfl ?_;intro g w1 hg1 hg2 B1 L1)|(refine sN 6 ?_;refine e0a rfl _ (.tmp 1) rfl g rfl _ ac B1 20 _ underlying39 rfl t0a HL ?_)|fail)
 refine(CP.o w1 L1.o).mono ?_;rintro e w2 ⟨v,rfl,L2⟩;go_wp2;go_ret;exact⟨rfl,step L1.o L2⟩
def S9a(w:World)(m:W4a)(e:Ending)(w':World):Prop:=∃v,e=.returned (.tuple #[v,.int .i64 (Q5a m)])/\w6a w' w.heap.size v (R5a m)/\BW w w'
def B3c(w:World)(c:Int)(ac:List Value)(a:l1a):Prop:=∀w',BW w w'->Calls prog (fPA c) #[.int .u16 c,.agg ac.toArray] w' λe w2=>∃v,e=.returned (.tuple #[v,.int .i64 (pae c a)])/\w6a w2 w'.heap.size v (pao c a)/\BW w' w2
def C3c(w:World)(c:Int)(sc:List Value)(s:O1a):Prop:=∀w',BW w w'->Calls prog (fPS c) #[.int .u16 c,.agg sc.toArray] w' λe w2=>∃v,e=.returned (.tuple #[v,.int .i64 (pse c s)])/\w6a w2 w'.heap.size v (pso c s)/\BW w' w2
theorem P0b(g:Nat)(w:World):(Instr.fieldAt 60 (.pointer (some ⟨g,0,none⟩)) 1).run prog w=.ok (.pointer (some ⟨g,26,none⟩)) w:=by go_simp
theorem Q0b(g:Nat)(w:World):(Instr.fieldAt 60 (.pointer (some ⟨g,0,none⟩)) 2).run prog w=.ok (.pointer (some ⟨g,95,none⟩)) w:=by go_simp
theorem b8a{h:Hd}(k:h.ok):0<=u8a h/\u8a h<=65535:=by unfold u8a;have:=k.cm;split<;>omega
theorem Y3b(w:World)(g:Nat)(m:W4a)(ac sc:List Value)(k:m.ok)(B:Blk w g 60 (m0a m.h++(ac++sc)))(ha:g1a w w.heap.size ac m.a)(hs:s1a w w.heap.size sc m.s)(hu:m.a.user.size<=17592186044416/\m.a.share.size<=17592186044416)(hT:E8a w)
(CA:P2a m.h.fl=false->B3c w (u8a m.h) ac m.a)(CS:P2a m.h.fl=true->C3c w (u8a m.h) sc m.s) :
  Calls prog 17 #[.pointer (some ⟨g,0,none⟩)] w (S9a w m):=by
 have CR:=hI (m2c w g m.h k.h _ B);have CI:=hI (a9a w g m.h k.h _ B);have H26:=hI (G0a k.h);have H69:=hI (ha.len k.a);have H20:=hI (hs.len k.s);have CN:=hI (W2b w ac m.a k.a ha hu hT);have CM:=hI (X2b w sc m.s k.s hs);have CB:Hid (∀w',Calls prog 36 #[.int .u16 (u8a m.h)] w' λe w2=>e=.returned (g4a (u8a m.h))/\BW w' w2):=λw'=>O0b w' _ (b8a k.h)
 have HE:Hid (Q5a m=2->∀v e w',e=.returned (.tuple #[v,.int .i64 2])->v=.slice none 0 0->BW w w'->S9a w m e w'):=by intro h v e w' h1 h2 h3;unfold S9a R5a;rw[h,if_neg (by decide)];exact⟨v,h1,by rw[h2];exact b1a.nil _ _ _ _,h3⟩
 obtain⟨c,hc⟩:=xX (u8a m.h);rw[<-hc] at CR CA CS CB;obtain⟨hcs,hhc⟩:=xX (m0a m.h);rw[<-hhc] at B H26;have BH:=hI B;have gl:=B.lt;clear B hhc ha hs;by_cases hr:P2a m.h.fl=true
 ·skip
  have hr':P2a m.h.fl=true:=by simpa using hr
  rw[hr'] at CI;have CC:=hI (CS hr');clear CA CS;by_cases hz:h1a 13 m.a=0;rotate_left
  ·have hE:=HE.o (by unfold Q5a;rw[if_pos hr,if_neg hz]);have hz':(h1a 13 m.a==0)=false:=by simpa using hz
   rw[hz'] at CN;have HE2:=hI hE;have B1:=BH.o;clear hE HE CC CB hz hz' hr hr' hc;go_enter func17,ntmps17;go_wp2_with fail;refine CR.o.mono ?_;rintro e w1 ⟨rfl,rfl⟩;go_wp2_with fail;refine CI.o.mono ?_;rintro e w1 ⟨rfl,rfl⟩;go_wp2_with(first|(refine sN 12 ?_;refine q0a rfl _ (.tmp 11) rfl g 26 rfl ac _ (hI (Y8a B1 H26.o)) underlying34 rfl 69 p0a H69 ?_)|fail)
   refine CN.o.mono ?_;rintro e w1 ⟨rfl,L1⟩;go_wp2;go_ret2;exact HE2.o _ _ _ rfl rfl L1
  have hz':(h1a 13 m.a==0)=true:=by simpa using hz
  rw[hz'] at CN;have HQ:Hid (∀v e (w1 w':World),e=.returned (.tuple #[v,.int .i64 (pse c m.s)])->w6a w' w1.heap.size v (pso c m.s)->w.heap.size<=w1.heap.size->BW w w'->S9a w m e w'):=by
   intro v e w1 w' h1 h2 h3 h4;have hme:Q5a m=pse c m.s:=by unfold Q5a;rw[if_pos hr,if_pos hz,hc]
   have hmo:R5a m=pso c m.s:=by
    unfold R5a;by_cases h0:pse c m.s=0
    ·rw[hme,if_pos h0,if_pos hr,hc]
    ·rw[hme,if_neg h0,n6c h0]
   unfold S9a;rw[hme,hmo];exact⟨v,h1,h2.mono h3,h4⟩
  unfold C3c at CC;obtain⟨er,her⟩:=xX (pse c m.s);rw[<-her] at CC HQ;obtain⟨ys,hys⟩:=xX (pso c m.s);rw[<-hys] at CC HQ;have HB2:Hid (∃F1 F2 F3,g4a c=.agg #[F1,F2,.func (.func (fPS c)) #[] #[],F3]):=⟨_,_,_,rfl⟩;obtain⟨F1,F2,F3,hF⟩:=HB2.o;rw[hF] at CB;have hent:=l6c c;obtain⟨fn,hfn⟩:=xX (fPS c);rw[<-hfn] at CC CB hent;have B1:=BH.o;clear HE hz hz' hr hr' hc her hys hF HB2 hfn;go_enter func17,ntmps17;go_wp2_with fail;refine CR.o.mono ?_;rintro e w1 ⟨rfl,rfl⟩;go_wp2_with fail;refine CI.o.mono ?_;rintro e w1 ⟨rfl,rfl⟩;go_wp2_with(first|(refine sN 12 ?_;refine q0a rfl _ (.tmp 11) rfl g 26 rfl ac _ (hI (Y8a B1 H26.o)) underlying34 rfl 69 p0a H69 ?_)|fail)
  refine CN.o.mono ?_;rintro e w1 ⟨rfl,L1⟩;have B2:=hI (B1.over L1);have M1:=hI L1;clear L1 B1 BH CR CI CN CM;go_upto_region 13 with fail
  refine wp_region_held (S:=λw'=>Blk w' g 60 (hcs++(ac++sc))/\BW w w') (by kernel_rfl) ?_;change wpAnyH _ _ _ _ _ _ _ _ w1.drew
  have S0:Hid (Blk w1.drew g 60 (hcs++(ac++sc))/\BW w w1.drew):=⟨B2.o.drew,M1.o.drew⟩;have b0:Hid (w.heap.size<=w1.drew.heap.size):=M1.o.drew.size;refine tK 0 _ rfl (s0a (by kernel_rfl) (.tmp 4) rfl (.int .u16 c) (by kernel_rfl)) S0.o ?_;refine tK 3 _ rfl (s0a (by kernel_rfl) (.tmp 4) rfl (.int .u16 c) (by kernel_rfl)) S0.o ?_;refine tK 4 _ rfl (s0a (by kernel_rfl) (.tmp 0) rfl (.pointer (some ⟨g,0,none⟩)) (by kernel_rfl)) S0.o ?_;refine tK 5 _ rfl (J0a (by kernel_rfl) (.tmp 19) rfl ⟨g,0,none⟩ (by kernel_rfl)) S0.o ?_;refine tK 6 _ rfl (w0a (by kernel_rfl) _ (.tmp 20) 2 rfl (.pointer (some ⟨g,0,none⟩)) (.pointer (some ⟨g,95,none⟩)) (by kernel_rfl) (Q0b g)) S0.o ?_;refine tK 7 _ rfl (e6a (by kernel_rfl) _ (.tmp 21) rfl g 95 (by kernel_rfl) sc (λ_ h=>Z8a h.1 H26.o H69.o) 20 _ underlying39 rfl t0a H20) S0.o ?_;refine oN 1 _ rfl λK hK=>?_
  go_simp;refine(CB.o _).mono ?_;rintro e v1 ⟨rfl,b⟩;have S1:Hid (Blk v1 g 60 (hcs++(ac++sc))/\BW w v1):=⟨S0.o.1.over b,step S0.o.2 b⟩;have b1:Hid (w.heap.size<=v1.heap.size):=Nat.le_trans b0.o b.size;refine hK _ _ S1.o ?_;clear hK K b;refine oN 2 _ rfl λK hK=>?_
  go_simp;refine hK _ _ S1.o ?_;clear hK K;refine oN 8 _ rfl λK hK=>?_
  go_simp;refine(CC.o _ S1.o.2).mono ?_;rintro e v2 ⟨v,rfl,ho,b⟩;have S2:Hid (Blk v2 g 60 (hcs++(ac++sc))/\BW w v2):=⟨S1.o.1.over b,step S1.o.2 b⟩;have b2:Hid (w.heap.size<=v2.heap.size):=Nat.le_trans b1.o b.size;have HO:=hI (HQ.o v _ _ _ rfl ho b1.o (step S1.o.2 b));refine hK _ _ S2.o ?_;clear hK K b ho;refine pK 9 v rfl S2.o ?_;refine pK 10 (.int .i64 er) rfl S2.o ?_;refine oN 11 _ rfl λK hK=>?_
  go_simp;refine hK _ _ S2.o ?_;clear hK K;refine oN 12 _ rfl λK hK=>?_
  go_simp;refine hK _ _ S2.o ?_;clear hK K;refine dN ?_;go_wp2;go_ret2;exact HO.o
 ·skip
  have hr':P2a m.h.fl=false:=by simpa using hr
  rw[hr'] at CI;have CC:=hI (CA hr');clear CA CS;by_cases hz:q1a 13 m.s=0;rotate_left
  ·have hE:=HE.o (by unfold Q5a;rw[if_neg hr,if_neg hz]);have hz':(q1a 13 m.s==0)=false:=by simpa using hz
   rw[hz'] at CM;have HE2:=hI hE;have B1:=BH.o;clear hE HE CC CB hz hz' hr hr' hc;go_enter func17,ntmps17;go_wp2_with fail;refine CR.o.mono ?_;rintro e w1 ⟨rfl,rfl⟩;go_wp2_with fail;refine CI.o.mono ?_;rintro e w1 ⟨rfl,rfl⟩;go_wp2_with(first|(refine sN 29 ?_;refine q0a rfl _ (.tmp 28) rfl g 95 rfl sc _ (hI (Z8a B1 H26.o H69.o)) underlying39 rfl 20 t0a H20 ?_)|fail)
   refine CM.o.mono ?_;rintro e w1 ⟨rfl,L1⟩;go_wp2;go_ret2;exact HE2.o _ _ _ rfl rfl L1
  have hz':(q1a 13 m.s==0)=true:=by simpa using hz
  rw[hz'] at CM;have HQ:Hid (∀v e (w1 w':World),e=.returned (.tuple #[v,.int .i64 (pae c m.a)])->w6a w' w1.heap.size v (pao c m.a)->w.heap.size<=w1.heap.size->BW w w'->S9a w m e w'):=by
   intro v e w1 w' h1 h2 h3 h4;have hme:Q5a m=pae c m.a:=by unfold Q5a;rw[if_neg hr,if_pos hz,hc]
   have hmo:R5a m=pao c m.a:=by
    unfold R5a;by_cases h0:pae c m.a=0
    ·rw[hme,if_pos h0,if_neg hr,hc]
    ·rw[hme,if_neg h0,o6c h0]
   unfold S9a;rw[hme,hmo];exact⟨v,h1,h2.mono h3,h4⟩
  unfold B3c at CC;obtain⟨er,her⟩:=xX (pae c m.a);rw[<-her] at CC HQ;obtain⟨ys,hys⟩:=xX (pao c m.a);rw[<-hys] at CC HQ;have HB2:Hid (∃F1 F2 F3,g4a c=.agg #[.func (.func (fPA c)) #[] #[],F1,F2,F3]):=⟨_,_,_,rfl⟩;obtain⟨F1,F2,F3,hF⟩:=HB2.o;rw[hF] at CB;have hent:=j6c c;obtain⟨fn,hfn⟩:=xX (fPA c);rw[<-hfn] at CC CB hent;have B1:=BH.o;clear HE hz hz' hr hr' hc her hys hF HB2 hfn;go_enter func17,ntmps17;go_wp2_with fail;refine CR.o.mono ?_;rintro e w1 ⟨rfl,rfl⟩;go_wp2_with fail;refine CI.o.mono ?_;rintro e w1 ⟨rfl,rfl⟩;go_wp2_with(first|(refine sN 29 ?_;refine q0a rfl _ (.tmp 28) rfl g 95 rfl sc _ (hI (Z8a B1 H26.o H69.o)) underlying39 rfl 20 t0a H20 ?_)|fail)
  refine CM.o.mono ?_;rintro e w1 ⟨rfl,L1⟩;have B2:=hI (B1.over L1);have M1:=hI L1;clear L1 B1 BH CR CI CN CM;go_upto_region 13 with fail
  refine wp_region_held (S:=λw'=>Blk w' g 60 (hcs++(ac++sc))/\BW w w') (by kernel_rfl) ?_;change wpAnyH _ _ _ _ _ _ _ _ w1.drew
  have S0:Hid (Blk w1.drew g 60 (hcs++(ac++sc))/\BW w w1.drew):=⟨B2.o.drew,M1.o.drew⟩;have b0:Hid (w.heap.size<=w1.drew.heap.size):=M1.o.drew.size;refine tK 0 _ rfl (s0a (by kernel_rfl) (.tmp 4) rfl (.int .u16 c) (by kernel_rfl)) S0.o ?_;refine tK 3 _ rfl (s0a (by kernel_rfl) (.tmp 4) rfl (.int .u16 c) (by kernel_rfl)) S0.o ?_;refine tK 4 _ rfl (s0a (by kernel_rfl) (.tmp 0) rfl (.pointer (some ⟨g,0,none⟩)) (by kernel_rfl)) S0.o ?_;refine tK 5 _ rfl (J0a (by kernel_rfl) (.tmp 36) rfl ⟨g,0,none⟩ (by kernel_rfl)) S0.o ?_;refine tK 6 _ rfl (w0a (by kernel_rfl) _ (.tmp 37) 1 rfl (.pointer (some ⟨g,0,none⟩)) (.pointer (some ⟨g,26,none⟩)) (by kernel_rfl) (P0b g)) S0.o ?_;refine tK 7 _ rfl (e6a (by kernel_rfl) _ (.tmp 38) rfl g 26 (by kernel_rfl) ac (λ_ h=>Y8a h.1 H26.o) 69 _ underlying34 rfl p0a H69) S0.o ?_;refine oN 1 _ rfl λK hK=>?_
  go_simp;refine(CB.o _).mono ?_;rintro e v1 ⟨rfl,b⟩;have S1:Hid (Blk v1 g 60 (hcs++(ac++sc))/\BW w v1):=⟨S0.o.1.over b,step S0.o.2 b⟩;have b1:Hid (w.heap.size<=v1.heap.size):=Nat.le_trans b0.o b.size;refine hK _ _ S1.o ?_;clear hK K b;refine oN 2 _ rfl λK hK=>?_
  go_simp;refine hK _ _ S1.o ?_;clear hK K;refine oN 8 _ rfl λK hK=>?_
  go_simp;refine(CC.o _ S1.o.2).mono ?_;rintro e v2 ⟨v,rfl,ho,b⟩;have S2:Hid (Blk v2 g 60 (hcs++(ac++sc))/\BW w v2):=⟨S1.o.1.over b,step S1.o.2 b⟩;have b2:Hid (w.heap.size<=v2.heap.size):=Nat.le_trans b1.o b.size;have HO:=hI (HQ.o v _ _ _ rfl ho b1.o (step S1.o.2 b));refine hK _ _ S2.o ?_;clear hK K b ho;refine pK 9 v rfl S2.o ?_;refine pK 10 (.int .i64 er) rfl S2.o ?_;refine oN 11 _ rfl λK hK=>?_
  go_simp;refine hK _ _ S2.o ?_;clear hK K;refine oN 12 _ rfl λK hK=>?_
  go_simp;refine hK _ _ S2.o ?_;clear hK K;refine dN ?_;go_wp2;go_ret2;exact HO.o
def o7a(w:World)(m:W4a)(e:Ending)(w':World):Prop:=∃v,e=.returned (.tuple #[v,.int .i64 (Q3a m)])/\w6a w' w.heap.size v (G5a m)/\BW w w'
def p6c(w:World)(m:W4a)(ac sc:List Value):Prop:=∀w' g,BW w w'->Blk w' g 60 (m0a m.h++(ac++sc))->Calls prog 17 #[.pointer (some ⟨g,0,none⟩)] w' (S9a w' m)
theorem g4c(w:World)(m:W4a)(ac sc:List Value)(k:m.ok)(l1:ac.length=69)(l2:sc.length=20)(o1:∀v∈ac,v.oneCell'=true)(o2:∀v∈sc,v.oneCell'=true)(hy:Bytes (R5a m))(hl:(R5a m).length<=70000)(CB:p6c w m ac sc) :
  Calls prog 8 #[.agg (m0a m.h++(ac++sc)).toArray] w (o7a w m):=by
 have H26:=hI (G0a k.h);have H69:=hI l1;have H20:=hI l2;have BM:=f4c K8a H26.o l1 l2;have ZM:=hI N0b;have HZ:=hI I3a;have HLL:Hid ((m0a m.h++(ac++sc)).length=115):=by
  show _=_
  simp only[List.length_append,H26.o,l1,l2]
 have HOO:Hid (∀v∈m0a m.h++(ac++sc),v.oneCell'=true):=by
  intro v hv;rcases List.mem_append.1 hv with hv | hv
  ·exact g2a _ v hv
  ·rcases List.mem_append.1 hv with hv | hv
   ·exact o1 v hv
   ·exact o2 v hv
 have RH:Hid (∀(w:World) g T,Blk w g T (m0a m.h++(ac++sc))->w.rangeAt g 0 (m0a m.h)):=λw g T b=>T2b b
 have RA:Hid (∀(w:World) g T,Blk w g T (m0a m.h++(ac++sc))->w.rangeAt g 26 ac):=λw g T b=>Y8a b H26.o
 have RS:Hid (∀(w:World) g T,Blk w g T (m0a m.h++(ac++sc))->w.rangeAt g 95 sc):=λw g T b=>Z8a b H26.o l1
 have RN:Hid (∀(w:World) g T,Blk w g T (m0a m.h++(ac++sc))->w.cell? ⟨g,5,none⟩=some (.int .u32 m.h.nx)):=λw g T b=>Blk.cell b 5
 have HY:=hI hy;have CB':=hI CB;unfold p6c S9a at CB';have HP:=hI (n4a k.h.len);have HPB:=hI (k6a k.h.byte);have hE:Hid (∀er,Q3a m=er->er≠0->∀e w',e=.returned (.tuple #[.slice none 0 0,.int .i64 er])->BW w w'->o7a w m e w'):=by intro er h1 h2 e w' h3 h4;unfold o7a G5a;rw[h1,if_neg h2];exact⟨_,h3,b1a.nil _ _ _ _,h4⟩
 have hQ:Hid (Q3a m=0->∀v e w',e=.returned (.tuple #[v,.int .i64 0])->w6a w' w.heap.size v (X4a m.h++a4a m.h (R5a m))->BW w w'->o7a w m e w'):=by intro h1 v e w' h3 h4 h5;unfold o7a G5a;rw[h1,if_pos rfl];exact⟨v,h3,h4,h5⟩
 have hpd:=V4b (R5a m).length;have CM:Hid (∀(w:World) A n c,n<=281474976710656->Calls prog 19 #[.slice A n c] w λe w'=>e=.returned (.int .i64 (U3b n:Nat))/\w=w'):=λw A n c h=>U2b w A n c h
 by_cases hm:L8a m.h=true;rotate_left
 ·have HE:=hI (hE.o 2 (by unfold Q3a;rw[if_neg hm]) (by decide));have CH:Hid (∀w',Calls prog 16 #[hv m.h] w' λe w2=>∃A',e=.returned (.tuple #[.slice A' 0 0,.int .i64 2])/\BW w' w2):=λw'=>H7b w' m.h k.h (by simpa using hm)
  obtain⟨MC,hMC⟩:=xX (m0a m.h++(ac++sc));rw[<-hMC] at BM HLL HOO RH RA RS RN CB'⊢;obtain⟨hcs,hhc⟩:=xX (m0a m.h);unfold hv at CH;rw[<-hhc] at CH H26 BM RH;obtain⟨zm,hzm⟩:=xX E1a;rw[<-hzm] at ZM HZ;clear hE hQ hMC hhc hzm hm k CB CB' hy hl RN CM l1 l2 o1 o2 HP HPB HY hpd;go_enter func8,ntmps8;go_wp2_with(first|(refine sN 1 ?_;refine d0a rfl _ (.tmp 0) rfl MC rfl ?_;intro g1 w1 hg1 hg2 K1 L1)|(refine sN 9 ?_;refine q0a rfl _ (.tmp 8) rfl g1 0 rfl hcs _ (hI (RH.o _ _ _ K1.o)) underlying28 rfl 26 K0a H26 ?_)|(refine sN 11 ?_;refine q0a rfl _ (.tmp 10) rfl g1 26 rfl ac _ (hI (RA.o _ _ _ K1.o)) underlying34 rfl 69 p0a H69 ?_)|(refine sN 13 ?_;refine q0a rfl _ (.tmp 12) rfl g1 95 rfl sc _ (hI (RS.o _ _ _ K1.o)) underlying39 rfl 20 t0a H20 ?_)|(refine sN 14 ?_;refine v0a rfl _ _ rfl MC (by refine Eq.trans ?_ BM;kernel_rfl) ?_)|(refine sN 4 ?_;refine b0a rfl _ rfl zm _ ZM ?_;intro g w2 hg3 hg4 Z2 L02;have L2:=hI (step L1.o L02.o);have hle:w.heap.size<=g:=(by have:=L1.o.size;omega))|(refine sT 4 ?_;refine a0a rfl _ (.tmp 4) (.tmp 14) rfl g rfl _ zm MC rfl Z2 115 h3a HZ HLL HOO ?_;intro w3 B3 O3 hg5;have L3:=hI (c0a L2.o O3.o hle))|(refine sN 17 ?_;refine q0a rfl _ (.tmp 16) rfl g 0 rfl hcs _ (hI (RH.o _ _ _ B3.o)) underlying28 rfl 26 K0a H26 ?_)|fail)
  refine(CH.o w3).mono ?_;rintro e w4 ⟨A',rfl,L4⟩;go_wp2;go_ret2;exact HE.o _ _ rfl (step L3.o L4)
 have CH:Hid (∀w',Calls prog 16 #[hv m.h] w' λe w2=>∃A',e=.returned (.tuple #[.slice A' 64 64,.int .i64 0])/\p2a w2 w'.heap.size A' (X4a m.h)/\BW w' w2):=λw'=>f5c w' m.h k.h hm
 have hme:Q3a m=Q5a m:=by unfold Q3a;rw[if_pos hm]
 rw[hme] at hE hQ;obtain⟨MC,hMC⟩:=xX (m0a m.h++(ac++sc));rw[<-hMC] at BM HLL HOO RH RA RS RN CB'⊢;obtain⟨hcs,hhc⟩:=xX (m0a m.h);unfold hv at CH;rw[<-hhc] at CH H26 BM RH;obtain⟨zm,hzm⟩:=xX E1a;rw[<-hzm] at ZM HZ;obtain⟨er,her⟩:=xX (Q5a m);rw[<-her] at hE hQ CB';by_cases h0:er=0;rotate_left
 ·have HE:=hI (hE.o er rfl h0);have hne:(er != 0)=true:=by simpa using h0
  clear hE hQ hMC hhc hzm hm k CB hy hl RN CM l1 l2 o1 o2 HY hpd her h0 hme;go_enter func8,ntmps8;go_wp2_with(first|(refine sN 1 ?_;refine d0a rfl _ (.tmp 0) rfl MC rfl ?_;intro g1 w1 hg1 hg2 K1 L1)|(refine sN 9 ?_;refine q0a rfl _ (.tmp 8) rfl g1 0 rfl hcs _ (hI (RH.o _ _ _ K1.o)) underlying28 rfl 26 K0a H26 ?_)|(refine sN 11 ?_;refine q0a rfl _ (.tmp 10) rfl g1 26 rfl ac _ (hI (RA.o _ _ _ K1.o)) underlying34 rfl 69 p0a H69 ?_)|(refine sN 13 ?_;refine q0a rfl _ (.tmp 12) rfl g1 95 rfl sc _ (hI (RS.o _ _ _ K1.o)) underlying39 rfl 20 t0a H20 ?_)|(refine sN 14 ?_;refine v0a rfl _ _ rfl MC (by refine Eq.trans ?_ BM;kernel_rfl) ?_)|(refine sN 4 ?_;refine b0a rfl _ rfl zm _ ZM ?_;intro g w2 hg3 hg4 Z2 L02;have L2:=hI (step L1.o L02.o);have hle:w.heap.size<=g:=(by have:=L1.o.size;omega))|(refine sT 4 ?_;refine a0a rfl _ (.tmp 4) (.tmp 14) rfl g rfl _ zm MC rfl Z2 115 h3a HZ HLL HOO ?_;intro w3 B3 O3 hg5;have L3:=hI (c0a L2.o O3.o hle))|(refine sN 17 ?_;refine q0a rfl _ (.tmp 16) rfl g 0 rfl hcs _ (hI (RH.o _ _ _ B3.o)) underlying28 rfl 26 K0a H26 ?_)|fail)
  refine(CH.o w3).mono ?_;rintro e w4 ⟨A',rfl,hf,L4⟩;have B4:=hI (B3.o.over L4);have L4a:=hI (step L3.o L4);have HA:=hI (hf.holds HP.o HPB.o (by omega));clear K1 L1 Z2 L02 L2 B3 O3 L3 L4 hf CH;go_wp2_with fail;refine(CB'.o w4 g L4a.o B4.o).mono ?_;rintro e w5 ⟨v,rfl,ho,L5⟩;have L5a:=hI (step L4a.o L5);go_wp2;go_ret2;exact HE.o _ _ rfl L5a.o
 subst h0;have HQ:=hI (hQ.o rfl);obtain⟨ys,hys⟩:=xX (R5a m);rw[<-hys] at HQ HY CB' hl hpd;obtain⟨ps,hps⟩:=xX (X4a m.h);rw[<-hps] at HQ HP HPB CH;by_cases hn:m.h.nx=0
 ·have HQ2:Hid (∀v e w',e=.returned (.tuple #[v,.int .i64 0])->w6a w' w.heap.size v (ps++ys)->BW w w'->o7a w m e w'):=by have:=HQ.o;unfold a4a at this;rw[if_pos hn] at this;exact this
  rw[hn] at RN;clear hE hQ hMC hhc hzm hm k CB hy l1 l2 o1 o2 hpd her hme hn HQ CM hps hys;go_enter func8,ntmps8;go_wp2_with(first|(refine sN 1 ?_;refine d0a rfl _ (.tmp 0) rfl MC rfl ?_;intro g1 w1 hg1 hg2 K1 L1)|(refine sN 9 ?_;refine q0a rfl _ (.tmp 8) rfl g1 0 rfl hcs _ (hI (RH.o _ _ _ K1.o)) underlying28 rfl 26 K0a H26 ?_)|(refine sN 11 ?_;refine q0a rfl _ (.tmp 10) rfl g1 26 rfl ac _ (hI (RA.o _ _ _ K1.o)) underlying34 rfl 69 p0a H69 ?_)|(refine sN 13 ?_;refine q0a rfl _ (.tmp 12) rfl g1 95 rfl sc _ (hI (RS.o _ _ _ K1.o)) underlying39 rfl 20 t0a H20 ?_)|(refine sN 14 ?_;refine v0a rfl _ _ rfl MC (by refine Eq.trans ?_ BM;kernel_rfl) ?_)|(refine sN 4 ?_;refine b0a rfl _ rfl zm _ ZM ?_;intro g w2 hg3 hg4 Z2 L02;have L2:=hI (step L1.o L02.o);have hle:w.heap.size<=g:=(by have:=L1.o.size;omega))|(refine sT 4 ?_;refine a0a rfl _ (.tmp 4) (.tmp 14) rfl g rfl _ zm MC rfl Z2 115 h3a HZ HLL HOO ?_;intro w3 B3 O3 hg5;have L3:=hI (c0a L2.o O3.o hle))|(refine sN 17 ?_;refine q0a rfl _ (.tmp 16) rfl g 0 rfl hcs _ (hI (RH.o _ _ _ B3.o)) underlying28 rfl 26 K0a H26 ?_)|fail)
  refine(CH.o w3).mono ?_;rintro e w4 ⟨A',rfl,hf,L4⟩;have B4:=hI (B3.o.over L4);have L4a:=hI (step L3.o L4);have HA:=hI (hf.holds HP.o HPB.o (by omega));clear K1 L1 Z2 L02 L2 B3 O3 L3 L4 hf CH;go_wp2_with fail;refine(CB'.o w4 g L4a.o B4.o).mono ?_;rintro e w5 ⟨v,rfl,ho,L5⟩;have L5a:=hI (step L4a.o L5);have B5:=hI (B4.o.over L5);have gn:=RN.o _ _ _ B5.o;have HA5:=hI (HA.o.over L5);obtain⟨A5,c5,rfl,hh5⟩:=b1a.holds8 ho HY.o (by omega);have H5:=hI hh5;obtain⟨n,hnn⟩:=xX ys.length;rw[<-hnn] at H5 hl⊢;clear B4 L4a HA ho hh5 hnn L5;go_wp2_with(first|(refine sN 37 ?_;refine u2a rfl 2 _ rfl [(A',64,64,ps),(A5,n,c5,ys)] rfl (by kernel_rfl) (List.forall_mem_cons.2 ⟨HA5.o,List.forall_mem_cons.2 ⟨H5.o,λ_ h=>by cases h⟩⟩) ?_;intro g6 w6 P6 b6)|fail)
  refine(L2a _ g6 2 _ _ _ _ P6.o (by omega) (by show 0+64+n<=_;omega)).mono ?_;rintro e w7 ⟨u,rfl,hu,L7⟩;have M6:=hI (step L5a.o b6.o);have HO:Hid (w6a w7 w.heap.size u (ps++ys)):=by
   show b1a .u8 5 w7 w.heap.size u (ps++ys)
   have:=hu.mono (base':=w.heap.size) M6.o.size;simpa[v5a,T3a] using this
  have M7:=hI (step M6.o L7);clear hu L7 P6 b6 M6;go_wp2;go_ret2;exact HQ2.o _ _ _ rfl HO.o M7.o
 ·have HQ2:Hid (∀v e w',e=.returned (.tuple #[v,.int .i64 0])->w6a w' w.heap.size v (ps++(ys++List.replicate (U3b ys.length) 0))->BW w w'->o7a w m e w'):=by have:=HQ.o;unfold a4a at this;rw[if_neg hn] at this;exact this
  have hnx:(m.h.nx==0)=false:=by simpa using hn
  obtain⟨nx,hnxe⟩:=xX m.h.nx;rw[<-hnxe] at RN hnx;clear hE hQ hMC hhc hzm hm k CB hy l1 l2 o1 o2 her hme hn HQ hnxe hps hys;go_enter func8,ntmps8;go_wp2_with(first|(refine sN 1 ?_;refine d0a rfl _ (.tmp 0) rfl MC rfl ?_;intro g1 w1 hg1 hg2 K1 L1)|(refine sN 9 ?_;refine q0a rfl _ (.tmp 8) rfl g1 0 rfl hcs _ (hI (RH.o _ _ _ K1.o)) underlying28 rfl 26 K0a H26 ?_)|(refine sN 11 ?_;refine q0a rfl _ (.tmp 10) rfl g1 26 rfl ac _ (hI (RA.o _ _ _ K1.o)) underlying34 rfl 69 p0a H69 ?_)|(refine sN 13 ?_;refine q0a rfl _ (.tmp 12) rfl g1 95 rfl sc _ (hI (RS.o _ _ _ K1.o)) underlying39 rfl 20 t0a H20 ?_)|(refine sN 14 ?_;refine v0a rfl _ _ rfl MC (by refine Eq.trans ?_ BM;kernel_rfl) ?_)|(refine sN 4 ?_;refine b0a rfl _ rfl zm _ ZM ?_;intro g w2 hg3 hg4 Z2 L02;have L2:=hI (step L1.o L02.o);have hle:w.heap.size<=g:=(by have:=L1.o.size;omega))|(refine sT 4 ?_;refine a0a rfl _ (.tmp 4) (.tmp 14) rfl g rfl _ zm MC rfl Z2 115 h3a HZ HLL HOO ?_;intro w3 B3 O3 hg5;have L3:=hI (c0a L2.o O3.o hle))|(refine sN 17 ?_;refine q0a rfl _ (.tmp 16) rfl g 0 rfl hcs _ (hI (RH.o _ _ _ B3.o)) underlying28 rfl 26 K0a H26 ?_)|fail)
  refine(CH.o w3).mono ?_;rintro e w4 ⟨A',rfl,hf,L4⟩;have B4:=hI (B3.o.over L4);have L4a:=hI (step L3.o L4);have HA:=hI (hf.holds HP.o HPB.o (by omega));clear K1 L1 Z2 L02 L2 B3 O3 L3 L4 hf CH;go_wp2_with fail;refine(CB'.o w4 g L4a.o B4.o).mono ?_;rintro e w5 ⟨v,rfl,ho,L5⟩;have L5a:=hI (step L4a.o L5);have B5:=hI (B4.o.over L5);have gn:=RN.o _ _ _ B5.o;have HA5:=hI (HA.o.over L5);obtain⟨A5,c5,rfl,hh5⟩:=b1a.holds8 ho HY.o (by omega);have H5:=hI hh5;obtain⟨n,hnn⟩:=xX ys.length;rw[<-hnn] at H5 hl HQ2 hpd⊢;clear B4 L4a HA ho hh5 hnn L5;obtain⟨p,hp⟩:=xX (U3b n);have CMn:Hid (∀w':World,Calls prog 19 #[.slice A5 n c5] w' λe w2=>e=.returned (.int .i64 (p:Nat))/\w'=w2):=by rw[hp];exact λw'=>CM.o w' A5 n c5 (by omega)
  rw[<-hp] at HQ2 hpd;clear hp CM;have hpl:p<=281474976710656:=by omega
  go_wp2_with fail;refine(CMn.o _).mono ?_;rintro e w6 ⟨rfl,rfl⟩;go_wp2_with(first|(at_make;refine K1a _ rfl _ _ rfl _ _ p rfl rfl rfl rfl hpl ?_;intro w6 R6 L6;have HR6:Hid (Holds w6 w6.heap.size (some ⟨w5.heap.size,0,none⟩) p p (List.replicate p 0)):=p2a.holds (base:=w5.heap.size) (.inr ⟨_,rfl,Nat.le_refl _,R6.o⟩) (by simp) (Bytes.zeros _) (by omega))|(refine sN 44 ?_;refine u2a rfl 3 _ rfl [(A',64,64,ps),(A5,n,c5,ys),(some ⟨w5.heap.size,0,none⟩,p,p,List.replicate p 0)] rfl (by kernel_rfl) (List.forall_mem_cons.2 ⟨HA5.o.over L6,List.forall_mem_cons.2 ⟨H5.o.over L6,List.forall_mem_cons.2 ⟨HR6.o,λ_ h=>by cases h⟩⟩⟩) ?_;intro g7 w7 P7 b7)|fail)
  refine(L2a _ g7 3 _ _ _ _ P7.o (by omega) (by show 0+64+n+p<=_;omega)).mono ?_;rintro e w8 ⟨u,rfl,hu,L8⟩;have M7:=hI (step (step L5a.o L6) b7.o);have HO:Hid (w6a w8 w.heap.size u (ps++(ys++List.replicate p 0))):=by
   show b1a .u8 5 w8 w.heap.size u (ps++(ys++List.replicate p 0))
   have:=hu.mono (base':=w.heap.size) M7.o.size;simpa[v5a,T3a] using this
  have M8:=hI (step M7.o L8);clear hu L8 P7 b7 M7 L6 R6;go_wp2;go_ret2;exact HQ2.o _ _ _ rfl HO.o M8.o
def UpV(lo:Nat)(o:Option Value):Prop:=∀b off s n c,o=some (.slice (some ⟨b,off,s⟩) n c)->lo<=b
def UpA(lo:Nat)(cs:List Value)(a:l1a):Prop:=(a.dial=[]∨UpV lo cs[0]?)/\(a.data=[]∨UpV lo cs[61]?)/\(a.locks=[]∨UpV lo cs[62]?)
def UpS(lo:Nat)(cs:List Value)(s:O1a):Prop:=(s.data=[]∨UpV lo cs[15]?)/\(s.ents=[]∨UpV lo cs[17]?)
theorem UpV.mono{lo lo':Nat}{o:Option Value}(h:UpV lo o)(hl:lo'<=lo):UpV lo' o:=λb off s n c e=>Nat.le_trans hl (h b off s n c e)
theorem UpA.mono{lo lo':Nat}{cs:List Value}{a:l1a}(h:UpA lo cs a)(hl:lo'<=lo):UpA lo' cs a:=⟨h.1.imp id (·.mono hl),h.2.1.imp id (·.mono hl),h.2.2.imp id (·.mono hl)⟩
theorem UpS.mono{lo lo':Nat}{cs:List Value}{s:O1a}(h:UpS lo cs s)(hl:lo'<=lo):UpS lo' cs s:=⟨h.1.imp id (·.mono hl),h.2.imp id (·.mono hl)⟩
theorem s2a.cellNe{w w':World}{g b o:Nat}(hO:s2a g w w')(hb:b≠g):w'.cell? ⟨b,o,none⟩=w.cell? ⟨b,o,none⟩:=by unfold World.cell?;rw[hO.rest b hb]
theorem J1a.onlyUp{α:Type}{f:α->Value}{w w':World}{B g lo n c:Nat}{A:Option Addr}{xs:List α}(h:J1a f w B A n c xs)(hO:s2a g w w')(hu:xs=[]∨UpV lo (some (.slice A n c)))(hg:g<lo):J1a f w' B A n c xs:=
 ⟨h.len,h.fit,h.bare,λh0=>by
  obtain⟨b,off,hA,hb,hc⟩:=h.cells h0;refine⟨b,off,hA,hb,λi x hi=>?_⟩;have hne:b≠g:=by
   rcases hu with hu | hu
   ·have:=h.len;rw[hu] at this;simp at this;omega
   ·have:=hu b off none n c (by rw[hA]);omega
  rw[hO.cellNe hne];exact hc i x hi⟩
theorem Holds.onlyUp{w w':World}{B g lo n c:Nat}{A:Option Addr}{xs:List Int}(h:Holds w B A n c xs)(hO:s2a g w w')(hu:xs=[]∨UpV lo (some (.slice A n c)))(hg:g<lo):Holds w' B A n c xs:=
 ⟨h.len,h.fit,h.room,h.byte,h.bare,λh0=>by
  obtain⟨b,off,hA,hb,hc⟩:=h.cells h0;refine⟨b,off,hA,hb,λi hi=>?_⟩;have hne:b≠g:=by
   rcases hu with hu | hu
   ·have:=h.len;rw[hu] at this;simp at this;omega
   ·have:=hu b off none n c (by rw[hA]);omega
  rw[hO.cellNe hne];exact hc i hi⟩
theorem c1a.onlyUp{α:Type}{f:α->List Value}{s:Nat}{w w':World}{B g lo n c:Nat}{A:Option Addr}{xs:List α}(h:c1a f s w B A n c xs)(hO:s2a g w w')(hu:xs=[]∨UpV lo (some (.slice A n c)))(hg:g<lo):c1a f s w' B A n c xs:=
 ⟨h.len,h.fit,h.bare,λh0=>by
  obtain⟨b,off,hA,hb,hc⟩:=h.cells h0;refine⟨b,off,hA,hb,λi x hi j u hj=>?_⟩;have hne:b≠g:=by
   rcases hu with hu | hu
   ·have:=h.len;rw[hu] at this;simp at this;omega
   ·have:=hu b off none n c (by rw[hA]);omega
  rw[hO.cellNe hne];exact hc i x hi j u hj⟩
def GA(w:World)(lo:Nat)(ac:List Value)(a:l1a):Prop:=a.ok/\g1a w w.heap.size ac a/\UpA lo ac a/\∃vx,ac[61]? = some vx/\w6a w lo vx a.data
def GS(w:World)(lo:Nat)(sc:List Value)(s:O1a):Prop:=s.ok/\s1a w w.heap.size sc s/\UpS lo sc s/\∃vx,sc[15]? = some vx/\w6a w lo vx s.data
theorem b1a.onlyLow{k:IntKind}{e:TypeId}{w w':World}{base b:Nat}{v:Value}{xs:List Int}(h:b1a k e w base v xs)(hO:s2a b w w')(hb:b<base):b1a k e w' base v xs:=
 h.keep λi cs hi hc=>hO.rest i (by obtain⟨h1,_⟩:=h.own.block hi;omega)
theorem GA.only{w w':World}{lo g:Nat}{ac:List Value}{a:l1a}(h:GA w lo ac a)(hO:s2a g w w')(hg:g<lo):GA w' lo ac a:=by
 obtain⟨k,⟨Ad,nd,cd,Ax,nx,cx,Al,nl,cl,rfl,h1,h2,h3⟩,⟨u1,u2,u3⟩,vx,hx,ho⟩:=h;rw[show(l0a (.slice Ad nd cd) (.slice Ax nx cx) (.slice Al nl cl) a)[61]? = some (.slice Ax nx cx) from o0a k 12] at u2;rw[show(l0a (.slice Ad nd cd) (.slice Ax nx cx) (.slice Al nl cl) a)[62]? = some (.slice Al nl cl) from o0a k 13] at u3;have u1':a.dial=[]∨UpV lo (some (.slice Ad nd cd)):=u1;refine⟨k,⟨Ad,nd,cd,Ax,nx,cx,Al,nl,cl,rfl,?_,?_,?_⟩,⟨u1,?_,?_⟩,vx,hx,ho.onlyLow hO hg⟩
 ·rw[hO.size];exact h1.onlyUp hO u1' hg
 ·rw[hO.size];exact h2.onlyUp hO u2 hg
 ·rw[hO.size];exact h3.onlyUp hO u3 hg
 ·rw[show(l0a (.slice Ad nd cd) (.slice Ax nx cx) (.slice Al nl cl) a)[61]? = some (.slice Ax nx cx) from o0a k 12];exact u2
 ·rw[show(l0a (.slice Ad nd cd) (.slice Ax nx cx) (.slice Al nl cl) a)[62]? = some (.slice Al nl cl) from o0a k 13];exact u3
theorem GS.only{w w':World}{lo g:Nat}{sc:List Value}{s:O1a}(h:GS w lo sc s)(hO:s2a g w w')(hg:g<lo):GS w' lo sc s:=by
 obtain⟨k,⟨Ax,nx,cx,Al,nl,cl,rfl,h2,h3⟩,⟨u2,u3⟩,vx,hx,ho⟩:=h;rw[show(u0a (.slice Ax nx cx) (.slice Al nl cl) s)[15]? = some (.slice Ax nx cx) from D0a k 5] at u2;rw[show(u0a (.slice Ax nx cx) (.slice Al nl cl) s)[17]? = some (.slice Al nl cl) from D0a k 7] at u3;refine⟨k,⟨Ax,nx,cx,Al,nl,cl,rfl,?_,?_⟩,⟨?_,?_⟩,vx,hx,ho.onlyLow hO hg⟩
 ·rw[hO.size];exact h2.onlyUp hO u2 hg
 ·rw[hO.size];exact h3.onlyUp hO u3 hg
 ·rw[show(u0a (.slice Ax nx cx) (.slice Al nl cl) s)[15]? = some (.slice Ax nx cx) from D0a k 5];exact u2
 ·rw[show(u0a (.slice Ax nx cx) (.slice Al nl cl) s)[17]? = some (.slice Al nl cl) from D0a k 7];exact u3
theorem GA.over{w w':World}{lo:Nat}{ac:List Value}{a:l1a}(h:GA w lo ac a)(hb:BW w w'):GA w' lo ac a:=by obtain⟨k,h1,h2,vx,hx,ho⟩:=h;exact⟨k,h1.over hb,h2,vx,hx,ho.below hb⟩
theorem GS.over{w w':World}{lo:Nat}{sc:List Value}{s:O1a}(h:GS w lo sc s)(hb:BW w w'):GS w' lo sc s:=by obtain⟨k,h1,h2,vx,hx,ho⟩:=h;exact⟨k,h1.over hb,h2,vx,hx,ho.below hb⟩
theorem GA.mono{w:World}{lo lo':Nat}{ac:List Value}{a:l1a}(h:GA w lo ac a)(hl:lo'<=lo):GA w lo' ac a:=by obtain⟨k,h1,h2,vx,hx,ho⟩:=h;exact⟨k,h1,h2.mono hl,vx,hx,ho.mono hl⟩
theorem GS.mono{w:World}{lo lo':Nat}{sc:List Value}{s:O1a}(h:GS w lo sc s)(hl:lo'<=lo):GS w lo' sc s:=by obtain⟨k,h1,h2,vx,hx,ho⟩:=h;exact⟨k,h1,h2.mono hl,vx,hx,ho.mono hl⟩
def zac:List Value:=l0a (.slice none 0 0) (.slice none 0 0) (.slice none 0 0) i0a
def zsc:List Value:=u0a (.slice none 0 0) (.slice none 0 0) n0a
theorem GA.zero(w:World)(lo:Nat):GA w lo zac i0a:=⟨h0a,V1a w _,⟨.inl rfl,.inl rfl,.inl rfl⟩,.slice none 0 0,rfl,b1a.nil _ _ _ _⟩
theorem GS.zero(w:World)(lo:Nat):GS w lo zsc n0a:=⟨I0a,v2a w _,⟨.inl rfl,.inl rfl⟩,.slice none 0 0,rfl,b1a.nil _ _ _ _⟩
theorem GA.len{w:World}{lo:Nat}{ac:List Value}{a:l1a}(h:GA w lo ac a):ac.length=69:=h.2.1.len h.1
theorem GS.len{w:World}{lo:Nat}{sc:List Value}{s:O1a}(h:GS w lo sc s):sc.length=20:=h.2.1.len h.1
theorem GA.one{w:World}{lo:Nat}{ac:List Value}{a:l1a}(h:GA w lo ac a):∀v∈ac,v.oneCell'=true:=h.2.1.one
theorem GS.one{w:World}{lo:Nat}{sc:List Value}{s:O1a}(h:GS w lo sc s):∀v∈sc,v.oneCell'=true:=h.2.1.one
def n2c(w:World)(c:Int)(A:Option Addr)(n k:Nat)(xs:List Int):Prop:=∀w',BW w w'->Calls prog (fGA c) #[.int .u16 c,.slice A n k] w' λe w2=>∃cs,e=.returned (.tuple #[.agg cs.toArray,.int .i64 (gae c xs)])/\GA w2 w'.heap.size cs (gao c xs)/\BW w' w2
def D3c(w:World)(c:Int)(A:Option Addr)(n k:Nat)(xs:List Int):Prop:=∀w',BW w w'->Calls prog (fGS c) #[.int .u16 c,.slice A n k] w' λe w2=>∃cs,e=.returned (.tuple #[.agg cs.toArray,.int .i64 (gse c xs)])/\GS w2 w'.heap.size cs (gso c xs)/\BW w' w2
def q6c(w w':World)(h:Hd)(ac sc ac' sc':List Value)(xs:List Int):Prop:=(P2a h.fl=true->ac'=ac/\GS w' w.heap.size sc' (gso (u8a h) xs))/\(P2a h.fl=false->sc'=sc/\GA w' w.heap.size ac' (gao (u8a h) xs))
def Z3b(w:World)(g:Nat)(h:Hd)(ac sc:List Value)(xs:List Int)(e:Ending)(w':World):Prop:=∃ac' sc',e=.returned (.int .i64 (U4a h xs))/\Blk w' g 60 (m0a h++(ac'++sc'))/\ac'.length=69/\sc'.length=20/\W0a g w w'/\q6c w w' h ac sc ac' sc' xs
theorem a4b(w:World)(g:Nat)(h:Hd)(ac sc:List Value)(k:h.ok)(B:Blk w g 60 (m0a h++(ac++sc)))(l1:ac.length=69)(l2:sc.length=20)(A:Option Addr)(n c:Nat)(xs:List Int)
(CA:P2a h.fl=false->n2c w (u8a h) A n c xs)(CS:P2a h.fl=true->D3c w (u8a h) A n c xs) :
  Calls prog 39 #[.pointer (some ⟨g,0,none⟩),.slice A n c] w (Z3b w g h ac sc xs):=by
 have CR:=hI (m2c w g h k _ B);have CI:=hI (a9a w g h k _ B);have H26:=hI (G0a k);have HLL:Hid ((m0a h++(ac++sc)).length=115):=by
  show _=_
  simp only[List.length_append,H26.o,l1,l2]
 have CB:Hid (∀w',Calls prog 36 #[.int .u16 (u8a h)] w' λe w2=>e=.returned (g4a (u8a h))/\BW w' w2):=λw'=>O0b w' _ (b8a k)
 have TA:Hid (∀ac',(m0a h++(ac++sc)).take 26++(ac'++(m0a h++(ac++sc)).drop (26+69))=m0a h++(ac'++sc)):=λac'=>by rw[List.take_left' H26.o,<-List.drop_drop,List.drop_left' H26.o,List.drop_left' l1]
 have TS:Hid (∀sc',(m0a h++(ac++sc)).take 95++(sc'++(m0a h++(ac++sc)).drop (95+20))=m0a h++(ac++sc')):=λsc'=>by
  have hl:(m0a h++ac).length=95:=by rw[List.length_append,H26.o,l1]
  rw[<-List.append_assoc (m0a h),List.take_left' hl,<-List.drop_drop,List.drop_left' hl,List.drop_of_length_le (by omega)];simp
 have gl:=B.lt;have BH:=hI B;have F1:=P0b g;have F2:=Q0b g;obtain⟨MC,hMC⟩:=xX (m0a h++(ac++sc));rw[<-hMC] at TA TS BH HLL;obtain⟨q,hq⟩:=xX (u8a h);rw[<-hq] at CR CB CA CS;clear hMC B H26;by_cases hr:P2a h.fl=true
 ·skip
  have CC:=hI (CS hr);rw[hr] at CI;have hent:=m6c q;obtain⟨fA,fB,fC,hF⟩:∃F1 F2 F3,g4a q=.agg #[F1,F2,F3,.func (.func (fGS q)) #[] #[]]:=⟨_,_,_,rfl⟩;rw[hF] at CB;unfold D3c at CC;obtain⟨fn,hfn⟩:=xX (fGS q);rw[<-hfn] at CC CB hent;have HP:Hid (∀sc' e w',e=.returned (.int .i64 (U4a h xs))->Blk w' g 60 (m0a h++(ac++sc'))->W0a g w w'->GS w' w.heap.size sc' (gso q xs)->Z3b w g h ac sc xs e w'):=by intro sc' e w' h1 h2 h3 h4;exact⟨ac,sc',h1,h2,l1,h4.len,h3,λ_=>⟨rfl,by rw[<-hq];exact h4⟩,λh5=>absurd h5 (by rw[hr];decide)⟩
  have hge:U4a h xs=if gse q xs=2 then 5 else gse q xs:=by unfold U4a;rw[if_pos hr,hq]
  rw[hge] at HP;obtain⟨er,her⟩:=xX (gse q xs);rw[<-her] at CC HP;by_cases h2:er=2
  ·subst h2;rw[if_pos rfl] at HP;clear her hge hfn hF hr CA CS hq l1 l2 k;go_enter func39,ntmps39;go_wp2_with fail;refine CR.o.mono ?_;rintro e w1 ⟨rfl,rfl⟩;go_wp2_with fail;refine CI.o.mono ?_;rintro e w1 ⟨rfl,rfl⟩;go_wp2_with fail;refine(CB.o w).mono ?_;rintro e w2 ⟨rfl,L2⟩;have B2:=hI (BH.o.over L2);have M2:=hI L2;have e2:=L2.size;clear L2 BH CB CR CI;go_wp2_with(first|(refine sN 28 ?_;refine wpList_plain rfl λK hK=>?_;go_simp;refine hK _ _ ?_;clear hK K)|fail)
   refine(CC.o w2 M2.o).mono ?_;rintro e w3 ⟨cs,rfl,hg,L3⟩;have B3:=hI (B2.o.over L3);have M3:=hI (step M2.o L3);have GG:=hI hg;have e3:=L3.size;have HL1:=hI hg.len;have HO1:=hI hg.one;clear hg L3 B2 M2 CC;go_wp2_with(first|(refine sT 35 ?_;refine n2a rfl _ (.tmp 35) (.tmp 32) rfl g 95 rfl _ MC cs rfl B3 20 t0a HL1 (hI (by rw[HLL.o];omega)) HO1 ?_;intro w4 B4 O4 hg4;rw[TS.o] at B4;have SV:Hid (W0a g w w4):=(W0a.of_below M3.o g).trans (W0a.of_only O4.o);have G4:Hid (GS w4 w.heap.size cs (gso q xs)):=(GG.o.mono e2).only O4.o gl)|fail)
   go_ret;exact HP.o cs _ _ rfl B4.o SV.o G4.o
  ·rw[if_neg h2] at HP;have hne:(er==2)=false:=bF h2
   clear her hge hfn hF hr CA CS hq h2 l1 l2 k;go_enter func39,ntmps39;go_wp2_with fail;refine CR.o.mono ?_;rintro e w1 ⟨rfl,rfl⟩;go_wp2_with fail;refine CI.o.mono ?_;rintro e w1 ⟨rfl,rfl⟩;go_wp2_with fail;refine(CB.o w).mono ?_;rintro e w2 ⟨rfl,L2⟩;have B2:=hI (BH.o.over L2);have M2:=hI L2;have e2:=L2.size;clear L2 BH CB CR CI;go_wp2_with(first|(refine sN 28 ?_;refine wpList_plain rfl λK hK=>?_;go_simp;refine hK _ _ ?_;clear hK K)|fail)
   refine(CC.o w2 M2.o).mono ?_;rintro e w3 ⟨cs,rfl,hg,L3⟩;have B3:=hI (B2.o.over L3);have M3:=hI (step M2.o L3);have GG:=hI hg;have e3:=L3.size;have HL1:=hI hg.len;have HO1:=hI hg.one;clear hg L3 B2 M2 CC;go_wp2_with(first|(refine sT 35 ?_;refine n2a rfl _ (.tmp 35) (.tmp 32) rfl g 95 rfl _ MC cs rfl B3 20 t0a HL1 (hI (by rw[HLL.o];omega)) HO1 ?_;intro w4 B4 O4 hg4;rw[TS.o] at B4;have SV:Hid (W0a g w w4):=(W0a.of_below M3.o g).trans (W0a.of_only O4.o);have G4:Hid (GS w4 w.heap.size cs (gso q xs)):=(GG.o.mono e2).only O4.o gl)|fail)
   go_ret;exact HP.o cs _ _ rfl B4.o SV.o G4.o
 ·have hr':P2a h.fl=false:=by simpa using hr
  have CC:=hI (CA hr');rw[hr'] at CI;have hent:=k6c q;obtain⟨fA,fB,fC,hF⟩:∃F1 F2 F3,g4a q=.agg #[F1,.func (.func (fGA q)) #[] #[],F2,F3]:=⟨_,_,_,rfl⟩;rw[hF] at CB;unfold n2c at CC;obtain⟨fn,hfn⟩:=xX (fGA q);rw[<-hfn] at CC CB hent;have HP:Hid (∀ac' e w',e=.returned (.int .i64 (U4a h xs))->Blk w' g 60 (m0a h++(ac'++sc))->W0a g w w'->GA w' w.heap.size ac' (gao q xs)->Z3b w g h ac sc xs e w'):=by intro ac' e w' h1 h2 h3 h4;exact⟨ac',sc,h1,h2,h4.len,l2,h3,λh5=>absurd h5 (by rw[hr'];decide),λ_=>⟨rfl,by rw[<-hq];exact h4⟩⟩
  have hge:U4a h xs=gae q xs:=by unfold U4a;rw[if_neg hr,hq]
  rw[hge] at HP;obtain⟨er,her⟩:=xX (gae q xs);rw[<-her] at CC HP;clear her hge hfn hF hr hr' CA CS hq l1 l2 k;go_enter func39,ntmps39;go_wp2_with fail;refine CR.o.mono ?_;rintro e w1 ⟨rfl,rfl⟩;go_wp2_with fail;refine CI.o.mono ?_;rintro e w1 ⟨rfl,rfl⟩;go_wp2_with fail;refine(CB.o w).mono ?_;rintro e w2 ⟨rfl,L2⟩;have B2:=hI (BH.o.over L2);have M2:=hI L2;have e2:=L2.size;clear L2 BH CB CR CI;go_wp2_with(first|(refine sN 15 ?_;refine wpList_plain rfl λK hK=>?_;go_simp;refine hK _ _ ?_;clear hK K)|fail)
  refine(CC.o w2 M2.o).mono ?_;rintro e w3 ⟨cs,rfl,hg,L3⟩;have B3:=hI (B2.o.over L3);have M3:=hI (step M2.o L3);have GG:=hI hg;have e3:=L3.size;have HL1:=hI hg.len;have HO1:=hI hg.one;clear hg L3 B2 M2 CC;go_wp2_with(first|(refine sT 22 ?_;refine n2a rfl _ (.tmp 22) (.tmp 19) rfl g 26 rfl _ MC cs rfl B3 69 p0a HL1 (hI (by rw[HLL.o];omega)) HO1 ?_;intro w4 B4 O4 hg4;rw[TA.o] at B4;have SV:Hid (W0a g w w4):=(W0a.of_below M3.o g).trans (W0a.of_only O4.o);have G4:Hid (GA w4 w.heap.size cs (gao q xs)):=(GG.o.mono e2).only O4.o gl)|fail)
  go_ret;exact HP.o cs _ _ rfl B4.o SV.o G4.o
def R0b(w:World)(g:Nat)(h:Hd)(ac sc:List Value)(xs:List Int)(e:Ending)(w':World):Prop:=∃ac' sc',e=.returned (.int .i64 (q1b h xs))/\Blk w' g 60 (m0a h++(ac'++sc'))/\W0a g w w'/\(q1b h xs=0->q6c w w' h ac sc ac' sc' (q3b h xs))
theorem b4b(w:World)(g:Nat)(h:Hd)(ac sc:List Value)(k:h.ok)(B:Blk w g 60 (m0a h++(ac++sc)))(l1:ac.length=69)(l2:sc.length=20)(A:Option Addr)(n c:Nat)(xs:List Int)(hn:h.nx=0)
(CA:P2a h.fl=false->n2c w (u8a h) A n c xs)(CS:P2a h.fl=true->D3c w (u8a h) A n c xs) :
  Calls prog 20 #[.pointer (some ⟨g,0,none⟩),.slice A n c] w (R0b w g h ac sc xs):=by
 have CG:=hI (a4b w g h ac sc k B l1 l2 A n c xs CA CS);unfold Z3b at CG;have HP:Hid (∀ac' sc' e w',e=.returned (.int .i64 (U4a h xs))->Blk w' g 60 (m0a h++(ac'++sc'))->W0a g w w'->q6c w w' h ac sc ac' sc' xs->R0b w g h ac sc xs e w'):=by intro ac' sc' e w' h1 h2 h3 h4;unfold R0b q1b q3b;rw[if_pos hn,if_pos hn];exact⟨ac',sc',h1,h2,h3,λ_=>h4⟩
 have RN:Hid (∀(w:World) ac' sc',Blk w g 60 (m0a h++(ac'++sc'))->w.cell? ⟨g,5,none⟩=some (.int .u32 0)):=λw ac' sc' b=>by rw[<-hn];exact Blk.cell b 5
 obtain⟨er,her⟩:=xX (U4a h xs);rw[<-her] at CG HP;clear her hn CA CS k B;go_enter func20,ntmps20;go_wp2_with fail;refine CG.o.mono ?_;rintro e w1 ⟨ac',sc',rfl,hb,_,_,hs,hgm⟩;have gn:=RN.o _ _ _ hb;have HX:=hI (HP.o ac' sc' _ w1 rfl hb hs hgm);clear hb hs hgm HP CG;go_wp2;go_ret;exact HX.o
def p7a(w:World)(xs:List Int)(e:Ending)(w':World):Prop:=∃ac sc,e=.returned (.tuple #[.agg (m0a (l5b xs).h++(ac++sc)).toArray,.int .i64 (O9a xs)])/\GA w' w.heap.size ac (l5b xs).a/\GS w' w.heap.size sc (l5b xs).s/\BW w w'
def R6c(w:World)(h:Hd)(xs:List Int):Prop:=∀w' g A n c,BW w w'->Blk w' g 60 (m0a h++(zac++zsc))->Holds w' g A n c xs->Calls prog 20 #[.pointer (some ⟨g,0,none⟩),.slice A n c] w' (R0b w' g h zac zsc xs)
theorem s0b:zac.length=69:=G1a h0a
theorem t0b:zsc.length=20:=m2a I0a
theorem h4c(w:World)(A:Option Addr)(n c:Nat)(xs:List Int)(hx:Holds w w.heap.size A n c xs)(CB:b2a xs 0=0->R6c w (t1a xs 0) (xs.drop 64)) :
  Calls prog 9 #[.slice A n c] w (p7a w xs):=by
 have hk:=g9a xs 0 hx.byte;have CH:Hid (∀w',BW w w'->Calls prog 12 #[.slice A n c,.int .i64 0] w' λe w2=>e=.returned (.tuple #[.agg (m0a (t1a xs 0)).toArray,.int .i64 (b2a xs 0)])/\BW w' w2):=λw' hb=>b5b w' A n c xs 0 (hx.over hb) (by omega)
 have ZM:=hI R9a;have ZG:=hI N0b;have HZ:=hI I3a;have HZO:Hid (∀v∈E1a,v.oneCell'=true):=by
  intro v hv;unfold E1a at hv;rcases List.mem_append.1 hv with hv | hv
  ·exact g2a _ v hv
  ·rcases List.mem_append.1 hv with hv | hv
   ·exact x1a rfl rfl rfl v hv
   ·exact N1a rfl rfl v hv
 have BZ:=X3b;have ZH:=hI C7a;have HZH:=hI (G0a Y2a);have H26:=hI (G0a hk);have HO26:=hI (g2a (t1a xs 0));have B1:=l2c K8a (G0a hk);have hE:Hid (∀er,O9a xs=er->er≠0->∀e w',e=.returned (.tuple #[.agg E1a.toArray,.int .i64 er])->BW w w'->p7a w xs e w'):=by intro er h1 h2 e w' h3 h4;unfold p7a l5b;rw[h1,if_neg h2];exact⟨zac,zsc,h3,GA.zero _ _,GS.zero _ _,h4⟩
 have HX:=hI hx;have hl:=hx.len;have hf:=hx.fit;have hrm:=hx.room;by_cases h0:b2a xs 0=0;rotate_left
 ·have HE:=hI (hE.o (b2a xs 0) (by unfold O9a;rw[if_neg h0]) h0);obtain⟨er,her⟩:=xX (b2a xs 0);rw[<-her] at CH HE;have hne:(er != 0)=true:=by rw[her];simpa using h0
  obtain⟨hcs,hhc⟩:=xX (m0a (t1a xs 0));rw[<-hhc] at CH H26 HO26;obtain⟨zm,hzm⟩:=xX E1a;rw[<-hzm] at ZM HZ HZO BZ HE;obtain⟨zh,hzh⟩:=xX (m0a Q1a);rw[<-hzh] at ZH HZH;clear hE her h0 hhc hzm hzh CB hk B1 hx ZG;go_enter func9,ntmps9;go_wp2_with(first|(refine sN 2 ?_;refine b0a rfl _ rfl zm _ ZM ?_;intro g0 w1 hg1 hg2 Z1 L1)|fail)
  refine(CH.o w1 L1.o).mono ?_;rintro e w2 ⟨rfl,L2⟩;have Z2:=hI (Z1.o.over L2);have M2:=hI (step L1.o L2);have e2:=L2.size;clear L2 L1 Z1 CH;go_wp2_with(first|(refine sN 4 ?_;refine b0a rfl _ rfl zh _ ZH ?_;intro g3 w3 hg3 hg4 X3 L3;have M3:=hI (step M2.o L3.o);have Z3:=hI (Z2.o.over L3.o))|(refine sT 4 ?_;refine a0a rfl _ (.tmp 4) (.tmp 11) rfl g3 rfl _ zh hcs rfl X3 26 K0a HZH H26 HO26 ?_;intro w4 X4 O4 hg5;have M4:=hI (c0a M3.o O4.o (by omega));have Z4:=hI (Z3.o.only O4.o (by omega)))|(refine sN 15 ?_;refine r0a rfl _ rfl zm BZ ?_)|(refine sT 2 ?_;refine a0a rfl _ (.tmp 2) (.tmp 15) rfl g0 rfl _ zm zm rfl Z4 115 r1a HZ HZ HZO ?_;intro w5 X5 O5 hg6)|fail)
  refine bodyPost_ret (v:=.tuple #[.agg zm.toArray,.int .i64 er]) ?_ rfl (HE.o _ _ rfl (c0a M4.o O5.o (by omega)));exact j0a rfl _ _ g0 _ _ (0,0) _ rfl X5.o underlying41 rfl (by rw[r1a];have:=HZ.o;simp[this]) rfl
 have hrn:64<=n:=by
  have h1:=h0;unfold b2a at h1;by_cases hp:R0a xs.length 0 64=0
  ·have:=L1b hp;omega
  ·rw[if_neg hp] at h1;exact absurd h1 hp
 have hbe:O9a xs=q1b (t1a xs 0) (xs.drop 64):=by unfold O9a;rw[if_pos h0]
 have CB':=hI (CB h0);unfold R6c R0b at CB';rw[h0] at CH;have HQ:Hid (O9a xs=0->∀ac sc e w',e=.returned (.tuple #[.agg (m0a (t1a xs 0)++(ac++sc)).toArray,.int .i64 0])->GA w' w.heap.size ac (gbA (t1a xs 0) (q3b (t1a xs 0) (xs.drop 64)))->GS w' w.heap.size sc (gbS (t1a xs 0) (q3b (t1a xs 0) (xs.drop 64)))->BW w w'->p7a w xs e w'):=by intro h1 ac sc e w' h2 h3 h4 h5;unfold p7a l5b;rw[h1,if_pos rfl];exact⟨ac,sc,h2,h3,h4,h5⟩
 have TG:Hid (∀w1 w' lo ac sc ys,lo<=w1.heap.size->q6c w1 w' (t1a xs 0) zac zsc ac sc ys->GA w' lo ac (gbA (t1a xs 0) ys)/\GS w' lo sc (gbS (t1a xs 0) ys)):=by
  intro w1 w' lo ac sc ys hlo hgm;unfold gbA gbS;by_cases hr:P2a (t1a xs 0).fl=true
  ·obtain⟨rfl,h2⟩:=hgm.1 hr;rw[if_pos hr,if_pos hr];exact⟨GA.zero _ _,h2.mono hlo⟩
  ·obtain⟨rfl,h2⟩:=hgm.2 (by simpa using hr);rw[if_neg hr,if_neg hr];exact⟨h2.mono hlo,GS.zero _ _⟩
 rw[hbe] at hE HQ;obtain⟨hh,hhe⟩:=xX (t1a xs 0);rw[<-hhe] at CH H26 HO26 B1 CB' hE HQ TG;obtain⟨er,her⟩:=xX (q1b hh (xs.drop 64));rw[<-her] at CB' hE HQ;have RH:Hid (∀(w:World) g T ac sc,Blk w g T (m0a hh++(ac++sc))->w.rangeAt g 0 (m0a hh)):=λw g T ac sc b=>T2b b
 have RA:Hid (∀(w:World) g T ac sc,Blk w g T (m0a hh++(ac++sc))->w.rangeAt g 26 ac):=λw g T ac sc b=>Y8a b H26.o
 have RS:Hid (∀(w:World) g T ac sc,ac.length=69->Blk w g T (m0a hh++(ac++sc))->w.rangeAt g 95 sc):=λw g T ac sc h1 b=>Z8a b H26.o h1
 have HLL:Hid ((m0a hh++(zac++zsc)).length=115):=by
  show _=_
  simp only[List.length_append,H26.o,s0b,t0b]
 have HOO:Hid (∀ac sc,(∀v∈ac,v.oneCell'=true)->(∀v∈sc,v.oneCell'=true)->∀v∈m0a hh++(ac++sc),v.oneCell'=true):=by
  intro ac sc o1 o2 v hv;rcases List.mem_append.1 hv with hv | hv
  ·exact HO26.o v hv
  ·rcases List.mem_append.1 hv with hv | hv
   ·exact o1 v hv
   ·exact o2 v hv
 have HO0:Hid (∀v∈m0a hh++(zac++zsc),v.oneCell'=true):=HOO.o _ _ (x1a rfl rfl rfl) (N1a rfl rfl);have BM:Hid (∀ac sc,ac.length=69->sc.length=20->prog.built 41 [(0,.agg (m0a hh).toArray),(1,.agg ac.toArray),(2,.agg sc.toArray)]=some (m0a hh++(ac++sc)).toArray):=λac sc h1 h2=>f4c x8a H26.o h1 h2
 change prog.built _ _=some (m0a hh++(zac++zsc)).toArray at B1
 obtain⟨MZ,hMZ⟩:=xX (m0a hh++(zac++zsc));rw[<-hMZ] at B1 HLL HO0 CB';obtain⟨hcs,hhc⟩:=xX (m0a hh);rw[<-hhc] at CH H26 HO26 B1 CB' HQ RH RA RS BM HOO;obtain⟨zm,hzm⟩:=xX E1a;rw[<-hzm] at ZM ZG HZ HZO BZ hE;obtain⟨zh,hzh⟩:=xX (m0a Q1a);rw[<-hzh] at ZH HZH;obtain⟨ys,hys⟩:=xX (xs.drop 64);rw[<-hys] at CB' HQ;obtain⟨b,off,rfl,hbl,hcell⟩:=hx.cells (by omega);have HY:Hid (∀w' g,BW w w'->w.heap.size<=g->c≠64->Holds w' g (some ⟨b,off+64,none⟩) (n-64) (c-64) ys):=by intro w' g hb hg hc;have h1:=((hx.below hb).mono hg).rest (k:=64) hrn;rw[if_neg hc,<-hys] at h1;exact h1
 have HY0:Hid (∀w' g,BW w w'->w.heap.size<=g->c=64->Holds w' g (some ⟨b,off,none⟩) 0 0 ys):=by intro w' g hb hg hc;have h1:=((hx.below hb).mono hg).rest (k:=64) hrn;rw[if_pos hc,<-hys,show n-64=0 by omega,show c-64=0 by omega] at h1;exact h1
 clear h0 CB hk hx hMZ hhc hzm hzh hys hbe her hhe hcell HX hl;by_cases her0:er=0;rotate_left
 ·have HE:=hI (hE.o er rfl her0);have hne:(er != 0)=true:=by simpa using her0
  clear hE HQ her0 TG BM HOO RA RS RH;by_cases hc:c=64
  ·subst hc;obtain rfl:n=64:=by omega
   go_enter func9,ntmps9;go_wp2_with(first|(refine sN 2 ?_;refine b0a rfl _ rfl zm _ ZM ?_;intro g0 w1 hg1 hg2 Z1 L1)|fail)
   refine(CH.o w1 L1.o).mono ?_;rintro e w2 ⟨rfl,L2⟩;have Z2:=hI (Z1.o.over L2);have M2:=hI (step L1.o L2);have e2:=L2.size;clear L2 L1 Z1 CH;go_wp2_with(first|(refine sN 4 ?_;refine b0a rfl _ rfl zh _ ZH ?_;intro g3 w3 hg3 hg4 X3 L3;have M3:=hI (step M2.o L3.o);have Z3:=hI (Z2.o.over L3.o))|(refine sT 4 ?_;refine a0a rfl _ (.tmp 4) (.tmp 11) rfl g3 rfl _ zh hcs rfl X3 26 K0a HZH H26 HO26 ?_;intro w4 X4 O4 hg5;have M4:=hI (c0a M3.o O4.o (by omega));have Z4:=hI (Z3.o.only O4.o (by omega)))|(refine sN 17 ?_;refine e0a rfl _ (.tmp 4) rfl g3 rfl _ hcs X4 26 _ underlying28 rfl K0a H26 ?_)|(refine sN 18 ?_;refine v0a rfl _ _ rfl MZ (by refine Eq.trans ?_ B1;kernel_rfl) ?_)|(refine sN 6 ?_;refine b0a rfl _ rfl zm _ ZG ?_;intro g w5 hg6 hg7 X5 L5;have M5:=hI (step M4.o L5.o);have Z5:=hI (Z4.o.over L5.o))|(refine sT 6 ?_;refine a0a rfl _ (.tmp 6) (.tmp 18) rfl g rfl _ zm MZ rfl X5 115 h3a HZ HLL HO0 ?_;intro w6 B6 O6 hg8;have e6:=O4.o.size;have M6:=hI (c0a M5.o O6.o (by omega));have Z6:=hI (Z5.o.only O6.o (by omega)))|fail)
   refine(CB'.o w6 g _ _ _ M6.o B6.o (HY0.o w6 g M6.o (by omega) (by trivial))).mono ?_;rintro e w7 ⟨ac,sc,rfl,hb7,hs7,hg7m⟩;have M7:=hI (M6.o.trans (hs7.below (by omega) M6.o.size));have Z7:=hI (Z6.o.save hs7 (by omega));clear hb7 hs7 hg7m X3 L3 X4 O4 X5 L5 B6 O6 M3 M4 M5 M6 Z2 Z3 Z4 Z5 Z6;go_wp2_with(first|(refine sN 24 ?_;refine r0a rfl _ rfl zm BZ ?_)|(refine sT 2 ?_;refine a0a rfl _ (.tmp 2) (.tmp 24) rfl g0 rfl _ zm zm rfl Z7 115 r1a HZ HZ HZO ?_;intro w8 X8 O8 hg9)|fail)
   refine bodyPost_ret (v:=.tuple #[.agg zm.toArray,.int .i64 er]) ?_ rfl (HE.o _ _ rfl (c0a M7.o O8.o (by omega)));exact j0a rfl _ _ g0 _ _ (0,0) _ rfl X8.o underlying41 rfl (by rw[r1a];have:=HZ.o;simp[this]) rfl
  ·have hc1:¬((c:Int)=64):=by omega
   have hc2:(64:Int)<=(n:Int):=by omega
   have hc3:¬(c-64=0):=by omega
   go_enter func9,ntmps9;go_wp2_with(first|(refine sN 2 ?_;refine b0a rfl _ rfl zm _ ZM ?_;intro g0 w1 hg1 hg2 Z1 L1)|fail)
   refine(CH.o w1 L1.o).mono ?_;rintro e w2 ⟨rfl,L2⟩;have Z2:=hI (Z1.o.over L2);have M2:=hI (step L1.o L2);have e2:=L2.size;clear L2 L1 Z1 CH;go_wp2_with(first|(refine sN 4 ?_;refine b0a rfl _ rfl zh _ ZH ?_;intro g3 w3 hg3 hg4 X3 L3;have M3:=hI (step M2.o L3.o);have Z3:=hI (Z2.o.over L3.o))|(refine sT 4 ?_;refine a0a rfl _ (.tmp 4) (.tmp 11) rfl g3 rfl _ zh hcs rfl X3 26 K0a HZH H26 HO26 ?_;intro w4 X4 O4 hg5;have M4:=hI (c0a M3.o O4.o (by omega));have Z4:=hI (Z3.o.only O4.o (by omega)))|(refine sN 17 ?_;refine e0a rfl _ (.tmp 4) rfl g3 rfl _ hcs X4 26 _ underlying28 rfl K0a H26 ?_)|(refine sN 18 ?_;refine v0a rfl _ _ rfl MZ (by refine Eq.trans ?_ B1;kernel_rfl) ?_)|(refine sN 6 ?_;refine b0a rfl _ rfl zm _ ZG ?_;intro g w5 hg6 hg7 X5 L5;have M5:=hI (step M4.o L5.o);have Z5:=hI (Z4.o.over L5.o))|(refine sT 6 ?_;refine a0a rfl _ (.tmp 6) (.tmp 18) rfl g rfl _ zm MZ rfl X5 115 h3a HZ HLL HO0 ?_;intro w6 B6 O6 hg8;have e6:=O4.o.size;have M6:=hI (c0a M5.o O6.o (by omega));have Z6:=hI (Z5.o.only O6.o (by omega)))|fail)
   refine(CB'.o w6 g _ _ _ M6.o B6.o (HY.o w6 g M6.o (by omega) hc)).mono ?_;rintro e w7 ⟨ac,sc,rfl,hb7,hs7,hg7m⟩;have M7:=hI (M6.o.trans (hs7.below (by omega) M6.o.size));have Z7:=hI (Z6.o.save hs7 (by omega));clear hb7 hs7 hg7m X3 L3 X4 O4 X5 L5 B6 O6 M3 M4 M5 M6 Z2 Z3 Z4 Z5 Z6;go_wp2_with(first|(refine sN 24 ?_;refine r0a rfl _ rfl zm BZ ?_)|(refine sT 2 ?_;refine a0a rfl _ (.tmp 2) (.tmp 24) rfl g0 rfl _ zm zm rfl Z7 115 r1a HZ HZ HZO ?_;intro w8 X8 O8 hg9)|fail)
   refine bodyPost_ret (v:=.tuple #[.agg zm.toArray,.int .i64 er]) ?_ rfl (HE.o _ _ rfl (c0a M7.o O8.o (by omega)));exact j0a rfl _ _ g0 _ _ (0,0) _ rfl X8.o underlying41 rfl (by rw[r1a];have:=HZ.o;simp[this]) rfl
 subst her0;have HQ2:=hI (HQ.o rfl);clear hE HQ;by_cases hc:c=64
 ·subst hc;obtain rfl:n=64:=by omega
  go_enter func9,ntmps9;go_wp2_with(first|(refine sN 2 ?_;refine b0a rfl _ rfl zm _ ZM ?_;intro g0 w1 hg1 hg2 Z1 L1)|fail)
  refine(CH.o w1 L1.o).mono ?_;rintro e w2 ⟨rfl,L2⟩;have Z2:=hI (Z1.o.over L2);have M2:=hI (step L1.o L2);have e2:=L2.size;clear L2 L1 Z1 CH;go_wp2_with(first|(refine sN 4 ?_;refine b0a rfl _ rfl zh _ ZH ?_;intro g3 w3 hg3 hg4 X3 L3;have M3:=hI (step M2.o L3.o);have Z3:=hI (Z2.o.over L3.o))|(refine sT 4 ?_;refine a0a rfl _ (.tmp 4) (.tmp 11) rfl g3 rfl _ zh hcs rfl X3 26 K0a HZH H26 HO26 ?_;intro w4 X4 O4 hg5;have M4:=hI (c0a M3.o O4.o (by omega));have Z4:=hI (Z3.o.only O4.o (by omega)))|(refine sN 17 ?_;refine e0a rfl _ (.tmp 4) rfl g3 rfl _ hcs X4 26 _ underlying28 rfl K0a H26 ?_)|(refine sN 18 ?_;refine v0a rfl _ _ rfl MZ (by refine Eq.trans ?_ B1;kernel_rfl) ?_)|(refine sN 6 ?_;refine b0a rfl _ rfl zm _ ZG ?_;intro g w5 hg6 hg7 X5 L5;have M5:=hI (step M4.o L5.o);have Z5:=hI (Z4.o.over L5.o))|(refine sT 6 ?_;refine a0a rfl _ (.tmp 6) (.tmp 18) rfl g rfl _ zm MZ rfl X5 115 h3a HZ HLL HO0 ?_;intro w6 B6 O6 hg8;have e6:=O4.o.size;have M6:=hI (c0a M5.o O6.o (by omega));have Z6:=hI (Z5.o.only O6.o (by omega)))|fail)
  refine(CB'.o w6 g _ _ _ M6.o B6.o (HY0.o w6 g M6.o (by omega) (by trivial))).mono ?_;rintro e w7 ⟨ac,sc,rfl,hb7,hs7,hg7m⟩;have M7:=hI (M6.o.trans (hs7.below (by omega) M6.o.size));have Z7:=hI (Z6.o.save hs7 (by omega));obtain⟨ga,gs⟩:=TG.o w6 w7 _ ac sc _ (Nat.le_refl _) (hg7m (by trivial));have e60:g0<w6.heap.size:=Z6.o.lt;have B7:=hI hb7;have HA7:=hI ga.len;have HS7:=hI gs.len;have BB:=BM.o ac sc HA7.o HS7.o;have HL7:Hid ((hcs++(ac++sc)).length=115):=by
   show _=_
   simp only[List.length_append,H26.o,HA7.o,HS7.o]
  have HO7:=hI (HOO.o ac sc ga.one gs.one);have ga7:=hI ga;have gs7:=hI gs;have RA7:=hI (RA.o _ _ _ _ _ hb7);have RH7:=hI (RH.o _ _ _ _ _ hb7);have RS7:=hI (RS.o _ _ _ _ _ HA7.o hb7);obtain⟨MF,hMF⟩:=xX (hcs++(ac++sc));rw[<-hMF] at BB HL7 HO7;have HMF:=hI hMF;clear hMF hb7 hs7 hg7m ga gs X3 L3 X4 O4 X5 L5 B6 O6 M3 M4 M5 Z2 Z3 Z4 Z5 Z6 B7;go_wp2_with(first|(refine sN 27 ?_;refine q0a rfl _ (.tmp 26) rfl g 0 rfl hcs _ RH7 underlying28 rfl 26 K0a H26 ?_)|(refine sN 29 ?_;refine q0a rfl _ (.tmp 28) rfl g 26 rfl ac _ RA7 underlying34 rfl 69 p0a HA7 ?_)|(refine sN 31 ?_;refine q0a rfl _ (.tmp 30) rfl g 95 rfl sc _ RS7 underlying39 rfl 20 t0a HS7 ?_)|(refine sN 32 ?_;refine v0a rfl _ _ rfl MF (by refine Eq.trans ?_ BB;kernel_rfl) ?_)|(refine sT 2 ?_;refine a0a rfl _ (.tmp 2) (.tmp 32) rfl g0 rfl _ zm MF rfl Z7 115 r1a HZ HL7 HO7 ?_;intro w8 X8 O8 hg9)|fail)
  refine bodyPost_ret (v:=.tuple #[.agg MF.toArray,.int .i64 0]) ?_ rfl (HQ2.o _ _ _ _ (by rw[HMF.o]) ((ga7.o.only O8.o e60).mono M6.o.size) ((gs7.o.only O8.o e60).mono M6.o.size) (c0a M7.o O8.o (by omega)));exact j0a rfl _ _ g0 _ _ (0,0) _ rfl X8.o underlying41 rfl (by rw[r1a];have:=HL7.o;simp[this]) rfl
 ·have hc1:¬((c:Int)=64):=by omega
  have hc2:(64:Int)<=(n:Int):=by omega
  have hc3:¬(c-64=0):=by omega
  go_enter func9,ntmps9;go_wp2_with(first|(refine sN 2 ?_;refine b0a rfl _ rfl zm _ ZM ?_;intro g0 w1 hg1 hg2 Z1 L1)|fail)
  refine(CH.o w1 L1.o).mono ?_;rintro e w2 ⟨rfl,L2⟩;have Z2:=hI (Z1.o.over L2);have M2:=hI (step L1.o L2);have e2:=L2.size;clear L2 L1 Z1 CH;go_wp2_with(first|(refine sN 4 ?_;refine b0a rfl _ rfl zh _ ZH ?_;intro g3 w3 hg3 hg4 X3 L3;have M3:=hI (step M2.o L3.o);have Z3:=hI (Z2.o.over L3.o))|(refine sT 4 ?_;refine a0a rfl _ (.tmp 4) (.tmp 11) rfl g3 rfl _ zh hcs rfl X3 26 K0a HZH H26 HO26 ?_;intro w4 X4 O4 hg5;have M4:=hI (c0a M3.o O4.o (by omega));have Z4:=hI (Z3.o.only O4.o (by omega)))|(refine sN 17 ?_;refine e0a rfl _ (.tmp 4) rfl g3 rfl _ hcs X4 26 _ underlying28 rfl K0a H26 ?_)|(refine sN 18 ?_;refine v0a rfl _ _ rfl MZ (by refine Eq.trans ?_ B1;kernel_rfl) ?_)|(refine sN 6 ?_;refine b0a rfl _ rfl zm _ ZG ?_;intro g w5 hg6 hg7 X5 L5;have M5:=hI (step M4.o L5.o);have Z5:=hI (Z4.o.over L5.o))|(refine sT 6 ?_;refine a0a rfl _ (.tmp 6) (.tmp 18) rfl g rfl _ zm MZ rfl X5 115 h3a HZ HLL HO0 ?_;intro w6 B6 O6 hg8;have e6:=O4.o.size;have M6:=hI (c0a M5.o O6.o (by omega));have Z6:=hI (Z5.o.only O6.o (by omega)))|fail)
  refine(CB'.o w6 g _ _ _ M6.o B6.o (HY.o w6 g M6.o (by omega) hc)).mono ?_;rintro e w7 ⟨ac,sc,rfl,hb7,hs7,hg7m⟩;have M7:=hI (M6.o.trans (hs7.below (by omega) M6.o.size));have Z7:=hI (Z6.o.save hs7 (by omega));obtain⟨ga,gs⟩:=TG.o w6 w7 _ ac sc _ (Nat.le_refl _) (hg7m (by trivial));have e60:g0<w6.heap.size:=Z6.o.lt;have B7:=hI hb7;have HA7:=hI ga.len;have HS7:=hI gs.len;have BB:=BM.o ac sc HA7.o HS7.o;have HL7:Hid ((hcs++(ac++sc)).length=115):=by
   show _=_
   simp only[List.length_append,H26.o,HA7.o,HS7.o]
  have HO7:=hI (HOO.o ac sc ga.one gs.one);have ga7:=hI ga;have gs7:=hI gs;have RA7:=hI (RA.o _ _ _ _ _ hb7);have RH7:=hI (RH.o _ _ _ _ _ hb7);have RS7:=hI (RS.o _ _ _ _ _ HA7.o hb7);obtain⟨MF,hMF⟩:=xX (hcs++(ac++sc));rw[<-hMF] at BB HL7 HO7;have HMF:=hI hMF;clear hMF hb7 hs7 hg7m ga gs X3 L3 X4 O4 X5 L5 B6 O6 M3 M4 M5 Z2 Z3 Z4 Z5 Z6 B7;go_wp2_with(first|(refine sN 27 ?_;refine q0a rfl _ (.tmp 26) rfl g 0 rfl hcs _ RH7 underlying28 rfl 26 K0a H26 ?_)|(refine sN 29 ?_;refine q0a rfl _ (.tmp 28) rfl g 26 rfl ac _ RA7 underlying34 rfl 69 p0a HA7 ?_)|(refine sN 31 ?_;refine q0a rfl _ (.tmp 30) rfl g 95 rfl sc _ RS7 underlying39 rfl 20 t0a HS7 ?_)|(refine sN 32 ?_;refine v0a rfl _ _ rfl MF (by refine Eq.trans ?_ BB;kernel_rfl) ?_)|(refine sT 2 ?_;refine a0a rfl _ (.tmp 2) (.tmp 32) rfl g0 rfl _ zm MF rfl Z7 115 r1a HZ HL7 HO7 ?_;intro w8 X8 O8 hg9)|fail)
  refine bodyPost_ret (v:=.tuple #[.agg MF.toArray,.int .i64 0]) ?_ rfl (HQ2.o _ _ _ _ (by rw[HMF.o]) ((ga7.o.only O8.o e60).mono M6.o.size) ((gs7.o.only O8.o e60).mono M6.o.size) (c0a M7.o O8.o (by omega)));exact j0a rfl _ _ g0 _ _ (0,0) _ rfl X8.o underlying41 rfl (by rw[r1a];have:=HL7.o;simp[this]) rfl
end Go.Proofs.YtjpcifmeimcikaaGreatDoor
