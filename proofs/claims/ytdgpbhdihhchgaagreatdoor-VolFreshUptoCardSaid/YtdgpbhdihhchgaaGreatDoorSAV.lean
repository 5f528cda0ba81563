import Derived.Test.YtdgpbhdihhchgaaGreatDoorSAO
import Derived.Test.YtdgpbhdihhchgaaGreatDoorSAR
import Derived.Test.YtdgpbhdihhchgaaGreatDoorS0
set_option linter.all false
set_option maxHeartbeats 8000000
set_option maxRecDepth 100000
namespace Go.Proofs.YtdgpbhdihhchgaaGreatDoor
open Go.RowKit
section
variable {w w':World} {g B base:Nat} {xs:List Int}
end
theorem Z9a{w:World}{ops:Array Oper}{rest:List Oper}{o:Oper}{a:Act}{Q:Exit->Act->World->Prop}(hgd:o.guard=none)(d s:Operand)
(ho:o.op=.call { callee:=.builtin .copy,args:=#[d,s],argTypes:=#[51,51] })
(g dLen dCap n c:Nat)(A:Option Addr)(hd:a.eval d=.slice (some ⟨g,0,none⟩) dLen dCap)(hs:a.eval s=.slice A n c)
(cur xs:List Int)(B:Nat)(hrow:Hid (Row w g cur))(hx:Holds w B A n c xs)(hn:n<=dLen)(hfit:n<=cur.length)
(h:∀w',Hid (Row w' g (xs++cur.drop n))->Below g w w'->wpList Tryz.prog ops Q rest (a.put o.dst (goInt n)) w') :
  wpList Tryz.prog ops Q (o::rest) a w:=by
 have hl:=hx.len;obtain⟨i0,hi,hz0,hz1,hz2⟩:=info_parts U4a;refine wpList_copy_splice hgd d s 51 51 ho 5 Tryz.underlying51 (by rw[hi];simp[hz1]) (some ⟨g,0,none⟩) A dLen dCap n c hd hs g 0 (cur.map (Value.int .u8)) 5 hrow.out (xs.map (Value.int .u8)) (by rw[List.length_map,hl];exact(Nat.min_eq_left hn).symm) ?_ (by simp;omega)
  (by intro v hv;obtain⟨x,_,rfl⟩:=List.mem_map.1 hv;rfl) g w (Below.refl _ _) (Nat.le_refl _) ?_
 ·intro h0;refine⟨rfl,?_⟩;obtain⟨b,off,rfl,_,hc⟩:=hx.cells (by simp at h0;omega);refine⟨⟨b,off,none⟩,rfl,λj v hj=>?_⟩;have hjl:j<xs.length:=by
   by_cases hj':j<xs.length
   ·exact hj'
   ·rw[List.getElem?_eq_none (by simp;omega)] at hj;cases hj
  have e:(⟨b,off,none⟩:Addr).add j=⟨b,off+j,none⟩:=by
   by_cases hj0:j=0
   ·subst hj0;simp[Addr.add]
   ·simp[Addr.add,hj0]
  rw[e,hc j (by omega),<-hj];simp[hjl]
 ·intro w' hr hb;have e:(splice (cur.map (Value.int .u8)) 0 (xs.map (Value.int .u8)))=(xs++cur.drop n).map (Value.int .u8):=by simp[splice,hl]
  have hr':=hr.out;rw[e] at hr';rw[List.length_map,hl] at *;exact h w' hr' hb
open Go.RowKit Go.ChangeShapes Go.WideShapes
section
variable {H:Type} {enc:TypeId×Value->H} {P:Program} {W:World} {base:Nat} {t e:TypeId} {v:Value} {d:DataW H} {p:List MemPlace}
theorem t9b(ht:P.underlying t=some (.slice e))(he:P.underlying e=some (.int .u8))(hc:P.cellsOf e=1)(hb:P.bytesOf e=1)(hv:Value.okWide P W .any base t v)
(hk:DataW.Trod enc P W 0 (λ_=>true) true t v d p)(hs:∀n∈d.weights P t,n<=reachBytes)(hp:∀x∈p,x.block<W.heap.size) :
  ∃A n c zs,v=.slice A n c/\n<=c/\c<=140737488351232/\c<Rows.uptoBulk d/\Holds W W.heap.size A c c zs:=by
 obtain⟨A,n,c,rfl⟩:=okWide_slice ht hv;obtain⟨fuel,hf⟩:=hk;rcases open_ints ht he hc hf with⟨hcs,hx⟩ | ⟨x,l,cp,zs,hcs,_,hl,hm,hz,hx,hcell,hwz⟩
 ·simp[Value.cells] at hcs;obtain⟨rfl,rfl,rfl⟩:=hcs;simp only[Prod.mk.injEq] at hx;obtain⟨rfl,_⟩:=hx;exact⟨none,0,0,[],rfl,Nat.le_refl _,by omega,x6a _,Holds.nil _ _⟩
 ·simp[Value.cells] at hcs;obtain⟨rfl,rfl,rfl⟩:=hcs;simp only[Prod.mk.injEq] at hx;obtain⟨rfl,rfl⟩:=hx;simp only[if_true] at hz;have hcap:c<=140737488351232:=by
   have h1:=hs ((lits (H:=H) .u8 (zs.take n)).length*1+(lits (H:=H) .u8 (zs.drop n)).length*1) (by simp only[DataW.weights,ht,hb];rw[<-Nat.add_mul];exact List.mem_cons_self)
   simp[lits,reachBytes] at h1;omega
  refine⟨some x,n,c,zs,rfl,hl,hcap,?_,hz,Nat.le_refl _,by omega,?_,(λhA=>by cases hA),λh0=>?_⟩
  ·have h1:=c3a (lits (H:=H) .u8 (zs.take n));have h2:=c3a (lits (H:=H) .u8 (zs.drop n));rw[show(lits (H:=H) .u8 (zs.take n)).length=(zs.take n).length from by simp[lits],List.length_take] at h1;rw[show(lits (H:=H) .u8 (zs.drop n)).length=(zs.drop n).length from by simp[lits],List.length_drop] at h2;simp only[Rows.uptoBulk];omega
  ·intro y hy;have:=hwz y hy;simpa[Lit.wf,IntKind.min,IntKind.max,IntKind.signed,IntKind.bits] using this
  ·obtain⟨b,off,spot⟩:=x;have h1:=hcell 0 (by omega);have hspot:spot=none:=by simpa[Addr.add] using World.cell?_spot h1
   subst hspot;refine⟨b,off,rfl,?_,λi hi=>?_⟩
   ·have:=World.block_lt_of_cell? W _ h1;simpa[Addr.add] using this
   ·have h2:=hcell i (by omega);have e:(⟨b,off,none⟩:Addr).add i=⟨b,off+i,none⟩:=by
     by_cases hj0:i=0
     ·subst hj0;simp[Addr.add]
     ·simp[Addr.add,hj0]
    rwa [e] at h2
end
section
variable {α:Type} {z:α} {l ys:List α} {n a:Nat}
end
theorem P3c{B:List Int}(h:B.length<=65536):d0b B 0 65536=B:=by
 by_cases h0:B=[]
 ·subst h0;rfl
 ·have hp:=List.length_pos_iff.2 h0;have e:G4a B.length 0 65536=0:=by unfold G4a;rw[if_neg (by omega),if_neg (by omega),if_neg (by omega)]
  unfold d0b;rw[if_pos e];show(B.drop 0).take 65536=B
  rw[List.drop_zero,List.take_of_length_le h]
def G0b(w:World)(xs:List Int)(e:Ending)(w':World):Prop:=e=.returned (.slice (some ⟨w.heap.size,0,none⟩) xs.length (xs.length+3))/\Row w' w.heap.size (xs++[7,7,7])/\Below w.heap.size w w'
def I5a(xs:List Int)(k:Nat):List Int:=xs++(List.replicate k 7++List.replicate (3-k) 0)
theorem h2b(xs:List Int)(k:Nat)(hk:k<=3):(I5a xs k).length=xs.length+3:=by simp[I5a];omega
theorem U6b(xs:List Int)(k:Nat)(hk:k<3):(I5a xs k).set (xs.length+k) 7=I5a xs (k+1):=by
 unfold I5a;rw[List.set_append_right _ _ (by omega),Nat.add_sub_cancel_left,List.set_append_right _ _ (by simp),List.length_replicate,Nat.sub_self,show 3-k=(3-(k+1))+1 from by omega,List.replicate_succ,List.set_cons_zero,
  List.replicate_succ',List.append_assoc]
 rfl
theorem Q3c(w:World)(A:Option Addr)(n c:Nat)(xs:List Int)(h:Holds w w.heap.size A n c xs)(hn:n<=281474976710653) :
  Calls Tryz.prog 33 #[.slice A n c] w (G0b w xs):=by
 have hl:=hI h.len;have hq:∀e w',(e=.returned (.slice (some ⟨w.heap.size,0,none⟩) n (n+3))/\Row w' w.heap.size (I5a xs 3)/\Below w.heap.size w w')->G0b w xs e w':=by intro e w' hh;unfold G0b;rw[hl.out];exact hh
 have HQ:=hI hq;clear hq;go_enter Tryz.func33,Tryz.ntmps33;go_wp2_with(first
  | (at_make;refine x3a _ rfl (.tmp 8) (.tmp 8) rfl _ _ (n+3) rfl rfl (by simp) (by simp) (by omega) ?_;intro w1 hrow hb1)
  | ((with_reducible refine sN 12 ?_);refine Z9a rfl (.tmp 10) (.tmp 11) rfl w.heap.size (n+3) (n+3) n c A rfl rfl _ xs _ hrow (h.below hb1) (by omega) (by simp) ?_;intro w2 hrow2 hb2))
 go_loopw [5] (λi wr=>∃k:Nat,k<=3/\i=.int .i64 (n+k:Nat)/\Hid (Row wr w.heap.size (I5a xs k))/\Below w.heap.size w wr) (λi _=>n+3-(intOf i).toNat)
 case atStart=>
  refine⟨0,by omega,rfl,?_,hb1.trans hb2⟩;have:=hrow2.out;show Row _ _ _
  simpa[I5a] using this
 case round=>
  obtain⟨k,hk,rfl,hR,hb⟩:=hrel;have hll:=h2b xs k hk;by_cases hlt:k<3
  ·have hc:=hR.out.cell (i:=n+k) (by rw[hll,hl.out];omega);have hz:=hR.out.frozen (n+k);have e:=U6b xs k hlt;rw[hl.out] at e;have hS:Hid (Row (wr.setCell ⟨w.heap.size,n+k,none⟩ (.int .u8 7)) w.heap.size (I5a xs (k+1))):=by rw[<-e];exact hR.out.set _ _
   obtain⟨old,hold⟩:∃old,old=(I5a xs k).getD (n+k) 0:=⟨_,rfl⟩;rw[<-hold] at hc;clear e hold hll hR;go_wp2;go_roundw
   case rel=>exact⟨k+1,by omega,by go_num,hS,hb.setCell (Nat.le_refl _) _⟩
   case measure=>simp[intOf];omega
  ·obtain rfl:k=3:=by omega
   clear hll;go_wp2;go_ret;exact HQ.out _ _ ⟨rfl,hR.out,hb⟩
theorem R3c(w:World)(g:Nat)(A:Option Addr)(n c:Nat)(xs:List Int)(hr:Row w g (xs++[7,7,7]))(h:Holds w w.heap.size A n c xs) :
  Calls Tryz.prog 34 #[.slice (some ⟨g,0,none⟩) n (n+3),.slice A n c] w λe w'=>e=.returned (.bool true)/\∃k,w.drewN k=w':=by
 have hl:=h.len;have hrm:=h.room;have c7:∀i,i<3->w.cell? ⟨g,n+i,none⟩=some (.int .u8 7):=λi hi=>by
  rw[hr.cell (i:=n+i) (by simp;omega),List.getD_eq_getElem?_getD,List.getElem?_append_right (by omega),<-hl,Nat.add_sub_cancel_left];have:i=0∨i=1∨i=2:=by omega
  rcases this with rfl | rfl | rfl<;>rfl
 have g0:=c7 0 (by omega);have g1:=c7 1 (by omega);have g2:=c7 2 (by omega);rw[Nat.add_zero] at g0;have hv:Holds w w.heap.size (some ⟨g,0,none⟩) n (n+3) xs:=by refine⟨hl,by omega,hrm,h.byte,λhA=>(by cases hA),λh0=>⟨g,0,rfl,hr.lt,λi hi=>?_⟩⟩;rw[Nat.zero_add,hr.cell (by simp;omega)];simp[List.getD_eq_getElem?_getD,List.getElem?_append,hl,hi]
 have c8:=hI (i9a w _ _ _ _ _ _ _ _ xs xs hv h);rw[decide_eq_true rfl] at c8;clear c7 hl;go_enter Tryz.func34,Tryz.ntmps34;go_wp2_with fail;refine c8.out.mono ?_;rintro e w1 ⟨rfl,j,rfl⟩;go_wp2;go_ret;exact⟨rfl,j,rfl⟩
open Go.RowKit Go.Lib
section
variable {L:List k0a} {V:X0a} {n m d k:Int} {x y:k0a} {s p:o0a} {ps qs ws rs us:List o0a} {tp un:o0a} {over:Bool}
theorem S3c(h:Vok V)(hm:I1a V p k=0):vAt (F3a V p k).l (r2a V p k)=some ⟨V.last+1,k,P0a V.l p,Q0a V.l p,[],[]⟩:=by have hV:F3a V p k=⟨V.quota,V.last+1,V.l++[⟨V.last+1,k,P0a V.l p,Q0a V.l p,[],[]⟩]⟩:=if_pos hm;have hN:r2a V p k=V.last+1:=if_pos hm;have h':=h.make p k;rw[hN];exact h'.at (x:=⟨V.last+1,k,P0a V.l p,Q0a V.l p,[],[]⟩) (by rw[hV];exact List.mem_append_right _ (List.mem_singleton.2 rfl))
theorem H4c(hk:r1a L n=0)(a b:Int):E2a L n a b=d0b (H0a L n) a b:=by
 have e:s2a L n a b=G4a (H0a L n).length a b:=by unfold s2a;rw[if_neg (λq=>q hk)]
 unfold E2a;rw[e];by_cases h0:G4a (H0a L n).length a b=0
 ·rw[if_pos h0]
 ·rw[if_neg h0];unfold d0b;rw[if_neg h0]
theorem Y4c{xs:List Int}(h:q3a 0 xs.length=0):Y3a 0 ([]:List Int) 0 xs=xs:=by
 unfold Y3a;by_cases h0:xs=[]
 ·rw[if_neg (λq=>q.2 h0),h0]
 ·rw[if_pos ⟨h,h0⟩];simp[N3a,y1a]
theorem u9b{xs:List Int}(h:Vok V)(hm:I1a V p 2=0)(hb:Bytes xs)(hw:A0b (F3a V p 2) (r2a V p 2) 0 xs=0):E2a (vWr (F3a V p 2) (r2a V p 2) 0 xs).l (r2a V p 2) 0 65536=xs:=by
 have hat:=S3c h hm;have h1:=h.make p 2;have h2:=h1.wr (r2a V p 2) 0 hb;obtain⟨n,hn⟩:∃n,n=r2a V p 2:=⟨_,rfl⟩;obtain⟨V1,hV1⟩:∃V1,V1=F3a V p 2:=⟨_,rfl⟩;rw[<-hn,<-hV1] at hat hw h2⊢;rw[<-hV1] at h1;have hbs:H0a V1.l n=[]:=by unfold H0a;rw[hat]
 have hV2:vWr V1 n 0 xs=⟨V1.quota,V1.last,v4a V1.l n (Y3a 0 (H0a V1.l n) 0 xs) (Y3a false (b1b V1.l n) 0 (List.replicate xs.length true))⟩:=if_pos hw;have hx:q3a 0 xs.length=0:=by
  unfold A0b at hw;by_cases q1:r1a V1.l n≠0
  ·rw[if_pos q1] at hw;exact absurd hw q1
  ·rw[if_neg q1] at hw;by_cases q2:q3a 0 xs.length≠0
   ·rw[if_pos q2] at hw;exact absurd hw q2
   ·simpa using q2
 obtain⟨a1,a2⟩:=y0a hat;obtain⟨Z,hZ⟩:∃Z,Z=Y3a false (b1b V1.l n) 0 (List.replicate xs.length true):=⟨_,rfl⟩;rw[hbs,Y4c hx,<-hZ] at hV2;have hmem:(⟨V.last+1,2,P0a V.l p,Q0a V.l p,xs,Z⟩:k0a)∈(vWr V1 n 0 xs).l:=by rw[hV2];refine S5b.2 ⟨_,a1,?_⟩;rw[if_pos a2]
 have h3:=h2.at hmem;have a3:V.last+1=n:=a2;have h4:vAt (vWr V1 n 0 xs).l n=some (⟨V.last+1,2,P0a V.l p,Q0a V.l p,xs,Z⟩:k0a):=by rw[<-a3] at h3⊢;exact h3
 have hd:r1a (vWr V1 n 0 xs).l n=0:=by unfold r1a z0a;rw[h4];rfl
 rw[H4c hd];have hb2:H0a (vWr V1 n 0 xs).l n=xs:=by unfold H0a;rw[h4]
 rw[hb2];exact P3c (h2.len _ hmem).2.1
end
theorem T3c(w:World)(A:Option Addr)(n c:Nat)(xs:List Int)(h:Holds w w.heap.size A n c xs)(hn:n<=140737488355328) :
  Calls Tryz.prog 36 #[.slice A n c] w λe w'=>∃v,e=.returned v/\Own w' w.heap.size v xs/\Below w.heap.size w w':=by
 have hxl:xs.length<=140737488355328:=by have:=h.len;omega
 go_enter Tryz.func36,Tryz.ntmps36;go_wp2_with(at_builtin;refine h5a rfl (.tmp 4) (.tmp 5) rfl w.heap.size _ [] rfl (Own.nil _ _) w.heap.size A n c xs rfl h (by simpa using hxl) (Nat.le_refl _) ?_;intro v1 w1 ho1 hb1 hgr);have ho:=ho1.out;rw[List.nil_append] at ho;go_ret;exact⟨_,rfl,ho,hb1⟩
set_option maxRecDepth 100000
theorem a2c(w:World)(by_:Int)(h0:0<=by_/\by_<=255) :
  Calls Tryz.prog 35 #[.slice none 0 0,.int .u8 by_] w λe w'=>e=.returned (.tuple #[])/\Below w.heap.size w w':=by
 obtain⟨h00,h01⟩:=h0;go_enter Tryz.func35,Tryz.ntmps35;go_wp2;go_loop [4] (λi=>i=.int .i64 0) (λ_=>0)
 case atStart=>exact rfl
 case round=>subst hrel;go_wp2;go_end0;exact⟨rfl,Below.refl _ _⟩
theorem v9b(w:World)(g n N:Nat)(zs:List Int)(hnN:n<=N)(hN:zs.length=N)(hm:N<=maxLen)(by_:Int)(h0:0<=by_/\by_<=255)(hr:Row w g zs) :
  Calls Tryz.prog 35 #[.slice (some ⟨g,0,none⟩) n N,.int .u8 by_] w λe w'=>e=.returned (.tuple #[])/\S1a g w w'/\∃ys:List Int,ys.length=N/\Row w' g ys:=by
 obtain⟨h00,h01⟩:=h0;have hm63:N<=9223372036854775807:=by rw[A8a] at hm;exact hm
 have HL:Hid (zs.length=N):=hN;have HR:Hid (Row w g zs):=hr;clear hr hN hm;go_enter Tryz.func35,Tryz.ntmps35;go_wp2;go_loopw [4] (λi wr=>∃k:Nat,k<=N/\i=.int .i64 k/\(∃ys:List Int,Hid (ys.length=N)/\Hid (Row wr g ys))/\Hid (S1a g w wr)) (λi _=>N-(intOf i).toNat)
 case atStart=>exact⟨0,Nat.zero_le _,rfl,⟨_,HL,HR⟩,S1a.refl _ _⟩
 case round=>
  obtain⟨k,hk,rfl,⟨ys,HY,hR⟩,hb⟩:=hrel;by_cases hlt:k<N
  ·have hc:=hR.out.cell (i:=k) (by have:=HY.out;omega);have hz:=hR.out.frozen k;obtain⟨old,hold⟩:∃old,old=ys.getD k 0:=⟨_,rfl⟩;rw[<-hold] at hc;clear hold;go_wp2;go_roundw
   case rel=>exact⟨k+1,by omega,by go_num,⟨_,(by show _=_;rw[List.length_set];exact HY.out),hR.out.set k _⟩,hb.out.setCell _ _⟩
   case measure=>simp[intOf];omega
  ·go_wp2;go_end0;exact⟨rfl,hb.out,ys,HY.out,hR.out⟩
section
variable {DI:DrI} {EI:FiI} {w:World} {base q m:Nat} {D:DataW Unit} {Q T n:Int} {M:List VN} {R:List (Int×I0a)} {y:VN}
theorem V6b(h:o2a DI EI w base q m D Q T M R)(hy:y∈M)(hn:y.1.n=n)(hk:y.1.kind=2){a k:Int}(ha:I64 a)(hk6:I64 k):Calls Tryz.prog 25 #[R0a q,.int .i64 n,.int .i64 a,.int .i64 k] w λe w'=>∃u,e=.returned (.tuple #[u,.int .i64 (G4a y.1.B.length a k)])/\Own w' w.heap.size u (d0b y.1.B a k)/\y4a w' w.heap.size w'.heap.size u/\Below w.heap.size w w':=by have C:=hI (Z8a h hy hn hk);have CR:=hI (EI.read (h.files y hy hk) ha hk6);obtain⟨g,hg⟩:∃g,g=y.2.q:=⟨_,rfl⟩;obtain⟨E,hE⟩:∃E,E=G4a y.1.B.length a k:=⟨_,rfl⟩;obtain⟨X,hX⟩:∃X,X=d0b y.1.B a k:=⟨_,rfl⟩;rw[<-hg] at C CR;rw[<-hE,<-hX] at CR⊢;clear h hy hn hk hg hE hX;unfold R0a at C⊢;unfold ptr at C CR;go_enter Tryz.func25,Tryz.ntmps25;go_wp2_with fail;refine C.out.mono ?_;rintro e w0 ⟨rfl,rfl⟩;go_wp2_with fail;refine CR.out.mono ?_;rintro e w1 ⟨u,rfl,o1,lo1,l1⟩;have O1:=hI o1;have Q1:=hI lo1;have L1:=hI l1;clear o1 lo1 l1;go_wp2_with fail;go_ret2;exact⟨_,rfl,O1.out,Q1.out,L1.out⟩
end
section
variable {DI:DrI} {EI:FiI} {w w':World} {base q m:Nat} {D:DataW Unit} {V:X0a} {M:List VN} {y:VN} {x:k0a} {n:Int} {s:o0a}
end
def Z4c(I:e0b):Prop:=∀{w:World} {b q:Nat} {V:X0a} {S:Nat->Prop},I.is w b q V S->∀{n a k:Int},c2a n->c2a a->c2a k->
 Calls Tryz.prog 25 #[R0a q,.int .i64 n,.int .i64 a,.int .i64 k] w λe w'=>∃u,e=.returned (.tuple #[u,.int .i64 (s2a V.l n a k)])/\Own w' w.heap.size u (E2a V.l n a k)/\y4a w' w.heap.size w'.heap.size u/\Below w.heap.size w w'
theorem W6b:Z4c j7a:=by
 rintro w b q V S ⟨m,D,M,p,e,ok,big,rfl⟩ n a k hn ha hk;have nil:∀{E:Int},r1a V.l n=E->E≠0->Calls Tryz.prog 25 #[R0a q,.int .i64 n,.int .i64 a,.int .i64 k] w (λe w'=>e=.returned (.tuple #[.slice none 0 0,.int .i64 E])/\Below w.heap.size w w')->
   Calls Tryz.prog 25 #[R0a q,.int .i64 n,.int .i64 a,.int .i64 k] w λe w'=>∃u,e=.returned (.tuple #[u,.int .i64 (s2a V.l n a k)])/\Own w' w.heap.size u (E2a V.l n a k)/\y4a w' w.heap.size w'.heap.size u/\Below w.heap.size w w':=fun {E} h1 h2 c=>by
  have e1:s2a V.l n a k=E:=by unfold s2a;rw[if_pos (by rw[h1];exact h2),h1]
  have e2:E2a V.l n a k=[]:=by unfold E2a;rw[if_neg (by rw[e1];exact h2)]
  rw[e1,e2];refine c.mono ?_;rintro e w' ⟨rfl,hb⟩;exact⟨_,rfl,v1a.nil _ _ _ _,.inl rfl,hb⟩
 cases hx:vAt V.l n with
 | none=>
  have hno:∀y∈M,y.1.n≠n:=λy hy=>O8a hx _ (by rw[<-e];exact List.mem_map.2 ⟨y,hy,rfl⟩)
  exact nil (E:=7) (by unfold r1a;rw[hx];rfl) (by decide) (a9a p (K3b p hn hno) (by decide))
 | some x=>
  obtain⟨hxl,hxn⟩:=y0a hx;rw[<-e] at hxl;obtain⟨y,hy,rfl⟩:=List.mem_map.1 hxl;have hkk:z0a V.l n=y.1.kind:=by unfold z0a;rw[hx]
  rcases p.kind y hy with hk1 | hk2
  ·exact nil (E:=9) (by unfold r1a;rw[hx,if_neg (by simp),if_pos (by rw[hkk,hk1];decide)]) (by decide) (a9a p (l1b p hy hxn hk1) (by decide))
  ·have e0:r1a V.l n=0:=by unfold r1a;rw[hx,if_neg (by simp),if_neg (by rw[hkk,hk2];decide)]
   have eb:H0a V.l n=y.1.B:=by unfold H0a;rw[hx]
   have e1:s2a V.l n a k=G4a y.1.B.length a k:=by unfold s2a;rw[if_neg (by rw[e0];decide),eb]
   have e2:E2a V.l n a k=d0b y.1.B a k:=by
    unfold E2a;rw[e1,eb];by_cases h0:G4a y.1.B.length a k=0
    ·rw[if_pos h0]
    ·rw[if_neg h0];unfold d0b;rw[if_neg h0]
   rw[e1,e2];exact V6b p hy hxn hk2 ha hk
section
variable {w w':World} {b q:Nat} {B:List Int} {Z:List Bool} {S:Nat->Prop}
def b2c(w:World)(v:Value)(e:Ending)(w':World):Prop:=e=.returned (.tuple #[])/\g0a (λj=>v.ownBlock=some j) w w'/\∀u lo hi,y4a w lo hi u->y4a w' lo hi u
theorem l3b(w:World)(lo hi:Nat)(v:Value)(h:y4a w lo hi v):Calls Tryz.prog 35 #[v,.int .u8 1] w (b2c w v):=by
 rcases h with rfl | ⟨g,n,N,zs,rfl,h1,h2,h3,h4,h5,hr⟩
 ·exact(a2c w 1 (by omega)).mono λe w' ⟨q1,q2⟩=>⟨q1,g0a.of_over _ q2,λu lo hi hu=>hu.over q2⟩
 ·refine(v9b w g n N zs h1 h3 h2 1 (by omega) hr).mono λe w' ⟨q1,q2,ys,q3,q4⟩=>⟨q1,(g0a.of_only q2).mono λj _ hj=>by rw[hj];rfl,λu lo hi hu=>?_⟩
  rcases hu with rfl | ⟨g',n',N',zs',rfl,k1,k2,k3,k4,k5,kr⟩
  ·exact .inl rfl
  ·by_cases hg:g'=g
   ·subst hg;have hl:zs.length=zs'.length:=by
     have e:=hr.symm.trans kr;injection e with e
     injection e with e
     have:=congrArg Array.size e;simpa using this
    exact .inr ⟨g',n',N',ys,rfl,k1,k2,by omega,k4,k5,q4⟩
   ·exact .inr ⟨g',n',N',zs',rfl,k1,k2,k3,k4,k5,kr.only q2 hg⟩
end
theorem B5b(I:e0b)(W:World)(htb:I.tb W.heap.size W)(k:Int)(hk:c2a k)(A:Option Addr)(n c:Nat)(l:List M2a)(hl:e4a W W.heap.size A n c l)(hn:n<=1048576)(hRL:Z4c I)(Ab:Option Addr)(nb cb:Nat)(bs:List Int)(hb:Holds W W.heap.size Ab nb cb bs)(hcb:cb<=1048576) :
  Calls Tryz.prog 9 #[.int .i64 k,.slice A n c,.slice Ab nb cb] W λe w'=>e=.returned (.bool true)/\Below W.heap.size W w':=by
 have C1:=hI (R3a I W k hk A n c l hl hn htb);have HTB:=hI htb;have CW:Hid (∀w1,Below W.heap.size W w1->_):=λw1 (h:Below W.heap.size W w1)=>U2a I w1 (I.tbUp (I.tbNext htb h) h.size)
 have HLV:=p4a (q:=k) (l:=l) (min n 40);have hm40:min n 40<=40:=Nat.min_le_right _ _;obtain⟨V,hV⟩:∃V,V=N4a k l (min n 40):=⟨_,rfl⟩;unfold C4a at C1;rw[<-hV] at C1 HLV;have HX:=hI hb;have HXL:=hI hb.len;have hxb:=hI hb.byte;have hnb:nb<=1048576:=Nat.le_trans hb.fit hcb;clear hl htb hV hb;go_enter Tryz.func9,Tryz.ntmps9;go_wp2_with fail;refine C1.out.mono ?_;rintro e w1 ⟨h1,h2⟩;by_cases hE:O3a k=0
 ·obtain⟨q,g,S,v,M,rfl,t1,l1⟩:=h2 hE;have L1:=hI l1;have T1:=hI t1;have hok:=(I.ok t1.x).1;have X1:=hI t1.x;have TB1:=hI t1.tb;have HB1:=hI t1.hb;have CM:=hI (I.make t1.x t1.tb t1.hb (by omega:V.last<1048576) (s:=[102,114,101,115,104]) (k:=2) (by decide));have hl1:1<=V.last:=(hok.num _ hok.mem1).2;have hmI:c2a (r2a V [102,114,101,115,104] 2):=by unfold r2a c2a;split<;>omega
  obtain⟨V1,hV1⟩:∃V1,V1=F3a V [102,114,101,115,104] 2:=⟨_,rfl⟩;obtain⟨mn,hmn⟩:∃z,z=r2a V [102,114,101,115,104] 2:=⟨_,rfl⟩;obtain⟨me,hme⟩:∃z,z=I1a V [102,114,101,115,104] 2:=⟨_,rfl⟩;have FR:Hid (me=0->A0b V1 mn 0 bs=0->E2a (vWr V1 mn 0 bs).l mn 0 65536=bs):=λk1 k2=>by rw[hV1,hmn] at k2⊢;exact u9b hok (by rw[<-hme];exact k1) hxb.out k2
  have HV1:Hid (Vok V1):=by rw[hV1];exact hok.make _ _
  rw[<-hmn] at hmI;rw[<-hmn,<-hme,<-hV1] at CM;have HMI:=hI hmI;clear h1 h2 t1 l1 C1 hok hl1 hmI hV1 hmn hme;go_wp2_with fail;refine CM.out.mono ?_;rintro e w2 ⟨rfl,S1,x2,s2,n2⟩;have l2:=s2.below (λj hj=>(I.ge X1.out j hj).1) HB1.out;have X2:=hI x2;have L2:=hI (L1.out.trans l2);have TB2:=hI (I.tbNext TB1.out l2);clear x2 s2 n2 l2 CM X1 TB1 T1;by_cases hz:me=0
  ·subst hz;have cwd:=Q3c w2 Ab nb cb bs (HX.out.below L2.out |>.mono L2.out.size) (by omega);unfold G0b at cwd;rw[HXL.out] at cwd;have CWD:=hI cwd;clear cwd;go_wp2_with fail;refine CWD.out.mono ?_;rintro e w3 ⟨rfl,r3,l3⟩;have R3:=hI r3;have hg3:=r3.lt;have X3:=hI (I.below X2.out l3);have L3:=hI (L2.out.trans (l3.mono L2.out.size));have TB3:=hI (I.tbNext TB2.out (l3.mono L2.out.size));have G3:Hid (∀j,S1 j->j<w2.heap.size):=λj hj=>(I.ge X2.out j hj).2
   have hs3:=l3.size;have hW2:=L2.out.size;obtain⟨gw,hgw⟩:∃g,g=w2.heap.size:=⟨_,rfl⟩;rw[<-hgw] at R3 G3 hg3 hs3 hW2⊢;clear r3 l3 CWD X2 L2 TB2 hgw;have wide:Hid (∀w,Row w gw (bs++[7,7,7])->Holds w w.heap.size (some ⟨gw,0,none⟩) nb (nb+3) bs):=λw hr=>
    ⟨HXL.out,by omega,by omega,hxb.out,λhA=>(by cases hA),λh0=>⟨gw,0,rfl,hr.lt,λi hi=>by rw[Nat.zero_add,hr.cell (by have:=HXL.out;simp;omega)];simp[List.getD_eq_getElem?_getD,List.getElem?_append,HXL.out,hi]⟩⟩
   have cw3:=I.write X3.out TB3.out L3.out.size HMI.out (a:=0) (by unfold c2a;omega) (wide.out w3 R3.out) (λ_ x hx hS=>by cases hx;exact absurd (G3.out gw hS) (Nat.lt_irrefl gw)) (by omega);obtain⟨E2,hE2⟩:∃E,E=A0b V1 mn 0 bs:=⟨_,rfl⟩;obtain⟨V2,hV2⟩:∃V2,V2=vWr V1 mn 0 bs:=⟨_,rfl⟩;have HV2:Hid (Vok V2):=by rw[hV2];exact HV1.out.wr _ _ hxb.out
   have FR2:Hid (E2=0->E2a V2.l mn 0 65536=bs):=λk1=>by rw[hV2];exact FR.out (by first | exact trivial | rfl) (by rw[<-hE2];exact k1)
   rw[<-hE2,<-hV2] at cw3;have CW3:=hI cw3;clear cw3 hE2 hV2 HV1 FR;go_wp2_with fail;refine CW3.out.mono ?_;rintro e w4 ⟨rfl,S4,x4,s4,n4⟩;have l4:=s4.below (λj hj=>(I.ge X3.out j hj).1) L3.out.size;have R4:=hI (R3.out.spare s4 λhS=>absurd (G3.out gw hS) (Nat.lt_irrefl gw));have X4:=hI x4;have L4:=hI (L3.out.trans l4);have TB4:=hI (I.tbNext TB3.out l4);have G4:Hid (∀j,S4 j->j≠gw):=λj hj e=>by
    subst e;rcases n4 j hj with h1 | h1
    ·exact absurd (G3.out j h1) (Nat.lt_irrefl j)
    ·omega
   have T4:Hid (∀j,S4 j->j<w4.heap.size):=λj hj=>(I.ge x4 j hj).2
   have CL:=hI (R3c w4 gw Ab nb cb bs R4.out (HX.out.below L4.out |>.mono L4.out.size));have hs4:=s4.size;clear x4 s4 n4 l4 CW3 X3 R3 L3 TB3 G3 wide;go_wp2_with fail;refine CL.out.mono ?_;rintro e w5 ⟨rfl,k5,hw5⟩;have l5:Below w4.heap.size w4 w5:=by rw[<-hw5];exact E0a _ _
   have R5:=hI (R4.out.below l5 R4.out.lt);have X5:=hI (I.below X4.out l5);have L5:=hI (L4.out.trans (l5.mono L4.out.size));have TB5:=hI (I.tbNext TB4.out (l5.mono L4.out.size));have hs5:=l5.size;have hmx:nb+3<=maxLen:=by rw[A8a];omega
   have V5:Hid (y4a w5 gw (gw+1) (.slice (some ⟨gw,0,none⟩) nb (nb+3))):=.inr ⟨gw,nb,nb+3,_,rfl,by omega,hmx,by have:=HXL.out;simp;omega,Nat.le_refl _,Nat.lt_succ_self _,R5.out⟩;have C5:=hI (l3b w5 _ _ _ V5.out);clear hw5 l5 CL R4 X4 L4 TB4 hmx;go_wp2_with fail;refine C5.out.mono ?_;rintro e w6 ⟨rfl,s6,_⟩;have own6:∀j,(Value.slice (some ⟨gw,0,none⟩) nb (nb+3)).ownBlock=some j->j=gw:=λj hj=>by cases hj;rfl
   have l6:=s6.below (B:=W.heap.size) (λj hj=>by have:=own6 j hj;omega) L5.out.size;have X6:=hI (I.keep X5.out s6 λj hj h1=>G4.out j hj (own6 j h1));have L6:=hI (L5.out.trans l6);have TB6:=hI (I.tbNext TB5.out l6);have hs6:=s6.size;have CR6:=hI (hRL X6.out HMI.out (a:=0) (k:=65536) (by unfold c2a;omega) (by unfold c2a;omega));have hrs:Bytes (E2a V2.l mn 0 65536)/\(E2a V2.l mn 0 65536).length<=65536:=U9a HV2.out;have CR:Hid (∀w,I.is w W.heap.size q V2 S4->_):=λw (h:I.is w W.heap.size q V2 S4)=>I.read h HMI.out (a:=0) (k:=65536) (by unfold c2a;omega) (by unfold c2a;omega)
   obtain⟨zs,hzs⟩:∃z,z=E2a V2.l mn 0 65536:=⟨_,rfl⟩;obtain⟨re,hre⟩:∃z,z=s2a V2.l mn 0 65536:=⟨_,rfl⟩;rw[<-hzs] at CR6 CR FR2 hrs;rw[<-hre] at CR6 CR;have HRS:=hI hrs;obtain⟨N,hN⟩:∃N,N=zs.length:=⟨_,rfl⟩;have hN6:N<=65536:=by rw[hN];exact hrs.2
   have HN:=hI hN;clear s6 own6 l6 C5 V5 R5 X5 L5 TB5 hrs hzs hre hN;go_wp2_with fail;refine CR6.out.mono ?_;rintro e w7 ⟨u7,rfl,o7,lo7,l7⟩;obtain⟨A7,c7,rfl,y7⟩:=o7.holds HRS.out.1 (by rw[<-HN.out];omega);rw[<-HN.out] at y7 lo7⊢;have Y7:=hI y7;have O7:=hI lo7;have X7:=hI (I.below X6.out l7);have L7:=hI (L6.out.trans (l7.mono L6.out.size));have TB7:=hI (I.tbNext TB6.out (l7.mono L6.out.size));have hs7:=l7.size;clear o7 lo7 l7 y7 CR6 X6 TB6;go_wp2_with fail;refine(T3c w7 _ _ _ _ Y7.out (by omega)).mono ?_;rintro e w8 ⟨v8,rfl,o8,l8⟩;obtain⟨A8,c8,rfl,y8⟩:=o8.holds HRS.out.1 (by rw[<-HN.out];omega);have hkb:∀x,A8=some x->w7.heap.size<=x.block/\x.block<w8.heap.size:=λx hx=>by subst hx;obtain⟨h1,cs,h2⟩:=v1a.block (k:=.u8) o8 (i:=x.block) (by obtain⟨b,o,s⟩:=x;rfl);exact⟨h1,(Array.getElem?_eq_some_iff.1 h2).1⟩
   have KB:=hI hkb;rw[<-HN.out] at y8⊢;have Y8:=hI y8;have O8:=hI (O7.out.over l8);have X8:=hI (I.below X7.out l8);have L8:=hI (L7.out.trans (l8.mono L7.out.size));have TB8:=hI (I.tbNext TB7.out (l8.mono L7.out.size));have hs8:=l8.size;have C8:=hI (l3b w8 _ _ _ O8.out);have hW6:W.heap.size<=w6.heap.size:=L6.out.size;clear o8 l8 y8 hkb X7 L7 TB7 O7 Y7 L6;go_wp2_with fail;refine C8.out.mono ?_;rintro e w9 ⟨rfl,s9,_⟩;have own9:∀j,(Value.slice A7 N c7).ownBlock=some j->w6.heap.size<=j/\j<w7.heap.size:=λj hj=>by obtain⟨h1,h2,_⟩:=O8.out.own hj;exact⟨h1,h2⟩
   have l9:=s9.below (B:=W.heap.size) (λj hj=>by have:=own9 j hj;omega) L8.out.size;have X9:=hI (I.keep X8.out s9 λj hj h1=>by have:=T4.out j hj;have:=own9 j h1;omega);have Y9:=hI (Y8.out.spar s9 (Nat.le_refl _) λx hx h1=>by have:=(KB.out x hx).1;have:=own9 _ h1;omega);have L9:=hI (L8.out.trans l9);have TB9:=hI (I.tbNext TB8.out l9);have hs9:=s9.size;have CN:Hid (∀w,I.is w W.heap.size q V2 S4->I.tb W.heap.size w->_):=λw (h:I.is w W.heap.size q V2 S4) h2=>I.nodes h h2
   have hns:1<=(Y0a V2.l).length/\(Y0a V2.l).length<=256:=by have:=List.length_pos_of_mem HV2.out.mem1;have:=HV2.out.many;unfold Y0a;rw[List.length_map];omega
   obtain⟨ns,hns2⟩:∃z,z=Y0a V2.l:=⟨_,rfl⟩;rw[<-hns2] at CN hns;have HNS:=hI hns;clear s9 own9 l9 C8 X8 Y8 L8 TB8 O8 hns hns2 HV2;go_wp2_with fail;refine(CN.out _ X9.out TB9.out).mono ?_;rintro e w10 ⟨u10,rfl,o10,l10⟩;obtain⟨A3,n3,c3,rfl,hn3,hnc,hn9,_,h5⟩:=o10.open;have hn256:1<=n3/\n3<=256:=by have:=HNS.out;omega
   obtain⟨gN,rfl,hgN,hgl,_⟩:=h5 (by omega);have O10:=hI o10;have HN3:=hI hn3;have X10:=hI (I.below X9.out l10);have Y10:=hI ((Y9.out.mono hs9).over l10);have L10:=hI (L9.out.trans (l10.mono L9.out.size));have TB10:=hI (I.tbNext TB9.out (l10.mono L9.out.size));have hs10:=l10.size;have hW9:W.heap.size<=w9.heap.size:=L9.out.size;clear o10 l10 h5 hn3 X9 Y9 L9 TB9;go_wp2_with fail;go_loopw [18] (λI' wr=>∃(i:Nat) (ys:List Int),i<=n3/\I'=.int .i64 (i:Nat)/\Hid (ys.length=n3)/\Hid (t1a (Value.int .i64) 3 wr w9.heap.size (.slice (some ⟨gN,0,none⟩) n3 c3) ys)/\Hid (S1a gN w10 wr)) (λI' _=>n3-(intOf I').toNat)
   case atStart=>exact⟨0,ns,Nat.zero_le _,rfl,HN3,O10,S1a.refl _ _⟩
   case round=>
    obtain⟨i,ys,hi,rfl,HY,OR,OO⟩:=hrel;by_cases hlt:i<n3
    ·have hc:=OR.out.cell (i:=i) (List.getElem?_eq_getElem (by have:=HY.out;omega));have hz:=OR.out.frozen i;obtain⟨old,hold⟩:∃old,old=ys[i]'(by have:=HY.out;omega):=⟨_,rfl⟩;rw[<-hold] at hc;have hset:=OR.out.set i (0:Int);have OR2:=hI hset;have OO2:=hI (OO.out.setCell i (.int .i64 0));have HY2:Hid ((ys.set i 0).length=n3):=by show _=_;rw[List.length_set];exact HY.out
     clear hold hset OR OO;go_wp2_with fail;go_roundw
     case rel=>exact⟨i+1,_,hlt,by go_num,HY2,OR2,OO2⟩
     case measure=>simp[intOf];omega
    ·have hsz:=OO.out.size;have sp:=g0a.of_only OO.out;have l11:=sp.below (B:=W.heap.size) (λj hj=>by omega) L10.out.size;have X11:=hI (I.keep X10.out sp λj hj h1=>by have:=T4.out j hj;omega);have Y11:=hI (Y10.out.spar sp (Nat.le_refl _) λx hx h1=>by have:=(KB.out x hx).2;omega);have L11:=hI (L10.out.trans l11);have TB11:=hI (I.tbNext TB10.out l11);clear OR sp l11 X10 Y10 L10 TB10 O10;go_wp2_with fail;refine(CR.out _ X11.out).mono ?_;rintro e w12 ⟨u12,rfl,o12,l12⟩;obtain⟨A12,c12,rfl,y12⟩:=o12.holds HRS.out.1 (by rw[<-HN.out];omega);rw[<-HN.out] at y12⊢;have Y12:=hI y12;have K12:=hI ((Y11.out.mono (Nat.le_of_eq hsz.symm)).over l12);have X12:=hI (I.below X11.out l12);have L12:=hI (L11.out.trans (l12.mono L11.out.size));have TB12:=hI (I.tbNext TB11.out (l12.mono L11.out.size));have C13:Hid (Calls Tryz.prog 27 #[.slice A8 N c8,.slice A12 N c12] w12 λe w'=>e=.returned (.bool true)/\∃k,w12.drewN k=w'):=by have:=i9a w12 _ _ _ _ _ _ _ _ _ _ K12.out Y12.out;rw[decide_eq_true rfl] at this;exact this
     clear o12 l12 y12 X11 Y11 L11 TB11 CR;go_wp2_with fail;refine C13.out.mono ?_;rintro e w13 ⟨rfl,j13,hw13⟩;have l13:Below w12.heap.size w12 w13:=by rw[<-hw13];exact E0a _ _
     have X13:=hI (I.below X12.out l13);have Y13:=hI (Y12.out.over l13);have L13:=hI (L12.out.trans (l13.mono L12.out.size));have TB13:=hI (I.tbNext TB12.out (l13.mono L12.out.size));have HB13:=hI (HX.out.below L13.out |>.mono L13.out.size);have HNN:=hI HNS.out;clear hw13 l13 C13 K12 X12 Y12 L12 TB12;by_cases hE2:E2=0
     ·have hzb:zs=bs:=FR2.out hE2;subst hE2;have C14:Hid (Calls Tryz.prog 27 #[.slice A12 N c12,.slice Ab nb cb] w13 λe w'=>e=.returned (.bool true)/\∃k,w13.drewN k=w'):=by have:=i9a w13 _ _ _ _ _ _ _ _ _ _ Y13.out HB13.out;rw[decide_eq_true hzb] at this;exact this
      clear hzb;go_wp2_with fail;refine C14.out.mono ?_;rintro e w14 ⟨rfl,j14,hw14⟩;have l14:Below w13.heap.size w13 w14:=by rw[<-hw14];exact E0a _ _
      have X14:=hI (I.below X13.out l14);have L14:=hI (L13.out.trans (l14.mono L13.out.size));have TB14:=hI (I.tbNext TB13.out (l14.mono L13.out.size));clear hw14 l14 C14 Y13 HB13 X13 L13 TB13;go_wp2_with fail;refine(CN.out _ X14.out TB14.out).mono ?_;rintro e w15 ⟨u15,rfl,o15,l15⟩;obtain⟨A5,n5,c5,rfl,hn5,_⟩:=o15.open;have hnn:n5=n3:=hn5.symm.trans HN3.out;subst hnn;have L15:=hI (L14.out.trans (l15.mono L14.out.size));clear o15 l15 hn5 X14 TB14 L14;go_wp2_with fail;refine(CW.out _ L15.out).mono ?_;rintro e wz ⟨rfl,lz⟩;go_wp2_with fail;go_ret;exact⟨rfl,L15.out.trans (lz.mono L15.out.size)⟩
     ·have hE2':(E2 != 0)=true:=by simpa using hE2
      have X14:=X13;have L14:=L13;have TB14:=TB13;clear Y13 HB13 X13 L13 TB13;go_wp2_with fail;refine(CN.out _ X14.out TB14.out).mono ?_;rintro e w15 ⟨u15,rfl,o15,l15⟩;obtain⟨A5,n5,c5,rfl,hn5,_⟩:=o15.open;have hnn:n5=n3:=hn5.symm.trans HN3.out;subst hnn;have L15:=hI (L14.out.trans (l15.mono L14.out.size));clear o15 l15 hn5 X14 TB14 L14;go_wp2_with fail;refine(CW.out _ L15.out).mono ?_;rintro e wz ⟨rfl,lz⟩;go_wp2_with fail;go_ret;exact⟨rfl,L15.out.trans (lz.mono L15.out.size)⟩
  ·have hz':(me != 0)=true:=by simpa using hz
   go_wp2_with fail;refine(CW.out _ L2.out).mono ?_;rintro e wz ⟨rfl,lz⟩;go_wp2_with fail;go_ret;exact⟨rfl,L2.out.trans (lz.mono L2.out.size)⟩
 ·obtain⟨rfl,l1⟩:=h1 hE;have L1:=hI l1;have h0:NoV w1 (.pointer none):=.inl rfl;have CM:=hI (e4b w1 _ h0 ⟨#[102,114,101,115,104]⟩ 2);clear h1 h2 l1 C1 h0 HX hxb;go_wp2_with fail;refine CM.out.mono ?_;rintro e w2 ⟨rfl,l2⟩;have L2:=hI (L1.out.trans (l2.mono L1.out.size));clear l2 CM;go_wp2_with fail;refine(CW.out _ L2.out).mono ?_;rintro e wz ⟨rfl,lz⟩;go_wp2_with fail;go_ret;exact⟨rfl,L2.out.trans (lz.mono L2.out.size)⟩
theorem walk_VolFresh(W:World)(hT:k5a W)(a0:Int)(w0:-9223372036854775808<=a0/\a0<=9223372036854775807)(A1:Option Addr)(n1 c1:Nat)(z1:List M2a)(h1:e4a W W.heap.size A1 n1 c1 z1)(r1:n1<=1048576)(A2:Option Addr)(n2 c2:Nat)(z2:List Int)(l2:n2<=c2)(r2:c2<=1048576)(h2:Holds W W.heap.size A2 c2 c2 z2) :
  Calls Tryz.prog 9 #[.int .i64 a0,.slice A1 n1 c1,.slice A2 n2 c2] W λe w'=>e=.returned (.bool true)/\Below W.heap.size W w':=
 B5b j7a W (F2a.of hT) a0 w0 A1 n1 c1 z1 h1 r1 W6b A2 n2 c2 (z2.take n2) (h2.head l2) r2
end Go.Proofs.YtdgpbhdihhchgaaGreatDoor
