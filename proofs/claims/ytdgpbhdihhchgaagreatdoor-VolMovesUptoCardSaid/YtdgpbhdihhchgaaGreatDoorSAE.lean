import Derived.Test.YtdgpbhdihhchgaaGreatDoorSAD
import Derived.Test.YtdgpbhdihhchgaaGreatDoorS0
set_option linter.all false
set_option maxHeartbeats 8000000
set_option maxRecDepth 100000
namespace Go.Proofs.YtdgpbhdihhchgaaGreatDoor
set_option maxRecDepth 100000
open Go.RowKit Go.Shelf
attribute [local go_sem] Oper.semAt_some
abbrev NdM(M:List VN):={ p:Nat×VN // p.2∈M }
def h3c{M:List VN}(x:NdM M):Array Value:=#[.int .i64 (x.1.1:Nat),.int .i64 x.1.2.1.n]
structure BkI (K:Nat->Prop) (pb:Nat) (A:Option Addr) (k c:Nat) (ns:List Int) (W:World):Prop where
 kb:¬K pb
 cb:W.cell? ⟨pb,0,none⟩=some (.slice A k c)
 len:ns.length=k
 cel:∀i x,ns[i]? = some x->∃g o,A=some ⟨g,o,none⟩/\¬K g/\W.cell? ⟨g,o+i,none⟩=some (.int .i64 x)
section
variable {K:Nat->Prop} {pb:Nat} {A:Option Addr} {k c:Nat} {ns:List Int} {W W':World}
theorem BkI.stay(h:BkI K pb A k c ns W)(a:g0a K W W'):BkI K pb A k c ns W':=
 ⟨h.kb,(Y1a a h.kb (d0a h.cb)).trans h.cb,h.len,λi x hx=>by obtain⟨g,o,e,hg,hc⟩:=h.cel i x hx;exact⟨g,o,e,hg,(Y1a a hg (d0a hc)).trans hc⟩⟩
end
theorem p8b(n:Nat)(M:List VN)(K:Nat->Prop)(pb:Nat)(A:Option Addr)(k c:Nat)(ys:List VN)(hys:∀y∈ys,y∈M)(hk:k<=4096)(l:Nat)(J Jx:List (NdM M)->World->Prop)(W:World)(it:BkI K pb A k c (ys.map λy=>y.1.n) W)
(hY:∀pre x W1,J pre W1->pre.length<4096->YieldAt Fence.wide n Tryz.prog l (h3c x) W1 λe W'=>(e=.returned (.bool true)/\J (pre++[x]) W'/\g0a K W1 W')∨(e=.returned (.bool false)/\Jx (pre++[x]) W'))
(h0:J [] W) :
  CallsIn Fence.wide (n+1) Tryz.prog 98 #[.func (.yield l) #[] #[],.pointer (some ⟨pb,0,none⟩)] W λe W'=>(∃v,e=.returned v)/\
   ((∃xs:List (NdM M),(xs.map λx=>x.1.2)=ys.reverse/\J xs W')∨(∃pre:List (NdM M),Jx pre W')):=by
 have HY:=hI hY;have J0:=hI h0;have IT:=hI it;have HYS:=hI hys;have cb:=it.cb;have HLEN:Hid (ys.length=k):=by have:=it.len;rw[List.length_map] at this;exact this
 have hkc:IntKind.i64.wrap ((k:Int)-1)=(k:Int)-1:=by rw[IntKind.wrap_i64];omega
 clear hY h0 it hys;refine callsIn_of_wp Tryz.func98 rfl trivial ?_ rfl;simp only[Tryz.ntmps98,List.size_toArray,List.length_cons,List.length_nil,Nat.reduceAdd,Nat.reduceSub,Array.replicate_succ,Array.replicate_zero,List.push_toArray,List.append_toArray,List.nil_append,List.cons_append]
 gi_wp2_with fail
 gi_loopw [3] (λI wr=>∃(z:Int) (j:Nat) (pre:List (NdM M)),I=.int .i64 z/\z+1+j=k/\j<=k/\Hid ((pre.map λx=>x.1.2)=ys.reverse.take j)/\Hid (J pre wr)/\Hid (BkI K pb A k c (ys.map λy=>y.1.n) wr)) (λI _=>(intOf I+1).toNat)
 case atStart=>exact⟨(k:Int)-1,0,[],by first | rfl | exact congrArg _ hkc,by omega,Nat.zero_le _,rfl,J0.out,IT.out⟩
 case round=>
  obtain⟨z,j,pre,rfl,hz,hjk,TP,JR,IR⟩:=hrel;by_cases hlt:0<=z
  ·obtain⟨i,rfl⟩:∃i:Nat,z=(i:Int):=⟨z.toNat,by omega⟩;have hij:i+1+j=k:=by omega
   have hil:i<ys.length:=by have:=HLEN.out;omega
   have hx:(ys.map λy=>y.1.n)[i]? = some ys[i].1.n:=by rw[List.getElem?_map,List.getElem?_eq_getElem hil];rfl
   obtain⟨g,o,rfl,_,cx⟩:=IR.out.cel i _ hx;have cb':=IR.out.cb;have hpl:pre.length<=j:=by have:=congrArg List.length TP.out;rw[List.length_map,List.length_take] at this;omega
   obtain⟨fn,tmps,assign,body,hy,hR⟩:=HY.out pre ⟨(i,ys[i]),HYS.out _ (List.getElem_mem hil)⟩ wr JR.out (by omega);unfold h3c at hy;dsimp only at hy;have HR:=hI hR;have hpx:Hid (((pre++[(⟨(i,ys[i]),HYS.out _ (List.getElem_mem hil)⟩:NdM M)]).map λx=>x.1.2)=ys.reverse.take (j+1)):=by
    show _=_
    have hjr:j<ys.reverse.length:=by rw[List.length_reverse];have:=HLEN.out;omega
    rw[List.map_append,TP.out,List.take_succ_eq_append_getElem hjr,List.getElem_reverse];have e:ys.length-1-j=i:=by have:=HLEN.out;omega
    simp only[e];rfl
   obtain⟨num,hnum⟩:∃u,u=ys[i].1.n:=⟨_,rfl⟩;rw[<-hnum] at cx hy;clear hR hx hnum hlt
   gi_wp2_with fail
   refine HR.out.mono ?_;rintro e W3 (⟨rfl,hJ3,hk3⟩ | ⟨rfl,hJx3⟩)
   ·have J3:=hI hJ3;have IT3:=hI (IR.out.stay hk3);clear hJ3 hk3
    gi_wp2_with fail
    go_roundw
    case rel=>exact⟨(i:Int)-1,j+1,_,by first | rfl | go_num,by omega,by omega,hpx.out,J3.out,IT3.out⟩
    case measure=>simp only[intOf];omega
   ·have J3:=hI hJx3;clear hJx3
    gi_wp2_with fail
    refine bodyPost_ret (results_none rfl _ _ _) rfl ?_;exact⟨⟨_,rfl⟩,.inr ⟨_,J3.out⟩⟩
  ·have hj:j=k:=by omega
   subst hj
   gi_wp2_with fail
   go_end0;exact⟨⟨_,rfl⟩,.inl ⟨pre,by rw[TP.out];exact List.take_of_length_le (by rw[List.length_reverse];have:=HLEN.out;omega),JR.out⟩⟩
theorem q8b(n:Nat)(M:List VN)(K:Nat->Prop)(pb:Nat)(A:Option Addr)(k c:Nat)(ys:List VN)(hys:∀y∈ys,y∈M)(hk:k<=4096)(w0:World)(it:BkI K pb A k c (ys.map λy=>y.1.n) w0) :
  SeqStopsK Fence.wide (n+1) Tryz.prog 98 #[.pointer (some ⟨pb,0,none⟩)] (h3c (M:=M)) (λW W'=>g0a K W W') (λxs=>(xs.map λx=>x.1.2)=ys.reverse) (λpre=>True) 4096 w0:=λl J Jx W hW hJ _ hY h0=>
 (p8b n M K pb A k c ys hys hk l J Jx W (it.stay (g0a.of_over K hW)) hY h0).mono λe W' h=>⟨h.1,h.2.imp id fun⟨pre,hp⟩=>⟨pre,trivial,hp⟩⟩
theorem R4b(w:World)(u:Value)(hu:u.cells=#[u]):Calls Tryz.prog 49 #[u] w λe w'=>∃pb,e=.returned (.func (.func 98) #[] #[.pointer (some ⟨pb,0,none⟩)])/\w.heap.size<=pb/\Blk w' pb 44 [u]/\Below w.heap.size w w':=by
 have hmf:∀(fn:Fn) (first cap:Array Value) (w:World),(Instr.makeFunc fn first cap).run Tryz.prog w=.ok (.func fn first cap) w:=λ_ _ _ _=>rfl
 go_enter Tryz.func49,Tryz.ntmps49;go_wp2_with(first
  | ((with_reducible refine sN 1 ?_);refine w0a rfl _ (.tmp 0) rfl u rfl hu ?_;intro pb w1 g1 g2 B1 L1)
  | fail)
 go_ret;exact⟨pb,rfl,g1,B1.out,L1.out⟩
structure PbC (W:World) (p8 p2 q m g:Nat) (v:Value) (num:Int) (s:o0a):Prop where
 c8:W.cell? ⟨p8,0,none⟩=some v
 c2:W.cell? ⟨p2,0,none⟩=some (.pointer (some ⟨q,0,none⟩))
 c1:W.cell? ⟨q,1,none⟩=some (.map (some m))
 lk:(Instr.lookup 69 (.map (some m)) (.int .i64 num) false).run Tryz.prog W=.ok (.pointer (some ⟨g,0,none⟩)) W
 n2:W.cell? ⟨g,2,none⟩=some (V0a s)
structure PtI (w w7:World) (B p8:Nat) (v:Value) (xs:List o0a) (W:World):Prop where
 a:g0a (λj=>j=p8∨B<=j) w7 W
 b8:Blk W p8 78 [v]
 row:t1a V0a 9 W B v xs
 hB:B<=W.heap.size
theorem PtI.row'{w w7 W W':World}{B p8 B':Nat}{v:Value}{xs:List o0a}{row:Option Nat}(h:PtI w w7 B p8 v xs W)(hBB:B<=B')(hg:W.grownBy W' row)(hr:∀r,row=some r->B'<=r/\∃o:Obj,W.heap[r]? = some o/\o.isCells=false):PtI w w7 B p8 v xs W':=by
 have s:=g0a.of_row hg hr;refine⟨h.a.trans s λj _ hj=>.inr (Nat.le_trans hBB hj.1),h.b8.spare s λhs=>g7a h.b8 hs.2,h.row.keep λi cs hi hcs=>s.rest i (Array.getElem?_eq_some_iff.1 hcs).1 λhs=>?_,Nat.le_trans h.hB s.size⟩;obtain⟨_,o,ho,hf⟩:=hs;rw[hcs] at ho;injection ho with ho
 subst ho;cases hf
section
variable {DI:DrI} {EI:FiI} {w w':World} {base q m:Nat} {D:DataW Unit} {V:X0a} {M:List VN} {y z:VN} {x:k0a} {n:Int} {s:o0a}
theorem PV.lineM(h:PV DI EI w base q m D V M)(hy:y∈M):∃ys:List VN,(∀z∈ys,z∈M)/\(ys.map λz=>z.1.n)=b6b V.l y.1.n/\(ys.reverse.map λz=>z.1.name)=D1a V.l y.1.n/\ys.length<=8:=by
 have key:∀{k:Int} {ps:List o0a},Way V.l k ps->∀f,ps.length<f->∃ys:List VN,(∀z∈ys,z∈M)/\(ys.map λz=>z.1.n)=vLn V.l f k/\(ys.reverse.map λz=>z.1.name)=ps:=by
  intro k ps hw
  induction hw with
  | root=>
   intro f hf;cases f with
   | zero=>omega
   | succ f=>exact⟨[],(λz hz=>by cases hz),rfl,rfl⟩
  | @step x ps a b c ih=>
   intro f hf;cases f with
   | zero=>omega
   | succ f=>
    obtain⟨ys,h1,h2,h3⟩:=ih f (by simp at hf;omega);obtain⟨z,hz,ez,_⟩:=h.at a;refine⟨z::ys,λu hu=>?_,?_,?_⟩
    ·rcases List.mem_cons.1 hu with rfl | hu
     ·exact hz
     ·exact h1 u hu
    ·rw[List.map_cons,h2,ez,E0b a b]
    ·rw[List.reverse_cons,List.map_append,h3,List.map_cons,List.map_nil,ez]
 obtain⟨ps,hw,h8⟩:=h.way hy;obtain⟨ys,h1,h2,h3⟩:=key hw 10 (by omega);refine⟨ys,h1,h2,by rw[hw.names h8];exact h3,?_⟩;have:=congrArg List.length h3;rw[List.length_map,List.length_reverse] at this;omega
theorem i3c(h:PV DI EI w base q m D V M)(hn:c2a n)(hno:vAt V.l n=none):Calls Tryz.prog 17 #[R0a q,.int .i64 n] w λe w'=>e=.returned (.tuple #[V0a (i1a V.l n),.int .i64 (I2a V.l n)])/\Below w.heap.size w w':=by
 have HE:Hid (I2a V.l n=7):=by show I2a V.l n=7;unfold I2a;rw[hno];rfl
 have HP:Hid (i1a V.l n=[]):=by show i1a V.l n=[];unfold i1a;rw[if_neg (by rw[HE.out];decide)]
 rw[HE.out,HP.out];have C:Hid (∀w',Below w.heap.size w w'->Calls Tryz.prog 46 #[R0a q,.int .i64 n] w' λe w2=>e=.returned (.tuple #[.pointer none,.int .i64 7])/\w'=w2):=λw' hb=>Y8a (h.p.below hb) hn (h.no hno)
 clear h hn hno HE HP;unfold R0a at C⊢;go_enter Tryz.func17,Tryz.ntmps17;go_wp2_with(first
  | ((with_reducible refine sN 2 ?_);refine w0a rfl _ (.tmp 0) rfl (.pointer (some ⟨q,0,none⟩)) rfl rfl ?_;intro p2 w1 g1 g2 B1 L1;have c2:=B1.out.cell 0)
  | fail)
 refine(C.out w1 L1.out).mono ?_;rintro e w2 ⟨rfl,rfl⟩;go_wp2_with fail;go_ret2;exact⟨rfl,L1.out⟩
theorem Q0c(HT:y9b DI)(h:PV DI EI w base q m D V M)(hy:y∈M)(hn:y.1.n=n):Calls Tryz.prog 17 #[R0a q,.int .i64 n] w λe w'=>e=.returned (.tuple #[V0a (i1a V.l n),.int .i64 (I2a V.l n)])/\Below w.heap.size w w':=by
 obtain⟨ys,hys,hyn,hnames,hy8⟩:=h.lineM hy;rw[hn] at hyn hnames;have hat:vAt V.l n=some y.1:=by rw[<-hn];exact u4c h hy
 have HE:Hid (I2a V.l n=s1a (D1a V.l n)):=by show I2a V.l n=_;unfold I2a;rw[hat];rfl
 have HP:Hid (i1a V.l n=h4a (D1a V.l n)):=by
  obtain⟨ps,hw,h8⟩:=h.way hy;rw[hn] at hw;have he:s1a ps=0:=w1a.2 ⟨Way.good h.ok hw,h8⟩;show i1a V.l n=_
  unfold i1a h4a;rw[HE.out,hw.names h8,he]
 rw[HE.out,HP.out];have hsm:∀p∈D1a V.l n,p.length<=140737488355328:=λp hp=>by rw[<-hnames] at hp;obtain⟨z,hz,rfl⟩:=List.mem_map.1 hp;have:=h.small (hys z (List.mem_reverse.1 hz));omega
 have CJ:Hid (∀w' A k c,Below w.heap.size w w'->U0a V0a w' w'.heap.size A k c (D1a V.l n)->k<=9223372036854775807->Calls Tryz.prog 51 #[.slice A k c] w' (K3a w' (D1a V.l n))):=λw' A k c hb hh hk=>p7b w' A k c _ hh hsm ((h.below hb).tabs HT) hk
 have CND:Hid (∀w',Below w.heap.size w w'->Calls Tryz.prog 46 #[R0a q,.int .i64 n] w' λe w2=>e=.returned (.tuple #[R0a y.2.g,.int .i64 0])/\w'=w2):=λw' hb=>g5a (h.p.below hb) hy hn
 have CLN:Hid (∀w',Below w.heap.size w w'->Calls Tryz.prog 50 #[R0a q,.int .i64 n] w' λe w2=>∃v,e=.returned v/\t1a (Value.int .i64) 3 w2 w'.heap.size v (ys.map λz=>z.1.n)/\Below w'.heap.size w' w2):=λw' hb=>by rw[hyn];exact m1b (h.below hb) hy hn
 have CELL:Hid (∀z∈M,∀w',Below w.heap.size w w'->w'.cell? ⟨q,1,none⟩=some (.map (some m))/\(Instr.lookup 69 (.map (some m)) (.int .i64 z.1.n) false).run Tryz.prog w'=.ok (.pointer (some ⟨z.2.g,0,none⟩)) w'/\w'.cell? ⟨z.2.g,2,none⟩=some (V0a z.1.name)):=λz hz w' hb=>⟨(h.p.below hb).c1,(h.p.below hb).look1 hz,(h.p.below hb).n2 hz⟩
 obtain⟨gy,hgy⟩:∃g,g=y.2.g:=⟨_,rfl⟩;rw[<-hgy] at CND;obtain⟨NS,hNS⟩:∃L,L=D1a V.l n:=⟨_,rfl⟩;rw[<-hNS] at CJ hnames⊢;have HNAMES:=hI hnames;have HYS:=hI hys;clear h hy hn hyn hat HE HP hsm hgy hNS hnames hys;unfold R0a at CND CLN⊢;refine(callsIn_wide (n:=9)).1 ?_;refine callsIn_of_wp_marks Tryz.func17 rfl trivial ?_ rfl;simp only[Tryz.ntmps17,List.size_toArray,List.length_cons,List.length_nil,Nat.reduceAdd,Nat.reduceSub,Array.replicate_succ,Array.replicate_zero,List.push_toArray,List.append_toArray,List.nil_append,List.cons_append];refine wpIn_wide.2 ?_;go_wp2_with(first
  | ((with_reducible refine sN 2 ?_);refine w0a rfl _ (.tmp 0) rfl (.pointer (some ⟨q,0,none⟩)) rfl rfl ?_;intro p2 w1 g1 g2 B1 L1;have c2:=B1.out.cell 0)
  | fail)
 refine(CND.out w1 L1.out).mono ?_;rintro e w1' ⟨rfl,rfl⟩;go_wp2_with(first
  | ((with_reducible refine sN 8 ?_);refine O0a rfl 78 rfl (.slice none 0 0) (by kernel_rfl) rfl ?_;intro p8 w3 g3 g4 B3 L3;have c2:=(B1.out.over L3.out).cell 0;have L13:=hI (step L1.out L3.out))
  | fail)
 refine(CLN.out w3 L13.out).mono ?_;rintro e w4 ⟨vl,rfl,ol,l4⟩;obtain⟨A,k,c,rfl,hl⟩:=ol.holds;have L4:=hI (step L13.out l4);have HL:=hI hl;have B24:=hI ((B1.out.over L3.out).over l4);have B84:=hI (B3.out.over l4);have hk8:k<=8:=by have:=hl.len;rw[List.length_map] at this;omega
 have p8lt:p8<w4.heap.size:=B84.out.lt;have p2lt:p2<w1.heap.size:=B1.out.lt;have RB:Hid (0<k->∀x,A=some x->w3.heap.size<=x.block):=λh0 x hx=>by
  rcases ol.2 with⟨e,_⟩ | ⟨g,cap,cur,e,hg,_⟩
  ·injection e with e1 e2 e3
   have hz:(ys.map λz=>z.1.n).length=k:=hl.len;rw[e1] at hx;cases hx
  ·injection e with e1 e2 e3
   rw[e1] at hx;injection hx with hx
   subst hx;exact hg
 have hs34:=l4.size;clear l4 ol hl;go_wp2_with fail;refine(R4b w4 (.slice A k c) rfl).mono ?_;rintro e w7 ⟨pb,rfl,gpb,Bb,l7⟩;have L7:=hI (step L4.out l7);have BB:=hI Bb;have B27:=hI (B24.out.over l7);have B87:=hI (B84.out.over l7);have HL7:=hI ((HL.out).over l7);have hpb:pb<w7.heap.size:=Bb.lt;have hs7:=l7.size;have hs4:w3.heap.size<=w4.heap.size:=hs34;clear l7 Bb;go_wp2_with fail;obtain⟨B,hB⟩:∃B,B=w7.heap.size:=⟨_,rfl⟩;have s1:=L1.out.size;have s3:=L3.out.size;have hws:w.heap.size<=w3.heap.size:=L13.out.size;have w4lt:w4.heap.size<=B:=by rw[hB];exact hs7
 have hp8w:w.heap.size<=p8:=by omega
 have hp2B:p2<B:=by omega
 have hp28:p2≠p8:=by omega
 have hwB:w.heap.size<=B:=by omega
 have p8B:p8<B:=by omega
 have hpb8:pb≠p8:=by omega
 have itb:BkI (λj=>j=p8∨B<=j) pb A k c (ys.map λz=>z.1.n) w7:=⟨λe=>e.elim hpb8 λe=>by omega,BB.out.cell 0,HL7.out.len,λi x hx=>by
  have hi:i<(ys.map λz=>z.1.n).length:=(List.getElem?_eq_some_iff.1 hx).1;have hk0:0<k:=by have:=HL7.out.len;omega
  obtain⟨b,off,e,hb,hc⟩:=HL7.out.cells hk0;have h3:=RB.out hk0 _ e;refine⟨b,off,e,λq=>q.elim (λq=>?_) λq=>by omega,hc i x hx⟩;have h3:w3.heap.size<=b:=h3;omega⟩
 have pt7:PtI w w7 B p8 (.slice none 0 0) [] w7:=⟨g0a.refl _ _,B87.out,t1a.nil _ _ _ _,by omega⟩;have CBD0:Hid (∀(z:VN),z∈M->∀W v,g0a (λj=>j=p8∨B<=j) w7 W->Blk W p8 78 [v]->PbC W p8 p2 q m z.2.g v z.1.n z.1.name):=λz hz W v a b=>by have hbw:Below w.heap.size w W:=L7.out.trans (a.below (λj hj=>by omega) (by omega));obtain⟨j1,j2,j3⟩:=CELL.out z hz W hbw;exact⟨b.cell 0,(Y1a a (λe=>by have e:p2=p8∨B<=p2:=e;omega) (d0a (B27.out.cell 0))).trans (B27.out.cell 0),j1,j2,j3⟩
 have BW:Hid (∀W,g0a (λj=>j=p8∨B<=j) w7 W->Below w.heap.size w W):=λW a=>L7.out.trans (a.below (λj hj=>by omega) (by omega))
 refine(wpIn_wide (n:=9)).1 ?_;refine wpIn_rangeFunc_ownF (F:=Fence.wide) (n:=9) rfl (by decide) (gf:=98) (lb:=#[.pointer (some ⟨pb,0,none⟩)]) rfl trivial (enters_of Tryz.func98 (by kernel_rfl) rfl)
  (q8b 7 M (λj=>j=p8∨B<=j) pb A k c ys HYS.out (by omega) w7 itb) (λh k=>h.trans k λj _ hs=>hs) (λW l o o' hl _ _ _=>y5a W l o' (.inr (by omega))) (Below.refl _ _) (λ_=>rfl)
  (λpre W=>∃v,PtI w w7 B p8 v (pre.map λx=>x.1.2.1.name) W)
  (λc pre W=>False)
  (λpre W W' row hs hg hr=>by obtain⟨v,h⟩:=hs;exact⟨v,h.row' (by omega) hg hr⟩)
  (λc pre W W' row hs hg hr=>hs.elim)
  ⟨_,pt7⟩
  (λx=>{ tmps:=#[.pointer (some ⟨q,0,none⟩),.int .i64 n,.pointer (some ⟨p2,0,none⟩),undef,.string ⟨#[]⟩,.int .i64 0,.pointer (some ⟨gy,0,none⟩),.int .i64 0,.pointer (some ⟨p8,0,none⟩),undef,.int .i64 x.1.2.1.n,.tuple #[.pointer (some ⟨gy,0,none⟩),.int .i64 0],.pointer (some ⟨q,0,none⟩),.int .i64 n,.tuple #[.pointer (some ⟨gy,0,none⟩),.int .i64 0],.pointer (some ⟨gy,0,none⟩),.int .i64 0,.int .i64 0,.bool false,undef,.pointer (some ⟨q,0,none⟩),.int .i64 n,.slice A k c,.func (.func 98) #[] #[.pointer (some ⟨pb,0,none⟩)],.int .i64 (x.1.1:Nat),.int .i64 x.1.2.1.n,undef,undef,undef,undef,undef,undef,undef,undef,undef,undef,undef,undef,undef,undef,undef,undef,undef],defers:=[] }) ?assign ?body ?done ?stop
 case assign=>
  intro l x W K hK;unfold h3c
  gi_wp2
  exact hK
 case body=>
  rintro l pre x W ⟨v,h⟩ hlen;obtain⟨A2,k2,c2',rfl,hh⟩:=h.row.holds;obtain⟨XS,hXS⟩:∃XS,XS=pre.map λx=>x.1.2.1.name:=⟨_,rfl⟩
  have HXS:=hI hXS;have hXL:XS.length<=4096:=by rw[hXS,List.length_map];omega
  rw[<-hXS] at h;have CB0:=CBD0.out x.1.2 x.2;obtain⟨num,hnum⟩:∃u,u=x.1.2.1.n:=⟨_,rfl⟩;obtain⟨g,hg⟩:∃u,u=x.1.2.2.g:=⟨_,rfl⟩;obtain⟨s,hs⟩:∃u,u=x.1.2.1.name:=⟨_,rfl⟩;obtain⟨ixx,hix⟩:∃u,u=x.1.1:=⟨_,rfl⟩;rw[<-hnum,<-hg,<-hs] at CB0;have HSN:=hI hs;have HROW:=hI h.row;have HA:=hI h.a;have B8:=hI h.b8;have hBW:=h.hB;have CBD:Hid (∀W',g0a (λj=>j=p8∨B<=j) W W'->Blk W' p8 78 [.slice A2 k2 c2']->PbC W' p8 p2 q m g (.slice A2 k2 c2') num s):=λW' a b=>CB0 W' _ (HA.out.trans a λ_ _ h=>h) b
  have CB:Hid (PbC W.drew p8 p2 q m g (.slice A2 k2 c2') num s):=CBD.out W.drew (g0a.of_over _ (Below.refl _ _).drew) (B8.out.over (Below.refl _ _).drew);rw[<-hnum,<-hix];clear h hh hXS hnum hg hs hix CB0 pt7 itb
  gi_wp2_with fail
  refine x5a 13 (λw'=>PbC w' p8 p2 q m g (.slice A2 k2 c2') num s) (by kernel_rfl) (by kernel_rfl) (fun⟨_,_,h0⟩=>h0) ?_;change K2a _ _ _ _ _ _ _ _ _ W.drew
  have Sr0:Hid (PbC W.drew p8 p2 q m g (.slice A2 k2 c2') num s):=CB;have br0:Hid (True):=trivial;refine c0a (i:=0) (v:=_) rfl (by kernel_rfl) (by kernel_rfl) (by kernel_rfl) (λ_ _ _ h=>h) rfl (by kernel_rfl) (by kernel_rfl) (by decide) (b0a (by kernel_rfl) _ (.tmp 8) rfl p8 (0) (by kernel_rfl) (.slice A2 k2 c2') (λ_ h=>h.c8) _ Tryz.underlying78 rfl) Sr0.out ?_;refine c0a (i:=1) (v:=_) rfl (by kernel_rfl) (by kernel_rfl) (by kernel_rfl) (λ_ _ _ h=>h) rfl (by kernel_rfl) (by kernel_rfl) (by decide) (b0a (by kernel_rfl) _ (.tmp 2) rfl p2 (0) (by kernel_rfl) (.pointer (some ⟨q,0,none⟩)) (λ_ h=>h.c2) _ Tryz.underlying23 rfl) Sr0.out ?_;refine c0a (i:=2) (v:=_) rfl (by kernel_rfl) (by kernel_rfl) (by kernel_rfl) (λ_ _ _ h=>h) rfl (by kernel_rfl) (by kernel_rfl) (by decide) (p0a (by kernel_rfl) (.tmp 27) rfl ⟨q,0,none⟩ (by kernel_rfl)) Sr0.out ?_;refine c0a (i:=3) (v:=_) rfl (by kernel_rfl) (by kernel_rfl) (by kernel_rfl) (λ_ _ _ h=>h) rfl (by kernel_rfl) (by kernel_rfl) (by decide) (e0a (by kernel_rfl) _ (.tmp 28) 1 rfl (.pointer (some ⟨q,0,none⟩)) (.pointer (some ⟨q,1,none⟩)) (by kernel_rfl) (λw=>by go_simp)) Sr0.out ?_;refine c0a (i:=4) (v:=_) rfl (by kernel_rfl) (by kernel_rfl) (by kernel_rfl) (λ_ _ _ h=>h) rfl (by kernel_rfl) (by kernel_rfl) (by decide) (b0a (by kernel_rfl) _ (.tmp 29) rfl q (1) (by kernel_rfl) (.map (some m)) (λ_ h=>h.c1) _ Tryz.underlying69 rfl) Sr0.out ?_;refine c0a (i:=5) (v:=_) rfl (by kernel_rfl) (by kernel_rfl) (by kernel_rfl) (λ_ _ _ h=>h) rfl (by kernel_rfl) (by kernel_rfl) (by decide) (a0a (by kernel_rfl) (.tmp 10) rfl (.int .i64 num) (by kernel_rfl)) Sr0.out ?_;refine c0a (i:=6) (v:=.pointer (some ⟨g,0,none⟩)) rfl (by kernel_rfl) (by kernel_rfl) (by kernel_rfl) (λ_ _ _ h=>h) rfl (by kernel_rfl) (by kernel_rfl) (by decide) (J4a (by kernel_rfl) _ (.tmp 30) (.tmp 31) false rfl (.map (some m)) (.int .i64 num) (by kernel_rfl) (by kernel_rfl) (λ_ h=>h.lk)) Sr0.out ?_;refine c0a (i:=7) (v:=_) rfl (by kernel_rfl) (by kernel_rfl) (by kernel_rfl) (λ_ _ _ h=>h) rfl (by kernel_rfl) (by kernel_rfl) (by decide) (p0a (by kernel_rfl) (.tmp 32) rfl ⟨g,0,none⟩ (by kernel_rfl)) Sr0.out ?_;refine c0a (i:=8) (v:=_) rfl (by kernel_rfl) (by kernel_rfl) (by kernel_rfl) (λ_ _ _ h=>h) rfl (by kernel_rfl) (by kernel_rfl) (by decide) (e0a (by kernel_rfl) _ (.tmp 33) 0 rfl (.pointer (some ⟨g,0,none⟩)) (.pointer (some ⟨g,0,none⟩)) (by kernel_rfl) (λw=>by go_simp)) Sr0.out ?_;refine c0a (i:=9) (v:=_) rfl (by kernel_rfl) (by kernel_rfl) (by kernel_rfl) (λ_ _ _ h=>h) rfl (by kernel_rfl) (by kernel_rfl) (by decide) (e0a (by kernel_rfl) _ (.tmp 34) 2 rfl (.pointer (some ⟨g,0,none⟩)) (.pointer (some ⟨g,2,none⟩)) (by kernel_rfl) (λw=>by go_simp)) Sr0.out ?_;refine c0a (i:=10) (v:=_) rfl (by kernel_rfl) (by kernel_rfl) (by kernel_rfl) (λ_ _ _ h=>h) rfl (by kernel_rfl) (by kernel_rfl) (by decide) (b0a (by kernel_rfl) _ (.tmp 35) rfl g (2) (by kernel_rfl) (V0a s) (λ_ h=>h.n2) _ Tryz.underlying9 rfl) Sr0.out ?_;refine n0a 11 _ (by kernel_rfl) rfl λK hK=>?_
  refine b2a rfl _ _ _ _ rfl Tryz.underlying78 [V0a s] (by kernel_rfl) ?_;intro gv w3 hgv hgv2 V3 l3;have K3:Hid (Below W.heap.size W w3):=((Below.refl _ W).drew).trans l3.out;have O3:Hid (t1a V0a 9 w3 B (.slice A2 k2 c2') XS):=HROW.out.below K3.out;have hb3:B<=w3.heap.size:=Nat.le_trans hBW K3.out.size;have Sr3:Hid (PbC w3 p8 p2 q m g (.slice A2 k2 c2') num s):=CBD.out w3 (g0a.of_over _ K3.out) (B8.out.over K3.out);clear l3;refine hK _ _ (λ_=>Sr3.out) ?_;clear hK K;refine n0a 12 _ (by kernel_rfl) rfl λK hK=>?_
  refine W6a V0a x7a (.string ⟨#[]⟩) rfl 78 9 16 rfl (.tmp 26) (.tmp 37) Tryz.underlying78 r4a rfl B _ XS [s] 1 1 gv rfl (by kernel_rfl) (by kernel_rfl) V3.out O3.out (by omega) (by omega) hb3 ?_;intro v' w4 O4 S4 N4;have nv:∀i,(Value.slice A2 k2 c2').ownBlock=some i->B<=i:=λi hi=>(HROW.out.block hi).1
  have B84:Hid (Blk w4 p8 78 [.slice A2 k2 c2']):=(B8.out.over K3.out).spare S4.out λe=>by have:=nv _ e;omega
  have A4:Hid (g0a (λj=>j=p8∨B<=j) W w4):=(g0a.of_over _ K3.out).trans (S4.out.mono (S':=λj=>j=p8∨B<=j) λj _ e=>.inr (nv j e)) λj _ h=>h
  have Sr4:Hid (PbC w4 p8 p2 q m g (.slice A2 k2 c2') num s):=CBD.out w4 A4.out B84.out;refine hK _ _ (λ_=>Sr4.out) ?_;clear hK K;refine Q1a λa1 ha1=>?_
  have e1_8:a1.eval (.tmp 8)=.pointer (some ⟨p8,0,none⟩):=by rw[ha1];kernel_rfl
  have e1_38:a1.eval (.tmp 38)=v':=by rw[ha1];kernel_rfl
  refine n0a 13 _ (by kernel_rfl) rfl λK hK=>?_
  refine B1a (by kernel_rfl) 78 (.tmp 8) (.tmp 38) (by kernel_rfl) p8 0 e1_8 78 [.slice A2 k2 c2'] v' e1_38 B84 (show 0<1 by omega) (by kernel_rfl) O4.out.oneCell ?_;intro w5 B85 P5 hq5;refine hK _ _ (λh=>Bool.noConfusion (show true=false from h)) ?_;clear hK K;rw[ha1];refine K1a (by kernel_rfl) ?_ _;have A5:Hid (g0a (λj=>j=p8∨B<=j) W w5):=A4.out.trans ((g0a.of_only P5.out).mono (S':=λj=>j=p8∨B<=j) λj _ e=>.inl e) λj _ h=>h
  have R5:Hid (t1a V0a 9 w5 B v' (XS++[s])):=O4.out.keep λi cs hi hcs=>P5.out.rest i λe=>by have:=(O4.out.block hi).1;omega
  have KO:KeepsOthers W w5:=KeepsOthers.of_spare (S:=λj=>j=p8∨(Value.slice A2 k2 c2').ownBlock=some j) (((g0a.of_over _ K3.out).trans (S4.out.mono (S':=λj=>j=p8∨(Value.slice A2 k2 c2').ownBlock=some j) λj _ e=>.inr e) λj _ h=>h).trans ((g0a.of_only P5.out).mono (S':=λj=>j=p8∨(Value.slice A2 k2 c2').ownBlock=some j) λj _ e=>.inl e) λj _ h=>h) λj o hj ho=>by
   rcases hj with rfl | hj
   ·rw[show W.heap[_]? = _ from B8.out] at ho;injection ho with ho
    subst ho;rfl
   ·obtain⟨_,cs,hcs⟩:=HROW.out.block hj;rw[hcs] at ho;injection ho with ho
    subst ho;rfl
  refine⟨KO,A5.out,v',HA.out.trans A5.out λ_ _ h=>h,B85.out,?_,Nat.le_trans hBW A5.out.size⟩;rw[List.map_append,<-HXS.out];show t1a V0a _ w5 B v' (XS++[x.1.2.1.name])
  rw[<-HSN.out];exact R5.out
 case done=>
  rintro DD xs W hD hxs ⟨v,h⟩ hK;obtain⟨A2,k2,c2',rfl,hh⟩:=h.row.holds;have c8:=h.b8.cell 0;have hnm:(xs.map λx=>x.1.2.1.name)=NS:=by rw[<-HNAMES.out,<-hxs,List.map_map];rfl
  rw[hnm] at h hh;have hbW:=BW.out W h.a;have hk3:k2<=9223372036854775807:=by
   obtain⟨_,_,_,e,_,_,h3,_⟩:=h.row.open;injection e with _ e2 _
   omega
  have cj:=CJ.out W A2 k2 c2' hbW hh hk3;unfold K3a at cj;have CJ2:=hI cj;have HBW:=hI hbW;have HK:=hI hK;have HDD:Hid (w.heap.size<=DD):=by show _<=_;omega
  obtain⟨JS,hJS⟩:∃S:ByteArray,S=⟨(h4a NS).toArray⟩:=⟨_,rfl⟩;have hJ1:V0a (h4a NS)=.string JS:=by rw[hJS];rfl
  rw[<-hJS] at CJ2;have HJ1:=hI hJ1;clear h hh hxs hnm hbW cj hK hJS hJ1 CJ CND CLN CELL CBD0 BW pt7 itb;go_wp2_with fail;refine CJ2.out.mono ?_;rintro e w9 ⟨rfl,l9⟩;have L9:=hI l9;have HK9:Hid (w9.heap[DD]? = some (.deferred (some []))):=(l9.block DD (Array.getElem?_eq_some_iff.1 HK.out).1).trans HK.out;clear l9;go_wp2_with fail;refine⟨by simp,.inl ⟨_,_,rfl,run_takeDeferred HK9.out,?_⟩⟩;refine⟨_,results_tmp2 rfl _ _ _,?_,?_⟩
  ·rw[HJ1.out];rfl
  ·exact(HBW.out.trans (L9.out.mono HBW.out.size)).trans ((y5a (S:=λj=>j=DD) w9 DD _ rfl).below (λj e=>by rw[e];exact HDD.out) (Nat.le_trans HBW.out.size L9.out.size))
 case stop=>rintro DD cc pre W hD hpre hF hK;exact hF.elim
end
open Go.RowKit
structure R0c (V:X0a) (n d:Int) (s:o0a):Prop where
 there:∃x,vAt V.l n=some x
 one:n≠1
 dir:z0a V.l d=1
 off:d≠n
 name:nameOf s=true
 no:∀u∈V.l,u.par=d->f1a u.name s=true->u.n=n
section
variable {V:X0a} {n:Int} {tp:o0a} {over:Bool}
theorem Vok.moveTo(h:Vok V)(he:x1a V.l n tp over=0):(l1a V.l n tp=0->R0c V n (P0a V.l tp) (Q0a V.l tp))/\(l1a V.l n tp≠0->l1a V.l n tp≠1/\(∃z,vAt V.l (l1a V.l n tp)=some z)/\Vok ⟨V.quota,V.last,z1a V.l (l1a V.l n tp)⟩/\R0c ⟨V.quota,V.last,z1a V.l (l1a V.l n tp)⟩ n (P0a V.l tp) (Q0a V.l tp)):=by
 obtain⟨ht,hcase⟩:=R8a he;obtain⟨rs,mo⟩:=h.moveOk ht;obtain⟨d1,d2,d3,d4⟩:=u2a mo.perr mo.ne;obtain⟨x,hx⟩:=mo.there;obtain⟨d,hd⟩:∃d,d=P0a V.l tp:=⟨_,rfl⟩;have hsn:nameOf (Q0a V.l tp)=true:=by rw[mo.last];exact d3
 obtain⟨s,hs⟩:∃s,s=Q0a V.l tp:=⟨_,rfl⟩;obtain⟨i,hi⟩:∃i,i=l1a V.l n tp:=⟨_,rfl⟩;have hisd:i=if x0a V.l d s=n then 0 else x0a V.l d s:=by rw[hi,hd,hs];rfl
 have m7:=mo.dir;have m9:=mo.off;rw[<-hd] at m7 m9⊢;rw[<-hs] at hsn⊢;rw[<-hi] at hcase⊢;have hdn:d≠n:=λe=>m9 ⟨[],e▸Down.self⟩
 refine⟨λh0=>⟨⟨x,hx⟩,mo.one,m7,hdn,hsn,λy hy hp ha=>?_⟩,λh0=>?_⟩
 ·have hc:x0a V.l d s=y.n:=by rw[<-hp];exact h.child hy ha
  rw[hc] at hisd;by_cases e:y.n=n
  ·exact e
  ·rw[if_neg e,h0] at hisd;have:=(h.num y hy).1;omega
 ·have hcn:x0a V.l d s≠n:=λe=>by rw[if_pos e] at hisd;exact h0 hisd
  rw[if_neg hcn] at hisd;have hc0:x0a V.l d s≠0:=by rw[<-hisd];exact h0
  obtain⟨z,hz,z1,z2,z3⟩:=J1a hc0;have hzi:z.n=i:=by rw[z3,hisd]
  have hzat:vAt V.l i=some z:=by rw[<-hzi];exact h.at hz
  have hk:z0a V.l i≠1:=by
   rcases hcase with q | q
   ·exact absurd q h0
   ·exact q.1
  have hi1:i≠1:=λe=>hk (by rw[e];unfold z0a;rw[h.at1];rfl)
  have hch:∀x∈V.l,x.n≠1->x.par≠i:=λu hu hu1 e=>hk (by rw[<-e];exact h.up u hu hu1)
  have hA:=h.away hzat hi1 hch;have hin:i≠n:=by rw[hisd];exact hcn
  have hmem:∀u,u∈z1a V.l i↔u∈V.l/\u.n≠i:=λu=>h3a h.rise hzat
  obtain⟨hx1,hx2⟩:=y0a hx;have hx':vAt (z1a V.l i) n=some x:=hA.rise.at_iff.2 ⟨(hmem x).2 ⟨hx1,by rw[hx2];exact λe=>hin e.symm⟩,hx2⟩;have hdi:d≠i:=λe=>hk (by rw[<-e];exact m7)
  have hkd:z0a (z1a V.l i) d=1:=by obtain⟨u,hu⟩:=t2a (V:=V) (n:=d) (by rw[m7];decide);obtain⟨u1,u2⟩:=y0a hu;have h4:=n8a (V:=V) hu;rw[<-u2,hA.rise.kind ((hmem u).2 ⟨u1,by rw[u2];exact hdi⟩),<-h4,m7]
  refine⟨hi1,⟨z,hzat⟩,hA,⟨⟨x,hx'⟩,mo.one,hkd,hdn,hsn,λy hy hp ha=>?_⟩⟩;obtain⟨hy1,hy2⟩:=(hmem y).1 hy;have hc:x0a V.l d s=y.n:=by rw[<-hp];exact h.child hy1 ha
  exact absurd (by rw[<-hc,hisd]) hy2
theorem j3c(h:q1a V.l n≠0):x1a V.l n tp over=q1a V.l n:=by have e:z3a V.l n tp=q1a V.l n:=if_pos h;unfold x1a;rw[e,if_pos h]
theorem G7b{E:Int}(e:z3a V.l n tp=E)(h:E≠0):x1a V.l n tp over=E:=by unfold x1a;rw[e,if_pos h]
theorem k3c(h0:q1a V.l n=0)(hu:g3a tp (i1a V.l n)=true):x1a V.l n tp over=2:=G7b (by unfold z3a;rw[if_neg (λe=>e h0),if_neg (λe=>e (Q4a.1 hu).1),if_pos (.inr hu)]) (by decide)
theorem l3c{E:Int}(h0:q1a V.l n=0)(hu:g3a tp (i1a V.l n)=false)(hp:F0a tp=E)(h:E≠0):x1a V.l n tp over=E:=G7b (by
 unfold z3a;rw[if_neg (λe=>e h0)];unfold F0a at hp;by_cases h1:h0a tp≠0
 ·rw[if_pos h1] at hp⊢;exact hp
 ·rw[if_neg h1] at hp⊢;by_cases h2:tp=[]
  ·rw[if_pos h2] at hp;rw[if_pos (.inl h2)];exact hp
  ·rw[if_neg h2] at hp;exact absurd hp.symm h) h
theorem S0c(h0:q1a V.l n=0)(hu:g3a tp (i1a V.l n)=false)(hp:F0a tp=0):z3a V.l n tp=if l3a V.l tp≠0 then l3a V.l tp else if 8<(m0a tp).length+t4a V.l n then 3 else 0:=by obtain⟨p1,p2⟩:=a2a.1 hp;unfold z3a;rw[if_neg (λe=>e h0),if_neg (λe=>e p1),if_neg (λe=>e.elim p2 λe=>by rw[hu] at e;cases e)]
theorem y4c(ht:z3a V.l n tp=0):x1a V.l n tp over=if x0a V.l (P0a V.l tp) (Q0a V.l tp)=0∨x0a V.l (P0a V.l tp) (Q0a V.l tp)=n then 0 else M9a (z0a V.l (x0a V.l (P0a V.l tp) (Q0a V.l tp))) (z0a V.l n) over:=by
 unfold x1a l1a M9a;rw[if_neg (λe=>e ht)];generalize x0a V.l (P0a V.l tp) (Q0a V.l tp)=C;by_cases hn:C=n
 ·simp[hn]
 ·by_cases h0:C=0
  ·simp[hn,h0]
  ·by_cases ho:over=false
   ·simp[hn,h0,ho]
   ·by_cases hk:z0a V.l C=1∨z0a V.l n=1
    ·simp[hn,h0,ho,hk]
    ·simp[hn,h0,ho,hk]
theorem H7b{L:List k0a}{d:Int}{s:o0a}(h:o6a L){x:k0a}(hx:vAt L n=some x)(k:Int)(p:I0a):(k,p)∈l5a (f4a L n d s)↔(k,p)∈(d,(ba s,n))::l5a (z1a L n):=by
 obtain⟨hx1,hx2⟩:=y0a hx;rw[List.mem_cons,y2a,y2a];constructor
 ·rintro⟨u,hu,e1,e2⟩;obtain⟨y,hy,rfl⟩:=e1b.1 hu;by_cases hn:y.n=n
  ·rw[if_pos hn] at e1 e2;refine .inl ?_;rw[<-e1,<-e2];unfold itm;rw[hn]
  ·rw[if_neg hn] at e1 e2;exact .inr ⟨y,(h3a h hx).2 ⟨hy,hn⟩,e1,e2⟩
 ·rintro(e | ⟨y,hy,e1,e2⟩)
  ·injection e with e1 e2
   refine⟨_,e1b.2 ⟨x,hx1,rfl⟩,?_,?_⟩
   ·rw[if_pos hx2,e1]
   ·rw[if_pos hx2,e2];unfold itm;rw[hx2]
  ·obtain⟨h1,h2⟩:=(h3a h hx).1 hy;exact⟨y,e1b.2 ⟨y,h1,by rw[if_neg h2]⟩,e1,e2⟩
end
section
variable {DI:DrI} {EI:FiI} {w w':World} {base q m:Nat} {D:DataW Unit} {V:X0a} {M:List VN} {y z:VN} {x:k0a} {n d:Int} {s tp:o0a} {over:Bool}
theorem PV.relay(h:PV DI EI w base q m D V M)(mt:R0c V n d s):Calls Tryz.prog 70 #[R0a q,.int .i64 n] w λe w1=>e=.returned (.tuple #[])/\
  Calls Tryz.prog 71 #[R0a q,.int .i64 n,.int .i64 d,V0a s] w1 λe w2=>e=.returned (.tuple #[])/\∃M',m3a DI EI w base q m M V.quota V.last M' (l5a (f4a V.l n d s)) w2/\M'.map (·.1)=f4a V.l n d s:=by
 obtain⟨x,hx⟩:=mt.there;obtain⟨y,hy,ey,en⟩:=h.at hx;have hy1:y.1.n≠1:=by rw[en];exact mt.one
 obtain⟨zp,hzp,e1,e2⟩:=h.dir hy hy1;have ha:=u4c h hy;refine(G2b (R':=l5a (z1a V.l n)) h.p h.tb hy hzp e1.symm e2 (h.small hy) (λK k=>?_) (λk p hd=>?_) en).mono ?_
 ·rw[e1] at k⊢;rw[<-en];exact(Kid.drop h.ok ha hy1 k).2
 ·rw[<-en,T8a h.ok ha];exact⟨λa=>⟨a,λe=>absurd (e.trans e1.symm) hd⟩,λa=>a.1⟩
 ·rintro e w1 ⟨he,M1,p1,em⟩;refine⟨he,?_⟩;have htb1:=h.p.tbs h.tb p1;have hp:=p1;obtain⟨D1,v1,_,_⟩:=hp;obtain⟨y1,hy1m,ey1⟩:∃y'∈M1,y'.1=y.1:=List.mem_map.1 (by rw[em];exact List.mem_map.2 ⟨y,hy,rfl⟩);obtain⟨u,hu⟩:=t2a (V:=V) (n:=d) (by rw[mt.dir];decide);obtain⟨z,hz,ez,ezn⟩:=h.at hu;obtain⟨z1,hz1,ez1⟩:∃y'∈M1,y'.1=z.1:=List.mem_map.1 (by rw[em];exact List.mem_map.2 ⟨z,hz,rfl⟩);have hkz:z1.1.kind=1:=by rw[ez1,<-h.kindOf hz,ezn,mt.dir]
  have hz1n:z1.1.n=d:=by rw[ez1,ezn]
  have hy1n:y1.1.n=n:=by rw[ey1,en]
  have hl:=S0a mt.name;have hxa:vAt V.l n=some y.1:=by rw[<-en];exact ha
  refine(H2b (R':=l5a (f4a V.l n d s)) v1 htb1 hy1m hz1 (by rw[hz1n,hy1n];exact mt.off) hkz (by omega) (λK k=>?_) (λK k=>?_) (λk p hk=>?_) hy1n hz1n).mono ?_
  ·have h1:=Kid.le (c1b h.ok.rise) k;have h2:=h.ok.many;have h3:(z1a V.l n).length<=V.l.length:=(List.eraseIdx_sublist _ _).length_le;omega
  ·rw[hz1n] at k⊢;rw[hy1n];refine(Kid.put (n:=n) k mt.name λp hp=>?_).2.same λp=>(H7b h.ok.rise hxa d p).symm
   obtain⟨u,hu,e1,rfl⟩:=y2a.1 hp;obtain⟨u1,u2⟩:=(h3a h.ok.rise hxa).1 hu;cases hq:alk (itm u).1 (ba s) with
   | false=>rfl
   | true=>exact absurd (mt.no u u1 e1 hq) u2
  ·rw[hz1n] at hk;rw[H7b h.ok.rise hxa,List.mem_cons];constructor
   ·exact λa=>.inr a
   ·rintro(a | a)
    ·injection a with a _
     exact absurd a hk
    ·exact a
  ·rintro e w2 ⟨he2,M2,p2,em2⟩;exact⟨he2,M2,p1.trans p2,by rw[em2,em,h.is]⟩
def b4c(DI:DrI)(EI:FiI)(w:World)(base q m:Nat)(V:X0a)(M:List VN)(n:Int)(tp:o0a)(over:Bool)(e:Ending)(w':World):Prop:=e=.returned (.int .i64 (x1a V.l n tp over))/\B3a (isV DI EI) w base q (pvS q m M) (h2a V n tp over) w'
theorem S4b(HT:y9b DI)(h:PV DI EI w base q m D V M)(hn:c2a n):Calls Tryz.prog 17 #[R0a q,.int .i64 n] w λe w'=>e=.returned (.tuple #[V0a (i1a V.l n),.int .i64 (I2a V.l n)])/\Below w.heap.size w w':=by
 cases hat:vAt V.l n with
 | none=>exact i3c h hn hat
 | some x=>obtain⟨y,hy,_,en⟩:=h.at hat;exact Q0c HT h hy en
theorem M7a(h:Vok V)(n:Int):(i1a V.l n).length<=1048576:=by
 unfold i1a;split
 ·rename_i he;unfold I2a at he;split at he
  ·cases he
  ·obtain⟨h1,h2⟩:=w1a.1 he;have key:∀ps:List o0a,(∀p∈ps,nameOf p=true)->(l2a ps).length<=129*ps.length:=by
    intro ps
    induction ps with
    | nil=>intro _;exact Nat.zero_le _
    | cons p r ih=>
     intro hp;have:=S0a (hp p (List.mem_cons_self ..));have:=ih λq hq=>hp q (List.mem_cons_of_mem _ hq)
     cases r with
     | nil=>show p.length<=_;simp;omega
     | cons q r=>show(p++92::l2a (q::r)).length<=_;rw[List.length_append,List.length_cons,List.length_cons];omega
   have:=key _ h1;omega
 ·exact Nat.zero_le _
theorem T0c(HT:y9b DI)(h:PV DI EI w base q m D V M)(hn:c2a n)(hs:tp.length<=1048576):Calls Tryz.prog 26 #[R0a q,.int .i64 n,V0a tp,.bool over] w (b4c DI EI w base q m V M n tp over):=by
 have STILL:Hid (∀w',Below w.heap.size w w'->x1a V.l n tp over≠0->B3a (isV DI EI) w base q (pvS q m M) (h2a V n tp over) w'):=λw' hb he=>by have e1:h2a V n tp over=V:=if_neg he;rw[e1];exact h.still hb
 obtain⟨S,hS⟩:∃S:ByteArray,S=⟨tp.toArray⟩:=⟨_,rfl⟩;have hS1:V0a tp=.string S:=by rw[hS];rfl
 by_cases h0:q1a V.l n=0
 ·obtain⟨⟨x,hx⟩,h1⟩:=U5a h0;obtain⟨y,hy,ey,en⟩:=h.at hx;have CB:=hI (E2b h.p hy en h1);have CP:=hI (S4b HT h hn);obtain⟨P,hP⟩:∃S:ByteArray,S=⟨(i1a V.l n).toArray⟩:=⟨_,rfl⟩;have hP1:V0a (i1a V.l n)=.string P:=by rw[hP];rfl
  have hps:=M7a h.ok n;have CU:Hid (∀w',Below w.heap.size w w'->Calls Tryz.prog 65 #[.string S,.string P] w' λe w2=>e=.returned (.bool (g3a tp (i1a V.l n)))/\Below w'.heap.size w' w2):=λw' hb=>by have:=e8b S P w' (by rw[hS,W1a];omega) (by rw[hP,W1a];omega) ((h.below hb).tabs HT);rw[hS,hP] at this⊢;exact this
  rw[hP1] at CP;obtain⟨U,hU⟩:∃U,U=g3a tp (i1a V.l n):=⟨_,rfl⟩;rw[<-hU] at CU;obtain⟨PE,hPE⟩:∃U,U=I2a V.l n:=⟨_,rfl⟩;rw[<-hPE] at CP;clear hP1 hP hps hPE;cases U with
  | true=>
   have HE:Hid (x1a V.l n tp over=2):=k3c h0 hU.symm;rw[hS1];clear h hn hs hS hS1 h0 hx hy ey en hU;unfold R0a at CB CP⊢;go_enter Tryz.func26,Tryz.ntmps26;go_wp2_with fail;refine CB.out.mono ?_;rintro e w0 ⟨rfl,rfl⟩;go_wp2_with fail;refine CP.out.mono ?_;rintro e w1 ⟨rfl,l1⟩;have L1:=hI l1;clear l1;go_wp2_with fail;refine(CU.out _ L1.out).mono ?_;rintro e w2 ⟨rfl,l2⟩;have L2:=hI (step L1.out l2);clear l2;go_wp2_with fail;go_ret;exact⟨by rw[HE.out];rfl,STILL.out _ L2.out (by rw[HE.out];decide)⟩
  | false=>
   by_cases hbad:F0a tp≠0∨l3a V.l tp≠0
   ·have CSE:∃(N X:Value) (Z:Int),Z≠0/\x1a V.l n tp over=Z/\∀w',Below w.heap.size w w'->Calls Tryz.prog 66 #[R0a q,V0a tp] w' λe w2=>e=.returned (.tuple #[N,X,.int .i64 Z])/\Below w'.heap.size w' w2:=by
     by_cases hpe:F0a tp≠0
     ·exact⟨_,_,F0a tp,hpe,l3c h0 hU.symm rfl hpe,λw' hb=>K4b HT (h.below hb) hs rfl hpe⟩
     ·have hp0:F0a tp=0:=by simpa using hpe
      have hv:=hbad.resolve_left hpe;refine⟨_,_,l3a V.l tp,hv,G7b ?_ hv,λw' hb=>b9a HT (h.below hb) hs hp0⟩;rw[S0c h0 hU.symm hp0,if_pos hv]
    obtain⟨N,X,Z,hZ,hE,cs⟩:=CSE;have CS:=hI cs;have HE:=hI hE;have HZ:=hI hZ;have tz:(Z != 0)=true:=by simpa using hZ
    rw[hS1] at CS⊢;clear h hn hs hS hS1 h0 hx hy ey en hU hbad hZ hE cs;unfold R0a at CB CP CS⊢;go_enter Tryz.func26,Tryz.ntmps26;go_wp2_with fail;refine CB.out.mono ?_;rintro e w0 ⟨rfl,rfl⟩;go_wp2_with fail;refine CP.out.mono ?_;rintro e w1 ⟨rfl,l1⟩;have L1:=hI l1;clear l1;go_wp2_with fail;refine(CU.out _ L1.out).mono ?_;rintro e w2 ⟨rfl,l2⟩;have L2:=hI (step L1.out l2);clear l2;go_wp2_with fail;refine(CS.out _ L2.out).mono ?_;rintro e w3 ⟨rfl,l3⟩;have L3:=hI (step L2.out l3);clear l3;go_wp2_with fail;go_ret;exact⟨by rw[HE.out];rfl,STILL.out _ L3.out (by rw[HE.out];exact HZ.out)⟩
   ·have hp0:F0a tp=0:=Classical.byContradiction λe=>hbad (.inl e)
    have hv0:l3a V.l tp=0:=Classical.byContradiction λe=>hbad (.inr e)
    obtain⟨pp1,pp2⟩:=a2a.1 hp0;obtain⟨rs,wr,walike,hk1,hsn⟩:=h.ok.par pp1 pp2 hv0;obtain⟨_,dp2,hname,dp4⟩:=u2a pp1 pp2;rw[<-hsn] at hname;have hplen:(m0a tp).length=rs.length+1:=by have:=congrArg List.length walike;rw[List.length_map,List.length_map,dp2] at this;rw[dp4,List.length_append,<-this];rfl
    obtain⟨x',hx'⟩:=wr.at h.ok;obtain⟨z,hz,_,ezn⟩:=h.at hx';have hkz:z.1.kind=1:=by rw[<-h.kindOf hz,ezn,hk1]
    have hrs8:rs.length<=7:=by have:=D8a pp1;omega
    have hll:(b6b V.l (P0a V.l tp)).length=rs.length:=(wr.ln 10 (by omega)).1;have cs:∀w',Below w.heap.size w w'->_:=λw' hb=>b9a HT (h.below hb) hs hp0
    rw[hv0] at cs;have CL:Hid (∀w',Below w.heap.size w w'->Calls Tryz.prog 50 #[R0a q,.int .i64 (P0a V.l tp)] w' λe w2=>∃A c,e=.returned (.slice A rs.length c)/\Below w'.heap.size w' w2):=λw' hb=>(m1b (h.below hb) hz ezn).mono λe w2 ⟨v,he,o,l⟩=>by obtain⟨A,k,c,rfl,hh⟩:=o.holds;have:=hh.len;rw[hll] at this;rw[this];exact⟨A,c,he,l⟩
    have CD:Hid (∀w',Below w.heap.size w w'->Calls Tryz.prog 67 #[R0a q,.int .i64 n] w' λe w2=>e=.returned (.int .i64 (t4a V.l n:Nat))/\Below w'.heap.size w' w2):=λw' hb=>i8b (h.below hb) hy en h1
    have hdeep8:t4a V.l n<=8:=by
     have hmost:∀k:Nat,(k=0∨∃u∈V.l,i4a V.l u.n n=true/\k=(D1a V.l u.n).length-(D1a V.l n).length)->k<=8:=λk hk=>by
      rcases hk with rfl | ⟨u,hu,_,rfl⟩
      ·omega
      ·obtain⟨ps,hw,h8⟩:=h.ok.way u hu;rw[hw.names h8];omega
     refine hmost _ ?_;have:=r6a (λu=>i4a V.l u.n n) (λu=>(D1a V.l u.n).length-(D1a V.l n).length) V.l 0;unfold t4a b5a;rw[List.take_length];exact this
    obtain⟨gz,u,X,step'⟩:=h.step hz ezn hkz hname;have STEP:=hI step';have hT0:=S0c h0 hU.symm hp0;rw[if_neg (λe=>e hv0),hplen] at hT0;have CDROP:Hid (∀w',Below w.heap.size w w'->x1a V.l n tp over=0->l1a V.l n tp≠0->Calls Tryz.prog 69 #[R0a q,.int .i64 (l1a V.l n tp)] w' λe w1=>e=.returned (.tuple #[])/\Calls Tryz.prog 70 #[R0a q,.int .i64 n] w1 λe w2=>e=.returned (.tuple #[])/\Calls Tryz.prog 71 #[R0a q,.int .i64 n,.int .i64 (P0a V.l tp),V0a (Q0a V.l tp)] w2 λe w3=>e=.returned (.tuple #[])/\B3a (isV DI EI) w base q (pvS q m M) (h2a V n tp over) w3):=λw' hb hE hi=>by
     have hbb:=h.below hb;obtain⟨i1,⟨zi,hzi⟩,okA,mt⟩:=(h.ok.moveTo hE).2 hi;obtain⟨yi,hyi,_,eni⟩:=h.at hzi;refine(hbb.drop hyi (by rw[eni];exact i1) eni).mono ?_;rintro e w1 ⟨he,M1,p1,em⟩;have htb1:=hbb.p.tbs hbb.tb p1;have hp:=p1;obtain⟨D1,v1,_,_⟩:=hp;have pv1:PV DI EI w1 base q m D1 ⟨V.quota,V.last,z1a V.l (l1a V.l n tp)⟩ M1:=⟨v1,em,okA,h.big,htb1⟩;refine⟨he,(pv1.relay mt).mono ?_⟩;rintro e w2 ⟨he2,c2⟩;refine⟨he2,c2.mono ?_⟩;rintro e w3 ⟨he3,M3,p3,em3⟩;have ok:=h.ok.move n tp over;have ev:h2a V n tp over=⟨V.quota,V.last,f4a (z1a V.l (l1a V.l n tp)) n (P0a V.l tp) (Q0a V.l tp)⟩:=by unfold h2a u4a;rw[if_pos hE,if_pos hi]
     rw[ev] at ok⊢;exact⟨he3,s6a (V':=⟨V.quota,V.last,f4a (z1a V.l (l1a V.l n tp)) n (P0a V.l tp) (Q0a V.l tp)⟩) (((m3a.refl h.p hb).trans p1).trans p3) em3 ok h.big⟩
    have CREL:Hid (∀w',Below w.heap.size w w'->x1a V.l n tp over=0->l1a V.l n tp=0->Calls Tryz.prog 70 #[R0a q,.int .i64 n] w' λe w2=>e=.returned (.tuple #[])/\Calls Tryz.prog 71 #[R0a q,.int .i64 n,.int .i64 (P0a V.l tp),V0a (Q0a V.l tp)] w2 λe w3=>e=.returned (.tuple #[])/\B3a (isV DI EI) w base q (pvS q m M) (h2a V n tp over) w3):=λw' hb hE hi=>by
     have mt:=(h.ok.moveTo hE).1 hi;refine((h.below hb).relay mt).mono ?_;rintro e w2 ⟨he2,c2⟩;refine⟨he2,c2.mono ?_⟩;rintro e w3 ⟨he3,M3,p3,em3⟩;have ok:=h.ok.move n tp over;have ev:h2a V n tp over=⟨V.quota,V.last,f4a V.l n (P0a V.l tp) (Q0a V.l tp)⟩:=by unfold h2a u4a;rw[if_pos hE,if_neg (λe=>e hi)]
     rw[ev] at ok⊢;exact⟨he3,s6a (V':=⟨V.quota,V.last,f4a V.l n (P0a V.l tp) (Q0a V.l tp)⟩) ((m3a.refl h.p hb).trans p3) em3 ok h.big⟩
    have CY:Hid (∀w',Below w.heap.size w w'->x0a V.l (P0a V.l tp) (Q0a V.l tp)≠0->Calls Tryz.prog 68 #[R0a q,.int .i64 (x0a V.l (P0a V.l tp) (Q0a V.l tp)),.int .i64 n,.bool over] w' λe w2=>e=.returned (.int .i64 (M9a (z0a V.l (x0a V.l (P0a V.l tp) (Q0a V.l tp))) (z0a V.l n) over))/\w'=w2):=λw' hb hc=>by
     obtain⟨v,hv,_,_,e3⟩:=J1a hc;obtain⟨yi,hyi,eyi⟩:=h.node hv;have e4:yi.1.n=x0a V.l (P0a V.l tp) (Q0a V.l tp):=by rw[eyi,e3]
     have:=d6b (h.below hb).p hyi hy e4 en over;rw[<-h.kindOf hyi,<-h.kindOf hy,e4,en] at this;exact this
    have HIS:Hid (l1a V.l n tp=if x0a V.l (P0a V.l tp) (Q0a V.l tp)=n then 0 else x0a V.l (P0a V.l tp) (Q0a V.l tp)):=rfl;have HLAST:Hid (z3a V.l n tp=0->x1a V.l n tp over=if x0a V.l (P0a V.l tp) (Q0a V.l tp)=0∨x0a V.l (P0a V.l tp) (Q0a V.l tp)=n then 0 else M9a (z0a V.l (x0a V.l (P0a V.l tp) (Q0a V.l tp))) (z0a V.l n) over):=y4c;have HDEEP:Hid (z3a V.l n tp≠0->x1a V.l n tp over=z3a V.l n tp):=λe=>G7b rfl e
    obtain⟨up,hup⟩:∃u,u=P0a V.l tp:=⟨_,rfl⟩;obtain⟨nm,hnm⟩:∃u,u=Q0a V.l tp:=⟨_,rfl⟩;rw[<-hup,<-hnm] at cs STEP CDROP CREL CY HIS HLAST;rw[<-hup] at CL;obtain⟨C,hC⟩:∃C,C=x0a V.l up nm:=⟨_,rfl⟩;rw[<-hC] at STEP CY HIS HLAST;obtain⟨YE,hYE⟩:∃e,e=M9a (z0a V.l C) (z0a V.l n) over:=⟨_,rfl⟩;rw[<-hYE] at CY HLAST;obtain⟨I,hIx⟩:∃I,I=l1a V.l n tp:=⟨_,rfl⟩;rw[<-hIx] at CDROP CREL HIS;obtain⟨TE,hTE⟩:∃I,I=z3a V.l n tp:=⟨_,rfl⟩;rw[<-hTE] at HLAST HDEEP hT0;obtain⟨ME,hME⟩:∃I,I=x1a V.l n tp over:=⟨_,rfl⟩;unfold b4c;rw[<-hME] at CDROP CREL HLAST HDEEP STILL⊢;obtain⟨dp,hdp⟩:∃I,I=t4a V.l n:=⟨_,rfl⟩;rw[<-hdp] at CD hdeep8 hT0;obtain⟨rl,hrl⟩:∃I,I=rs.length:=⟨_,rfl⟩;rw[<-hrl] at CL hrs8 hT0;obtain⟨NM,hNM⟩:∃S:ByteArray,S=⟨nm.toArray⟩:=⟨_,rfl⟩;have hN1:V0a nm=.string NM:=by rw[hNM];rfl
    rw[hN1] at cs STEP CDROP CREL;rw[hS1] at cs⊢;have CS:=hI cs;clear h hn hs hS hS1 h0 hx hy ey en hU hbad hp0 hv0 pp1 pp2 wr walike hk1 hsn dp2 hname dp4 hplen hx' hz ezn hkz hll cs step' hup hnm hC hYE hIx hTE hME hdp hrl hNM hN1;unfold R0a at CB CP CS CL CD CDROP CREL CY⊢;go_enter Tryz.func26,Tryz.ntmps26;go_wp2_with fail;refine CB.out.mono ?_;rintro e w0 ⟨rfl,rfl⟩;go_wp2_with fail;refine CP.out.mono ?_;rintro e w1 ⟨rfl,l1⟩;have L1:=hI l1;clear l1;go_wp2_with fail;refine(CU.out _ L1.out).mono ?_;rintro e w2 ⟨rfl,l2⟩;have L2:=hI (step L1.out l2);clear l2;go_wp2_with fail;refine(CS.out _ L2.out).mono ?_;rintro e w3 ⟨rfl,l3⟩;have L3:=hI (step L2.out l3);clear l3;go_wp2_with fail;refine(CL.out _ L3.out).mono ?_;rintro e w4 ⟨A4,c4,rfl,l4⟩;have L4:=hI (step L3.out l4);clear l4;go_wp2_with fail;refine(CD.out _ L4.out).mono ?_;rintro e w5 ⟨rfl,l5⟩;have L5:=hI (step L4.out l5);clear l5 CB CP CU CS CL CD;by_cases hd8:8<rl+1+dp
    ·rw[if_pos hd8] at hT0;have HE:Hid (ME=3):=by rw[HDEEP.out (by rw[hT0];decide)];exact hT0
     clear hT0;go_wp2_with fail;go_ret;exact⟨by rw[HE.out];rfl,STILL.out _ L5.out (by rw[HE.out];decide)⟩
    ·rw[if_neg hd8] at hT0;have HL0:=hI (HLAST.out hT0);obtain⟨j1,j2,j3,j4,ca⟩:=STEP.out w5 L5.out;have CA:=hI ca;clear hT0 HDEEP HLAST ca STEP;go_wp2_with fail;refine CA.out.mono ?_;rintro e w6 ⟨rfl,l6⟩;have L6:=hI (step L5.out l6);clear l6 CA;by_cases hC0:C=0
     ·subst hC0;have HE:Hid (ME=0):=by have:=HL0.out;rw[if_pos (.inl rfl)] at this;exact this
      have HI0:Hid (I=0):=by have:=HIS.out;split at this<;>exact this
      have CR:=hI (CREL.out w6 L6.out HE.out HI0.out);rw[if_pos rfl];clear CREL CDROP CY HL0 HIS STILL;go_wp2_with fail;refine CR.out.mono ?_;rintro e w7 ⟨rfl,c8⟩;have C8:=hI c8;clear c8 CR;go_wp2_with fail;refine C8.out.mono ?_;rintro e w8 ⟨rfl,t⟩;have TT:=hI t;clear t C8;go_wp2_with fail;go_ret;exact⟨by rw[HE.out];rfl,TT.out⟩
     ·rw[if_neg hC0];by_cases hCn:C=n
      ·subst hCn;have HE:Hid (ME=0):=by have:=HL0.out;rw[if_pos (.inr rfl)] at this;exact this
       have HI0:Hid (I=0):=by have:=HIS.out;rw[if_pos rfl] at this;exact this
       have CR:=hI (CREL.out w6 L6.out HE.out HI0.out);clear CREL CDROP CY HL0 HIS STILL hC0;go_wp2_with fail;refine CR.out.mono ?_;rintro e w7 ⟨rfl,c8⟩;have C8:=hI c8;clear c8 CR;go_wp2_with fail;refine C8.out.mono ?_;rintro e w8 ⟨rfl,t⟩;have TT:=hI t;clear t C8;go_wp2_with fail;go_ret;exact⟨by rw[HE.out];rfl,TT.out⟩
      ·have HE1:Hid (ME=YE):=by have:=HL0.out;rw[if_neg (λe=>e.elim hC0 hCn)] at this;exact this
       have HI1:Hid (I=C):=by have:=HIS.out;rw[if_neg hCn] at this;exact this
       have CY2:=hI (CY.out w6 L6.out hC0);have tn:(C != n)=true:=by simpa using hCn
       have CDR:Hid (ME=0->_):=λe=>CDROP.out w6 L6.out e (by rw[HI1.out];exact hC0)
       rw[HI1.out] at CDR;clear CREL CDROP CY HL0 HIS hC0 hCn;go_wp2_with fail;refine CY2.out.mono ?_;rintro e w7 ⟨rfl,rfl⟩;clear CY2;by_cases hY0:YE=0
       ·subst hY0;have CR:=hI (CDR.out HE1.out);clear CDR STILL;go_wp2_with fail;refine CR.out.mono ?_;rintro e w7 ⟨rfl,c8⟩;have C8:=hI c8;clear c8 CR;go_wp2_with fail;refine C8.out.mono ?_;rintro e w8 ⟨rfl,c9⟩;have C9:=hI c9;clear c9 C8;go_wp2_with fail;refine C9.out.mono ?_;rintro e w9 ⟨rfl,t⟩;have TT:=hI t;clear t C9;go_wp2_with fail;go_ret;exact⟨by rw[HE1.out];rfl,TT.out⟩
       ·have ty:(YE != 0)=true:=by simpa using hY0
        have HY:=hI hY0;clear hY0 CDR;go_wp2_with fail;go_ret;exact⟨by rw[HE1.out];rfl,STILL.out _ L6.out (by rw[HE1.out];exact HY.out)⟩
 ·have HE:Hid (x1a V.l n tp over=q1a V.l n):=j3c h0;have CB:∃E:Int,E=q1a V.l n/\Calls Tryz.prog 64 #[R0a q,.int .i64 n] w λe w'=>e=.returned (.tuple #[.pointer none,.int .i64 E])/\w=w':=by
   cases hat:vAt V.l n with
   | none=>exact⟨7,by unfold q1a;rw[hat];rfl,H4b h.p hn (h.no hat)⟩
   | some x=>
    obtain⟨y,hy,ey,en⟩:=h.at hat;by_cases h1:n=1
    ·subst h1;exact⟨2,by unfold q1a;rw[hat];rfl,D2b h.p hy en⟩
    ·exact absurd (by unfold q1a;rw[hat,if_neg h1];rfl) h0
  obtain⟨E,hE,cb⟩:=CB;rw[<-hE] at HE h0;have te:(E != 0)=true:=by simpa using h0
  have HE0:=hI h0;have CB:=hI cb;rw[hS1];clear h hn hs hS hS1 h0 hE cb;unfold R0a at CB⊢;go_enter Tryz.func26,Tryz.ntmps26;go_wp2_with fail;refine CB.out.mono ?_;rintro e w0 ⟨rfl,rfl⟩;go_wp2_with fail;go_ret;exact⟨by rw[HE.out];rfl,STILL.out _ (Below.refl _ _) (by rw[HE.out];exact HE0.out)⟩
end
section
variable {DI:DrI} {EI:FiI} {w w':World} {base q m:Nat} {D:DataW Unit} {V:X0a} {M:List VN} {y z:VN} {x:k0a} {n k:Int} {s p a:o0a}
theorem U0c(h:PV DI EI w base q m D V M)(hn:c2a n)(hk:c2a k)(hp:p.length<=1048576)(ha:a.length<=1048576):Calls Tryz.prog 19 #[R0a q,.int .i64 n,V0a p,V0a a,.int .i64 k] w (d3a w V.l n p a k):=by
 have hbb:=h.p.hb;obtain⟨P0,hP0⟩:∃S:ByteArray,S=⟨p.toArray⟩:=⟨_,rfl⟩;obtain⟨A0,hA0⟩:∃S:ByteArray,S=⟨a.toArray⟩:=⟨_,rfl⟩;have hP1:V0a p=.string P0:=by rw[hP0];rfl
 have hA1:V0a a=.string A0:=by rw[hA0];rfl
 rw[hP1,hA1];cases hx:vAt V.l n with
 | none=>
  have CN:=hI (Y8a h.p hn (h.no hx));have FIN:Hid (∀w',Below w.heap.size w w'->d3a w V.l n p a k (.returned (.tuple #[.slice none 0 0,.bool false,.int .i64 7])) w'):=λw' hb=>d3a.err (by unfold Z3a;rw[hx];rfl) (by decide) hb
  clear h hx hP1 hA1 hP0 hA0;unfold R0a at CN⊢;go_enter Tryz.func19,Tryz.ntmps19;go_wp2_with fail;refine CN.out.mono ?_;rintro e w0 ⟨rfl,rfl⟩;go_wp2_with fail;go_ret3;exact FIN.out _ (Below.refl _ _)
 | some x=>
  obtain⟨y,hy,eyx,hyn⟩:=h.at hx;have hkk:z0a V.l n=y.1.kind:=by rw[<-hyn];exact h.kindOf hy
  have CN:=hI (g5a h.p hy hyn);have HE:Z3a V.l n p a k=if z0a V.l n≠1 then 9 else if k<0 then 2 else if M0a p []≠0 then M0a p [] else if u0a a=true then 0 else 5:=by unfold Z3a;rw[hx,if_neg (by simp)]
  rcases h.p.kind y hy with hk1 | hk2
  ·obtain⟨K,kk,dd⟩:=h.p.dirs y hy hk1;rw[hyn] at kk;have hn1:1<=n:=by rw[<-hyn];exact(h.p.num y hy).1
   have hLE:=kk.listE h.ok hn1 k (p:=p) (a:=a);rw[hkk,hk1,if_neg (by decide),<-hLE] at HE;have cl:=DI.list dd h.tb hbb (p:=P0) (a:=A0) (m:=k) (by rw[hP0];show p.length<=_;exact hp) (by rw[hA0];show a.length<=_;exact ha) hk;have hE2:B6a K P0 A0 k=Z3a V.l n p a k:=by rw[HE,hP0,hA0];rfl
   have n0:=h.p.n0 hy;have n3:=h.p.n3 hy;rw[f5a hk1] at n3;rw[hk1] at n0;by_cases h0:Z3a V.l n p a k=0
   ·have hN:s2b K P0 A0 k=((U7a V.l n p a).take k.toNat).map λx=>ba x.name:=by unfold s2b;rw[hE2,if_pos h0,hP0,hA0,show(⟨p.toArray⟩:ByteArray)=ba p from rfl,show(⟨a.toArray⟩:ByteArray)=ba a from rfl,kk.names h.ok,List.map_take]
    have hM:t2b K P0 A0 k=N8a V.l n p a k:=by unfold t2b N8a;rw[hE2,if_pos h0,if_pos h0,hP0,hA0,show(⟨p.toArray⟩:ByteArray)=ba p from rfl,show(⟨a.toArray⟩:ByteArray)=ba a from rfl,kk.names h.ok,List.length_map]
    have hL:D4a V.l n p a k=(U7a V.l n p a).take k.toNat:=by unfold D4a;rw[if_pos h0]
    have hX:∀x∈(U7a V.l n p a).take k.toNat,x∈V.l/\x.par=n/\nameOf x.name=true:=λx hx=>X5b h.ok hn1 (List.mem_of_mem_take hx)
    have hXl:((U7a V.l n p a).take k.toNat).length<=4096:=by
     have e1:(U7a V.l n p a).length=(Y2a K (ba p) (ba a)).length:=by rw[kk.names h.ok,List.length_map]
     have e2:(Y2a K (ba p) (ba a)).length<=K.length:=by unfold Y2a;rw[List.length_map];exact List.length_filter_le ..
     have e3:=(DI.ok dd).2.1;rw[List.length_take];omega
    obtain⟨XS,hXS⟩:∃XS,XS=(U7a V.l n p a).take k.toNat:=⟨_,rfl⟩;rw[<-hXS] at hN hL hX hXl;obtain⟨mo,hmo⟩:∃mo,mo=N8a V.l n p a k:=⟨_,rfl⟩;rw[<-hmo] at hM;unfold E6a at cl;rw[hN,hM,hE2,h0] at cl;have FIN:Hid (∀u w',j1a W0a 3 49 w' w.heap.size u XS->Below w.heap.size w w'->d3a w V.l n p a k (.returned (.tuple #[u,.bool mo,.int .i64 0])) w'):=λu w' ho hb=>⟨u,by rw[<-hmo,h0],by rw[hL];exact ho,hb⟩
    have CF:Hid (∀x∈XS,∃g,∀w',Below w.heap.size w w'->(∃X,Calls Tryz.prog 42 #[T1b y.2.q,V0a x.name] w' λe w2=>e=.returned (.tuple #[.int .i64 x.n,X,.int .i64 0])/\Below w'.heap.size w' w2)/\
      (w'.cell? ⟨q,1,none⟩=some (.map (some m))/\(Instr.lookup 69 (.map (some m)) (.int .i64 x.n) false).run Tryz.prog w'=.ok (.pointer (some ⟨g,0,none⟩)) w'/\w'.cell? ⟨y.2.g,3,none⟩=some (T1b y.2.q))/\
      Calls Tryz.prog 47 #[.pointer (some ⟨g,0,none⟩)] w' λe w2=>e=.returned (.agg #[.int .u8 x.kind,.int .i64 (x.B.length:Nat)])/\Below w'.heap.size w' w2):=by
     intro x hx;obtain⟨h1,h2,h3⟩:=hX x hx;obtain⟨z,hz,ez⟩:=h.node h1;refine⟨z.2.g,λw' hb=>?_⟩;have h':=h.below hb;have hc0:x0a V.l n x.name≠0:=λe=>by have:=c5a (λu hu=>(h.ok.num u hu).1) e x h1 h2;rw[X1a.2 rfl] at this;cases this
     have hc:x0a V.l n x.name=x.n:=by obtain⟨u,hu,e1,e2,e3⟩:=J1a hc0;rw[<-e3,h.ok.apart u hu x h1 (e1.trans h2.symm) e2]
     refine⟨?_,⟨h'.p.c1,?_,?_⟩,?_⟩
     ·obtain⟨X,c⟩:=h'.findAt hy hk1 h3;rw[hyn,hc,if_neg (by rw[<-hc];exact hc0)] at c;exact⟨X,c⟩
     ·have:=h'.p.look1 hz;rw[ez] at this;exact this
     ·have:=h'.p.n3 hy;rw[f5a hk1] at this;exact this
     ·have:=F2b h'.p hz (h'.dirB hz);rw[ez] at this;exact this
    have H:=hI h;obtain⟨i0,hi0,hz0,hz1,hz2⟩:=info_parts C3b;have hb0:i0.bytes*XS.length<=281474976710656:=by rw[hz2];omega
    have HI:=hI hi0;have HZ0:=hI hz0;have HZ1:=hI hz1;have HB0:=hI hb0;have CL:=hI cl;obtain⟨g,hg⟩:∃g,g=y.2.g:=⟨_,rfl⟩;obtain⟨dq,hdq⟩:∃g,g=y.2.q:=⟨_,rfl⟩;rw[<-hg] at CN n0 n3 CF;rw[<-hdq] at n3 CL CF;clear hi0 hz0 hz1 hz2 hb0 cl hN hM hL hX hmo hXS h0 hE2 HE hLE dd kk hg hdq h hx eyx hyn hkk hP0 hA0 hP1 hA1;unfold R0a at CN⊢;unfold T1b at CL CF n3;go_enter Tryz.func19,Tryz.ntmps19;go_wp2_with fail;refine CN.out.mono ?_;rintro e w0 ⟨rfl,rfl⟩;go_wp2_with fail;refine CL.out.mono ?_;rintro e w1 ⟨v1,rfl,o1,l1⟩;have o2:=o1.txts;rw[show a5c (XS.map λx=>ba x.name)=XS.map (·.name) by unfold a5c;rw[List.map_map];rfl] at o2;obtain⟨A1,k1,c1,rfl,hh⟩:=o2.holds;have hlen:XS.length=k1:=by have:=hh.len;rw[List.length_map] at this;exact this
    have hfit:=hh.fit;have hhb:=o1;subst hlen;have L1:=hI l1;have HH:=hI hh;clear o1 o2 hh l1 CL CN hhb;go_wp2_with(first
     | ((with_reducible refine sN 57 ?_);go_loud (refine wpList_make_full w1 rfl (.tmp 56) (.tmp 56) 39 rfl w1.heap.size 49 i0 (.agg #[.string ⟨#[]⟩,.int .u8 0,.int .i64 0]) 3 Tryz.underlying39 HI.out HZ0.out HZ1.out .i64 .i64 _ _ XS.length rfl rfl rfl rfl HB0.out (by unfold maxLen;omega) (Nat.le_refl _) ?_);intro w2 ho2 hg2)
     | fail)
    obtain⟨cur0,hcl0,hB0,l2⟩:∃cur:List Value,cur.length=XS.length*3/\Blk w2 w1.heap.size 49 cur/\Below w1.heap.size w1 w2:=by
     have hb:=(Below.refl _ _).grown hg2 (Nat.le_refl _) (λk hk=>by cases hk);rcases ho2.2 with⟨h0,_⟩ | ⟨g,cap,cur,hv,_,hh,_,_,hcs,htk⟩
     ·cases h0
     ·simp only[Value.slice.injEq,Option.some.injEq,Addr.mk.injEq,and_true,true_and] at hv;obtain⟨rfl,rfl⟩:=hv;exact⟨cur.toList,by rw[Array.length_toList,hcs],by unfold Blk;rw[hh],hb⟩
    obtain⟨r,hr⟩:∃r,r=w1.heap.size:=⟨_,rfl⟩;have HR:=hI hr;rw[<-hr] at hB0⊢;have HC0:=hI hcl0;have HBK:=hI hB0;have L2:=hI l2;have hXm:XS.length<=4096:=hXl;clear hcl0 hB0 l2 hg2 ho2 hr;go_loopw [60] (λI wr=>∃(i:Nat) (cur:List Value),i<=XS.length/\I=.int .i64 (i:Nat)/\Hid (Blk wr r 49 cur)/\Hid (cur.length=XS.length*3)/\Hid (cur.take (i*3)=(XS.take i).flatMap W0a)/\Hid (Below w1.heap.size w1 wr)) (λI _=>XS.length-(intOf I).toNat)
    case atStart=>exact⟨0,cur0,Nat.zero_le _,rfl,HBK,HC0,(by show _=_;simp),L2⟩
    case round=>
     obtain⟨i,cur,hi,rfl,BR,CR,TR,LR⟩:=hrel
     rename World=>wr
     by_cases hlt:i<XS.length
     ·obtain⟨x,hx⟩:∃x,x=XS[i]:=⟨_,rfl⟩;have e2:(XS.map (·.name))[i]? = some x.name:=by rw[List.getElem?_map,List.getElem?_eq_getElem hlt,hx];rfl
      have hxt:XS.take (i+1)=XS.take i++[x]:=by rw[List.take_succ_eq_append_getElem hlt,hx]
      obtain⟨bb,oo,rfl,hbb,hc⟩:=(HH.out.below LR.out).cells (by omega);have gc:=hc i x.name e2;obtain⟨gz,fz⟩:=CF.out x (by rw[hx];exact List.getElem_mem hlt);have hstep:=step L1.out LR.out;obtain⟨⟨X,cf⟩,⟨_,_,j3⟩,_⟩:=fz wr hstep;have FZ:=hI fz;have CFI:=hI cf;have HXT:=hI hxt;have HON:=hI (a7a x);unfold W0a at HON;obtain⟨N0,hN0⟩:∃S:Value,S=V0a x.name:=⟨_,rfl⟩;have HCEL:Hid (W0a x=[N0,.int .u8 x.kind,.int .i64 (x.B.length:Nat)]):=by show _=_;rw[hN0];rfl
      have hN2:N0=.string ⟨x.name.toArray⟩:=by rw[hN0];rfl
      rw[<-hN0] at gc CFI HON;obtain⟨N1,hN1⟩:∃S:ByteArray,S=⟨x.name.toArray⟩:=⟨_,rfl⟩;rw[<-hN1] at hN2;subst hN2;obtain⟨xk,hxk⟩:∃u,u=x.kind:=⟨_,rfl⟩;obtain⟨xB,hxB⟩:∃u,u=x.B.length:=⟨_,rfl⟩;obtain⟨xn,hxn⟩:∃u,u=x.n:=⟨_,rfl⟩;rw[<-hxk,<-hxB] at FZ HCEL HON;rw[<-hxn] at FZ CFI;clear hx e2 hc fz cf hxt hN0 hN1 hxk hxB hxn CF;go_wp2_with fail;refine CFI.out.mono ?_;rintro e w3 ⟨rfl,l3⟩;have L3:=hI (step LR.out l3);have hB3:=BR.out.over l3;obtain⟨_,⟨j1,j2,_⟩,cs⟩:=FZ.out w3 (step L1.out L3.out);have CS:=hI cs;have B3:=hI hB3;clear l3 CFI gc hB3 cs BR;go_wp2_with fail;refine CS.out.mono ?_;rintro e w4 ⟨rfl,l4⟩;have L4:=hI (step L3.out l4);have B4:=hI (B3.out.over l4);have hfit3:Hid (i*3+3<=cur.length):=by show _<=_;rw[CR.out];omega
      clear l4 CS B3 L3 LR FZ;go_wp2_with(first
       | ((with_reducible refine sN 85 ?_);go_loud (refine A0a rfl _ _ rfl [.string N1,.int .u8 xk,.int .i64 (xB:Nat)] (by kernel_rfl) ?_))
       | ((with_reducible refine sT 86 ?_);go_loud (refine E9a rfl _ (.tmp 86) (.tmp 85) rfl r (i*3) rfl _ cur [.string N1,.int .u8 xk,.int .i64 (xB:Nat)] rfl B4 3 M2c rfl hfit3 HON ?_);intro w5 B5 O5 hg5)
       | fail)
      go_roundw
      case rel=>
       refine⟨i+1,_,by omega,by go_num,B5,?_,?_,L4.out.trans (O5.out.below (by rw[HR.out];exact Nat.le_refl _))⟩
       ·show _=_
        have:=CR.out;simp only[List.length_append,List.length_take,List.length_drop,List.length_cons,List.length_nil];omega
       ·show _=_
        have h1:(cur.take (i*3)).length=i*3:=by rw[List.length_take,CR.out];omega
        rw[HXT.out,List.flatMap_append,<-TR.out,show(i+1)*3=i*3+3 by omega,<-List.append_assoc,List.take_left' (by rw[List.length_append,h1];rfl),List.flatMap_singleton,HCEL.out]
      case measure=>simp only[intOf];omega
     ·have hi2:i=XS.length:=by omega
      subst hi2;have FO:Hid (j1a W0a 3 49 wr w.heap.size (.slice (some ⟨r,0,none⟩) XS.length XS.length) XS):=j1a.of_blk x2a (by rw[HR.out];exact L1.out.size) BR.out CR.out (by unfold maxLen;omega) rfl (Nat.le_refl _) (by rw[TR.out,List.take_length]);have LF:=hI (step L1.out LR.out);clear BR CR TR LR hlt;go_wp2_with fail;go_ret3;exact FIN.out _ _ FO.out LF.out
   ·unfold E6a at cl;rw[hE2] at cl;obtain⟨E,hEE⟩:∃E,E=Z3a V.l n p a k:=⟨_,rfl⟩;have FIN:Hid (∀w',Below w.heap.size w w'->d3a w V.l n p a k (.returned (.tuple #[.slice none 0 0,.bool false,.int .i64 E])) w'):=λw' hb=>d3a.err hEE.symm (by rw[hEE];exact h0) hb
    rw[<-hEE] at cl h0;have t:(E != 0)=true:=by simpa using h0
    have CL:=hI cl;obtain⟨g,hg⟩:∃g,g=y.2.g:=⟨_,rfl⟩;obtain⟨dq,hdq⟩:∃g,g=y.2.q:=⟨_,rfl⟩;rw[<-hg] at CN n0 n3;rw[<-hdq] at n3 CL;clear cl hEE h0 hE2 HE hLE dd kk hg hdq h hx eyx hyn hkk hP0 hA0 hP1 hA1;unfold R0a at CN⊢;unfold T1b at CL n3;go_enter Tryz.func19,Tryz.ntmps19;go_wp2_with fail;refine CN.out.mono ?_;rintro e w0 ⟨rfl,rfl⟩;go_wp2_with fail;refine CL.out.mono ?_;rintro e w1 ⟨v1,rfl,o1,l1⟩;have L1:=hI l1;clear l1 CL CN o1;go_wp2_with fail;go_ret3;exact FIN.out _ L1.out
  ·have n0:=h.p.n0 hy;rw[hk2] at n0;have FIN:Hid (∀w',Below w.heap.size w w'->d3a w V.l n p a k (.returned (.tuple #[.slice none 0 0,.bool false,.int .i64 9])) w'):=λw' hb=>d3a.err (by rw[HE,hkk,hk2];rfl) (by decide) hb
   obtain⟨g,hg⟩:∃g,g=y.2.g:=⟨_,rfl⟩;rw[<-hg] at CN n0;clear HE hg h hx eyx hyn hkk hP0 hA0 hP1 hA1;unfold R0a at CN⊢;go_enter Tryz.func19,Tryz.ntmps19;go_wp2_with fail;refine CN.out.mono ?_;rintro e w0 ⟨rfl,rfl⟩;go_wp2_with fail;go_ret3;exact FIN.out _ (Below.refl _ _)
end
def V0c(w:World)(b q:Nat)(L:List I0a)(S:Nat->Prop):Prop:=∃v m D,PDr w b q v m D L/\∀j,S j↔u7b q m v j
theorem V0c.turn{w w':World}{b q m:Nat}{v:Value}{S:Nat->Prop}{E:Int}{L':List I0a}{e:Ending}(hS:∀j,S j↔u7b q m v j)(h:e5a w b q m v L' (.int .i64 E) e w'):G2c V0c w b q S E L' e w':=by
 obtain⟨rfl,v',D',t⟩:=h;exact⟨rfl,u7b q m v',⟨v',m,D',t.d,λj=>Iff.rfl⟩,t.a.mono λj _ h=>(hS j).2 h,λj h=>by
  rcases t.n j h with h | h
  ·exact .inl ((hS j).2 h)
  ·exact .inr h⟩
theorem m3c(w:World)(b q:Nat)(L:List I0a)(v:Value)(m:Nat)(D:DataW Unit)(d:PDr w b q v m D L)(tb:F2a b w)(hb:b<=w.heap.size)(p a:ByteArray)(mo:Int)(hp:p.size<=1048576)(ha:a.size<=1048576)(hm:K4c mo) :
  Calls Tryz.prog 54 #[.pointer (some ⟨q,0,none⟩),.string p,.string a,.int .i64 mo] w (E6a w (s2b L p a mo) (t2b L p a mo) (B6a L p a mo)):=by
 by_cases h0:B6a L p a mo=0
 ·have hpos:0<=mo:=by
   rcases Int.lt_or_le mo 0 with h | h
   ·rw[o8a,if_pos h] at h0;cases h0
   ·exact h
  have e1:s2b L p a mo=(Y2a L p a).take mo.toNat:=if_pos h0;have e2:t2b L p a mo=decide (mo<((Y2a L p a).length:Int)):=if_pos h0;have e3:((mo.toNat:Nat):Int)=mo:=Int.toNat_of_nonneg hpos;rw[e1,e2,h0];have:=g3c w b q v m D L d hb tb p a hp ha mo.toNat (by rw[e3];exact hm) (by rw[e3];exact h0);rw[e3] at this;exact this
 ·have e1:s2b L p a mo=[]:=if_neg h0;have e2:t2b L p a mo=false:=if_neg h0;rw[e1,e2];exact N0c w b q v m D L d hb tb p a hp ha mo _ rfl h0
section
variable {P:Program} {ops:Array Oper} {md:Region.Mode} {S S':World->Prop} {Q:Exit->Act->World->Prop}
theorem b1a{op:Oper}{a:Act}(hw:Region.wanted op (yielded ops a.tmps)=true)(T:TypeId)(x:Operand)(ho:op.op=.load T x)(g i:Nat)(hx:a.eval x=.pointer (some ⟨g,i,none⟩))(cs:List Value)
(hS:∀w,S w->w.rangeAt g i cs)(n:Nat)(d:TypeDesc)(hu:P.underlying T=some d)(hd:d.isRow=true)(hi:(P.info? T).map (·.size)=some n)(hn:Hid (cs.length=n)):YieldsIf P ops S op (.agg cs.toArray) a:=
 .inl ⟨hw,λw hw'=>by unfold execOp;simp only[ho,hx,Instr.loadAt,Instr.sureAddr,Sem.run_bind,Sem.run_pure,Result.andThen_ok,run_loadVar_mid w g i T cs d (hS w hw') hu hd (by rw[hi,hn.out])]⟩
end
theorem L1a{w w':World}{B b i:Nat}{cs:List Value}(h:w.rangeAt b i cs)(hb:Below B w w')(hlt:b<B):w'.rangeAt b i cs:=λj v hj=>by rw[hb.cell (p:=⟨b,i+j,none⟩) hlt];exact h j v hj
structure Can (B:List Int) (P:Nat->Prop) (l:List (Nat×List Int)):Prop where
 full:∀e∈l,e.2≠[]
 ends:∀e∈l,e.1+e.2.length<=B.length
 have_:∀e∈l,e.2=(B.drop e.1).take e.2.length
 rise:l.Pairwise λe f=>e.1+e.2.length<f.1
 cover:∀i,P i↔∃e∈l,e.1<=i/\i<e.1+e.2.length
theorem Can.tail{B:List Int}{P:Nat->Prop}{x:Nat×List Int}{l:List (Nat×List Int)}(h:Can B P (x::l)):Can B (λi=>P i/\x.1+x.2.length<=i) l:=by
 obtain⟨p1,p2⟩:=List.pairwise_cons.1 h.rise;refine⟨λe he=>h.full e (List.mem_cons_of_mem _ he),λe he=>h.ends e (List.mem_cons_of_mem _ he),λe he=>h.have_ e (List.mem_cons_of_mem _ he),p2,λi=>⟨fun⟨hi,hx⟩=>?_,fun⟨e,he,h1,h2⟩=>⟨(h.cover i).2 ⟨e,List.mem_cons_of_mem _ he,h1,h2⟩,?_⟩⟩⟩
 ·obtain⟨e,he,h1,h2⟩:=(h.cover i).1 hi;rcases List.mem_cons.1 he with rfl | he
  ·omega
  ·exact⟨e,he,h1,h2⟩
 ·have:=p1 e he;omega
def mark(Z:List Bool)(i:Nat):Prop:=Z.getD i false=true
theorem z4c{Z:List Bool}{i:Nat}(h:mark Z i):i<Z.length:=by
 unfold mark at h;rw[List.getD_eq_getElem?_getD] at h;rcases Nat.lt_or_ge i Z.length with h1 | h1
 ·exact h1
 ·rw[List.getElem?_eq_none h1] at h;cases h
theorem d9a{α:Type}{z:α}{l m:List α}(hl:l.length=m.length)(h:∀i,i<l.length->l.getD i z=m.getD i z):l=m:=by
 refine List.ext_getElem hl λi h1 h2=>?_
 have:=h i h1;rw[List.getD_eq_getElem?_getD,List.getD_eq_getElem?_getD,List.getElem?_eq_getElem h1,List.getElem?_eq_getElem h2] at this;exact this
theorem N7a(B:List Int)(a n i:Nat)(hi:i<n):((B.drop a).take n).getD i 0=B.getD (a+i) 0:=by rw[List.getD_eq_getElem?_getD,List.getElem?_take,if_pos hi,List.getElem?_drop,<-List.getD_eq_getElem?_getD]
theorem o1b(B:List Int)(a n:Nat)(h:a+n<=B.length):((B.drop a).take n).length=n:=by rw[List.length_take,List.length_drop];omega
theorem Can.at{B:List Int}{P:Nat->Prop}{l:List (Nat×List Int)}(h:Can B P l){e:Nat×List Int}(he:e∈l){i:Nat}(hi:i<e.2.length):e.2.getD i 0=B.getD (e.1+i) 0:=by rw[<-N7a B e.1 e.2.length i hi,<-h.have_ e he]
theorem Can.same{B B':List Int}{P:Nat->Prop}{l:List (Nat×List Int)}(h:Can B P l){e:Nat×List Int}(he:e∈l)(hB:e.1+e.2.length<=B'.length)(hs:∀i,e.1<=i->i<e.1+e.2.length->B'.getD i 0=B.getD i 0):e.2=(B'.drop e.1).take e.2.length:=by
 refine d9a (z:=0) (by rw[o1b _ _ _ hB]) λi hi=>?_
 rw[N7a _ _ _ _ hi,hs _ (by omega) (by omega),h.at he hi]
theorem Can.lt{B:List Int}{P:Nat->Prop}{l:List (Nat×List Int)}(h:Can B P l){i j:Nat}{e f:Nat×List Int}(hi:l[i]? = some e)(hj:l[j]? = some f)(hij:i<j):e.1+e.2.length<f.1:=by obtain⟨a1,a2⟩:=List.getElem?_eq_some_iff.1 hi;obtain⟨b1,b2⟩:=List.getElem?_eq_some_iff.1 hj;have:=List.pairwise_iff_getElem.1 h.rise i j a1 b1 hij;rw[a2,b2] at this;exact this
theorem b8a{α:Type}{l:List α}{x:α}(h:x∈l):∃i,i<l.length/\l[i]? = some x:=by obtain⟨i,hi,e⟩:=List.mem_iff_getElem.1 h;exact⟨i,hi,by rw[List.getElem?_eq_getElem hi,e]⟩
theorem u6a{α:Type}{l:List α}{x:α}{f:Nat}(h:x∈l.take f):∃i,i<f/\l[i]? = some x:=by obtain⟨i,hi,e⟩:=b8a h;rw[List.length_take] at hi;exact⟨i,by omega,by rwa [List.getElem?_take,if_pos (by omega)] at e⟩
theorem p1b{α:Type}{l:List α}{x:α}{f:Nat}(h:x∈l.drop f):∃i,f<=i/\l[i]? = some x:=by obtain⟨i,hi,e⟩:=b8a h;rw[List.getElem?_drop] at e;exact⟨f+i,by omega,e⟩
theorem q1b{α:Type}{l:List α}{x:α}{f i:Nat}(h:l[i]? = some x)(hi:i<f):x∈l.take f:=by refine List.mem_of_getElem? (i:=i) ?_;rw[List.getElem?_take,if_pos hi,h]
theorem l6b{α:Type}{l:List α}{x:α}{f i:Nat}(h:l[i]? = some x)(hi:f<=i):x∈l.drop f:=by refine List.mem_of_getElem? (i:=i-f) ?_;rw[List.getElem?_drop,show f+(i-f)=i by omega,h]
theorem Can.put{B B':List Int}{P P':Nat->Prop}{l:List (Nat×List Int)}(k:Can B P l){f h a t:Nat}{x:List Int}(hfh:f<=h)(hat:a<t)(htB:t<=B'.length)(hBB:B.length<=B'.length)
(hx:x=(B'.drop a).take (t-a))(hlo:∀i e,i<f->l[i]? = some e->e.1+e.2.length<a)(hhi:∀i e,h<=i->l[i]? = some e->t<e.1)
(hmid:∀i e,f<=i->i<h->l[i]? = some e->a<=e.1/\e.1+e.2.length<=t)
(hP:∀i,P' i↔(a<=i/\i<t)∨P i)(hsame:∀i,i<a∨t<=i->i<B.length->B'.getD i 0=B.getD i 0):Can B' P' (l.take f++[(a,x)]++l.drop h):=by
 have hxl:x.length=t-a:=by rw[hx,o1b _ _ _ (by omega)]
 have hmem:∀e,e∈l.take f++[(a,x)]++l.drop h->(e∈l/\(e.1+e.2.length<a∨t<e.1))∨e=(a,x):=λe he=>by
  rcases List.mem_append.1 he with he | he
  ·rcases List.mem_append.1 he with he | he
   ·obtain⟨i,hi,hl⟩:=u6a he;exact .inl ⟨List.mem_of_mem_take he,.inl (hlo i e hi hl)⟩
   ·exact .inr (List.mem_singleton.1 he)
  ·obtain⟨i,hi,hl⟩:=p1b he;exact .inl ⟨List.mem_of_mem_drop he,.inr (hhi i e hi hl)⟩
 refine⟨λe he=>?_,λe he=>?_,λe he=>?_,?_,λi=>?_⟩
 ·rcases hmem e he with⟨h1,_⟩ | rfl
  ·exact k.full e h1
  ·exact List.length_pos_iff.1 (by show 0<x.length;omega)
 ·rcases hmem e he with⟨h1,_⟩ | rfl
  ·have:=k.ends e h1;omega
  ·show a+x.length<=_
   omega
 ·rcases hmem e he with⟨h1,h2⟩ | rfl
  ·have h3:=k.ends e h1;exact k.same h1 (by omega) λi i1 i2=>hsame i (by omega) (by omega)
  ·show x=(B'.drop a).take x.length
   rw[hxl,<-hx]
 ·have p1:(l.take f).Pairwise λe f=>e.1+e.2.length<f.1:=k.rise.sublist (List.take_sublist _ _)
  have p2:(l.drop h).Pairwise λe f=>e.1+e.2.length<f.1:=k.rise.sublist (List.drop_sublist _ _)
  refine List.pairwise_append.2 ⟨List.pairwise_append.2 ⟨p1,List.pairwise_singleton _ _,λe he g hg=>?_⟩,p2,λe he g hg=>?_⟩
  ·rw[List.mem_singleton.1 hg];obtain⟨i,hi,hl⟩:=u6a he;exact hlo i e hi hl
  ·obtain⟨j,hj,hlj⟩:=p1b hg;rcases List.mem_append.1 he with he | he
   ·obtain⟨i,hi,hl⟩:=u6a he;exact k.lt hl hlj (by omega)
   ·rw[List.mem_singleton.1 he];have:=hhi j g hj hlj;show a+x.length<_
    omega
 ·rw[hP i,k.cover i];constructor
  ·rintro(h1 | ⟨e,he,h1,h2⟩)
   ·exact⟨(a,x),List.mem_append_left _ (List.mem_append_right _ (List.mem_singleton.2 rfl)),h1.1,by show i<a+x.length;omega⟩
   ·obtain⟨j,hj,hl⟩:=b8a he;by_cases hjf:j<f
    ·exact⟨e,List.mem_append_left _ (List.mem_append_left _ (q1b hl hjf)),h1,h2⟩
    ·by_cases hjh:j<h
     ·obtain⟨m1,m2⟩:=hmid j e (by omega) hjh hl;exact⟨(a,x),List.mem_append_left _ (List.mem_append_right _ (List.mem_singleton.2 rfl)),by show a<=i;omega,by show i<a+x.length;omega⟩
     ·exact⟨e,List.mem_append_right _ (l6b hl (by omega)),h1,h2⟩
  ·rintro⟨e,he,h1,h2⟩;rcases hmem e he with⟨h3,_⟩ | rfl
   ·exact .inr ⟨e,h3,h1,h2⟩
   ·exact .inl ⟨h1,by have:i<a+x.length:=h2;omega⟩
theorem Can.cutOff{B B':List Int}{P P':Nat->Prop}{l:List (Nat×List Int)}(k:Can B P l){f s:Nat}(hlo:∀i e,i<f->l[i]? = some e->e.1<s)(hhi:∀i e,f<=i->l[i]? = some e->s<=e.1)
(hB:s<=B'.length)(hP:∀i,P' i↔i<s/\P i)(hsame:∀i,i<s->B'.getD i 0=B.getD i 0):Can B' P' ((l.take f).map λe=>(e.1,e.2.take (s-e.1))):=by
 have hmem:∀y,y∈(l.take f).map (λe=>(e.1,e.2.take (s-e.1)))->∃e,e∈l/\e.1<s/\y=(e.1,e.2.take (s-e.1)):=λy hy=>by obtain⟨e,he,rfl⟩:=List.mem_map.1 hy;obtain⟨i,hi,hl⟩:=u6a he;exact⟨e,List.mem_of_mem_take he,hlo i e hi hl,rfl⟩
 refine⟨λy hy=>?_,λy hy=>?_,λy hy=>?_,?_,λi=>?_⟩
 ·obtain⟨e,he,h1,rfl⟩:=hmem y hy;have:=List.length_pos_iff.2 (k.full e he);exact List.length_pos_iff.1 (by show 0<(e.2.take (s-e.1)).length;rw[List.length_take];omega)
 ·obtain⟨e,he,h1,rfl⟩:=hmem y hy;show e.1+(e.2.take (s-e.1)).length<=_
  rw[List.length_take];omega
 ·obtain⟨e,he,h1,rfl⟩:=hmem y hy;show e.2.take (s-e.1)=(B'.drop e.1).take (e.2.take (s-e.1)).length
  have hl:(e.2.take (s-e.1)).length=min (s-e.1) e.2.length:=List.length_take;refine d9a (z:=0) (by rw[o1b _ _ _ (by omega)]) λi hi=>?_
  rw[N7a _ _ _ _ hi,hsame _ (by omega),List.getD_eq_getElem?_getD,List.getElem?_take,if_pos (by omega),<-List.getD_eq_getElem?_getD,k.at he (by omega)]
 ·refine List.pairwise_map.2 ?_;refine(k.rise.sublist (List.take_sublist f l)).imp fun {e g} h=>?_
  show e.1+(e.2.take (s-e.1)).length<g.1
  rw[List.length_take];omega
 ·rw[hP i,k.cover i];constructor
  ·rintro⟨hi,e,he,h1,h2⟩;obtain⟨j,hj,hl⟩:=b8a he;have hjf:j<f:=by
    rcases Nat.lt_or_ge j f with h | h
    ·exact h
    ·have:=hhi j e h hl;omega
   refine⟨_,List.mem_map.2 ⟨e,q1b hl hjf,rfl⟩,h1,?_⟩;show i<e.1+(e.2.take (s-e.1)).length
   rw[List.length_take];omega
  ·rintro⟨y,hy,h1,h2⟩;obtain⟨e,he,h3,rfl⟩:=hmem y hy;have h2:i<e.1+(e.2.take (s-e.1)).length:=h2;have h1:e.1<=i:=h1;rw[List.length_take] at h2;exact⟨by omega,e,he,h1,by omega⟩
structure J5a (w:World) (base q:Nat) (v:Value) (l:List O2a) (B:List Int) (Z:List Bool):Prop where
 ge:base<=q
 blk:Blk w q 156 [.bool true,.int .i64 (B.length:Nat),v]
 row:j1a t0a 2 158 w base v l
 each:∀x∈l,V7a false w base (o3a x.2) x.2.2.2.2
 can:Can B (mark Z) (g4a l)
 zero:∀i,¬mark Z i->B.getD i 0=0
 len:B.length=Z.length
 small:B.length<=65536
 byte:Bytes B
def pdS(q:Nat)(v:Value)(l:List O2a):Nat->Prop:=λj=>j=q∨v.ownBlock=some j∨∃x∈l,(o3a x.2).ownBlock=some j
theorem Can.count{B:List Int}{P:Nat->Prop}{l:List (Nat×List Int)}(h:Can B P l){i:Nat}{e:Nat×List Int}(he:l[i]? = some e):i<=e.1:=by
 induction i generalizing e with
 | zero=>exact Nat.zero_le _
 | succ i ih=>have hl:=(List.getElem?_eq_some_iff.1 he).1;have h3:l[i]? = some l[i]:=List.getElem?_eq_getElem (by omega);have h1:=ih h3;have h2:=h.lt h3 he (by omega);omega
theorem Can.len_le{B:List Int}{P:Nat->Prop}{l:List (Nat×List Int)}(h:Can B P l):l.length<=B.length:=by
 rcases Nat.eq_zero_or_pos l.length with h0 | h0
 ·omega
 ·have hlt:l.length-1<l.length:=by omega
  have h3:l[l.length-1]? = some l[l.length-1]:=List.getElem?_eq_getElem hlt;have h1:=h.count h3;have h2:=h.ends _ (List.mem_of_getElem? h3);have h4:0<l[l.length-1].2.length:=List.length_pos_iff.2 (h.full _ (List.mem_of_getElem? h3));omega
theorem W0c{α:Type}(p:α->Bool):∀(l:List α),(∀(i j:Nat) x y,i<j->l[i]? = some x->l[j]? = some y->p x=true->p y=true)->∃k,k<=l.length/\(∀(i:Nat) x,i<k->l[i]? = some x->p x=false)/\(∀(i:Nat) x,k<=i->l[i]? = some x->p x=true)
 | [],_=>⟨0,Nat.le_refl _,λi _ (h:i<0)=>absurd h (Nat.not_lt_zero i),λ_ _ _ h=>by cases h⟩
 | x::r,h=>by
  cases hx:p x with
  | true=>
   refine⟨0,Nat.zero_le _,λi _ (h:i<0)=>absurd h (Nat.not_lt_zero i),λi y _ hy=>?_⟩;cases i with
   | zero=>injection hy with hy;subst hy;exact hx
   | succ i=>exact h 0 (i+1) x y (by omega) rfl hy hx
  | false=>
   obtain⟨k,h1,h2,h3⟩:=W0c p r λi j x y hij hi hj=>h (i+1) (j+1) x y (by omega) hi hj
   refine⟨k+1,by simp;omega,λi y hi hy=>?_,λi y hi hy=>?_⟩
   ·cases i with
    | zero=>injection hy with hy;subst hy;exact hx
    | succ i=>exact h2 i y (by omega) hy
   ·cases i with
    | zero=>omega
    | succ i=>exact h3 i y (by omega) hy
section
variable {w w':World} {base base' q:Nat} {v:Value} {l:List O2a} {B:List Int} {Z:List Bool} {S:Nat->Prop}
theorem J5a.spare(h:J5a w base q v l B Z)(a:g0a S w w')(hs:∀j,pdS q v l j->¬S j):J5a w' base q v l B Z:=⟨h.ge,h.blk.spare a (hs q (.inl rfl)),h.row.sparS a λi hi=>hs i (.inr (.inl hi)),λx hx=>(h.each x hx).spare a λi hi=>hs i (.inr (.inr ⟨x,hx,hi⟩)),h.can,h.zero,h.len,h.small,h.byte⟩
theorem J5a.below(h:J5a w base q v l B Z)(hb:Below w.heap.size w w'):J5a w' base q v l B Z:=h.spare (g0a.of_over (λ_=>False) hb) λ_ _ h=>h
theorem J5a.mono(h:J5a w base q v l B Z)(hb:base'<=base):J5a w base' q v l B Z:=⟨Nat.le_trans hb h.ge,h.blk,h.row.mono hb,λx hx=>(h.each x hx).mono hb,h.can,h.zero,h.len,h.small,h.byte⟩
theorem J5a.set_ge(h:J5a w base q v l B Z):∀j,pdS q v l j->base<=j/\j<w.heap.size:=λj hj=>by
 rcases hj with rfl | hj | ⟨x,hx,hj⟩
 ·exact⟨h.ge,h.blk.lt⟩
 ·exact⟨(h.row.block hj).1,h.row.lt hj⟩
 ·obtain⟨h1,cs,h2⟩:=(h.each x hx).1.block hj;exact⟨h1,(Array.getElem?_eq_some_iff.1 h2).1⟩
theorem J5a.lenS(h:J5a w base q v l B Z):l.length<=65536:=by have h1:=h.can.len_le;rw[F4b] at h1;have:=h.small;omega
theorem J5a.lst(h:J5a w base q v l B Z):∃A n c,v=.slice A n c/\U1b w w.heap.size A n c l:=by
 obtain⟨A,n,c,rfl,hh⟩:=h.row.holds (by decide) D0a;refine⟨A,n,c,rfl,hh,λx hx=>(h.each x hx).holds ?_ ?_⟩
 ·have:=h.can.have_ (x.1,x.2.2.2.2) (List.mem_map.2 ⟨x,hx,rfl⟩);simp only at this;rw[this];exact(h.byte.drop _).take _
 ·have:=h.can.ends (x.1,x.2.2.2.2) (List.mem_map.2 ⟨x,hx,rfl⟩);have h2:=h.small;simp only at this;omega
end
theorem h7a(w:World)(a n c:Nat)(A:Option Addr)(ha:a<=4611686018427387903)(hn:n<=4611686018427387903) :
  Calls Tryz.prog 122 #[.agg #[.int .i64 (a:Nat),.slice A n c]] w λe w'=>e=.returned (.int .i64 ((a+n:Nat):Int))/\Below w.heap.size w w':=by
 obtain⟨t,ht⟩:∃t,t=a+n:=⟨_,rfl⟩;have hadd:IntKind.i64.wrap ((a:Int)+(n:Int))=(t:Int):=by rw[IntKind.wrap_i64];omega
 rw[<-ht];clear ht;go_enter Tryz.func122,Tryz.ntmps122;go_wp2_with(first
  | ((with_reducible refine sN 1 ?_);refine v0a rfl _ (.tmp 0) rfl [.int .i64 (a:Nat),.slice A n c] rfl ?_;intro g w1 hg1 hg2 B1 L1;have c0:w1.cell? ⟨g,0,none⟩=some (.int .i64 (a:Nat)):=B1.out.cell 0;have c1:w1.cell? ⟨g,1,none⟩=some (.slice A n c):=B1.out.cell 1)
  | fail)
 go_ret;exact⟨rfl,L1.out⟩
theorem lt_of_cell{w:World}{p:Addr}{v:Value}(h:w.cell? p=some v):p.block<w.heap.size:=by
 rcases Nat.lt_or_ge p.block w.heap.size with h' | h'
 ·exact h'
 ·simp[World.cell?,Array.getElem?_eq_none h'] at h
structure EdC (w:World) (p1 p2 q g n c i:Nat) (a:Int) (xa:Nat) (xA:Option Addr) (xn xc:Nat):Prop where
 c1:w.cell? ⟨p1,0,none⟩=some (ptr q)
 c2:w.cell? ⟨p2,0,none⟩=some (.int .i64 a)
 c3:w.cell? ⟨q,2,none⟩=some (.slice (some ⟨g,0,none⟩) n c)
 c4:w.cell? ⟨g,i*2,none⟩=some (.int .i64 (xa:Nat))
 c5:w.cell? ⟨g,i*2+1,none⟩=some (.slice xA xn xc)
theorem EdC.below{w w':World}{p1 p2 q g n c i xa xn xc:Nat}{a:Int}{xA:Option Addr}(h:EdC w p1 p2 q g n c i a xa xA xn xc)(hb:Below w.heap.size w w'):EdC w' p1 p2 q g n c i a xa xA xn xc:=⟨(hb.cell (lt_of_cell h.c1)).trans h.c1,(hb.cell (lt_of_cell h.c2)).trans h.c2,(hb.cell (lt_of_cell h.c3)).trans h.c3,(hb.cell (lt_of_cell h.c4)).trans h.c4,(hb.cell (lt_of_cell h.c5)).trans h.c5⟩
theorem EdC.range{w:World}{p1 p2 q g n c i xa xn xc:Nat}{a:Int}{xA:Option Addr}(h:EdC w p1 p2 q g n c i a xa xA xn xc):w.rangeAt g (i*2) [.int .i64 (xa:Nat),.slice xA xn xc]:=λj u hj=>by
 match j,hj with
 | 0,hj=>injection hj with hj;subst hj;exact h.c4
 | 1,hj=>injection hj with hj;subst hj;exact h.c5
theorem n3c(w:World)(p1 p2 q g n c i:Nat)(a:Int)(xa:Nat)(xA:Option Addr)(xn xc:Nat)(h:EdC w p1 p2 q g n c i a xa xA xn xc)(hi:i<n)(hxa:xa<=4611686018427387903)(hxn:xn<=4611686018427387903) :
  Calls Tryz.prog 161 #[.int .i64 (i:Nat),.pointer (some ⟨p1,0,none⟩),.pointer (some ⟨p2,0,none⟩)] w λe w'=>e=.returned (.bool (decide (a<((xa+xn:Nat):Int))))/\Below w.heap.size w w':=by
 go_enter Tryz.func161,Tryz.ntmps161;go_upto_region 1 with fail
 refine wp_region_held (S:=λw'=>EdC w' p1 p2 q g n c i a xa xA xn xc) (by kernel_rfl) ?_;change wpAnyH _ _ _ _ _ _ _ _ w.drew
 have Sr0:Hid (EdC w.drew p1 p2 q g n c i a xa xA xn xc):=h.below (Below.refl _ _).drew;have br0:Hid (True):=trivial;refine tK 0 _ rfl (b0a (by kernel_rfl) _ (.tmp 1) rfl p1 (0) (by kernel_rfl) (ptr q) (λ_ h=>h.c1) _ Tryz.underlying85 rfl) Sr0.out ?_;refine tK 1 _ rfl (p0a (by kernel_rfl) (.tmp 5) rfl ⟨q,0,none⟩ (by kernel_rfl)) Sr0.out ?_;refine tK 2 _ rfl (e0a (by kernel_rfl) _ (.tmp 6) 2 rfl (.pointer (some ⟨q,0,none⟩)) (.pointer (some ⟨q,2,none⟩)) (by kernel_rfl) (λw=>by go_simp)) Sr0.out ?_;refine tK 3 _ rfl (b0a (by kernel_rfl) _ (.tmp 7) rfl q (2) (by kernel_rfl) (.slice (some ⟨g,0,none⟩) n c) (λ_ h=>h.c3) _ Tryz.underlying154 rfl) Sr0.out ?_;refine tK 4 _ rfl (a0a (by kernel_rfl) (.tmp 0) rfl (.int .i64 (i:Nat)) (by kernel_rfl)) Sr0.out ?_;refine tK 5 (.pointer (some ⟨g,i*2,none⟩)) rfl (.inl ⟨by kernel_rfl,λw _=>by go_simp⟩) Sr0.out ?_;refine tK 6 _ rfl (b1a (by kernel_rfl) _ (.tmp 10) rfl g (i*2) (by kernel_rfl) [.int .i64 (xa:Nat),.slice xA xn xc] (λ_ h=>h.range) 2 _ Tryz.underlying158 rfl size_ext (rfl:Hid ([Value.int .i64 (xa:Nat),.slice xA xn xc].length=2))) Sr0.out ?_;refine tK 8 _ rfl (b0a (by kernel_rfl) _ (.tmp 2) rfl p2 (0) (by kernel_rfl) (.int .i64 a) (λ_ h=>h.c2) _ Tryz.underlying3 rfl) Sr0.out ?_;refine oN 7 _ rfl λK hK=>?_
 go_simp;refine(h7a _ xa xn xc xA hxa hxn).mono ?_;rintro e vr1 ⟨rfl,l1⟩;have Sr1:Hid (EdC vr1 p1 p2 q g n c i a xa xA xn xc):=Sr0.out.below l1;have br1:Hid (True):=trivial;have L1:=hI l1;clear l1;refine hK _ _ Sr1.out ?_;clear hK K;refine tK 9 (.bool (decide (a<((xa+xn:Nat):Int)))) rfl (.inl ⟨by kernel_rfl,λw _=>by go_simp⟩) Sr1.out ?_;refine oN 10 _ rfl λK hK=>?_
 go_simp;refine hK _ _ Sr1.out ?_;clear hK K;refine dN ?_;go_wp2_with fail;go_ret;exact⟨rfl,((Below.refl w.heap.size w).drew).trans L1.out⟩
theorem o3c(w:World)(p1 p2 q g n c i:Nat)(a:Int)(xa:Nat)(xA:Option Addr)(xn xc:Nat)(h:EdC w p1 p2 q g n c i a xa xA xn xc)(hi:i<n) :
  Calls Tryz.prog 162 #[.int .i64 (i:Nat),.pointer (some ⟨p1,0,none⟩),.pointer (some ⟨p2,0,none⟩)] w λe w'=>e=.returned (.bool (decide (a<=(xa:Int))))/\Below w.heap.size w w':=by
 have c1:=h.c1;have c2:=h.c2;have c3:=h.c3;have c4:=h.c4;unfold ptr at c1;clear h;go_enter Tryz.func162,Tryz.ntmps162;go_upto_region 1 with fail
 go_quiet (fail);go_wp2_with fail;go_ret;exact⟨rfl,E0a w _⟩
def e9a(l:List O2a)(a:Int)(i:Nat):Bool:=match l[i]? with
 | some x=>decide (a<((x.1+x.2.2.1:Nat):Int))
 | none=>false
def r1b(l:List O2a)(a:Int)(i:Nat):Bool:=match l[i]? with
 | some x=>decide (a<=(x.1:Int))
 | none=>false
theorem M3b(w:World)(q:Nat)(h:w.cell? ⟨q,0,none⟩=some (.bool true)):Calls Tryz.prog 110 #[.pointer (some ⟨q,0,none⟩)] w λe w'=>e=.returned (.bool false)/\w=w':=by go_enter Tryz.func110,Tryz.ntmps110;go_wp2_with fail;go_ret;exact⟨rfl,rfl⟩
theorem p3c(w:World)(q n:Nat)(h:w.cell? ⟨q,1,none⟩=some (.int .i64 (n:Nat))):Calls Tryz.prog 61 #[.pointer (some ⟨q,0,none⟩)] w λe w'=>e=.returned (.int .i64 (n:Nat))/\∃k,w.drewN k=w':=by go_enter Tryz.func61,Tryz.ntmps61;go_wp2_with fail;go_ret;exact⟨rfl,0,rfl⟩
theorem X0c:Tryz.prog.built 156 [(0,.bool true)]=some ([.bool true,.int .i64 0,.slice none 0 0]:List Value).toArray:=by kernel_rfl
theorem A4c(w:World):Calls Tryz.prog 121 #[] w λe w'=>∃q,e=.returned (ptr q)/\J5a w' w.heap.size q (.slice none 0 0) [] [] []/\Below w.heap.size w w':=by
 go_enter Tryz.func121,Tryz.ntmps121;go_wp2_with(first
  | ((with_reducible refine sN 1 ?_);refine A0a rfl _ _ rfl [.bool true,.int .i64 0,.slice none 0 0] X0c ?_)
  | ((with_reducible refine sN 2 ?_);refine v0a rfl _ (.tmp 1) rfl [.bool true,.int .i64 0,.slice none 0 0] rfl ?_;intro q w1 hg1 hg2 B1 L1)
  | fail)
 go_ret;exact⟨q,rfl,⟨hg1,B1.out,j1a.nil _ _ _ _ _,(λx h=>by cases h),⟨(λe h=>by cases h),(λe h=>by cases h),(λe h=>by cases h),List.Pairwise.nil,λi=>⟨(λh=>by cases h),(fun⟨e,h,_⟩=>by cases h)⟩⟩,(λi _=>rfl),rfl,by simp,Bytes.nil⟩,L1.out⟩
theorem J2b(w:World)(base q:Nat)(v:Value)(l:List O2a)(B:List Int)(Z:List Bool)(h:J5a w base q v l B Z)(a:Int)(k:Nat)(hk:k<=l.length)
(h0:∀(i:Nat) x,i<k->l[i]? = some x->¬a<((x.1+x.2.2.1:Nat):Int))(h1:∀(i:Nat) x,k<=i->l[i]? = some x->a<((x.1+x.2.2.1:Nat):Int)) :
  Calls Tryz.prog 111 #[ptr q,.int .i64 a] w λe w'=>e=.returned (.int .i64 (k:Nat))/\Below w.heap.size w w':=by
 have hmf:∀(fn:Fn) (first cap:Array Value) (w:World),(Instr.makeFunc fn first cap).run Tryz.prog w=.ok (.func fn first cap) w:=λ_ _ _ _=>rfl
 have hsm:=h.lenS;obtain⟨A,n,c,rfl,hx⟩:=h.lst;have hn:l.length=n:=hx.len;have k2:w.cell? ⟨q,2,none⟩=some (.slice A n c):=h.blk.cell 2;have HX:=hI hx;have CS:Hid (∀w1 p1 p2,Below w.heap.size w w1->w1.cell? ⟨p1,0,none⟩=some (ptr q)->w1.cell? ⟨p2,0,none⟩=some (.int .i64 a)->Calls Tryz.prog 144 #[.int .i64 (n:Nat),.func (.func 161) #[] #[.pointer (some ⟨p1,0,none⟩),.pointer (some ⟨p2,0,none⟩)]] w1 λe w'=>e=.returned (.int .i64 (k:Nat))/\Below w1.heap.size w1 w'):=λw1 p1 p2 hb e1 e2=>by
  refine G7a w1 161 (enters_of Tryz.func161 (by kernel_rfl) rfl) _ _ n k (e9a l a) (by omega) (by omega) (λi hi=>?_) (λi hi hin=>?_) λw2 i hb2 hi=>?_
  ·have hl:l[i]? = some l[i]:=List.getElem?_eq_getElem (by omega);unfold e9a;rw[hl];exact decide_eq_false (h0 i _ hi hl)
  ·have hl:l[i]? = some l[i]:=List.getElem?_eq_getElem (by omega);unfold e9a;rw[hl];exact decide_eq_true (h1 i _ hi hl)
  ·obtain⟨g,c',hg⟩:=h.row.form (show 0<l.length by omega)
   ·injection hg with hg _ _
    subst hg;obtain⟨b,off,x,e,_,hl,f1,f2,hy⟩:=HX.out.at hi;injection e with e
    injection e with e3 e4
    subst e3 e4;rw[Nat.zero_add] at f1 f2;have hb3:Below w.heap.size w w2:=hb.trans (hb2.mono hb.size);have hm:(x.1,x.2.2.2.2)∈g4a l:=List.mem_map.2 ⟨x,List.mem_of_getElem? hl,rfl⟩;have h5:=h.can.ends (x.1,x.2.2.2.2) hm;have h6:=h.small;have h7:=hy.len;simp only at h5;have hE:EdC w2 p1 p2 q g n c i a x.1 x.2.1 x.2.2.1 x.2.2.2.1:=⟨(hb2.cell (lt_of_cell e1)).trans e1,(hb2.cell (lt_of_cell e2)).trans e2,(hb3.cell (lt_of_cell k2)).trans k2,(hb3.cell (lt_of_cell f1)).trans f1,(hb3.cell (lt_of_cell f2)).trans f2⟩;have hp:e9a l a i=decide (a<((x.1+x.2.2.1:Nat):Int)):=by unfold e9a;rw[hl]
    rw[hp];exact n3c w2 p1 p2 q g n c i a x.1 x.2.1 x.2.2.1 x.2.2.2.1 hE hi (by omega) (by omega)
 clear h h0 h1 hx HX;unfold ptr at CS⊢;go_enter Tryz.func111,Tryz.ntmps111;go_wp2_with(first
  | ((with_reducible refine sN 2 ?_);refine w0a rfl _ (.tmp 0) rfl (.pointer (some ⟨q,0,none⟩)) rfl rfl ?_;intro p1 w1 hg1 hg2 B1 L1)
  | ((with_reducible refine sN 3 ?_);refine w0a rfl _ (.tmp 1) rfl (.int .i64 a) rfl rfl ?_;intro p2 w2 hg3 hg4 B2 L2;have L3:=hI (L1.out.trans (L2.out.mono L1.out.size));have c1:w2.cell? ⟨p1,0,none⟩=some (.pointer (some ⟨q,0,none⟩)):=(B1.out.over L2.out).cell 0;have c2:w2.cell? ⟨p2,0,none⟩=some (.int .i64 a):=B2.out.cell 0;have c3:w2.cell? ⟨q,2,none⟩=some (.slice A n c):=(L3.out.cell (lt_of_cell k2)).trans k2)
  | fail)
 refine(CS.out w2 p1 p2 L3.out c1 c2).mono ?_;rintro e w3 ⟨rfl,l3⟩;have L4:=hI (L3.out.trans (l3.mono L3.out.size));clear l3;go_wp2_with fail;go_ret;exact⟨rfl,L4.out⟩
theorem s1b(w:World)(base q:Nat)(v:Value)(l:List O2a)(B:List Int)(Z:List Bool)(h:J5a w base q v l B Z)(a:Int)(k:Nat)(hk:k<=l.length)
(h0:∀(i:Nat) x,i<k->l[i]? = some x->¬a<=(x.1:Int))(h1:∀(i:Nat) x,k<=i->l[i]? = some x->a<=(x.1:Int)) :
  Calls Tryz.prog 112 #[ptr q,.int .i64 a] w λe w'=>e=.returned (.int .i64 (k:Nat))/\Below w.heap.size w w':=by
 have hmf:∀(fn:Fn) (first cap:Array Value) (w:World),(Instr.makeFunc fn first cap).run Tryz.prog w=.ok (.func fn first cap) w:=λ_ _ _ _=>rfl
 have hsm:=h.lenS;obtain⟨A,n,c,rfl,hx⟩:=h.lst;have hn:l.length=n:=hx.len;have k2:w.cell? ⟨q,2,none⟩=some (.slice A n c):=h.blk.cell 2;have HX:=hI hx;have CS:Hid (∀w1 p1 p2,Below w.heap.size w w1->w1.cell? ⟨p1,0,none⟩=some (ptr q)->w1.cell? ⟨p2,0,none⟩=some (.int .i64 a)->Calls Tryz.prog 144 #[.int .i64 (n:Nat),.func (.func 162) #[] #[.pointer (some ⟨p1,0,none⟩),.pointer (some ⟨p2,0,none⟩)]] w1 λe w'=>e=.returned (.int .i64 (k:Nat))/\Below w1.heap.size w1 w'):=λw1 p1 p2 hb e1 e2=>by
  refine G7a w1 162 (enters_of Tryz.func162 (by kernel_rfl) rfl) _ _ n k (r1b l a) (by omega) (by omega) (λi hi=>?_) (λi hi hin=>?_) λw2 i hb2 hi=>?_
  ·have hl:l[i]? = some l[i]:=List.getElem?_eq_getElem (by omega);unfold r1b;rw[hl];exact decide_eq_false (h0 i _ hi hl)
  ·have hl:l[i]? = some l[i]:=List.getElem?_eq_getElem (by omega);unfold r1b;rw[hl];exact decide_eq_true (h1 i _ hi hl)
  ·obtain⟨g,c',hg⟩:=h.row.form (show 0<l.length by omega)
   ·injection hg with hg _ _
    subst hg;obtain⟨b,off,x,e,_,hl,f1,f2,hy⟩:=HX.out.at hi;injection e with e
    injection e with e3 e4
    subst e3 e4;rw[Nat.zero_add] at f1 f2;have hb3:Below w.heap.size w w2:=hb.trans (hb2.mono hb.size);have hm:(x.1,x.2.2.2.2)∈g4a l:=List.mem_map.2 ⟨x,List.mem_of_getElem? hl,rfl⟩;have h5:=h.can.ends (x.1,x.2.2.2.2) hm;have h6:=h.small;have h7:=hy.len;simp only at h5;have hE:EdC w2 p1 p2 q g n c i a x.1 x.2.1 x.2.2.1 x.2.2.2.1:=⟨(hb2.cell (lt_of_cell e1)).trans e1,(hb2.cell (lt_of_cell e2)).trans e2,(hb3.cell (lt_of_cell k2)).trans k2,(hb3.cell (lt_of_cell f1)).trans f1,(hb3.cell (lt_of_cell f2)).trans f2⟩;have hp:r1b l a i=decide (a<=(x.1:Int)):=by unfold r1b;rw[hl]
    rw[hp];exact o3c w2 p1 p2 q g n c i a x.1 x.2.1 x.2.2.1 x.2.2.2.1 hE hi
 clear h h0 h1 hx HX;unfold ptr at CS⊢;go_enter Tryz.func112,Tryz.ntmps112;go_wp2_with(first
  | ((with_reducible refine sN 2 ?_);refine w0a rfl _ (.tmp 0) rfl (.pointer (some ⟨q,0,none⟩)) rfl rfl ?_;intro p1 w1 hg1 hg2 B1 L1)
  | ((with_reducible refine sN 3 ?_);refine w0a rfl _ (.tmp 1) rfl (.int .i64 a) rfl rfl ?_;intro p2 w2 hg3 hg4 B2 L2;have L3:=hI (L1.out.trans (L2.out.mono L1.out.size));have c1:w2.cell? ⟨p1,0,none⟩=some (.pointer (some ⟨q,0,none⟩)):=(B1.out.over L2.out).cell 0;have c2:w2.cell? ⟨p2,0,none⟩=some (.int .i64 a):=B2.out.cell 0;have c3:w2.cell? ⟨q,2,none⟩=some (.slice A n c):=(L3.out.cell (lt_of_cell k2)).trans k2)
  | fail)
 refine(CS.out w2 p1 p2 L3.out c1 c2).mono ?_;rintro e w3 ⟨rfl,l3⟩;have L4:=hI (L3.out.trans (l3.mono L3.out.size));clear l3;go_wp2_with fail;go_ret;exact⟨rfl,L4.out⟩
theorem Y0c(w:World)(A:Option Addr)(n c:Nat)(xs:List Int)(h:Holds w w.heap.size A n c xs)(hn:n<=140737488355328) :
  Calls Tryz.prog 169 #[.slice A n c] w λe w'=>∃v,e=.returned v/\E5a .u8 5 w' w.heap.size v xs/\Below w.heap.size w w':=by
 have q24:∀(w:World) (a:Option Addr) (n c n' c':Nat),(binOp .eql 51 (.slice a n c) (.slice none n' c')).run Tryz.prog w=.ok (.bool a.isNone) w:=λw a n c n' c'=>Lib.run_eql_slice_nil w _ _ a n c n' c' Tryz.underlying51
 rcases A with _ | ad
 ·have hc:=h.bare rfl;have hf:=h.fit;have hl:=h.len;obtain rfl:n=0:=by omega
  subst hc;obtain rfl:xs=[]:=List.eq_nil_of_length_eq_zero hl;clear h hf hl hn;go_enter Tryz.func169,Tryz.ntmps169;go_wp2_with fail;go_ret;exact⟨_,rfl,E5a.nil _ _ _ _,Below.refl _ _⟩
 ·have HL:=hI h.len;have ho:Hid (E5a .u8 5 (w.alloc (.cells #[] 5)) w.heap.size (.slice (some ⟨w.heap.size,0,none⟩) 0 0) []):=.inr ⟨w.heap.size,0,rfl,Nat.le_refl _,by simp,heap_alloc_new w _⟩;have hb:Hid (Below w.heap.size w (w.alloc (.cells #[] 5))):=(Below.refl _ w).alloc (Nat.le_refl _) _;have HH:Hid (Holds (w.alloc (.cells #[] 5)) w.heap.size (some ad) n c xs):=h.below hb.out;have hs:Hid (w.heap.size<=(w.alloc (.cells #[] 5)).heap.size):=by show _<=_;simp
  clear h;go_enter Tryz.func169,Tryz.ntmps169;go_wp2_with(first
   | (at_builtin;refine T7a rfl (.tmp 5) (.tmp 6) rfl w.heap.size _ [] rfl ho.out w.heap.size (some ad) n c xs rfl HH.out (by rw[HL.out];simpa using hn) hs.out ?_;intro v2 w2 ho2 hb2)
   | fail)
  go_ret;exact⟨_,rfl,by have:=ho2.out;simpa using this,hb.out.trans hb2⟩
theorem i7a:(Tryz.prog.info? 158).map (λi=>(i.zero,i.size))=some (some (.agg ([.int .i64 0,.slice none 0 0]:List Value).toArray),2):=by kernel_rfl
theorem v6a(xa:Nat)(v:Value)(hv:v.oneCell'=true):Hid (∀u∈[Value.int .i64 (xa:Nat),v],u.oneCell'=true):=λu hu=>by
 simp only[List.mem_cons,List.not_mem_nil,or_false] at hu;rcases hu with rfl | rfl
 ·rfl
 ·exact hv
theorem T4b{w w':World}{g:Nat}{p:Addr}(hO:S1a g w w')(hp:p.block≠g):w'.cell? p=w.cell? p:=by unfold World.cell?;rw[hO.rest p.block hp]
theorem I7b(w:World)(xa b off xn xc f t p0 p1:Nat)(hc:xn<=xc)(hxa:xa<=4611686018427387903)(hxn:xn<=4611686018427387903)(hf:f<=4611686018427387903)(ht:t<=4611686018427387903)(h0:p0=max f xa)(h1:p1=min t (xa+xn))(hlt:p0<p1) :
  Calls Tryz.prog 113 #[.agg #[.int .i64 (xa:Nat),.slice (some ⟨b,off,none⟩) xn xc],.int .i64 (f:Nat),.int .i64 (t:Nat)] w λe w'=>e=.returned (.agg #[.int .i64 (p0:Nat),.slice (some ⟨b,off+(p0-xa),none⟩) (p1-p0) (p1-p0)])/\Below w.heap.size w w':=by
 have hmax:max (f:Int) (xa:Int)=(p0:Int):=by omega
 have hmin:min (t:Int) ((xa+xn:Nat):Int)=(p1:Int):=by omega
 have hmin2:min (t:Int) ((xa:Int)+(xn:Int))=(p1:Int):=by omega
 have hp0:xa<=p0:=by omega
 have hp1:p1<=xa+xn:=by omega
 obtain⟨i,hi⟩:∃i,i=p0-xa:=⟨_,rfl⟩;obtain⟨j,hj⟩:∃j,j=p1-xa:=⟨_,rfl⟩;have hsi:IntKind.i64.wrap ((p0:Int)-(xa:Int))=(i:Int):=by rw[IntKind.wrap_i64];omega
 have hsj:IntKind.i64.wrap ((p1:Int)-(xa:Int))=(j:Int):=by rw[IntKind.wrap_i64];omega
 have hij:i<=j:=by omega
 have hjc:j<=xc:=by omega
 have hne:¬j=i:=by omega
 have hji:j-i=p1-p0:=by omega
 rw[<-hi];have ZX:=hI i7a;clear h0 h1 hi hj;go_enter Tryz.func113,Tryz.ntmps113;go_upto_region 1 with(first
  | ((with_reducible refine sN 3 ?_);refine v0a rfl _ (.tmp 0) rfl [.int .i64 (xa:Nat),.slice (some ⟨b,off,none⟩) xn xc] rfl ?_;intro g w1 hg1 hg2 B1 L1)
  | ((with_reducible refine sN 6 ?_);refine i0a rfl _ rfl [.int .i64 0,.slice none 0 0] _ ZX ?_;intro h w2 hg3 hg4 Z2 L2;have B2:=hI (B1.out.over L2.out);have L12:=hI (L1.out.trans (L2.out.mono L1.out.size)))
  | fail)
 have c0:w2.cell? ⟨g,0,none⟩=some (.int .i64 (xa:Nat)):=B2.out.cell 0;refine wp_region_held (S:=λw'=>w'.cell? ⟨g,0,none⟩=some (.int .i64 (xa:Nat))/\w'.rangeAt g 0 [.int .i64 (xa:Nat),.slice (some ⟨b,off,none⟩) xn xc]) (by kernel_rfl) ?_;change wpAnyH _ _ _ _ _ _ _ _ w2.drew
 have Sr0:Hid (w2.drew.cell? ⟨g,0,none⟩=some (.int .i64 (xa:Nat))/\w2.drew.rangeAt g 0 [.int .i64 (xa:Nat),.slice (some ⟨b,off,none⟩) xn xc]):=⟨c0,λj v h=>(B2.out.range 0) j v h⟩;have br0:Hid (True):=trivial;refine tK 0 _ rfl (a0a (by kernel_rfl) (.tmp 1) rfl (.int .i64 (f:Nat)) (by kernel_rfl)) Sr0.out ?_;refine tK 1 _ rfl (e0a (by kernel_rfl) _ (.tmp 3) 0 rfl (.pointer (some ⟨g,0,none⟩)) (.pointer (some ⟨g,0,none⟩)) (by kernel_rfl) (λw=>by go_simp)) Sr0.out ?_;refine tK 2 _ rfl (b0a (by kernel_rfl) _ (.tmp 10) rfl g (0) (by kernel_rfl) (.int .i64 (xa:Nat)) (λ_ h=>h.1) _ Tryz.underlying3 rfl) Sr0.out ?_;refine tK 3 (.int .i64 (p0:Nat)) rfl (.inl ⟨by kernel_rfl,λw _=>by go_simp⟩) Sr0.out ?_;refine tK 4 _ rfl (a0a (by kernel_rfl) (.tmp 2) rfl (.int .i64 (t:Nat)) (by kernel_rfl)) Sr0.out ?_;refine tK 5 _ rfl (b1a (by kernel_rfl) _ (.tmp 3) rfl g 0 (by kernel_rfl) [.int .i64 (xa:Nat),.slice (some ⟨b,off,none⟩) xn xc] (λ_ h=>h.2) 2 _ Tryz.underlying158 rfl size_ext (rfl:Hid ([Value.int .i64 (xa:Nat),.slice (some ⟨b,off,none⟩) xn xc].length=2))) Sr0.out ?_;refine oN 6 _ rfl λK hK=>?_
 go_simp;refine(h7a _ xa xn xc _ hxa hxn).mono ?_;rintro e vr1 ⟨rfl,l3⟩;have Sr1:Hid (vr1.cell? ⟨g,0,none⟩=some (.int .i64 (xa:Nat))/\vr1.rangeAt g 0 [.int .i64 (xa:Nat),.slice (some ⟨b,off,none⟩) xn xc]):=⟨(l3.cell (lt_of_cell Sr0.out.1)).trans Sr0.out.1,L1a Sr0.out.2 l3 (lt_of_cell Sr0.out.1)⟩;have br1:Hid (True):=trivial;have L3:=hI l3;clear l3;refine hK _ _ Sr1.out ?_;clear hK K;refine tK 7 (.int .i64 (p1:Nat)) rfl (.inl ⟨by kernel_rfl,λw _=>by go_simp⟩) Sr1.out ?_;refine oN 8 _ rfl λK hK=>?_
 go_simp;refine hK _ _ Sr1.out ?_;clear hK K;refine oN 9 _ rfl λK hK=>?_
 go_simp;refine hK _ _ Sr1.out ?_;clear hK K;refine dN ?_;have L13:=hI (L12.out.trans (((Below.refl w2.heap.size w2).drew.trans L3.out).mono L12.out.size));have B3:=hI ((B2.out.drew).over L3.out);have Z3:=hI ((Z2.out.drew).over L3.out);have c0:vr1.cell? ⟨g,0,none⟩=some (.int .i64 (xa:Nat)):=B3.out.cell 0;have c1:vr1.cell? ⟨g,1,none⟩=some (.slice (some ⟨b,off,none⟩) xn xc):=B3.out.cell 1;go_upto_region 2 with fail
 go_quiet (fail);go_wp2_with(first
  | ((with_reducible refine sN 32 ?_);go_loud (refine A0a rfl _ _ rfl [.int .i64 (p0:Nat),.slice (some ⟨b,off+i,none⟩) (p1-p0) (p1-p0)] (by kernel_rfl) ?_))
  | ((with_reducible show wpList _ _ _ (⟨none,.store _ _ _,_,_,_,_⟩::_) _ _);go_loud (refine l0a rfl _ (.tmp 6) (.tmp 32) rfl h rfl _ [.int .i64 0,.slice none 0 0] [.int .i64 (p0:Nat),.slice (some ⟨b,off+i,none⟩) (p1-p0) (p1-p0)] rfl Z3 2 size_ext rfl rfl (v6a _ _ rfl) ?_);intro w4 Z4 O4 hg4)
  | fail)
 have hlt:=L12.out.size;have hwh:w.heap.size<=h:=by omega
 have L14:=L13.out.trans ((E0a vr1 nq).mono L13.out.size);refine bodyPost_ret (v:=.agg #[.int .i64 (p0:Nat),.slice (some ⟨b,off+i,none⟩) (p1-p0) (p1-p0)]) ?_ rfl ⟨rfl,r0a L14 O4.out hwh⟩;exact results_cell_row rfl _ _ h _ _ (0,0) _ rfl Z4.out Tryz.underlying158 rfl (by rw[size_ext];rfl)
theorem r8b(w:World)(xa n c:Nat)(A:Option Addr)(px:List Int)(hx:Holds w w.heap.size A n c px)(hn:n<=140737488355328) :
  Calls Tryz.prog 126 #[.agg #[.int .i64 (xa:Nat),.slice A n c]] w λe w'=>∃v,e=.returned (.agg #[.int .i64 (xa:Nat),v])/\E5a .u8 5 w' w.heap.size v px/\Below w.heap.size w w':=by
 have HX:=hI hx;have ZX:=hI i7a;clear hx;go_enter Tryz.func126,Tryz.ntmps126;go_upto_region 1 with(first
  | ((with_reducible refine sN 1 ?_);refine v0a rfl _ (.tmp 0) rfl [.int .i64 (xa:Nat),.slice A n c] rfl ?_;intro g w1 hg1 hg2 B1 L1)
  | ((with_reducible refine sN 2 ?_);refine i0a rfl _ rfl [.int .i64 0,.slice none 0 0] _ ZX ?_;intro h w2 hg3 hg4 Z2 L2;have B2:=hI (B1.out.over L2.out);have L12:=hI (L1.out.trans (L2.out.mono L1.out.size)))
  | fail)
 have hgh:g≠h:=by omega
 have H2:=hI (HX.out.over L12.out);have c0:w2.cell? ⟨g,0,none⟩=some (.int .i64 (xa:Nat)):=B2.out.cell 0;have c1:w2.cell? ⟨g,1,none⟩=some (.slice A n c):=B2.out.cell 1;refine wp_region_held (S:=λw'=>w'.cell? ⟨g,0,none⟩=some (.int .i64 (xa:Nat))/\w'.cell? ⟨g,1,none⟩=some (.slice A n c)) (by kernel_rfl) ?_;change wpAnyH _ _ _ _ _ _ _ _ w2.drew
 have Sr0:Hid (w2.drew.cell? ⟨g,0,none⟩=some (.int .i64 (xa:Nat))/\w2.drew.cell? ⟨g,1,none⟩=some (.slice A n c)):=⟨c0,c1⟩;have br0:Hid (True):=trivial;refine tK 0 _ rfl (e0a (by kernel_rfl) _ (.tmp 1) 0 rfl (.pointer (some ⟨g,0,none⟩)) (.pointer (some ⟨g,0,none⟩)) (by kernel_rfl) (λw=>by go_simp)) Sr0.out ?_;refine tK 1 _ rfl (b0a (by kernel_rfl) _ (.tmp 3) rfl g (0) (by kernel_rfl) (.int .i64 (xa:Nat)) (λ_ h=>h.1) _ Tryz.underlying3 rfl) Sr0.out ?_;refine tK 2 _ rfl (e0a (by kernel_rfl) _ (.tmp 1) 1 rfl (.pointer (some ⟨g,0,none⟩)) (.pointer (some ⟨g,1,none⟩)) (by kernel_rfl) (λw=>by go_simp)) Sr0.out ?_;refine tK 3 _ rfl (b0a (by kernel_rfl) _ (.tmp 5) rfl g (1) (by kernel_rfl) (.slice A n c) (λ_ h=>h.2) _ Tryz.underlying51 rfl) Sr0.out ?_;refine oN 4 _ rfl λK hK=>?_
 go_simp;refine(Y0c _ A n c px (H2.out.drew) hn).mono ?_;rintro e vr1 ⟨v,rfl,o3,l3⟩;have Sr1:Hid (vr1.cell? ⟨g,0,none⟩=some (.int .i64 (xa:Nat))/\vr1.cell? ⟨g,1,none⟩=some (.slice A n c)):=⟨(l3.cell (lt_of_cell Sr0.out.1)).trans Sr0.out.1,(l3.cell (lt_of_cell Sr0.out.2)).trans Sr0.out.2⟩;have br1:Hid (True):=trivial;have Z3:=hI ((Z2.out.drew).over l3);obtain⟨A1,n1,c1',rfl,_⟩:=o3.own.open;have O3:=hI o3;have L3:=hI l3;clear o3 l3;refine hK _ _ Sr1.out ?_;clear hK K;refine tK 5 _ rfl (i3a (by kernel_rfl) _ _ rfl [.int .i64 (xa:Nat),.slice A1 n1 c1'] (by kernel_rfl)) Sr1.out ?_;refine oN 6 _ rfl λK hK=>?_
 refine X6a rfl _ (.tmp 2) (.tmp 8) rfl h 0 rfl 158 [.int .i64 0,.slice none 0 0] [.int .i64 (xa:Nat),.slice A1 n1 c1'] rfl Z3 2 size_ext (rfl:_=_) (Nat.le_refl 2:Hid (0+2<=2)) (v6a _ _ rfl) ?_;intro w4 Z4 O4 hw4;have Sr2:Hid (w4.cell? ⟨g,0,none⟩=some (.int .i64 (xa:Nat))/\w4.cell? ⟨g,1,none⟩=some (.slice A n c)):=⟨(T4b O4.out (p:=⟨g,0,none⟩) hgh).trans Sr1.out.1,(T4b O4.out (p:=⟨g,1,none⟩) hgh).trans Sr1.out.2⟩;refine hK _ _ Sr2.out ?_;clear hK K;refine dN ?_;go_wp2_with fail;have L13:=hI (L12.out.trans (((Below.refl w2.heap.size w2).drew.trans L3.out).mono L12.out.size));have hlt:=L12.out.size;refine bodyPost_ret (v:=.agg #[.int .i64 (xa:Nat),.slice A1 n1 c1']) ?_ rfl ⟨_,rfl,?_,r0a L13.out O4.out (by omega)⟩
 ·exact results_cell_row rfl _ _ h _ _ (0,0) _ rfl Z4.out Tryz.underlying158 rfl (by rw[size_ext];rfl)
 ·exact(O3.out.mono hlt).keep λi _ hi _=>O4.out.rest i (by have:=(O3.out.own.block hi).1;have:w2.drew.heap.size=w2.heap.size:=rfl;omega)
def N3b(X:List Int)(o:Nat)(ys:List Int):List Int:=X.take o++ys++X.drop (o+ys.length)
def n3a(a N:Nat)(lo:List O2a)(j:Nat):List Int:=(lo.take j).foldl (λX x=>N3b X (x.1-a) x.2.2.2.2) (List.replicate N 0)
theorem O7a{a N:Nat}{lo:List O2a}{j:Nat}{x:O2a}(h:lo[j]? = some x):n3a a N lo (j+1)=N3b (n3a a N lo j) (x.1-a) x.2.2.2.2:=by obtain⟨h1,h2⟩:=List.getElem?_eq_some_iff.1 h;unfold n3a;rw[List.take_succ_eq_append_getElem h1,List.foldl_append,h2];rfl
theorem J7b{X ys:List Int}{o:Nat}(h:o+ys.length<=X.length):(N3b X o ys).length=X.length:=by unfold N3b;rw[List.length_append,List.length_append,List.length_take,List.length_drop];omega
theorem W5a{a N:Nat}{lo:List O2a}(h:∀x∈lo,x.1-a+x.2.2.2.2.length<=N)(j:Nat):(n3a a N lo j).length=N:=by
 induction j with
 | zero=>simp[n3a]
 | succ j ih=>
  rcases Nat.lt_or_ge j lo.length with h1 | h1
  ·have hx:lo[j]? = some lo[j]:=List.getElem?_eq_getElem h1;rw[O7a hx,J7b (by rw[ih];exact h _ (List.getElem_mem _)),ih]
  ·have e:n3a a N lo (j+1)=n3a a N lo j:=by unfold n3a;rw[List.take_of_length_le (by omega),List.take_of_length_le h1]
   rw[e,ih]
theorem s8b(w:World)(A:Option Addr)(n c:Nat)(lo:List O2a)(hl:U1b w w.heap.size A n c lo)(hn:n<=65536)(oa on oc a t:Nat)(oA:Option Addr)(ox:List Int)(ho:Holds w w.heap.size oA on oc ox)(hon0:0<on)(hot:oa+on<=65536)(ht:t<=65536)
(ha0:n=0->a=oa/\t=oa+on)(ha1:∀x,lo[0]? = some x->a=min oa x.1)(ht1:∀x,0<n->lo[n-1]? = some x->t=max (oa+on) (x.1+x.2.2.1))
(hfit:∀x∈lo,a<=x.1/\x.1+x.2.2.1<=t/\0<x.2.2.1) :
  Calls Tryz.prog 124 #[.slice A n c,.agg #[.int .i64 (oa:Nat),.slice oA on oc]] w λe w'=>∃h,e=.returned (.agg #[.int .i64 (a:Nat),.slice (some ⟨h,0,none⟩) (t-a) (t-a)])/\w.heap.size<=h/\
   Row w' h (N3b (n3a a (t-a) lo n) (oa-a) ox)/\Below w.heap.size w w':=by
 have haoa:a<=oa/\oa+on<=t:=by
  rcases Nat.eq_zero_or_pos n with h0 | h0
  ·obtain⟨h1,h2⟩:=ha0 h0;omega
  ·have hll:=hl.len;have h1:=ha1 _ (List.getElem?_eq_getElem (show 0<lo.length by omega));have h2:=ht1 _ h0 (List.getElem?_eq_getElem (show n-1<lo.length by omega));omega
 obtain⟨hao,hto⟩:=haoa;obtain⟨N,hN⟩:∃N,N=t-a:=⟨_,rfl⟩;obtain⟨o0,ho0⟩:∃o,o=oa-a:=⟨_,rfl⟩;rw[<-hN,<-ho0];have HL:=hI hl;have HO:=hI ho;have hol:=ho.len;have hHL:=hl.len;have HWO:Hid (IntKind.i64.wrap ((oa:Int)-(a:Int))=(o0:Int)):=by show _=_;rw[IntKind.wrap_i64];omega
 have HWN:Hid ((t:Int)-(a:Int)=(N:Int)):=by show _=_;omega
 have hsub:IntKind.i64.wrap ((t:Int)-(a:Int))=(N:Int):=by rw[IntKind.wrap_i64];omega
 have JL:Hid (∀j,(n3a a N lo j).length=N):=λj=>W5a (λx hx=>by obtain⟨h1,h2,_⟩:=hfit x hx;obtain⟨k,hk,hkx⟩:=b8a hx;have h3:x.2.2.2.2.length=x.2.2.1:=(hl.each x hx).len;omega) j
 have FIT:Hid (∀x∈lo,a<=x.1/\x.1+x.2.2.1<=t/\0<x.2.2.1):=hfit;have honN:on<=N-o0:=by omega
 have hoN:(o0:Int)<=(N:Int):=by omega
 have hNo:¬N=o0:=by omega
 have ZX:=hI i7a;have hN64:N<=65536:=by omega
 have HFIN:Hid (o0+on<=N):=by show _<=_;omega
 have HNE:Hid (t=a+N):=by show _=_;omega
 rcases Nat.eq_zero_or_pos n with h0 | h0
 ·obtain⟨h1,h2⟩:=ha0 h0;have HN0:=hI h0;have hgt0:decide ((0:Int)<(n:Int))=false:=decide_eq_false (by omega);have hle0:¬(0:Int)<(n:Int):=by omega
  have hw0:IntKind.i64.wrap 0=0:=rfl;clear hl ho ha0 ha1 ht1 hfit hN hHL;subst h2;subst h1;obtain rfl:o0=0:=by omega
  clear ho0;have HNZ:Hid ((a:Int)+(on:Int)-(a:Int)=(N:Int)):=by have:=HNE.out;show _=_;omega
  clear h0;go_enter Tryz.func124,Tryz.ntmps124;go_upto_region 1 with(first
   | ((with_reducible refine sN 3 ?_);refine v0a rfl _ (.tmp 1) rfl [.int .i64 (a:Nat),.slice oA on oc] rfl ?_;intro g w1 hg1 hg2 B1 L1)
   | ((with_reducible refine sN 4 ?_);refine i0a rfl _ rfl [.int .i64 0,.slice none 0 0] _ ZX ?_;intro h w2 hg3 hg4 Z2 L2;have B2:=hI (B1.out.over L2.out);have L12:=hI (L1.out.trans (L2.out.mono L1.out.size)))
   | fail)
  have hwh:w.heap.size<=h:=by have:=L1.out.size;omega
  have c0:w2.cell? ⟨g,0,none⟩=some (.int .i64 (a:Nat)):=B2.out.cell 0;refine wp_region_held (S:=λw'=>w'.cell? ⟨g,0,none⟩=some (.int .i64 (a:Nat))/\w'.rangeAt g 0 [.int .i64 (a:Nat),.slice oA on oc]) (by kernel_rfl) ?_;change wpAnyH _ _ _ _ _ _ _ _ w2.drew
  have Sr0:Hid (w2.drew.cell? ⟨g,0,none⟩=some (.int .i64 (a:Nat))/\w2.drew.rangeAt g 0 [.int .i64 (a:Nat),.slice oA on oc]):=⟨c0,λj v h=>(B2.out.range 0) j v h⟩;have br0:Hid (True):=trivial;refine tK 0 _ rfl (e0a (by kernel_rfl) _ (.tmp 3) 0 rfl (.pointer (some ⟨g,0,none⟩)) (.pointer (some ⟨g,0,none⟩)) (by kernel_rfl) (λw=>by go_simp)) Sr0.out ?_;refine tK 1 _ rfl (b0a (by kernel_rfl) _ (.tmp 10) rfl g (0) (by kernel_rfl) (.int .i64 (a:Nat)) (λ_ h=>h.1) _ Tryz.underlying3 rfl) Sr0.out ?_;refine tK 2 _ rfl (b1a (by kernel_rfl) _ (.tmp 3) rfl g 0 (by kernel_rfl) [.int .i64 (a:Nat),.slice oA on oc] (λ_ h=>h.2) 2 _ Tryz.underlying158 rfl size_ext (rfl:Hid (([.int .i64 (a:Nat),.slice oA on oc]:List Value).length=2))) Sr0.out ?_;refine oN 3 _ rfl λK hK=>?_
  go_simp;refine(h7a _ a on oc _ (by omega) (by omega)).mono ?_;rintro e vr1 ⟨rfl,l3⟩;have Sr1:Hid (vr1.cell? ⟨g,0,none⟩=some (.int .i64 (a:Nat))/\vr1.rangeAt g 0 [.int .i64 (a:Nat),.slice oA on oc]):=⟨(l3.cell (lt_of_cell Sr0.out.1)).trans Sr0.out.1,L1a Sr0.out.2 l3 (lt_of_cell Sr0.out.1)⟩;have br1:Hid (True):=trivial;have L3:=hI l3;clear l3;refine hK _ _ Sr1.out ?_;clear hK K;refine oN 4 _ rfl λK hK=>?_
  go_simp;refine hK _ _ Sr1.out ?_;clear hK K;refine oN 5 _ rfl λK hK=>?_
  go_simp;refine hK _ _ Sr1.out ?_;clear hK K;refine dN ?_;have LA:=hI (L12.out.trans (((Below.refl w2.heap.size w2).drew.trans L3.out).mono L12.out.size));have BA:=hI ((B2.out.drew).over L3.out);have ZA:=hI ((Z2.out.drew).over L3.out);go_wp2_with(first
   | ((with_reducible refine sN 35 ?_);go_loud (refine x3a _ rfl (.tmp 34) (.tmp 34) rfl _ _ N rfl rfl HNZ.out HNZ.out (by omega) ?_);intro w6 R6 L6)
   | fail)
  obtain⟨h6,hh6⟩:∃x,x=vr1.heap.size:=⟨_,rfl⟩;rw[<-hh6] at R6⊢;have Lw6:=hI (LA.out.trans (L6.mono LA.out.size));have B6:=hI (BA.out.over L6);have Z6:=hI (ZA.out.over L6);have hgh:Hid (g<h6/\h<h6/\w.heap.size<=h6):=⟨by rw[hh6];exact BA.out.lt,by rw[hh6];exact ZA.out.lt,by rw[hh6];exact LA.out.size⟩;clear hh6 L6;go_loopw [9,38] (λ_ I wr=>∃i:Nat,i<=n/\I=.int .i64 (i:Nat)/\Hid (Row wr h6 (n3a a N lo i))/\Hid (Blk wr g 158 [.int .i64 (a:Nat),.slice oA on oc])/\Hid (Blk wr h 158 [.int .i64 0,.slice none 0 0])/\Hid (Below w.heap.size w wr)/\Hid (h6<wr.heap.size)) (λ_ I _=>n-(intOf I).toNat)
  case atStart=>exact⟨0,Nat.zero_le _,rfl,R6,B6,Z6,Lw6,R6.out.lt⟩
  case round=>
   obtain⟨i,hi,rfl,RR,BR,ZR,LR,SR⟩:=hrel;by_cases hlt:i<n
   ·have:=HN0.out;omega
   ·obtain rfl:i=n:=by omega
    have hwo:IntKind.i64.wrap ((a:Int)-(a:Int))=(0:Int):=HWO.out;have g0:wr.cell? ⟨g,0,none⟩=some (.int .i64 (a:Nat)):=BR.out.cell 0;have g1:wr.cell? ⟨g,1,none⟩=some (.slice oA on oc):=BR.out.cell 1;have hjl:=JL.out i;have hoN2:=HFIN.out;have hfit:Hid (0+on<=((n3a a N lo i).map (Value.int .u8)).length):=by show _<=_;rw[List.length_map,hjl];omega
    have R8:Hid (Blk wr.drew h6 5 ((n3a a N lo i).map (Value.int .u8))):=RR.out;have HO8:=hI ((HO.out.below LR.out).drew);clear hjl hoN2;go_upto_region 10 with fail
    go_still_tail 8,(by kernel_rfl);change wpList _ _ _ _ _ wr.drew
    go_wp2_with(first
     | ((with_reducible refine sN 60 ?_);go_loud (refine a4a rfl (.tmp 57) (.tmp 59) rfl h6 0 5 _ _ on oc oA rfl rfl _ ox w.heap.size R8 HO8.out hon0 honN hfit ?_);intro w9 R9 O9;have Z9:=hI (ZR.out.drew.only O9.out (by have:=hgh.out.2.1;omega)))
     | ((with_reducible refine sN 63 ?_);go_loud (refine A0a rfl _ _ rfl [.int .i64 (a:Nat),.slice (some ⟨h6,0,none⟩) N N] (by kernel_rfl) ?_))
     | ((with_reducible show wpList _ _ _ (⟨none,.store _ _ _,_,_,_,_⟩::_) _ _);go_loud (refine l0a rfl _ (.tmp 4) (.tmp 63) rfl h rfl _ [.int .i64 0,.slice none 0 0] [.int .i64 (a:Nat),.slice (some ⟨h6,0,none⟩) N N] rfl Z9 2 size_ext rfl rfl (v6a _ _ rfl) ?_);intro w10 Z10 O10 hg10)
     | fail)
    have L9:Below w.heap.size w w9:=r0a LR.out.drew O9.out hgh.out.2.2;refine bodyPost_ret (v:=.agg #[.int .i64 (a:Nat),.slice (some ⟨h6,0,none⟩) N N]) ?_ rfl ⟨h6,rfl,hgh.out.2.2,?_,r0a L9 O10.out hwh⟩
    ·exact results_cell_row rfl _ _ h _ _ (0,0) _ rfl Z10.out Tryz.underlying158 rfl (by rw[size_ext];rfl)
    ·have:=R9.out;rw[q6a] at this;exact Row.only (g':=h) this O10.out (by have:=hgh.out.2.1;omega)
 ·have hA:∃b off,A=some ⟨b,off,none⟩:=by obtain⟨b,off,x,e,_⟩:=hl.at h0;exact⟨b,off,e⟩
  obtain⟨b,off,rfl⟩:=hA;have hfst:∃fa,(∀w2,Below w.heap.size w w2->w2.cell? ⟨b,off,none⟩=some (.int .i64 (fa:Nat)))/\min (oa:Int) (fa:Int)=(a:Int):=by
   obtain⟨b',off',x,e,hb',hx,f0,_⟩:=hl.at h0;injection e with e
   injection e with e1 e2
   subst e1 e2;rw[Nat.zero_mul,Nat.add_zero] at f0;have:=ha1 x hx;exact⟨x.1,λw2 hb2=>(hb2.cell hb').trans f0,by omega⟩
  obtain⟨fa,FF,hmin⟩:=hfst;have hlst:∃ya yA yn yc,(∀w2,Below w.heap.size w w2->w2.rangeAt b (off+(n-1)*2) [.int .i64 (ya:Nat),.slice yA yn yc])/\max ((oa+on:Nat):Int) ((ya+yn:Nat):Int)=(t:Int)/\ya+yn<=65536:=by
   obtain⟨b',off',x,e,hb',hx,f0,f1,_⟩:=hl.at (show n-1<n by omega);injection e with e
   injection e with e1 e2
   subst e1 e2;have h5:=ht1 x h0 hx;have h6:=hfit x (List.mem_of_getElem? hx);refine⟨x.1,x.2.1,x.2.2.1,x.2.2.2.1,λw2 hb2 j v hj=>?_,by omega,by omega⟩
   match j,hj with
   | 0,hj=>injection hj with hj;subst hj;exact(hb2.cell (p:=⟨b,off+(n-1)*2,none⟩) hb').trans f0
   | 1,hj=>injection hj with hj;subst hj;exact(hb2.cell (p:=⟨b,off+(n-1)*2+1,none⟩) hb').trans f1
  obtain⟨ya,yA,yn,yc,RF,hmax,hyy⟩:=hlst;have FF':=hI FF;have RF':=hI RF;have hmax2:max ((oa:Int)+(on:Int)) ((ya:Int)+(yn:Int))=(t:Int):=by omega
  have hn1:(n:Int)-1=((n-1:Nat):Int):=by omega
  have hnw:IntKind.i64.wrap ((n:Int)-1)=((n-1:Nat):Int):=by rw[IntKind.wrap_i64];omega
  have hn1n:n-1<n:=by omega
  have hnw2:IntKind.i64.wrap ((n-1:Nat):Int)=((n-1:Nat):Int):=by rw[IntKind.wrap_i64];omega
  clear hl ho ha0 ha1 ht1 hfit FF RF hN ho0;go_enter Tryz.func124,Tryz.ntmps124;go_upto_region 1 with(first
   | ((with_reducible refine sN 3 ?_);refine v0a rfl _ (.tmp 1) rfl [.int .i64 (oa:Nat),.slice oA on oc] rfl ?_;intro g w1 hg1 hg2 B1 L1)
   | ((with_reducible refine sN 4 ?_);refine i0a rfl _ rfl [.int .i64 0,.slice none 0 0] _ ZX ?_;intro h w2 hg3 hg4 Z2 L2;have B2:=hI (B1.out.over L2.out);have L12:=hI (L1.out.trans (L2.out.mono L1.out.size)))
   | fail)
  have hwh:w.heap.size<=h:=by have:=L1.out.size;omega
  have c0:w2.cell? ⟨g,0,none⟩=some (.int .i64 (oa:Nat)):=B2.out.cell 0;refine wp_region_held (S:=λw'=>w'.cell? ⟨g,0,none⟩=some (.int .i64 (oa:Nat))/\w'.rangeAt g 0 [.int .i64 (oa:Nat),.slice oA on oc]) (by kernel_rfl) ?_;change wpAnyH _ _ _ _ _ _ _ _ w2.drew
  have Sr0:Hid (w2.drew.cell? ⟨g,0,none⟩=some (.int .i64 (oa:Nat))/\w2.drew.rangeAt g 0 [.int .i64 (oa:Nat),.slice oA on oc]):=⟨c0,λj v h=>(B2.out.range 0) j v h⟩;have br0:Hid (True):=trivial;refine tK 0 _ rfl (e0a (by kernel_rfl) _ (.tmp 3) 0 rfl (.pointer (some ⟨g,0,none⟩)) (.pointer (some ⟨g,0,none⟩)) (by kernel_rfl) (λw=>by go_simp)) Sr0.out ?_;refine tK 1 _ rfl (b0a (by kernel_rfl) _ (.tmp 10) rfl g (0) (by kernel_rfl) (.int .i64 (oa:Nat)) (λ_ h=>h.1) _ Tryz.underlying3 rfl) Sr0.out ?_;refine tK 2 _ rfl (b1a (by kernel_rfl) _ (.tmp 3) rfl g 0 (by kernel_rfl) [.int .i64 (oa:Nat),.slice oA on oc] (λ_ h=>h.2) 2 _ Tryz.underlying158 rfl size_ext (rfl:Hid (([.int .i64 (oa:Nat),.slice oA on oc]:List Value).length=2))) Sr0.out ?_;refine oN 3 _ rfl λK hK=>?_
  go_simp;refine(h7a _ oa on oc _ (by omega) (by omega)).mono ?_;rintro e vr1 ⟨rfl,l3⟩;have Sr1:Hid (vr1.cell? ⟨g,0,none⟩=some (.int .i64 (oa:Nat))/\vr1.rangeAt g 0 [.int .i64 (oa:Nat),.slice oA on oc]):=⟨(l3.cell (lt_of_cell Sr0.out.1)).trans Sr0.out.1,L1a Sr0.out.2 l3 (lt_of_cell Sr0.out.1)⟩;have br1:Hid (True):=trivial;have L3:=hI l3;clear l3;refine hK _ _ Sr1.out ?_;clear hK K;refine oN 4 _ rfl λK hK=>?_
  go_simp;refine hK _ _ Sr1.out ?_;clear hK K;refine oN 5 _ rfl λK hK=>?_
  go_simp;refine hK _ _ Sr1.out ?_;clear hK K;refine dN ?_;have LA:=hI (L12.out.trans (((Below.refl w2.heap.size w2).drew.trans L3.out).mono L12.out.size));have BA:=hI ((B2.out.drew).over L3.out);have ZA:=hI ((Z2.out.drew).over L3.out);go_upto_region 3 with fail
  obtain⟨w3,hw3⟩:∃w3,w3=vr1:=⟨_,rfl⟩;rw[<-hw3] at LA BA ZA⊢;have f0:w3.drew.cell? ⟨b,off,none⟩=some (.int .i64 (fa:Nat)):=FF'.out w3.drew LA.out.drew;have r0:=RF'.out w3.drew LA.out.drew;clear hw3 L3 Sr1 c0 B2 Z2 L12;refine wp_region_held (S:=λw'=>w'.cell? ⟨b,off,none⟩=some (.int .i64 (fa:Nat))/\w'.rangeAt b (off+(n-1)*2) [.int .i64 (ya:Nat),.slice yA yn yc]) (by kernel_rfl) ?_;change wpAnyH _ _ _ _ _ _ _ _ w3.drew
  have Sq0:Hid (w3.drew.cell? ⟨b,off,none⟩=some (.int .i64 (fa:Nat))/\w3.drew.rangeAt b (off+(n-1)*2) [.int .i64 (ya:Nat),.slice yA yn yc]):=⟨f0,r0⟩;have bq0:Hid (True):=trivial;refine tK 0 _ rfl (a0a (by kernel_rfl) (.tmp 5) rfl (.int .i64 (oa:Nat)) (by kernel_rfl)) Sq0.out ?_;refine tK 1 _ rfl (a0a (by kernel_rfl) (.tmp 0) rfl (.slice (some ⟨b,off,none⟩) n c) (by kernel_rfl)) Sq0.out ?_;refine tK 2 (.pointer (some ⟨b,off,none⟩)) rfl (.inl ⟨by kernel_rfl,λw _=>by go_simp⟩) Sq0.out ?_;refine tK 3 _ rfl (e0a (by kernel_rfl) _ (.tmp 19) 0 rfl (.pointer (some ⟨b,off,none⟩)) (.pointer (some ⟨b,off,none⟩)) (by kernel_rfl) (λw=>by go_simp)) Sq0.out ?_;refine tK 4 _ rfl (b0a (by kernel_rfl) _ (.tmp 20) rfl b (off) (by kernel_rfl) (.int .i64 (fa:Nat)) (λ_ h=>h.1) _ Tryz.underlying3 rfl) Sq0.out ?_;refine tK 5 (.int .i64 (a:Nat)) rfl (.inl ⟨by kernel_rfl,λw _=>by go_simp⟩) Sq0.out ?_;refine tK 6 _ rfl (a0a (by kernel_rfl) (.tmp 6) rfl (.int .i64 ((oa+on:Nat):Int)) (by kernel_rfl)) Sq0.out ?_;refine tK 7 _ rfl (a0a (by kernel_rfl) (.tmp 0) rfl (.slice (some ⟨b,off,none⟩) n c) (by kernel_rfl)) Sq0.out ?_;refine tK 8 _ rfl (a0a (by kernel_rfl) (.tmp 0) rfl (.slice (some ⟨b,off,none⟩) n c) (by kernel_rfl)) Sq0.out ?_;refine tK 9 (.int .i64 (n:Nat)) rfl (.inl ⟨by kernel_rfl,λw _=>by go_simp⟩) Sq0.out ?_;refine tK 10 (.int .i64 ((n-1:Nat):Int)) rfl (.inl ⟨by kernel_rfl,λw _=>by go_simp⟩) Sq0.out ?_;refine tK 11 (.pointer (some ⟨b,off+(n-1)*2,none⟩)) rfl (.inl ⟨by kernel_rfl,λw _=>by go_simp⟩) Sq0.out ?_;refine tK 12 _ rfl (b1a (by kernel_rfl) _ (.tmp 28) rfl b (off+(n-1)*2) (by kernel_rfl) [.int .i64 (ya:Nat),.slice yA yn yc] (λ_ h=>h.2) 2 _ Tryz.underlying158 rfl size_ext (rfl:Hid (([.int .i64 (ya:Nat),.slice yA yn yc]:List Value).length=2))) Sq0.out ?_;refine oN 13 _ rfl λK hK=>?_
  go_simp;refine(h7a _ ya yn yc _ (by omega) (by omega)).mono ?_;rintro e vq1 ⟨rfl,l4⟩;have Sq1:Hid (vq1.cell? ⟨b,off,none⟩=some (.int .i64 (fa:Nat))/\vq1.rangeAt b (off+(n-1)*2) [.int .i64 (ya:Nat),.slice yA yn yc]):=⟨(l4.cell (lt_of_cell Sq0.out.1)).trans Sq0.out.1,L1a Sq0.out.2 l4 (lt_of_cell Sq0.out.1)⟩;have bq1:Hid (True):=trivial;have L4:=hI l4;clear l4;refine hK _ _ Sq1.out ?_;clear hK K;refine tK 14 (.int .i64 (t:Nat)) rfl (.inl ⟨by kernel_rfl,λw _=>by go_simp⟩) Sq1.out ?_;refine oN 15 _ rfl λK hK=>?_
  go_simp;refine hK _ _ Sq1.out ?_;clear hK K;refine oN 16 _ rfl λK hK=>?_
  go_simp;refine hK _ _ Sq1.out ?_;clear hK K;refine dN ?_;have LB:=hI (LA.out.trans (((Below.refl w3.heap.size w3).drew.trans L4.out).mono LA.out.size));have BB:=hI ((BA.out.drew).over L4.out);have ZB:=hI ((ZA.out.drew).over L4.out);go_wp2_with(first
   | ((with_reducible refine sN 35 ?_);go_loud (refine x3a _ rfl (.tmp 34) (.tmp 34) rfl _ _ N rfl rfl rfl rfl (by omega) ?_);intro w6 R6 L6)
   | fail)
  obtain⟨h6,hh6⟩:∃x,x=vq1.heap.size:=⟨_,rfl⟩;rw[<-hh6] at R6⊢;have Lw6:=hI (LB.out.trans (L6.mono LB.out.size));have B6:=hI (BB.out.over L6);have Z6:=hI (ZB.out.over L6);have hgh:Hid (g<h6/\h<h6/\w.heap.size<=h6):=⟨by rw[hh6];exact BB.out.lt,by rw[hh6];exact ZB.out.lt,by rw[hh6];exact LB.out.size⟩;clear hh6 L6;go_loopw [9,38] (λ_ I wr=>∃i:Nat,i<=n/\I=.int .i64 (i:Nat)/\Hid (Row wr h6 (n3a a N lo i))/\Hid (Blk wr g 158 [.int .i64 (oa:Nat),.slice oA on oc])/\Hid (Blk wr h 158 [.int .i64 0,.slice none 0 0])/\Hid (Below w.heap.size w wr)/\Hid (h6<wr.heap.size)) (λ_ I _=>n-(intOf I).toNat)
  case atStart=>exact⟨0,Nat.zero_le _,rfl,R6,B6,Z6,Lw6,R6.out.lt⟩
  case round=>
   obtain⟨i,hi,rfl,RR,BR,ZR,LR,SR⟩:=hrel;by_cases hlt:i<n
   ·obtain⟨bb,oo,x,eA,hbb,hx,k0,k1,hy⟩:=(HL.out.below LR.out).at hlt;injection eA with eA
    injection eA with e1 e2
    subst e1 e2;have hNe:=HNE.out;have hfx:=FIT.out x (List.mem_of_getElem? hx);have hjs:=O7a (a:=a) (N:=N) hx;have hjl:=JL.out i;obtain⟨xa,xA,xn,xc,px⟩:=x;simp only at hfx hjs k0 k1 hy;have hpl:px.length=xn:=hy.len;obtain⟨o,ho⟩:∃o,o=xa-a:=⟨_,rfl⟩;have hwo:IntKind.i64.wrap ((xa:Int)-(a:Int))=(o:Int):=by rw[IntKind.wrap_i64];omega
    have hoN:(o:Int)<=(N:Int):=by omega
    have hNo:¬N=o:=by omega
    have HY:=hI hy;rw[<-ho] at hjs;have HJS:=hI hjs;have hfit:Hid (o+xn<=((n3a a N lo i).map (Value.int .u8)).length):=by show _<=_;rw[List.length_map,hjl];omega
    have hxn0:0<xn:=by omega
    have hxnN:xn<=N-o:=by omega
    have kx:wr.rangeAt b (off+i*2) [.int .i64 (xa:Nat),.slice xA xn xc]:=λj v hj=>by
     match j,hj with
     | 0,hj=>injection hj with hj;subst hj;exact k0
     | 1,hj=>injection hj with hj;subst hj;exact k1
    have KX:=hI kx;clear hx hjs hjl hy hpl kx ho hNe;go_upto_region 8 with(first
     | ((with_reducible refine sN 41 ?_);go_loud (refine wpList_load_mid rfl _ (.tmp 40) rfl b (off+i*2) rfl [.int .i64 (xa:Nat),.slice xA xn xc] _ KX.out Tryz.underlying158 rfl (by rw[size_ext];rfl) ?_))
     | ((with_reducible refine sN 9 ?_);go_loud (refine i0a rfl _ rfl [.int .i64 0,.slice none 0 0] _ ZX ?_);intro gx w7 hgx hgx2 X7 L7;have HY7:=hI (HY.out.below (L7.out.mono LR.out.size));have R7:=hI (RR.out.over L7.out))
     | ((with_reducible show wpList _ _ _ (⟨none,.store _ _ _,_,_,_,_⟩::_) _ _);go_loud (refine l0a rfl _ (.tmp 9) (.tmp 41) rfl gx rfl _ [.int .i64 0,.slice none 0 0] [.int .i64 (xa:Nat),.slice xA xn xc] rfl X7 2 size_ext rfl rfl (v6a _ _ rfl) ?_);intro w8 X8 O8 hg8;have e0:w8.cell? ⟨gx,0,none⟩=some (.int .i64 (xa:Nat)):=X8.out.cell 0;have e1:w8.cell? ⟨gx,1,none⟩=some (.slice xA xn xc):=X8.out.cell 1)
     | fail)
    have hgxh:gx≠h6:=by have:=SR.out;omega
    have R8:Hid (Blk w8.drew h6 5 ((n3a a N lo i).map (Value.int .u8))):=(R7.out.only O8.out (λe=>hgxh e.symm):Row w8 h6 (n3a a N lo i));have hwg:w.heap.size<=gx:=by have:=LR.out.size;omega
    have HY8:=hI (HY7.out.below (O8.out.below hwg)).drew;have L8:Hid (Below w.heap.size w w8.drew):=(r0a (LR.out.trans (L7.out.mono LR.out.size)) O8.out hwg).drew;have B8:=hI ((BR.out.over L7.out).only O8.out (by have:=BR.out.lt;omega));have Z8:=hI ((ZR.out.over L7.out).only O8.out (by have:=ZR.out.lt;omega));have hs8:Hid (h6<w8.heap.size):=by show _<_;rw[O8.out.size];have:=SR.out;have:=L7.out.size;omega
    clear R7 HY7 HY RR BR ZR LR SR L7 X7 X8 O8 k0 k1;go_still_tail 8,(by kernel_rfl);change wpList _ _ _ _ _ w8.drew
    go_wp2_with(first
     | ((with_reducible refine sN 50 ?_);go_loud (refine a4a rfl (.tmp 47) (.tmp 49) rfl h6 o 5 _ _ xn xc xA rfl rfl _ px w.heap.size R8 HY8.out hxn0 hxnN hfit ?_);intro w9 R9 O9)
     | fail)
    go_roundw
    case rel=>
     refine⟨i+1,by omega,by go_num,?_,B8.out.drew.only O9.out (by have:=hgh.out.1;omega),Z8.out.drew.only O9.out (by have:=hgh.out.2.1;omega),r0a L8.out O9.out hgh.out.2.2,?_⟩
     ·have:=R9.out;rw[q6a] at this;show Row _ _ _
      rw[HJS.out];exact this
     ·show _<_
      rw[O9.out.size];exact hs8.out
    case measure=>simp[intOf];omega
   ·obtain rfl:i=n:=by omega
    have hwo:IntKind.i64.wrap ((oa:Int)-(a:Int))=(o0:Int):=HWO.out;have g0:wr.cell? ⟨g,0,none⟩=some (.int .i64 (oa:Nat)):=BR.out.cell 0;have g1:wr.cell? ⟨g,1,none⟩=some (.slice oA on oc):=BR.out.cell 1;have hjl:=JL.out i;have hoN2:=HFIN.out;have hfit:Hid (o0+on<=((n3a a N lo i).map (Value.int .u8)).length):=by show _<=_;rw[List.length_map,hjl];omega
    have R8:Hid (Blk wr.drew h6 5 ((n3a a N lo i).map (Value.int .u8))):=RR.out;have HO8:=hI ((HO.out.below LR.out).drew);clear hjl hoN2;go_upto_region 10 with fail
    go_still_tail 8,(by kernel_rfl);change wpList _ _ _ _ _ wr.drew
    go_wp2_with(first
     | ((with_reducible refine sN 60 ?_);go_loud (refine a4a rfl (.tmp 57) (.tmp 59) rfl h6 o0 5 _ _ on oc oA rfl rfl _ ox w.heap.size R8 HO8.out hon0 honN hfit ?_);intro w9 R9 O9;have Z9:=hI (ZR.out.drew.only O9.out (by have:=hgh.out.2.1;omega)))
     | ((with_reducible refine sN 63 ?_);go_loud (refine A0a rfl _ _ rfl [.int .i64 (a:Nat),.slice (some ⟨h6,0,none⟩) N N] (by kernel_rfl) ?_))
     | ((with_reducible show wpList _ _ _ (⟨none,.store _ _ _,_,_,_,_⟩::_) _ _);go_loud (refine l0a rfl _ (.tmp 4) (.tmp 63) rfl h rfl _ [.int .i64 0,.slice none 0 0] [.int .i64 (a:Nat),.slice (some ⟨h6,0,none⟩) N N] rfl Z9 2 size_ext rfl rfl (v6a _ _ rfl) ?_);intro w10 Z10 O10 hg10)
     | fail)
    have L9:Below w.heap.size w w9:=r0a LR.out.drew O9.out hgh.out.2.2;refine bodyPost_ret (v:=.agg #[.int .i64 (a:Nat),.slice (some ⟨h6,0,none⟩) N N]) ?_ rfl ⟨h6,rfl,hgh.out.2.2,?_,r0a L9 O10.out hwh⟩
    ·exact results_cell_row rfl _ _ h _ _ (0,0) _ rfl Z10.out Tryz.underlying158 rfl (by rw[size_ext];rfl)
    ·have:=R9.out;rw[q6a] at this;exact Row.only (g':=h) this O10.out (by have:=hgh.out.2.1;omega)
theorem B4c{X ys:List Int}{o:Nat}(h:o+ys.length<=X.length):N3b X o ys=N3a 0 X o ys:=by unfold N3b N3a;rw[Nat.max_eq_left h,y7a]
theorem K7b{X ys:List Int}{o:Nat}(h:o+ys.length<=X.length)(i:Nat):(N3b X o ys).getD i 0=if o<=i/\i<o+ys.length then ys.getD (i-o) 0 else X.getD i 0:=by rw[B4c h,O5a]
theorem U4b{B:List Int}{a N:Nat}{lo:List O2a}(hfit:∀x∈lo,a<=x.1/\x.1-a+x.2.2.2.2.length<=N)(hB:∀x∈lo,∀i,i<x.2.2.2.2.length->x.2.2.2.2.getD i 0=B.getD (x.1+i) 0)(i:Nat)(hi:i<N)(j:Nat) :
  ((∃k x,k<j/\lo[k]? = some x/\x.1<=a+i/\a+i<x.1+x.2.2.2.2.length)->(n3a a N lo j).getD i 0=B.getD (a+i) 0)/\
  ((∀k x,k<j->lo[k]? = some x->¬(x.1<=a+i/\a+i<x.1+x.2.2.2.2.length))->(n3a a N lo j).getD i 0=0):=by
 induction j with
 | zero=>
  refine⟨fun⟨k,x,hk,_⟩=>absurd hk (Nat.not_lt_zero _),λ_=>?_⟩;unfold n3a;simp[List.getD_eq_getElem?_getD,hi]
 | succ j ih=>
  have hjl:=W5a (a:=a) (N:=N) (λx hx=>(hfit x hx).2) j;rcases Nat.lt_or_ge j lo.length with h1 | h1
  ·have hx:lo[j]? = some lo[j]:=List.getElem?_eq_getElem h1;have hm:lo[j]∈lo:=List.getElem_mem _;obtain⟨f1,f2⟩:=hfit _ hm;rw[O7a hx,K7b (by rw[hjl];exact f2)];by_cases hin:lo[j].1<=a+i/\a+i<lo[j].1+lo[j].2.2.2.2.length
   ·rw[if_pos (by omega),hB _ hm _ (by omega),show lo[j].1+(i-(lo[j].1-a))=a+i by omega];exact⟨λ_=>rfl,λh=>absurd hin (h j _ (by omega) hx)⟩
   ·rw[if_neg (by omega)];refine⟨fun⟨k,x,hk,hkx,h3⟩=>ih.1 ⟨k,x,?_,hkx,h3⟩,λh=>ih.2 λk x hk=>h k x (by omega)⟩;rcases Nat.lt_or_ge k j with h4 | h4
    ·exact h4
    ·obtain rfl:k=j:=by omega
     rw[hx] at hkx;injection hkx with hkx
     subst hkx;exact absurd h3 hin
  ·have e:n3a a N lo (j+1)=n3a a N lo j:=by unfold n3a;rw[List.take_of_length_le (by omega),List.take_of_length_le h1]
   rw[e];refine⟨fun⟨k,x,hk,hkx,h3⟩=>ih.1 ⟨k,x,?_,hkx,h3⟩,λh=>ih.2 λk x hk=>h k x (by omega)⟩;have:=(List.getElem?_eq_some_iff.1 hkx).1;omega
theorem w6a{l:List O2a}{i:Nat}{e:Nat×List Int}(h:(g4a l)[i]? = some e):∃x,l[i]? = some x/\e=(x.1,x.2.2.2.2):=by
 unfold g4a at h;rw[List.getElem?_map] at h;cases hx:l[i]? with
 | none=>rw[hx] at h;cases h
 | some x=>rw[hx] at h;injection h with h;exact⟨x,rfl,h.symm⟩
theorem v3a{l:List O2a}{i:Nat}{x:O2a}(h:l[i]? = some x):(g4a l)[i]? = some (x.1,x.2.2.2.2):=by unfold g4a;rw[List.getElem?_map,h];rfl
theorem G3a{l:List O2a}{x:O2a}(h:x∈l):(x.1,x.2.2.2.2)∈g4a l:=List.mem_map.2 ⟨x,h,rfl⟩
theorem B4a{l:List O2a}{f h k:Nat}{x:O2a}(hx:((l.take h).drop f)[k]? = some x):f+k<h/\l[f+k]? = some x:=by
 rw[List.getElem?_drop,List.getElem?_take] at hx;by_cases h1:f+k<h
 ·rw[if_pos h1] at hx;exact⟨h1,hx⟩
 ·rw[if_neg h1] at hx;cases hx
theorem m6b{l:List O2a}{f h k:Nat}{x:O2a}(h1:f<=k)(h2:k<h)(hx:l[k]? = some x):((l.take h).drop f)[k-f]? = some x:=by rw[List.getElem?_drop,List.getElem?_take,show f+(k-f)=k by omega,if_pos h2,hx]
structure c5c (l:List O2a) (p n f h a t:Nat):Prop where
 fh:f<=h
 hl:h<=l.length
 ap:a<=p
 pt:p+n<=t
 none:h-f=0->a=p/\t=p+n
 fst:∀x,((l.take h).drop f)[0]? = some x->a=min p x.1
 lst:∀x,0<h-f->((l.take h).drop f)[h-f-1]? = some x->t=max (p+n) (x.1+x.2.2.1)
 fit:∀x∈(l.take h).drop f,a<=x.1/\x.1+x.2.2.1<=t/\0<x.2.2.1
 tf:∀x,((l.take h).drop f)[0]? = some x->p<=x.1+x.2.2.1
 tl:∀x,((l.take h).drop f)[h-f-1]? = some x->x.1<=p+n
 lo:∀(i:Nat) x,i<f->l[i]? = some x->x.1+x.2.2.1<a
 hi:∀(i:Nat) x,h<=i->l[i]? = some x->t<x.1
theorem O3b{l:List O2a}{f h:Nat}(hl:h<=l.length):((l.take h).drop f).length=h-f:=by rw[List.length_drop,List.length_take];omega
theorem i5c{B:List Int}{P:Nat->Prop}{l:List O2a}(k:Can B P (g4a l))(hlen:∀x∈l,x.2.2.2.2.length=x.2.2.1){p n f h:Nat}(hn:0<n)(hfl:f<=l.length)(hhl:h<=l.length)
(f0:∀(i:Nat) x,i<f->l[i]? = some x->¬(p:Int)-1<((x.1+x.2.2.1:Nat):Int))(f1:∀(i:Nat) x,f<=i->l[i]? = some x->(p:Int)-1<((x.1+x.2.2.1:Nat):Int))
(h0:∀(i:Nat) x,i<h->l[i]? = some x->¬((p+n+1:Nat):Int)<=(x.1:Int))(h1:∀(i:Nat) x,h<=i->l[i]? = some x->((p+n+1:Nat):Int)<=(x.1:Int)):∃a t,c5c l p n f h a t:=by
 have lt:∀(i j:Nat) (x y:O2a),l[i]? = some x->l[j]? = some y->i<j->x.1+x.2.2.1<y.1:=λi j x y hx hy hij=>by have:=k.lt (v3a hx) (v3a hy) hij;rw[<-hlen x (List.mem_of_getElem? hx)];exact this
 have pos:∀x∈l,0<x.2.2.1:=λx hx=>by rw[<-hlen x hx];exact List.length_pos_iff.2 (k.full (x.1,x.2.2.2.2) (G3a hx))
 have hfh:f<=h:=by
  rcases Nat.lt_or_ge h f with h2 | h2
  ·have hx:l[h]? = some l[h]:=List.getElem?_eq_getElem (by omega);have h3:=f0 h _ h2 hx;have h4:=h1 h _ (Nat.le_refl _) hx;omega
  ·exact h2
 rcases Nat.eq_or_lt_of_le hfh with h2 | h2
 ·subst h2;refine⟨p,p+n,hfh,hhl,Nat.le_refl _,Nat.le_refl _,λ_=>⟨rfl,rfl⟩,λx hx=>absurd (B4a hx).1 (by omega),λx h3=>by omega,λx hx=>?_,λx hx=>absurd (B4a hx).1 (by omega),λx hx=>absurd (B4a hx).1 (by omega),λi x hi hx=>?_,λi x hi hx=>?_⟩
  ·obtain⟨i,hi,hx⟩:=b8a hx;exact absurd (B4a hx).1 (by omega)
  ·have:=f0 i x hi hx;omega
  ·have:=h1 i x hi hx;omega
 ·have hx:l[f]? = some l[f]:=List.getElem?_eq_getElem (by omega);have hy:l[h-1]? = some l[h-1]:=List.getElem?_eq_getElem (by omega);refine⟨min p l[f].1,max (p+n) (l[h-1].1+l[h-1].2.2.1),hfh,hhl,Nat.min_le_left _ _,Nat.le_max_left _ _,λh3=>by omega,λx h3=>?_,λx _ h3=>?_,λx h3=>?_,λx h3=>?_,λx h3=>?_,λi x hi h3=>?_,λi x hi h3=>?_⟩
  ·obtain⟨_,h4⟩:=B4a h3;rw[Nat.add_zero,hx] at h4;injection h4 with h4
   rw[h4]
  ·obtain⟨_,h4⟩:=B4a h3;rw[show f+(h-f-1)=h-1 by omega,hy] at h4;injection h4 with h4
   rw[h4]
  ·obtain⟨i,hi,h4⟩:=b8a h3;obtain⟨h5,h6⟩:=B4a h4;have h7:=pos x (List.mem_of_getElem? h6);have h8:l[f].1<=x.1:=by
    rcases Nat.eq_zero_or_pos i with h9 | h9
    ·subst h9;rw[Nat.add_zero,hx] at h6;injection h6 with h6
     rw[h6];exact Nat.le_refl _
    ·have:=lt f (f+i) _ _ hx h6 (by omega);omega
   have h9:x.1+x.2.2.1<=l[h-1].1+l[h-1].2.2.1:=by
    rcases Nat.eq_or_lt_of_le (show f+i<=h-1 by omega) with h9 | h9
    ·rw[h9,hy] at h6;injection h6 with h6
     rw[h6];exact Nat.le_refl _
    ·have:=lt _ _ _ _ h6 hy h9;omega
   refine⟨?_,?_,h7⟩<;>omega
  ·have:=f1 _ x (Nat.le_add_right f 0) (B4a h3).2;omega
  ·obtain⟨h4,h5⟩:=B4a h3;have:=h0 _ x h4 h5;omega
  ·have h4:=f0 i x hi h3;have h5:=lt i f _ _ h3 hx hi;omega
  ·have h4:=h1 i x hi h3;have h5:=lt (h-1) i _ _ hy h3 (by omega);omega
theorem V4b{n i:Nat}(h:i<n):(List.replicate n true).getD i false=true:=by rw[List.getD_eq_getElem?_getD,List.getElem?_replicate,if_pos h];rfl
theorem c5c.can{B:List Int}{Z:List Bool}{l:List O2a}{p n f h a t:Nat}(r:c5c l p n f h a t)(k:Can B (mark Z) (g4a l))(hlen:∀x∈l,x.2.2.2.2.length=x.2.2.1)(hz:∀i,¬mark Z i->B.getD i 0=0)(hBZ:B.length=Z.length)
{ox:List Int}(hox:ox.length=n)(hn:0<n)(hj:Option Addr)(m:Nat)(c:Nat) :
  Can (N3a 0 B p ox) (mark (N3a false Z p (List.replicate n true))) (g4a (l.take f++[((a,hj,m,c,N3b (n3a a (t-a) ((l.take h).drop f) (h-f)) (p-a) ox):O2a)]++l.drop h))/\
  (N3b (n3a a (t-a) ((l.take h).drop f) (h-f)) (p-a) ox).length=t-a:=by
 have hap:=r.ap;have hpt:=r.pt;have hsub:∀x∈(l.take h).drop f,x∈l:=λx hx=>List.mem_of_mem_take (List.mem_of_mem_drop hx)
 have hfit:∀x∈(l.take h).drop f,a<=x.1/\x.1-a+x.2.2.2.2.length<=t-a:=λx hx=>by obtain⟨h1,h2,h3⟩:=r.fit x hx;rw[hlen x (hsub x hx)];omega
 have hjl:=W5a (a:=a) (N:=t-a) (λx hx=>(hfit x hx).2) (h-f);have hXl:(N3b (n3a a (t-a) ((l.take h).drop f) (h-f)) (p-a) ox).length=t-a:=by rw[J7b (by rw[hjl,hox];omega),hjl]
 have ends:∀x∈l,x.1+x.2.2.1<=B.length:=λx hx=>by have:=k.ends _ (G3a hx);rw[<-hlen x hx];exact this
 have htB:t<=(N3a 0 B p ox).length:=by
  rw[f2a,hox];rcases Nat.eq_zero_or_pos (h-f) with h0 | h0
  ·have:=(r.none h0).2;omega
  ·obtain⟨y,hx⟩:∃y,((l.take h).drop f)[h-f-1]? = some y:=⟨_,List.getElem?_eq_getElem (show h-f-1<_ by rw[O3b r.hl];omega)⟩;have h1:=r.lst _ h0 hx;have h2:=ends _ (List.mem_of_getElem? (B4a hx).2);omega
 have hX:N3b (n3a a (t-a) ((l.take h).drop f) (h-f)) (p-a) ox=((N3a 0 B p ox).drop a).take (t-a):=by
  refine d9a (z:=0) (by rw[hXl,o1b _ _ _ (by omega)]) λi hi=>?_
  rw[hXl] at hi;rw[N7a _ _ _ _ hi,K7b (by rw[hjl,hox];omega),O5a,hox];by_cases hin:p<=a+i/\a+i<p+n
  ·rw[if_pos (by omega),if_pos hin,show i-(p-a)=a+i-p by omega]
  ·rw[if_neg (by omega),if_neg hin];obtain⟨j1,j2⟩:=U4b (B:=B) hfit (λx hx i hi=>k.at (G3a (hsub x hx)) hi) i hi (h-f);by_cases hc:∃k x,k<h-f/\((l.take h).drop f)[k]? = some x/\x.1<=a+i/\a+i<x.1+x.2.2.2.2.length
   ·exact j1 hc
   ·rw[j2 λk x h1 h2 h3=>hc ⟨k,x,h1,h2,h3⟩];refine(hz _ λhm=>?_).symm;obtain⟨e,he,h1,h2⟩:=(k.cover _).1 hm;obtain⟨j,hj,hje⟩:=b8a he;obtain⟨x,hx,rfl⟩:=w6a hje;have h2:a+i<x.1+x.2.2.2.2.length:=h2;rw[hlen x (List.mem_of_getElem? hx)] at h2;rcases Nat.lt_or_ge j f with h3 | h3
    ·have:=r.lo j x h3 hx;omega
    ·rcases Nat.lt_or_ge j h with h4 | h4
     ·exact hc ⟨j-f,x,by omega,m6b h3 h4 hx,h1,by rw[hlen x (List.mem_of_getElem? hx)];exact h2⟩
     ·have:=r.hi j x h4 hx;have h1:x.1<=a+i:=h1;omega
 refine⟨?_,hXl⟩;have hext:g4a (l.take f++[((a,hj,m,c,N3b (n3a a (t-a) ((l.take h).drop f) (h-f)) (p-a) ox):O2a)]++l.drop h)=(g4a l).take f++[(a,N3b (n3a a (t-a) ((l.take h).drop f) (h-f)) (p-a) ox)]++(g4a l).drop h:=by unfold g4a;rw[List.map_append,List.map_append,List.map_take,List.map_drop];rfl
 rw[hext];refine k.put r.fh (by omega) htB (by rw[f2a];omega) hX (λi e hi he=>?_) (λi e hi he=>?_) (λi e h1 h2 he=>?_) (λi=>?_) (λi hi hiB=>?_)
 ·obtain⟨x,hx,rfl⟩:=w6a he;show x.1+x.2.2.2.2.length<a
  rw[hlen x (List.mem_of_getElem? hx)];exact r.lo i x hi hx
 ·obtain⟨x,hx,rfl⟩:=w6a he;exact r.hi i x hi hx
 ·obtain⟨x,hx,rfl⟩:=w6a he;have:=r.fit x (List.mem_of_getElem? (m6b h1 h2 hx));show a<=x.1/\x.1+x.2.2.2.2.length<=t
  rw[hlen x (List.mem_of_getElem? hx)];omega
 ·have hmk:mark (N3a false Z p (List.replicate n true)) i↔(p<=i/\i<p+n)∨mark Z i:=by
   unfold mark;rw[O5a,List.length_replicate];by_cases h1:p<=i/\i<p+n
   ·rw[if_pos h1,V4b (by omega)];exact⟨λ_=>.inl h1,λ_=>rfl⟩
   ·rw[if_neg h1];exact⟨λh=>.inr h,λh=>h.resolve_left h1⟩
  rw[hmk];constructor
  ·rintro(h1 | h1)
   ·exact .inl (by omega)
   ·exact .inr h1
  ·rintro(h1 | h1)
   ·by_cases h2:p<=i/\i<p+n
    ·exact .inl h2
    ·refine .inr ((k.cover i).2 ?_);rcases Nat.eq_zero_or_pos (h-f) with h0 | h0
     ·have:=r.none h0;omega
     ·obtain⟨x,hx⟩:∃y,((l.take h).drop f)[0]? = some y:=⟨_,List.getElem?_eq_getElem (show 0<_ by rw[O3b r.hl];omega)⟩;obtain⟨y,hy⟩:∃y,((l.take h).drop f)[h-f-1]? = some y:=⟨_,List.getElem?_eq_getElem (show h-f-1<_ by rw[O3b r.hl];omega)⟩;have h3:=r.fst _ hx;have h4:=r.lst _ h0 hy;have h5:=hlen _ (List.mem_of_getElem? (B4a hx).2);have h6:=hlen _ (List.mem_of_getElem? (B4a hy).2);have h8:=r.tf _ hx;have h9:=r.tl _ hy;rcases Nat.lt_or_ge i p with h7 | h7
      ·refine⟨_,G3a (List.mem_of_getElem? (B4a hx).2),?_,?_⟩
       ·show x.1<=i
        omega
       ·show i<x.1+x.2.2.2.2.length
        omega
      ·refine⟨_,G3a (List.mem_of_getElem? (B4a hy).2),?_,?_⟩
       ·show y.1<=i
        omega
       ·show i<y.1+y.2.2.2.2.length
        omega
   ·exact .inr h1
 ·rw[O5a,if_neg (by rw[hox];omega)]
theorem L7b{Z:List Bool}{s i:Nat}:mark (y1a false Z s) i↔i<s/\mark Z i:=by
 unfold mark;by_cases h:i<s
 ·rw[H8a h];exact⟨λh1=>⟨h,h1⟩,λh1=>h1.2⟩
 ·refine⟨λh1=>?_,λh1=>absurd h1.1 h⟩;have:=z4c (Z:=y1a false Z s) h1;rw[h1a] at this;exact absurd this h
theorem q3c{B:List Int}{Z:List Bool}{s:Nat}(hz:∀i,¬mark Z i->B.getD i 0=0):∀i,¬mark (y1a false Z s) i->(y1a 0 B s).getD i 0=0:=λi hi=>by
 by_cases h:i<s
 ·rw[H8a h];exact hz i λhm=>hi (L7b.2 ⟨h,hm⟩)
 ·rw[List.getD_eq_getElem?_getD,List.getElem?_eq_none (by rw[h1a];omega)];rfl
theorem r3c{B:List Int}{Z:List Bool}{p n:Nat}{ox:List Int}(hox:ox.length=n)(hz:∀i,¬mark Z i->B.getD i 0=0):∀i,¬mark (N3a false Z p (List.replicate n true)) i->(N3a 0 B p ox).getD i 0=0:=λi hi=>by
 unfold mark at hi;rw[O5a,List.length_replicate] at hi;rw[O5a,hox];by_cases h:p<=i/\i<p+n
 ·rw[if_pos h,V4b (by omega)] at hi;exact absurd rfl hi
 ·rw[if_neg h] at hi⊢;exact hz i hi
theorem Can.cut_map{B:List Int}{P:Nat->Prop}{l l':List O2a}(k:Can B P (g4a l))(hlen:∀x∈l,x.2.2.2.2.length=x.2.2.1){f s:Nat}(hfl:f<=l.length)(f0:∀(i:Nat) x,i<f->l[i]? = some x->x.1<s)
(hl':l'.length=f)(h1:∀i x,i+1<f->l[i]? = some x->l'[i]? = some x)(h2:∀x,0<f->l[f-1]? = some x->∃y,l'[f-1]? = some y/\y.1=x.1/\y.2.2.2.2=x.2.2.2.2.take (s-x.1)) :
  g4a l'=((g4a l).take f).map λe=>(e.1,e.2.take (s-e.1)):=by
 refine List.ext_getElem? λi=>?_
 rw[List.getElem?_map,List.getElem?_take];by_cases hi:i<f
 ·rw[if_pos hi];have hx:l[i]? = some l[i]:=List.getElem?_eq_getElem (by omega);rw[v3a hx];by_cases hl:i+1<f
  ·rw[v3a (h1 i _ hl hx)];have hy:l[i+1]? = some l[i+1]:=List.getElem?_eq_getElem (by omega);have h3:=k.lt (v3a hx) (v3a hy) (by omega);have h4:=f0 _ _ hl hy;simp only at h3;show some (l[i].1,l[i].2.2.2.2)=some (l[i].1,l[i].2.2.2.2.take (s-l[i].1))
   rw[List.take_of_length_le (by omega)]
  ·obtain rfl:i=f-1:=by omega
   obtain⟨y,hy,e1,e2⟩:=h2 _ (by omega) hx;rw[v3a hy,e1,e2];rfl
 ·rw[if_neg hi,List.getElem?_eq_none (by rw[F4b];omega)];rfl
theorem Can.cutP{B:List Int}{Z:List Bool}{l l':List O2a}(k:Can B (mark Z) (g4a l)){f s:Nat}(f0:∀(i:Nat) x,i<f->l[i]? = some x->x.1<s)(f1:∀(i:Nat) x,f<=i->l[i]? = some x->s<=x.1)
(hm:g4a l'=((g4a l).take f).map λe=>(e.1,e.2.take (s-e.1))):Can (y1a 0 B s) (mark (y1a false Z s)) (g4a l'):=by
 rw[hm];refine k.cutOff (λi e hi he=>?_) (λi e hi he=>?_) (by rw[h1a];exact Nat.le_refl _) (λi=>L7b) λi hi=>H8a hi
 ·obtain⟨x,hx,rfl⟩:=w6a he;exact f0 i x hi hx
 ·obtain⟨x,hx,rfl⟩:=w6a he;exact f1 i x hi hx
def n6b(p t:Nat)(x:O2a):O2a:=(max p x.1,none,0,0,(x.2.2.2.2.drop (max p x.1-x.1)).take (min t (x.1+x.2.2.1)-max p x.1))
def t1b(p N:Nat)(lo:List O2a)(j:Nat):List Int:=n3a p N (lo.map (n6b p (p+N))) j
theorem t8b{p N:Nat}{lo:List O2a}{j:Nat}{x:O2a}(h:lo[j]? = some x):t1b p N lo (j+1)=N3b (t1b p N lo j) (max p x.1-p) ((x.2.2.2.2.drop (max p x.1-x.1)).take (min (p+N) (x.1+x.2.2.1)-max p x.1)):=by unfold t1b;rw[O7a (x:=n6b p (p+N) x) (by rw[List.getElem?_map,h];rfl)];rfl
structure A5c (l:List O2a) (p N f h:Nat):Prop where
 fh:f<=h
 meet:∀x∈(l.take h).drop f,max p x.1<min (p+N) (x.1+x.2.2.1)
theorem j5c{B:List Int}{P:Nat->Prop}{l:List O2a}(k:Can B P (g4a l))(hlen:∀x∈l,x.2.2.2.2.length=x.2.2.1)(hz:∀i,¬P i->B.getD i 0=0){p N f h:Nat}(hN:0<N)(hB:p+N<=B.length)(hfl:f<=l.length)(hhl:h<=l.length)
(f0:∀(i:Nat) x,i<f->l[i]? = some x->¬(p:Int)<((x.1+x.2.2.1:Nat):Int))(f1:∀(i:Nat) x,f<=i->l[i]? = some x->(p:Int)<((x.1+x.2.2.1:Nat):Int))
(h0:∀(i:Nat) x,i<h->l[i]? = some x->¬((p+N:Nat):Int)<=(x.1:Int))(h1:∀(i:Nat) x,h<=i->l[i]? = some x->((p+N:Nat):Int)<=(x.1:Int)) :
  A5c l p N f h/\(∀j,(t1b p N ((l.take h).drop f) j).length=N)/\t1b p N ((l.take h).drop f) (h-f)=(B.drop p).take N:=by
 have pos:∀x∈l,0<x.2.2.1:=λx hx=>by rw[<-hlen x hx];exact List.length_pos_iff.2 (k.full (x.1,x.2.2.2.2) (G3a hx))
 have hfh:f<=h:=by
  rcases Nat.lt_or_ge h f with h2 | h2
  ·have hx:l[h]? = some l[h]:=List.getElem?_eq_getElem (by omega);have h3:=f0 h _ h2 hx;have h4:=h1 h _ (Nat.le_refl _) hx;have h5:=pos _ (List.mem_of_getElem? hx);omega
  ·exact h2
 have hmeet:∀x∈(l.take h).drop f,max p x.1<min (p+N) (x.1+x.2.2.1):=λx hx=>by obtain⟨i,hi,h4⟩:=b8a hx;obtain⟨h5,h6⟩:=B4a h4;have h7:=pos x (List.mem_of_getElem? h6);have h8:=f1 _ x (Nat.le_add_right f i) h6;have h9:=h0 _ x h5 h6;omega
 have hsub:∀x∈(l.take h).drop f,x∈l:=λx hx=>List.mem_of_mem_take (List.mem_of_mem_drop hx)
 have clen:∀x∈(l.take h).drop f,(n6b p (p+N) x).2.2.2.2.length=min (p+N) (x.1+x.2.2.1)-max p x.1:=λx hx=>by
  have h2:=hmeet x hx;have h3:=hlen x (hsub x hx);show((x.2.2.2.2.drop _).take _).length=_
  rw[List.length_take,List.length_drop];omega
 have hfit:∀x∈((l.take h).drop f).map (n6b p (p+N)),p<=x.1/\x.1-p+x.2.2.2.2.length<=N:=λy hy=>by
  obtain⟨x,hx,rfl⟩:=List.mem_map.1 hy;have h2:=hmeet x hx;rw[clen x hx];show p<=max p x.1/\max p x.1-p+_<=N
  omega
 have hcB:∀x∈((l.take h).drop f).map (n6b p (p+N)),∀i,i<x.2.2.2.2.length->x.2.2.2.2.getD i 0=B.getD (x.1+i) 0:=λy hy i hi=>by
  obtain⟨x,hx,rfl⟩:=List.mem_map.1 hy;rw[clen x hx] at hi;have h2:=hmeet x hx;have h3:=hlen x (hsub x hx);show((x.2.2.2.2.drop (max p x.1-x.1)).take (min (p+N) (x.1+x.2.2.1)-max p x.1)).getD i 0=B.getD (max p x.1+i) 0
  rw[N7a _ _ _ _ hi];have h4:=k.at (G3a (hsub x hx)) (i:=max p x.1-x.1+i) (by show _<x.2.2.2.2.length;omega);rw[show(x.1,x.2.2.2.2).1+(max p x.1-x.1+i)=max p x.1+i from by show x.1+_=_;omega] at h4;exact h4
 refine⟨⟨hfh,hmeet⟩,λj=>W5a (λx hx=>(hfit x hx).2) j,?_⟩;refine d9a (z:=0) (by rw[o1b _ _ _ hB];exact W5a (λx hx=>(hfit x hx).2) _) λi hi=>?_
 have hi:i<N:=by have:=W5a (λx hx=>(hfit x hx).2) (h-f);unfold t1b at hi;omega
 rw[N7a _ _ _ _ hi];obtain⟨j1,j2⟩:=U4b hfit hcB i hi (h-f);by_cases hc:∃k x,k<h-f/\(((l.take h).drop f).map (n6b p (p+N)))[k]? = some x/\x.1<=p+i/\p+i<x.1+x.2.2.2.2.length
 ·exact j1 hc
 ·unfold t1b;rw[j2 λk x h1 h2 h3=>hc ⟨k,x,h1,h2,h3⟩];refine(hz _ λhm=>?_).symm;obtain⟨e,he,g1,g2⟩:=(k.cover _).1 hm;obtain⟨j,hj,hje⟩:=b8a he;obtain⟨x,hx,rfl⟩:=w6a hje;have g1:x.1<=p+i:=g1;have g2:p+i<x.1+x.2.2.2.2.length:=g2;rw[hlen x (List.mem_of_getElem? hx)] at g2;rcases Nat.lt_or_ge j f with h3 | h3
  ·have:=f0 j x h3 hx;omega
  ·rcases Nat.lt_or_ge j h with h4 | h4
   ·have hs:=m6b h3 h4 hx;have hms:=List.mem_of_getElem? hs;refine hc ⟨j-f,n6b p (p+N) x,by omega,by rw[List.getElem?_map,hs];rfl,?_,?_⟩
    ·show max p x.1<=p+i
     omega
    ·rw[clen x hms];show p+i<max p x.1+_
     have:=hmeet x hms;omega
   ·have:=h1 j x h4 hx;omega
theorem c8a{P:Program}{ops:Array Oper}{S:World->Prop}{op:Oper}{a:Act}(hw:Region.wanted op (yielded ops a.tmps)=true)(T:TypeId)(x lo hi:Operand)(ho:op.op=.slice T x (some lo) (some hi) none)(u l h v:Value)(hx:a.eval x=u)(hl:a.eval lo=l)(hh:a.eval hi=h)
(hf:∀w,(Instr.sliceAt T u (some l) (some h) none).run P w=.ok v w):YieldsIf P ops S op v a:=
 .inl ⟨hw,λw _=>by unfold execOp;simp only[ho,hx,hl,hh,Option.map_some,Option.map_none,Sem.run_bind,hf,Result.andThen_ok,Sem.run_pure]⟩
theorem W4b(w:World)(B:Nat)(A:Option Addr)(n c f h:Nat)(l:List O2a)(hl:U1b w B A n c l)(hfh:f<=h)(hhn:h<=n)(hc:c<=maxLen) :
  ∃A5 c5,(∀w,(Instr.sliceAt 154 (.slice A n c) (some (.int .i64 (f:Nat))) (some (.int .i64 (h:Nat))) none).run Tryz.prog w=.ok (.slice A5 (h-f) c5) w)/\U1b w B A5 (h-f) c5 ((l.take h).drop f):=by
 have hlen:=hl.len;have hnc:=hl.row.fit;unfold maxLen at hc;have e1:(h:Int)<=(c:Int):=by omega
 have e2:(f:Int)<=(h:Int):=by omega
 have hll:((l.take h).drop f).length=h-f:=by rw[List.length_drop,List.length_take];omega
 have heach:∀x∈(l.take h).drop f,Holds w B x.2.1 x.2.2.1 x.2.2.2.1 x.2.2.2.2:=λx hx=>hl.each x (List.mem_of_mem_take (List.mem_of_mem_drop hx))
 rcases A with _ | ad
 ·have h0:=hl.row.bare rfl;obtain rfl:n=0:=by omega
  obtain rfl:h=0:=by omega
  obtain rfl:f=0:=by omega
  subst h0;refine⟨none,0,λw=>by go_simp,⟨hll,Nat.le_refl _,λ_=>rfl,λh=>absurd h (Nat.lt_irrefl _)⟩,heach⟩
 ·obtain⟨g,off,sp⟩:=ad;by_cases hcf:c=f
  ·obtain rfl:h=f:=by omega
   have hcf':c=h:=hcf;refine⟨some ⟨g,off,sp⟩,0,λw=>by go_simp,⟨hll,by omega,λh=>(by cases h),λh=>absurd h (by omega)⟩,heach⟩
  ·have hn0:0<n∨n=0:=by omega
   rcases hn0 with hn0 | hn0
   ·obtain⟨b',off',e,hb,hcl⟩:=hl.row.cells hn0;injection e with e
    injection e with e3 e4 e5
    subst e3 e4 e5;refine⟨some ⟨g,off+f*2,none⟩,c-f,λw=>by go_simp,⟨hll,by omega,λh=>(by cases h),λh0=>⟨g,off+f*2,rfl,hb,λi x hi j u hj=>?_⟩⟩,heach⟩;obtain⟨h1,h2⟩:=B4a hi;have:=hcl _ _ h2 _ _ hj;rw[show off+f*2+(i*2+j)=off+((f+i)*2+j) by omega];exact this
   ·obtain rfl:h=0:=by omega
    obtain rfl:f=0:=by omega
    subst hn0;refine⟨some ⟨g,off,sp⟩,c,λw=>by go_simp,⟨hll,by omega,λh=>(by cases h),λh=>absurd h (Nat.lt_irrefl _)⟩,heach⟩
theorem Row.ownZ{w:World}{g base n:Nat}{xs:List Int}(h:Row w g xs)(hb:base<=g)(hn:xs.length=n)(hm:n<=maxLen):E5a .u8 5 w base (.slice (some ⟨g,0,none⟩) n n) xs:=.inr ⟨g,0,by rw[hn];rfl,hb,by rw[hn];exact hm,by rw[List.replicate_zero,List.append_nil];exact h⟩
theorem J5a.lens{w:World}{base q:Nat}{v:Value}{l:List O2a}{B:List Int}{Z:List Bool}(h:J5a w base q v l B Z):∀x∈l,x.2.2.2.2.length=x.2.2.1:=by obtain⟨A,n,c,_,hx⟩:=h.lst;exact λx hx'=>(hx.each x hx').len
theorem J5a.ends{w:World}{base q:Nat}{v:Value}{l:List O2a}{B:List Int}{Z:List Bool}(h:J5a w base q v l B Z):∀x∈l,x.1+x.2.2.1<=B.length:=λx hx=>by have:=h.can.ends _ (G3a hx);rw[<-h.lens x hx];exact this
theorem J5a.halfE{w:World}{base q:Nat}{v:Value}{l:List O2a}{B:List Int}{Z:List Bool}(h:J5a w base q v l B Z)(a:Int):∃k,k<=l.length/\(∀(i:Nat) x,i<k->l[i]? = some x->¬a<((x.1+x.2.2.1:Nat):Int))/\∀(i:Nat) x,k<=i->l[i]? = some x->a<((x.1+x.2.2.1:Nat):Int):=by
 obtain⟨k,h1,h2,h3⟩:=W0c (λx:O2a=>decide (a<((x.1+x.2.2.1:Nat):Int))) l λi j x y hij hx hy hp=>by have h4:=h.can.lt (v3a hx) (v3a hy) hij;have h5:=h.lens x (List.mem_of_getElem? hx);have h6:=of_decide_eq_true hp;simp only at h4;exact decide_eq_true (by omega)
 exact⟨k,h1,λi x hi hx=>of_decide_eq_false (h2 i x hi hx),λi x hi hx=>of_decide_eq_true (h3 i x hi hx)⟩
theorem J5a.halfB{w:World}{base q:Nat}{v:Value}{l:List O2a}{B:List Int}{Z:List Bool}(h:J5a w base q v l B Z)(a:Int):∃k,k<=l.length/\(∀(i:Nat) x,i<k->l[i]? = some x->¬a<=(x.1:Int))/\∀(i:Nat) x,k<=i->l[i]? = some x->a<=(x.1:Int):=by
 obtain⟨k,h1,h2,h3⟩:=W0c (λx:O2a=>decide (a<=(x.1:Int))) l λi j x y hij hx hy hp=>by have h4:=h.can.lt (v3a hx) (v3a hy) hij;have h6:=of_decide_eq_true hp;simp only at h4;exact decide_eq_true (by omega)
 exact⟨k,h1,λi x hi hx=>of_decide_eq_false (h2 i x hi hx),λi x hi hx=>of_decide_eq_true (h3 i x hi hx)⟩
def Z0c(w:World)(B:List Int)(a k:Int)(e:Ending)(w':World):Prop:=∃v,e=.returned (.tuple #[v,.int .i64 (G4a B.length a k)])/\E5a .u8 5 w' w.heap.size v (d0b B a k)/\Below w.heap.size w w'
theorem b1c(w:World)(base q:Nat)(v:Value)(l:List O2a)(B:List Int)(Z:List Bool)(d:J5a w base q v l B Z)(a k:Int)(ha:-9223372036854775808<=a/\a<=9223372036854775807)(hk:-9223372036854775808<=k/\k<=9223372036854775807) :
  Calls Tryz.prog 63 #[ptr q,.int .i64 a,.int .i64 k] w (Z0c w B a k):=by
 unfold Z0c ptr;have hsm:=d.small;have q0:w.cell? ⟨q,0,none⟩=some (.bool true):=d.blk.cell 0;have q1:w.cell? ⟨q,1,none⟩=some (.int .i64 (B.length:Nat)):=d.blk.cell 1;have hE:G4a B.length a k=if a<0∨k<0 then 2 else if k=0 then 0 else if (B.length:Int)<=a then 22 else 0:=rfl
 have hO:d0b B a k=if G4a B.length a k=0 then (B.drop a.toNat).take k.toNat else []:=rfl
 obtain⟨a0,a1⟩:=ha;obtain⟨k0,k1⟩:=hk;have CN:=hI (M3b w q q0);obtain⟨L,hL⟩:∃n,n=B.length:=⟨_,rfl⟩;rw[<-hL] at hE hO q1 hsm⊢;rw[hO];have D:=hI d;have HLL:=hI hL;clear d hO hL;by_cases h1:a<0
 ·rw[if_pos (.inl h1)] at hE;rw[hE,if_neg (by decide)];clear hE;go_enter Tryz.func63,Tryz.ntmps63;go_wp2_with fail;refine CN.out.mono ?_;rintro e w1 ⟨rfl,rfl⟩;go_wp2_with fail;go_ret2;exact⟨_,rfl,E5a.nil _ _ _ _,Below.refl _ _⟩
 ·by_cases h2:k<0
  ·rw[if_pos (.inr h2)] at hE;rw[hE,if_neg (by decide)];clear hE;go_enter Tryz.func63,Tryz.ntmps63;go_wp2_with fail;refine CN.out.mono ?_;rintro e w1 ⟨rfl,rfl⟩;go_wp2_with fail;go_ret2;exact⟨_,rfl,E5a.nil _ _ _ _,Below.refl _ _⟩
  ·rw[if_neg (by omega)] at hE;by_cases h3:k=0
   ·subst h3;rw[if_pos rfl] at hE;rw[hE,if_pos rfl];clear hE;have hq:(B.drop a.toNat).take (0:Int).toNat=[]:=by simp
    rw[hq];go_enter Tryz.func63,Tryz.ntmps63;go_wp2_with fail;refine CN.out.mono ?_;rintro e w1 ⟨rfl,rfl⟩;go_wp2_with fail;go_ret2;exact⟨_,rfl,E5a.nil _ _ _ _,Below.refl _ _⟩
   ·rw[if_neg h3] at hE;have hk3:(k==0)=false:=by simpa using h3
    by_cases h4:(L:Int)<=a
    ·rw[if_pos h4] at hE;rw[hE,if_neg (by decide)];clear hE;go_enter Tryz.func63,Tryz.ntmps63;go_wp2_with fail;refine CN.out.mono ?_;rintro e w1 ⟨rfl,rfl⟩;go_wp2_with fail;go_ret2;exact⟨_,rfl,E5a.nil _ _ _ _,Below.refl _ _⟩
    ·rw[if_neg h4] at hE;rw[hE,if_pos rfl];clear hE;obtain⟨p,rfl⟩:=Int.eq_ofNat_of_zero_le (show 0<=a by omega);obtain⟨kn,rfl⟩:=Int.eq_ofNat_of_zero_le (show 0<=k by omega);rw[Int.toNat_natCast,Int.toNat_natCast];obtain⟨r,hr⟩:∃r,r=L-p:=⟨_,rfl⟩;obtain⟨N,hN⟩:∃N,N=min kn r:=⟨_,rfl⟩;obtain⟨t,ht⟩:∃t,t=p+N:=⟨_,rfl⟩;have hsub:(L:Int)-(p:Int)=(r:Int):=by omega
     have hmin:min (kn:Int) (r:Int)=(N:Int):=by omega
     have hadd:(p:Int)+(N:Int)=(t:Int):=by omega
     have hwad:IntKind.i64.wrap ((p:Int)+(N:Int))=(t:Int):=by rw[IntKind.wrap_i64];omega
     have htp:(t:Int)-(p:Int)=(N:Int):=by omega
     have hN0:0<N:=by omega
     have hNB:p+N<=L:=by omega
     have hX:(B.drop p).take kn=(B.drop p).take N:=by
      rw[hN];by_cases hq:kn<=r
      ·rw[Nat.min_eq_left hq]
      ·rw[Nat.min_eq_right (by omega),List.take_of_length_le (by rw[List.length_drop];have:=HLL.out;omega),List.take_of_length_le (by rw[List.length_drop];have:=HLL.out;omega)]
     rw[hX];obtain⟨f,hf,f0,f1⟩:=D.out.halfE (p:Int);obtain⟨h,hh,g0,g1⟩:=D.out.halfB (t:Int);rw[ht] at g0 g1;obtain⟨RD,RL,RX⟩:=j5c D.out.can D.out.lens D.out.zero hN0 (by rw[<-HLL.out];exact hNB) hf hh f0 f1 g0 g1;rw[<-ht] at g0 g1;rw[<-RX];have CF:Hid (∀w2,Below w.heap.size w w2->Calls Tryz.prog 111 #[.pointer (some ⟨q,0,none⟩),.int .i64 (p:Nat)] w2 λe w'=>e=.returned (.int .i64 (f:Nat))/\Below w2.heap.size w2 w'):=λw2 hb=>J2b w2 base q v l B Z (D.out.below hb) _ f hf f0 f1
     have CH:Hid (∀w2,Below w.heap.size w w2->Calls Tryz.prog 112 #[.pointer (some ⟨q,0,none⟩),.int .i64 (t:Nat)] w2 λe w'=>e=.returned (.int .i64 (h:Nat))/\Below w2.heap.size w2 w'):=λw2 hb=>s1b w2 base q v l B Z (D.out.below hb) _ h hh g0 g1
     obtain⟨A,n,c,rfl,hx⟩:=D.out.lst;have hnl:=hx.len;have q2:w.cell? ⟨q,2,none⟩=some (.slice A n c):=D.out.blk.cell 2;have hcm:c<=maxLen:=by
      rcases D.out.row.2 with⟨e1,_⟩ | ⟨_,cap,_,e1,_,_,_,e2,_⟩
      ·injection e1 with _ _ e3
       rw[e3];exact Nat.zero_le _
      ·injection e1 with _ _ e3
       rw[e3];exact e2
     obtain⟨A5,c5,hsl,hlo⟩:=W4b w w.heap.size A n c f h l hx RD.fh (by omega) hcm;have HSL:=hI hsl;have HLO:=hI hlo;have hhn:h<=n:=by omega
     have hn65:n<=65536:=by have:=D.out.lenS;omega
     have MEET:=hI RD.meet;have ENDS:Hid (∀x∈(l.take h).drop f,x.1+x.2.2.1<=L/\x.2.2.1<=x.2.2.2.1):=λx hx'=>by have hm:=List.mem_of_mem_take (List.mem_of_mem_drop hx');exact⟨by rw[HLL.out];exact D.out.ends x hm,(hx.each x hm).fit⟩
     obtain⟨lo,hlo'⟩:∃lo,lo=(l.take h).drop f:=⟨_,rfl⟩;rw[<-hlo'] at HLO RL MEET ENDS⊢;have HRL:=hI RL;clear hsl hlo hlo' hx hX RX RL RD f0 f1 g0 g1 hN hr ht D hf hh;have ZX:=hI i7a;go_enter Tryz.func63,Tryz.ntmps63;go_wp2_with fail;refine CN.out.mono ?_;rintro e w1 ⟨rfl,rfl⟩;go_upto_region 11 with(first
      | ((with_reducible refine sN 46 ?_);go_loud (refine x3a _ rfl (.tmp 45) (.tmp 45) rfl _ _ N rfl rfl rfl rfl (by omega) ?_);intro w2 R2 l2)
      | fail)
     obtain⟨hb,hhb⟩:∃x,x=w.heap.size:=⟨_,rfl⟩;have L2:=hI l2;have k2:w2.cell? ⟨q,2,none⟩=some (.slice A n c):=(l2.cell (lt_of_cell q2)).trans q2;rw[<-hhb] at R2⊢;have hwb:Hid (w.heap.size<=hb):=by rw[hhb];exact Nat.le_refl _
     have hbs:Hid (hb<w2.heap.size):=R2.out.lt;clear l2 hhb;refine wp_region_held (S:=λw'=>w'.cell? ⟨q,2,none⟩=some (.slice A n c)) (by kernel_rfl) ?_;change wpAnyH _ _ _ _ _ _ _ _ w2.drew
     have Sr0:Hid (w2.drew.cell? ⟨q,2,none⟩=some (.slice A n c)):=k2;have br0:Hid (True):=trivial;refine tK 0 _ rfl (a0a (by kernel_rfl) (.tmp 0) rfl (.pointer (some ⟨q,0,none⟩)) (by kernel_rfl)) Sr0.out ?_;refine tK 1 _ rfl (p0a (by kernel_rfl) (.tmp 47) rfl ⟨q,0,none⟩ (by kernel_rfl)) Sr0.out ?_;refine tK 2 _ rfl (e0a (by kernel_rfl) _ (.tmp 48) 2 rfl (.pointer (some ⟨q,0,none⟩)) (.pointer (some ⟨q,2,none⟩)) (by kernel_rfl) (λw=>by go_simp)) Sr0.out ?_;refine tK 3 _ rfl (b0a (by kernel_rfl) _ (.tmp 49) rfl q (2) (by kernel_rfl) (.slice A n c) (λ_ h=>h) _ Tryz.underlying154 rfl) Sr0.out ?_;refine tK 4 _ rfl (a0a (by kernel_rfl) (.tmp 0) rfl (.pointer (some ⟨q,0,none⟩)) (by kernel_rfl)) Sr0.out ?_;refine tK 5 _ rfl (a0a (by kernel_rfl) (.tmp 1) rfl (.int .i64 (p:Nat)) (by kernel_rfl)) Sr0.out ?_;refine tK 7 _ rfl (a0a (by kernel_rfl) (.tmp 0) rfl (.pointer (some ⟨q,0,none⟩)) (by kernel_rfl)) Sr0.out ?_;refine tK 8 _ rfl (a0a (by kernel_rfl) (.tmp 8) rfl (.int .i64 (t:Nat)) (by kernel_rfl)) Sr0.out ?_;refine tK 12 (.int .i64 0) rfl (.inl ⟨by kernel_rfl,λw _=>by go_simp⟩) Sr0.out ?_;refine oN 6 _ rfl λK hK=>?_
     go_simp;refine(CF.out _ L2.out.drew).mono ?_;rintro e vr1 ⟨rfl,l3⟩;have Sr1:Hid (vr1.cell? ⟨q,2,none⟩=some (.slice A n c)):=(l3.cell (lt_of_cell Sr0.out)).trans Sr0.out;have br1:Hid (True):=trivial;have L3:=hI (L2.out.drew.trans (l3.mono L2.out.drew.size));have K3:=hI ((Below.refl w2.heap.size w2).drew.trans l3);clear l3;refine hK _ _ Sr1.out ?_;clear hK K;refine oN 9 _ rfl λK hK=>?_
     go_simp;refine(CH.out _ L3.out).mono ?_;rintro e vr2 ⟨rfl,l4⟩;have Sr2:Hid (vr2.cell? ⟨q,2,none⟩=some (.slice A n c)):=(l4.cell (lt_of_cell Sr1.out)).trans Sr1.out;have br2:Hid (True):=trivial;have L4:=hI (L3.out.trans (l4.mono L3.out.size));have K24:=hI (K3.out.trans (l4.mono K3.out.size));clear l4;refine hK _ _ Sr2.out ?_;clear hK K;refine tK 10 _ rfl (c8a (by kernel_rfl) _ (.tmp 50) (.tmp 53) (.tmp 56) rfl (.slice A n c) (.int .i64 (f:Nat)) (.int .i64 (h:Nat)) (.slice A5 (h-f) c5) (by kernel_rfl) (by kernel_rfl) (by kernel_rfl) HSL.out) Sr2.out ?_;refine tK 11 (.int .i64 ((h-f:Nat):Int)) rfl (.inl ⟨by kernel_rfl,λw _=>by go_simp⟩) Sr2.out ?_;refine dN ?_;have R4:=hI (R2.out.below K24.out hbs.out);clear R2 L2 L3 Sr1 Sr2 q2 k2;go_simp;go_wp2_with fail;go_loopw [11,12,59] (λ_ _ I wr=>∃i:Nat,i<=h-f/\I=.int .i64 (i:Nat)/\Hid (Row wr hb (t1b p N lo i))/\Hid (Below w.heap.size w wr)/\Hid (hb<wr.heap.size)) (λ_ _ I _=>(h-f)-(intOf I).toNat)
     case atStart=>exact⟨0,Nat.zero_le _,rfl,R4,L4,R4.out.lt⟩
     case round=>
      obtain⟨i,hi,rfl,RR,LR,SR⟩:=hrel;by_cases hlt:i<h-f
      ·obtain⟨bb,oo,x,rfl,hbb,hx,k0,k1,hy⟩:=(HLO.out.below LR.out).at hlt;have hmx:=List.mem_of_getElem? hx;have hmt:=MEET.out x hmx;obtain⟨hen,hxc⟩:=ENDS.out x hmx;have hjs:=t8b (p:=p) (N:=N) hx;have hjl:=HRL.out i;obtain⟨xa,xA,xn,xc,px⟩:=x;simp only at hmt hen hxc hjs k0 k1 hy;obtain⟨bx,ox,rfl,hbx,_⟩:=hy.cells (by omega);obtain⟨p0,hp0⟩:∃p0,p0=max p xa:=⟨_,rfl⟩;obtain⟨p1,hp1⟩:∃p1,p1=min t (xa+xn):=⟨_,rfl⟩;rw[<-hp0] at hjs hmt;rw[show min (p+N) (xa+xn)=p1 by omega] at hjs hmt;have CP:=hI fun (w':World)=>I7b w' xa bx ox xn xc p t p0 p1 hxc (by omega) (by omega) (by omega) (by omega) hp0 hp1 hmt
       obtain⟨o,ho⟩:∃o,o=p0-p:=⟨_,rfl⟩;obtain⟨m,hm⟩:∃m,m=p1-p0:=⟨_,rfl⟩;have hy2:=hy.amidE (p:=p0-xa) (N:=m) (by omega) (by omega) m (Nat.le_refl _);obtain⟨ys,hys⟩:∃ys,ys=(px.drop (p0-xa)).take m:=⟨_,rfl⟩;rw[<-hys] at hy2;rw[<-hm,<-hys,<-ho] at hjs;obtain⟨o2,ho2⟩:∃o2,o2=ox+(p0-xa):=⟨_,rfl⟩;rw[<-ho2] at hy2 CP;rw[<-hm] at CP;have hyl:=hy2.len;have HY:=hI hy2;have HJS:=hI hjs;have hwo:IntKind.i64.wrap ((p0:Int)-(p:Int))=(o:Int):=by rw[IntKind.wrap_i64];omega
       have hoN:(o:Int)<=(N:Int):=by omega
       have hNo:¬N=o:=by omega
       have hm0:0<m:=by omega
       have hmN:m<=N-o:=by omega
       have hfit:Hid (o+m<=((t1b p N lo i).map (Value.int .u8)).length):=by show _<=_;rw[List.length_map,hjl];omega
       have KX:Hid (wr.rangeAt bb (oo+i*2) [.int .i64 (xa:Nat),.slice (some ⟨bx,ox,none⟩) xn xc]):=λj v hj=>by
        match j,hj with
        | 0,hj=>injection hj with hj;subst hj;exact k0
        | 1,hj=>injection hj with hj;subst hj;exact k1
       clear hx hmx hjs hjl hy hy2 k0 k1 hys ho hm ho2 hp0 hp1 hmt hen;go_wp2_with(first
        | ((with_reducible refine sN 62 ?_);go_loud (refine wpList_load_mid rfl _ (.tmp 61) rfl bb (oo+i*2) rfl [.int .i64 (xa:Nat),.slice (some ⟨bx,ox,none⟩) xn xc] _ KX.out Tryz.underlying158 rfl (by rw[size_ext];rfl) ?_))
        | ((with_reducible refine sN 11 ?_);go_loud (refine i0a rfl _ rfl [.int .i64 0,.slice none 0 0] _ ZX ?_);intro gx w7 hgx hgx2 X7 L7)
        | ((with_reducible refine sT 11 ?_);go_loud (refine l0a rfl _ (.tmp 11) (.tmp 62) rfl gx rfl _ [.int .i64 0,.slice none 0 0] [.int .i64 (xa:Nat),.slice (some ⟨bx,ox,none⟩) xn xc] rfl X7 2 size_ext rfl rfl (v6a _ _ rfl) ?_);intro w8 X8 O8 hg8)
        | ((with_reducible refine sN 63 ?_);go_loud (refine s3a rfl _ (.tmp 11) rfl gx rfl _ [.int .i64 (xa:Nat),.slice (some ⟨bx,ox,none⟩) xn xc] X8 2 _ Tryz.underlying158 rfl size_ext rfl ?_))
        | fail)
       have k8:Below wr.heap.size wr w8:=r0a L7.out O8.out hgx;refine(CP.out w8).mono ?_;rintro e w9 ⟨rfl,l9⟩;have K9:=hI (k8.trans (l9.mono k8.size));clear X7 X8 O8 L7 k8 l9 KX;go_upto_region 15 with(first
        | ((with_reducible refine sN 12 ?_);go_loud (refine i0a rfl _ rfl [.int .i64 0,.slice none 0 0] _ ZX ?_);intro gy w10 hgy hgy2 Y10 L10)
        | ((with_reducible refine sT 12 ?_);go_loud (refine l0a rfl _ (.tmp 12) (.tmp 66) rfl gy rfl _ [.int .i64 0,.slice none 0 0] [.int .i64 (p0:Nat),.slice (some ⟨bx,o2,none⟩) m m] rfl Y10 2 size_ext rfl rfl (v6a _ _ rfl) ?_);intro w11 Y11 O11 hg11;have e0:w11.cell? ⟨gy,0,none⟩=some (.int .i64 (p0:Nat)):=Y11.out.cell 0;have e1:w11.cell? ⟨gy,1,none⟩=some (.slice (some ⟨bx,o2,none⟩) m m):=Y11.out.cell 1)
        | fail)
       have hs9:=K9.out.size;have k11:Below wr.heap.size wr w11:=r0a (K9.out.trans (L10.out.mono hs9)) O11.out (by omega);have R11:Hid (Blk w11.drew hb 5 ((t1b p N lo i).map (Value.int .u8))):=(RR.out.below k11 SR.out:Row w11 hb (t1b p N lo i));have l11:Below w.heap.size w w11:=LR.out.trans (k11.mono LR.out.size);have HY11:=hI ((HY.out.below (k11.mono LR.out.size)).drew);have L11:=hI l11.drew;have S11:Hid (hb<w11.heap.size):=Nat.lt_of_lt_of_le SR.out k11.size;clear RR LR SR HY K9 L10 Y10 Y11 O11 k11 l11;go_still_tail 8,(by kernel_rfl);change wpList _ _ _ _ _ w11.drew
       go_wp2_with(first
        | ((with_reducible refine sN 75 ?_);go_loud (refine a4a rfl (.tmp 72) (.tmp 74) rfl hb o 5 _ _ m m _ rfl rfl _ ys w.heap.size R11 HY11.out hm0 hmN hfit ?_);intro w12 R12 O12)
        | fail)
       go_roundw
       case rel=>
        refine⟨i+1,by omega,by go_num,?_,r0a L11.out O12.out hwb.out,?_⟩
        ·have:=R12.out;rw[q6a] at this;show Row _ _ _
         rw[HJS.out];exact this
        ·show _<_
         rw[O12.out.size];exact S11.out
       case measure=>simp[intOf];omega
      ·obtain rfl:i=h-f:=by omega
       have hjl:=HRL.out (h-f);go_wp2_with fail;go_ret2;exact⟨_,rfl,RR.out.ownZ hwb.out hjl (by unfold maxLen;omega),LR.out⟩
end Go.Proofs.YtdgpbhdihhchgaaGreatDoor
